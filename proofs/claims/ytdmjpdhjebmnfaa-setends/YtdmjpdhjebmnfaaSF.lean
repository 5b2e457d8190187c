/-
  The walk of the third reference's Fresh.
-/
import Derived.Test.YtdmjpdhjebmnfaaSE
set_option linter.unusedSimpArgs false
set_option linter.unusedVariables false
namespace Go.Proofs.Ytdmjpdhjebmnfaa
open Go.RowKit

/-- Does one of the sets name the string? -/
def namedB (l : List SetV) (t : ByteArray) : Bool := l.any fun S => inStrsB S.strs t
/-- The n-th string that is tried. -/
def tryS (s : ByteArray) (n : Nat) : ByteArray := s ++ ⟨(Lib.itoa (n : Int)).toArray⟩
theorem itoa_short (n : Nat) (h : n ≤ 100000) : (⟨(Lib.itoa (n : Int)).toArray⟩ : ByteArray).size ≤ 20 := by
  rw [Lib.itoa_nonneg]
  have := dec_short n (by omega)
  simpa [ByteArray.size] using this

/-- What Fresh answers. -/
def FreshOut (l : List SetV) (s t : ByteArray) : Prop :=
  (∃ j : Nat, j < 100000 ∧ t = tryS s j ∧ namedB l t = false) ∨ (t = s ∧ ∀ j : Nat, j < 100000 → namedB l (tryS s j) = true)

set_option maxHeartbeats 2000000 in
set_option maxRecDepth 100000 in
theorem refFresh_any (v : Value) (l : List SetV) (s : ByteArray) (w : World) (hv : SetsAt w v l) (hs : s.size ≤ 1000) :
    Calls Try.prog 32 #[v, .string s] w fun r w' => (∃ t, r = .returned (.string t) ∧ FreshOut l s t) ∧ Below w.heap.size w w' := by
  have HV := hide hv
  obtain ⟨hlen, a, cap, rfl, hel⟩ := hv
  clear hel
  obtain ⟨N, hN⟩ : ∃ N : Nat, N = l.length := ⟨_, rfl⟩
  rw [← hN] at hlen HV ⊢
  have HN := hide hN
  clear hN
  go_enter Try.func32, Try.ntmps32
  go_wp2
  go_loopw [5] (fun i wr => ∃ K : Int, i = .int .i64 K ∧ 0 ≤ K ∧ K ≤ 100000 ∧ Hid (∀ j : Nat, (j : Int) < K → namedB l (tryS s j) = true) ∧ Hid (Below w.heap.size w wr)) (fun i _ => 100000 - (intOf i).toNat)
  case atStart => exact ⟨0, rfl, by omega, by omega, hide (fun j hj => by omega), hide (Below.refl _ _)⟩
  case round =>
    obtain ⟨K, rfl, k0, hk, HG, HB⟩ := hrel
    by_cases hkl : K < 100000
    · have D := hide (decimal_any K (by omega) (by omega) wr)
      have hd := itoa_short K.toNat (by omega)
      have HT : Hid (s ++ ⟨(Lib.itoa ((K.toNat : Nat) : Int)).toArray⟩ = tryS s K.toNat) := hide rfl
      rw [Int.toNat_of_nonneg k0] at hd HT
      generalize (⟨(Lib.itoa K).toArray⟩ : ByteArray) = d at *
      go_wp2_with fail
      refine (unhide D).mono ?_
      rintro r w1 ⟨rfl, b1⟩
      have B1 := hide (HB.out.trans (b1.mono HB.out.size))
      clear b1 D HB
      go_wp2
      rw [HT.out]
      clear HT
      generalize hT : tryS s K.toNat = t at *
      have HT := hide hT
      clear hT
      go_loopw [7, 8] (fun f i wr' => ∃ j : Nat, i = .int .i64 j ∧ j ≤ N ∧ wr' = w1 ∧ f = .bool ((l.take j).any fun S => inStrsB S.strs t)) (fun _ i _ => N - (intOf i).toNat)
      case atStart => exact ⟨0, rfl, by omega, rfl, rfl⟩
      case round =>
        obtain ⟨j, rfl, hj, rfl, rfl⟩ := hrel
        by_cases hjt : j < N
        · have hj' : j < l.length := by rw [← HN.out]; exact hjt
          obtain ⟨b, off, vi, vs, rfl, hb, c0, c1, c2, c3, hI, hS⟩ := (HV.out.on B1.out).at.2 j hj'
          have X := hide (inStrs_any vs _ t _ hS)
          have G0 : Hid (((l.take (j + 1)).any fun S => inStrsB S.strs t) = (((l.take j).any fun S => inStrsB S.strs t) || inStrsB (l.getD j noSet).strs t)) := hide (by
            rw [List.take_succ_eq_append_getElem hj', List.any_append, List.getD_eq_getElem?_getD, List.getElem?_eq_getElem hj']
            simp)
          generalize l.getD j noSet = S at *
          generalize ((l.take j).any fun S => inStrsB S.strs t) = f at *
          generalize inStrsB S.strs t = g at *
          clear hI hS
          cases f
          · go_wp2_with fail
            refine (unhide X).mono ?_
            rintro r w2 ⟨rfl, rfl⟩
            go_wp2
            exact ⟨⟨j + 1, by go_num, by omega, trivial, by rw [G0.out]; rfl⟩, by simp [intOf]; omega⟩
          · go_wp2
            exact ⟨⟨j + 1, by go_num, by omega, trivial, by rw [G0.out]; rfl⟩, by simp [intOf]; omega⟩
        · have hge : (N : Int) ≤ (j : Int) := by omega
          have G0 : ((l.take j).any fun S => inStrsB S.strs t) = namedB l t := by rw [List.take_of_length_le (by have := HN.out; omega)]; rfl
          rw [G0]
          clear G0
          cases G1 : namedB l t
          · have G2 := hide G1
            clear G1
            go_wp2
            go_ret
            exact ⟨⟨_, rfl, Or.inl ⟨K.toNat, by omega, HT.out.symm, G2.out⟩⟩, B1.out⟩
          · have G2 := hide G1
            clear G1
            go_wp2
            refine ⟨⟨K + 1, rfl, by omega, by omega, hide (fun i hi => ?_), B1⟩, by simp [intOf]; omega⟩
            by_cases hi' : (i : Int) < K
            · exact HG.out i hi'
            · rw [show i = K.toNat by omega, HT.out]; exact G2.out
    · have hge : (100000 : Int) ≤ K := by omega
      have G2 : Hid (∀ j : Nat, j < 100000 → namedB l (tryS s j) = true) := hide (fun j hj => HG.out j (by omega))
      go_wp2
      go_ret
      exact ⟨⟨s, rfl, Or.inr ⟨rfl, G2.out⟩⟩, HB.out⟩
end Go.Proofs.Ytdmjpdhjebmnfaa
