/-
  The program's set: Right of a value, All, Empty, apart, hasNumber.
-/
import Derived.Test.YtoplmioejebnnaaM0
set_option linter.unusedSimpArgs false
set_option linter.unusedVariables false
namespace Go.Proofs.Ytoplmioejebnnaa
open Go.RowKit

set_option maxHeartbeats 400000 in
theorem valRight_any (k n : Int) (s : ByteArray) (w : World) (_hs : s.size ≤ maxLen) :
    Calls Try.prog 51 #[.agg #[.int .i64 k, .int .i64 n, .string s]] w fun e w' => e = .returned (.bool (rightB k n s)) ∧ Below w.heap.size w w' := by
  unfold maxLen at _hs
  by_cases k0 : k = 0
  · subst k0
    by_cases hn : n = 0
    · subst hn
      go_enter Try.func51, Try.ntmps51
      go_wp2
      go_ret
      exact ⟨ret_bool (by simp [rightB]), (Below.refl _ _).alloc (Nat.le_refl _) _⟩
    · have hn' : (n == 0) = false := by simp [hn]
      go_enter Try.func51, Try.ntmps51
      go_wp2
      go_ret
      exact ⟨ret_bool (by simp [rightB, hn]), (Below.refl _ _).alloc (Nat.le_refl _) _⟩
  have k0' : (k == 0) = false := by simp [k0]
  by_cases k1 : k = 1
  · subst k1
    go_enter Try.func51, Try.ntmps51
    go_wp2
    go_ret
    exact ⟨ret_bool (by simp [rightB]), (Below.refl _ _).alloc (Nat.le_refl _) _⟩
  have k1' : (k == 1) = false := by simp [k1]
  by_cases k2 : k = 2
  · subst k2
    by_cases hn : n = 0
    · subst hn
      go_enter Try.func51, Try.ntmps51
      go_wp2
      go_ret
      exact ⟨ret_bool (by simp [rightB]), (Below.refl _ _).alloc (Nat.le_refl _) _⟩
    · have hn' : (n == 0) = false := by simp [hn]
      go_enter Try.func51, Try.ntmps51
      go_wp2
      go_ret
      exact ⟨ret_bool (by simp [rightB, hn]), (Below.refl _ _).alloc (Nat.le_refl _) _⟩
  have k2' : (k == 2) = false := by simp [k2]
  go_enter Try.func51, Try.ntmps51
  go_wp2
  go_ret
  exact ⟨ret_bool (by simp [rightB, k0, k1, k2]), (Below.refl _ _).alloc (Nat.le_refl _) _⟩


theorem infoSet : (Try.prog.info? 25).map (·.size) = some 4 := by kernel_rfl
theorem rngs_at {w : World} {g : Nat} {cs : Array Value} (h : w.heap[g]? = some (.cells cs 54)) (l : List Rg) (hc : cs.toList = rgCells l) (hi : inI64 l) (hl : l.length ≤ 1000) (k c : Nat) (hk : k = l.length) (hkc : k ≤ c := by omega) : RngsAt w (.slice (some ⟨g, 0, none⟩) k c) l := by
  subst hk
  obtain ⟨sp, rfl⟩ := capOf_of (a := some ⟨g, 0, none⟩) hkc (fun e => by cases e)
  refine ⟨hi, by omega, _, sp, rfl, fun i hi' => ⟨_, 0, rfl, lt_heap h, ?_, ?_⟩⟩
  · rw [cell_heap h, ← (rgCells_at l i hi').1, ← hc]; simp
  · rw [cell_heap h, ← (rgCells_at l i hi').2, ← hc]; simp

set_option maxHeartbeats 1000000 in
set_option maxRecDepth 100000 in
theorem apart_any (a b : Rg) (w : World) (h0 : -9223372036854775808 ≤ b.1) (h1 : b.1 ≤ 9223372036854775807) (h2 : -9223372036854775808 ≤ a.2) :
    Calls Try.prog 72 #[.agg #[.int .i64 a.1, .int .i64 a.2], .agg #[.int .i64 b.1, .int .i64 b.2]] w fun r w' => r = .returned (.bool (decide (a.2 + 1 < b.1))) ∧ Below w.heap.size w w' := by
  have ba := fun (o1 o2 : Obj) => hide (two_boxes w o1 o2)
  by_cases h : a.2 < b.1
  · have hw : IntKind.i64.wrap (b.1 - 1) = b.1 - 1 := by rw [IntKind.wrap_i64]; omega
    go_enter Try.func72, Try.ntmps72
    go_wp2
    go_ret
    exact ⟨ret_bool (by rw [decide_eq_decide]; omega), (ba _ _).out.2.2⟩
  · go_enter Try.func72, Try.ntmps72
    go_wp2
    go_ret
    exact ⟨ret_bool (by symm; rw [decide_eq_false_iff_not]; omega), (ba _ _).out.2.2⟩

set_option maxHeartbeats 1000000 in
set_option maxRecDepth 100000 in
theorem hasNumber_any (v : Value) (l : List Rg) (n : Int) (w : World) (hv : RngsAt w v l) :
    Calls Try.prog 67 #[v, .int .i64 n] w fun r w' => r = .returned (.bool (inIntsB l n)) ∧ Below w.heap.size w w' := by
  have HV := hide hv
  obtain ⟨_, hlen, a, cap, rfl, hel⟩ := hv
  clear hel
  generalize hB : inIntsB l n = B
  have HB : Hid ((l.drop 0).any (fun r => decide (r.1 ≤ n) && decide (n ≤ r.2)) = B) := hide (by rw [List.drop_zero]; exact hB)
  clear hB
  obtain ⟨N, hN⟩ : ∃ N : Nat, N = l.length := ⟨_, rfl⟩
  rw [← hN] at hlen HV ⊢
  have HN := hide hN
  clear hN
  go_enter Try.func67, Try.ntmps67
  go_wp2
  go_loopw [9] (fun i wr => ∃ k : Nat, i = .int .i64 k ∧ k ≤ N ∧ Hid (Below w.heap.size w wr) ∧ Hid ((l.drop k).any (fun r => decide (r.1 ≤ n) && decide (n ≤ r.2)) = B)) (fun i _ => N - (intOf i).toNat)
  case atStart => exact ⟨0, rfl, by omega, hide (Below.refl _ _), HB⟩
  case round =>
    obtain ⟨k, rfl, hk, HW, HD⟩ := hrel
    clear HB
    by_cases hlt : k < N
    · obtain ⟨b, off, ha, hb, c0, c1⟩ := (HV.out.on HW.out).at.2 k (by rw [← HN.out]; exact hlt)
      subst ha
      have D0 := HD.out
      rw [drop_getD l k (0, 0) (by rw [← HN.out]; exact hlt), List.any_cons] at D0
      generalize l.getD k (0, 0) = q at *
      have HD0 := hide D0
      clear D0 HD
      by_cases h1 : q.1 ≤ n
      · by_cases h2 : n ≤ q.2
        · go_wp2
          go_ret
          exact ⟨ret_bool (by rw [← HD0.out]; simp [h1, h2]), HW.out.alloc HW.out.size _⟩
        · go_wp2
          exact ⟨⟨k + 1, by go_num, by omega, hide (HW.out.alloc HW.out.size _), hide (by rw [← HD0.out]; simp [h1]; omega)⟩, by simp [intOf]; omega⟩
      · go_wp2
        exact ⟨⟨k + 1, by go_num, by omega, hide (HW.out.alloc HW.out.size _), hide (by rw [← HD0.out]; simp; omega)⟩, by simp [intOf]; omega⟩
    · have hge : (N : Int) ≤ (k : Int) := by omega
      have E : Hid (B = false) := hide (by rw [← HD.out, List.drop_eq_nil_of_le (by have := HN.out; omega)]; rfl)
      go_wp2
      go_ret
      exact ⟨ret_bool E.out.symm, HW.out⟩
end Go.Proofs.Ytoplmioejebnnaa
