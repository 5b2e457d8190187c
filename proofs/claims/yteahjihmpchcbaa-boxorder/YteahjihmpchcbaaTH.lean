/-
  The program's set: picked.
-/
import Derived.Test.YteahjihmpchcbaaTF
import Derived.Test.YteahjihmpchcbaaTG
set_option linter.unusedSimpArgs false
set_option linter.unusedVariables false
namespace Go.Proofs.Yteahjihmpchcbaa
open Go.RowKit

theorem filter_take_succ {l : List ByteArray} {p : ByteArray → Bool} {k : Nat} (h : k < l.length) : (l.take (k + 1)).filter p = (l.take k).filter p ++ (if p (l.getD k ⟨#[]⟩) then [l.getD k ⟨#[]⟩] else []) := by
  rw [List.take_add_one, List.filter_append, List.getD_eq_getElem?_getD, List.getElem?_eq_getElem h]
  simp only [Option.toList_some, Option.getD_some, List.filter_cons, List.filter_nil]

set_option maxHeartbeats 2000000 in
set_option maxRecDepth 100000 in
theorem picked_any (v u : Value) (l m : List ByteArray) (h : Bool) (w : World) (hv : StrsAt w v l) (hu : StrsAt w u m) (hr : risesS (m.map fun b => b.toList)) (hl : l.length ≤ 100000) (hm : m.length ≤ 100000) :
    Calls Try.prog 42 #[v, u, .bool h] w fun r w' => (∃ x, r = .returned x ∧ OwnS w' w.heap.size x (l.filter fun s => inStrsB m s == h)) ∧ Below w.heap.size w w' := by
  have HV := hide hv
  have HU := hide hu
  have X := fun (s : ByteArray) (w1 : World) (hb : Below w.heap.size w w1) => hide (hasString_any u m s w1 (hu.on hb) hr hm)
  have hlen := hv.2.1
  obtain ⟨a, cap, rfl⟩ := hv.form
  obtain ⟨a1, cap1, rfl⟩ := hu.form
  clear hv hu hr
  obtain ⟨N, hN⟩ : ∃ N : Nat, N = l.length := ⟨_, rfl⟩
  rw [← hN] at hlen hl HV ⊢
  have HN := hide hN
  clear hN
  go_enter Try.func42, Try.ntmps42
  go_wp2
  go_loopw [7, 12] (fun o i wr => ∃ k : Nat, i = .int .i64 k ∧ k ≤ N ∧ Hid (OwnS wr w.heap.size o ((l.take k).filter fun s => inStrsB m s == h)) ∧ Hid (Below w.heap.size w wr)) (fun _ i _ => N - (intOf i).toNat)
  case atStart => exact ⟨0, rfl, by omega, hide (ownS_none _ _), hide (Below.refl _ _)⟩
  case round =>
    obtain ⟨k, rfl, hk, HO, HB⟩ := hrel
    by_cases hlt : k < N
    · have hk' : k < l.length := by rw [← HN.out]; exact hlt
      obtain ⟨b, off, ha, hb, c0⟩ := (HV.out.on HB.out).at.2 k hk'
      subst ha
      have HF := hide (filter_take_succ (p := fun s => inStrsB m s == h) hk')
      have LE : Hid (((l.take k).filter fun s => inStrsB m s == h).length + 1 ≤ 1000000) := hide (by
        have h1 := List.length_filter_le (fun s => inStrsB m s == h) (l.take k)
        have h2 : (l.take k).length ≤ k := by simp; omega
        omega)
      generalize l.getD k ⟨#[]⟩ = q at c0 HF
      have Y := X q _ HB.out
      have szB := HB.out.size
      cases hq : (inStrsB m q == h)
      · have E : Hid ((l.take (k + 1)).filter (fun s => inStrsB m s == h) = (l.take k).filter fun s => inStrsB m s == h) := hide (by rw [HF.out, hq]; simp)
        clear HF LE X
        generalize inStrsB m q = IB at Y hq
        go_wp2_with fail
        refine (unhide Y).mono ?_
        rintro r w2 ⟨rfl, rfl⟩
        go_wp2
        refine ⟨⟨k + 1, by go_num, by omega, ?_, HB⟩, by simp [intOf]; omega⟩
        rw [E.out]; exact HO
      · have E : Hid ((l.take (k + 1)).filter (fun s => inStrsB m s == h) = ((l.take k).filter fun s => inStrsB m s == h) ++ [q]) := hide (by rw [HF.out, hq]; simp)
        clear HF X
        generalize inStrsB m q = IB at Y hq
        go_wp2_with fail
        refine (unhide Y).mono ?_
        rintro r w2 ⟨rfl, rfl⟩
        go_wp2_with (at_builtin; refine wpList_appS _ rfl _ _ rfl w.heap.size _ _ rfl (HO.out.alloc _) _ 1 1 _ [q] rfl rfl (heap_top _ _) rfl LE.out (by simp; omega) ?_; intro v8 w8 hO8 hb8; have O8 := hide hO8; have B8 := hide ((HB.out.alloc szB _).trans hb8); clear hO8 hb8)
        refine ⟨⟨k + 1, by go_num, by omega, ?_, B8⟩, by simp [intOf]; omega⟩
        rw [E.out]; exact O8
    · have hge : (N : Int) ≤ (k : Int) := by omega
      have E : Hid (l.take k = l) := hide (List.take_of_length_le (by have := HN.out; omega))
      rw [E.out] at HO
      go_wp2
      go_ret
      exact ⟨⟨_, rfl, HO.out⟩, HB.out⟩
end Go.Proofs.Yteahjihmpchcbaa
