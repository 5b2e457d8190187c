/-
  The reference's Read, in all; the law ValueReads.
-/
import Derived.Test.YthiffpdioclnlaaDoorRR
import Derived.Test.YthiffpdioclnlaaDoorVU
set_option linter.unusedSimpArgs false
set_option linter.unusedVariables false
namespace Go.Proofs.YthiffpdioclnlaaDoor
open Go.RowKit

set_option maxHeartbeats 1000000 in
set_option maxRecDepth 100000 in
theorem refRead_empty (s : ByteArray) (w : World) (h0 : s.size = 0) :
    Calls Tryd.prog 21 #[.string s] w fun e w' => e = .returned (retR (readL s.data.toList)) ∧ Below w.heap.size w w' := by
  have E := hide (read_empty s h0)
  have z : (s.size : Int) = 0 := by omega
  clear h0
  go_enter Tryd.func21, Tryd.ntmps21
  go_wp2
  go_loop [9] (fun t => t = .int .i64 0) (fun t => 0)
  case atStart => rfl
  case round =>
    subst hrel
    go_wp2
    refine bodyPost_ret (v := retR (none)) (by simp [results, Tryd.results21, go_sem, retR]) rfl ⟨by rw [E.out], (Below.refl _ _).alloc (Nat.le_refl _) _⟩

set_option maxHeartbeats 1000000 in
set_option maxRecDepth 100000 in
theorem refRead_string (s : ByteArray) (w : World) (hs : s.size ≤ 1000) (h0 : 0 < s.size) (c : s[0].toNat = 39) :
    Calls Tryd.prog 21 #[.string s] w fun e w' => e = .returned (retR (readL s.data.toList)) ∧ Below w.heap.size w w' := by
  have cb : ((s[0].toNat : Int) == 39) = true := by rw [c]; rfl
  have E := read_str s h0 c
  have HC := fun (W : World) => quoted_any s W h0 hs
  clear c
  cases hR : qdL s.data.toList with
  | none =>
    rw [hR] at HC E
    unfold retQ at HC
    have HE := hide (E.trans (show Option.map _ none = none from rfl))
    have HH := fun W => hide (HC W)
    clear HC E
    go_enter Tryd.func21, Tryd.ntmps21
    go_wp2_with (go_at_call 33; refine (unhide (HH _)).mono ?_; rintro e w1 ⟨rfl, hb1⟩; refine Hid.out ?_)
    refine hide ?_
    obtain ⟨hc, hf⟩ := bcell hb1
    have hB := hide (below_alloc hb1)
    have hz : w.heap.size < w1.heap.size := by have := hb1.size; simp at this; omega
    clear hb1
    have r0 : w1.cell? ⟨w.heap.size, 0, none⟩ = some (.int .i64 0) := by rw [hc _ _ (by simp)]; simp
    have r1 : w1.cell? ⟨w.heap.size, 1, none⟩ = some (.int .i64 0) := by rw [hc _ _ (by simp)]; simp
    have r2 : w1.cell? ⟨w.heap.size, 2, none⟩ = some (.string ⟨#[]⟩) := by rw [hc _ _ (by simp)]; simp
    have Hq := hide (three_stores (.int .i64 0) (.int .i64 0) (.string ⟨#[]⟩) r0 r1 r2)
    go_wp2
    obtain ⟨q0, q1, q2⟩ := Hq.out
    refine bodyPost_ret (v := retR (none)) (by simp [results, Tryd.results21, go_sem, retR, q0, q1, q2]) rfl ⟨by rw [HE.out], below_three _ _ _ hB.out⟩
  | some x =>
    obtain ⟨t, n⟩ := x
    rw [hR] at HC E
    unfold retQ at HC
    have HE : Hid (readL s.data.toList = some (2, 0, t, n)) := hide E
    have HH := fun W => hide (HC W)
    clear HC E
    go_enter Tryd.func21, Tryd.ntmps21
    go_wp2_with (go_at_call 33; refine (unhide (HH _)).mono ?_; rintro e w1 ⟨rfl, hb1⟩; refine Hid.out ?_)
    refine hide ?_
    obtain ⟨hc, hf⟩ := bcell hb1
    have hB := hide (below_alloc hb1)
    have hz : w.heap.size < w1.heap.size := by have := hb1.size; simp at this; omega
    clear hb1
    have r0 : w1.cell? ⟨w.heap.size, 0, none⟩ = some (.int .i64 0) := by rw [hc _ _ (by simp)]; simp
    have r1 : w1.cell? ⟨w.heap.size, 1, none⟩ = some (.int .i64 0) := by rw [hc _ _ (by simp)]; simp
    have r2 : w1.cell? ⟨w.heap.size, 2, none⟩ = some (.string ⟨#[]⟩) := by rw [hc _ _ (by simp)]; simp
    have Hq := hide (three_stores (.int .i64 2) (.int .i64 0) (.string ⟨t.toArray⟩) r0 r1 r2)
    go_wp2
    obtain ⟨q0, q1, q2⟩ := Hq.out
    refine bodyPost_ret (v := retR (some (2, 0, t, n))) (by simp [results, Tryd.results21, go_sem, retR, q0, q1, q2]) rfl ⟨by rw [HE.out], below_three _ _ _ hB.out⟩

theorem refRead_any (s : ByteArray) (w : World) (hs : s.size ≤ 1000) :
    Calls Tryd.prog 21 #[.string s] w fun e w' => e = .returned (retR (readL s.data.toList)) ∧ Below w.heap.size w w' := by
  by_cases h0 : 0 < s.size
  · by_cases c : s[0].toNat = 39
    · exact refRead_string s w hs h0 c
    · by_cases m : s[0].toNat = 45
      · exact refRead_minus s w hs h0 m
      · exact refRead_plain s w hs h0 m c
  · exact refRead_empty s w (by omega)
end Go.Proofs.YthiffpdioclnlaaDoor
