/-
  The walk of value.Text.
-/
import Derived.Test.YthiffpdioclnlaaDoorVU
set_option linter.unusedSimpArgs false
set_option linter.unusedVariables false
namespace Go.Proofs.YthiffpdioclnlaaDoor
open Go.RowKit

/-- value.Text. -/
def textL (k n : Int) (s : ByteArray) : List UInt8 :=
  if rightB k n s = true then (if k = 1 then Lib.itoa n else if k = 2 then quoteL s.data.toList else [45]) else []

theorem ret_list {a b : List UInt8} (h : a = b) : Ending.returned (.string ⟨a.toArray⟩) = .returned (.string ⟨b.toArray⟩) := by rw [h]
theorem right_small {k n : Int} {s : ByteArray} (h : rightB k n s = true) : s.size ≤ 8 := by
  unfold rightB at h
  have e : s.toList.isEmpty = true → s.size ≤ 8 := fun h => by
    rw [List.isEmpty_iff, ByteArray.toList_eq] at h
    rw [Lib.size_eq, h]; simp
  split at h
  · simp at h; exact e (by simp [h.2])
  · split at h
    · exact e h
    · split at h
      · simp at h; omega
      · cases h

set_option maxHeartbeats 1000000 in
set_option maxRecDepth 100000 in
theorem text_any (k n : Int) (s : ByteArray) (w : World) (hE : Env w) (n0 : -9223372036854775808 ≤ n) (n1 : n ≤ 9223372036854775807) (hs : s.size ≤ maxLen) :
    Calls Tryd.prog 16 #[.agg #[.int .i64 k, .int .i64 n, .string s]] w fun e w' => e = .returned (.string ⟨(textL k n s).toArray⟩) ∧ Below w.heap.size w w' := by
  have HR := fun (W : World) => hide (right_any k n s W hs)
  have HE := hide (hE.alloc (.cells #[.int .i64 k, .int .i64 n, .string s] 23))
  have HB := hide ((Below.refl w.heap.size w).alloc (Nat.le_refl _) (.cells #[.int .i64 k, .int .i64 n, .string s] 23))
  have HI := fun (W : World) (h : Env W) => hide (itoa_any n n0 n1 W h)
  clear hE
  cases hr : rightB k n s
  · rw [hr] at HR
    have hT : Hid (textL k n s = []) := hide (by unfold textL; rw [hr]; rfl)
    go_enter Tryd.func16, Tryd.ntmps16
    go_wp2_with fail
    refine (unhide (HR _)).mono ?_
    rintro e w1 ⟨rfl, hb1⟩
    have HB1 := hide (below_alloc hb1)
    clear hb1
    go_wp2
    go_ret
    exact ⟨ret_list hT.out.symm, HB1.out⟩
  · have h8 := right_small hr
    rw [hr] at HR
    have HQ := fun (W : World) => hide (quote_any s W (by omega))
    have hT : Hid (textL k n s = if k = 1 then Lib.itoa n else if k = 2 then quoteL s.data.toList else [45]) := hide (by unfold textL; rw [hr]; rfl)
    clear hr
    by_cases k1 : k = 1
    · subst k1
      go_enter Tryd.func16, Tryd.ntmps16
      go_wp2_with fail
      refine (unhide (HR _)).mono ?_
      rintro e w1 ⟨rfl, hb1⟩
      have HB1 := hide (below_alloc hb1)
      have HE1 := hide (HE.out.on hb1)
      obtain ⟨hc, hf⟩ := bcell hb1
      have c0 := hc w.heap.size 0 (by simp)
      have c1 := hc w.heap.size 1 (by simp)
      have c2 := hc w.heap.size 2 (by simp)
      simp at c0 c1 c2
      clear hb1 hc hf
      go_wp2_with fail
      refine (unhide (HI _ HE1.out)).mono ?_
      rintro e w2 ⟨rfl, hb2⟩
      have HB2 := hide (HB1.out.trans (hb2.mono HB1.out.size))
      clear hb2
      go_wp2
      go_ret
      exact ⟨ret_list (by rw [hT.out]; rfl), HB2.out⟩
    have k1' : (k == 1) = false := beq_eq_false_iff_ne.2 k1
    by_cases k2 : k = 2
    · subst k2
      go_enter Tryd.func16, Tryd.ntmps16
      go_wp2_with fail
      refine (unhide (HR _)).mono ?_
      rintro e w1 ⟨rfl, hb1⟩
      have HB1 := hide (below_alloc hb1)
      obtain ⟨hc, hf⟩ := bcell hb1
      have c0 := hc w.heap.size 0 (by simp)
      have c1 := hc w.heap.size 1 (by simp)
      have c2 := hc w.heap.size 2 (by simp)
      simp at c0 c1 c2
      clear hb1 hc hf
      go_wp2_with fail
      refine (unhide (HQ _)).mono ?_
      rintro e w2 ⟨rfl, hb2⟩
      have HB2 := hide (HB1.out.trans (hb2.mono HB1.out.size))
      clear hb2
      go_wp2
      go_ret
      exact ⟨ret_list (by rw [hT.out]; rfl), HB2.out⟩
    have k2' : (k == 2) = false := beq_eq_false_iff_ne.2 k2
    go_enter Tryd.func16, Tryd.ntmps16
    go_wp2_with fail
    refine (unhide (HR _)).mono ?_
    rintro e w1 ⟨rfl, hb1⟩
    have HB1 := hide (below_alloc hb1)
    obtain ⟨hc, hf⟩ := bcell hb1
    have c0 := hc w.heap.size 0 (by simp)
    have c1 := hc w.heap.size 1 (by simp)
    have c2 := hc w.heap.size 2 (by simp)
    simp at c0 c1 c2
    clear hb1 hc hf
    go_wp2
    go_ret
    exact ⟨ret_list (by rw [hT.out, if_neg k1, if_neg k2]), HB1.out⟩
end Go.Proofs.YthiffpdioclnlaaDoor
