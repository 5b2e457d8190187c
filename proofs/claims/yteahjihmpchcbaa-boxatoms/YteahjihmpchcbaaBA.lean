/-
  Boxes in memory; the walk of the fourth reference's Right.
-/
import Derived.Test.YteahjihmpchcbaaBP
import Derived.Test.YteahjihmpchcbaaSC
import Derived.Test.YteahjihmpchcbaaM0
set_option linter.unusedSimpArgs false
set_option linter.unusedVariables false
namespace Go.Proofs.Yteahjihmpchcbaa
open Go.RowKit

/-- The value is just this box. -/
def BoxAt (w : World) (v : Value) (b : BoxV) : Prop := ∃ (pi0 ps0 pi1 ps1 pi2 ps2 pi3 ps3 : Option Addr) (ci0 cs0 ci1 cs1 ci2 cs2 ci3 cs3 : Nat),
  v = .agg #[.bool b.s0.absent, .slice pi0 b.s0.ints.length ci0, .bool b.s0.co, .slice ps0 b.s0.strs.length cs0, .bool b.s1.absent, .slice pi1 b.s1.ints.length ci1, .bool b.s1.co, .slice ps1 b.s1.strs.length cs1, .bool b.s2.absent, .slice pi2 b.s2.ints.length ci2, .bool b.s2.co, .slice ps2 b.s2.strs.length cs2, .bool b.s3.absent, .slice pi3 b.s3.ints.length ci3, .bool b.s3.co, .slice ps3 b.s3.strs.length cs3] ∧
  SetAt w (.agg #[.bool b.s0.absent, .slice pi0 b.s0.ints.length ci0, .bool b.s0.co, .slice ps0 b.s0.strs.length cs0]) b.s0 ∧ SetAt w (.agg #[.bool b.s1.absent, .slice pi1 b.s1.ints.length ci1, .bool b.s1.co, .slice ps1 b.s1.strs.length cs1]) b.s1 ∧ SetAt w (.agg #[.bool b.s2.absent, .slice pi2 b.s2.ints.length ci2, .bool b.s2.co, .slice ps2 b.s2.strs.length cs2]) b.s2 ∧ SetAt w (.agg #[.bool b.s3.absent, .slice pi3 b.s3.ints.length ci3, .bool b.s3.co, .slice ps3 b.s3.strs.length cs3]) b.s3
theorem BoxAt.on {w w' : World} {v : Value} {b : BoxV} (h : BoxAt w v b) (hb : Below w.heap.size w w') : BoxAt w' v b := by
  obtain ⟨pi0, ps0, pi1, ps1, pi2, ps2, pi3, ps3, ci0, cs0, ci1, cs1, ci2, cs2, ci3, cs3, hv, h0, h1, h2, h3⟩ := h
  exact ⟨pi0, ps0, pi1, ps1, pi2, ps2, pi3, ps3, ci0, cs0, ci1, cs1, ci2, cs2, ci3, cs3, hv, h0.on hb, h1.on hb, h2.on hb, h3.on hb⟩
def rightBx (b : BoxV) : Bool := all4 fun i => rightSet (b.get i)

set_option maxHeartbeats 4000000 in
set_option maxRecDepth 100000 in
theorem refRightBx_any (v : Value) (b : BoxV) (w : World) (hv : BoxAt w v b) :
    Calls Try.prog 9 #[v] w fun r w' => r = .returned (.bool (rightBx b)) ∧ Below w.heap.size w w' := by
  obtain ⟨pi0, ps0, pi1, ps1, pi2, ps2, pi3, ps3, ci0, cs0, ci1, cs1, ci2, cs2, ci3, cs3, rfl, h0, h1, h2, h3⟩ := hv
  have HR : Hid (rightBx b = (((rightSet b.s0 && rightSet b.s1) && rightSet b.s2) && rightSet b.s3)) := hide rfl
  have ba := (Below.refl _ w).alloc (Nat.le_refl _) (Obj.cells #[.bool b.s0.absent, .slice pi0 b.s0.ints.length ci0, .bool b.s0.co, .slice ps0 b.s0.strs.length cs0, .bool b.s1.absent, .slice pi1 b.s1.ints.length ci1, .bool b.s1.co, .slice ps1 b.s1.strs.length cs1, .bool b.s2.absent, .slice pi2 b.s2.ints.length ci2, .bool b.s2.co, .slice ps2 b.s2.strs.length cs2, .bool b.s3.absent, .slice pi3 b.s3.ints.length ci3, .bool b.s3.co, .slice ps3 b.s3.strs.length cs3] 27)
  have R0 := fun (W : World) (hb : Below w.heap.size w W) => hide (refRightSet_any _ b.s0 W (h0.on hb))
  have R1 := fun (W : World) (hb : Below w.heap.size w W) => hide (refRightSet_any _ b.s1 W (h1.on hb))
  have R2 := fun (W : World) (hb : Below w.heap.size w W) => hide (refRightSet_any _ b.s2 W (h2.on hb))
  have R3 := fun (W : World) (hb : Below w.heap.size w W) => hide (refRightSet_any _ b.s3 W (h3.on hb))
  have B0 := hide ba
  have E0 := hide (heap_new w (Obj.cells #[.bool b.s0.absent, .slice pi0 b.s0.ints.length ci0, .bool b.s0.co, .slice ps0 b.s0.strs.length cs0, .bool b.s1.absent, .slice pi1 b.s1.ints.length ci1, .bool b.s1.co, .slice ps1 b.s1.strs.length cs1, .bool b.s2.absent, .slice pi2 b.s2.ints.length ci2, .bool b.s2.co, .slice ps2 b.s2.strs.length cs2, .bool b.s3.absent, .slice pi3 b.s3.ints.length ci3, .bool b.s3.co, .slice ps3 b.s3.strs.length cs3] 27))
  clear h0 h1 h2 h3 ba
  go_enter Try.func9, Try.ntmps9
  go_wp2
  go_loopw [3] (fun i wr => ∃ k : Int, i = .int .i64 k ∧ (k = 0 ∨ (k = 1 ∧ Hid (rightSet b.s0 = true)) ∨ (k = 2 ∧ Hid (rightSet b.s0 = true ∧ rightSet b.s1 = true)) ∨ (k = 3 ∧ Hid (rightSet b.s0 = true ∧ rightSet b.s1 = true ∧ rightSet b.s2 = true)) ∨ (k = 4 ∧ Hid (rightBx b = true))) ∧ Hid (wr.heap[w.heap.size]? = some (.cells #[.bool b.s0.absent, .slice pi0 b.s0.ints.length ci0, .bool b.s0.co, .slice ps0 b.s0.strs.length cs0, .bool b.s1.absent, .slice pi1 b.s1.ints.length ci1, .bool b.s1.co, .slice ps1 b.s1.strs.length cs1, .bool b.s2.absent, .slice pi2 b.s2.ints.length ci2, .bool b.s2.co, .slice ps2 b.s2.strs.length cs2, .bool b.s3.absent, .slice pi3 b.s3.ints.length ci3, .bool b.s3.co, .slice ps3 b.s3.strs.length cs3] 27 (0, 0))) ∧ Hid (Below w.heap.size w wr)) (fun i _ => 4 - (intOf i).toNat)
  case atStart => exact ⟨0, rfl, Or.inl rfl, E0, B0⟩
  case round =>
    clear E0 B0
    obtain ⟨k, rfl, hk, HE, HB⟩ := hrel
    have c0 := cell_heap HE.out 0
    have c1 := cell_heap HE.out 1
    have c2 := cell_heap HE.out 2
    have c3 := cell_heap HE.out 3
    have c4 := cell_heap HE.out 4
    have c5 := cell_heap HE.out 5
    have c6 := cell_heap HE.out 6
    have c7 := cell_heap HE.out 7
    have c8 := cell_heap HE.out 8
    have c9 := cell_heap HE.out 9
    have c10 := cell_heap HE.out 10
    have c11 := cell_heap HE.out 11
    have c12 := cell_heap HE.out 12
    have c13 := cell_heap HE.out 13
    have c14 := cell_heap HE.out 14
    have c15 := cell_heap HE.out 15
    simp only [List.getElem?_toArray, List.getElem?_cons_zero, List.getElem?_cons_succ] at c0 c1 c2 c3 c4 c5 c6 c7 c8 c9 c10 c11 c12 c13 c14 c15
    rcases hk with rfl | ⟨rfl, HP⟩ | ⟨rfl, HP⟩ | ⟨rfl, HP⟩ | ⟨rfl, HP⟩
    · have X := R0 _ HB.out
      go_wp2_with fail
      refine (unhide X).mono ?_
      rintro r w2 ⟨rfl, b2⟩
      have HE2 := hide ((b2.block _ (lt_heap HE.out)).trans HE.out)
      have HB2 := hide (HB.out.trans (b2.mono HB.out.size))
      clear X R0 R1 R2 R3 b2
      cases hr : rightSet b.s0
      · have HF : Hid (rightBx b = false) := hide (by rw [HR.out, hr]; simp)
        go_wp2
        go_ret
        exact ⟨ret_bool HF.out.symm, HB2.out⟩
      · go_wp2
        exact ⟨⟨1, rfl, Or.inr (Or.inl ⟨rfl, hide hr⟩), HE2, HB2⟩, by simp [intOf]⟩
    · have X := R1 _ HB.out
      go_wp2_with fail
      refine (unhide X).mono ?_
      rintro r w2 ⟨rfl, b2⟩
      have HE2 := hide ((b2.block _ (lt_heap HE.out)).trans HE.out)
      have HB2 := hide (HB.out.trans (b2.mono HB.out.size))
      clear X R0 R1 R2 R3 b2
      cases hr : rightSet b.s1
      · have HF : Hid (rightBx b = false) := hide (by rw [HR.out, hr]; simp)
        go_wp2
        go_ret
        exact ⟨ret_bool HF.out.symm, HB2.out⟩
      · go_wp2
        exact ⟨⟨2, rfl, Or.inr (Or.inr (Or.inl ⟨rfl, hide ⟨HP.out, hr⟩⟩)), HE2, HB2⟩, by simp [intOf]⟩
    · have X := R2 _ HB.out
      go_wp2_with fail
      refine (unhide X).mono ?_
      rintro r w2 ⟨rfl, b2⟩
      have HE2 := hide ((b2.block _ (lt_heap HE.out)).trans HE.out)
      have HB2 := hide (HB.out.trans (b2.mono HB.out.size))
      clear X R0 R1 R2 R3 b2
      cases hr : rightSet b.s2
      · have HF : Hid (rightBx b = false) := hide (by rw [HR.out, hr]; simp)
        go_wp2
        go_ret
        exact ⟨ret_bool HF.out.symm, HB2.out⟩
      · go_wp2
        exact ⟨⟨3, rfl, Or.inr (Or.inr (Or.inr (Or.inl ⟨rfl, hide ⟨HP.out.1, HP.out.2, hr⟩⟩))), HE2, HB2⟩, by simp [intOf]⟩
    · have X := R3 _ HB.out
      go_wp2_with fail
      refine (unhide X).mono ?_
      rintro r w2 ⟨rfl, b2⟩
      have HE2 := hide ((b2.block _ (lt_heap HE.out)).trans HE.out)
      have HB2 := hide (HB.out.trans (b2.mono HB.out.size))
      clear X R0 R1 R2 R3 b2
      cases hr : rightSet b.s3
      · have HF : Hid (rightBx b = false) := hide (by rw [HR.out, hr]; simp)
        go_wp2
        go_ret
        exact ⟨ret_bool HF.out.symm, HB2.out⟩
      · go_wp2
        exact ⟨⟨4, rfl, Or.inr (Or.inr (Or.inr (Or.inr ⟨rfl, hide (by rw [HR.out, HP.out.1, HP.out.2.1, HP.out.2.2, hr]; rfl)⟩))), HE2, HB2⟩, by simp [intOf]⟩
    · go_wp2
      go_ret
      exact ⟨ret_bool HP.out.symm, HB.out⟩
end Go.Proofs.Yteahjihmpchcbaa
