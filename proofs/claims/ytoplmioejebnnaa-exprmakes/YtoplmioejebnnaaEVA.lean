/-
  Events as values; the walk of the first reference's Event.
-/
import Derived.Test.YtoplmioejebnnaaBP
import Derived.Test.YtoplmioejebnnaaSV1
import Derived.Test.YtoplmioejebnnaaM0
set_option linter.unusedSimpArgs false
set_option linter.unusedVariables false
namespace Go.Proofs.Ytoplmioejebnnaa
open Go.RowKit

def evVal (e : EvV) : Value := .agg #[.int .i64 e.v0.1, .int .i64 e.v0.2.1, .string e.v0.2.2, .int .i64 e.v1.1, .int .i64 e.v1.2.1, .string e.v1.2.2, .int .i64 e.v2.1, .int .i64 e.v2.2.1, .string e.v2.2.2, .int .i64 e.v3.1, .int .i64 e.v3.2.1, .string e.v3.2.2]
/-- No string is longer than memory. -/
def evFit (e : EvV) : Prop := e.v0.2.2.size ≤ maxLen ∧ e.v1.2.2.size ≤ maxLen ∧ e.v2.2.2.size ≤ maxLen ∧ e.v3.2.2.size ≤ maxLen

theorem evCells {w : World} {g : Nat} {t : TypeId} {x0 x1 x2 x3 x4 x5 x6 x7 x8 x9 x10 x11 : Value} (h : w.heap[g]? = some (.cells #[x0, x1, x2, x3, x4, x5, x6, x7, x8, x9, x10, x11] t (0, 0))) : w.cell? ⟨g, 0, none⟩ = some x0 ∧ w.cell? ⟨g, 1, none⟩ = some x1 ∧ w.cell? ⟨g, 2, none⟩ = some x2 ∧ w.cell? ⟨g, 3, none⟩ = some x3 ∧ w.cell? ⟨g, 4, none⟩ = some x4 ∧ w.cell? ⟨g, 5, none⟩ = some x5 ∧ w.cell? ⟨g, 6, none⟩ = some x6 ∧ w.cell? ⟨g, 7, none⟩ = some x7 ∧ w.cell? ⟨g, 8, none⟩ = some x8 ∧ w.cell? ⟨g, 9, none⟩ = some x9 ∧ w.cell? ⟨g, 10, none⟩ = some x10 ∧ w.cell? ⟨g, 11, none⟩ = some x11 :=
  ⟨cell_heap h 0, cell_heap h 1, cell_heap h 2, cell_heap h 3, cell_heap h 4, cell_heap h 5, cell_heap h 6, cell_heap h 7, cell_heap h 8, cell_heap h 9, cell_heap h 10, cell_heap h 11⟩

set_option maxHeartbeats 4000000 in
set_option maxRecDepth 100000 in
theorem refEvent_any (e : EvV) (w : World) (hf : evFit e) :
    Calls Try.prog 34 #[evVal e] w fun r w' => r = .returned (.bool (rightE e)) ∧ Below w.heap.size w w' := by
  unfold evVal
  have HR : Hid (rightE e = (((rightB e.v0.1 e.v0.2.1 e.v0.2.2 && rightB e.v1.1 e.v1.2.1 e.v1.2.2) && rightB e.v2.1 e.v2.2.1 e.v2.2.2) && rightB e.v3.1 e.v3.2.1 e.v3.2.2)) := hide rfl
  have R0 := fun (W : World) => hide (refRight_any e.v0.1 e.v0.2.1 e.v0.2.2 W hf.1)
  have R1 := fun (W : World) => hide (refRight_any e.v1.1 e.v1.2.1 e.v1.2.2 W hf.2.1)
  have R2 := fun (W : World) => hide (refRight_any e.v2.1 e.v2.2.1 e.v2.2.2 W hf.2.2.1)
  have R3 := fun (W : World) => hide (refRight_any e.v3.1 e.v3.2.1 e.v3.2.2 W hf.2.2.2)
  generalize rightB e.v0.1 e.v0.2.1 e.v0.2.2 = q0 at HR R0
  generalize rightB e.v1.1 e.v1.2.1 e.v1.2.2 = q1 at HR R1
  generalize rightB e.v2.1 e.v2.2.1 e.v2.2.2 = q2 at HR R2
  generalize rightB e.v3.1 e.v3.2.1 e.v3.2.2 = q3 at HR R3
  have B0 := hide ((Below.refl _ w).alloc (Nat.le_refl _) (Obj.cells #[.int .i64 e.v0.1, .int .i64 e.v0.2.1, .string e.v0.2.2, .int .i64 e.v1.1, .int .i64 e.v1.2.1, .string e.v1.2.2, .int .i64 e.v2.1, .int .i64 e.v2.2.1, .string e.v2.2.2, .int .i64 e.v3.1, .int .i64 e.v3.2.1, .string e.v3.2.2] 32))
  have E0 := hide (heap_new w (Obj.cells #[.int .i64 e.v0.1, .int .i64 e.v0.2.1, .string e.v0.2.2, .int .i64 e.v1.1, .int .i64 e.v1.2.1, .string e.v1.2.2, .int .i64 e.v2.1, .int .i64 e.v2.2.1, .string e.v2.2.2, .int .i64 e.v3.1, .int .i64 e.v3.2.1, .string e.v3.2.2] 32))
  clear hf
  go_enter Try.func34, Try.ntmps34
  go_wp2
  go_loopw [3] (fun i wr => ∃ k : Int, i = .int .i64 k ∧ (k = 0 ∨ (k = 1 ∧ Hid (q0 = true)) ∨ (k = 2 ∧ Hid (q0 = true ∧ q1 = true)) ∨ (k = 3 ∧ Hid (q0 = true ∧ q1 = true ∧ q2 = true)) ∨ (k = 4 ∧ Hid (rightE e = true))) ∧ Hid (wr.heap[w.heap.size]? = some (.cells #[.int .i64 e.v0.1, .int .i64 e.v0.2.1, .string e.v0.2.2, .int .i64 e.v1.1, .int .i64 e.v1.2.1, .string e.v1.2.2, .int .i64 e.v2.1, .int .i64 e.v2.2.1, .string e.v2.2.2, .int .i64 e.v3.1, .int .i64 e.v3.2.1, .string e.v3.2.2] 32 (0, 0))) ∧ Hid (Below w.heap.size w wr)) (fun i _ => 4 - (intOf i).toNat)
  case atStart => exact ⟨0, rfl, Or.inl rfl, E0, B0⟩
  case round =>
    clear E0 B0
    obtain ⟨k, rfl, hk, HE, HB⟩ := hrel
    obtain ⟨c0, c1, c2, c3, c4, c5, c6, c7, c8, c9, c10, c11⟩ := evCells HE.out
    rcases hk with rfl | ⟨rfl, HP⟩ | ⟨rfl, HP⟩ | ⟨rfl, HP⟩ | ⟨rfl, HP⟩
    · have X := R0 wr
      go_wp2_with fail
      refine (unhide X).mono ?_
      rintro r w2 ⟨rfl, b2⟩
      have HE2 := hide ((b2.block _ (lt_heap HE.out)).trans HE.out)
      have HB2 := hide (HB.out.trans (b2.mono HB.out.size))
      clear X R0 R1 R2 R3 b2
      cases hr : q0
      · have HF : Hid (rightE e = false) := hide (by rw [HR.out, hr]; simp)
        go_wp2
        go_ret
        exact ⟨ret_bool HF.out.symm, HB2.out⟩
      · go_wp2
        exact ⟨⟨1, rfl, Or.inr (Or.inl ⟨rfl, hide hr⟩), HE2, HB2⟩, by simp [intOf]⟩
    · have X := R1 wr
      go_wp2_with fail
      refine (unhide X).mono ?_
      rintro r w2 ⟨rfl, b2⟩
      have HE2 := hide ((b2.block _ (lt_heap HE.out)).trans HE.out)
      have HB2 := hide (HB.out.trans (b2.mono HB.out.size))
      clear X R0 R1 R2 R3 b2
      cases hr : q1
      · have HF : Hid (rightE e = false) := hide (by rw [HR.out, hr]; simp)
        go_wp2
        go_ret
        exact ⟨ret_bool HF.out.symm, HB2.out⟩
      · go_wp2
        exact ⟨⟨2, rfl, Or.inr (Or.inr (Or.inl ⟨rfl, hide ⟨HP.out, hr⟩⟩)), HE2, HB2⟩, by simp [intOf]⟩
    · have X := R2 wr
      go_wp2_with fail
      refine (unhide X).mono ?_
      rintro r w2 ⟨rfl, b2⟩
      have HE2 := hide ((b2.block _ (lt_heap HE.out)).trans HE.out)
      have HB2 := hide (HB.out.trans (b2.mono HB.out.size))
      clear X R0 R1 R2 R3 b2
      cases hr : q2
      · have HF : Hid (rightE e = false) := hide (by rw [HR.out, hr]; simp)
        go_wp2
        go_ret
        exact ⟨ret_bool HF.out.symm, HB2.out⟩
      · go_wp2
        exact ⟨⟨3, rfl, Or.inr (Or.inr (Or.inr (Or.inl ⟨rfl, hide ⟨HP.out.1, HP.out.2, hr⟩⟩))), HE2, HB2⟩, by simp [intOf]⟩
    · have X := R3 wr
      go_wp2_with fail
      refine (unhide X).mono ?_
      rintro r w2 ⟨rfl, b2⟩
      have HE2 := hide ((b2.block _ (lt_heap HE.out)).trans HE.out)
      have HB2 := hide (HB.out.trans (b2.mono HB.out.size))
      clear X R0 R1 R2 R3 b2
      cases hr : q3
      · have HF : Hid (rightE e = false) := hide (by rw [HR.out, hr]; simp)
        go_wp2
        go_ret
        exact ⟨ret_bool HF.out.symm, HB2.out⟩
      · go_wp2
        exact ⟨⟨4, rfl, Or.inr (Or.inr (Or.inr (Or.inr ⟨rfl, hide (by rw [HR.out, HP.out.1, HP.out.2.1, HP.out.2.2, hr]; rfl)⟩))), HE2, HB2⟩, by simp [intOf]⟩
    · go_wp2
      go_ret
      exact ⟨ret_bool HP.out.symm, HB.out⟩

def EvIn (w : World) (g : Nat) (e : EvV) : Prop := w.heap[g]? = some (.cells #[.int .i64 e.v0.1, .int .i64 e.v0.2.1, .string e.v0.2.2, .int .i64 e.v1.1, .int .i64 e.v1.2.1, .string e.v1.2.2, .int .i64 e.v2.1, .int .i64 e.v2.2.1, .string e.v2.2.2, .int .i64 e.v3.1, .int .i64 e.v3.2.1, .string e.v3.2.2] 32 (0, 0))
theorem EvIn.on {w w' : World} {g : Nat} {e : EvV} (h : EvIn w g e) (hb : Below w.heap.size w w') : EvIn w' g e := (hb.block _ (lt_heap h)).trans h
end Go.Proofs.Ytoplmioejebnnaa
