/-
  The program's value.Event.
-/
import Derived.Test.YtoplmioejebnnaaEVA
import Derived.Test.YtoplmioejebnnaaTA1
set_option linter.unusedSimpArgs false
set_option linter.unusedVariables false
namespace Go.Proofs.Ytoplmioejebnnaa
open Go.RowKit
set_option maxRecDepth 100000 in
theorem run_ev0 (w : World) (e : EvV) : (Instr.index 32 (.agg #[.int .i64 e.v0.1, .int .i64 e.v0.2.1, .string e.v0.2.2, .int .i64 e.v1.1, .int .i64 e.v1.2.1, .string e.v1.2.2, .int .i64 e.v2.1, .int .i64 e.v2.2.1, .string e.v2.2.2, .int .i64 e.v3.1, .int .i64 e.v3.2.1, .string e.v3.2.2]) (.int .i64 0)).run Try.prog w = .ok (.agg #[.int .i64 e.v0.1, .int .i64 e.v0.2.1, .string e.v0.2.2]) w := by
  simp [Instr.index, run_underlying Try.underlying32, asIntOf, go_sem, part]
set_option maxRecDepth 100000 in
theorem run_ev1 (w : World) (e : EvV) : (Instr.index 32 (.agg #[.int .i64 e.v0.1, .int .i64 e.v0.2.1, .string e.v0.2.2, .int .i64 e.v1.1, .int .i64 e.v1.2.1, .string e.v1.2.2, .int .i64 e.v2.1, .int .i64 e.v2.2.1, .string e.v2.2.2, .int .i64 e.v3.1, .int .i64 e.v3.2.1, .string e.v3.2.2]) (.int .i64 1)).run Try.prog w = .ok (.agg #[.int .i64 e.v1.1, .int .i64 e.v1.2.1, .string e.v1.2.2]) w := by
  simp [Instr.index, run_underlying Try.underlying32, asIntOf, go_sem, part]
set_option maxRecDepth 100000 in
theorem run_ev2 (w : World) (e : EvV) : (Instr.index 32 (.agg #[.int .i64 e.v0.1, .int .i64 e.v0.2.1, .string e.v0.2.2, .int .i64 e.v1.1, .int .i64 e.v1.2.1, .string e.v1.2.2, .int .i64 e.v2.1, .int .i64 e.v2.2.1, .string e.v2.2.2, .int .i64 e.v3.1, .int .i64 e.v3.2.1, .string e.v3.2.2]) (.int .i64 2)).run Try.prog w = .ok (.agg #[.int .i64 e.v2.1, .int .i64 e.v2.2.1, .string e.v2.2.2]) w := by
  simp [Instr.index, run_underlying Try.underlying32, asIntOf, go_sem, part]
set_option maxRecDepth 100000 in
theorem run_ev3 (w : World) (e : EvV) : (Instr.index 32 (.agg #[.int .i64 e.v0.1, .int .i64 e.v0.2.1, .string e.v0.2.2, .int .i64 e.v1.1, .int .i64 e.v1.2.1, .string e.v1.2.2, .int .i64 e.v2.1, .int .i64 e.v2.2.1, .string e.v2.2.2, .int .i64 e.v3.1, .int .i64 e.v3.2.1, .string e.v3.2.2]) (.int .i64 3)).run Try.prog w = .ok (.agg #[.int .i64 e.v3.1, .int .i64 e.v3.2.1, .string e.v3.2.2]) w := by
  simp [Instr.index, run_underlying Try.underlying32, asIntOf, go_sem, part]
set_option maxHeartbeats 4000000 in
set_option maxRecDepth 100000 in
theorem event_any (e : EvV) (w : World) (hf : evFit e) :
    Calls Try.prog 32 #[evVal e] w fun r w' => r = .returned (.bool (rightE e)) ∧ Below w.heap.size w w' := by
  unfold evVal
  have HR : Hid (rightE e = (((rightB e.v0.1 e.v0.2.1 e.v0.2.2 && rightB e.v1.1 e.v1.2.1 e.v1.2.2) && rightB e.v2.1 e.v2.2.1 e.v2.2.2) && rightB e.v3.1 e.v3.2.1 e.v3.2.2)) := hide rfl
  have R0 := fun (W : World) => hide (valRight_any e.v0.1 e.v0.2.1 e.v0.2.2 W hf.1)
  have R1 := fun (W : World) => hide (valRight_any e.v1.1 e.v1.2.1 e.v1.2.2 W hf.2.1)
  have R2 := fun (W : World) => hide (valRight_any e.v2.1 e.v2.2.1 e.v2.2.2 W hf.2.2.1)
  have R3 := fun (W : World) => hide (valRight_any e.v3.1 e.v3.2.1 e.v3.2.2 W hf.2.2.2)
  generalize rightB e.v0.1 e.v0.2.1 e.v0.2.2 = q0 at HR R0
  generalize rightB e.v1.1 e.v1.2.1 e.v1.2.2 = q1 at HR R1
  generalize rightB e.v2.1 e.v2.2.1 e.v2.2.2 = q2 at HR R2
  generalize rightB e.v3.1 e.v3.2.1 e.v3.2.2 = q3 at HR R3
  have B0 := hide ((Below.refl _ w).alloc (Nat.le_refl _) (Obj.cells #[.int .i64 e.v0.1, .int .i64 e.v0.2.1, .string e.v0.2.2, .int .i64 e.v1.1, .int .i64 e.v1.2.1, .string e.v1.2.2, .int .i64 e.v2.1, .int .i64 e.v2.2.1, .string e.v2.2.2, .int .i64 e.v3.1, .int .i64 e.v3.2.1, .string e.v3.2.2] 32))
  clear hf
  go_enter Try.func32, Try.ntmps32
  go_wp2
  go_loopw [6] (fun i wr => ∃ k : Int, i = .int .i64 k ∧ (k = 0 ∨ (k = 1 ∧ Hid (q0 = true)) ∨ (k = 2 ∧ Hid (q0 = true ∧ q1 = true)) ∨ (k = 3 ∧ Hid (q0 = true ∧ q1 = true ∧ q2 = true)) ∨ (k = 4 ∧ Hid (rightE e = true))) ∧ Hid (Below w.heap.size w wr)) (fun i _ => (4 - intOf i).toNat)
  case atStart => exact ⟨0, rfl, Or.inl rfl, B0⟩
  case round =>
    clear B0
    obtain ⟨k, rfl, hk, HB⟩ := hrel
    rcases hk with rfl | ⟨rfl, HP⟩ | ⟨rfl, HP⟩ | ⟨rfl, HP⟩ | ⟨rfl, HP⟩
    · have X := R0 (wr.alloc (Obj.cells #[.int .i64 e.v0.1, .int .i64 e.v0.2.1, .string e.v0.2.2] 30))
      have B1 := hide (HB.out.alloc HB.out.size (Obj.cells #[.int .i64 e.v0.1, .int .i64 e.v0.2.1, .string e.v0.2.2] 30))
      have RX := run_ev0 wr e
      clear R0 R1 R2 R3
      go_wp2_with fail
      refine (unhide X).mono ?_
      rintro r w2 ⟨rfl, b2⟩
      have B2 := hide (B1.out.trans (b2.mono B1.out.size))
      clear X b2 B1
      cases hr : q0
      · have HF : Hid (rightE e = false) := hide (by rw [HR.out, hr]; simp)
        go_wp2
        go_ret
        exact ⟨ret_bool HF.out.symm, B2.out⟩
      · go_wp2
        exact ⟨⟨1, rfl, Or.inr (Or.inl ⟨rfl, hide hr⟩), B2⟩, by simp [intOf]⟩
    · have X := R1 (wr.alloc (Obj.cells #[.int .i64 e.v1.1, .int .i64 e.v1.2.1, .string e.v1.2.2] 30))
      have B1 := hide (HB.out.alloc HB.out.size (Obj.cells #[.int .i64 e.v1.1, .int .i64 e.v1.2.1, .string e.v1.2.2] 30))
      have RX := run_ev1 wr e
      clear R0 R1 R2 R3
      go_wp2_with fail
      refine (unhide X).mono ?_
      rintro r w2 ⟨rfl, b2⟩
      have B2 := hide (B1.out.trans (b2.mono B1.out.size))
      clear X b2 B1
      cases hr : q1
      · have HF : Hid (rightE e = false) := hide (by rw [HR.out, hr]; simp)
        go_wp2
        go_ret
        exact ⟨ret_bool HF.out.symm, B2.out⟩
      · go_wp2
        exact ⟨⟨2, rfl, Or.inr (Or.inr (Or.inl ⟨rfl, hide ⟨HP.out, hr⟩⟩)), B2⟩, by simp [intOf]⟩
    · have X := R2 (wr.alloc (Obj.cells #[.int .i64 e.v2.1, .int .i64 e.v2.2.1, .string e.v2.2.2] 30))
      have B1 := hide (HB.out.alloc HB.out.size (Obj.cells #[.int .i64 e.v2.1, .int .i64 e.v2.2.1, .string e.v2.2.2] 30))
      have RX := run_ev2 wr e
      clear R0 R1 R2 R3
      go_wp2_with fail
      refine (unhide X).mono ?_
      rintro r w2 ⟨rfl, b2⟩
      have B2 := hide (B1.out.trans (b2.mono B1.out.size))
      clear X b2 B1
      cases hr : q2
      · have HF : Hid (rightE e = false) := hide (by rw [HR.out, hr]; simp)
        go_wp2
        go_ret
        exact ⟨ret_bool HF.out.symm, B2.out⟩
      · go_wp2
        exact ⟨⟨3, rfl, Or.inr (Or.inr (Or.inr (Or.inl ⟨rfl, hide ⟨HP.out.1, HP.out.2, hr⟩⟩))), B2⟩, by simp [intOf]⟩
    · have X := R3 (wr.alloc (Obj.cells #[.int .i64 e.v3.1, .int .i64 e.v3.2.1, .string e.v3.2.2] 30))
      have B1 := hide (HB.out.alloc HB.out.size (Obj.cells #[.int .i64 e.v3.1, .int .i64 e.v3.2.1, .string e.v3.2.2] 30))
      have RX := run_ev3 wr e
      clear R0 R1 R2 R3
      go_wp2_with fail
      refine (unhide X).mono ?_
      rintro r w2 ⟨rfl, b2⟩
      have B2 := hide (B1.out.trans (b2.mono B1.out.size))
      clear X b2 B1
      cases hr : q3
      · have HF : Hid (rightE e = false) := hide (by rw [HR.out, hr]; simp)
        go_wp2
        go_ret
        exact ⟨ret_bool HF.out.symm, B2.out⟩
      · go_wp2
        exact ⟨⟨4, rfl, Or.inr (Or.inr (Or.inr (Or.inr ⟨rfl, hide (by rw [HR.out, HP.out.1, HP.out.2.1, HP.out.2.2, hr]; rfl)⟩))), B2⟩, by simp [intOf]⟩
    · go_wp2
      go_ret
      exact ⟨ret_bool HP.out.symm, HB.out⟩
end Go.Proofs.Ytoplmioejebnnaa
