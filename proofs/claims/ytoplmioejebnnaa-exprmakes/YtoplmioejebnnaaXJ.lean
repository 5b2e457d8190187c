/-
  The program's Size, Right and Eval, in the words of the expression alone.
-/
import Derived.Test.YtoplmioejebnnaaXI
set_option linter.unusedSimpArgs false
set_option linter.unusedVariables false
namespace Go.Proofs.Ytoplmioejebnnaa
open Go.RowKit

/-- Size's answer. -/
def sizeA (x : ExV) : Int × Int := if fitsX x then (countX 21 x, deepX 21 x) else (0, 0)
theorem progSize_any (k : Nat) (c : EC) (x : ExV) (w : World) (hx : ExAt k w c.val x) (hk : k ≤ 1000) :
    Calls Try.prog 11 #[c.val] w fun r w' => r = .returned (.tuple #[.int .i64 (sizeA x).1, .int .i64 (sizeA x).2]) ∧ Below w.heap.size w w' := by
  have := size_any k c x w hx hk
  rw [size_plain (ExAt.low k hx)] at this
  exact this
theorem progRight_any (k : Nat) (c : EC) (x : ExV) (w : World) (hx : ExAt k w c.val x) (hk : k ≤ 1000) :
    Calls Try.prog 15 #[c.val] w fun r w' => r = .returned (.bool (rightX x)) ∧ Below w.heap.size w w' := by
  have := right_any k c x w hx hk
  rw [right_plain (ExAt.low k hx)] at this
  exact this

set_option maxHeartbeats 4000000 in
set_option maxRecDepth 100000 in
theorem progEval_any (k : Nat) (c : EC) (x : ExV) (e : EvV) (w : World) (hx : ExAt k w c.val x) (hk : k ≤ 1000) (hf : evFit e) :
    Calls Try.prog 17 #[c.val, evVal e] w fun r w' => r = .returned (.bool (evalX x e)) ∧ Below w.heap.size w w' := by
  have HT := hide (XeAt.new w c e)
  have X := fun (W : World) (hb : Below w.heap.size w W) => hide (progRight_any k c x W (ExAt.on hb _ hx) hk)
  have Y := fun (W : World) => hide (event_any e W hf)
  have Z : rightX x = true → ∀ (W : World) (hb : Below w.heap.size w W), Hid (Calls Try.prog 33 #[c.val, evVal e] W fun r W' => r = .returned (.bool (isX 8 x e)) ∧ Below W.heap.size W W') := fun hr W hb => hide (by
    have h8 := rightX_low hr
    unfold rightX at hr
    rw [Bool.and_eq_true] at hr
    exact isSo_any e hf 8 x c W (ExAt.shrink k 8 (ExAt.on hb _ hx) h8) hr.2)
  have EQ : Hid (evalX x e = ((rightX x && rightE e) && isX 8 x e)) := hide rfl
  generalize evalX x e = R at EQ ⊢
  generalize isX 8 x e = p at EQ Z
  clear hx hf hk
  unfold exObj evObj at HT
  unfold EC.val evVal at *
  cases hr : rightX x
  · rw [hr] at X EQ
    have E : Hid (R = false) := hide EQ.out
    clear Z EQ Y
    go_enter Try.func17, Try.ntmps17
    go_wp2_with fail
    refine (unhide (X _ HT.out.b)).mono ?_
    rintro r w1 ⟨rfl, b1⟩
    have HT1 := hide (HT.out.on b1)
    clear X HT b1
    go_wp2
    go_ret
    exact ⟨ret_bool E.out.symm, HT1.out.b⟩
  · rw [hr] at X EQ
    have Z := Z hr
    clear hr
    generalize rightE e = q at Y EQ
    cases q
    · have E : Hid (R = false) := hide EQ.out
      clear Z EQ
      go_enter Try.func17, Try.ntmps17
      go_wp2_with fail
      refine (unhide (X _ HT.out.b)).mono ?_
      rintro r w1 ⟨rfl, b1⟩
      have HT1 := hide (HT.out.on b1)
      obtain ⟨d0, d1, d2, d3, d4, d5, d6, d7, d8, d9, d10, d11⟩ := evCells HT1.out.e
      clear X HT b1
      go_wp2_with fail
      refine (unhide (Y _)).mono ?_
      rintro r w2 ⟨rfl, b2⟩
      have HT2 := hide (HT1.out.on b2)
      clear Y HT1 b2 d0 d1 d2 d3 d4 d5 d6 d7 d8 d9 d10 d11
      go_wp2
      go_ret
      exact ⟨ret_bool E.out.symm, HT2.out.b⟩
    · have E : Hid (R = p) := hide EQ.out
      clear EQ
      go_enter Try.func17, Try.ntmps17
      go_wp2_with fail
      refine (unhide (X _ HT.out.b)).mono ?_
      rintro r w1 ⟨rfl, b1⟩
      have HT1 := hide (HT.out.on b1)
      obtain ⟨d0, d1, d2, d3, d4, d5, d6, d7, d8, d9, d10, d11⟩ := evCells HT1.out.e
      clear X HT b1
      go_wp2_with fail
      refine (unhide (Y _)).mono ?_
      rintro r w2 ⟨rfl, b2⟩
      have HT2 := hide (HT1.out.on b2)
      clear Y HT1 b2 d0 d1 d2 d3 d4 d5 d6 d7 d8 d9 d10 d11
      obtain ⟨d0, d1, d2, d3, d4, d5, d6, d7, d8, d9, d10, d11⟩ := evCells HT2.out.e
      obtain ⟨c0, c1, c2, c3, c4, c5, c6⟩ := ecCells1 HT2.out.x
      go_wp2_with fail
      refine (unhide (Z _ HT2.out.b)).mono ?_
      rintro r w3 ⟨rfl, b3⟩
      have HT3 := hide (HT2.out.on b3)
      clear Z HT2 b3 d0 d1 d2 d3 d4 d5 d6 d7 d8 d9 d10 d11 c0 c1 c2 c3 c4 c5 c6
      go_wp2
      go_ret
      exact ⟨ret_bool E.out.symm, HT3.out.b⟩
end Go.Proofs.Ytoplmioejebnnaa
