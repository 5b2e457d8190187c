/-
  Steps of a region that draws its order, one law for each kind of operation: what yields its value in every world that meets S, and a call of a Go function.
-/
import Derived.Test.YtoplmioejebnnaaM0
import Derived.Deep.RegionHeld3
set_option linter.unusedSimpArgs false
set_option linter.unusedVariables false
namespace Go.Proofs.Ytoplmioejebnnaa
open Go.RowKit

section
variable {ops : Array Oper} {Q : Exit → Act → World → Prop} {S : World → Prop} {o : Oper} {a : Act}
theorem yl_move (hw : Region.wanted o (yielded ops a.tmps) = true) (x : Operand) (ho : o.op = .move x) (v : Value) (hx : a.eval x = v) : YieldsIf Try.prog ops S o v a :=
  Or.inl ⟨hw, fun w _ => by simp [execOp, ho, hx]⟩
theorem yl_assign (hw : Region.wanted o (yielded ops a.tmps) = true) (x : Operand) (ho : o.op = .assign x) (v : Value) (hx : a.eval x = v) : YieldsIf Try.prog ops S o v a :=
  Or.inl ⟨hw, fun w _ => by simp [execOp, ho, hx]⟩
theorem yl_not (hw : Region.wanted o (yielded ops a.tmps) = true) (t : TypeId) (x : Operand) (ho : o.op = .unOp .not t x) (b : Bool) (hx : a.eval x = .bool b) : YieldsIf Try.prog ops S o (.bool (!b)) a :=
  Or.inl ⟨hw, fun w _ => by simp [execOp, ho, hx]; go_simp⟩
theorem yl_pickT (hw : Region.wanted o (yielded ops a.tmps) = true) (c x y : Operand) (ho : o.op = .pick c x y) (hc : a.eval c = .bool true) (v : Value) (hx : a.eval x = v) : YieldsIf Try.prog ops S o v a :=
  Or.inl ⟨hw, fun w _ => by simp [execOp, ho, hc, hx]; go_simp⟩
theorem yl_pickF (hw : Region.wanted o (yielded ops a.tmps) = true) (c x y : Operand) (ho : o.op = .pick c x y) (hc : a.eval c = .bool false) (v : Value) (hx : a.eval y = v) : YieldsIf Try.prog ops S o v a :=
  Or.inl ⟨hw, fun w _ => by simp [execOp, ho, hc, hx]; go_simp⟩
theorem yl_undef (hw : Region.wanted o (yielded ops a.tmps) = false) : YieldsIf Try.prog ops S o undef a := Or.inr ⟨hw, rfl⟩

theorem run_call {f : Nat} {fn : Func} (hf : Try.prog.funcs[f]? = some fn) (hn : (fn.name == "runtime.NumGoroutine") = false) (hb : fn.body.isNone = false) (W : World) (A : Array Value) : (callFunc f A).run Try.prog W = .ok (.enter f A) W := by
  simp [callFunc, go_sem, hf, -beq_iff_eq, -Option.isNone_iff_eq_none, hn, hb]
/-- A call of a Go function, the only one that may come up now. -/
theorem held_call {md : Region.Mode} {fuel : Nat} {listed : Array Bool} {w : World} (i : Nat) (hr : Region.ready md ops listed = [i]) (hi : ops[i]? = some o) (hw : Region.wanted o (yielded ops a.tmps) = true)
    (f : Nat) (xs : Array Operand) (ts : Array TypeId) (ho : o.op = .call { callee := .value (.func f), args := xs, argTypes := ts }) (vs : Array Value) (hv : xs.toList.map a.eval = vs.toList)
    (hrun : ∀ (W : World) (A : Array Value), (callFunc f A).run Try.prog W = .ok (.enter f A) W)
    (hc : Calls Try.prog f vs w fun r w' => ∃ v, r = .returned v ∧ S w' ∧ (S w' → wpAnyH Try.prog md ops Q S fuel (listed.setIfInBounds i true) (a.put o.dst v) w')) :
    wpAnyH Try.prog md ops Q S (fuel + 1) listed a w := by
  refine wpAnyH_all hr (by simp) ?_
  intro j hj
  simp at hj
  subst hj
  unfold wpOp
  simp only [hi]
  rw [if_pos hw]
  refine Or.inl ?_
  have hv : xs.map a.eval = vs := by
    rw [← Array.toList_inj, Array.toList_map]
    exact hv
  have he : a.eval (.func f) = .func (.func f) #[] #[] := rfl
  have hx : (execOp a.eval o).run Try.prog w = .ok (.enter f vs) w := by
    have := hrun w vs
    simp [execOp, ho, resolve, he, hv, Deferred.ofValue, invoke, this]
  unfold Oper.wp
  rw [hx, Oper.upon_enter]
  refine hc.mono ?_
  rintro e w' ⟨v, rfl, h1, h2⟩
  exact ⟨h1, h2 h1⟩
/-! ### Steps of a region that keeps its order -/
theorem wl_yield {rest : List Oper} {w : World} (v : Value) (hy : YieldsIf Try.prog ops (fun x => x = w) o v a) (h : wpList Try.prog ops Q rest (a.put o.dst v) w) : wpList Try.prog ops Q (o :: rest) a w := by
  unfold wpList
  rcases hy with ⟨hw, hv⟩ | ⟨hw, rfl⟩
  · rw [if_pos hw]
    left
    unfold Oper.wp
    rw [hv w rfl]
    exact h
  · rw [if_neg (by rw [hw]; simp)]
    exact h
theorem wl_run {rest : List Oper} {w : World} (hw : Region.wanted o (yielded ops a.tmps) = true) (v : Value) (w' : World) (hr : (execOp a.eval o).run Try.prog w = .ok (.value v) w') (h : wpList Try.prog ops Q rest (a.put o.dst v) w') : wpList Try.prog ops Q (o :: rest) a w := by
  unfold wpList
  rw [if_pos hw]
  left
  unfold Oper.wp
  rw [hr]
  exact h
theorem wl_skip {rest : List Oper} {w : World} (hw : Region.wanted o (yielded ops a.tmps) = true) (w' : World) (hr : (execOp a.eval o).run Try.prog w = .ok .skip w') (h : wpList Try.prog ops Q rest (a.put o.dst undef) w') : wpList Try.prog ops Q (o :: rest) a w := by
  unfold wpList
  rw [if_pos hw]
  left
  unfold Oper.wp
  rw [hr]
  exact h
theorem wl_call {rest : List Oper} {w : World} (hw : Region.wanted o (yielded ops a.tmps) = true)
    (f : Nat) (xs : Array Operand) (ts : Array TypeId) (ho : o.op = .call { callee := .value (.func f), args := xs, argTypes := ts }) (vs : Array Value) (hv : xs.toList.map a.eval = vs.toList)
    (hrun : ∀ (W : World) (A : Array Value), (callFunc f A).run Try.prog W = .ok (.enter f A) W)
    (hc : Calls Try.prog f vs w fun r w' => ∃ v, r = .returned v ∧ wpList Try.prog ops Q rest (a.put o.dst v) w') : wpList Try.prog ops Q (o :: rest) a w := by
  unfold wpList
  rw [if_pos hw]
  left
  have hv : xs.map a.eval = vs := by
    rw [← Array.toList_inj, Array.toList_map]
    exact hv
  have he : a.eval (.func f) = .func (.func f) #[] #[] := rfl
  have hx : (execOp a.eval o).run Try.prog w = .ok (.enter f vs) w := by
    have := hrun w vs
    simp [execOp, ho, resolve, he, hv, Deferred.ofValue, invoke, this]
  unfold Oper.wp
  rw [hx, Oper.upon_enter]
  refine hc.mono ?_
  rintro e w' ⟨v, rfl, h1⟩
  exact h1
end
end Go.Proofs.Ytoplmioejebnnaa
