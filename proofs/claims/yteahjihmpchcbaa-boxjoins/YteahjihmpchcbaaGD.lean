/-
  More steps by laws: comparisons of numbers, parts of a tuple, a value of an event; a store into a block among the call's own.
-/
import Derived.Test.YteahjihmpchcbaaGC
set_option linter.unusedSimpArgs false
set_option linter.unusedVariables false
namespace Go.Proofs.Yteahjihmpchcbaa
open Go.RowKit

theorem EvIn.at0 {w : World} {g : Nat} {e : EvV} (h : EvIn w g e) : w.cell? ⟨g, 0, none⟩ = some (.int .i64 e.v0.1) ∧ w.cell? ⟨g, 1, none⟩ = some (.int .i64 e.v0.2.1) ∧ w.cell? ⟨g, 2, none⟩ = some (.string e.v0.2.2) := ⟨cell_heap h 0, cell_heap h 1, cell_heap h 2⟩
theorem EvIn.at1 {w : World} {g : Nat} {e : EvV} (h : EvIn w g e) : w.cell? ⟨g, 3, none⟩ = some (.int .i64 e.v1.1) ∧ w.cell? ⟨g, 4, none⟩ = some (.int .i64 e.v1.2.1) ∧ w.cell? ⟨g, 5, none⟩ = some (.string e.v1.2.2) := ⟨cell_heap h 3, cell_heap h 4, cell_heap h 5⟩
theorem EvIn.at2 {w : World} {g : Nat} {e : EvV} (h : EvIn w g e) : w.cell? ⟨g, 6, none⟩ = some (.int .i64 e.v2.1) ∧ w.cell? ⟨g, 7, none⟩ = some (.int .i64 e.v2.2.1) ∧ w.cell? ⟨g, 8, none⟩ = some (.string e.v2.2.2) := ⟨cell_heap h 6, cell_heap h 7, cell_heap h 8⟩
theorem EvIn.at3 {w : World} {g : Nat} {e : EvV} (h : EvIn w g e) : w.cell? ⟨g, 9, none⟩ = some (.int .i64 e.v3.1) ∧ w.cell? ⟨g, 10, none⟩ = some (.int .i64 e.v3.2.1) ∧ w.cell? ⟨g, 11, none⟩ = some (.string e.v3.2.2) := ⟨cell_heap h 9, cell_heap h 10, cell_heap h 11⟩
section
variable {ops : Array Oper} {Q : Exit → Act → World → Prop} {S : World → Prop} {o : Oper} {a : Act}
theorem yl_lssI (hw : Region.wanted o (yielded ops a.tmps) = true) (x y : Operand) (t : TypeId) (ho : o.op = .binOp .lss 3 x y t) (p q : Int) (r : Bool) (hx : a.eval x = .int .i64 p) (hy : a.eval y = .int .i64 q) (hr : decide (p < q) = r) : YieldsIf Try.prog ops S o (.bool r) a :=
  Or.inl ⟨hw, fun w hS => by
    subst hr
    simp only [execOp, ho, hx, hy]
    go_simp⟩
theorem yl_gtrI (hw : Region.wanted o (yielded ops a.tmps) = true) (x y : Operand) (t : TypeId) (ho : o.op = .binOp .gtr 3 x y t) (p q : Int) (r : Bool) (hx : a.eval x = .int .i64 p) (hy : a.eval y = .int .i64 q) (hr : decide (q < p) = r) : YieldsIf Try.prog ops S o (.bool r) a :=
  Or.inl ⟨hw, fun w hS => by
    subst hr
    simp only [execOp, ho, hx, hy]
    go_simp⟩
theorem yl_leqI (hw : Region.wanted o (yielded ops a.tmps) = true) (x y : Operand) (t : TypeId) (ho : o.op = .binOp .leq 3 x y t) (p q : Int) (r : Bool) (hx : a.eval x = .int .i64 p) (hy : a.eval y = .int .i64 q) (hr : decide (p ≤ q) = r) : YieldsIf Try.prog ops S o (.bool r) a :=
  Or.inl ⟨hw, fun w hS => by
    subst hr
    simp only [execOp, ho, hx, hy]
    go_simp⟩
theorem yl_extract0 (hw : Region.wanted o (yielded ops a.tmps) = true) (x : Operand) (ho : o.op = .extract x 0) (p q : Value) (hx : a.eval x = .tuple #[p, q]) : YieldsIf Try.prog ops S o p a :=
  Or.inl ⟨hw, fun w hS => by
    simp only [execOp, ho, hx]
    go_simp⟩
theorem yl_extract1 (hw : Region.wanted o (yielded ops a.tmps) = true) (x : Operand) (ho : o.op = .extract x 1) (p q : Value) (hx : a.eval x = .tuple #[p, q]) : YieldsIf Try.prog ops S o q a :=
  Or.inl ⟨hw, fun w hS => by
    simp only [execOp, ho, hx]
    go_simp⟩
theorem rn_toU {w : World} (x : Operand) (ho : o.op = .convert 3 40 x) (p : Int) (hx : a.eval x = .int .i64 p) : ∃ n : Int, 0 ≤ n ∧ n < 18446744073709551616 ∧ (execOp a.eval o).run Try.prog w = .ok (.value (.int .u64 n)) w := by
  refine ⟨p % 18446744073709551616, by omega, by omega, ?_⟩
  simp only [execOp, ho, hx]
  go_simp
  rw [IntKind.wrap_u64]
theorem rn_rem4 {w : World} (x : Operand) (t : TypeId) (ho : o.op = .binOp .rem 40 x (.const (.int .u64 4)) t) (n : Int) (hx : a.eval x = .int .u64 n) (n0 : 0 ≤ n) (n1 : n < 18446744073709551616) : ∃ m : Int, 0 ≤ m ∧ m < 4 ∧ (execOp a.eval o).run Try.prog w = .ok (.value (.int .u64 m)) w := by
  refine ⟨n % 4, by omega, by omega, ?_⟩
  have he : a.eval (.const (.int .u64 4)) = .int .u64 4 := rfl
  simp only [execOp, ho, hx, he]
  go_simp
  exact Int.tmod_eq_emod_of_nonneg n0
theorem rn_toI {w : World} (x : Operand) (ho : o.op = .convert 40 3 x) (m : Int) (hx : a.eval x = .int .u64 m) (m0 : 0 ≤ m) (m1 : m < 4) : (execOp a.eval o).run Try.prog w = .ok (.value (.int .i64 m)) w := by
  simp only [execOp, ho, hx]
  go_simp
  rw [IntKind.wrap_i64]
  omega
/-! ### One operation of a region that draws its order, and is not taken first -/
theorem op_call {i : Nat} {w : World} {K : Act → World → Prop} (hi : ops[i]? = some o) (hw : Region.wanted o (yielded ops a.tmps) = true)
    (f : Nat) (xs : Array Operand) (ts : Array TypeId) (ho : o.op = .call { callee := .value (.func f), args := xs, argTypes := ts }) (vs : Array Value) (hv : xs.toList.map a.eval = vs.toList)
    (hrun : ∀ (W : World) (A : Array Value), (callFunc f A).run Try.prog W = .ok (.enter f A) W)
    (hc : Calls Try.prog f vs w fun r w' => ∃ v, r = .returned v ∧ K (a.put o.dst v) w') : wpOp Try.prog ops Q i K a w := by
  unfold wpOp
  simp only [hi]
  rw [if_pos hw]
  refine Or.inl ?_
  have hv : xs.map a.eval = vs := by
    rw [← Array.toList_inj, Array.toList_map]
    exact hv
  have he : a.eval (.func f) = .func (.func f) #[] #[] := rfl
  have hx : (execOp a.eval o).run Try.prog w = .ok (.enter f vs) w := by
    have := hrun w vs
    simp [execOp, ho, resolve, he, hv, Deferred.ofValue, invoke, this]
  unfold Oper.wp
  rw [hx, Oper.upon_enter]
  refine hc.mono ?_
  rintro e w' ⟨v, rfl, h1⟩
  exact h1
theorem op_allocBx {i : Nat} {w : World} {K : Act → World → Prop} (hi : ops[i]? = some o) (hw : Region.wanted o (yielded ops a.tmps) = true) (ho : o.op = .alloc 27)
    (h : ∀ W g, g = w.heap.size → BxIn W g SC.zero SC.zero SC.zero SC.zero → Below w.heap.size w W → K (a.put o.dst (.pointer (some ⟨g, 0, none⟩))) W) : wpOp Try.prog ops Q i K a w := by
  unfold wpOp
  simp only [hi]
  rw [if_pos hw]
  refine Or.inl ?_
  unfold Oper.wp
  rw [rn_allocBx ho]
  exact h _ _ rfl (zero_in w w.heap.size rfl) ((Below.refl _ w).alloc (Nat.le_refl _) _)
theorem op_storeBx {i : Nat} {w : World} {K : Act → World → Prop} (hi : ops[i]? = some o) (hw : Region.wanted o (yielded ops a.tmps) = true) (x y : Operand) (ho : o.op = .store 27 x y) {q : Nat} {s0 s1 s2 s3 x0 x1 x2 x3 : SC} (hx : a.eval x = .pointer (some ⟨q, 0, none⟩)) (hy : a.eval y = bxVal x0 x1 x2 x3) (hq : BxIn w q s0 s1 s2 s3)
    (h : ∀ W, BxIn W q x0 x1 x2 x3 → In1 w W q → K (a.put o.dst undef) W) : wpOp Try.prog ops Q i K a w := by
  unfold wpOp
  simp only [hi]
  rw [if_pos hw]
  refine Or.inl ?_
  unfold Oper.wp
  rw [rn_storeBx x y ho hx hy hq]
  obtain ⟨q1, q2⟩ := put_whole x0 x1 x2 x3 hq
  exact h _ q1 q2
end
theorem In1.boxAt {w W : World} {q : Nat} {x0 x1 x2 x3 : SC} (h : In1 w W q) (hp : BxIn w q x0 x1 x2 x3) {v : Value} {b : BoxV} (hb : BoxAt w v b) : BoxAt W v b := by
  obtain ⟨s0, s1, s2, s3, rfl, h0, h1, h2, h3⟩ := hb.scs
  exact boxAt_of (h.set hp h0) (h.set hp h1) (h.set hp h2) (h.set hp h3)
theorem In1.st {w W : World} {q p : Nat} (h : In1 w W q) {s : SC} (hp : StIn w p s) (hne : p ≠ q) : StIn W p s := (h.other p hne).trans hp
theorem In1.ev {w W : World} {q p : Nat} (h : In1 w W q) {e : EvV} (hp : EvIn w p e) (hne : p ≠ q) : EvIn W p e := (h.other p hne).trans hp
theorem refFew_below {y : Value} {l : List SetV} {w : World} (h : SetsAt w y l) : Calls Try.prog 13 #[y] w fun r w' => r = .returned (.bool (l.all fewB)) ∧ Below w.heap.size w w' :=
  (refFew_any y l w h).mono (by rintro r w' ⟨rfl, rfl⟩; exact ⟨rfl, Below.refl _ _⟩)
theorem SetAt.i64 {w : World} {v : Value} {s : SetV} (h : SetAt w v s) : inI64 s.ints := by
  obtain ⟨_, _, _, hI, _⟩ := h
  exact hI.1
theorem few1 {s : SetV} (h : [s].all fewB = true) : fewB s = true := by simpa using h
theorem with_out {b : BoxV} {x : Int} {s : SetV} (h : x < 0 ∨ 3 < x) : withBx b x s = b := by
  unfold withBx
  rw [if_neg (by omega)]
theorem all3 {a b c : BoxV} (h : [a, b, c].all fewBx = true) : fewBx a = true ∧ fewBx b = true ∧ fewBx c = true := by simpa using h
theorem all1 {a : BoxV} (h : [a].all fewBx = true) : fewBx a = true := by simpa using h
end Go.Proofs.Yteahjihmpchcbaa
