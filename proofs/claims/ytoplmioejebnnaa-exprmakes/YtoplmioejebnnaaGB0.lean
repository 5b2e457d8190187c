/-
  Steps of regions: loads of sets, values, events; places in an event; ==.
-/
import Derived.Test.YtoplmioejebnnaaGA
set_option linter.unusedSimpArgs false
set_option linter.unusedVariables false
namespace Go.Proofs.Ytoplmioejebnnaa
open Go.RowKit

section
variable {ops : Array Oper} {Q : Exit → Act → World → Prop} {S : World → Prop} {o : Oper} {a : Act}
set_option maxHeartbeats 1000000 in
set_option maxRecDepth 100000 in
theorem yl_set (hw : Region.wanted o (yielded ops a.tmps) = true) (x : Operand) (ho : o.op = .load 25 x) (g : Nat) (k : Nat) (hx : a.eval x = .pointer (some ⟨g, k, none⟩)) (x0 x1 x2 x3 : Value)
    (h : ∀ w, S w → w.cell? ⟨g, k, none⟩ = some x0 ∧ w.cell? ⟨g, k + 1, none⟩ = some x1 ∧ w.cell? ⟨g, k + 2, none⟩ = some x2 ∧ w.cell? ⟨g, k + 3, none⟩ = some x3) : YieldsIf Try.prog ops S o (.agg #[x0, x1, x2, x3]) a :=
  Or.inl ⟨hw, fun w hS => by
    obtain ⟨c0, c1, c2, c3⟩ := h w hS
    simp only [execOp, ho, hx]
    go_simp⟩
set_option maxHeartbeats 1000000 in
set_option maxRecDepth 100000 in
theorem yl_val (hw : Region.wanted o (yielded ops a.tmps) = true) (x : Operand) (ho : o.op = .load 30 x) (g : Nat) (k : Nat) (hx : a.eval x = .pointer (some ⟨g, k, none⟩)) (x0 x1 x2 : Value)
    (h : ∀ w, S w → w.cell? ⟨g, k, none⟩ = some x0 ∧ w.cell? ⟨g, k + 1, none⟩ = some x1 ∧ w.cell? ⟨g, k + 2, none⟩ = some x2) : YieldsIf Try.prog ops S o (.agg #[x0, x1, x2]) a :=
  Or.inl ⟨hw, fun w hS => by
    obtain ⟨c0, c1, c2⟩ := h w hS
    simp only [execOp, ho, hx]
    go_simp⟩
set_option maxHeartbeats 1000000 in
set_option maxRecDepth 100000 in
theorem yl_ev (hw : Region.wanted o (yielded ops a.tmps) = true) (x : Operand) (ho : o.op = .load 32 x) (g : Nat) (k : Nat) (hx : a.eval x = .pointer (some ⟨g, k, none⟩)) (x0 x1 x2 x3 x4 x5 x6 x7 x8 x9 x10 x11 : Value)
    (h : ∀ w, S w → w.cell? ⟨g, k, none⟩ = some x0 ∧ w.cell? ⟨g, k + 1, none⟩ = some x1 ∧ w.cell? ⟨g, k + 2, none⟩ = some x2 ∧ w.cell? ⟨g, k + 3, none⟩ = some x3 ∧ w.cell? ⟨g, k + 4, none⟩ = some x4 ∧ w.cell? ⟨g, k + 5, none⟩ = some x5 ∧ w.cell? ⟨g, k + 6, none⟩ = some x6 ∧ w.cell? ⟨g, k + 7, none⟩ = some x7 ∧ w.cell? ⟨g, k + 8, none⟩ = some x8 ∧ w.cell? ⟨g, k + 9, none⟩ = some x9 ∧ w.cell? ⟨g, k + 10, none⟩ = some x10 ∧ w.cell? ⟨g, k + 11, none⟩ = some x11) : YieldsIf Try.prog ops S o (.agg #[x0, x1, x2, x3, x4, x5, x6, x7, x8, x9, x10, x11]) a :=
  Or.inl ⟨hw, fun w hS => by
    obtain ⟨c0, c1, c2, c3, c4, c5, c6, c7, c8, c9, c10, c11⟩ := h w hS
    simp only [execOp, ho, hx]
    go_simp⟩
set_option maxHeartbeats 1000000 in
set_option maxRecDepth 100000 in
theorem yl_atEv (hw : Region.wanted o (yielded ops a.tmps) = true) (x y : Operand) (ho : o.op = .indexAddr 32 x y) (g : Nat) (i : Nat) (hx : a.eval x = .pointer (some ⟨g, 0, none⟩)) (hy : a.eval y = .int .i64 i) (hi : i < 4) : YieldsIf Try.prog ops S o (.pointer (some ⟨g, i * 3, none⟩)) a :=
  Or.inl ⟨hw, fun w hS => by
    simp only [execOp, ho, hx, hy]
    match i, hi with
    | 0, _ => go_simp
    | 1, _ => go_simp
    | 2, _ => go_simp
    | 3, _ => go_simp⟩
theorem yl_eqB (hw : Region.wanted o (yielded ops a.tmps) = true) (x y : Operand) (t : TypeId) (ho : o.op = .binOp .eql 4 x y t) (p q : Bool) (hx : a.eval x = .bool p) (hy : a.eval y = .bool q) : YieldsIf Try.prog ops S o (.bool (p == q)) a :=
  Or.inl ⟨hw, fun w hS => by
    simp only [execOp, ho, hx, hy]
    go_simp⟩
theorem yl_eqI (hw : Region.wanted o (yielded ops a.tmps) = true) (x y : Operand) (t : TypeId) (ho : o.op = .binOp .eql 3 x y t) (p q : Int) (hx : a.eval x = .int .i64 p) (hy : a.eval y = .int .i64 q) : YieldsIf Try.prog ops S o (.bool (p == q)) a :=
  Or.inl ⟨hw, fun w hS => by
    simp only [execOp, ho, hx, hy]
    go_simp⟩
end
end Go.Proofs.Ytoplmioejebnnaa
