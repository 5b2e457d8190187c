/-
  The form of a set's cells.
-/
import Derived.Test.YtoplmioejebnnaaM0
set_option linter.unusedSimpArgs false
set_option linter.unusedVariables false
namespace Go.Proofs.Ytoplmioejebnnaa
open Go.RowKit

/-- The cells of a set: their form. -/
structure SC where
  a : Bool
  p : Option Addr
  n : Nat
  c : Nat
  d : Bool
  q : Option Addr
  m : Nat
  e : Nat
def SC.val (s : SC) : Value := .agg #[.bool s.a, .slice s.p s.n s.c, .bool s.d, .slice s.q s.m s.e]
def SC.zero : SC := ⟨false, none, 0, 0, false, none, 0, 0⟩
theorem SetAt.sc {w : World} {v : Value} {S : SetV} (h : SetAt w v S) : ∃ s : SC, v = s.val := by
  obtain ⟨vi, vs, rfl, hI, hS⟩ := h
  obtain ⟨ai, ci, rfl⟩ := hI.form
  obtain ⟨aq, cq, rfl⟩ := hS.form
  exact ⟨⟨_, _, _, _, _, _, _, _⟩, rfl⟩
theorem SetAt.scForm {w : World} {s : SC} {S : SetV} (h : SetAt w s.val S) : s.a = S.absent ∧ s.n = S.ints.length ∧ s.d = S.co ∧ s.m = S.strs.length := by
  obtain ⟨vi, vs, e, hI, hS⟩ := h
  obtain ⟨ai, ci, rfl⟩ := hI.form
  obtain ⟨aq, cq, rfl⟩ := hS.form
  unfold SC.val at e
  simp at e
  obtain ⟨e1, ⟨e2, e3, e4⟩, e5, e6, e7, e8⟩ := e
  exact ⟨e1, e3, e5, e7⟩
/-- The block holds just this set. -/
def StIn (w : World) (g : Nat) (s : SC) : Prop := w.heap[g]? = some (.cells #[.bool s.a, .slice s.p s.n s.c, .bool s.d, .slice s.q s.m s.e] 25 (0, 0))
theorem StIn.on {w w' : World} {g : Nat} {s : SC} (h : StIn w g s) (hb : Below w.heap.size w w') : StIn w' g s := (hb.block _ (lt_heap h)).trans h
theorem StIn.cells {w : World} {g : Nat} {s : SC} (h : StIn w g s) : w.cell? ⟨g, 0, none⟩ = some (.bool s.a) ∧ w.cell? ⟨g, 1, none⟩ = some (.slice s.p s.n s.c) ∧ w.cell? ⟨g, 2, none⟩ = some (.bool s.d) ∧ w.cell? ⟨g, 3, none⟩ = some (.slice s.q s.m s.e) := setCells h
end Go.Proofs.Ytoplmioejebnnaa
