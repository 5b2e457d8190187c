/-
  A row of operations as an argument: what its reading tells of memory.
-/
import Derived.Test.YtbiahajpmnfhbaaKW
import Derived.OpenShut
import Derived.Carry
import Derived.Deep.Slices
set_option linter.unusedSimpArgs false
set_option linter.unusedVariables false
namespace Go.Proofs.Ytbiahajpmnfhbaa
open Go.Deep Go.ChangeShapes Go.WideShapes Go.ChangeAt Go.WideMaps Go.WideElems Go.RowKit Go.Joins

/-- The value is a row of n operations. -/
def OpsIn (w : World) (v : Value) (n : Nat) : Prop :=
  n ≤ 9223372036854775807 ∧ ∃ (a : Option Addr) (cap : Nat), v = .slice a n cap ∧ ∀ i, i < n → ∃ (b off : Nat) (k m : Int), a = some ⟨b, off, none⟩ ∧ b < w.heap.size ∧
    w.cell? ⟨b, off + i * 2, none⟩ = some (.int .i64 k) ∧ w.cell? ⟨b, off + i * 2 + 1, none⟩ = some (.int .i64 m) ∧ -9223372036854775808 ≤ k ∧ k ≤ 9223372036854775807 ∧ -9223372036854775808 ≤ m ∧ m ≤ 9223372036854775807
theorem OpsIn.on {w w' : World} {v : Value} {n : Nat} (h : OpsIn w v n) (hb : Below w.heap.size w w') : OpsIn w' v n := by
  obtain ⟨hn, a, cap, hv, h⟩ := h
  refine ⟨hn, a, cap, hv, fun i hi => ?_⟩
  obtain ⟨b, off, k, m, ha, hlt, c0, c1, r⟩ := h i hi
  exact ⟨b, off, k, m, ha, Nat.lt_of_lt_of_le hlt hb.size, (hb.cell (p := ⟨b, _, none⟩) hlt).trans c0, (hb.cell (p := ⟨b, _, none⟩) hlt).trans c1, r⟩
theorem lt_cell {w : World} {a : Addr} {v : Value} (h : w.cell? a = some v) : a.block < w.heap.size := by
  rcases Nat.lt_or_ge a.block w.heap.size with h' | h'
  · exact h'
  · exfalso
    simp [World.cell?, Array.getElem?_eq_none h'] at h

theorem cellsOp : Try.prog.cellsOf 36 = 2 := by kernel_rfl
theorem cellsI : Try.prog.cellsOf 3 = 1 := by kernel_rfl

section
variable {H : Type} {enc : TypeId × Value → H} {W : World}
set_option maxRecDepth 100000 in
theorem open_ops {r : Reach} {b0 : Nat} {v : Value} {d : DataW H} {p : List MemPlace} (hv : Value.okWide Try.prog W r b0 28 v) (h : DataW.Trod enc Try.prog W 0 (fun _ => true) true 28 v d p) :
    ∃ n, OpsIn W v n := by
  obtain ⟨a0, len, cap, rfl⟩ := Go.WideShapes.okWide_slice Try.underlying28 hv
  obtain ⟨fuel, hf⟩ := h
  rcases Go.Deep.open_slice Try.underlying28 hf with ⟨h0, _⟩ | ⟨a, len', cap', m, n, D, Pl, h0, hb, hl, hm, hmm, _, hx⟩
  · simp [Value.cells] at h0
    obtain ⟨rfl, rfl, rfl⟩ := h0
    exact ⟨0, by omega, none, 0, rfl, fun i hi => by omega⟩
  · simp [Value.cells] at h0
    obtain ⟨rfl, rfl, rfl⟩ := h0
    simp at hmm
    subst hmm
    refine ⟨len, by unfold maxLen at hm; omega, some a, m, rfl, fun i hi => ?_⟩
    obtain ⟨cs', h1, h2⟩ := hx i (by omega)
    rw [cellsOp] at h1
    obtain ⟨_, hlen, hc⟩ := World.cells?_some h1
    match cs', hlen with
    | [c0, c1], _ =>
      obtain ⟨y0, y1, m', _, _, g0, g1⟩ := trod_struct2 Try.underlying36 h2
      simp only [cellsI] at g0 g1
      obtain ⟨k, e0, _, wk⟩ := DataW.trod_int Try.underlying3 g0
      obtain ⟨l, e1, _, wl⟩ := DataW.trod_int Try.underlying3 g1
      simp at e0 e1
      subst e0 e1
      have q0 := hc 0 (by omega)
      have q1 := hc 1 (by omega)
      obtain ⟨bk, off, spot⟩ := a
      have hs : spot = none := by
        obtain ⟨cs0, z1, _⟩ := hx 0 (by omega)
        rw [cellsOp] at z1
        obtain ⟨_, zl, zc⟩ := World.cells?_some z1
        have z0 := zc 0 (by omega)
        rw [List.getElem?_eq_getElem (by omega)] at z0
        simpa [Addr.add] using World.cell?_spot z0
      subst hs
      obtain ⟨k0, k1⟩ := bounds_i64 wk
      obtain ⟨l0, l1⟩ := bounds_i64 wl
      have f0 : ((Addr.mk bk off none).add (i * 2)).add 0 = ⟨bk, off + i * 2, none⟩ := by rw [Go.Deep.add_add, Go.WideShapes.add_plain]; rfl
      have f1 : ((Addr.mk bk off none).add (i * 2)).add 1 = ⟨bk, off + i * 2 + 1, none⟩ := by rw [Go.Deep.add_add, Go.WideShapes.add_plain]; rfl
      rw [f0] at q0
      rw [f1] at q1
      exact ⟨bk, off, k, l, rfl, lt_cell q0, q0, q1, k0, k1, l0, l1⟩
end
end Go.Proofs.Ytbiahajpmnfhbaa
