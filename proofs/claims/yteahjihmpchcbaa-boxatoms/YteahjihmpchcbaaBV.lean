/-
  What the closings of the fourth layer share: a box and an event, opened from their readings.
-/
import Derived.Test.YteahjihmpchcbaaTN
import Derived.Test.YteahjihmpchcbaaBE
import Derived.Deep.Strs
set_option linter.unusedSimpArgs false
set_option linter.unusedVariables false
namespace Go.Proofs.Yteahjihmpchcbaa
open Go.Deep Go.ChangeShapes Go.WideShapes Go.ChangeAt Go.WideMaps Go.WideElems Go.RowKit Go.Joins

theorem cut3 {α : Type} (k : Nat) {l : List α} (h : l.length = k + 3) : ∃ a b c r, l = a :: b :: c :: r ∧ r.length = k := by
  cases l with
  | nil => simp at h
  | cons a l => cases l with
    | nil => simp at h
    | cons b l => cases l with
      | nil => simp at h
      | cons c l => exact ⟨a, b, c, l, rfl, by simpa using h⟩
theorem cut4 {α : Type} (k : Nat) {l : List α} (h : l.length = k + 4) : ∃ a b c d r, l = a :: b :: c :: d :: r ∧ r.length = k := by
  obtain ⟨a, b, c, r, rfl, hr⟩ := cut3 (k + 1) (l := l) (by omega)
  cases r with
  | nil => simp at hr
  | cons d r => exact ⟨a, b, c, d, r, rfl, by simpa using hr⟩
theorem okWide_array {P : Program} {w : World} {r : Reach} {base : Nat} {t : TypeId} {v : Value} {n : Nat} {e : TypeId} (ht : P.underlying t = some (.array n e)) (h : Value.okWide P w r base t v) : ∃ cs, v = .agg cs ∧ cs.size = P.cellsOf t := by
  simp only [Value.okWide, ht] at h
  obtain ⟨cs, h1, h2, _⟩ := h
  exact ⟨cs, h1, h2⟩
theorem cellsEv : Try.prog.cellsOf 31 = 12 := by kernel_rfl
theorem cellsBx : Try.prog.cellsOf 27 = 16 := by kernel_rfl

section
variable {H : Type} {enc : TypeId × Value → H} {W : World}
set_option maxRecDepth 100000 in
theorem open_cells {m : Nat} {c0 c1 c2 : Value} {y : DataW H × List MemPlace} (h : DataW.trod enc Try.prog W 0 (fun _ => true) true m 29 [c0, c1, c2] = some y) :
    ∃ (k n : Int) (s : ByteArray), c0 = .int .i64 k ∧ c1 = .int .i64 n ∧ c2 = .string s ∧ (Lit.int .i64 n).wf = true ∧ s.size ≤ maxLen := by
  obtain ⟨y0, y1, y2, m', rfl, _, h0, h1, h2⟩ := trod_struct3 Try.underlying29 h
  simp only [cellsI, cellsS] at h0 h1 h2
  obtain ⟨k, e0, rfl, wk⟩ := DataW.trod_int Try.underlying3 h0
  obtain ⟨n, e1, rfl, wn⟩ := DataW.trod_int Try.underlying3 h1
  obtain ⟨s, e2, rfl, ws⟩ := DataW.trod_string Try.underlying9 h2
  simp at e0 e1 e2
  subst e0 e1 e2
  exact ⟨k, n, s, rfl, rfl, rfl, wn, ws⟩
set_option maxRecDepth 100000 in
theorem open_evA {r : Reach} {b0 : Nat} {v : Value} {d : DataW H} {p : List MemPlace} (hv : Value.okWide Try.prog W r b0 31 v) (h : DataW.Trod enc Try.prog W 0 (fun _ => true) true 31 v d p) :
    ∃ e : EvV, v = evVal e ∧ evFit e ∧ inE e := by
  obtain ⟨cs, rfl, hsz⟩ := okWide_array Try.underlying31 hv
  rw [cellsEv] at hsz
  obtain ⟨l⟩ := cs
  obtain ⟨a0, a1, a2, l1, rfl, q1⟩ := cut3 9 (show l.length = 9 + 3 from hsz)
  obtain ⟨b0, b1, b2, l2, rfl, q2⟩ := cut3 6 q1
  obtain ⟨c0, c1, c2, l3, rfl, q3⟩ := cut3 3 q2
  obtain ⟨d0, d1, d2, l4, rfl, q4⟩ := cut3 0 q3
  obtain rfl : l4 = [] := List.length_eq_zero_iff.1 q4
  obtain ⟨fuel, hf⟩ := h
  obtain ⟨xs, m, _, hx, _, hlen, he⟩ := DataW.trod_array Try.underlying31 hf
  simp only [cellsVal, Value.cells] at he
  have g0 := he 0 (by omega)
  have g1 := he 1 (by omega)
  have g2 := he 2 (by omega)
  have g3 := he 3 (by omega)
  match xs, hlen with
  | [y0, y1, y2, y3], _ =>
    simp at g0 g1 g2 g3
    obtain ⟨k0, n0, s0, rfl, rfl, rfl, w1, w2⟩ := open_cells g0
    obtain ⟨k1, n1, s1, rfl, rfl, rfl, w4, w5⟩ := open_cells g1
    obtain ⟨k2, n2, s2, rfl, rfl, rfl, w7, w8⟩ := open_cells g2
    obtain ⟨k3, n3, s3, rfl, rfl, rfl, w10, w11⟩ := open_cells g3
    refine ⟨⟨(k0, n0, s0), (k1, n1, s1), (k2, n2, s2), (k3, n3, s3)⟩, rfl, ⟨w2, w5, w8, w11⟩, fun i hi => ?_⟩
    match i, hi with
    | 0, _ => exact bounds_i64 w1
    | 1, _ => exact bounds_i64 w4
    | 2, _ => exact bounds_i64 w7
    | 3, _ => exact bounds_i64 w10
set_option maxRecDepth 100000 in
theorem open_boxA {r : Reach} {b0 : Nat} {v : Value} {d : DataW H} {p : List MemPlace} (hv : Value.okWide Try.prog W r b0 27 v) (h : DataW.Trod enc Try.prog W 0 (fun _ => true) true 27 v d p) :
    ∃ b : BoxV, BoxAt W v b := by
  obtain ⟨cs, rfl, hsz⟩ := okWide_array Try.underlying27 hv
  rw [cellsBx] at hsz
  obtain ⟨l⟩ := cs
  obtain ⟨a0, a1, a2, a3, l1, rfl, q1⟩ := cut4 12 (show l.length = 12 + 4 from hsz)
  obtain ⟨b0, b1, b2, b3, l2, rfl, q2⟩ := cut4 8 q1
  obtain ⟨c0, c1, c2, c3, l3, rfl, q3⟩ := cut4 4 q2
  obtain ⟨d0, d1, d2, d3, l4, rfl, q4⟩ := cut4 0 q3
  obtain rfl : l4 = [] := List.length_eq_zero_iff.1 q4
  obtain ⟨fuel, hf⟩ := h
  obtain ⟨xs, m, _, hx, _, hlen, he⟩ := DataW.trod_array Try.underlying27 hf
  simp only [cellsSet, Value.cells] at he
  have g0 := he 0 (by omega)
  have g1 := he 1 (by omega)
  have g2 := he 2 (by omega)
  have g3 := he 3 (by omega)
  match xs, hlen with
  | [y0, y1, y2, y3], _ =>
    simp at g0 g1 g2 g3
    obtain ⟨S0, h0⟩ := open_setc g0
    obtain ⟨S1, h1⟩ := open_setc g1
    obtain ⟨S2, h2⟩ := open_setc g2
    obtain ⟨S3, h3⟩ := open_setc g3
    obtain ⟨s0, e0⟩ := h0.sc
    obtain ⟨s1, e1⟩ := h1.sc
    obtain ⟨s2, e2⟩ := h2.sc
    obtain ⟨s3, e3⟩ := h3.sc
    rw [e0] at h0
    rw [e1] at h1
    rw [e2] at h2
    rw [e3] at h3
    unfold SC.val at e0 e1 e2 e3
    simp at e0 e1 e2 e3
    obtain ⟨rfl, rfl, rfl, rfl⟩ := e0
    obtain ⟨rfl, rfl, rfl, rfl⟩ := e1
    obtain ⟨rfl, rfl, rfl, rfl⟩ := e2
    obtain ⟨rfl, rfl, rfl, rfl⟩ := e3
    exact ⟨⟨S0, S1, S2, S3⟩, boxAt_of h0 h1 h2 h3⟩
end
end Go.Proofs.Yteahjihmpchcbaa
