/-
  An event opened from its reading.
-/
import Derived.Test.YtoplmioejebnnaaTN
import Derived.Test.YtoplmioejebnnaaEVA
import Derived.Deep.Strs
set_option linter.unusedSimpArgs false
set_option linter.unusedVariables false
namespace Go.Proofs.Ytoplmioejebnnaa
open Go.Deep Go.ChangeShapes Go.WideShapes Go.ChangeAt Go.WideMaps Go.WideElems Go.RowKit Go.Joins

theorem cut3 {α : Type} (k : Nat) {l : List α} (h : l.length = k + 3) : ∃ a b c r, l = a :: b :: c :: r ∧ r.length = k := by
  cases l with
  | nil => simp at h
  | cons a l => cases l with
    | nil => simp at h
    | cons b l => cases l with
      | nil => simp at h
      | cons c l => exact ⟨a, b, c, l, rfl, by simpa using h⟩
theorem okWide_array {P : Program} {w : World} {r : Reach} {base : Nat} {t : TypeId} {v : Value} {n : Nat} {e : TypeId} (ht : P.underlying t = some (.array n e)) (h : Value.okWide P w r base t v) : ∃ cs, v = .agg cs ∧ cs.size = P.cellsOf t := by
  simp only [Value.okWide, ht] at h
  obtain ⟨cs, h1, h2, _⟩ := h
  exact ⟨cs, h1, h2⟩
theorem cellsEv : Try.prog.cellsOf 32 = 12 := by kernel_rfl
section
variable {H : Type} {enc : TypeId × Value → H} {W : World}
set_option maxRecDepth 100000 in
theorem open_cells {m : Nat} {c0 c1 c2 : Value} {y : DataW H × List MemPlace} (h : DataW.trod enc Try.prog W 0 (fun _ => true) true m 30 [c0, c1, c2] = some y) :
    ∃ (k n : Int) (s : ByteArray), c0 = .int .i64 k ∧ c1 = .int .i64 n ∧ c2 = .string s ∧ (Lit.int .i64 n).wf = true ∧ s.size ≤ maxLen := by
  obtain ⟨y0, y1, y2, m', rfl, _, h0, h1, h2⟩ := trod_struct3 Try.underlying30 h
  simp only [cellsI, cellsS] at h0 h1 h2
  obtain ⟨k, e0, rfl, wk⟩ := DataW.trod_int Try.underlying3 h0
  obtain ⟨n, e1, rfl, wn⟩ := DataW.trod_int Try.underlying3 h1
  obtain ⟨s, e2, rfl, ws⟩ := DataW.trod_string Try.underlying9 h2
  simp at e0 e1 e2
  subst e0 e1 e2
  exact ⟨k, n, s, rfl, rfl, rfl, wn, ws⟩
set_option maxRecDepth 100000 in
theorem open_evA {r : Reach} {b0 : Nat} {v : Value} {d : DataW H} {p : List MemPlace} (hv : Value.okWide Try.prog W r b0 32 v) (h : DataW.Trod enc Try.prog W 0 (fun _ => true) true 32 v d p) :
    ∃ e : EvV, v = evVal e ∧ evFit e ∧ inE e := by
  obtain ⟨cs, rfl, hsz⟩ := okWide_array Try.underlying32 hv
  rw [cellsEv] at hsz
  obtain ⟨l⟩ := cs
  obtain ⟨a0, a1, a2, l1, rfl, q1⟩ := cut3 9 (show l.length = 9 + 3 from hsz)
  obtain ⟨b0, b1, b2, l2, rfl, q2⟩ := cut3 6 q1
  obtain ⟨c0, c1, c2, l3, rfl, q3⟩ := cut3 3 q2
  obtain ⟨d0, d1, d2, l4, rfl, q4⟩ := cut3 0 q3
  obtain rfl : l4 = [] := List.length_eq_zero_iff.1 q4
  obtain ⟨fuel, hf⟩ := h
  obtain ⟨xs, m, _, hx, _, hlen, he⟩ := DataW.trod_array Try.underlying32 hf
  simp only [cellsVal, Value.cells] at he
  have g0 := he 0 (by omega)
  have g1 := he 1 (by omega)
  have g2 := he 2 (by omega)
  have g3 := he 3 (by omega)
  match xs, hlen with
  | [y0, y1, y2, y3], _ =>
    simp at g0 g1 g2 g3
    obtain ⟨k0, n0, s0, rfl, rfl, rfl, w1, w2⟩ := open_cells g0
    obtain ⟨k1, n1, s1, rfl, rfl, rfl, w4, w5⟩ := open_cells g1
    obtain ⟨k2, n2, s2, rfl, rfl, rfl, w7, w8⟩ := open_cells g2
    obtain ⟨k3, n3, s3, rfl, rfl, rfl, w10, w11⟩ := open_cells g3
    refine ⟨⟨(k0, n0, s0), (k1, n1, s1), (k2, n2, s2), (k3, n3, s3)⟩, rfl, ⟨w2, w5, w8, w11⟩, fun i hi => ?_⟩
    match i, hi with
    | 0, _ => exact bounds_i64 w1
    | 1, _ => exact bounds_i64 w4
    | 2, _ => exact bounds_i64 w7
    | 3, _ => exact bounds_i64 w10
end
end Go.Proofs.Ytoplmioejebnnaa
