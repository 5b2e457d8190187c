/-
  An event, opened and shut.
-/
import Derived.Test.YthiffpdioclnlaaDoorCC
import Derived.Deep.Strs
set_option linter.unusedSimpArgs false
set_option linter.unusedVariables false
namespace Go.Proofs.YthiffpdioclnlaaDoor
open Go.Deep Go.ChangeShapes Go.WideShapes Go.ChangeAt Go.WideMaps Go.WideElems Go.RowKit Go.Joins

theorem cut3 {α : Type} (k : Nat) {l : List α} (h : l.length = k + 3) : ∃ a b c r, l = a :: b :: c :: r ∧ r.length = k := by
  cases l with
  | nil => simp at h
  | cons a l => cases l with
    | nil => simp at h
    | cons b l => cases l with
      | nil => simp at h
      | cons c l => exact ⟨a, b, c, l, rfl, by simpa using h⟩
theorem okWide_array {P : Program} {w : World} {r : Reach} {base : Nat} {t : TypeId} {v : Value} {n : Nat} {e : TypeId} (ht : P.underlying t = some (.array n e)) (h : Value.okWide P w r base t v) : ∃ cs, v = .agg cs ∧ cs.size = P.cellsOf t := by
  simp only [Value.okWide, ht] at h
  obtain ⟨cs, h1, h2, _⟩ := h
  exact ⟨cs, h1, h2⟩
theorem cellsEv : Tryd.prog.cellsOf 25 = 12 := by kernel_rfl

section
variable {H : Type} {enc : TypeId × Value → H} {W : World} {base : Nat} {sp : Nat → Bool} {held : Bool}

set_option maxRecDepth 100000 in
theorem open_cells {m : Nat} {c0 c1 c2 : Value} {y : DataW H × List MemPlace} (h : DataW.trod enc Tryd.prog W base sp held m 23 [c0, c1, c2] = some y) :
    ∃ (k n : Int) (s : ByteArray), c0 = .int .i64 k ∧ c1 = .int .i64 n ∧ c2 = .string s ∧ y = (.agg [.lit (.int .i64 k), .lit (.int .i64 n), .lit (.string s.data.toList)], []) ∧ (Lit.int .i64 k).wf = true ∧ (Lit.int .i64 n).wf = true ∧ s.size ≤ maxLen := by
  obtain ⟨y0, y1, y2, m', rfl, _, h0, h1, h2⟩ := trod_struct3 Tryd.underlying23 h
  simp only [cellsInt, cellsStr] at h0 h1 h2
  obtain ⟨k, e0, rfl, wk⟩ := DataW.trod_int Tryd.underlying3 h0
  obtain ⟨n, e1, rfl, wn⟩ := DataW.trod_int Tryd.underlying3 h1
  obtain ⟨s, e2, rfl, ws⟩ := DataW.trod_string Tryd.underlying9 h2
  simp at e0 e1 e2
  subst e0 e1 e2
  exact ⟨k, n, s, rfl, rfl, rfl, rfl, wk, wn, ws⟩

/-- What an event reads as. -/
def evD (k0 n0 : Int) (s0 : ByteArray) (k1 n1 : Int) (s1 : ByteArray) (k2 n2 : Int) (s2 : ByteArray) (k3 n3 : Int) (s3 : ByteArray) : DataW H := .agg [.agg [.lit (.int .i64 k0), .lit (.int .i64 n0), .lit (.string s0.data.toList)], .agg [.lit (.int .i64 k1), .lit (.int .i64 n1), .lit (.string s1.data.toList)], .agg [.lit (.int .i64 k2), .lit (.int .i64 n2), .lit (.string s2.data.toList)], .agg [.lit (.int .i64 k3), .lit (.int .i64 n3), .lit (.string s3.data.toList)]]
structure EvW (k0 n0 : Int) (s0 : ByteArray) (k1 n1 : Int) (s1 : ByteArray) (k2 n2 : Int) (s2 : ByteArray) (k3 n3 : Int) (s3 : ByteArray) : Prop where
  k0 : (Lit.int .i64 k0).wf = true
  n0 : (Lit.int .i64 n0).wf = true
  s0 : s0.size ≤ maxLen
  k1 : (Lit.int .i64 k1).wf = true
  n1 : (Lit.int .i64 n1).wf = true
  s1 : s1.size ≤ maxLen
  k2 : (Lit.int .i64 k2).wf = true
  n2 : (Lit.int .i64 n2).wf = true
  s2 : s2.size ≤ maxLen
  k3 : (Lit.int .i64 k3).wf = true
  n3 : (Lit.int .i64 n3).wf = true
  s3 : s3.size ≤ maxLen

set_option maxRecDepth 100000 in
theorem open_event {r : Reach} {b0 : Nat} {v : Value} {d : DataW H} {p : List MemPlace} (hv : Value.okWide Tryd.prog W r b0 25 v) (h : DataW.Trod enc Tryd.prog W base sp held 25 v d p) :
    ∃ (k0 n0 : Int) (s0 : ByteArray) (k1 n1 : Int) (s1 : ByteArray) (k2 n2 : Int) (s2 : ByteArray) (k3 n3 : Int) (s3 : ByteArray), v = .agg #[.int .i64 k0, .int .i64 n0, .string s0, .int .i64 k1, .int .i64 n1, .string s1, .int .i64 k2, .int .i64 n2, .string s2, .int .i64 k3, .int .i64 n3, .string s3] ∧ d = evD k0 n0 s0 k1 n1 s1 k2 n2 s2 k3 n3 s3 ∧ p = [] ∧ EvW k0 n0 s0 k1 n1 s1 k2 n2 s2 k3 n3 s3 := by
  obtain ⟨cs, rfl, hsz⟩ := okWide_array Tryd.underlying25 hv
  rw [cellsEv] at hsz
  obtain ⟨l⟩ := cs
  obtain ⟨a0, a1, a2, l1, rfl, q1⟩ := cut3 9 (show l.length = 9 + 3 from hsz)
  obtain ⟨b0, b1, b2, l2, rfl, q2⟩ := cut3 6 q1
  obtain ⟨c0, c1, c2, l3, rfl, q3⟩ := cut3 3 q2
  obtain ⟨d0, d1, d2, l4, rfl, q4⟩ := cut3 0 q3
  obtain rfl : l4 = [] := List.length_eq_zero_iff.1 q4
  obtain ⟨fuel, hf⟩ := h
  obtain ⟨xs, m, _, hx, _, hlen, he⟩ := DataW.trod_array Tryd.underlying25 hf
  simp only [cellsVal, Value.cells] at he
  have g0 := he 0 (by omega)
  have g1 := he 1 (by omega)
  have g2 := he 2 (by omega)
  have g3 := he 3 (by omega)
  match xs, hlen with
  | [y0, y1, y2, y3], _ =>
    simp at g0 g1 g2 g3
    obtain ⟨k0, n0, s0, rfl, rfl, rfl, rfl, w0, w1, w2⟩ := open_cells g0
    obtain ⟨k1, n1, s1, rfl, rfl, rfl, rfl, w3, w4, w5⟩ := open_cells g1
    obtain ⟨k2, n2, s2, rfl, rfl, rfl, rfl, w6, w7, w8⟩ := open_cells g2
    obtain ⟨k3, n3, s3, rfl, rfl, rfl, rfl, w9, w10, w11⟩ := open_cells g3
    simp only [Prod.mk.injEq] at hx
    exact ⟨k0, n0, s0, k1, n1, s1, k2, n2, s2, k3, n3, s3, rfl, hx.1, by simpa using hx.2, ⟨w0, w1, w2, w3, w4, w5, w6, w7, w8, w9, w10, w11⟩⟩

set_option maxRecDepth 100000 in
theorem shut_cells {k n : Int} {s : ByteArray} (wk : (Lit.int .i64 k).wf = true) (wn : (Lit.int .i64 n).wf = true) (ws : s.size ≤ maxLen) :
    DataW.trod enc Tryd.prog W base sp held 2 23 [.int .i64 k, .int .i64 n, .string s] = some (.agg [.lit (.int .i64 k), .lit (.int .i64 n), .lit (.string s.data.toList)], []) := by
  have := trod_struct3_mk (enc := enc) (w := W) (base := base) (spare := sp) (held := held) (n := 1) (cs := [.int .i64 k, .int .i64 n, .string s]) (y0 := (.lit (.int .i64 k), [])) (y1 := (.lit (.int .i64 n), [])) (y2 := (.lit (.string s.data.toList), [])) Tryd.underlying23 (by simp [cellsVal]) (by simp [cellsInt, DataW.trod, Tryd.underlying3, wk]) (by simp [cellsInt, DataW.trod, Tryd.underlying3, wn]) (by simp [cellsStr, DataW.trod, Tryd.underlying9, ws])
  simpa using this

set_option maxRecDepth 100000 in
theorem shut_event {k0 n0 : Int} {s0 : ByteArray} {k1 n1 : Int} {s1 : ByteArray} {k2 n2 : Int} {s2 : ByteArray} {k3 n3 : Int} {s3 : ByteArray} (h : EvW k0 n0 s0 k1 n1 s1 k2 n2 s2 k3 n3 s3) :
    DataW.Trod enc Tryd.prog W base sp held 25 (.agg #[.int .i64 k0, .int .i64 n0, .string s0, .int .i64 k1, .int .i64 n1, .string s1, .int .i64 k2, .int .i64 n2, .string s2, .int .i64 k3, .int .i64 n3, .string s3]) (evD k0 n0 s0 k1 n1 s1 k2 n2 s2 k3 n3 s3) [] := by
  refine ⟨3, ?_⟩
  have r4 : List.range 4 = [0, 1, 2, 3] := rfl
  have t0 := shut_cells (enc := enc) (W := W) (base := base) (sp := sp) (held := held) h.k0 h.n0 h.s0
  have t1 := shut_cells (enc := enc) (W := W) (base := base) (sp := sp) (held := held) h.k1 h.n1 h.s1
  have t2 := shut_cells (enc := enc) (W := W) (base := base) (sp := sp) (held := held) h.k2 h.n2 h.s2
  have t3 := shut_cells (enc := enc) (W := W) (base := base) (sp := sp) (held := held) h.k3 h.n3 h.s3
  unfold DataW.trod
  rw [Tryd.underlying25]
  simp [r4, cellsVal, cellsEv, Value.cells, t0, t1, t2, t3, evD]
end
end Go.Proofs.YthiffpdioclnlaaDoor
