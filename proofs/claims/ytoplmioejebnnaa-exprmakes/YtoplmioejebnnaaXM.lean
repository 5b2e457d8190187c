/-
  The program's copied: an expression in new memory.
-/
import Derived.Test.YtoplmioejebnnaaGX
set_option linter.unusedSimpArgs false
set_option linter.unusedVariables false
namespace Go.Proofs.Ytoplmioejebnnaa
open Go.RowKit

/-- What may be copied: no row is longer than memory has room for. -/
def cpX : Nat → ExV → Prop
  | 0, _ => True
  | n + 1, x => x.set.ints.length ≤ 1000 ∧ x.set.strs.length ≤ 1000 ∧ x.sub.length ≤ 1000 ∧ ∀ y ∈ x.sub, cpX n y
theorem cpX_mono : ∀ (n m : Nat) (x : ExV), n ≤ m → lowX n x → cpX n x → cpX m x
  | 0, _, _, _, h, _ => by cases h
  | n + 1, m, x, hm, hl, h => by
    obtain ⟨k, rfl⟩ : ∃ k, m = k + 1 := ⟨m - 1, by omega⟩
    exact ⟨h.1, h.2.1, h.2.2.1, fun y hy => cpX_mono n k y (by omega) (hl y hy) (h.2.2.2 y hy)⟩
def exCells (es : Nat → EC) (n : Nat) : List Value := (List.range n).flatMap fun i => (es i).list
theorem exCells_succ (es : Nat → EC) (n : Nat) : exCells es (n + 1) = exCells es n ++ (es n).list := by
  unfold exCells
  rw [List.range_succ, List.flatMap_append]
  simp
theorem exCells_len (es : Nat → EC) : ∀ n, (exCells es n).length = n * 7
  | 0 => rfl
  | n + 1 => by rw [exCells_succ, List.length_append, exCells_len es n, EC.list_len]; omega
theorem exCells_at (es : Nat → EC) (j r : Nat) (hr : r < 7) : ∀ n, j < n → (exCells es n)[j * 7 + r]? = (es j).list[r]?
  | n + 1, h => by
    rw [exCells_succ]
    by_cases e : j = n
    · subst e
      rw [List.getElem?_append_right (by rw [exCells_len]; omega), exCells_len]
      congr 1
      omega
    · rw [List.getElem?_append_left (by rw [exCells_len]; omega)]
      exact exCells_at es j r hr n (by omega)
theorem exCells_one (es : Nat → EC) (n : Nat) : ∀ u ∈ exCells es n, u.oneCell' = true := by
  intro u hu
  obtain ⟨i, _, hi⟩ := List.mem_flatMap.1 hu
  exact (es i).list_one u hi
/-- slices.Clone of a row of expressions. -/
theorem cloneX_new (p : Option Addr) (n c : Nat) (es : Nat → EC) (w : World) (hn : n ≤ 1000) (hp : p = none → n = 0 ∧ c = 0) (hel : ∀ j, j < n → ∃ g off, p = some ⟨g, off, none⟩ ∧ EcAt w g (off + j * 7) (es j)) :
    Calls Try.prog 57 #[.slice p n c] w fun r w' => (∃ q k, r = .returned (.slice q n k) ∧ n ≤ k ∧ k ≤ 9223372036854775807 ∧ (q = none → n = 0 ∧ k = 0) ∧ (0 < n → ∃ b, q = some ⟨b, 0, none⟩ ∧ w.heap.size ≤ b ∧ b < w'.heap.size ∧ RowX w' b n es)) ∧ Below w.heap.size w w' := by
  cases p with
  | none =>
    obtain ⟨rfl, rfl⟩ := hp rfl
    refine (cloneX_nil w).mono ?_
    rintro r w' ⟨rfl, rfl⟩
    exact ⟨⟨none, 0, rfl, by omega, by omega, fun _ => ⟨rfl, rfl⟩, fun h => by omega⟩, Below.refl _ _⟩
  | some ad =>
    refine (cloneX_some ad n c (exCells es n) w (exCells_len es n) ?_ (exCells_one es n) (by omega)).mono ?_
    · intro j u hj
      have hjl : j < n * 7 := by
        have := (List.getElem?_eq_some_iff.1 hj).1
        rwa [exCells_len] at this
      obtain ⟨g, off, e, hat⟩ := hel (j / 7) (by omega)
      simp at e
      subst e
      have hr := exCells_at es (j / 7) (j % 7) (by omega) n (by omega)
      rw [show j / 7 * 7 + j % 7 = j by omega, hj] at hr
      have := hat.range (j % 7) u hr.symm
      rw [Go.WideShapes.add_plain]
      rwa [show off + j / 7 * 7 + j % 7 = off + j by omega] at this
    · rintro r w' ⟨⟨v, rfl, ho⟩, hb⟩
      obtain ⟨q, k, rfl, h1, h2, h3⟩ := ownsRow_form ho
      refine ⟨⟨q, k, rfl, h1, by unfold maxLen at h2; omega, h3, fun hpos => ?_⟩, hb⟩
      cases q with
      | none => exact absurd (h3 rfl).1 (by omega)
      | some a =>
        obtain ⟨b, cur, rfl, hb1, hc⟩ := ownsRow_at ho
        refine ⟨b, rfl, hb1, lt_heap hc, fun j hj => EcAt.ofRange fun r v hv => ?_, soft_heap hc⟩
        have hr : r < 7 := (List.getElem?_eq_some_iff.1 hv).1
        exact ownsRow_cell ho _ _ ((exCells_at es j r hr n hj).trans hv)
end Go.Proofs.Ytoplmioejebnnaa
