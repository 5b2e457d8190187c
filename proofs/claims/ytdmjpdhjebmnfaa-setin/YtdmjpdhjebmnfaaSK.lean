/-
  Plain mathematics of the third reference's Ranges: how the normal form grows.
-/
import Derived.Test.YtdmjpdhjebmnfaaSP
set_option linter.unusedSimpArgs false
set_option linter.unusedVariables false
namespace Go.Proofs.Ytdmjpdhjebmnfaa

/-- The last one's end. -/
def lastH (o : List Rg) : Option Int := o.getLast?.map (·.2)
theorem lastH_nil : lastH [] = none := rfl
theorem lastH_concat (o : List Rg) (q : Rg) : lastH (o ++ [q]) = some q.2 := by simp [lastH]
/-- A range that is still to be taken. -/
def candP (H : Option Int) (r : Rg) : Prop := r.1 ≤ r.2 ∧ ∀ h, H = some h → h < r.2
def candB (H : Option Int) (r : Rg) : Bool := decide (r.1 ≤ r.2) && (match H with | none => true | some h => decide (h < r.2))
theorem candB_iff (H : Option Int) (r : Rg) : candB H r = true ↔ candP H r := by
  unfold candB candP
  cases H with
  | none => simp
  | some h => simp
theorem rightFrom_concat : ∀ (o : List Rg) (b : Int) (r : Rg), rightFrom b o → r.1 ≤ r.2 → (o = [] → b < r.1) → (∀ h, lastH o = some h → h + 1 < r.1) → rightFrom b (o ++ [r])
  | [], b, r, _, h1, h2, _ => ⟨h2 rfl, h1, trivial⟩
  | q :: o, b, r, ⟨a1, a2, a3⟩, h1, h2, h3 => by
    refine ⟨a1, a2, rightFrom_concat o (q.2 + 1) r a3 h1 (fun e => ?_) (fun h e => h3 h ?_)⟩
    · subst e; exact h3 q.2 rfl
    · cases o with
      | nil => cases e
      | cons x o => simpa [lastH] using e
theorem rightR_concat (o : List Rg) (r : Rg) (ho : rightR o) (h1 : r.1 ≤ r.2) (h3 : ∀ h, lastH o = some h → h + 1 < r.1) : rightR (o ++ [r]) := by
  cases o with
  | nil => exact ⟨h1, trivial⟩
  | cons q o =>
    refine ⟨ho.1, rightFrom_concat o (q.2 + 1) r ho.2 h1 (fun e => ?_) (fun h e => h3 h ?_)⟩
    · subst e; exact h3 q.2 rfl
    · cases o with
      | nil => cases e
      | cons x o => simpa [lastH] using e
theorem rightFrom_last : ∀ (o : List Rg) (b : Int) (q : Rg) (x : Int), rightFrom b (o ++ [q]) → q.2 ≤ x → rightFrom b (o ++ [(q.1, x)])
  | [], b, q, x, ⟨a1, a2, _⟩, h => ⟨a1, by dsimp only; omega, trivial⟩
  | p :: o, b, q, x, ⟨a1, a2, a3⟩, h => ⟨a1, a2, rightFrom_last o _ q x a3 h⟩
theorem rightR_last (o : List Rg) (q : Rg) (x : Int) (ho : rightR (o ++ [q])) (h : q.2 ≤ x) : rightR (o ++ [(q.1, x)]) := by
  cases o with
  | nil => exact ⟨by have := ho.1; dsimp only; omega, trivial⟩
  | cons p o => exact ⟨ho.1, rightFrom_last o _ q x ho.2 h⟩
theorem rightFrom_split : ∀ (o : List Rg) (b : Int) (q : Rg), rightFrom b (o ++ [q]) → q.1 ≤ q.2
  | [], b, q, h => h.2.1
  | p :: o, b, q, h => rightFrom_split o _ q h.2.2
theorem rightR_split (o : List Rg) (q : Rg) (h : rightR (o ++ [q])) : q.1 ≤ q.2 := by
  cases o with
  | nil => exact h.1
  | cons p o => exact rightFrom_split o _ q h.2
/-- The numbers up to the last one's end are taken. -/
def takenP (o l : List Rg) : Prop := ∀ n, memR o n ↔ (memR l n ∧ ∃ h, lastH o = some h ∧ n ≤ h)
theorem taken_nil (l : List Rg) : takenP [] l := fun n => ⟨fun h => absurd h (memR_nil n), fun ⟨_, h, e, _⟩ => by cases e⟩
theorem memR_one (r : Rg) (n : Int) : memR [r] n ↔ r.1 ≤ n ∧ n ≤ r.2 := by rw [memR_cons]; simp [memR_nil]
/-- Of what is still to be taken one begins first. -/
def firstP (H : Option Int) (l : List Rg) (r : Rg) : Prop := r ∈ l ∧ candP H r ∧ ∀ s ∈ l, candP H s → r.1 ≤ s.1
theorem taken_done (o l : List Rg) (ho : takenP o l) (hno : ∀ r ∈ l, ¬ candP (lastH o) r) : ∀ n, memR o n ↔ memR l n := by
  intro n
  rw [ho n]
  refine ⟨fun h => h.1, fun h => ⟨h, ?_⟩⟩
  obtain ⟨r, hr, h1, h2⟩ := h
  have hc := hno r hr
  cases e : lastH o with
  | none => exact absurd ⟨by omega, fun h eh => by rw [e] at eh; cases eh⟩ hc
  | some h =>
    refine ⟨h, rfl, ?_⟩
    refine Classical.byContradiction fun hlt => hc ⟨by omega, fun h' eh => ?_⟩
    rw [e] at eh
    cases eh
    omega
theorem taken_app (o l : List Rg) (r : Rg) (ho : takenP o l) (hr : firstP (lastH o) l r) (hg : ∀ h, lastH o = some h → h + 1 < r.1) : takenP (o ++ [r]) l := by
  obtain ⟨r1, r2, r3⟩ := hr
  intro n
  rw [memR_append, memR_one, ho n, lastH_concat]
  constructor
  · rintro (⟨h1, h, e, h2⟩ | h1)
    · have := hg h e
      have := r2.1
      exact ⟨h1, r.2, rfl, by omega⟩
    · exact ⟨⟨r, r1, h1⟩, r.2, rfl, h1.2⟩
  · rintro ⟨⟨s, hs, h1, h2⟩, h, e, h3⟩
    cases e
    by_cases hc : ∃ h, lastH o = some h ∧ n ≤ h
    · exact Or.inl ⟨⟨s, hs, h1, h2⟩, hc⟩
    · right
      refine ⟨?_, h3⟩
      have := r3 s hs ⟨by omega, fun h eh => Classical.byContradiction fun hn => hc ⟨h, eh, by omega⟩⟩
      omega
theorem taken_ext (o l : List Rg) (q r : Rg) (ho : takenP (o ++ [q]) l) (hq : q.1 ≤ q.2) (hr : firstP (some q.2) l r) (hg : r.1 ≤ q.2 + 1) : takenP (o ++ [(q.1, r.2)]) l := by
  obtain ⟨r1, r2, r3⟩ := hr
  have hqr := r2.2 q.2 rfl
  intro n
  have h0 := ho n
  rw [memR_append, memR_one, lastH_concat] at h0
  rw [memR_append, memR_one, lastH_concat]
  dsimp only
  constructor
  · rintro (h1 | h1)
    · obtain ⟨h2, h, e, h3⟩ := h0.1 (Or.inl h1)
      cases e
      exact ⟨h2, r.2, rfl, by omega⟩
    · by_cases hn : n ≤ q.2
      · exact ⟨(h0.1 (Or.inr ⟨h1.1, hn⟩)).1, r.2, rfl, h1.2⟩
      · exact ⟨⟨r, r1, by omega, h1.2⟩, r.2, rfl, h1.2⟩
  · rintro ⟨h1, h, e, h3⟩
    cases e
    by_cases hn : n ≤ q.2
    · rcases h0.2 ⟨h1, q.2, rfl, hn⟩ with h | h
      · exact Or.inl h
      · exact Or.inr ⟨h.1, by omega⟩
    · exact Or.inr ⟨by omega, h3⟩
/-- How many are still to be taken. -/
def leftN (H : Option Int) (l : List Rg) : Nat := (l.filter (candB H)).length
theorem leftN_lt (H : Option Int) (l : List Rg) (r : Rg) (hr : r ∈ l) (hc : candP H r) (hH : ∀ h, H = some h → h ≤ r.2) : leftN (some r.2) l < leftN H l := by
  unfold leftN
  have hsub : ∀ s : Rg, candP (some r.2) s → candP H s := fun s hs => ⟨hs.1, fun h e => by have := hs.2 r.2 rfl; have := hH h e; omega⟩
  have hn : ¬ candP (some r.2) r := fun h => by have := h.2 r.2 rfl; omega
  have mono : ∀ m : List Rg, (m.filter (candB (some r.2))).length ≤ (m.filter (candB H)).length := by
    intro m
    induction m with
    | nil => simp
    | cons s m ih =>
      rw [List.filter_cons, List.filter_cons]
      by_cases h1 : candP (some r.2) s
      · rw [if_pos ((candB_iff _ _).2 h1), if_pos ((candB_iff _ _).2 (hsub s h1))]; simp; exact ih
      · rw [if_neg (fun e => h1 ((candB_iff _ _).1 e))]
        split
        · simp; omega
        · exact ih
  induction l with
  | nil => simp at hr
  | cons s m ih =>
    rw [List.filter_cons, List.filter_cons]
    rcases List.mem_cons.1 hr with rfl | hm
    · rw [if_neg (fun e => hn ((candB_iff _ _).1 e)), if_pos ((candB_iff _ _).2 hc)]
      have := mono m
      simp; omega
    · have ih' := ih hm
      by_cases h1 : candP (some r.2) s
      · rw [if_pos ((candB_iff _ _).2 h1), if_pos ((candB_iff _ _).2 (hsub s h1))]; simp; exact ih'
      · rw [if_neg (fun e => h1 ((candB_iff _ _).1 e))]
        split
        · simp; omega
        · exact ih'
/-- What the search through the first i ones has found: none, or a first one at Bi. -/
def bestP (H : Option Int) (l : List Rg) (i : Nat) (Bi : Int) : Prop :=
  (Bi = -1 ∧ ∀ j, j < i → j < l.length → ¬ candP H (l.getD j (0, 0))) ∨
  (0 ≤ Bi ∧ Bi.toNat < i ∧ Bi.toNat < l.length ∧ candP H (l.getD Bi.toNat (0, 0)) ∧ ∀ j, j < i → j < l.length → candP H (l.getD j (0, 0)) → (l.getD Bi.toNat (0, 0)).1 ≤ (l.getD j (0, 0)).1)
theorem best_start (H : Option Int) (l : List Rg) : bestP H l 0 (-1) := Or.inl ⟨rfl, fun j hj => by omega⟩
theorem best_skip {H : Option Int} {l : List Rg} {i : Nat} {Bi : Int} (h : bestP H l i Bi) (hc : ¬ candP H (l.getD i (0, 0))) : bestP H l (i + 1) Bi := by
  rcases h with ⟨h1, h2⟩ | ⟨h1, h2, h3, h4, h5⟩
  · refine Or.inl ⟨h1, fun j hj hl => ?_⟩
    by_cases e : j = i
    · rw [e]; exact hc
    · exact h2 j (by omega) hl
  · refine Or.inr ⟨h1, by omega, h3, h4, fun j hj hl hcj => ?_⟩
    by_cases e : j = i
    · rw [e] at hcj; exact absurd hcj hc
    · exact h5 j (by omega) hl hcj
theorem best_keep {H : Option Int} {l : List Rg} {i : Nat} {Bi : Int} (h : bestP H l i Bi) (h0 : 0 ≤ Bi) (hle : (l.getD Bi.toNat (0, 0)).1 ≤ (l.getD i (0, 0)).1) : bestP H l (i + 1) Bi := by
  rcases h with ⟨h1, h2⟩ | ⟨h1, h2, h3, h4, h5⟩
  · omega
  · refine Or.inr ⟨h1, by omega, h3, h4, fun j hj hl hcj => ?_⟩
    by_cases e : j = i
    · rw [e]; exact hle
    · exact h5 j (by omega) hl hcj
theorem best_new {H : Option Int} {l : List Rg} {i : Nat} {Bi : Int} (h : bestP H l i Bi) (hi : i < l.length) (hc : candP H (l.getD i (0, 0))) (hle : 0 ≤ Bi → (l.getD i (0, 0)).1 ≤ (l.getD Bi.toNat (0, 0)).1) : bestP H l (i + 1) (i : Int) := by
  refine Or.inr ⟨by omega, by omega, by omega, by simpa using hc, fun j hj hl hcj => ?_⟩
  rw [show ((i : Int)).toNat = i by omega]
  by_cases e : j = i
  · rw [e]; omega
  · rcases h with ⟨h1, h2⟩ | ⟨h1, h2, h3, h4, h5⟩
    · exact absurd hcj (h2 j (by omega) hl)
    · have := hle h1
      have := h5 j (by omega) hl hcj
      omega
theorem mem_at (l : List Rg) (r : Rg) (h : r ∈ l) : ∃ j, j < l.length ∧ l.getD j (0, 0) = r := by
  obtain ⟨j, hj, e⟩ := List.getElem_of_mem h
  exact ⟨j, hj, by rw [List.getD_eq_getElem?_getD, List.getElem?_eq_getElem hj]; exact e⟩
theorem at_mem (l : List Rg) (j : Nat) (h : j < l.length) : l.getD j (0, 0) ∈ l := by
  rw [List.getD_eq_getElem?_getD, List.getElem?_eq_getElem h]; exact List.getElem_mem _
theorem best_none {H : Option Int} {l : List Rg} {Bi : Int} (h : bestP H l l.length Bi) (hB : Bi < 0) : ∀ r ∈ l, ¬ candP H r := by
  intro r hr
  obtain ⟨j, hj, rfl⟩ := mem_at l r hr
  rcases h with ⟨_, h2⟩ | ⟨h1, _⟩
  · exact h2 j hj hj
  · omega
theorem best_some {H : Option Int} {l : List Rg} {Bi : Int} (h : bestP H l l.length Bi) (hB : ¬ Bi < 0) : Bi.toNat < l.length ∧ firstP H l (l.getD Bi.toNat (0, 0)) := by
  rcases h with ⟨h1, _⟩ | ⟨h1, h2, h3, h4, h5⟩
  · omega
  · refine ⟨h3, at_mem l _ h3, h4, fun s hs hc => ?_⟩
    obtain ⟨j, hj, rfl⟩ := mem_at l s hs
    exact h5 j hj hj hc
end Go.Proofs.Ytdmjpdhjebmnfaa
