/-
  A drawn region whose operations make memory: what each has made lies in blocks of its own, whenever it came up.
-/
import Derived.Test.YtoplmioejebnnaaSO0
set_option linter.unusedSimpArgs false
set_option linter.unusedVariables false
namespace Go.Proofs.Ytoplmioejebnnaa
open Go.RowKit

/-- A value, and between which blocks its new memory lies. -/
abbrev Vg := Value × Nat × Nat
def apart2 (y z : Vg) : Prop := y.2.2 ≤ z.2.1 ∨ z.2.2 ≤ y.2.1
theorem getD_set_same {l : Array Bool} {i : Nat} (h : i < l.size) (d : Bool) : (l.setIfInBounds i true).getD i d = true := by
  rw [Array.getD_eq_getD_getElem?, Array.getElem?_setIfInBounds, if_pos rfl, if_pos h]
  rfl
theorem getD_set_other {l : Array Bool} {i j : Nat} (h : i ≠ j) (d : Bool) : (l.setIfInBounds i true).getD j d = l.getD j d := by
  rw [Array.getD_eq_getD_getElem?, Array.getElem?_setIfInBounds, if_neg h, Array.getD_eq_getD_getElem?]
theorem getD_flip {l : Array Bool} {i : Nat} (h : i < l.size) (d d' : Bool) : l.getD i d = l.getD i d' := by
  rw [Array.getD_eq_getD_getElem?, Array.getD_eq_getD_getElem?, Array.getElem?_eq_getElem h]
  rfl
theorem ready_of {md : Region.Mode} {ops : Array Oper} {l : Array Bool} {i : Nat} {o : Oper} (hi : i < ops.size) (ho : ops[i]? = some o) (hl : l.getD i true = false) (ha : ∀ e ∈ o.after, l.getD e.on false = true) : i ∈ Region.ready md ops l := by
  unfold Region.ready
  rw [List.mem_filter]
  refine ⟨List.mem_range.2 hi, ?_⟩
  rw [hl, ho, Bool.and_eq_true]
  refine ⟨rfl, ?_⟩
  simp only [Option.map_some, Option.getD_some]
  rw [Array.all_eq_true_iff_forall_mem]
  intro e he
  rw [ha e he, Bool.or_true]
theorem ready_after {md : Region.Mode} {ops : Array Oper} {l : Array Bool} {i : Nat} {o : Oper} (h : i ∈ Region.ready md ops l) (ho : ops[i]? = some o) : ∀ e ∈ o.after, Region.binds md e = true → l.getD e.on false = true := by
  unfold Region.ready at h
  rw [List.mem_filter] at h
  obtain ⟨_, h2⟩ := h
  rw [ho, Bool.and_eq_true] at h2
  have h3 := h2.2
  simp only [Option.map_some, Option.getD_some] at h3
  rw [Array.all_eq_true_iff_forall_mem] at h3
  intro e he hb
  have := h3 e he
  rw [hb] at this
  simpa using this
/-- The first that is not listed is ready. -/
theorem first_ready {ops : Array Oper} {l : Array Bool} (hs : l.size = ops.size) (acyc : ∀ (i : Nat) (o : Oper), ops[i]? = some o → ∀ e ∈ o.after, e.on < i) : ∀ (n : Nat), n ≤ ops.size → (∃ j, j < n ∧ l.getD j false = false) → ∃ i, i < n ∧ i ∈ Region.ready .any ops l := by
  intro n
  induction n with
  | zero => rintro _ ⟨j, h, _⟩; omega
  | succ n ih =>
    intro hn hex
    by_cases hb : ∃ j, j < n ∧ l.getD j false = false
    · obtain ⟨i, hi, hr⟩ := ih (by omega) hb
      exact ⟨i, by omega, hr⟩
    · obtain ⟨j, hj, hl⟩ := hex
      have hall : ∀ k, k < n → l.getD k false = true := fun k hk => by
        cases hc : l.getD k false
        · exact absurd ⟨k, hk, hc⟩ hb
        · rfl
      have hjn : j = n := by
        rcases Nat.lt_or_ge j n with h | h
        · rw [hall j h] at hl; cases hl
        · omega
      subst hjn
      have hjs : j < ops.size := by omega
      refine ⟨j, by omega, ready_of hjs (Array.getElem?_eq_getElem hjs) ?_ (fun e he => hall _ (acyc j _ (Array.getElem?_eq_getElem hjs) e he))⟩
      rw [getD_flip (by omega) true false]
      exact hl
def acycB (ops : Array Oper) : Bool := (List.range ops.size).all fun i => ((ops[i]?).map fun o => o.after.all fun e => decide (e.on < i)).getD true
theorem acyc_of {ops : Array Oper} (h : acycB ops = true) (i : Nat) (o : Oper) (ho : ops[i]? = some o) (e : Edge) (he : e ∈ o.after) : e.on < i := by
  unfold acycB at h
  rw [List.all_eq_true] at h
  have h1 := h i (List.mem_range.2 (Array.getElem?_eq_some_iff.1 ho).1)
  rw [ho] at h1
  simp only [Option.map_some, Option.getD_some] at h1
  rw [Array.all_eq_true_iff_forall_mem] at h1
  exact of_decide_eq_true (h1 e he)
section
variable {P : Program} {ops : Array Oper} {Q : Exit → Act → World → Prop}
theorem wpAny_slots (n1 : Nat) (frame : (Nat → Vg) → Act) (D : Nat → Nat) (R : Nat → World → Vg → Prop) (w0 : World)
    (acyc : ∀ (i : Nat) (o : Oper), ops[i]? = some o → ∀ e ∈ o.after, e.on < i)
    (late : ∀ (i : Nat) (o : Oper), n1 ≤ i → ops[i]? = some o → ∀ j, j < n1 → ∃ e ∈ o.after, e.on = j ∧ Region.binds .any e = true)
    (hn1 : n1 ≤ ops.size) (inj : ∀ i j, i < n1 → j < n1 → D i = D j → i = j)
    (stable : ∀ i w w' y, R i w y → Below w.heap.size w w' → R i w' y)
    (step : ∀ i, i < n1 → ∀ (l : Array Bool) (Y : Nat → Vg) (w : World), Below w0.heap.size w0 w → (∀ j, j < n1 → l.getD j false = true → R j w (Y (D j))) → (∀ o : Oper, ops[i]? = some o → ∀ e ∈ o.after, Region.binds .any e = true → l.getD e.on false = true) →
      wpOp P ops Q i (fun a' w' => ∃ y : Vg, a' = frame (fun t => if t = D i then y else Y t) ∧ Below w.heap.size w w' ∧ R i w' y ∧ w.heap.size ≤ y.2.1 ∧ y.2.2 ≤ w'.heap.size) (frame Y) w)
    (done : ∀ (fuel : Nat) (l : Array Bool) (Y : Nat → Vg) (w : World), ops.size - n1 ≤ fuel → l.size = ops.size → (∀ j, j < n1 → l.getD j false = true) → (∀ j, n1 ≤ j → l.getD j false = false) → Below w0.heap.size w0 w → (∀ j, j < n1 → R j w (Y (D j)) ∧ w0.heap.size ≤ (Y (D j)).2.1 ∧ (Y (D j)).2.2 ≤ w.heap.size) → (∀ i j, i < n1 → j < n1 → i ≠ j → apart2 (Y (D i)) (Y (D j))) →
      wpAny P .any ops Q fuel l (frame Y) w) :
    ∀ (fuel : Nat) (l : Array Bool) (Y : Nat → Vg) (w : World), l.size = ops.size → unlisted l ≤ fuel → (∀ j, n1 ≤ j → l.getD j false = false) → Below w0.heap.size w0 w → (∀ j, j < n1 → l.getD j false = true → R j w (Y (D j)) ∧ w0.heap.size ≤ (Y (D j)).2.1 ∧ (Y (D j)).2.2 ≤ w.heap.size) →
      (∀ i j, i < n1 → j < n1 → i ≠ j → l.getD i false = true → l.getD j false = true → apart2 (Y (D i)) (Y (D j))) → wpAny P .any ops Q fuel l (frame Y) w := by
  intro fuel
  induction fuel with
  | zero =>
    intro l Y w hs hu hlate hB hR hA
    have hall : ∀ j, j < ops.size → l.getD j false = true := fun j hj => by
      cases hc : l.getD j false
      · have := unlisted_set (l := l) (i := j) (by omega) (by rw [getD_flip (by omega) true false]; exact hc)
        omega
      · rfl
    have hn : n1 = ops.size := Classical.byContradiction fun hne => by
      have h1 := hall n1 (by omega)
      rw [hlate n1 (Nat.le_refl _)] at h1
      cases h1
    exact done 0 l Y w (by omega) hs (fun j hj => hall j (by omega)) hlate hB (fun j hj => hR j hj (hall j (by omega))) (fun i j hi hj hne => hA i j hi hj hne (hall i (by omega)) (hall j (by omega)))
  | succ fuel ih =>
    intro l Y w hs hu hlate hB hR hA
    by_cases hall : ∀ j, j < n1 → l.getD j false = true
    · refine done (fuel + 1) l Y w ?_ hs hall hlate hB (fun j hj => hR j hj (hall j hj)) (fun i j hi hj hne => hA i j hi hj hne (hall i hi) (hall j hj))
      have hcount : ∀ (m : Nat), m ≤ ops.size - n1 → ∀ l' : Array Bool, l'.size = ops.size → (∀ j, ops.size - m ≤ j → j < ops.size → l'.getD j false = false) → m ≤ unlisted l' := by
        intro m
        induction m with
        | zero => intro _ _ _ _; omega
        | succ m ihm =>
          intro hm l' hs' hf
          have h1 := unlisted_set (l := l') (i := ops.size - (m + 1)) (by omega) (by rw [getD_flip (by omega) true false]; exact hf _ (Nat.le_refl _) (by omega))
          have h2 := ihm (by omega) (l'.setIfInBounds (ops.size - (m + 1)) true) (by simpa using hs') (fun j h3 h4 => by rw [getD_set_other (by omega)]; exact hf j (by omega) h4)
          omega
      have := hcount (ops.size - n1) (Nat.le_refl _) l hs (fun j h3 h4 => hlate j (by omega))
      omega
    · have hex : ∃ j, j < n1 ∧ l.getD j false = false := Classical.byContradiction fun hno => hall fun j hj => by
        cases hc : l.getD j false
        · exact absurd ⟨j, hj, hc⟩ hno
        · rfl
      obtain ⟨r0, hr0, hr1⟩ := first_ready hs acyc n1 hn1 hex
      refine ⟨fun h => (by rw [h] at hr1; cases hr1), fun i hi => ?_⟩
      obtain ⟨hi1, hi2⟩ := ready_lt hi
      have hin : i < n1 := Classical.byContradiction fun hge => by
        obtain ⟨j, hj, hl⟩ := hex
        obtain ⟨e, he, h1, h2⟩ := late i _ (by omega) (Array.getElem?_eq_getElem hi1) j hj
        have := ready_after hi (Array.getElem?_eq_getElem hi1) e he h2
        rw [h1, hl] at this
        cases this
      refine wpOp_mono ?_ (step i hin l Y w hB (fun j hj hl => (hR j hj hl).1) (fun o ho => ready_after hi ho))
      rintro a' w' ⟨y, rfl, hb, hr, hy1, hy2⟩
      have hu2 := unlisted_set (by omega : i < l.size) hi2
      refine ih _ _ _ (by simpa using hs) (by omega) (fun j hj => by rw [getD_set_other (by omega)]; exact hlate j hj) (hB.trans (hb.mono hB.size)) ?_ ?_
      · intro j hj hl
        by_cases e : j = i
        · subst e
          simp only [if_pos]
          exact ⟨hr, Nat.le_trans hB.size hy1, hy2⟩
        · rw [getD_set_other (fun h => e h.symm)] at hl
          simp only [if_neg (fun h => e (inj j i hj hin h))]
          obtain ⟨r1, r2, r3⟩ := hR j hj hl
          exact ⟨stable j w w' _ r1 hb, r2, Nat.le_trans r3 hb.size⟩
      · intro p q hp hq hne hlp hlq
        by_cases ep : p = i
        · have eq : q ≠ i := fun h => hne (by rw [ep, h])
          rw [getD_set_other (fun h => eq h.symm)] at hlq
          subst ep
          simp only [if_pos, if_neg (fun h => eq (inj q p hq hp h))]
          exact Or.inr (Nat.le_trans (hR q hq hlq).2.2 hy1)
        · rw [getD_set_other (fun h => ep h.symm)] at hlp
          by_cases eq : q = i
          · subst eq
            simp only [if_pos, if_neg (fun h => ep (inj p q hp hq h))]
            exact Or.inl (Nat.le_trans (hR p hp hlp).2.2 hy1)
          · rw [getD_set_other (fun h => eq h.symm)] at hlq
            simp only [if_neg (fun h => ep (inj p i hp hin h)), if_neg (fun h => eq (inj q i hq hin h))]
            exact hA p q hp hq hne hlp hlq
end
end Go.Proofs.Ytoplmioejebnnaa
