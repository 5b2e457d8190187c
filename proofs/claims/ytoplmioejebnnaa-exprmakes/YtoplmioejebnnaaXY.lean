/-
  A drawn region whose operations make memory, and store at its end.
-/
import Derived.Test.YtoplmioejebnnaaXX0
set_option linter.unusedSimpArgs false
set_option linter.unusedVariables false
namespace Go.Proofs.Ytoplmioejebnnaa
open Go.RowKit

/-- What has been listed came behind what it waits for. -/
def ClosedL (ops : Array Oper) (l : Array Bool) : Prop := ∀ (k : Nat) (o : Oper), ops[k]? = some o → l.getD k false = true → ∀ e ∈ o.after, Region.binds .any e = true → l.getD e.on false = true
theorem closed_set {ops : Array Oper} {l : Array Bool} {i : Nat} (h : ClosedL ops l) (hi : i < l.size) (ha : ∀ o, ops[i]? = some o → ∀ e ∈ o.after, Region.binds .any e = true → l.getD e.on false = true) : ClosedL ops (l.setIfInBounds i true) := by
  intro k o ho hk e he hb
  have h1 : l.getD e.on false = true := by
    by_cases ek : k = i
    · subst ek; exact ha o ho e he hb
    · rw [getD_set_other (fun h => ek h.symm)] at hk
      exact h k o ho hk e he hb
  by_cases ee : i = e.on
  · rw [← ee]; exact getD_set_same hi false
  · rw [getD_set_other ee]; exact h1
section
variable {P : Program} {ops : Array Oper} {Q : Exit → Act → World → Prop}
theorem wpAny_slots2 (n1 : Nat) (frame : (Nat → Vg) → Act) (D : Nat → Nat) (R : Nat → World → Vg → Prop) (w0 : World)
    (acyc : ∀ (i : Nat) (o : Oper), ops[i]? = some o → ∀ e ∈ o.after, e.on < i)
    (late : ∀ (i : Nat) (o : Oper), n1 ≤ i → ops[i]? = some o → ∀ l : Array Bool, ClosedL ops l → (∀ j, n1 ≤ j → l.getD j false = false) → (∀ e ∈ o.after, Region.binds .any e = true → l.getD e.on false = true) → ∀ j, j < n1 → l.getD j false = true)
    (hn1 : n1 ≤ ops.size) (inj : ∀ i j, i < n1 → j < n1 → D i = D j → i = j)
    (stable : ∀ i w w' y, R i w y → Below w.heap.size w w' → R i w' y)
    (step : ∀ i, i < n1 → ∀ (l : Array Bool) (Y : Nat → Vg) (w : World), Below w0.heap.size w0 w → (∀ j, j < n1 → l.getD j false = true → R j w (Y (D j))) → (∀ o : Oper, ops[i]? = some o → ∀ e ∈ o.after, Region.binds .any e = true → l.getD e.on false = true) →
      wpOp P ops Q i (fun a' w' => ∃ y : Vg, a' = frame (fun t => if t = D i then y else Y t) ∧ Below w.heap.size w w' ∧ R i w' y ∧ w.heap.size ≤ y.2.1 ∧ y.2.2 ≤ w'.heap.size) (frame Y) w)
    (done : ∀ (fuel : Nat) (l : Array Bool) (Y : Nat → Vg) (w : World), ops.size - n1 ≤ fuel → l.size = ops.size → (∀ j, j < n1 → l.getD j false = true) → (∀ j, n1 ≤ j → l.getD j false = false) → Below w0.heap.size w0 w → (∀ j, j < n1 → R j w (Y (D j)) ∧ w0.heap.size ≤ (Y (D j)).2.1 ∧ (Y (D j)).2.2 ≤ w.heap.size) → (∀ i j, i < n1 → j < n1 → i ≠ j → apart2 (Y (D i)) (Y (D j))) →
      wpAny P .any ops Q fuel l (frame Y) w) :
    ∀ (fuel : Nat) (l : Array Bool) (Y : Nat → Vg) (w : World), l.size = ops.size → unlisted l ≤ fuel → ClosedL ops l → (∀ j, n1 ≤ j → l.getD j false = false) → Below w0.heap.size w0 w → (∀ j, j < n1 → l.getD j false = true → R j w (Y (D j)) ∧ w0.heap.size ≤ (Y (D j)).2.1 ∧ (Y (D j)).2.2 ≤ w.heap.size) →
      (∀ i j, i < n1 → j < n1 → i ≠ j → l.getD i false = true → l.getD j false = true → apart2 (Y (D i)) (Y (D j))) → wpAny P .any ops Q fuel l (frame Y) w := by
  intro fuel
  induction fuel with
  | zero =>
    intro l Y w hs hu hcl hlate hB hR hA
    have hall : ∀ j, j < ops.size → l.getD j false = true := fun j hj => by
      cases hc : l.getD j false
      · have := unlisted_set (l := l) (i := j) (by omega) (by rw [getD_flip (by omega) true false]; exact hc)
        omega
      · rfl
    have hn : n1 = ops.size := Classical.byContradiction fun hne => by
      have h1 := hall n1 (by omega)
      rw [hlate n1 (Nat.le_refl _)] at h1
      cases h1
    exact done 0 l Y w (by omega) hs (fun j hj => hall j (by omega)) hlate hB (fun j hj => hR j hj (hall j (by omega))) (fun i j hi hj hne => hA i j hi hj hne (hall i (by omega)) (hall j (by omega)))
  | succ fuel ih =>
    intro l Y w hs hu hcl hlate hB hR hA
    by_cases hall : ∀ j, j < n1 → l.getD j false = true
    · refine done (fuel + 1) l Y w ?_ hs hall hlate hB (fun j hj => hR j hj (hall j hj)) (fun i j hi hj hne => hA i j hi hj hne (hall i hi) (hall j hj))
      have hcount : ∀ (m : Nat), m ≤ ops.size - n1 → ∀ l' : Array Bool, l'.size = ops.size → (∀ j, ops.size - m ≤ j → j < ops.size → l'.getD j false = false) → m ≤ unlisted l' := by
        intro m
        induction m with
        | zero => intro _ _ _ _; omega
        | succ m ihm =>
          intro hm l' hs' hf
          have h1 := unlisted_set (l := l') (i := ops.size - (m + 1)) (by omega) (by rw [getD_flip (by omega) true false]; exact hf _ (Nat.le_refl _) (by omega))
          have h2 := ihm (by omega) (l'.setIfInBounds (ops.size - (m + 1)) true) (by simpa using hs') (fun j h3 h4 => by rw [getD_set_other (by omega)]; exact hf j (by omega) h4)
          omega
      have := hcount (ops.size - n1) (Nat.le_refl _) l hs (fun j h3 h4 => hlate j (by omega))
      omega
    · have hex : ∃ j, j < n1 ∧ l.getD j false = false := Classical.byContradiction fun hno => hall fun j hj => by
        cases hc : l.getD j false
        · exact absurd ⟨j, hj, hc⟩ hno
        · rfl
      obtain ⟨r0, hr0, hr1⟩ := first_ready hs acyc n1 hn1 hex
      refine ⟨fun h => (by rw [h] at hr1; cases hr1), fun i hi => ?_⟩
      obtain ⟨hi1, hi2⟩ := ready_lt hi
      have hin : i < n1 := Classical.byContradiction fun hge => by
        obtain ⟨j, hj, hl⟩ := hex
        have := late i _ (by omega) (Array.getElem?_eq_getElem hi1) l hcl hlate (ready_after hi (Array.getElem?_eq_getElem hi1)) j hj
        rw [hl] at this
        cases this
      refine wpOp_mono ?_ (step i hin l Y w hB (fun j hj hl => (hR j hj hl).1) (fun o ho => ready_after hi ho))
      rintro a' w' ⟨y, rfl, hb, hr, hy1, hy2⟩
      have hu2 := unlisted_set (by omega : i < l.size) hi2
      refine ih _ _ _ (by simpa using hs) (by omega) (closed_set hcl (by omega) (fun o ho => ready_after hi ho)) (fun j hj => by rw [getD_set_other (by omega)]; exact hlate j hj) (hB.trans (hb.mono hB.size)) ?_ ?_
      · intro j hj hl
        by_cases e : j = i
        · subst e
          simp only [if_pos]
          exact ⟨hr, Nat.le_trans hB.size hy1, hy2⟩
        · rw [getD_set_other (fun h => e h.symm)] at hl
          simp only [if_neg (fun h => e (inj j i hj hin h))]
          obtain ⟨r1, r2, r3⟩ := hR j hj hl
          exact ⟨stable j w w' _ r1 hb, r2, Nat.le_trans r3 hb.size⟩
      · intro p q hp hq hne hlp hlq
        by_cases ep : p = i
        · have eq : q ≠ i := fun h => hne (by rw [ep, h])
          rw [getD_set_other (fun h => eq h.symm)] at hlq
          subst ep
          simp only [if_pos, if_neg (fun h => eq (inj q p hq hp h))]
          exact Or.inr (Nat.le_trans (hR q hq hlq).2.2 hy1)
        · rw [getD_set_other (fun h => ep h.symm)] at hlp
          by_cases eq : q = i
          · subst eq
            simp only [if_pos, if_neg (fun h => ep (inj p q hp hq h))]
            exact Or.inl (Nat.le_trans (hR p hp hlp).2.2 hy1)
          · rw [getD_set_other (fun h => eq h.symm)] at hlq
            simp only [if_neg (fun h => ep (inj p i hp hin h)), if_neg (fun h => eq (inj q i hq hin h))]
            exact hA p q hp hq hne hlp hlq
end
/-! ### Stores at a region's end, one behind the other -/
structure UpTo (ops : Array Oper) (k : Nat) (l : Array Bool) : Prop where
  size : l.size = ops.size
  yes : ∀ j, j < k → l.getD j false = true
  no : ∀ j, k ≤ j → l.getD j false = false
theorem UpTo.next {ops : Array Oper} {k : Nat} {l : Array Bool} (h : UpTo ops k l) (hk : k < ops.size) : UpTo ops (k + 1) (l.setIfInBounds k true) := by
  refine ⟨by simpa using h.size, fun j hj => ?_, fun j hj => ?_⟩
  · by_cases e : k = j
    · subst e; exact getD_set_same (by rw [h.size]; exact hk) false
    · rw [getD_set_other e]; exact h.yes j (by omega)
  · rw [getD_set_other (by omega)]; exact h.no j (by omega)
def chainB (ops : Array Oper) (k : Nat) : Bool := (List.range ops.size).all fun i => decide (i ≤ k) || ((ops[i]?).map fun o => o.after.any fun e => (e.on + 1 == i) && Region.binds .any e).getD true
theorem step_only {P : Program} {ops : Array Oper} {Q : Exit → Act → World → Prop} {k fuel : Nat} {l : Array Bool} {a : Act} {w : World} (hL : UpTo ops k l) (hk : k < ops.size) (hac : acycB ops = true) (hch : chainB ops k = true)
    (h : wpOp P ops Q k (fun a' w' => wpAny P .any ops Q fuel (l.setIfInBounds k true) a' w') a w) : wpAny P .any ops Q (fuel + 1) l a w := by
  have hr : k ∈ Region.ready .any ops l := ready_of hk (Array.getElem?_eq_getElem hk) (by rw [getD_flip (by rw [hL.size]; exact hk) true false]; exact hL.no k (Nat.le_refl _)) (fun e he => hL.yes _ (acyc_of hac k _ (Array.getElem?_eq_getElem hk) e he))
  refine ⟨fun h0 => (by rw [h0] at hr; cases hr), fun i hi => ?_⟩
  obtain ⟨h1, h2⟩ := ready_lt hi
  have hge : k ≤ i := Classical.byContradiction fun hlt => by
    rw [getD_flip (by rw [hL.size]; exact h1) true false, hL.yes i (by omega)] at h2
    cases h2
  have heq : i = k := Classical.byContradiction fun hne => by
    unfold chainB at hch
    rw [List.all_eq_true] at hch
    have h3 := hch i (List.mem_range.2 h1)
    rw [decide_eq_false (by omega), Bool.false_or, Array.getElem?_eq_getElem h1] at h3
    simp only [Option.map_some, Option.getD_some] at h3
    rw [Array.any_eq_true'] at h3
    obtain ⟨e, he, h4⟩ := h3
    rw [Bool.and_eq_true, beq_iff_eq] at h4
    have h5 := ready_after hi (Array.getElem?_eq_getElem h1) e he h4.2
    rw [hL.no e.on (by omega)] at h5
    cases h5
  subst heq
  exact h
theorem rowsY_two {n : Nat} {w0 w : World} {c d : EC} {x y : ExV} (hx : ExAt n w0 c.val x) (hy : ExAt n w0 d.val y) : RowsY n w0 (w.alloc (rowObj [c, d])) (.slice (some ⟨w.heap.size, 0, none⟩) 2 2) [x, y] := by
  have hn := heap_new w (rowObj [c, d])
  refine ⟨_, 2, rfl, fun e => by simp at e, fun i hi => ?_⟩
  have hi' : i < 2 := hi
  have hat : ∀ (i : Nat) (z : EC), [c, d][i]? = some z → EcAt (w.alloc (rowObj [c, d])) w.heap.size (0 + i * 7) z := fun i z hz => EcAt.ofRange fun r v hv => by
    have hr : r < 7 := (List.getElem?_eq_some_iff.1 hv).1
    unfold rowObj at hn ⊢
    rw [cell_heap hn, Nat.zero_add, List.getElem?_toArray, flat_at _ i r hr i z hz rfl]
    exact hv
  rcases (show i = 0 ∨ i = 1 by omega) with rfl | rfl
  · exact ⟨w.heap.size, 0, c, rfl, hat 0 c rfl, hx⟩
  · exact ⟨w.heap.size, 0, d, rfl, hat 1 d rfl, hy⟩
end Go.Proofs.Ytoplmioejebnnaa
