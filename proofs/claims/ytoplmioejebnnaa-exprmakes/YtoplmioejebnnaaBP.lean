/-
  Plain mathematics of boxes, for the fourth layer: no program in sight.
-/
import Derived.Test.YtoplmioejebnnaaM0
set_option linter.unusedSimpArgs false
set_option linter.unusedVariables false
namespace Go.Proofs.Ytoplmioejebnnaa

structure BoxV where
  s0 : SetV
  s1 : SetV
  s2 : SetV
  s3 : SetV
structure EvV where
  v0 : Va
  v1 : Va
  v2 : Va
  v3 : Va
def BoxV.get (b : BoxV) : Nat → SetV
  | 0 => b.s0
  | 1 => b.s1
  | 2 => b.s2
  | _ => b.s3
def EvV.get (e : EvV) : Nat → Va
  | 0 => e.v0
  | 1 => e.v1
  | 2 => e.v2
  | _ => e.v3
def BoxV.put (b : BoxV) (i : Nat) (s : SetV) : BoxV := match i with
  | 0 => { b with s0 := s }
  | 1 => { b with s1 := s }
  | 2 => { b with s2 := s }
  | 3 => { b with s3 := s }
  | _ => b
def EvV.put (e : EvV) (i : Nat) (p : Va) : EvV := match i with
  | 0 => { e with v0 := p }
  | 1 => { e with v1 := p }
  | 2 => { e with v2 := p }
  | 3 => { e with v3 := p }
  | _ => e
theorem BoxV.get_put (b : BoxV) (i j : Nat) (s : SetV) (hi : i < 4) (hj : j < 4) : (b.put i s).get j = if j = i then s else b.get j := by
  match i, hi, j, hj with
  | 0, _, 0, _ => rfl
  | 0, _, 1, _ => rfl
  | 0, _, 2, _ => rfl
  | 0, _, 3, _ => rfl
  | 1, _, 0, _ => rfl
  | 1, _, 1, _ => rfl
  | 1, _, 2, _ => rfl
  | 1, _, 3, _ => rfl
  | 2, _, 0, _ => rfl
  | 2, _, 1, _ => rfl
  | 2, _, 2, _ => rfl
  | 2, _, 3, _ => rfl
  | 3, _, 0, _ => rfl
  | 3, _, 1, _ => rfl
  | 3, _, 2, _ => rfl
  | 3, _, 3, _ => rfl
theorem EvV.get_put (e : EvV) (i j : Nat) (p : Va) (hi : i < 4) (hj : j < 4) : (e.put i p).get j = if j = i then p else e.get j := by
  match i, hi, j, hj with
  | 0, _, 0, _ => rfl
  | 0, _, 1, _ => rfl
  | 0, _, 2, _ => rfl
  | 0, _, 3, _ => rfl
  | 1, _, 0, _ => rfl
  | 1, _, 1, _ => rfl
  | 1, _, 2, _ => rfl
  | 1, _, 3, _ => rfl
  | 2, _, 0, _ => rfl
  | 2, _, 1, _ => rfl
  | 2, _, 2, _ => rfl
  | 2, _, 3, _ => rfl
  | 3, _, 0, _ => rfl
  | 3, _, 1, _ => rfl
  | 3, _, 2, _ => rfl
  | 3, _, 3, _ => rfl
/-- Of all four attributes. -/
def all4 (f : Nat → Bool) : Bool := ((f 0 && f 1) && f 2) && f 3
theorem all4_iff (f : Nat → Bool) : all4 f = true ↔ ∀ i, i < 4 → f i = true := by
  unfold all4
  rw [Bool.and_eq_true, Bool.and_eq_true, Bool.and_eq_true]
  constructor
  · rintro ⟨⟨⟨h0, h1⟩, h2⟩, h3⟩ i hi
    match i, hi with
    | 0, _ => exact h0
    | 1, _ => exact h1
    | 2, _ => exact h2
    | 3, _ => exact h3
  · intro h
    exact ⟨⟨⟨h 0 (by omega), h 1 (by omega)⟩, h 2 (by omega)⟩, h 3 (by omega)⟩
structure GoodB (b : BoxV) : Prop where
  g : ∀ i, i < 4 → Good (b.get i)
  l : ∀ i, i < 4 → (b.get i).strs.length ≤ 1000
/-- The numbers of an event are the machine's. -/
def inE (e : EvV) : Prop := ∀ i, i < 4 → -9223372036854775808 ≤ (e.get i).2.1 ∧ (e.get i).2.1 ≤ 9223372036854775807
def hasE (b : BoxV) (e : EvV) : Bool := all4 fun i => hasP (b.get i) (e.get i)
def rightE (e : EvV) : Bool := all4 fun i => rightB (e.get i).1 (e.get i).2.1 (e.get i).2.2
def emptyBx (b : BoxV) : Bool := !all4 fun i => !emptyB (b.get i)
def inBx (a b : BoxV) : Bool := emptyBx a || all4 fun i => inB (a.get i) (b.get i)
def sameBx (a b : BoxV) : Bool := all4 fun i => sameB (a.get i) (b.get i)
def andBx (a b : BoxV) : BoxV := ⟨andV a.s0 b.s0, andV a.s1 b.s1, andV a.s2 b.s2, andV a.s3 b.s3⟩
def allBx : BoxV := ⟨allV, allV, allV, allV⟩
theorem andBx_get (a b : BoxV) (i : Nat) (hi : i < 4) : (andBx a b).get i = andV (a.get i) (b.get i) := by
  match i, hi with
  | 0, _ => rfl
  | 1, _ => rfl
  | 2, _ => rfl
  | 3, _ => rfl
theorem allBx_get (i : Nat) : allBx.get i = allV := by
  match i with
  | 0 => rfl
  | 1 => rfl
  | 2 => rfl
  | _ + 3 => rfl
theorem hasE_iff (b : BoxV) (e : EvV) : hasE b e = true ↔ ∀ i, i < 4 → hasP (b.get i) (e.get i) = true := all4_iff _
theorem emptyBx_iff (b : BoxV) : emptyBx b = false ↔ ∀ i, i < 4 → emptyB (b.get i) = false := by
  unfold emptyBx
  rw [Bool.not_eq_false', all4_iff]
  constructor
  · intro h i hi; simpa using h i hi
  · intro h i hi; simpa using h i hi
theorem noSet_has (p : Va) : hasP noSet p = false := by
  cases hn : hasP noSet p
  · rfl
  · exfalso
    rcases rightV_cases (has_right hn) with e | ⟨n, e⟩ | ⟨s, hs, e⟩
    · rw [e, has_abs] at hn; exact absurd hn (by simp [noSet])
    · rw [e, has_num] at hn; exact absurd hn (by simp [noSet, inIntsB])
    · rw [e, has_str _ hs] at hn; exact absurd hn (by simp [noSet, inStrsB])
theorem empty_iff (S : SetV) : emptyB S = true ↔ S = noSet := by
  rw [← sameB_iff]
  obtain ⟨xa, xi, xc, xs⟩ := S
  cases xa <;> cases xi <;> cases xc <;> cases xs <;> simp [emptyB, sameB, noSet, rngEqB, strEqB]
/-- What is not empty has a value. -/
theorem some_has {S : SetV} (h : Good S) (l : S.strs.length ≤ 1000) (hne : emptyB S = false) : ∃ p : Va, -9223372036854775808 ≤ p.2.1 ∧ p.2.1 ≤ 9223372036854775807 ∧ hasP S p = true := by
  refine Classical.byContradiction fun hno => ?_
  have : S = noSet := good_ext h noSet_good (by simp [noSet]; omega) (fun p b0 b1 => by
    rw [noSet_has]
    cases hp : hasP S p
    · rfl
    · exact absurd ⟨p, b0, b1, hp⟩ hno)
  rw [(empty_iff S).2 this] at hne
  cases hne
theorem inB_has {A B : SetV} (hA : Good A) (hB : Good B) (lA : A.strs.length ≤ 1000) (lB : B.strs.length ≤ 1000) : inB A B = true ↔ ∀ p : Va, -9223372036854775808 ≤ p.2.1 → p.2.1 ≤ 9223372036854775807 → hasP A p = true → hasP B p = true :=
  inB_iff hA hB (by omega)
/-- Lying in one another: each event of the one is one of the other. -/
theorem inBx_iff {a b : BoxV} (ha : GoodB a) (hb : GoodB b) : inBx a b = true ↔ ∀ e, inE e → hasE a e = true → hasE b e = true := by
  unfold inBx
  cases he : emptyBx a
  · rw [Bool.false_or, all4_iff]
    have hne := (emptyBx_iff a).1 he
    constructor
    · intro h e hr hh
      rw [hasE_iff] at hh ⊢
      exact fun i hi => (inB_has (ha.g i hi) (hb.g i hi) (ha.l i hi) (hb.l i hi)).1 (h i hi) _ (hr i hi).1 (hr i hi).2 (hh i hi)
    · intro h i hi
      refine (inB_has (ha.g i hi) (hb.g i hi) (ha.l i hi) (hb.l i hi)).2 fun p p0 p1 hp => ?_
      obtain ⟨q0, x0, y0, z0⟩ := some_has (ha.g 0 (by omega)) (ha.l 0 (by omega)) (hne 0 (by omega))
      obtain ⟨q1, x1, y1, z1⟩ := some_has (ha.g 1 (by omega)) (ha.l 1 (by omega)) (hne 1 (by omega))
      obtain ⟨q2, x2, y2, z2⟩ := some_has (ha.g 2 (by omega)) (ha.l 2 (by omega)) (hne 2 (by omega))
      obtain ⟨q3, x3, y3, z3⟩ := some_has (ha.g 3 (by omega)) (ha.l 3 (by omega)) (hne 3 (by omega))
      have hq : ∀ j, j < 4 → (-9223372036854775808 ≤ ((⟨q0, q1, q2, q3⟩ : EvV).get j).2.1 ∧ ((⟨q0, q1, q2, q3⟩ : EvV).get j).2.1 ≤ 9223372036854775807) ∧ hasP (a.get j) ((⟨q0, q1, q2, q3⟩ : EvV).get j) = true := fun j hj => by
        match j, hj with
        | 0, _ => exact ⟨⟨x0, y0⟩, z0⟩
        | 1, _ => exact ⟨⟨x1, y1⟩, z1⟩
        | 2, _ => exact ⟨⟨x2, y2⟩, z2⟩
        | 3, _ => exact ⟨⟨x3, y3⟩, z3⟩
      generalize (⟨q0, q1, q2, q3⟩ : EvV) = e at hq
      have h1 := h (e.put i p) (fun j hj => by
        rw [EvV.get_put e i j p hi hj]
        split
        · exact ⟨p0, p1⟩
        · exact (hq j hj).1) ((hasE_iff _ _).2 fun j hj => by
        rw [EvV.get_put e i j p hi hj]
        split
        · rename_i e'; subst e'; exact hp
        · exact (hq j hj).2)
      have h2 := (hasE_iff _ _).1 h1 i hi
      rw [EvV.get_put e i i p hi hi, if_pos rfl] at h2
      exact h2
  · rw [Bool.true_or]
    refine ⟨fun _ e hr hh => ?_, fun _ => rfl⟩
    exfalso
    have : ¬ emptyBx a = false := by rw [he]; simp
    refine this ((emptyBx_iff a).2 fun i hi => ?_)
    cases hx : emptyB (a.get i)
    · rfl
    · have h1 := (hasE_iff _ _).1 hh i hi
      rw [(empty_iff _).1 hx, noSet_has] at h1
      cases h1
theorem andBx_good {a b : BoxV} (ha : GoodB a) (hb : GoodB b) (la : ∀ i, i < 4 → (a.get i).strs.length ≤ 400) (lb : ∀ i, i < 4 → (b.get i).strs.length ≤ 400) : GoodB (andBx a b) := by
  refine ⟨fun i hi => ?_, fun i hi => ?_⟩
  · rw [andBx_get a b i hi]; exact andV_good (ha.g i hi) (hb.g i hi)
  · rw [andBx_get a b i hi]
    have := (andV_len (ha.g i hi) (hb.g i hi)).2
    have := la i hi
    have := lb i hi
    omega
theorem andBx_has {a b : BoxV} (ha : GoodB a) (hb : GoodB b) {e : EvV} (he : inE e) : hasE (andBx a b) e = (hasE a e && hasE b e) := by
  apply bool_of_iff
  rw [Bool.and_eq_true, hasE_iff, hasE_iff, hasE_iff]
  constructor
  · intro h
    refine ⟨fun i hi => ?_, fun i hi => ?_⟩
    · have h1 := h i hi
      rw [andBx_get a b i hi, andV_has (ha.g i hi) (hb.g i hi) _ (he i hi).1 (he i hi).2, Bool.and_eq_true] at h1
      exact h1.1
    · have h1 := h i hi
      rw [andBx_get a b i hi, andV_has (ha.g i hi) (hb.g i hi) _ (he i hi).1 (he i hi).2, Bool.and_eq_true] at h1
      exact h1.2
  · rintro ⟨h1, h2⟩ i hi
    rw [andBx_get a b i hi, andV_has (ha.g i hi) (hb.g i hi) _ (he i hi).1 (he i hi).2, Bool.and_eq_true]
    exact ⟨h1 i hi, h2 i hi⟩
/-- With both sets together in one attribute: just the events of both. -/
theorem joins_has {a : BoxV} (ha : GoodB a) (i : Nat) (hi : i < 4) {s : SetV} (hs : Good s) (e : EvV) : hasE (a.put i (orV (a.get i) s)) e = (hasE a e || hasE (a.put i s) e) := by
  apply bool_of_iff
  rw [Bool.or_eq_true, hasE_iff, hasE_iff, hasE_iff]
  constructor
  · intro h
    have h1 := h i hi
    rw [BoxV.get_put _ _ _ _ hi hi, if_pos rfl, orV_has (ha.g i hi) hs, Bool.or_eq_true] at h1
    rcases h1 with h1 | h1
    · left
      intro j hj
      have h2 := h j hj
      rw [BoxV.get_put _ _ _ _ hi hj] at h2
      by_cases e' : j = i
      · rw [e']; exact h1
      · rw [if_neg e'] at h2; exact h2
    · right
      intro j hj
      have h2 := h j hj
      rw [BoxV.get_put _ _ _ _ hi hj] at h2 ⊢
      by_cases e' : j = i
      · rw [if_pos e', e']; exact h1
      · rw [if_neg e'] at h2 ⊢; exact h2
  · rintro (h | h) j hj
    · rw [BoxV.get_put _ _ _ _ hi hj]
      by_cases e' : j = i
      · rw [if_pos e', orV_has (ha.g i hi) hs, e', h i hi]; rfl
      · rw [if_neg e']; exact h j hj
    · have h2 := h j hj
      rw [BoxV.get_put _ _ _ _ hi hj] at h2 ⊢
      by_cases e' : j = i
      · rw [if_pos e'] at h2 ⊢
        rw [orV_has (ha.g i hi) hs, h2, Bool.or_true]
      · rw [if_neg e'] at h2 ⊢; exact h2
theorem put_good {a : BoxV} (ha : GoodB a) {i : Nat} (hi : i < 4) {s : SetV} (hs : Good s) (ls : s.strs.length ≤ 1000) : GoodB (a.put i s) := by
  refine ⟨fun j hj => ?_, fun j hj => ?_⟩
  · rw [BoxV.get_put _ _ _ _ hi hj]; split
    · exact hs
    · exact ha.g j hj
  · rw [BoxV.get_put _ _ _ _ hi hj]; split
    · exact ls
    · exact ha.l j hj
theorem all_good : GoodB allBx := ⟨fun i _ => by rw [allBx_get]; exact allV_good, fun i _ => by rw [allBx_get]; simp [allV]⟩
theorem all_has {e : EvV} (he : inE e) : hasE allBx e = rightE e := by
  unfold hasE rightE
  refine bool_of_iff ?_
  rw [all4_iff, all4_iff]
  constructor
  · intro h i hi
    have h1 := h i hi
    rw [allBx_get, allV_has _ (he i hi).1 (he i hi).2] at h1
    exact h1
  · intro h i hi
    rw [allBx_get, allV_has _ (he i hi).1 (he i hi).2]
    exact h i hi
/-- An atom has just the events whose attribute is in its set. -/
theorem atom_has {s : SetV} {i : Nat} (hi : i < 4) {e : EvV} (he : inE e) : hasE (allBx.put i s) e = (hasE allBx e && hasP s (e.get i)) := by
  apply bool_of_iff
  rw [Bool.and_eq_true, all_has he, hasE_iff]
  unfold rightE
  rw [all4_iff]
  constructor
  · intro h
    have h1 := h i hi
    rw [BoxV.get_put _ _ _ _ hi hi, if_pos rfl] at h1
    refine ⟨fun j hj => ?_, h1⟩
    exact has_right (h j hj)
  · rintro ⟨h1, h2⟩ j hj
    rw [BoxV.get_put _ _ _ _ hi hj]
    by_cases e' : j = i
    · rw [if_pos e', e']; exact h2
    · rw [if_neg e', allBx_get, allV_has _ (he j hj).1 (he j hj).2]; exact h1 j hj
theorem inBx_refl {a : BoxV} (ha : GoodB a) : inBx a a = true := (inBx_iff ha ha).2 fun _ _ h => h
theorem inBx_trans {a b c : BoxV} (ha : GoodB a) (hb : GoodB b) (hc : GoodB c) (h1 : inBx a b = true) (h2 : inBx b c = true) : inBx a c = true :=
  (inBx_iff ha hc).2 fun e he h => (inBx_iff hb hc).1 h2 e he ((inBx_iff ha hb).1 h1 e he h)
theorem inBx_all {a : BoxV} (ha : GoodB a) : inBx a allBx = true := (inBx_iff ha all_good).2 fun e he h => by
  rw [all_has he]
  unfold rightE
  rw [all4_iff]
  exact fun i hi => has_right ((hasE_iff _ _).1 h i hi)
theorem and_in_left {a b : BoxV} (ha : GoodB a) (hb : GoodB b) (hab : GoodB (andBx a b)) : inBx (andBx a b) a = true ∧ inBx (andBx a b) b = true := by
  refine ⟨(inBx_iff hab ha).2 fun e he h => ?_, (inBx_iff hab hb).2 fun e he h => ?_⟩
  · rw [andBx_has ha hb he, Bool.and_eq_true] at h; exact h.1
  · rw [andBx_has ha hb he, Bool.and_eq_true] at h; exact h.2
theorem in_and {a b c : BoxV} (ha : GoodB a) (hb : GoodB b) (hc : GoodB c) (hbc : GoodB (andBx b c)) : (inBx a b && inBx a c) = inBx a (andBx b c) := by
  apply bool_of_iff
  rw [Bool.and_eq_true, inBx_iff ha hb, inBx_iff ha hc, inBx_iff ha hbc]
  constructor
  · rintro ⟨h1, h2⟩ e he h
    rw [andBx_has hb hc he, h1 e he h, h2 e he h]; rfl
  · intro h
    refine ⟨fun e he hh => ?_, fun e he hh => ?_⟩
    · have := h e he hh
      rw [andBx_has hb hc he, Bool.and_eq_true] at this; exact this.1
    · have := h e he hh
      rw [andBx_has hb hc he, Bool.and_eq_true] at this; exact this.2
theorem joins_in {a : BoxV} (ha : GoodB a) {i : Nat} (hi : i < 4) {s : SetV} (hs : Good s) (hb : GoodB (a.put i s)) (hc : GoodB (a.put i (orV (a.get i) s))) : inBx a (a.put i (orV (a.get i) s)) = true ∧ inBx (a.put i s) (a.put i (orV (a.get i) s)) = true := by
  refine ⟨(inBx_iff ha hc).2 fun e he h => ?_, (inBx_iff hb hc).2 fun e he h => ?_⟩
  · rw [joins_has ha i hi hs, h]; rfl
  · rw [joins_has ha i hi hs, h, Bool.or_true]
theorem sameBx_refl (a : BoxV) : sameBx a a = true := (all4_iff _).2 fun i _ => (sameB_iff _ _).2 rfl
theorem and_all {a : BoxV} (ha : GoodB a) (la : ∀ i, i < 4 → (a.get i).strs.length ≤ 400) : sameBx (andBx a allBx) a = true := by
  refine (all4_iff _).2 fun i hi => (sameB_iff _ _).2 ?_
  rw [andBx_get _ _ _ hi, allBx_get]
  have g := ha.g i hi
  have l := la i hi
  have xl := (andV_len g allV_good).2
  have al : allV.strs.length = 0 := rfl
  refine good_ext (andV_good g allV_good) g (by omega) fun p b0 b1 => ?_
  rw [andV_has g allV_good p b0 b1, allV_has p b0 b1]
  cases hp : hasP (a.get i) p
  · rfl
  · rw [has_right hp]; rfl
end Go.Proofs.Ytoplmioejebnnaa
