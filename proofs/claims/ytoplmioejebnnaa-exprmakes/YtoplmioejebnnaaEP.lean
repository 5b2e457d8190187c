/-
  Plain mathematics of expressions, for the fifth layer: no program in sight.
-/
import Derived.Test.YtoplmioejebnnaaBP
set_option linter.unusedSimpArgs false
set_option linter.unusedVariables false
namespace Go.Proofs.Ytoplmioejebnnaa

structure ExV where
  kind : Int
  attr : Int
  set : SetV
  sub : List ExV

/-- No deeper than so many levels. -/
def lowX : Nat → ExV → Prop
  | 0, _ => False
  | n + 1, x => ∀ y ∈ x.sub, lowX n y
theorem lowX_mono : ∀ (n m : Nat) (x : ExV), n ≤ m → lowX n x → lowX m x
  | 0, _, _, _, h => by cases h
  | n + 1, m, x, hm, h => by
    obtain ⟨k, rfl⟩ : ∃ k, m = k + 1 := ⟨m - 1, by omega⟩
    exact fun y hy => lowX_mono n k y (by omega) (h y hy)

/-! ### The reference's counts: a depth that is left, from 21 on -/
def countX : Nat → ExV → Int
  | 0, _ => 100
  | f + 1, x => min (x.sub.foldl (fun n y => if n < 100 then n + countX f y else n) 1) 100
def deepX : Nat → ExV → Int
  | 0, _ => 20
  | f + 1, x => min ((x.sub.take 100).foldl (fun n y => max n (deepX f y)) 0 + 1) 20
def fitsX (x : ExV) : Bool := decide (countX 21 x ≤ 40) && decide (deepX 21 x ≤ 8)

theorem foldl_max_ge (g : ExV → Int) : ∀ (l : List ExV) (n : Int), n ≤ l.foldl (fun n y => max n (g y)) n
  | [], n => by simp
  | y :: l, n => by
    have := foldl_max_ge g l (max n (g y))
    rw [List.foldl_cons]
    omega
theorem foldl_max_mem (g : ExV → Int) : ∀ (l : List ExV) (n : Int) (y : ExV), y ∈ l → g y ≤ l.foldl (fun n y => max n (g y)) n
  | z :: l, n, y, h => by
    rw [List.foldl_cons]
    rcases List.mem_cons.1 h with rfl | h
    · have := foldl_max_ge g l (max n (g y))
      omega
    · exact foldl_max_mem g l _ y h
theorem deepX_pos : ∀ (f : Nat) (x : ExV), 1 ≤ deepX f x
  | 0, _ => by unfold deepX; omega
  | f + 1, x => by
    have := foldl_max_ge (deepX f) (x.sub.take 100) 0
    unfold deepX
    omega
theorem countX_pos : ∀ (f : Nat) (x : ExV), 1 ≤ countX f x
  | 0, _ => by unfold countX; omega
  | f + 1, x => by
    have hg : ∀ (l : List ExV) (n : Int), (∀ y ∈ l, 1 ≤ countX f y) → n ≤ l.foldl (fun n y => if n < 100 then n + countX f y else n) n := by
      intro l
      induction l with
      | nil => intro n _; simp
      | cons y l ih =>
        intro n h
        have h1 := h y (by simp)
        rw [List.foldl_cons]
        have := ih (if n < 100 then n + countX f y else n) (fun z hz => h z (by simp [hz]))
        split at this <;> split <;> omega
    have := hg x.sub 1 (fun y _ => countX_pos f y)
    unfold countX
    omega
/-- So many at least as there are of Sub, while below 100. -/
theorem count_len (f : Nat) : ∀ (l : List ExV) (n : Int), l.foldl (fun n y => if n < 100 then n + countX f y else n) n < 100 → n + (l.length : Int) ≤ l.foldl (fun n y => if n < 100 then n + countX f y else n) n
  | [], n, _ => by simp
  | y :: l, n, h => by
    rw [List.foldl_cons] at h ⊢
    have h1 := countX_pos f y
    have h2 := count_len f l _ h
    rw [List.length_cons]
    by_cases hn : n < 100
    · rw [if_pos hn] at h2 h ⊢
      omega
    · rw [if_neg hn] at h2 h ⊢
      omega
theorem fits_len {x : ExV} (h : fitsX x = true) : x.sub.length ≤ 39 := by
  unfold fitsX at h
  rw [Bool.and_eq_true, decide_eq_true_eq, decide_eq_true_eq] at h
  have h1 : min (x.sub.foldl (fun n y => if n < 100 then n + countX 20 y else n) 1) 100 ≤ 40 := h.1
  have := count_len 20 x.sub 1 (by omega)
  omega
/-- How deep it is told is how deep it is, while short rows hang on it. -/
theorem deep_low : ∀ (f : Nat) (k : Nat) (x : ExV), k ≤ f → countX f x < 100 → deepX f x ≤ k → k < 20 → lowX k x
  | 0, k, x, hk, hc, hd, _ => by unfold countX at hc; omega
  | f + 1, 0, x, hk, hc, hd, _ => by have := deepX_pos (f + 1) x; omega
  | f + 1, k + 1, x, hk, hc, hd, hk2 => by
    unfold countX at hc
    unfold deepX at hd
    have hl := count_len f x.sub 1 (by omega)
    have ht : x.sub.take 100 = x.sub := List.take_of_length_le (by omega)
    rw [ht] at hd
    intro y hy
    have h1 := foldl_max_mem (deepX f) x.sub 0 y hy
    refine deep_low f k y (by omega) ?_ (by omega) (by omega)
    have hg : ∀ (l : List ExV) (n : Int), l.foldl (fun n y => if n < 100 then n + countX f y else n) n < 100 → 0 ≤ n → y ∈ l → countX f y < 100 := by
      intro l
      induction l with
      | nil => intro n _ _ h; cases h
      | cons z l ih =>
        intro n h h0 hm
        rw [List.foldl_cons] at h
        have hz := countX_pos f z
        have h2 := count_len f l _ h
        by_cases hn : n < 100
        · rw [if_pos hn] at h h2
          rcases List.mem_cons.1 hm with rfl | hm
          · omega
          · exact ih _ h (by omega) hm
        · rw [if_neg hn] at h h2
          omega
    exact hg x.sub 1 (by omega) (by omega) hy
theorem fits_low {x : ExV} (h : fitsX x = true) : lowX 8 x := by
  unfold fitsX at h
  rw [Bool.and_eq_true, decide_eq_true_eq, decide_eq_true_eq] at h
  exact deep_low 21 8 x (by omega) (by omega) (by exact_mod_cast h.2) (by omega)

/-! ### Which may be, and of which event they are so -/
def smallB (s : SetV) : Bool := decide (s.ints.length ≤ 6) && decide (s.strs.length ≤ 6)
def nodeX (x : ExV) : Bool :=
  if x.kind = 1 then decide (0 ≤ x.attr ∧ x.attr ≤ 3 ∧ x.sub.length = 0) && (rightSet x.set && smallB x.set)
  else if x.kind = 2 ∨ x.kind = 3 ∨ x.kind = 4 then (decide (x.attr = 0) && sameB x.set noSet) && decide (x.kind = 4 → x.sub.length = 1)
  else false
def eachX : Nat → ExV → Bool
  | 0, _ => false
  | n + 1, x => nodeX x && x.sub.all (eachX n)
def rightX (x : ExV) : Bool := fitsX x && eachX 8 x
def isX : Nat → ExV → EvV → Bool
  | 0, _, _ => false
  | n + 1, x, e =>
    if x.kind = 1 then hasP x.set (e.get x.attr.toNat)
    else if x.kind = 2 then x.sub.all fun y => isX n y e
    else if x.kind = 3 then x.sub.any fun y => isX n y e
    else !(x.sub.head?.elim false fun y => isX n y e)
def evalX (x : ExV) (e : EvV) : Bool := (rightX x && rightE e) && isX 8 x e
def andX (l : List ExV) : ExV := ⟨2, 0, noSet, l⟩
def orX (l : List ExV) : ExV := ⟨3, 0, noSet, l⟩
def notX (x : ExV) : ExV := ⟨4, 0, noSet, [x]⟩
def atomX (attr : Int) (s : SetV) : ExV := ⟨1, attr, s, []⟩
theorem all_congr_mem {α : Type} (p q : α → Bool) : ∀ (l : List α), (∀ y ∈ l, p y = q y) → l.all p = l.all q
  | [], _ => rfl
  | y :: l, h => by rw [List.all_cons, List.all_cons, h y (by simp), all_congr_mem p q l fun z hz => h z (by simp [hz])]
theorem any_congr_mem {α : Type} (p q : α → Bool) : ∀ (l : List α), (∀ y ∈ l, p y = q y) → l.any p = l.any q
  | [], _ => rfl
  | y :: l, h => by rw [List.any_cons, List.any_cons, h y (by simp), any_congr_mem p q l fun z hz => h z (by simp [hz])]
theorem isX_fuel : ∀ (n m : Nat) (x : ExV) (e : EvV), lowX n x → n ≤ m → isX m x e = isX n x e
  | 0, _, _, _, h, _ => by cases h
  | n + 1, m, x, e, h, hm => by
    obtain ⟨k, rfl⟩ : ∃ k, m = k + 1 := ⟨m - 1, by omega⟩
    have hs : ∀ y ∈ x.sub, isX k y e = isX n y e := fun y hy => isX_fuel n k y e (h y hy) (by omega)
    unfold isX
    rw [all_congr_mem _ _ _ hs, any_congr_mem _ _ _ hs]
    cases hx : x.sub with
    | nil => rfl
    | cons y l =>
      rw [hx] at hs
      simp only [List.head?_cons, Option.elim_some]
      rw [hs y (by simp)]
theorem isX_and (n : Nat) (l : List ExV) (e : EvV) : isX (n + 1) (andX l) e = l.all fun y => isX n y e := rfl
theorem isX_or (n : Nat) (l : List ExV) (e : EvV) : isX (n + 1) (orX l) e = l.any fun y => isX n y e := rfl
theorem isX_not (n : Nat) (x : ExV) (e : EvV) : isX (n + 1) (notX x) e = !isX n x e := rfl
theorem isX_atom (n : Nat) (attr : Int) (s : SetV) (e : EvV) : isX (n + 1) (atomX attr s) e = hasP s (e.get attr.toNat) := rfl
theorem rightX_low {x : ExV} (h : rightX x = true) : lowX 8 x := by
  unfold rightX at h
  rw [Bool.and_eq_true] at h
  exact fits_low h.1
/-- Of parts of one that may be, one level less is enough. -/
theorem part_low {x : ExV} (h : rightX x = true) {y : ExV} (hy : y ∈ x.sub) : lowX 7 y := rightX_low h y hy
theorem part_is {x : ExV} (h : rightX x = true) {y : ExV} (hy : y ∈ x.sub) (e : EvV) : isX 7 y e = isX 8 y e := (isX_fuel 7 8 y e (part_low h hy) (by omega)).symm
/-! ### The laws of the fifth layer in plain words -/
theorem evalX_right {x : ExV} (h : rightX x = true) (e : EvV) : evalX x e = (rightE e && isX 8 x e) := by unfold evalX; rw [h, Bool.true_and]
theorem evalX_wrong {x : ExV} (h : rightX x = false) (e : EvV) : evalX x e = false := by unfold evalX; rw [h, Bool.false_and, Bool.false_and]
theorem makes_and {a b : ExV} {e : EvV} (ha : rightX a = true) (hb : rightX b = true) (hx : rightX (andX [a, b]) = true) : evalX (andX [a, b]) e = (evalX a e && evalX b e) := by
  rw [evalX_right hx, evalX_right ha, evalX_right hb, isX_and]
  have h1 := part_is hx (y := a) (by simp [andX]) e
  have h2 := part_is hx (y := b) (by simp [andX]) e
  simp only [List.all_cons, List.all_nil, Bool.and_true]
  rw [h1, h2]
  cases rightE e <;> simp
theorem makes_or {a b : ExV} {e : EvV} (ha : rightX a = true) (hb : rightX b = true) (hx : rightX (orX [a, b]) = true) : evalX (orX [a, b]) e = (evalX a e || evalX b e) := by
  rw [evalX_right hx, evalX_right ha, evalX_right hb, isX_or]
  have h1 := part_is hx (y := a) (by simp [orX]) e
  have h2 := part_is hx (y := b) (by simp [orX]) e
  simp only [List.any_cons, List.any_nil, Bool.or_false]
  rw [h1, h2]
  cases rightE e <;> simp
theorem makes_not {a : ExV} {e : EvV} (ha : rightX a = true) (hx : rightX (notX a) = true) : evalX (notX a) e = (rightE e && !evalX a e) := by
  rw [evalX_right hx, evalX_right ha, isX_not]
  have h1 := part_is hx (y := a) (by simp [notX]) e
  rw [h1]
  cases rightE e <;> simp
theorem right_none : rightX (andX []) = true := by rfl
theorem right_never : rightX (orX []) = true := by rfl
theorem eval_none (e : EvV) : evalX (andX []) e = rightE e := by
  rw [evalX_right right_none, isX_and]
  simp
theorem eval_never (e : EvV) : evalX (orX []) e = false := by
  rw [evalX_right right_never, isX_or]
  simp
/-- Not of and is or of nots; and the other way round. -/
theorem morgan_and {l : List ExV} {e : EvV} (ha : rightX (notX (andX l)) = true) (hb : rightX (orX (l.map notX)) = true) : evalX (notX (andX l)) e = evalX (orX (l.map notX)) e := by
  rw [evalX_right ha, evalX_right hb, isX_not, isX_and, isX_or, List.any_map]
  have h6 : ∀ y ∈ l, isX 6 y e = isX 8 y e := fun y hy => by
    have := rightX_low ha (andX l) (by simp [notX]) y hy
    exact (isX_fuel 6 8 y e this (by omega)).symm
  rw [all_congr_mem _ _ _ h6]
  have h7 : ∀ y ∈ l, ((fun y => isX 7 y e) ∘ notX) y = !isX 8 y e := fun y hy => by
    show isX (6 + 1) (notX y) e = _
    rw [isX_not, h6 y hy]
  rw [any_congr_mem _ _ _ h7, ← List.not_all_eq_any_not]
theorem morgan_or {l : List ExV} {e : EvV} (ha : rightX (notX (orX l)) = true) (hb : rightX (andX (l.map notX)) = true) : evalX (notX (orX l)) e = evalX (andX (l.map notX)) e := by
  rw [evalX_right ha, evalX_right hb, isX_not, isX_or, isX_and, List.all_map]
  have h6 : ∀ y ∈ l, isX 6 y e = isX 8 y e := fun y hy => by
    have := rightX_low ha (orX l) (by simp [notX]) y hy
    exact (isX_fuel 6 8 y e this (by omega)).symm
  rw [any_congr_mem _ _ _ h6]
  have h7 : ∀ y ∈ l, ((fun y => isX 7 y e) ∘ notX) y = !isX 8 y e := fun y hy => by
    show isX (6 + 1) (notX y) e = _
    rw [isX_not, h6 y hy]
  rw [all_congr_mem _ _ _ h7, ← List.not_any_eq_all_not]
theorem twice_not {x : ExV} {e : EvV} (hx : rightX x = true) (h : rightX (notX (notX x)) = true) : evalX (notX (notX x)) e = evalX x e := by
  have h6 : lowX 6 x := rightX_low h (notX x) (by simp [notX]) x (by simp [notX])
  rw [evalX_right h, evalX_right hx, isX_not, isX_not, Bool.not_not, isX_fuel 6 8 x e h6 (by omega)]
theorem twice_and {x : ExV} {e : EvV} (hx : rightX x = true) (h : rightX (andX [x, andX []]) = true) : evalX (andX [x, andX []]) e = evalX x e := by
  rw [makes_and hx right_none h, eval_none, evalX_right hx]
  cases rightE e <;> simp
theorem twice_or {x : ExV} {e : EvV} (hx : rightX x = true) (h : rightX (orX [orX [], x]) = true) : evalX (orX [orX [], x]) e = evalX x e := by
  rw [makes_or right_never hx h, eval_never, Bool.false_or]
theorem twice_and2 {x : ExV} {e : EvV} (hx : rightX x = true) (h : rightX (andX [x, x]) = true) : evalX (andX [x, x]) e = evalX x e := by
  rw [makes_and hx hx h, Bool.and_self]
theorem twice_or2 {x : ExV} {e : EvV} (hx : rightX x = true) (h : rightX (orX [x, x]) = true) : evalX (orX [x, x]) e = evalX x e := by
  rw [makes_or hx hx h, Bool.or_self]
theorem twice_and1 {x : ExV} {e : EvV} (hx : rightX x = true) (h : rightX (andX [x]) = true) : evalX (andX [x]) e = evalX x e := by
  rw [evalX_right h, evalX_right hx, isX_and, List.all_cons, List.all_nil, Bool.and_true, part_is h (y := x) (by simp [andX]) e]
theorem twice_or1 {x : ExV} {e : EvV} (hx : rightX x = true) (h : rightX (orX [x]) = true) : evalX (orX [x]) e = evalX x e := by
  rw [evalX_right h, evalX_right hx, isX_or, List.any_cons, List.any_nil, Bool.or_false, part_is h (y := x) (by simp [orX]) e]
/-- One part, and one level. -/
theorem atom_fits (attr : Int) (s : SetV) : fitsX (atomX attr s) = true := by
  unfold fitsX
  rw [show countX 21 (atomX attr s) = 1 from rfl, show deepX 21 (atomX attr s) = 1 from rfl]
  rfl
theorem notAtom_fits (attr : Int) (s : SetV) : fitsX (notX (atomX attr s)) = true := by
  unfold fitsX
  rw [show countX 21 (notX (atomX attr s)) = 2 from rfl, show deepX 21 (notX (atomX attr s)) = 2 from rfl]
  rfl
theorem notAtom_right {attr : Int} {s : SetV} (h : rightX (atomX attr s) = true) : rightX (notX (atomX attr s)) = true := by
  unfold rightX at h ⊢
  rw [Bool.and_eq_true] at h ⊢
  refine ⟨notAtom_fits attr s, ?_⟩
  have h1 := h.2
  unfold eachX at h1 ⊢
  rw [Bool.and_eq_true] at h1 ⊢
  refine ⟨rfl, ?_⟩
  show (List.all [atomX attr s] (eachX 7)) = true
  rw [List.all_cons, List.all_nil, Bool.and_true]
  unfold eachX
  rw [Bool.and_eq_true]
  exact ⟨h1.1, rfl⟩
theorem atoms_plain {attr : Int} {s : SetV} {e : EvV} (h : rightX (atomX attr s) = true) : evalX (atomX attr s) e = (evalX (andX []) e && hasP s (e.get attr.toNat)) ∧ evalX (notX (atomX attr s)) e = (evalX (andX []) e && !hasP s (e.get attr.toNat)) := by
  refine ⟨?_, ?_⟩
  · rw [evalX_right h, isX_atom, eval_none]
  · rw [evalX_right (notAtom_right h), isX_not, isX_atom, eval_none]
end Go.Proofs.Ytoplmioejebnnaa
