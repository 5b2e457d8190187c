/-
  What each call of the program's box is to answer, as the laws of the fourth layer want it.
-/
import Derived.Test.YteahjihmpchcbaaBC
set_option linter.unusedSimpArgs false
set_option linter.unusedVariables false
namespace Go.Proofs.Yteahjihmpchcbaa
open Go.RowKit

/-- Not more than the laws ask. -/
structure FitBx (b : BoxV) : Prop where
  good : GoodB b
  ni : ∀ i, i < 4 → (b.get i).ints.length ≤ 400
  ns : ∀ i, i < 4 → (b.get i).strs.length ≤ 400
def dif1 (same : Bool) : Int := if same then 0 else 1
theorem dif1_le (q : Bool) : dif1 q ≤ 1 := by cases q <;> simp [dif1]
/-- In how many attributes two boxes differ, and the first one of these. -/
def differBx (a b : BoxV) : Int × Int :=
  (dif1 (sameB (a.get 0) (b.get 0)) + dif1 (sameB (a.get 1) (b.get 1)) + dif1 (sameB (a.get 2) (b.get 2)) + dif1 (sameB (a.get 3) (b.get 3)),
    if sameB (a.get 0) (b.get 0) then (if sameB (a.get 1) (b.get 1) then (if sameB (a.get 2) (b.get 2) then (if sameB (a.get 3) (b.get 3) then -1 else 3) else 2) else 1) else 0)
/-- A box with another set in one attribute, if there is that attribute. -/
def withBx (b : BoxV) (x : Int) (s : SetV) : BoxV := if 0 ≤ x ∧ x < 4 then b.put x.toNat s else b
/-- The program's box keeps its promises. -/
structure BoxProg : Prop where
  all : ∀ w : World, Calls Try.prog 19 #[] w fun r w' => (∃ u, r = .returned u ∧ BoxAt w' u allBx) ∧ Below w.heap.size w w'
  atom : ∀ (x : Int) (v : Value) (s : SetV) (w : World), -9223372036854775808 ≤ x → x ≤ 9223372036854775807 → SetAt w v s → Fit s → Calls Try.prog 18 #[.int .i64 x, v] w fun r w' => (∃ u, r = .returned u ∧ BoxAt w' u (withBx allBx x s)) ∧ Below w.heap.size w w'
  with_ : ∀ (v : Value) (b : BoxV) (x : Int) (u : Value) (s : SetV) (w : World), -9223372036854775808 ≤ x → x ≤ 9223372036854775807 → BoxAt w v b → FitBx b → SetAt w u s → Fit s → Calls Try.prog 15 #[v, .int .i64 x, u] w fun r w' => (∃ y, r = .returned y ∧ BoxAt w' y (withBx b x s)) ∧ Below w.heap.size w w'
  and : ∀ (v u : Value) (a b : BoxV) (w : World), BoxAt w v a → BoxAt w u b → FitBx a → FitBx b → Calls Try.prog 10 #[v, u] w fun r w' => (∃ y, r = .returned y ∧ BoxAt w' y (andBx a b)) ∧ Below w.heap.size w w'
  in_ : ∀ (v u : Value) (a b : BoxV) (w : World), BoxAt w v a → BoxAt w u b → FitBx a → FitBx b → Calls Try.prog 12 #[v, u] w fun r w' => r = .returned (.bool (inBx a b)) ∧ Below w.heap.size w w'
  empty : ∀ (v : Value) (b : BoxV) (w : World), BoxAt w v b → FitBx b → Calls Try.prog 23 #[v] w fun r w' => r = .returned (.bool (emptyBx b)) ∧ Below w.heap.size w w'
  same : ∀ (v u : Value) (a b : BoxV) (w : World), BoxAt w v a → BoxAt w u b → FitBx a → FitBx b → Calls Try.prog 20 #[v, u] w fun r w' => r = .returned (.bool (sameBx a b)) ∧ Below w.heap.size w w'
  differ : ∀ (v u : Value) (a b : BoxV) (w : World), BoxAt w v a → BoxAt w u b → FitBx a → FitBx b → Calls Try.prog 17 #[v, u] w fun r w' => r = .returned (.tuple #[.int .i64 (differBx a b).1, .int .i64 (differBx a b).2]) ∧ Below w.heap.size w w'
  has : ∀ (v : Value) (b : BoxV) (e : EvV) (w : World), BoxAt w v b → FitBx b → evFit e → inE e → Calls Try.prog 21 #[v, evVal e] w fun r w' => r = .returned (.bool (hasE b e)) ∧ Below w.heap.size w w'
theorem differ_put (a : BoxV) (i : Nat) (hi : i < 4) (s : SetV) : (differBx a (a.put i s)).1 ≤ 1 := by
  have hs : ∀ j, j < 4 → j ≠ i → sameB (a.get j) ((a.put i s).get j) = true := fun j hj hne => by
    rw [BoxV.get_put _ _ _ _ hi hj, if_neg hne]; exact (sameB_iff _ _).2 rfl
  have h0 : dif1 true = 0 := rfl
  have hl := dif1_le (sameB (a.get i) ((a.put i s).get i))
  unfold differBx
  dsimp only
  match i, hi with
  | 0, _ => rw [hs 1 (by omega) (by omega), hs 2 (by omega) (by omega), hs 3 (by omega) (by omega), h0]; omega
  | 1, _ => rw [hs 0 (by omega) (by omega), hs 2 (by omega) (by omega), hs 3 (by omega) (by omega), h0]; omega
  | 2, _ => rw [hs 0 (by omega) (by omega), hs 1 (by omega) (by omega), hs 3 (by omega) (by omega), h0]; omega
  | 3, _ => rw [hs 0 (by omega) (by omega), hs 1 (by omega) (by omega), hs 2 (by omega) (by omega), h0]; omega
end Go.Proofs.Yteahjihmpchcbaa
