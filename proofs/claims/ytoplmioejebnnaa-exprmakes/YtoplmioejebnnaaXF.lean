/-
  Plain mathematics: the parts of an expression, one behind the other, against the reference's counts.
-/
import Derived.Test.YtoplmioejebnnaaXE
set_option linter.unusedSimpArgs false
set_option linter.unusedVariables false
namespace Go.Proofs.Ytoplmioejebnnaa

def sizeX : Nat → ExV → Nat
  | 0, _ => 0
  | k + 1, x => 1 + (x.sub.map (sizeX k)).sum
def depthX : Nat → ExV → Int
  | 0, _ => 0
  | k + 1, x => x.sub.foldl (fun m y => max m (depthX k y)) 0 + 1
theorem parts_len : ∀ (k : Nat) (D : Int) (x : ExV), (partsX k D x).length = sizeX k x
  | 0, _, _ => rfl
  | k + 1, D, x => by
    unfold partsX sizeX
    rw [List.length_cons, List.length_flatMap, show (List.map (fun a => (partsX k (D + 1) a).length) x.sub) = x.sub.map (sizeX k) from List.map_congr_left fun y _ => parts_len k (D + 1) y]
    omega
theorem foldl_max_init {α : Type} (h : α → Int) : ∀ (l : List α) (a b : Int), max a (l.foldl (fun m y => max m (h y)) b) = l.foldl (fun m y => max m (h y)) (max a b)
  | [], a, b => rfl
  | y :: l, a, b => by
    rw [List.foldl_cons, List.foldl_cons, foldl_max_init h l]
    congr 1
    omega
theorem foldl_max_shift {α : Type} (g : α → Int) (c : Int) : ∀ (l : List α) (m : Int), l.foldl (fun m y => max m (c + g y)) (c + m) = c + l.foldl (fun m y => max m (g y)) m
  | [], m => rfl
  | y :: l, m => by
    rw [List.foldl_cons, List.foldl_cons, show max (c + m) (c + g y) = c + max m (g y) by omega, foldl_max_shift g c l]
theorem foldl_max_congr {α : Type} (g h : α → Int) : ∀ (l : List α) (m : Int), (∀ y ∈ l, g y = h y) → l.foldl (fun m y => max m (g y)) m = l.foldl (fun m y => max m (h y)) m
  | [], m, _ => rfl
  | y :: l, m, H => by
    rw [List.foldl_cons, List.foldl_cons, H y (by simp), foldl_max_congr g h l _ fun z hz => H z (by simp [hz])]
theorem tallD_append (a b : List (Int × ExV)) : tallD (a ++ b) = max (tallD a) (tallD b) := by
  unfold tallD
  rw [List.foldl_append, foldl_max_init (fun y : Int × ExV => y.1 + 1)]
  congr 1
  have := tallD_nonneg a
  unfold tallD at this
  omega
theorem tallD_flat (g : ExV → List (Int × ExV)) : ∀ (l : List ExV), tallD (l.flatMap g) = l.foldl (fun m y => max m (tallD (g y))) 0
  | [] => rfl
  | y :: l => by
    rw [List.flatMap_cons, tallD_append, tallD_flat g l, List.foldl_cons, foldl_max_init (fun y => tallD (g y))]
    congr 1
    have := tallD_nonneg (g y)
    omega
theorem depthX_nonneg : ∀ (k : Nat) (x : ExV), 0 ≤ depthX k x
  | 0, _ => by unfold depthX; omega
  | k + 1, x => by
    have := foldl_max_ge (depthX k) x.sub 0
    unfold depthX
    omega
theorem parts_tall : ∀ (k : Nat) (D : Int) (x : ExV), 0 ≤ D → tallD (partsX (k + 1) D x) = D + depthX (k + 1) x
  | 0, D, x, hD => by
    unfold partsX depthX
    have : ∀ l : List ExV, l.foldl (fun (m : Int) (y : ExV) => max m (depthX 0 y)) 0 = 0 := by
      intro l
      induction l with
      | nil => rfl
      | cons y l ih => exact ih
    rw [show (x.sub.flatMap (partsX 0 (D + 1))) = [] by simp [partsX], this]
    simp [tallD]
    omega
  | k + 1, D, x, hD => by
    rw [show partsX (k + 1 + 1) D x = [(D, x)] ++ x.sub.flatMap (partsX (k + 1) (D + 1)) from rfl, tallD_append, tallD_flat, foldl_max_congr _ (fun y => (D + 1) + depthX (k + 1) y) x.sub 0 (fun y _ => parts_tall k (D + 1) y (by omega)), foldl_max_init,
      show max (tallD [(D, x)]) 0 = (D + 1) + 0 by simp [tallD]; omega, foldl_max_shift]
    rw [show depthX (k + 1 + 1) x = x.sub.foldl (fun m y => max m (depthX (k + 1) y)) 0 + 1 from rfl]
    omega
theorem sizeX_fuel : ∀ (n m : Nat) (x : ExV), lowX n x → n ≤ m → sizeX m x = sizeX n x
  | 0, _, _, h, _ => by cases h
  | n + 1, m, x, h, hm => by
    obtain ⟨k, rfl⟩ : ∃ k, m = k + 1 := ⟨m - 1, by omega⟩
    unfold sizeX
    rw [List.map_congr_left fun y hy => sizeX_fuel n k y (h y hy) (by omega)]
theorem depthX_fuel : ∀ (n m : Nat) (x : ExV), lowX n x → n ≤ m → depthX m x = depthX n x
  | 0, _, _, h, _ => by cases h
  | n + 1, m, x, h, hm => by
    obtain ⟨k, rfl⟩ : ∃ k, m = k + 1 := ⟨m - 1, by omega⟩
    unfold depthX
    rw [foldl_max_congr _ _ _ _ fun y hy => depthX_fuel n k y (h y hy) (by omega)]
theorem eachX_fuel : ∀ (n m : Nat) (x : ExV), lowX n x → n ≤ m → eachX m x = eachX n x
  | 0, _, _, h, _ => by cases h
  | n + 1, m, x, h, hm => by
    obtain ⟨k, rfl⟩ : ∃ k, m = k + 1 := ⟨m - 1, by omega⟩
    unfold eachX
    rw [all_congr_mem _ _ _ fun y hy => eachX_fuel n k y (h y hy) (by omega)]
/-- With enough levels on both sides the number of levels does not matter. -/
theorem eachX_any {n m : Nat} {x : ExV} (hn : lowX n x) (hm : lowX m x) : eachX m x = eachX n x := by
  rcases Nat.le_total n m with h | h
  · exact eachX_fuel n m x hn h
  · exact (eachX_fuel m n x hm h).symm
theorem isX_any {n m : Nat} {x : ExV} (e : EvV) (hn : lowX n x) (hm : lowX m x) : isX m x e = isX n x e := by
  rcases Nat.le_total n m with h | h
  · exact isX_fuel n m x e hn h
  · exact (isX_fuel m n x e hm h).symm
theorem depth_low : ∀ (k m : Nat) (x : ExV), lowX k x → depthX k x ≤ (m : Int) → lowX m x
  | 0, _, _, h, _ => by cases h
  | k + 1, 0, x, _, h => by
    have := foldl_max_ge (depthX k) x.sub 0
    unfold depthX at h
    omega
  | k + 1, m + 1, x, hl, h => fun y hy => by
    have h1 := foldl_max_mem (depthX k) x.sub 0 y hy
    unfold depthX at h
    exact depth_low k m y (hl y hy) (by omega)
theorem count_size : ∀ (f : Nat) (x : ExV), lowX f x → countX f x = min (sizeX f x : Int) 100
  | 0, _, h => by cases h
  | f + 1, x, h => by
    have H : ∀ (l : List ExV), (∀ y ∈ l, lowX f y) → ∀ n : Int, 0 ≤ n → min (l.foldl (fun n y => if n < 100 then n + countX f y else n) n) 100 = min (n + ((l.map (sizeX f)).sum : Int)) 100 := by
      intro l
      induction l with
      | nil => intro _ n _; simp
      | cons y l ih =>
        intro hy n hn
        have h1 := count_size f y (hy y (by simp))
        have h2 := countX_pos f y
        rw [List.foldl_cons, ih (fun z hz => hy z (by simp [hz])) _ (by split <;> omega), List.map_cons, List.sum_cons]
        split
        · rw [h1]
          omega
        · omega
    have := H x.sub h 1 (by omega)
    unfold countX sizeX
    rw [this]
    omega
theorem sub_size {f : Nat} {y : ExV} : ∀ {l : List ExV}, y ∈ l → sizeX f y ≤ (l.map (sizeX f)).sum
  | z :: l, h => by
    rw [List.map_cons, List.sum_cons]
    rcases List.mem_cons.1 h with rfl | h
    · omega
    · have := sub_size (f := f) h
      omega
theorem sizeX_pos {f : Nat} {x : ExV} (h : lowX f x) : 1 ≤ sizeX f x := by
  cases f with
  | zero => cases h
  | succ f => unfold sizeX; omega
theorem sum_len {f : Nat} : ∀ {l : List ExV}, (∀ y ∈ l, lowX f y) → l.length ≤ (l.map (sizeX f)).sum
  | [], _ => by simp
  | z :: l, h => by
    have h1 := sizeX_pos (h z (by simp))
    have h2 := sum_len (f := f) (l := l) fun y hy => h y (by simp [hy])
    rw [List.map_cons, List.sum_cons, List.length_cons]
    omega
theorem deep_depth : ∀ (f : Nat) (x : ExV), lowX f x → sizeX f x < 100 → deepX f x = min (depthX f x) 20
  | 0, _, h, _ => by cases h
  | f + 1, x, h, hs => by
    unfold sizeX at hs
    have hl := sum_len h
    unfold deepX depthX
    rw [List.take_of_length_le (by omega), foldl_max_congr _ (fun y => min (depthX f y) 20) x.sub 0 fun y hy => deep_depth f y (h y hy) (by have := sub_size (f := f) hy; omega)]
    have H : ∀ (l : List ExV) (a b : Int), min a 20 = min b 20 → min (l.foldl (fun m y => max m (min (depthX f y) 20)) a) 20 = min (l.foldl (fun m y => max m (depthX f y)) b) 20 := by
      intro l
      induction l with
      | nil => intro a b h; exact h
      | cons y l ih =>
        intro a b h
        rw [List.foldl_cons, List.foldl_cons]
        exact ih _ _ (by omega)
    have := H x.sub 0 0 rfl
    omega
theorem fits_plain {k : Nat} {x : ExV} (hl : lowX k x) : fitsX x = decide (sizeX k x ≤ 40 ∧ depthX k x ≤ 8) := by
  by_cases h : sizeX k x ≤ 40 ∧ depthX k x ≤ 8
  · rw [decide_eq_true h]
    have l8 : lowX 8 x := depth_low k 8 x hl (by omega)
    have l21 := lowX_mono 8 21 x (by omega) l8
    have e1 : sizeX 21 x = sizeX k x := by
      rcases Nat.le_total k 21 with g | g
      · exact sizeX_fuel k 21 x hl g
      · exact (sizeX_fuel 21 k x l21 g).symm
    have e2 : depthX 21 x = depthX k x := by
      rcases Nat.le_total k 21 with g | g
      · exact depthX_fuel k 21 x hl g
      · exact (depthX_fuel 21 k x l21 g).symm
    unfold fitsX
    rw [count_size 21 x l21, deep_depth 21 x l21 (by omega), e1, e2, Bool.and_eq_true, decide_eq_true_eq, decide_eq_true_eq]
    omega
  · rw [decide_eq_false h]
    cases hf : fitsX x
    · rfl
    · exfalso
      apply h
      have l8 := fits_low hf
      have l21 := lowX_mono 8 21 x (by omega) l8
      unfold fitsX at hf
      rw [Bool.and_eq_true, decide_eq_true_eq, decide_eq_true_eq, count_size 21 x l21] at hf
      have hs : sizeX 21 x ≤ 40 := by omega
      rw [deep_depth 21 x l21 (by omega)] at hf
      have e1 : sizeX 21 x = sizeX k x := by
        rcases Nat.le_total k 21 with g | g
        · exact sizeX_fuel k 21 x hl g
        · exact (sizeX_fuel 21 k x l21 g).symm
      have e2 : depthX 21 x = depthX k x := by
        rcases Nat.le_total k 21 with g | g
        · exact depthX_fuel k 21 x hl g
        · exact (depthX_fuel 21 k x l21 g).symm
      omega
theorem fits_nums {k : Nat} {x : ExV} (hl : lowX k x) (hf : fitsX x = true) : countX 21 x = (sizeX k x : Int) ∧ deepX 21 x = depthX k x := by
  have l8 := fits_low hf
  have l21 := lowX_mono 8 21 x (by omega) l8
  have h := hf
  rw [fits_plain hl, decide_eq_true_eq] at h
  have e1 : sizeX 21 x = sizeX k x := by
    rcases Nat.le_total k 21 with g | g
    · exact sizeX_fuel k 21 x hl g
    · exact (sizeX_fuel 21 k x l21 g).symm
  have e2 : depthX 21 x = depthX k x := by
    rcases Nat.le_total k 21 with g | g
    · exact depthX_fuel k 21 x hl g
    · exact (depthX_fuel 21 k x l21 g).symm
  rw [count_size 21 x l21, deep_depth 21 x l21 (by omega), e1, e2]
  omega
theorem size_plain {k : Nat} {x : ExV} (hl : lowX k x) : sizeP (partsX k 0 x) = if fitsX x then (countX 21 x, deepX 21 x) else (0, 0) := by
  obtain ⟨m, rfl⟩ : ∃ m, k = m + 1 := by
    cases k with
    | zero => cases hl
    | succ m => exact ⟨m, rfl⟩
  unfold sizeP
  rw [parts_len, parts_tall m 0 x (by omega), Int.zero_add]
  have hf := fits_plain hl
  by_cases h : sizeX (m + 1) x ≤ 40 ∧ depthX (m + 1) x ≤ 8
  · rw [decide_eq_true h] at hf
    obtain ⟨e1, e2⟩ := fits_nums hl hf
    rw [if_pos h, hf, if_pos rfl, e1, e2]
  · rw [decide_eq_false h] at hf
    rw [if_neg h, hf, if_neg (by simp)]
theorem parts_each : ∀ (k : Nat) (D : Int) (x : ExV), lowX k x → ((partsX k D x).all fun y => nodeX y.2) = eachX k x
  | 0, _, _, h => by cases h
  | k + 1, D, x, h => by
    unfold partsX eachX
    rw [List.all_cons, List.all_flatMap]
    congr 1
    exact all_congr_mem _ _ _ fun y hy => parts_each k (D + 1) y (h y hy)
theorem right_plain {k : Nat} {x : ExV} (hl : lowX k x) : rightP (partsX k 0 x) = rightX x := by
  unfold rightP rightX
  rw [size_plain hl, parts_each k 0 x hl]
  cases hf : fitsX x
  · rfl
  · have := countX_pos 21 x
    rw [if_pos rfl, decide_eq_false (by dsimp only; omega), eachX_any (fits_low hf) hl]
    rfl
theorem ExAt.shrink {w : World} : ∀ (n m : Nat) {v : Value} {x : ExV}, ExAt n w v x → lowX m x → ExAt m w v x
  | 0, _, _, _, h, _ => by cases h
  | n + 1, 0, v, x, _, h => by cases h
  | n + 1, m + 1, v, x, ⟨c, hv, hc, hs⟩, hl => by
    refine ⟨c, hv, hc, fun i hi => ?_⟩
    obtain ⟨g, off, d, hp, hg, hd, hx⟩ := hs i hi
    exact ⟨g, off, d, hp, hg, hd, ExAt.shrink n m hx (hl _ (getD_mem hi))⟩
end Go.Proofs.Ytoplmioejebnnaa
