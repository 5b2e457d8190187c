/-
  Plain mathematics of sets of values: ranges of numbers, rows of strings: no program in sight.
-/
import Derived.Lib.UnsafeStr
import Derived.ProofKit
set_option linter.unusedSimpArgs false
set_option linter.unusedVariables false
namespace Go.Proofs.Ytdmjpdhjebmnfaa

/-! ### Ranges -/
abbrev Rg := Int × Int
/-- A number is in one of the ranges. -/
def memR (l : List Rg) (n : Int) : Prop := ∃ r ∈ l, r.1 ≤ n ∧ n ≤ r.2
theorem memR_nil (n : Int) : ¬ memR [] n := fun ⟨_, h, _⟩ => by simp at h
theorem memR_cons (r : Rg) (l : List Rg) (n : Int) : memR (r :: l) n ↔ (r.1 ≤ n ∧ n ≤ r.2) ∨ memR l n := by
  constructor
  · rintro ⟨x, hx, h⟩
    rcases List.mem_cons.1 hx with rfl | hx
    · exact Or.inl h
    · exact Or.inr ⟨x, hx, h⟩
  · rintro (h | ⟨x, hx, h⟩)
    · exact ⟨r, by simp, h⟩
    · exact ⟨x, by simp [hx], h⟩
theorem memR_append (a b : List Rg) (n : Int) : memR (a ++ b) n ↔ memR a n ∨ memR b n := by
  induction a with
  | nil => simp [memR_nil]
  | cons r l ih => rw [List.cons_append, memR_cons, memR_cons, ih, or_assoc]
/-- Rising, each from Lo to Hi, with a number between, and all above b. -/
def rightFrom (b : Int) : List Rg → Prop
  | [] => True
  | r :: l => b < r.1 ∧ r.1 ≤ r.2 ∧ rightFrom (r.2 + 1) l
/-- As it should be. -/
def rightR : List Rg → Prop
  | [] => True
  | r :: l => r.1 ≤ r.2 ∧ rightFrom (r.2 + 1) l
theorem rightFrom_right {b : Int} {l : List Rg} (h : rightFrom b l) : rightR l := by
  cases l with
  | nil => trivial
  | cons r l => exact ⟨h.2.1, h.2.2⟩
theorem rightFrom_mono {b c : Int} {l : List Rg} (h : rightFrom b l) (hc : c ≤ b) : rightFrom c l := by
  cases l with
  | nil => trivial
  | cons r l => exact ⟨by have := h.1; omega, h.2.1, h.2.2⟩
theorem rightFrom_lt {b : Int} : ∀ {l : List Rg}, rightFrom b l → ∀ n, memR l n → b < n
  | [], _, n, h => absurd h (memR_nil n)
  | r :: l, ⟨h1, h2, h3⟩, n, h => by
    rcases (memR_cons r l n).1 h with h | h
    · omega
    · have := rightFrom_lt h3 n h; omega
theorem rightR_from {r : Rg} {l : List Rg} (h : rightR (r :: l)) : rightFrom (r.1 - 1) (r :: l) := ⟨by omega, h.1, h.2⟩
/-- Right ranges with the same numbers are the same. -/
theorem rightFrom_ext : ∀ (a b : List Rg) (c : Int), rightFrom c a → rightFrom c b → (∀ n, memR a n ↔ memR b n) → a = b
  | [], [], _, _, _, _ => rfl
  | [], s :: m, _, _, hb, h => absurd ((h s.1).2 ⟨s, by simp, Int.le_refl _, hb.2.1⟩) (memR_nil _)
  | r :: l, [], _, ha, _, h => absurd ((h r.1).1 ⟨r, by simp, Int.le_refl _, ha.2.1⟩) (memR_nil _)
  | r :: l, s :: m, c, ⟨a1, a2, a3⟩, ⟨b1, b2, b3⟩, h => by
    have hA := fun n => rightFrom_lt a3 n
    have hB := fun n => rightFrom_lt b3 n
    have e1 : r.1 = s.1 := by
      have x := (h r.1).1 ⟨r, by simp, Int.le_refl _, a2⟩
      have y := (h s.1).2 ⟨s, by simp, Int.le_refl _, b2⟩
      rcases (memR_cons s m _).1 x with x | x <;> rcases (memR_cons r l _).1 y with y | y
      · omega
      · have := hA _ y; omega
      · have := hB _ x; omega
      · have := hA _ y; have := hB _ x; omega
    have e2 : r.2 = s.2 := by
      rcases Int.lt_trichotomy r.2 s.2 with hlt | hlt | hlt
      · have y := (h (r.2 + 1)).2 ⟨s, by simp, by omega, by omega⟩
        rcases (memR_cons r l _).1 y with y | y
        · omega
        · have := hA _ y; omega
      · exact hlt
      · have x := (h (s.2 + 1)).1 ⟨r, by simp, by omega, by omega⟩
        rcases (memR_cons s m _).1 x with x | x
        · omega
        · have := hB _ x; omega
    have e : r = s := Prod.ext e1 e2
    subst e
    have := rightFrom_ext l m (r.2 + 1) a3 b3 (fun n => by
      constructor
      · intro hn
        have hx := hA n hn
        rcases (memR_cons r m n).1 ((h n).1 ((memR_cons r l n).2 (Or.inr hn))) with x | x
        · omega
        · exact x
      · intro hn
        have hx := hB n hn
        rcases (memR_cons r l n).1 ((h n).2 ((memR_cons r m n).2 (Or.inr hn))) with x | x
        · omega
        · exact x)
    rw [this]
theorem rightR_ext (a b : List Rg) (ha : rightR a) (hb : rightR b) (h : ∀ n, memR a n ↔ memR b n) : a = b := by
  cases a with
  | nil =>
    cases b with
    | nil => rfl
    | cons s m => exact absurd ((h s.1).2 ⟨s, by simp, Int.le_refl _, hb.1⟩) (memR_nil _)
  | cons r l =>
    cases b with
    | nil => exact absurd ((h r.1).1 ⟨r, by simp, Int.le_refl _, ha.1⟩) (memR_nil _)
    | cons s m =>
      refine rightFrom_ext _ _ (min (r.1 - 1) (s.1 - 1)) (rightFrom_mono (rightR_from ha) (by omega)) (rightFrom_mono (rightR_from hb) (by omega)) h
/-- All ends are numbers of the machine. -/
def inI64 (l : List Rg) : Prop := ∀ r ∈ l, -9223372036854775808 ≤ r.1 ∧ r.1 ≤ 9223372036854775807 ∧ -9223372036854775808 ≤ r.2 ∧ r.2 ≤ 9223372036854775807
theorem memR_in {l : List Rg} (h : inI64 l) {n : Int} (hn : memR l n) : -9223372036854775808 ≤ n ∧ n ≤ 9223372036854775807 := by
  obtain ⟨r, hr, h1, h2⟩ := hn
  have := h r hr
  omega
theorem rightR_ext64 (a b : List Rg) (ha : rightR a) (hb : rightR b) (ia : inI64 a) (ib : inI64 b) (h : ∀ n, -9223372036854775808 ≤ n → n ≤ 9223372036854775807 → (memR a n ↔ memR b n)) : a = b :=
  rightR_ext a b ha hb fun n => ⟨fun hn => (h n (memR_in ia hn).1 (memR_in ia hn).2).1 hn, fun hn => (h n (memR_in ib hn).1 (memR_in ib hn).2).2 hn⟩
/-- Down from a number that is in none of the ranges to where that begins. -/
theorem down_to (b : List Rg) (n lo : Int) (hn : ¬ memR b n) (hlo : lo ≤ n) : ∃ p, lo ≤ p ∧ p ≤ n ∧ (p = lo ∨ ∃ r ∈ b, p = r.2 + 1 ∧ r.2 < n) ∧ ∀ x, p ≤ x → x ≤ n → ¬ memR b x := by
  induction b with
  | nil => exact ⟨lo, by omega, hlo, Or.inl rfl, fun x _ _ => memR_nil x⟩
  | cons r l ih =>
    have h1 : ¬ (r.1 ≤ n ∧ n ≤ r.2) := fun h => hn ((memR_cons r l n).2 (Or.inl h))
    obtain ⟨p, p1, p2, p3, p4⟩ := ih (fun h => hn ((memR_cons r l n).2 (Or.inr h)))
    by_cases hr : p ≤ r.2 ∧ r.2 < n
    · refine ⟨r.2 + 1, by omega, by omega, Or.inr ⟨r, by simp, rfl, hr.2⟩, fun x h2 h3 => ?_⟩
      rw [memR_cons]
      rintro (h | h)
      · omega
      · exact p4 x (by omega) h3 h
    · refine ⟨p, p1, p2, ?_, fun x h2 h3 => ?_⟩
      · rcases p3 with p3 | ⟨s, hs, p3⟩
        · exact Or.inl p3
        · exact Or.inr ⟨s, by simp [hs], p3⟩
      · rw [memR_cons]
        rintro (h | h)
        · omega
        · exact p4 x h2 h3 h
/-- Ranges lie in ranges, if the first ones' ends and what stands behind the second ones' ends do. -/
theorem sub_points (a b : List Rg) (h1 : ∀ r ∈ a, r.1 ≤ r.2 → memR b r.1) (h2 : ∀ r ∈ b, ∀ s ∈ a, r.2 < s.2 → memR a (r.2 + 1) → memR b (r.2 + 1)) (n : Int) (hn : memR a n) : memR b n := by
  refine Classical.byContradiction fun hb => ?_
  obtain ⟨r, hr, l1, l2⟩ := hn
  obtain ⟨p, p1, p2, p3, p4⟩ := down_to b n r.1 hb l1
  rcases p3 with rfl | ⟨s, hs, p3, p5⟩
  · exact p4 r.1 (by omega) l1 (h1 r hr (by omega))
  · exact p4 p (by omega) p2 (p3 ▸ h2 s hs r hr (by omega) ⟨r, hr, by omega, by omega⟩)

/-! ### Strings -/
abbrev St := List UInt8
theorem lessB_irrefl : ∀ a : St, Op.bytesLess a a = false
  | [] => by simp [Op.bytesLess]
  | x :: a => by simp [Op.bytesLess]; exact lessB_irrefl a
theorem lessB_trans : ∀ a b c : St, Op.bytesLess a b = true → Op.bytesLess b c = true → Op.bytesLess a c = true
  | _, _, [], _, h => by cases ‹St› <;> simp [Op.bytesLess] at h
  | [], _, _ :: _, _, _ => by simp [Op.bytesLess]
  | _ :: _, [], _ :: _, h, _ => by simp [Op.bytesLess] at h
  | x :: a, y :: b, z :: c, h, k => by
    simp [Op.bytesLess] at h k ⊢
    rcases h with h | ⟨rfl, h⟩ <;> rcases k with k | ⟨rfl, k⟩
    · left; rw [UInt8.lt_iff_toNat_lt] at *; omega
    · exact Or.inl h
    · exact Or.inl k
    · exact Or.inr ⟨rfl, lessB_trans a b c h k⟩
theorem lessB_tri : ∀ a b : St, Op.bytesLess a b = true ∨ a = b ∨ Op.bytesLess b a = true
  | [], [] => Or.inr (Or.inl rfl)
  | [], _ :: _ => Or.inl (by simp [Op.bytesLess])
  | _ :: _, [] => Or.inr (Or.inr (by simp [Op.bytesLess]))
  | x :: a, y :: b => by
    simp [Op.bytesLess]
    rcases Nat.lt_trichotomy x.toNat y.toNat with h | h | h
    · exact Or.inl (Or.inl (UInt8.lt_iff_toNat_lt.2 h))
    · have e : x = y := UInt8.toNat_inj.1 h
      subst e
      rcases lessB_tri a b with h | h | h
      · exact Or.inl (Or.inr ⟨rfl, h⟩)
      · exact Or.inr (Or.inl ⟨rfl, h⟩)
      · exact Or.inr (Or.inr (Or.inr ⟨rfl, h⟩))
    · exact Or.inr (Or.inr (Or.inl (UInt8.lt_iff_toNat_lt.2 h)))
/-- Rising. -/
def risesS : List St → Prop
  | [] => True
  | a :: l => (∀ b ∈ l, Op.bytesLess a b = true) ∧ risesS l
theorem risesS_ext : ∀ a b : List St, risesS a → risesS b → (∀ s, s ∈ a ↔ s ∈ b) → a = b
  | [], [], _, _, _ => rfl
  | [], y :: m, _, _, h => by have := (h y).2 (by simp); simp at this
  | x :: l, [], _, _, h => by have := (h x).1 (by simp); simp at this
  | x :: l, y :: m, ⟨a1, a2⟩, ⟨b1, b2⟩, h => by
    have e : x = y := by
      rcases List.mem_cons.1 ((h x).1 (by simp)) with e | hx
      · exact e
      rcases List.mem_cons.1 ((h y).2 (by simp)) with e | hy
      · exact e.symm
      have h1 := b1 x hx
      have h2 := a1 y hy
      have := lessB_trans _ _ _ h1 h2
      rw [lessB_irrefl] at this
      exact absurd this (by simp)
    subst e
    have : l = m := risesS_ext l m a2 b2 (fun s => by
      constructor
      · intro hs
        rcases List.mem_cons.1 ((h s).1 (by simp [hs])) with e | hm
        · subst e
          have := a1 _ hs
          rw [lessB_irrefl] at this
          exact absurd this (by simp)
        · exact hm
      · intro hs
        rcases List.mem_cons.1 ((h s).2 (by simp [hs])) with e | hm
        · subst e
          have := b1 _ hs
          rw [lessB_irrefl] at this
          exact absurd this (by simp)
        · exact hm)
    rw [this]
/-- A row without its first place of a string. -/
def dropS (s : St) : List St → List St
  | [] => []
  | t :: l => if t = s then l else t :: dropS s l
theorem dropS_len (s : St) : ∀ l : List St, s ∈ l → (dropS s l).length + 1 = l.length
  | [], h => by simp at h
  | t :: l, h => by
    unfold dropS
    by_cases e : t = s
    · rw [if_pos e]; simp
    · rw [if_neg e]
      rcases List.mem_cons.1 h with h | h
      · exact absurd h.symm e
      · have := dropS_len s l h
        simp; omega
theorem dropS_mem (s x : St) (hne : x ≠ s) : ∀ l : List St, x ∈ l → x ∈ dropS s l
  | [], h => h
  | t :: l, h => by
    unfold dropS
    by_cases e : t = s
    · rw [if_pos e]
      rcases List.mem_cons.1 h with h | h
      · exact absurd (h.trans e) hne
      · exact h
    · rw [if_neg e]
      rcases List.mem_cons.1 h with h | h
      · rw [h]; simp
      · exact List.mem_cons.2 (Or.inr (dropS_mem s x hne l h))
theorem holes (f : Nat → St) (hf : ∀ i j, f i = f j → i = j) : ∀ (n : Nat) (l : List St), (∀ i, i < n → f i ∈ l) → n ≤ l.length
  | 0, l, _ => Nat.zero_le _
  | n + 1, l, h => by
    have h1 := holes f hf n (dropS (f n) l) (fun i hi => dropS_mem _ _ (fun e => by have := hf _ _ e; omega) l (h i (by omega)))
    have h2 := dropS_len (f n) l (h n (by omega))
    omega
/-- Among more strings than a row has there is one that it has not. -/
theorem fresh_out (f : Nat → St) (hf : ∀ i j, f i = f j → i = j) (l : List St) (n : Nat) (hn : l.length < n) : ∃ i, i < n ∧ f i ∉ l := by
  refine Classical.byContradiction fun hno => ?_
  have := holes f hf n l (fun i hi => Classical.byContradiction fun h => hno ⟨i, hi, h⟩)
  omega
end Go.Proofs.Ytdmjpdhjebmnfaa
