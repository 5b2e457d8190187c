/-
  Plain mathematics of sets: not, or, and, all; what they have; that they are right.
-/
import Derived.Test.YtdmjpdhjebmnfaaSJ
import Derived.Test.YtdmjpdhjebmnfaaSK
set_option linter.unusedSimpArgs false
set_option linter.unusedVariables false
namespace Go.Proofs.Ytdmjpdhjebmnfaa

/-! ### Ranges: not -/
def notR (from_ : Int) : List Rg → List Rg
  | [] => if from_ ≤ 9223372036854775807 then [(from_, 9223372036854775807)] else []
  | r :: l => if from_ < r.1 then (from_, r.1 - 1) :: notR (r.2 + 1) l else notR (r.2 + 1) l
theorem notR_mem : ∀ (l : List Rg) (f : Int), rightFrom (f - 1) l → inI64 l → ∀ n, memR (notR f l) n ↔ (f ≤ n ∧ n ≤ 9223372036854775807 ∧ ¬ memR l n)
  | [], f, _, _, n => by
    unfold notR
    split
    · rw [memR_cons]; simp [memR_nil]
    · simp [memR_nil]; omega
  | r :: l, f, ⟨h1, h2, h3⟩, hi, n => by
    have hr := hi r (by simp)
    have ih := notR_mem l (r.2 + 1) (rightFrom_mono h3 (by omega)) (fun x hx => hi x (by simp [hx])) n
    have hgt := fun hm => rightFrom_lt h3 n hm
    unfold notR
    rw [memR_cons]
    split
    · rw [memR_cons, ih]
      dsimp only
      constructor
      · rintro (h | ⟨a, b, c⟩)
        · refine ⟨h.1, by omega, ?_⟩
          rintro (h' | h')
          · omega
          · have := hgt h'; omega
        · refine ⟨by omega, b, ?_⟩
          rintro (h' | h')
          · omega
          · exact c h'
      · rintro ⟨a, b, c⟩
        by_cases hn : n < r.1
        · left; omega
        · right
          refine ⟨?_, b, fun h' => c (Or.inr h')⟩
          by_cases hn2 : n ≤ r.2
          · exact absurd (Or.inl ⟨by omega, hn2⟩) c
          · omega
    · rw [ih]
      constructor
      · rintro ⟨a, b, c⟩
        refine ⟨by omega, b, ?_⟩
        rintro (h' | h')
        · omega
        · exact c h'
      · rintro ⟨a, b, c⟩
        refine ⟨?_, b, fun h' => c (Or.inr h')⟩
        by_cases hn2 : n ≤ r.2
        · exact absurd (Or.inl ⟨by omega, hn2⟩) c
        · omega
theorem notR_right : ∀ (l : List Rg) (f : Int), rightFrom (f - 1) l → inI64 l → -9223372036854775808 ≤ f → (∀ b, b < f → rightFrom b (notR f l)) ∧ inI64 (notR f l) ∧ (notR f l).length ≤ l.length + 1
  | [], f, _, _, h => by
    unfold notR
    split
    · refine ⟨fun b hb => ⟨hb, by dsimp only; omega, trivial⟩, fun x hx => ?_, by simp⟩
      simp at hx; rw [hx]; dsimp only; omega
    · exact ⟨fun b hb => trivial, fun x hx => by simp at hx, by simp⟩
  | r :: l, f, ⟨h1, h2, h3⟩, hi, h => by
    have hr := hi r (by simp)
    obtain ⟨i1, i2, i3⟩ := notR_right l (r.2 + 1) (rightFrom_mono h3 (by omega)) (fun x hx => hi x (by simp [hx])) (by omega)
    unfold notR
    split
    · refine ⟨fun b hb => ⟨hb, by dsimp only; omega, ?_⟩, fun x hx => ?_, by simp; omega⟩
      · have := i1 r.1 (by omega)
        dsimp only
        rw [show r.1 - 1 + 1 = r.1 by omega]; exact this
      · rcases List.mem_cons.1 hx with rfl | hx
        · dsimp only; omega
        · exact i2 x hx
    · exact ⟨fun b hb => i1 b (by omega), i2, by simp; omega⟩

/-! ### Ranges: one more -/
def insR (r : Rg) : List Rg → List Rg
  | [] => [r]
  | q :: l => if r.2 + 1 < q.1 then r :: q :: l else if q.2 + 1 < r.1 then q :: insR r l else insR (min r.1 q.1, max r.2 q.2) l
theorem insR_mem : ∀ (l : List Rg) (r : Rg), r.1 ≤ r.2 → rightR l → ∀ n, memR (insR r l) n ↔ (r.1 ≤ n ∧ n ≤ r.2) ∨ memR l n
  | [], r, _, _, n => by unfold insR; rw [memR_cons]
  | q :: l, r, h, ⟨h1, h2⟩, n => by
    unfold insR
    split
    · rw [memR_cons]
    · split
      · rw [memR_cons, insR_mem l r h (rightFrom_right h2) n, memR_cons]
        constructor
        · rintro (a | a | a)
          · exact Or.inr (Or.inl a)
          · exact Or.inl a
          · exact Or.inr (Or.inr a)
        · rintro (a | a | a)
          · exact Or.inr (Or.inl a)
          · exact Or.inl a
          · exact Or.inr (Or.inr a)
      · rw [insR_mem l _ (by dsimp only; omega) (rightFrom_right h2) n, memR_cons]
        dsimp only
        constructor
        · rintro (a | a)
          · by_cases x : r.1 ≤ n ∧ n ≤ r.2
            · exact Or.inl x
            · right; left; omega
          · exact Or.inr (Or.inr a)
        · rintro (a | a | a)
          · left; omega
          · left; omega
          · exact Or.inr a
theorem insR_right : ∀ (l : List Rg) (r : Rg) (b : Int), r.1 ≤ r.2 → b < r.1 → rightFrom b l → rightFrom b (insR r l)
  | [], r, b, h, hb, _ => ⟨hb, h, trivial⟩
  | q :: l, r, b, h, hb, ⟨h0, h1, h2⟩ => by
    unfold insR
    split
    · exact ⟨hb, h, by omega, h1, h2⟩
    · split
      · exact ⟨h0, h1, insR_right l r (q.2 + 1) h (by omega) h2⟩
      · exact insR_right l _ b (by dsimp only; omega) (by dsimp only; omega) (rightFrom_mono h2 (by omega))
theorem insR_i64 : ∀ (l : List Rg) (r : Rg), (-9223372036854775808 ≤ r.1 ∧ r.1 ≤ 9223372036854775807 ∧ -9223372036854775808 ≤ r.2 ∧ r.2 ≤ 9223372036854775807) → inI64 l → inI64 (insR r l)
  | [], r, h, _ => fun x hx => by unfold insR at hx; simp at hx; rw [hx]; exact h
  | q :: l, r, h, hl => by
    have hq := hl q (by simp)
    have hl' : inI64 l := fun x hx => hl x (by simp [hx])
    unfold insR
    split
    · intro x hx
      rcases List.mem_cons.1 hx with rfl | hx
      · exact h
      · exact hl x hx
    · split
      · intro x hx
        rcases List.mem_cons.1 hx with rfl | hx
        · exact hq
        · exact insR_i64 l r h hl' x hx
      · exact insR_i64 l _ (by dsimp only; omega) hl'
theorem insR_len : ∀ (l : List Rg) (r : Rg), (insR r l).length ≤ l.length + 1
  | [], r => by simp [insR]
  | q :: l, r => by
    unfold insR
    split
    · simp
    · split
      · have := insR_len l r; simp; omega
      · have := insR_len l (min r.1 q.1, max r.2 q.2); simp; omega
def orR : List Rg → List Rg → List Rg
  | [], b => b
  | r :: a, b => insR r (orR a b)
theorem rightR_lt {l : List Rg} (h : rightR l) : ∃ b, rightFrom b l := by
  cases l with
  | nil => exact ⟨0, trivial⟩
  | cons r l => exact ⟨r.1 - 1, rightR_from h⟩
theorem orR_all : ∀ (a b : List Rg), (∀ r ∈ a, r.1 ≤ r.2) → inI64 a → rightR b → inI64 b → rightR (orR a b) ∧ inI64 (orR a b) ∧ (orR a b).length ≤ a.length + b.length ∧ ∀ n, memR (orR a b) n ↔ memR a n ∨ memR b n
  | [], b, _, _, hb, ib => ⟨hb, ib, by simp [orR], fun n => by simp [orR, memR_nil]⟩
  | r :: a, b, ha, ia, hb, ib => by
    obtain ⟨h1, h2, h3, h4⟩ := orR_all a b (fun x hx => ha x (by simp [hx])) (fun x hx => ia x (by simp [hx])) hb ib
    have hr := ha r (by simp)
    refine ⟨?_, insR_i64 _ r (ia r (by simp)) h2, ?_, fun n => ?_⟩
    · obtain ⟨c, hc⟩ := rightR_lt h1
      exact rightFrom_right (insR_right (orR a b) r (min c (r.1 - 1)) hr (by omega) (rightFrom_mono hc (by omega)))
    · have := insR_len (orR a b) r
      show (insR r (orR a b)).length ≤ _
      simp; omega
    · show memR (insR r (orR a b)) n ↔ _
      rw [insR_mem _ r hr h1 n, h4 n, memR_cons, or_assoc]
theorem rightR_le {l : List Rg} (h : rightR l) : ∀ r ∈ l, r.1 ≤ r.2 := by
  have aux : ∀ (l : List Rg) (b : Int), rightFrom b l → ∀ r ∈ l, r.1 ≤ r.2 := by
    intro l
    induction l with
    | nil => intro b _ r hr; simp at hr
    | cons q l ih =>
      intro b ⟨_, h1, h2⟩ r hr
      rcases List.mem_cons.1 hr with rfl | hr
      · exact h1
      · exact ih _ h2 r hr
  obtain ⟨b, hb⟩ := rightR_lt h
  exact aux l b hb

/-! ### Strings -/
def insS (s : ByteArray) : List ByteArray → List ByteArray
  | [] => [s]
  | t :: l => if Op.bytesLess s.toList t.toList then s :: t :: l else if Op.bytesLess t.toList s.toList then t :: insS s l else t :: l
def orS : List ByteArray → List ByteArray → List ByteArray
  | [], b => b
  | s :: a, b => insS s (orS a b)
theorem insS_mem : ∀ (l : List ByteArray) (s x : ByteArray), x ∈ insS s l ↔ x = s ∨ x ∈ l
  | [], s, x => by simp [insS]
  | t :: l, s, x => by
    unfold insS
    split
    · simp
    · split
      · rw [List.mem_cons, insS_mem l s x, List.mem_cons]
        constructor
        · rintro (a | a | a) <;> simp [a]
        · rintro (a | a | a) <;> simp [a]
      · rename_i h1 h2
        have e : s = t := by
          rcases lessB_tri s.toList t.toList with h | h | h
          · exact absurd h h1
          · exact toList_inj h
          · exact absurd h h2
        rw [List.mem_cons]
        constructor
        · exact fun h => Or.inr h
        · rintro (h | h)
          · left; rw [h, e]
          · exact h
theorem insS_rises : ∀ (l : List ByteArray) (s : ByteArray), risesS (l.map fun b => b.toList) → risesS ((insS s l).map fun b => b.toList)
  | [], s, _ => by simp [insS, risesS]
  | t :: l, s, ⟨h1, h2⟩ => by
    unfold insS
    split
    · rename_i h
      refine ⟨fun b hb => ?_, h1, h2⟩
      rcases List.mem_cons.1 hb with rfl | hb
      · exact h
      · exact lessB_trans _ _ _ h (h1 b hb)
    · split
      · rename_i h
        refine ⟨fun b hb => ?_, insS_rises l s h2⟩
        obtain ⟨x, hx, rfl⟩ := List.mem_map.1 hb
        rcases (insS_mem l s x).1 hx with rfl | hx
        · exact h
        · exact h1 _ (List.mem_map.2 ⟨x, hx, rfl⟩)
      · exact ⟨h1, h2⟩
theorem insS_len : ∀ (l : List ByteArray) (s : ByteArray), (insS s l).length ≤ l.length + 1
  | [], s => by simp [insS]
  | t :: l, s => by
    unfold insS
    split
    · simp
    · split
      · have := insS_len l s; simp; omega
      · simp
theorem orS_all : ∀ (a b : List ByteArray), (∀ s ∈ a, s.size ≤ 8) → rightS b → rightS (orS a b) ∧ (orS a b).length ≤ a.length + b.length ∧ ∀ x, x ∈ orS a b ↔ x ∈ a ∨ x ∈ b
  | [], b, _, hb => ⟨hb, by simp [orS], fun x => by simp [orS]⟩
  | s :: a, b, ha, hb => by
    obtain ⟨h1, h2, h3⟩ := orS_all a b (fun x hx => ha x (by simp [hx])) hb
    have hm : ∀ x, x ∈ orS (s :: a) b ↔ x ∈ s :: a ∨ x ∈ b := fun x => by
      show x ∈ insS s (orS a b) ↔ _
      rw [insS_mem, h3, List.mem_cons, or_assoc]
    refine ⟨⟨fun x hx => ?_, insS_rises _ s h1.2⟩, ?_, hm⟩
    · rcases (hm x).1 hx with hx | hx
      · exact ha x hx
      · exact hb.1 x hx
    · have := insS_len (orS a b) s
      show (insS s (orS a b)).length ≤ _
      simp; omega
theorem filter_rises : ∀ (l : List ByteArray) (p : ByteArray → Bool), risesS (l.map fun b => b.toList) → risesS ((l.filter p).map fun b => b.toList)
  | [], p, _ => by simp [risesS]
  | t :: l, p, ⟨h1, h2⟩ => by
    rw [List.filter_cons]
    split
    · refine ⟨fun b hb => ?_, filter_rises l p h2⟩
      obtain ⟨x, hx, rfl⟩ := List.mem_map.1 hb
      exact h1 _ (List.mem_map.2 ⟨x, (List.mem_filter.1 hx).1, rfl⟩)
    · exact filter_rises l p h2
theorem filter_right (l : List ByteArray) (p : ByteArray → Bool) (h : rightS l) : rightS (l.filter p) := ⟨fun s hs => h.1 s (List.mem_filter.1 hs).1, filter_rises l p h.2⟩

/-! ### Sets -/
def allV : SetV := ⟨true, [(-9223372036854775808, 9223372036854775807)], true, []⟩
def notV (S : SetV) : SetV := ⟨!S.absent, notR (-9223372036854775808) S.ints, !S.co, S.strs⟩
def orStr (A B : SetV) : List ByteArray :=
  if A.co then (if B.co then A.strs.filter (fun s => inStrsB B.strs s) else A.strs.filter (fun s => !inStrsB B.strs s))
  else (if B.co then B.strs.filter (fun s => !inStrsB A.strs s) else orS A.strs B.strs)
def orV (A B : SetV) : SetV := ⟨A.absent || B.absent, orR A.ints B.ints, A.co || B.co, orStr A B⟩
def andV (A B : SetV) : SetV := notV (orV (notV A) (notV B))
/-- A right set whose numbers are the machine's. -/
structure Good (S : SetV) : Prop where
  r : rightSet S = true
  i : inI64 S.ints
theorem Good.ri {S : SetV} (h : Good S) : rightR S.ints := ((rightSet_iff S).1 h.r).1
theorem Good.rs {S : SetV} (h : Good S) : rightS S.strs := ((rightSet_iff S).1 h.r).2
theorem rightR_low {l : List Rg} (h : rightR l) (hi : inI64 l) : rightFrom (-9223372036854775808 - 1) l := by
  cases l with
  | nil => trivial
  | cons r l => exact ⟨by have := hi r (by simp); omega, h.1, h.2⟩
theorem notV_good {S : SetV} (h : Good S) : Good (notV S) := by
  obtain ⟨h1, h2, _⟩ := notR_right S.ints (-9223372036854775808) (rightR_low h.ri h.i) h.i (by omega)
  exact ⟨(rightSet_iff _).2 ⟨rightFrom_right (h1 (-9223372036854775809) (by omega)), h.rs⟩, h2⟩
theorem notV_len (S : SetV) (h : Good S) : (notV S).ints.length ≤ S.ints.length + 1 ∧ (notV S).strs.length = S.strs.length :=
  ⟨(notR_right S.ints (-9223372036854775808) (rightR_low h.ri h.i) h.i (by omega)).2.2, rfl⟩
theorem bool_of_iff {a b : Bool} (h : a = true ↔ b = true) : a = b := by
  cases a <;> cases b <;> simp at h ⊢
/-- The values of a not. -/
theorem notV_has {S : SetV} (h : Good S) (p : Va) (b0 : -9223372036854775808 ≤ p.2.1) (b1 : p.2.1 ≤ 9223372036854775807) : hasP (notV S) p = (rightB p.1 p.2.1 p.2.2 && !hasP S p) := by
  by_cases hp : rightV p
  · have hp' : rightB p.1 p.2.1 p.2.2 = true := hp
    rw [hp', Bool.true_and]
    rcases rightV_cases hp with rfl | ⟨n, rfl⟩ | ⟨s, hs, rfl⟩
    · rw [has_abs, has_abs]; rfl
    · rw [has_num, has_num]
      refine bool_of_iff ?_
      rw [inInts_iff]
      show memR (notR _ S.ints) n ↔ _
      rw [notR_mem S.ints _ (rightR_low h.ri h.i) h.i n, ← inInts_iff]
      dsimp only at b0 b1
      simp [b0, b1]
    · rw [has_str _ hs, has_str _ hs]
      show (inStrsB S.strs s != !S.co) = !(inStrsB S.strs s != S.co)
      cases inStrsB S.strs s <;> cases S.co <;> rfl
  · rw [has_wrong _ hp, has_wrong _ hp]
    have : rightB p.1 p.2.1 p.2.2 = false := by
      cases e : rightB p.1 p.2.1 p.2.2
      · rfl
      · exact absurd e hp
    rw [this]; rfl
theorem orV_good {A B : SetV} (hA : Good A) (hB : Good B) : Good (orV A B) := by
  obtain ⟨h1, h2, _, _⟩ := orR_all A.ints B.ints (rightR_le hA.ri) hA.i hB.ri hB.i
  refine ⟨(rightSet_iff _).2 ⟨h1, ?_⟩, h2⟩
  show rightS (orStr A B)
  unfold orStr
  split
  · split
    · exact filter_right _ _ hA.rs
    · exact filter_right _ _ hA.rs
  · split
    · exact filter_right _ _ hB.rs
    · exact (orS_all A.strs B.strs hA.rs.1 hB.rs).1
theorem orV_len {A B : SetV} (hA : Good A) (hB : Good B) : (orV A B).ints.length ≤ A.ints.length + B.ints.length ∧ (orV A B).strs.length ≤ A.strs.length + B.strs.length := by
  refine ⟨(orR_all A.ints B.ints (rightR_le hA.ri) hA.i hB.ri hB.i).2.2.1, ?_⟩
  show (orStr A B).length ≤ _
  unfold orStr
  split
  · split
    · exact Nat.le_trans (List.length_filter_le _ _) (by omega)
    · exact Nat.le_trans (List.length_filter_le _ _) (by omega)
  · split
    · exact Nat.le_trans (List.length_filter_le _ _) (by omega)
    · exact (orS_all A.strs B.strs hA.rs.1 hB.rs).2.1
theorem inStrs_filter (l : List ByteArray) (p : ByteArray → Bool) (s : ByteArray) : inStrsB (l.filter p) s = (inStrsB l s && p s) := by
  refine bool_of_iff ?_
  rw [inStrs_iff, List.mem_filter, Bool.and_eq_true, inStrs_iff]
/-- The values of an or. -/
theorem orV_has {A B : SetV} (hA : Good A) (hB : Good B) (p : Va) : hasP (orV A B) p = (hasP A p || hasP B p) := by
  by_cases hp : rightV p
  · rcases rightV_cases hp with rfl | ⟨n, rfl⟩ | ⟨s, hs, rfl⟩
    · rw [has_abs, has_abs, has_abs]; rfl
    · rw [has_num, has_num, has_num]
      refine bool_of_iff ?_
      rw [inInts_iff, Bool.or_eq_true, inInts_iff, inInts_iff]
      exact (orR_all A.ints B.ints (rightR_le hA.ri) hA.i hB.ri hB.i).2.2.2 n
    · rw [has_str _ hs, has_str _ hs, has_str _ hs]
      show (inStrsB (orStr A B) s != (A.co || B.co)) = _
      have hor : inStrsB (orS A.strs B.strs) s = (inStrsB A.strs s || inStrsB B.strs s) := by
        refine bool_of_iff ?_
        rw [inStrs_iff, Bool.or_eq_true, inStrs_iff, inStrs_iff]
        exact (orS_all A.strs B.strs hA.rs.1 hB.rs).2.2 s
      unfold orStr
      cases hAc : A.co <;> cases hBc : B.co <;> simp only [if_true, if_false, Bool.false_eq_true, hor, inStrs_filter] <;> cases inStrsB A.strs s <;> cases inStrsB B.strs s <;> rfl
  · rw [has_wrong _ hp, has_wrong _ hp, has_wrong _ hp]; rfl
theorem andV_good {A B : SetV} (hA : Good A) (hB : Good B) : Good (andV A B) := notV_good (orV_good (notV_good hA) (notV_good hB))
theorem andV_len {A B : SetV} (hA : Good A) (hB : Good B) : (andV A B).ints.length ≤ A.ints.length + B.ints.length + 3 ∧ (andV A B).strs.length ≤ A.strs.length + B.strs.length := by
  have h1 := notV_len A hA
  have h2 := notV_len B hB
  have h3 := orV_len (notV_good hA) (notV_good hB)
  have h4 := notV_len _ (orV_good (notV_good hA) (notV_good hB))
  unfold andV
  omega
theorem andV_has {A B : SetV} (hA : Good A) (hB : Good B) (p : Va) (b0 : -9223372036854775808 ≤ p.2.1) (b1 : p.2.1 ≤ 9223372036854775807) : hasP (andV A B) p = (hasP A p && hasP B p) := by
  unfold andV
  rw [notV_has (orV_good (notV_good hA) (notV_good hB)) p b0 b1, orV_has (notV_good hA) (notV_good hB), notV_has hA p b0 b1, notV_has hB p b0 b1]
  by_cases hp : rightV p
  · have hp' : rightB p.1 p.2.1 p.2.2 = true := hp
    rw [hp']
    cases hasP A p <;> cases hasP B p <;> rfl
  · rw [has_wrong A hp, has_wrong B hp]
    cases rightB p.1 p.2.1 p.2.2 <;> rfl
theorem allV_good : Good allV := ⟨by rfl, fun r hr => by simp [allV] at hr; rw [hr]; dsimp only; omega⟩
theorem allV_has (p : Va) (b0 : -9223372036854775808 ≤ p.2.1) (b1 : p.2.1 ≤ 9223372036854775807) : hasP allV p = rightB p.1 p.2.1 p.2.2 := by
  by_cases hp : rightV p
  · have hp' : rightB p.1 p.2.1 p.2.2 = true := hp
    rw [hp']
    rcases rightV_cases hp with rfl | ⟨n, rfl⟩ | ⟨s, hs, rfl⟩
    · rw [has_abs]; rfl
    · rw [has_num, inInts_iff]
      exact ⟨_, List.mem_singleton.2 rfl, b0, b1⟩
    · rw [has_str _ hs]; rfl
  · rw [has_wrong _ hp]
    cases e : rightB p.1 p.2.1 p.2.2
    · rfl
    · exact absurd e hp
end Go.Proofs.Ytdmjpdhjebmnfaa
