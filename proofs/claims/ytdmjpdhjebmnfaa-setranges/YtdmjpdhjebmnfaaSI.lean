/-
  What the third reference's answers mean: right sets, membership, 'in' by points.
-/
import Derived.Test.YtdmjpdhjebmnfaaSD
import Derived.Test.YtdmjpdhjebmnfaaSH
set_option linter.unusedSimpArgs false
set_option linter.unusedVariables false
namespace Go.Proofs.Ytdmjpdhjebmnfaa

/-! ### Numerals are unlike -/
theorem dec_ne_nil (u : Nat) : Lib.decDigits u ≠ [] := by
  rw [Lib.decDigits]; split <;> simp
theorem decDigits_inj (u : Nat) : ∀ v, Lib.decDigits u = Lib.decDigits v → u = v := by
  induction u using Nat.strongRecOn with
  | _ u ih =>
    intro v h
    have hu : Lib.decDigits u = if h : u < 10 then [UInt8.ofNat (48 + u)] else Lib.decDigits (u / 10) ++ [UInt8.ofNat (48 + u % 10)] := by rw [Lib.decDigits]
    have hv : Lib.decDigits v = if h : v < 10 then [UInt8.ofNat (48 + v)] else Lib.decDigits (v / 10) ++ [UInt8.ofNat (48 + v % 10)] := by rw [Lib.decDigits]
    have key : ∀ a b : Nat, a < 10 → b < 10 → UInt8.ofNat (48 + a) = UInt8.ofNat (48 + b) → a = b := fun a b ha hb e => by
      have := congrArg UInt8.toNat e
      rw [UInt8.toNat_ofNat', UInt8.toNat_ofNat'] at this
      omega
    by_cases h1 : u < 10
    · by_cases h2 : v < 10
      · rw [hu, hv, dif_pos h1, dif_pos h2] at h
        simp only [List.cons.injEq, and_true] at h
        exact key u v h1 h2 h
      · rw [hu, hv, dif_pos h1, dif_neg h2] at h
        have e := congrArg List.length h
        have e2 := List.length_pos_iff.2 (dec_ne_nil (v / 10))
        simp only [List.length_append, List.length_cons, List.length_nil] at e
        omega
    · by_cases h2 : v < 10
      · rw [hu, hv, dif_neg h1, dif_pos h2] at h
        have e := congrArg List.length h
        have e2 := List.length_pos_iff.2 (dec_ne_nil (u / 10))
        simp only [List.length_append, List.length_cons, List.length_nil] at e
        omega
      · rw [hu, hv, dif_neg h1, dif_neg h2] at h
        obtain ⟨e1, e2⟩ := List.append_inj' h rfl
        simp only [List.cons.injEq, and_true] at e2
        have a := ih (u / 10) (by omega) (v / 10) e1
        have b := key (u % 10) (v % 10) (by omega) (by omega) e2
        omega
theorem tryS_inj (s : ByteArray) (i j : Nat) (h : tryS s i = tryS s j) : i = j := by
  have h1 := congrArg (fun b : ByteArray => b.data.toList) h
  simp only [tryS, ByteArray.data_append, Array.toList_append, List.toList_toArray, List.append_cancel_left_eq, Lib.itoa_nonneg] at h1
  exact decDigits_inj i j h1

/-! ### Membership -/
theorem inInts_iff (l : List Rg) (n : Int) : inIntsB l n = true ↔ memR l n := by
  unfold inIntsB memR
  rw [List.any_eq_true]
  constructor
  · rintro ⟨r, hr, h⟩
    simp at h
    exact ⟨r, hr, h⟩
  · rintro ⟨r, hr, h⟩
    exact ⟨r, hr, by simpa using h⟩
theorem inStrs_iff (l : List ByteArray) (s : ByteArray) : inStrsB l s = true ↔ s ∈ l := by
  unfold inStrsB
  rw [List.any_eq_true]
  constructor
  · rintro ⟨t, ht, h⟩
    rw [← bytes_eq.1 h]; exact ht
  · intro h
    exact ⟨s, h, bytes_eq.2 rfl⟩
theorem named_iff (l : List SetV) (t : ByteArray) : namedB l t = false ↔ ∀ S ∈ l, t ∉ S.strs := by
  unfold namedB
  rw [List.any_eq_false]
  constructor
  · intro h S hS ht
    exact h S hS ((inStrs_iff _ _).2 ht)
  · intro h S hS ht
    exact h S hS ((inStrs_iff _ _).1 ht)
/-- Where the sets name few strings, Fresh is none of them. -/
theorem fresh_new {l : List SetV} {s t : ByteArray} (h : FreshOut l s t) (hn : (l.flatMap fun S => S.strs).length < 100000) : (∃ j, j < 100000 ∧ t = tryS s j) ∧ ∀ S ∈ l, t ∉ S.strs := by
  rcases h with ⟨j, hj, ht, h⟩ | ⟨rfl, h⟩
  · exact ⟨⟨j, hj, ht⟩, (named_iff _ _).1 h⟩
  · exfalso
    obtain ⟨i, hi, hf⟩ := fresh_out (fun i => (tryS t i).data.toList) (fun i j e => tryS_inj t i j (by
      apply ByteArray.ext
      exact Array.toList_inj.1 e)) ((l.flatMap fun S => S.strs).map fun b => b.data.toList) 100000 (by rw [List.length_map]; exact hn)
    have h1 := h i hi
    refine hf ?_
    cases hx : namedB l (tryS t i)
    · rw [hx] at h1; exact absurd h1 (by simp)
    · unfold namedB at hx
      rw [List.any_eq_true] at hx
      obtain ⟨S, hS, hx⟩ := hx
      exact List.mem_map.2 ⟨tryS t i, List.mem_flatMap.2 ⟨S, hS, (inStrs_iff _ _).1 hx⟩, rfl⟩

/-! ### As they should be -/
theorem rgB_some (l : List Rg) : ∀ h : Int, rgB (some h) l = true ↔ rightFrom (h + 1) l := by
  induction l with
  | nil => intro h; simp [rgB, rightFrom]
  | cons r l ih =>
    intro h
    simp only [rgB, Bool.and_eq_true, decide_eq_true_eq, ih, rightFrom]
    constructor
    · rintro ⟨h1, h2, h3⟩; exact ⟨h2, h1, h3⟩
    · rintro ⟨h1, h2, h3⟩; exact ⟨h2, h1, h3⟩
theorem rgB_none (l : List Rg) : rgB none l = true ↔ rightR l := by
  cases l with
  | nil => simp [rgB, rightR]
  | cons r l => simp only [rgB, Bool.and_eq_true, decide_eq_true_eq, rgB_some, rightR]
/-- Strings as they should be. -/
def rightS (l : List ByteArray) : Prop := (∀ s ∈ l, s.size ≤ 8) ∧ risesS (l.map fun b => b.toList)
theorem stB_some (l : List ByteArray) : ∀ p : ByteArray, stB (some p) l = true ↔ rightS l ∧ ∀ b ∈ l, Op.bytesLess p.toList b.toList = true := by
  induction l with
  | nil => intro p; simp [stB, rightS, risesS]
  | cons s l ih =>
    intro p
    simp only [stB, Bool.and_eq_true, decide_eq_true_eq, ih, rightS, List.map_cons, risesS, List.mem_cons, List.mem_map, forall_eq_or_imp]
    constructor
    · rintro ⟨h1, h2, ⟨h3, h4⟩, h5⟩
      refine ⟨⟨⟨h1, h3⟩, ?_, h4⟩, h2, fun b hb => lessB_trans _ _ _ h2 (h5 b hb)⟩
      rintro b ⟨x, hx, rfl⟩
      exact h5 x hx
    · rintro ⟨⟨⟨h1, h3⟩, h6, h4⟩, h2, h5⟩
      exact ⟨h1, h2, ⟨h3, h4⟩, fun b hb => h6 _ ⟨b, hb, rfl⟩⟩
theorem stB_none (l : List ByteArray) : stB none l = true ↔ rightS l := by
  cases l with
  | nil => simp [stB, rightS, risesS]
  | cons s l =>
    simp only [stB, Bool.and_eq_true, decide_eq_true_eq, stB_some, rightS, List.map_cons, risesS, List.mem_cons, List.mem_map, forall_eq_or_imp]
    constructor
    · rintro ⟨h1, ⟨h3, h4⟩, h5⟩
      refine ⟨⟨h1, h3⟩, ?_, h4⟩
      rintro b ⟨x, hx, rfl⟩
      exact h5 x hx
    · rintro ⟨⟨h1, h3⟩, h6, h4⟩
      exact ⟨h1, ⟨h3, h4⟩, fun b hb => h6 _ ⟨b, hb, rfl⟩⟩
theorem rightSet_iff (S : SetV) : rightSet S = true ↔ rightR S.ints ∧ rightS S.strs := by
  unfold rightSet
  rw [Bool.and_eq_true, rgB_none, stB_none]
theorem toList_inj {a b : ByteArray} (h : a.toList = b.toList) : a = b := bytes_eq.1 (beq_iff_eq.2 h)
theorem rightS_ext (a b : List ByteArray) (ha : rightS a) (hb : rightS b) (h : ∀ s : ByteArray, s ∈ a ↔ s ∈ b) : a = b := by
  have hm : ∀ l : List ByteArray, ∀ s : ByteArray, s.toList ∈ l.map (fun x => x.toList) ↔ s ∈ l := fun l s => by
    rw [List.mem_map]
    constructor
    · rintro ⟨x, hx, e⟩; rw [← toList_inj e]; exact hx
    · intro hs; exact ⟨s, hs, rfl⟩
  have e := risesS_ext (a.map fun x => x.toList) (b.map fun x => x.toList) ha.2 hb.2 (fun s => by
    constructor
    · intro hs
      obtain ⟨x, hx, rfl⟩ := List.mem_map.1 hs
      exact (hm b x).2 ((h x).1 hx)
    · intro hs
      obtain ⟨x, hx, rfl⟩ := List.mem_map.1 hs
      exact (hm a x).2 ((h x).2 hx))
  exact List.map_inj_right (fun x y e => toList_inj e) |>.1 e

/-! ### 'in' by points -/
/-- A value that may be. -/
def rightV (p : Va) : Prop := rightB p.1 p.2.1 p.2.2 = true
theorem size_nil {s : ByteArray} (h : s.size = 0) : s = noS := ByteArray.ext (Array.eq_empty_of_size_eq_zero h)
theorem toList_len (s : ByteArray) : s.toList.length = s.size := by rw [ByteArray.toList_eq]; exact (Lib.size_eq s).symm
theorem rightV_cases {p : Va} (h : rightV p) : p = (0, 0, noS) ∨ (∃ n, p = (1, n, noS)) ∨ ∃ s : ByteArray, s.size ≤ 8 ∧ p = (2, 0, s) := by
  obtain ⟨k, n, s⟩ := p
  unfold rightV rightB at h
  dsimp only at h
  have hnil : s.toList.isEmpty = true → s = noS := fun e => size_nil (by rw [← toList_len, List.isEmpty_iff.1 e]; rfl)
  split at h
  · rename_i hk
    rw [Bool.and_eq_true, beq_iff_eq] at h
    left; rw [hk, h.1, hnil h.2]
  · split at h
    · rename_i hk
      right; left; exact ⟨n, by rw [hk, hnil h]⟩
    · split at h
      · rename_i hk
        rw [Bool.and_eq_true, beq_iff_eq, decide_eq_true_eq] at h
        right; right; exact ⟨s, by omega, by rw [hk, h.1]⟩
      · exact absurd h (by simp)
theorem noS_empty : noS.toList.isEmpty = true := by rw [ByteArray.toList_eq]; rfl
theorem rightV_num (n : Int) : rightB 1 n noS = true := by
  unfold rightB
  rw [if_neg (by omega), if_pos rfl, noS_empty]
theorem rightV_abs : rightB 0 0 noS = true := by
  unfold rightB
  rw [if_pos rfl, noS_empty]; rfl
theorem rightV_str {s : ByteArray} (h : s.size ≤ 8) : rightB 2 0 s = true := by
  have e : decide ((s.size : Int) ≤ 8) = true := decide_eq_true (by omega)
  unfold rightB
  rw [if_neg (by omega), if_neg (by omega), if_pos rfl, e]; rfl
theorem has_abs (S : SetV) : hasP S (0, 0, noS) = S.absent := by unfold hasP hasB; rw [rightV_abs]; rfl
theorem has_num (S : SetV) (n : Int) : hasP S (1, n, noS) = inIntsB S.ints n := by
  unfold hasP hasB
  dsimp only
  rw [rightV_num, Bool.true_and, if_neg (by omega), if_pos rfl]
theorem has_str (S : SetV) {s : ByteArray} (h : s.size ≤ 8) : hasP S (2, 0, s) = (inStrsB S.strs s != S.co) := by
  unfold hasP hasB
  dsimp only
  rw [rightV_str h, Bool.true_and, if_neg (by omega), if_neg (by omega)]
theorem has_wrong (S : SetV) {p : Va} (h : ¬ rightV p) : hasP S p = false := by
  unfold rightV at h
  unfold hasP hasB
  cases e : rightB p.1 p.2.1 p.2.2
  · rfl
  · exact absurd e h
/-- Each value of the one is in the other one. -/
def inSet (A B : SetV) : Prop := ∀ p : Va, -9223372036854775808 ≤ p.2.1 → p.2.1 ≤ 9223372036854775807 → hasP A p = true → hasP B p = true
theorem inPts_iff (A B : SetV) (ps : List Va) : inPts A B ps = true ↔ ∀ p ∈ ps, hasP A p = true → hasP B p = true := by
  unfold inPts
  rw [List.all_eq_true]
  constructor
  · intro h p hp ha
    have := h p hp
    rw [ha] at this
    simpa using this
  · intro h p hp
    cases ha : hasP A p
    · rfl
    · rw [h p hp ha]; rfl
theorem fresh_short {j : Nat} (h : j < 100000) : (tryS ⟨#[126]⟩ j).size ≤ 8 := by
  unfold tryS
  rw [ByteArray.size_append]
  have h1 : (⟨#[126]⟩ : ByteArray).size = 1 := rfl
  have h2 : (⟨(Lib.itoa (j : Int)).toArray⟩ : ByteArray).size = (Lib.decDigits j).length := by rw [Lib.itoa_nonneg]; simp [ByteArray.size]
  have h3 : (Lib.decDigits j).length ≤ 5 := by
    rw [Lib.decDigits_length]
    have one : ∀ u : Nat, ∀ c : Nat, (u / 10 < 10 ^ c → Lib.nDigits (u / 10) ≤ c) → 1 ≤ c → u < 10 ^ (c + 1) → Lib.nDigits u ≤ c + 1 := fun u c ih hc hu => by
      by_cases h : u < 10
      · rw [Lib.nDigits_small h]; omega
      · rw [Lib.nDigits_big h]
        have := ih (Nat.div_lt_of_lt_mul (by rw [Nat.mul_comm]; exact (Nat.pow_succ (n := 10) (m := c)) ▸ hu))
        omega
    refine one j 4 (fun h4 => one _ 3 (fun h3 => one _ 2 (fun h2 => one _ 1 (fun h1 => ?_) (by omega) h2) (by omega) h3) (by omega) h4) (by omega) (by omega)
    rw [Lib.nDigits_small (by omega)]; omega
  omega
theorem ptsR_bound (r : Rg) (b : -9223372036854775808 ≤ r.1 ∧ r.1 ≤ 9223372036854775807 ∧ -9223372036854775808 ≤ r.2 ∧ r.2 ≤ 9223372036854775807) : ∀ p ∈ ptsR r, -9223372036854775808 ≤ p.2.1 ∧ p.2.1 ≤ 9223372036854775807 := by
  intro p hp
  unfold ptsR at hp
  rw [List.mem_append, List.mem_append] at hp
  rcases hp with (hp | hp) | hp
  · simp at hp; rcases hp with rfl | rfl <;> (dsimp only; omega)
  · split at hp
    · simp at hp; rw [hp]; dsimp only; omega
    · simp at hp
  · split at hp
    · simp at hp; rw [hp]; dsimp only; omega
    · simp at hp
theorem ptsL_bound (l : List SetV) (h : ∀ S ∈ l, inI64 S.ints) : ∀ p ∈ ptsL l, -9223372036854775808 ≤ p.2.1 ∧ p.2.1 ≤ 9223372036854775807 := by
  intro p hp
  unfold ptsL at hp
  rcases List.mem_append.1 hp with hp | hp
  · simp [pts0] at hp
    rcases hp with rfl | rfl | rfl | rfl <;> (dsimp only; omega)
  · obtain ⟨S, hS, hp⟩ := List.mem_flatMap.1 hp
    unfold ptsS at hp
    rcases List.mem_append.1 hp with hp | hp
    · obtain ⟨r, hr, hp⟩ := List.mem_flatMap.1 hp
      exact ptsR_bound r (h S hS r hr) p hp
    · obtain ⟨s, hs, rfl⟩ := List.mem_map.1 hp
      dsimp only; omega
/-- What holds of all points holds of all values. -/
theorem inPts_inSet (A B : SetV) (t : ByteArray) (ht : FreshOut [A, B] ⟨#[126]⟩ t) (rA : rightSet A = true) (rB : rightSet B = true) (iA : inI64 A.ints) (iB : inI64 B.ints) (fA : A.strs.length ≤ 40) (fB : B.strs.length ≤ 40) :
    inPts A B (ptsL [A, B] ++ [(2, 0, t)]) = true ↔ inSet A B := by
  obtain ⟨⟨j, hj, hjt⟩, hnew⟩ := fresh_new ht (by simp; omega)
  have ht8 : t.size ≤ 8 := by rw [hjt]; exact fresh_short hj
  obtain ⟨rAi, rAs⟩ := (rightSet_iff A).1 rA
  obtain ⟨rBi, rBs⟩ := (rightSet_iff B).1 rB
  rw [inPts_iff]
  constructor
  · intro h p b0 b1 ha
    have hp : rightV p := Classical.byContradiction fun hp => by rw [has_wrong A hp] at ha; simp at ha
    have mem : ∀ q, q ∈ ptsL [A, B] → hasP A q = true → hasP B q = true := fun q hq => h q (List.mem_append_left _ hq)
    have memS : ∀ S, S ∈ [A, B] → ∀ q ∈ ptsS S, hasP A q = true → hasP B q = true := fun S hS q hq => mem q (List.mem_append_right _ (List.mem_flatMap.2 ⟨S, hS, hq⟩))
    have memR' : ∀ S, S ∈ [A, B] → ∀ r ∈ S.ints, ∀ q ∈ ptsR r, hasP A q = true → hasP B q = true := fun S hS r hr q hq => memS S hS q (List.mem_append_left _ (List.mem_flatMap.2 ⟨r, hr, hq⟩))
    have memT : ∀ S, S ∈ [A, B] → ∀ s ∈ S.strs, hasP A (2, 0, s) = true → hasP B (2, 0, s) = true := fun S hS s hs => memS S hS _ (List.mem_append_right _ (List.mem_map.2 ⟨s, hs, rfl⟩))
    rcases rightV_cases hp with rfl | ⟨n, rfl⟩ | ⟨s, hs, rfl⟩
    · exact mem _ (List.mem_append_left _ (by simp [pts0])) ha
    · rw [has_num] at ha ⊢
      rw [inInts_iff] at ha ⊢
      refine sub_points A.ints B.ints (fun r hr hle => ?_) (fun r hr s hs hlt hm => ?_) n ha
      · have := memR' A (by simp) r hr (1, r.1, noS) (by unfold ptsR; simp)
        rw [has_num, has_num, inInts_iff, inInts_iff] at this
        exact this ⟨r, hr, Int.le_refl _, hle⟩
      · have bs := iA s hs
        have := memR' B (by simp) r hr (1, r.2 + 1, noS) (by unfold ptsR; rw [if_pos (show r.2 < 9223372036854775807 by omega)]; simp)
        rw [has_num, has_num, inInts_iff, inInts_iff] at this
        exact this hm
    · by_cases h1 : s ∈ A.strs
      · exact memT A (by simp) s h1 ha
      · by_cases h2 : s ∈ B.strs
        · exact memT B (by simp) s h2 ha
        · have hf := h (2, 0, t) (List.mem_append_right _ (by simp))
          rw [has_str A ht8, has_str B ht8] at hf
          rw [has_str A hs] at ha
          rw [has_str B hs]
          have n1 : inStrsB A.strs s = false := by cases e : inStrsB A.strs s; rfl; exact absurd ((inStrs_iff _ _).1 e) h1
          have n2 : inStrsB B.strs s = false := by cases e : inStrsB B.strs s; rfl; exact absurd ((inStrs_iff _ _).1 e) h2
          have n3 : inStrsB A.strs t = false := by cases e : inStrsB A.strs t; rfl; exact absurd ((inStrs_iff _ _).1 e) (hnew A (by simp))
          have n4 : inStrsB B.strs t = false := by cases e : inStrsB B.strs t; rfl; exact absurd ((inStrs_iff _ _).1 e) (hnew B (by simp))
          rw [n3, n4] at hf
          rw [n1] at ha
          rw [n2]
          exact hf ha
  · intro h p hp ha
    have hb : -9223372036854775808 ≤ p.2.1 ∧ p.2.1 ≤ 9223372036854775807 := by
      rcases List.mem_append.1 hp with hp | hp
      · refine ptsL_bound [A, B] (fun S hS => ?_) p hp
        rcases List.mem_cons.1 hS with rfl | hS
        · exact iA
        · rcases List.mem_cons.1 hS with rfl | hS
          · exact iB
          · simp at hS
      · simp at hp
        rw [hp]; dsimp only; omega
    exact h p hb.1 hb.2 ha
end Go.Proofs.Ytdmjpdhjebmnfaa
