/-
  Plain mathematics of the codec's numbers: no program in sight.
-/
import Derived.Lib.UnsafeStr
import Derived.ProofKit
set_option linter.unusedSimpArgs false
set_option linter.unusedVariables false
namespace Go.Proofs.Ytbiahajpmnfhbaa

/-! ### Digits to the base 128 -/
def dF : Nat → Nat → List UInt8
  | 0, _ => []
  | f + 1, n => if n < 128 then [UInt8.ofNat n] else dF f (n / 128) ++ [UInt8.ofNat (n % 128)]
theorem dF_fuel : ∀ (f g n : Nat), n < f → n < g → dF f n = dF g n
  | 0, _, _, h, _ => by omega
  | _, 0, _, _, h => by omega
  | f + 1, g + 1, n, h, k => by
    unfold dF
    by_cases hn : n < 128
    · rw [if_pos hn, if_pos hn]
    · rw [if_neg hn, if_neg hn, dF_fuel f g (n / 128) (by omega) (by omega)]
/-- A number's digits, the greatest one first. -/
def dig (n : Nat) : List UInt8 := dF (n + 1) n
theorem dig_small {n : Nat} (h : n < 128) : dig n = [UInt8.ofNat n] := by unfold dig dF; rw [if_pos h]
theorem dig_big {n : Nat} (h : 128 ≤ n) : dig n = dig (n / 128) ++ [UInt8.ofNat (n % 128)] := by
  unfold dig
  conv => lhs; unfold dF
  rw [if_neg (by omega), dF_fuel n (n / 128 + 1) (n / 128) (by omega) (by omega)]
theorem dig_ne (n : Nat) : dig n ≠ [] := by
  by_cases h : n < 128
  · rw [dig_small h]; simp
  · rw [dig_big (by omega)]; simp
theorem dig_lt (n : Nat) : ∀ c ∈ dig n, c.toNat < 128 := by
  induction n using Nat.strongRecOn with
  | _ n ih =>
    intro c hc
    by_cases h : n < 128
    · rw [dig_small h, List.mem_singleton] at hc
      rw [hc, UInt8.toNat_ofNat']; omega
    · rw [dig_big (by omega), List.mem_append, List.mem_singleton] at hc
      rcases hc with hc | hc
      · exact ih (n / 128) (by omega) c hc
      · rw [hc, UInt8.toNat_ofNat']; omega
theorem dig_len (n : Nat) (k : Nat) (h : n < 128 ^ k) (hk : 1 ≤ k) : (dig n).length ≤ k := by
  induction k generalizing n with
  | zero => omega
  | succ k ih =>
    by_cases hn : n < 128
    · rw [dig_small hn]; simp
    · rw [dig_big (by omega), List.length_append, List.length_singleton]
      have hk1 : 1 ≤ k := by
        cases k with
        | zero => simp at h; omega
        | succ k => omega
      have : n / 128 < 128 ^ k := Nat.div_lt_of_lt_mul (by rw [Nat.mul_comm]; exact (Nat.pow_succ (n := 128) (m := k)) ▸ h)
      have := ih (n / 128) this hk1
      omega

/-- A digit that is not the last one. -/
def upB (c : UInt8) : UInt8 := UInt8.ofNat (c.toNat + 128)
theorem upB_val {c : UInt8} (h : c.toNat < 128) : (upB c).toNat = c.toNat + 128 := by unfold upB; rw [UInt8.toNat_ofNat']; omega
/-- A number's bytes. -/
def enc (n : Nat) : List UInt8 := if n < 128 then [UInt8.ofNat n] else (dig (n / 128)).map upB ++ [UInt8.ofNat (n % 128)]
theorem enc_small {n : Nat} (h : n < 128) : enc n = [UInt8.ofNat n] := by unfold enc; rw [if_pos h]
theorem enc_big {n : Nat} (h : 128 ≤ n) : enc n = (dig (n / 128)).map upB ++ [UInt8.ofNat (n % 128)] := by unfold enc; rw [if_neg (by omega)]
theorem enc_dig (n : Nat) : enc n = ((dig n).dropLast).map upB ++ [(dig n).getLast (dig_ne n)] := by
  by_cases h : n < 128
  · simp [enc_small h, dig_small h]
  · rw [enc_big (by omega)]
    simp [dig_big (show 128 ≤ n by omega)]
theorem enc_len (n : Nat) : (enc n).length = (dig n).length := by
  by_cases h : n < 128
  · simp [enc_small h, dig_small h]
  · rw [enc_big (by omega), dig_big (show 128 ≤ n by omega)]; simp
theorem enc_len_le (n : Nat) (h : n < 18446744073709551616) : 1 ≤ (enc n).length ∧ (enc n).length ≤ 10 := by
  rw [enc_len]
  exact ⟨List.length_pos_iff.2 (dig_ne n), dig_len n 10 (Nat.lt_of_lt_of_le h (by decide)) (by omega)⟩

/-! ### Reading -/
structure Got where
  err : Nat
  n : Nat
  rest : List UInt8
/-- A number read: the error (0: none; 3: torn; 2: form), the number, what is left. -/
def decL : Bool → Nat → List UInt8 → Got
  | _, _, [] => ⟨3, 0, []⟩
  | first, n, c :: l =>
    if (first = true ∧ c.toNat = 128) ∨ 144115188075855872 ≤ n then ⟨2, 0, []⟩
    else if c.toNat < 128 then ⟨0, n * 128 + c.toNat % 128, l⟩
    else decL false (n * 128 + c.toNat % 128) l

theorem ofNat_val {n : Nat} (h : n < 256) : (UInt8.ofNat n).toNat = n := by rw [UInt8.toNat_ofNat']; omega
theorem dec_hi (m : Nat) (l : List UInt8) (h1 : 1 ≤ m) (h2 : m < 144115188075855872) : decL true 0 ((dig m).map upB ++ l) = decL false m l := by
  induction m using Nat.strongRecOn generalizing l with
  | _ m ih =>
    by_cases h : m < 128
    · have e : ((dig m).map upB ++ l) = upB (UInt8.ofNat m) :: l := by simp [dig_small h]
      have v : (upB (UInt8.ofNat m)).toNat = m + 128 := by rw [upB_val (by rw [ofNat_val (by omega)]; omega), ofNat_val (by omega)]
      rw [e]
      conv => lhs; unfold decL
      rw [v, if_neg (by omega), if_neg (by omega)]
      congr 1; omega
    · have hd := dig_big (show 128 ≤ m by omega)
      have hm : m % 128 < 128 := by omega
      have v : (upB (UInt8.ofNat (m % 128))).toNat = m % 128 + 128 := by rw [upB_val (by rw [ofNat_val (by omega)]; omega), ofNat_val (by omega)]
      rw [hd, List.map_append, List.append_assoc, ih (m / 128) (by omega) _ (by omega) (by omega)]
      simp only [List.map_cons, List.map_nil, List.cons_append, List.nil_append]
      conv => lhs; unfold decL
      rw [v, if_neg (by simp; omega), if_neg (by omega)]
      congr 1; omega
/-- What was written is read. -/
theorem dec_enc (n : Nat) (rest : List UInt8) (h : n < 18446744073709551616) : decL true 0 (enc n ++ rest) = ⟨0, n, rest⟩ := by
  by_cases hn : n < 128
  · rw [enc_small hn]
    simp only [List.cons_append, List.nil_append]
    unfold decL
    rw [ofNat_val (by omega), if_neg (by omega), if_pos hn]
    congr 1; omega
  · rw [enc_big (by omega), List.append_assoc, dec_hi _ _ (by omega) (by omega)]
    simp only [List.cons_append, List.nil_append]
    unfold decL
    rw [ofNat_val (by omega), if_neg (by simp; omega), if_pos (by omega)]
    congr 1; omega
theorem dec_more (l : List UInt8) : ∀ (m n : Nat) (rest : List UInt8), 1 ≤ m → decL false m l = ⟨0, n, rest⟩ → ∃ ds, l = ds ++ rest ∧ enc n = (dig m).map upB ++ ds ∧ n < 18446744073709551616 := by
  induction l with
  | nil => intro m n rest _ h; simp [decL] at h
  | cons c l ih =>
    intro m n rest h1 h
    have hc := c.toNat_lt
    unfold decL at h
    by_cases hf : (false = true ∧ c.toNat = 128) ∨ 144115188075855872 ≤ m
    · rw [if_pos hf] at h; simp at h
    rw [if_neg hf] at h
    have hm : m < 144115188075855872 := by
      rcases Nat.lt_or_ge m 144115188075855872 with h' | h'
      · exact h'
      · exact absurd (Or.inr h') hf
    by_cases hl : c.toNat < 128
    · rw [if_pos hl] at h
      simp only [Got.mk.injEq] at h
      obtain ⟨_, hn, hr⟩ := h
      subst hr
      refine ⟨[c], rfl, ?_, by omega⟩
      rw [enc_big (by omega)]
      have e1 : n / 128 = m := by omega
      have e2 : n % 128 = c.toNat := by omega
      rw [e1, e2]; simp
    · rw [if_neg hl] at h
      obtain ⟨ds, el, en, hb⟩ := ih _ n rest (by omega) h
      refine ⟨c :: ds, by rw [el]; rfl, ?_, hb⟩
      rw [en, dig_big (by omega)]
      have e1 : (m * 128 + c.toNat % 128) / 128 = m := by omega
      have e2 : (m * 128 + c.toNat % 128) % 128 = c.toNat % 128 := by omega
      have e3 : upB (UInt8.ofNat (c.toNat % 128)) = c := by
        refine UInt8.toNat_inj.1 ?_
        rw [upB_val (by rw [ofNat_val (by omega)]; omega), ofNat_val (by omega)]; omega
      rw [e1, e2, List.map_append]
      simp [e3]
/-- What is read as a number is that number's bytes. -/
theorem dec_inv (l : List UInt8) (n : Nat) (rest : List UInt8) (h : decL true 0 l = ⟨0, n, rest⟩) : l = enc n ++ rest ∧ n < 18446744073709551616 := by
  cases l with
  | nil => simp [decL] at h
  | cons c l =>
    have hc := c.toNat_lt
    unfold decL at h
    by_cases h8 : c.toNat = 128
    · rw [if_pos (Or.inl ⟨rfl, h8⟩)] at h; simp at h
    rw [if_neg (by omega)] at h
    by_cases hl : c.toNat < 128
    · rw [if_pos hl] at h
      simp only [Got.mk.injEq] at h
      obtain ⟨_, hn, hr⟩ := h
      have e : n = c.toNat := by omega
      subst hr
      rw [e, enc_small hl]
      simp; omega
    · rw [if_neg hl] at h
      obtain ⟨ds, el, en, hb⟩ := dec_more l _ n rest (by omega) h
      refine ⟨?_, hb⟩
      have e1 : 0 * 128 + c.toNat % 128 = c.toNat - 128 := by omega
      rw [e1, dig_small (by omega)] at en
      have e3 : upB (UInt8.ofNat (c.toNat - 128)) = c := by
        refine UInt8.toNat_inj.1 ?_
        rw [upB_val (by rw [ofNat_val (by omega)]; omega), ofNat_val (by omega)]; omega
      rw [en, el]
      simp [e3]
/-- No number's bytes are another one's beginning. -/
theorem enc_prefix_free (a b : Nat) (r : List UInt8) (ha : a < 18446744073709551616) (hb : b < 18446744073709551616) (h : enc b = enc a ++ r) : a = b := by
  have h1 := dec_enc b [] hb
  rw [List.append_nil, h, dec_enc a r ha] at h1
  simp only [Got.mk.injEq] at h1
  exact h1.2.1
theorem enc_inj (a b : Nat) (ha : a < 18446744073709551616) (hb : b < 18446744073709551616) (h : enc a = enc b) : a = b := enc_prefix_free a b [] ha hb (by rw [h]; simp)
theorem enc_take (a b : Nat) (ha : a < 18446744073709551616) (hb : b < 18446744073709551616) (hn : a ≠ b) : (enc a).take (min (enc a).length (enc b).length) ≠ (enc b).take (min (enc a).length (enc b).length) := by
  intro h
  rcases Nat.le_total (enc a).length (enc b).length with hl | hl
  · rw [Nat.min_eq_left hl, List.take_of_length_le (Nat.le_refl _)] at h
    exact hn (enc_prefix_free a b ((enc b).drop (enc a).length) ha hb (by rw [h, List.length_take, Nat.min_eq_left hl, List.take_append_drop]))
  · rw [Nat.min_eq_right hl] at h
    rw [List.take_of_length_le (Nat.le_refl (enc b).length)] at h
    exact hn (enc_prefix_free b a ((enc a).drop (enc b).length) hb ha (by rw [← h, List.length_take, Nat.min_eq_left hl, List.take_append_drop])).symm

/-! ### Order -/
theorem less_append : ∀ (a b x y : List UInt8), a.length = b.length → Op.bytesLess a b = true → Op.bytesLess (a ++ x) (b ++ y) = true
  | [], [], _, _, _, h => by simp [Op.bytesLess] at h
  | [], _ :: _, _, _, h, _ => by simp at h
  | _ :: _, [], _, _, h, _ => by simp at h
  | a :: l, b :: m, x, y, hl, h => by
    simp only [List.cons_append]
    simp [Op.bytesLess] at h ⊢
    rcases h with h | ⟨rfl, h⟩
    · exact Or.inl h
    · exact Or.inr ⟨rfl, less_append l m x y (by simpa using hl) h⟩
theorem less_same : ∀ (p x y : List UInt8), Op.bytesLess x y = true → Op.bytesLess (p ++ x) (p ++ y) = true
  | [], _, _, h => h
  | a :: p, x, y, h => by
    simp only [List.cons_append]
    simp [Op.bytesLess]
    exact less_same p x y h
theorem less_one (a b : Nat) (h : a < b) (hb : b < 256) : Op.bytesLess [UInt8.ofNat a] [UInt8.ofNat b] = true := by
  simp [Op.bytesLess, UInt8.lt_iff_toNat_lt]
  omega
theorem less_up : ∀ (a b : List UInt8), (∀ c ∈ a, c.toNat < 128) → (∀ c ∈ b, c.toNat < 128) → Op.bytesLess a b = true → Op.bytesLess (a.map upB) (b.map upB) = true
  | [], [], _, _, h => by simp [Op.bytesLess] at h
  | [], _ :: _, _, _, _ => by simp [Op.bytesLess]
  | _ :: _, [], _, _, h => by simp [Op.bytesLess] at h
  | a :: l, b :: m, ha, hb, h => by
    simp only [List.map_cons]
    simp [Op.bytesLess] at h ⊢
    rcases h with h | ⟨rfl, h⟩
    · left
      have h' := UInt8.lt_iff_toNat_lt.1 h
      refine UInt8.lt_iff_toNat_lt.2 ?_
      rw [upB_val (ha a (by simp)), upB_val (hb b (by simp))]; omega
    · exact Or.inr ⟨rfl, less_up l m (fun c hc => ha c (by simp [hc])) (fun c hc => hb c (by simp [hc])) h⟩
theorem dig_rise (a b : Nat) (h : a < b) : (dig a).length < (dig b).length ∨ ((dig a).length = (dig b).length ∧ Op.bytesLess (dig a) (dig b) = true) := by
  induction b using Nat.strongRecOn generalizing a with
  | _ b ih =>
    by_cases hb : b < 128
    · right
      rw [dig_small hb, dig_small (by omega)]
      exact ⟨rfl, less_one a b h (by omega)⟩
    · rw [dig_big (show 128 ≤ b by omega)]
      by_cases ha : a < 128
      · left
        have := List.length_pos_iff.2 (dig_ne (b / 128))
        rw [dig_small ha]; simp; omega
      · rw [dig_big (show 128 ≤ a by omega)]
        by_cases hq : a / 128 = b / 128
        · right
          rw [hq]
          exact ⟨by simp, less_same _ _ _ (less_one _ _ (by omega) (by omega))⟩
        · rcases ih (b / 128) (by omega) (a / 128) (by omega) with hl | ⟨hl, hL⟩
          · left; simp; omega
          · right
            exact ⟨by simp [hl], less_append _ _ _ _ hl hL⟩
/-- Of two numbers the greater one has more bytes, or as many that come later. -/
theorem enc_rise (a b : Nat) (h : a < b) : (enc a).length < (enc b).length ∨ ((enc a).length = (enc b).length ∧ Op.bytesLess (enc a) (enc b) = true) := by
  by_cases hb : b < 128
  · right
    rw [enc_small hb, enc_small (by omega)]
    exact ⟨rfl, less_one a b h (by omega)⟩
  · by_cases ha : a < 128
    · left
      have := List.length_pos_iff.2 (dig_ne (b / 128))
      rw [enc_small ha, enc_big (by omega)]; simp; omega
    · rw [enc_big (show 128 ≤ a by omega), enc_big (show 128 ≤ b by omega)]
      by_cases hq : a / 128 = b / 128
      · right
        rw [hq]
        exact ⟨by simp, less_same _ _ _ (less_one _ _ (by omega) (by omega))⟩
      · rcases dig_rise (a / 128) (b / 128) (by omega) with hl | ⟨hl, hL⟩
        · left; simp; omega
        · right
          exact ⟨by simp [hl], less_append _ _ _ _ (by simp [hl]) (less_up _ _ (dig_lt _) (dig_lt _) hL)⟩

/-! ### Numbers with a sign -/
def zz (n : Int) : Nat := if 0 ≤ n then (2 * n).toNat else (2 * (-1 - n) + 1).toNat
def unzz (n : Nat) : Int := if n % 2 = 1 then -1 - (n / 2 : Nat) else (n / 2 : Nat)
theorem unzz_zz (n : Int) : unzz (zz n) = n := by
  unfold zz unzz
  split <;> split <;> omega
theorem zz_unzz (n : Nat) : zz (unzz n) = n := by
  unfold zz unzz
  split <;> split <;> omega
theorem zz_bd (n : Int) (h0 : -9223372036854775808 ≤ n) (h1 : n ≤ 9223372036854775807) : zz n < 18446744073709551616 := by
  unfold zz; split <;> omega
theorem unzz_bd (n : Nat) (h : n < 18446744073709551616) : -9223372036854775808 ≤ unzz n ∧ unzz n ≤ 9223372036854775807 := by
  unfold unzz; split <;> omega
end Go.Proofs.Ytbiahajpmnfhbaa
