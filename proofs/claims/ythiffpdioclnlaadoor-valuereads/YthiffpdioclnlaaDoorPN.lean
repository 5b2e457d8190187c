/-
  Plain mathematics of decimal numerals.
-/
import Derived.Test.YthiffpdioclnlaaDoorPR
import Derived.Lib.ItoaMem
set_option linter.unusedSimpArgs false
set_option linter.unusedVariables false
namespace Go.Proofs.YthiffpdioclnlaaDoor

/-- What digits spell, behind what was spelt before. -/
def foldV (a : Nat) (l : List UInt8) : Nat := l.foldl (fun x c => x * 10 + (c.toNat - 48)) a
theorem foldV_nil (a : Nat) : foldV a [] = a := List.foldl_nil
theorem foldV_cons (a : Nat) (c : UInt8) (l : List UInt8) : foldV a (c :: l) = foldV (a * 10 + (c.toNat - 48)) l := List.foldl_cons
theorem foldV_le (l : List UInt8) : ∀ a : Nat, a ≤ foldV a l := by
  induction l with
  | nil => intro a; rw [foldV_nil]; exact Nat.le_refl _
  | cons c l ih =>
    intro a
    rw [foldV_cons]
    have := ih (a * 10 + (c.toNat - 48))
    omega
theorem foldV_append (l m : List UInt8) (a : Nat) : foldV a (l ++ m) = foldV (foldV a l) m := List.foldl_append

theorem isDig_iff (c : UInt8) : isDig c = true ↔ 48 ≤ c.toNat ∧ c.toNat ≤ 57 := by simp [isDig]

/-- Digits whose number fits are parsed. -/
theorem parse_ok : ∀ (l : List UInt8) (a : Nat), (∀ c ∈ l, isDig c = true) → foldV a l < 18446744073709551616 → Lib.parseUint10 a l = .ok (foldV a l)
  | [], a, _, _ => by rw [foldV_nil, Lib.parseUint10]
  | c :: l, a, hd, hf => by
    have hc := (isDig_iff c).1 (hd c (by simp))
    rw [foldV_cons] at hf ⊢
    have h1 := foldV_le l (a * 10 + (c.toNat - 48))
    rw [Lib.parseUint10, if_pos hc, if_neg (by omega), if_neg (by omega)]
    exact parse_ok l _ (fun d h => hd d (by simp [h])) hf
/-- What is parsed is digits, and their number, which fits. -/
theorem parse_inv : ∀ (l : List UInt8) (a u : Nat), a < 18446744073709551616 → Lib.parseUint10 a l = .ok u → (∀ c ∈ l, isDig c = true) ∧ u = foldV a l ∧ foldV a l < 18446744073709551616
  | [], a, u, ha, h => by
    simp only [Lib.parseUint10] at h
    injection h with h
    exact ⟨by simp, by rw [← h, foldV_nil], by rw [foldV_nil]; exact ha⟩
  | c :: l, a, u, ha, h => by
    rw [Lib.parseUint10] at h
    by_cases hc : 48 ≤ c.toNat ∧ c.toNat ≤ 57
    · rw [if_pos hc] at h
      by_cases h1 : 1844674407370955162 ≤ a
      · rw [if_pos h1] at h; cases h
      · rw [if_neg h1] at h
        by_cases h2 : 18446744073709551616 ≤ a * 10 + (c.toNat - 48)
        · rw [if_pos h2] at h; cases h
        · rw [if_neg h2] at h
          obtain ⟨i1, i2, i3⟩ := parse_inv l _ u (by omega) h
          refine ⟨fun d hd => ?_, by rw [foldV_cons]; exact i2, by rw [foldV_cons]; exact i3⟩
          rcases List.mem_cons.1 hd with rfl | hd
          · exact (isDig_iff d).2 hc
          · exact i1 d hd
    · rw [if_neg hc] at h; cases h

theorem dig_byte (k : Nat) (h : k < 10) : (UInt8.ofNat (48 + k)).toNat = 48 + k := by rw [UInt8.toNat_ofNat']; omega
theorem dec_digits (u : Nat) : (∀ c ∈ Lib.decDigits u, isDig c = true) ∧ foldV 0 (Lib.decDigits u) = u ∧ Lib.decDigits u ≠ [] := by
  induction u using Nat.strongRecOn with
  | _ u ih =>
    by_cases h : u < 10
    · rw [Lib.decDigits, dif_pos h]
      refine ⟨fun c hc => ?_, ?_, by simp⟩
      · rw [List.mem_singleton.1 hc, isDig_iff, dig_byte u h]; omega
      · rw [foldV_cons, foldV_nil, dig_byte u h]; omega
    · obtain ⟨i1, i2, i3⟩ := ih (u / 10) (by omega)
      rw [Lib.decDigits, dif_neg h]
      refine ⟨fun c hc => ?_, ?_, by simp⟩
      · rcases List.mem_append.1 hc with hc | hc
        · exact i1 c hc
        · rw [List.mem_singleton.1 hc, isDig_iff, dig_byte _ (by omega)]; omega
      · rw [foldV_append, i2, foldV_cons, foldV_nil, dig_byte _ (by omega)]; omega
/-- No nought ahead of others. -/
theorem dec_head (u : Nat) (h : 10 ≤ u) : ((Lib.decDigits u).getD 0 0).toNat ≠ 48 := by
  induction u using Nat.strongRecOn with
  | _ u ih =>
    rw [Lib.decDigits, dif_neg (by omega)]
    have hne := (dec_digits (u / 10)).2.2
    have e : (Lib.decDigits (u / 10) ++ [UInt8.ofNat (48 + u % 10)]).getD 0 0 = (Lib.decDigits (u / 10)).getD 0 0 := by
      cases hl : Lib.decDigits (u / 10) with
      | nil => exact absurd hl hne
      | cons c l => rfl
    rw [e]
    by_cases h2 : 10 ≤ u / 10
    · exact ih (u / 10) (by omega) h2
    · rw [Lib.decDigits, dif_pos (by omega)]
      simp only [List.getD_cons_zero]
      rw [dig_byte _ (by omega)]; omega

theorem atoi_itoa (n : Int) (h0 : -9223372036854775808 ≤ n) (h1 : n ≤ 9223372036854775807) : Lib.atoiAll (Lib.itoa n) = .ok n := by
  by_cases hn : n < 0
  · obtain ⟨u, rfl⟩ : ∃ u : Nat, n = -(u : Int) := ⟨n.natAbs, by omega⟩
    rw [Lib.itoa_neg u (by omega)]
    obtain ⟨d1, d2, d3⟩ := dec_digits u
    have hp : Lib.parseMag (Lib.decDigits u) = .ok u := by
      unfold Lib.parseMag
      rw [if_neg d3, parse_ok _ 0 d1 (by rw [d2]; omega), d2]
    unfold Lib.atoiAll
    have e45 : (45 : UInt8).toNat = 45 := rfl
    simp only [e45, if_true, or_true, hp]
    simp
    omega
  · obtain ⟨u, rfl⟩ : ∃ u : Nat, n = (u : Int) := ⟨n.toNat, by omega⟩
    rw [Lib.itoa_nonneg u]
    obtain ⟨d1, d2, d3⟩ := dec_digits u
    have hp : Lib.parseMag (Lib.decDigits u) = .ok u := by
      unfold Lib.parseMag
      rw [if_neg d3, parse_ok _ 0 d1 (by rw [d2]; omega), d2]
    cases hl : Lib.decDigits u with
    | nil => exact absurd hl d3
    | cons c l =>
      have hc := (isDig_iff c).1 (d1 c (by rw [hl]; simp))
      rw [hl] at hp
      unfold Lib.atoiAll
      have c1 : ¬ (c.toNat = 43 ∨ c.toNat = 45) := by omega
      have c2 : ¬ c.toNat = 45 := by omega
      simp only [if_neg c1, hp]
      simp [c2]
      omega

theorem rn_itoa (n : Int) (h0 : -9223372036854775808 ≤ n) (h1 : n ≤ 9223372036854775807) : rnL (Lib.itoa n) = some (1, n, [], (Lib.itoa n).length) := by
  rw [rnL_ok (atoi_itoa n h0 h1), if_pos rfl]

theorem digCount_run (l m : List UInt8) (hl : ∀ c ∈ l, isDig c = true) (hm : m = [] ∨ isDig (m.getD 0 0) = false) : digCount (l ++ m) = l.length := by
  induction l with
  | nil =>
    cases m with
    | nil => rfl
    | cons c m =>
      rcases hm with hm | hm
      · cases hm
      · simp at hm
        simp [digCount, hm]
  | cons c l ih =>
    have := ih (fun d h => hl d (by simp [h]))
    simp [digCount, hl c (by simp), this]

theorem itoa_pos (n : Int) : 0 < (Lib.itoa n).length := by
  unfold Lib.itoa
  split
  · simp
  · exact List.length_pos_iff.2 (dec_digits _).2.2

/-- Where the number's text ends, whatever stands behind it that is no digit. -/
theorem numEnd_itoa (n : Int) (m : List UInt8) (hm : m = [] ∨ isDig (m.getD 0 0) = false) : numEnd (Lib.itoa n ++ m) = (Lib.itoa n).length := by
  unfold Lib.itoa
  split
  · obtain ⟨d1, d2, d3⟩ := dec_digits n.natAbs
    have e : numEnd ((45 :: Lib.decDigits n.natAbs) ++ m) = if digCount (Lib.decDigits n.natAbs ++ m) = 0 then 0 else 1 + digCount (Lib.decDigits n.natAbs ++ m) := rfl
    have := List.length_pos_iff.2 d3
    rw [e, digCount_run _ _ d1 hm, if_neg (by omega), List.length_cons]; omega
  · obtain ⟨d1, d2, d3⟩ := dec_digits n.toNat
    have hd : ((Lib.decDigits n.toNat ++ m).getD 0 0).toNat ≠ 45 := by
      cases hl : Lib.decDigits n.toNat with
      | nil => exact absurd hl d3
      | cons c l =>
        have := (isDig_iff c).1 (d1 c (by rw [hl]; simp))
        simp; omega
    unfold numEnd
    rw [if_neg hd, digCount_run _ _ d1 hm]
theorem itoa_head (n : Int) (m : List UInt8) : ((Lib.itoa n ++ m).getD 0 0).toNat ≠ 39 := by
  unfold Lib.itoa
  split
  · simp
  · obtain ⟨d1, d2, d3⟩ := dec_digits n.toNat
    cases hl : Lib.decDigits n.toNat with
    | nil => exact absurd hl d3
    | cons c l =>
      have := (isDig_iff c).1 (d1 c (by rw [hl]; simp))
      simp; omega

theorem read_itoa (n : Int) (m : List UInt8) (h0 : -9223372036854775808 ≤ n) (h1 : n ≤ 9223372036854775807) (hm : m = [] ∨ isDig (m.getD 0 0) = false) : readL (Lib.itoa n ++ m) = some (1, n, [], (Lib.itoa n).length) := by
  have hp := itoa_pos n
  unfold readL
  rw [if_neg (by rw [List.length_append]; omega), if_neg (itoa_head n m), numEnd_itoa n m hm, if_pos hp, List.take_left', rn_itoa n h0 h1]
  rfl
theorem read_absent (m : List UInt8) (hm : m = [] ∨ isDig (m.getD 0 0) = false) : readL (45 :: m) = some (0, 0, [], 1) := by
  have e : numEnd (45 :: m) = if digCount m = 0 then 0 else 1 + digCount m := rfl
  have h0 : digCount m = 0 := by simpa using digCount_run [] m (by simp) hm
  unfold readL
  rw [e, h0]
  simp

/-! ### Strings -/
theorem hex_digit : ∀ k : Fin 16, hexI (hexD k.val) = (k.val : Int) := by decide +kernel
theorem hexI_hexD (k : Nat) (h : k < 16) : hexI (hexD k) = (k : Int) := hex_digit ⟨k, h⟩
theorem rb_plain (c : UInt8) (l : List UInt8) (h : escB (c.toNat : Int) = false) : rbW (c :: l) = 1 ∧ rbC (c :: l) = c := by
  have hc : ¬ c.toNat = 92 := by
    intro e
    rw [e] at h
    revert h; decide
  have e : rb (c :: l) = ((c.toNat : Int), 1) := by
    unfold rb
    simp only [List.getD_cons_zero]
    rw [if_neg hc, h]; rfl
  refine ⟨by unfold rbW; rw [e]; rfl, ?_⟩
  unfold rbC; rw [e]
  simp
theorem rb_esc (c : UInt8) (l : List UInt8) (h : escB (c.toNat : Int) = true) : rbW (92 :: hexD (c.toNat / 16) :: hexD (c.toNat % 16) :: l) = 3 ∧ rbC (92 :: hexD (c.toNat / 16) :: hexD (c.toNat % 16) :: l) = c := by
  have hc := c.toNat_lt
  have h1 := hexI_hexD (c.toNat / 16) (by omega)
  have h2 := hexI_hexD (c.toNat % 16) (by omega)
  have hv : 16 * hexI (hexD (c.toNat / 16)) + hexI (hexD (c.toNat % 16)) = (c.toNat : Int) := by rw [h1, h2]; omega
  have e : rb (92 :: hexD (c.toNat / 16) :: hexD (c.toNat % 16) :: l) = ((c.toNat : Int), 3) := by
    unfold rb
    simp only [List.getD_cons_zero, List.getD_cons_succ]
    rw [if_pos (by rfl), if_neg (by simp), if_neg (by omega), hv, h]; rfl
  refine ⟨by unfold rbW; rw [e]; rfl, ?_⟩
  unfold rbC; rw [e]
  simp

/-- What is quoted is read as it was. -/
theorem rs_back (t : List UInt8) : ∀ (f : Nat) (acc rest : List UInt8) (pos : Nat), (qBytes t ++ 39 :: rest).length ≤ f → acc.length + t.length ≤ 8 → rsL f (qBytes t ++ 39 :: rest) acc pos = some (2, 0, acc ++ t, pos + (qBytes t).length + 1) := by
  induction t with
  | nil =>
    intro f acc rest pos hf h8
    cases f with
    | zero => simp [qBytes] at hf
    | succ f => simp [qBytes, rsL]
  | cons c t ih =>
    intro f acc rest pos hf h8
    rw [qBytes_cons, List.append_assoc] at hf ⊢
    have hn8 : ¬ acc.length = 8 := by simp at h8; omega
    cases f with
    | zero => have := (qByte_len c).1; simp at hf
    | succ f =>
      cases he : escB (c.toNat : Int)
      · have hq : qByte c = [c] := by unfold qByte; rw [he]; rfl
        have h39 : ¬ c.toNat = 39 := by intro e; rw [e] at he; revert he; decide
        rw [hq] at hf ⊢
        obtain ⟨w1, w2⟩ := rb_plain c (qBytes t ++ 39 :: rest) he
        simp only [List.cons_append, List.nil_append] at hf ⊢
        rw [rsL, if_neg h39, w1, w2, if_neg (by decide), if_neg hn8]
        simp only [List.drop_one, List.tail_cons]
        rw [ih f (acc ++ [c]) rest (pos + 1) (by simp at hf ⊢; omega) (by simp at h8 ⊢; omega)]
        simp; omega
      · have hq : qByte c = [92, hexD (c.toNat / 16), hexD (c.toNat % 16)] := by unfold qByte; rw [he]; rfl
        rw [hq] at hf ⊢
        obtain ⟨w1, w2⟩ := rb_esc c (qBytes t ++ 39 :: rest) he
        simp only [List.cons_append, List.nil_append] at hf ⊢
        rw [rsL, if_neg (by decide), w1, w2, if_neg (by decide), if_neg hn8]
        simp only [List.drop_succ_cons, List.drop_zero]
        rw [ih f (acc ++ [c]) rest (pos + 3) (by simp at hf ⊢; omega) (by simp at h8 ⊢; omega)]
        simp; omega

theorem read_quoted (t m : List UInt8) (h8 : t.length ≤ 8) : readL (quoteL t ++ m) = some (2, 0, t, (quoteL t).length) := by
  have e : quoteL t ++ m = 39 :: (qBytes t ++ 39 :: m) := by simp [quoteL]
  unfold readL
  rw [e, if_neg (by simp), if_pos (by rfl)]
  rw [List.drop_one, List.tail_cons, rs_back t _ [] m 1 (by simp) (by simpa using h8)]
  simp [quoteL]; omega
end Go.Proofs.YthiffpdioclnlaaDoor
