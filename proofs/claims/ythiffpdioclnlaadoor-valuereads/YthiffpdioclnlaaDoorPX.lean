/-
  Plain mathematics of the reference's reading: it comes to the program's.
-/
import Derived.Test.YthiffpdioclnlaaDoorPN
set_option linter.unusedSimpArgs false
set_option linter.unusedVariables false
namespace Go.Proofs.YthiffpdioclnlaaDoor

/-! ### Strings -/
theorem hexD_table : ∀ n : Fin 256, 0 ≤ hexI (UInt8.ofNat n.val) → hexD (hexI (UInt8.ofNat n.val)).toNat = UInt8.ofNat n.val := by decide +kernel
theorem hexD_hexI (c : UInt8) (h : 0 ≤ hexI c) : hexD (hexI c).toNat = c := by
  have := hexD_table ⟨c.toNat, c.toNat_lt⟩
  simp only [UInt8.ofNat_toNat] at this
  exact this h

/-- A byte of two digits of sixteen. -/
def hx (a b : UInt8) : UInt8 := UInt8.ofNat (16 * hexI a + hexI b).toNat
theorem hx_val (a b : UInt8) (ha : 0 ≤ hexI a) (hb : 0 ≤ hexI b) : ((hx a b).toNat : Int) = 16 * hexI a + hexI b := by
  have h1 := hexI_bd a
  have h2 := hexI_bd b
  have e : (hx a b).toNat = (16 * hexI a + hexI b).toNat := by
    unfold hx; rw [UInt8.toNat_ofNat']; omega
  rw [e]; omega
theorem hx_digits (a b : UInt8) (ha : 0 ≤ hexI a) (hb : 0 ≤ hexI b) : hexD ((hx a b).toNat / 16) = a ∧ hexD ((hx a b).toNat % 16) = b := by
  have h := hx_val a b ha hb
  have h2 := hexI_bd b
  have e1 : (hx a b).toNat / 16 = (hexI a).toNat := by omega
  have e2 : (hx a b).toNat % 16 = (hexI b).toNat := by omega
  rw [e1, e2]
  exact ⟨hexD_hexI a ha, hexD_hexI b hb⟩
theorem hx_back (c : UInt8) : hx (hexD (c.toNat / 16)) (hexD (c.toNat % 16)) = c := by
  have hc := c.toNat_lt
  have h1 := hexI_hexD (c.toNat / 16) (by omega)
  have h2 := hexI_hexD (c.toNat % 16) (by omega)
  unfold hx
  rw [h1, h2]
  have e : ((16 : Int) * ((c.toNat / 16 : Nat) : Int) + ((c.toNat % 16 : Nat) : Int)).toNat = c.toNat := by omega
  rw [e]; simp

/-- The reference's quoted, from some place on: what it gathers till a mark. -/
def rqL : Nat → List UInt8 → List UInt8 → Nat → Option (List UInt8 × Nat)
  | 0, _, _, _ => none
  | _ + 1, [], _, _ => none
  | f + 1, c :: l, acc, pos =>
    if c.toNat = 39 then some (acc, pos + 1)
    else if c.toNat = 92 then
      if l.length < 2 then none
      else if hexI (l.getD 0 0) < 0 then none
      else if hexI (l.getD 1 0) < 0 then none
      else rqL f (l.drop 2) (acc ++ [hx (l.getD 0 0) (l.getD 1 0)]) (pos + 3)
    else rqL f l (acc ++ [c]) (pos + 1)
/-- The reference's quoted. -/
def qdL (l : List UInt8) : Option (List UInt8 × Nat) := match rqL l.length (l.drop 1) [] 1 with
  | none => none
  | some (t, n) => if t.length ≤ 8 ∧ quoteL t = l.take n ∧ n ≤ l.length then some (t, n) else none

theorem esc92 : escB 92 = true := by decide
theorem esc39 : escB 39 = true := by decide

/-- What is read was quoted. -/
theorem rs_inv : ∀ (f : Nat) (l acc : List UInt8) (pos : Nat) (r : Int × Int × List UInt8 × Nat), acc.length ≤ 8 → rsL f l acc pos = some r → ∃ t rest, l = qBytes t ++ 39 :: rest ∧ acc.length + t.length ≤ 8 ∧ r = (2, 0, acc ++ t, pos + (qBytes t).length + 1)
  | 0, l, acc, pos, r, _, h => by simp [rsL] at h
  | f + 1, [], acc, pos, r, _, h => by simp [rsL] at h
  | f + 1, c :: l, acc, pos, r, h8, h => by
    rw [rsL] at h
    by_cases c39 : c.toNat = 39
    · rw [if_pos c39] at h
      have e : c = 39 := UInt8.toNat_inj.1 c39
      refine ⟨[], l, by simp [qBytes, e], by simpa using h8, ?_⟩
      injection h with h
      simp [← h, qBytes]
    · rw [if_neg c39] at h
      by_cases w0 : rbW (c :: l) = 0
      · rw [if_pos w0] at h; cases h
      rw [if_neg w0] at h
      by_cases a8 : acc.length = 8
      · rw [if_pos a8] at h; cases h
      rw [if_neg a8] at h
      by_cases c92 : c.toNat = 92
      · have hb : ¬ (c :: l).length < 3 ∧ ¬ (hexI ((c :: l).getD 1 0) < 0 ∨ hexI ((c :: l).getD 2 0) < 0) ∧ escB (16 * hexI ((c :: l).getD 1 0) + hexI ((c :: l).getD 2 0)) = true := by
          refine ⟨fun h3 => w0 ?_, fun h3 => w0 ?_, ?_⟩
          · unfold rbW rb; simp only [List.getD_cons_zero]; rw [if_pos c92, if_pos h3]; rfl
          · unfold rbW rb; simp only [List.getD_cons_zero]
            rw [if_pos c92]
            split
            · rfl
            · first | rfl | (rw [if_pos h3]; rfl)
          · cases he : escB (16 * hexI ((c :: l).getD 1 0) + hexI ((c :: l).getD 2 0))
            · refine absurd ?_ w0
              unfold rbW rb; simp only [List.getD_cons_zero]
              rw [if_pos c92]
              split
              · rfl
              · split
                · rfl
                · rw [he]; rfl
            · rfl
        obtain ⟨h3, hh, he⟩ := hb
        match l, h3 with
        | [], h3 => simp at h3
        | [_], h3 => simp at h3
        | a :: b :: m, _ =>
          simp only [List.getD_cons_zero, List.getD_cons_succ] at hh he
          have ha : 0 ≤ hexI a := by omega
          have hb : 0 ≤ hexI b := by omega
          have hv := hx_val a b ha hb
          obtain ⟨d1, d2⟩ := hx_digits a b ha hb
          have ec : c = 92 := UInt8.toNat_inj.1 c92
          have eE : escB ((hx a b).toNat : Int) = true := by rw [hv]; exact he
          have hq : qByte (hx a b) = [92, a, b] := by
            unfold qByte; rw [eE, if_pos rfl, d1, d2]
          obtain ⟨w1, w2⟩ := rb_esc (hx a b) m eE
          rw [d1, d2] at w1 w2
          subst ec
          rw [w1, w2] at h
          simp only [List.drop_succ_cons, List.drop_zero] at h
          obtain ⟨t, rest, el, hl, er⟩ := rs_inv f m (acc ++ [hx a b]) (pos + 3) r (by simp; omega) h
          refine ⟨hx a b :: t, rest, ?_, by simp at hl ⊢; omega, ?_⟩
          · rw [qBytes_cons, hq, el]; simp
          · rw [er, qBytes_cons, hq]; simp; omega
      · cases he : escB (c.toNat : Int)
        · obtain ⟨w1, w2⟩ := rb_plain c l he
          rw [w1, w2] at h
          simp only [List.drop_succ_cons, List.drop_zero] at h
          have hq : qByte c = [c] := by unfold qByte; rw [he]; rfl
          obtain ⟨t, rest, el, hl, er⟩ := rs_inv f l (acc ++ [c]) (pos + 1) r (by simp; omega) h
          refine ⟨c :: t, rest, ?_, by simp at hl ⊢; omega, ?_⟩
          · rw [qBytes_cons, hq, el]; simp
          · rw [er, qBytes_cons, hq]; simp; omega
        · refine absurd ?_ w0
          unfold rbW rb; simp only [List.getD_cons_zero]
          rw [if_neg c92, he]; rfl

/-- What is quoted the reference gathers as it was. -/
theorem rq_back (t : List UInt8) : ∀ (f : Nat) (acc rest : List UInt8) (pos : Nat), (qBytes t ++ 39 :: rest).length ≤ f → rqL f (qBytes t ++ 39 :: rest) acc pos = some (acc ++ t, pos + (qBytes t).length + 1) := by
  induction t with
  | nil =>
    intro f acc rest pos hf
    cases f with
    | zero => simp [qBytes] at hf
    | succ f => simp [qBytes, rqL]
  | cons c t ih =>
    intro f acc rest pos hf
    rw [qBytes_cons, List.append_assoc] at hf ⊢
    cases f with
    | zero => have := (qByte_len c).1; simp at hf
    | succ f =>
      cases he : escB (c.toNat : Int)
      · have hq : qByte c = [c] := by unfold qByte; rw [he]; rfl
        have h39 : ¬ c.toNat = 39 := by intro e; rw [e] at he; revert he; decide
        have h92 : ¬ c.toNat = 92 := by intro e; rw [e] at he; revert he; decide
        rw [hq] at hf ⊢
        simp only [List.cons_append, List.nil_append] at hf ⊢
        rw [rqL, if_neg h39, if_neg h92]
        rw [ih f (acc ++ [c]) rest (pos + 1) (by simp at hf ⊢; omega)]
        simp; omega
      · have hq : qByte c = [92, hexD (c.toNat / 16), hexD (c.toNat % 16)] := by unfold qByte; rw [he]; rfl
        have hc := c.toNat_lt
        have h1 := hexI_hexD (c.toNat / 16) (by omega)
        have h2 := hexI_hexD (c.toNat % 16) (by omega)
        rw [hq] at hf ⊢
        simp only [List.cons_append, List.nil_append] at hf ⊢
        rw [rqL, if_neg (by decide), if_pos (by rfl)]
        simp only [List.getD_cons_zero, List.getD_cons_succ, List.drop_succ_cons, List.drop_zero]
        rw [if_neg (by simp), if_neg (by rw [h1]; omega), if_neg (by rw [h2]; omega), hx_back]
        rw [ih f (acc ++ [c]) rest (pos + 3) (by simp at hf ⊢; omega)]
        simp; omega

/-- Both read the same strings. -/
theorem rs_eq (m : List UInt8) : rsL (39 :: m).length m [] 1 = (qdL (39 :: m)).map (fun x => (2, 0, x.1, x.2)) := by
  cases hq : qdL (39 :: m) with
  | some x =>
    obtain ⟨t, n⟩ := x
    unfold qdL at hq
    cases hr : rqL (39 :: m).length ((39 :: m).drop 1) [] 1 with
    | none => rw [hr] at hq; cases hq
    | some y =>
      rw [hr] at hq
      obtain ⟨t', n'⟩ := y
      simp only at hq
      by_cases hc : t'.length ≤ 8 ∧ quoteL t' = (39 :: m).take n' ∧ n' ≤ (39 :: m).length
      · rw [if_pos hc] at hq
        injection hq with hq
        injection hq with e1 e2
        subst e1 e2
        obtain ⟨h8, hqt, hle⟩ := hc
        have hlen : (quoteL t').length = n' := by rw [hqt, List.length_take]; omega
        have hR := read_quoted t' ((39 :: m).drop n') h8
        rw [hqt, List.take_append_drop] at hR
        unfold readL at hR
        rw [if_neg (by simp), if_pos (by rfl)] at hR
        simp only [List.drop_one, List.tail_cons] at hR
        rw [hR, ← hqt, hlen]; rfl
      · rw [if_neg hc] at hq; cases hq
  | none =>
    cases hr : rsL (39 :: m).length m [] 1 with
    | none => rfl
    | some r =>
      obtain ⟨t, rest, el, hl, er⟩ := rs_inv _ _ _ _ _ (by simp) hr
      exfalso
      have hb := rq_back t (39 :: m).length [] rest 1 (by rw [← el]; simp)
      rw [← el] at hb
      unfold qdL at hq
      simp only [List.drop_one, List.tail_cons] at hq
      rw [hb] at hq
      simp only [List.nil_append] at hq
      rw [if_pos] at hq
      · cases hq
      · refine ⟨by simpa using hl, ?_, ?_⟩
        · rw [el]
          have e : (39 : UInt8) :: (qBytes t ++ 39 :: rest) = quoteL t ++ rest := by simp [quoteL]
          rw [e, List.take_left' (by simp [quoteL]; omega)]
        · rw [el]; simp; omega

/-! ### Numbers -/
theorem foldV_pow (l : List UInt8) : ∀ a : Nat, a * 10 ^ l.length ≤ foldV a l := by
  induction l with
  | nil => intro a; rw [foldV_nil]; simp
  | cons c l ih =>
    intro a
    rw [foldV_cons, List.length_cons, Nat.pow_succ]
    have := ih (a * 10 + (c.toNat - 48))
    have h2 : a * (10 ^ l.length * 10) = (a * 10) * 10 ^ l.length := by rw [Nat.mul_comm (10 ^ l.length) 10, Nat.mul_assoc]
    rw [h2]
    exact Nat.le_trans (Nat.mul_le_mul_right _ (by omega)) this
theorem foldV_lt (l : List UInt8) : ∀ a : Nat, (∀ c ∈ l, isDig c = true) → foldV a l < (a + 1) * 10 ^ l.length := by
  induction l with
  | nil => intro a _; rw [foldV_nil]; simp
  | cons c l ih =>
    intro a hd
    have hc := (isDig_iff c).1 (hd c (by simp))
    rw [foldV_cons, List.length_cons, Nat.pow_succ]
    have := ih (a * 10 + (c.toNat - 48)) (fun d h => hd d (by simp [h]))
    have h2 : (a + 1) * (10 ^ l.length * 10) = ((a + 1) * 10) * 10 ^ l.length := by rw [Nat.mul_comm (10 ^ l.length) 10, Nat.mul_assoc]
    rw [h2]
    exact Nat.lt_of_lt_of_le this (Nat.mul_le_mul_right _ (by omega))
theorem foldV_big (ds : List UInt8) (hd : ∀ c ∈ ds, isDig c = true) (hh : (ds.getD 0 0).toNat ≠ 48) (hl : 19 < ds.length) : 9223372036854775808 < foldV 0 ds := by
  cases ds with
  | nil => simp at hl
  | cons c l =>
    have hc := (isDig_iff c).1 (hd c (by simp))
    simp only [List.getD_cons_zero] at hh
    rw [foldV_cons]
    have h1 := foldV_pow l (0 * 10 + (c.toNat - 48))
    have h2 : (10 : Nat) ^ 19 ≤ 10 ^ l.length := Nat.pow_le_pow_right (by omega) (by simp at hl; omega)
    have h3 : 1 * 10 ^ l.length ≤ (0 * 10 + (c.toNat - 48)) * 10 ^ l.length := Nat.mul_le_mul_right _ (by omega)
    have h4 : (9223372036854775808 : Nat) < 10 ^ 19 := by decide
    omega
theorem foldV_small (ds : List UInt8) (hd : ∀ c ∈ ds, isDig c = true) (hl : ds.length ≤ 18) : foldV 0 ds ≤ 999999999999999999 := by
  have h1 := foldV_lt ds 0 hd
  have h2 : (10 : Nat) ^ ds.length ≤ 10 ^ 18 := Nat.pow_le_pow_right (by omega) hl
  have h4 : (10 : Nat) ^ 18 = 1000000000000000000 := by decide
  omega

/-- Canonical digits: no nought ahead of others. -/
theorem dec_canon (ds : List UInt8) (hne : ds ≠ []) (hd : ∀ c ∈ ds, isDig c = true) (hh : ¬ ((ds.getD 0 0).toNat = 48 ∧ 1 < ds.length)) : Lib.decDigits (foldV 0 ds) = ds := by
  induction hn : ds.length using Nat.strongRecOn generalizing ds with
  | _ n ih =>
    obtain ⟨ls, d, rfl⟩ : ∃ ls d, ds = ls ++ [d] := ⟨ds.dropLast, ds.getLast hne, (List.dropLast_concat_getLast hne).symm⟩
    have hdd := (isDig_iff d).1 (hd d (by simp))
    by_cases hl : ls = []
    · subst hl
      simp only [List.nil_append]
      rw [foldV_cons, foldV_nil, Lib.decDigits, dif_pos (by omega)]
      have e : 48 + (0 * 10 + (d.toNat - 48)) = d.toNat := by omega
      rw [e]; simp
    · have hpos : 0 < ls.length := List.length_pos_iff.2 hl
      have hg : (ls ++ [d]).getD 0 0 = ls.getD 0 0 := by
        cases ls with
        | nil => exact absurd rfl hl
        | cons c l => rfl
      rw [hg] at hh
      have hh' : ¬ (ls.getD 0 0).toNat = 48 := fun h => hh ⟨h, by simp; omega⟩
      have hI := ih ls.length (by simp at hn; omega) ls hl (fun c h => hd c (by simp [h])) (fun h => hh' h.1) rfl
      rw [foldV_append, foldV_cons, foldV_nil]
      have h1 : 1 ≤ foldV 0 ls := by
        cases ls with
        | nil => exact absurd rfl hl
        | cons c l =>
          have hc := (isDig_iff c).1 (hd c (by simp))
          simp only [List.getD_cons_zero] at hh'
          rw [foldV_cons]
          have := foldV_le l (0 * 10 + (c.toNat - 48))
          omega
      rw [Lib.decDigits, dif_neg (by omega)]
      have e1 : (foldV 0 ls * 10 + (d.toNat - 48)) / 10 = foldV 0 ls := by omega
      have e2 : 48 + (foldV 0 ls * 10 + (d.toNat - 48)) % 10 = d.toNat := by omega
      rw [e1, e2, hI]; simp
theorem dec_canon_inv (ds : List UInt8) (hh : (ds.getD 0 0).toNat = 48 ∧ 1 < ds.length) (u : Nat) : Lib.decDigits u ≠ ds := by
  intro e
  by_cases h : u < 10
  · rw [Lib.decDigits, dif_pos h] at e
    rw [← e] at hh; simp at hh
  · exact dec_head u (by omega) (by rw [e]; exact hh.1)

theorem atoi_pos_ok (c : UInt8) (r : List UInt8) (hc : isDig c = true) (u : Nat) (hp : Lib.parseMag (c :: r) = .ok u) (h : u ≤ 9223372036854775807) : Lib.atoiAll (c :: r) = .ok (u : Int) := by
  have hc := (isDig_iff c).1 hc
  unfold Lib.atoiAll
  have c1 : ¬ (c.toNat = 43 ∨ c.toNat = 45) := by omega
  have c2 : ¬ c.toNat = 45 := by omega
  simp only [if_neg c1, hp]
  simp [c2]
  omega
theorem atoi_pos_err (c : UInt8) (r : List UInt8) (hc : isDig c = true) (h : ∀ u, Lib.parseMag (c :: r) = .ok u → 9223372036854775807 < u) : ∀ v, Lib.atoiAll (c :: r) ≠ .ok v := by
  have hc := (isDig_iff c).1 hc
  intro v
  unfold Lib.atoiAll
  have c1 : ¬ (c.toNat = 43 ∨ c.toNat = 45) := by omega
  have c2 : ¬ c.toNat = 45 := by omega
  cases hp : Lib.parseMag (c :: r) with
  | ok u =>
    have := h u hp
    simp only [if_neg c1, hp]
    rw [if_pos ⟨c2, by omega⟩]
    intro h; cases h
  | range => simp [c1, hp]
  | _ => simp [c1, hp]
theorem atoi_neg_ok (r : List UInt8) (u : Nat) (hp : Lib.parseMag r = .ok u) (h : u ≤ 9223372036854775808) : Lib.atoiAll (45 :: r) = .ok (-(u : Int)) := by
  unfold Lib.atoiAll
  have e45 : (45 : UInt8).toNat = 45 := rfl
  simp only [e45, if_true, or_true, hp]
  simp
  omega
theorem atoi_neg_err (r : List UInt8) (h : ∀ u, Lib.parseMag r = .ok u → 9223372036854775808 < u) : ∀ v, Lib.atoiAll (45 :: r) ≠ .ok v := by
  intro v
  unfold Lib.atoiAll
  have e45 : (45 : UInt8).toNat = 45 := rfl
  cases hp : Lib.parseMag r with
  | ok u =>
    have := h u hp
    simp only [e45, if_true, or_true, hp]
    rw [if_neg (by simp), if_pos ⟨trivial, by omega⟩]
    intro h; cases h
  | range => simp [e45, hp]
  | _ => simp [e45, hp]

/-- The reference's number: digits behind a sign (a = 1), or none. -/
def refN (a : Nat) (ds : List UInt8) : R :=
  if (ds.getD 0 0).toNat = 48 ∧ 1 < a + ds.length then none
  else if 19 < ds.length then none
  else if (a = 0 ∧ 9223372036854775807 < foldV 0 ds) ∨ 9223372036854775808 < foldV 0 ds then none
  else some (1, if a = 1 then -(foldV 0 ds : Int) else foldV 0 ds, [], a + ds.length)

theorem mag_ok (ds : List UInt8) (hne : ds ≠ []) (hd : ∀ c ∈ ds, isDig c = true) (h : foldV 0 ds ≤ 9223372036854775808) : Lib.parseMag ds = .ok (foldV 0 ds) := by
  unfold Lib.parseMag
  rw [if_neg hne, parse_ok _ 0 hd (by omega)]
theorem mag_inv (ds : List UInt8) (u : Nat) (h : Lib.parseMag ds = .ok u) : u = foldV 0 ds := by
  unfold Lib.parseMag at h
  by_cases hne : ds = []
  · rw [if_pos hne] at h; cases h
  · rw [if_neg hne] at h
    exact (parse_inv ds 0 u (by omega) h).2.1

theorem rn_plain (ds : List UInt8) (hne : ds ≠ []) (hd : ∀ c ∈ ds, isDig c = true) : rnL ds = refN 0 ds := by
  cases hds : ds with
  | nil => exact absurd hds hne
  | cons c r =>
    rw [hds] at hne hd
    have hc := hd c (by simp)
    by_cases big : foldV 0 (c :: r) ≤ 9223372036854775807
    · rw [rnL_ok (atoi_pos_ok c r hc _ (mag_ok _ hne hd (by omega)) big), Lib.itoa_nonneg]
      unfold refN
      by_cases hh : ((c :: r).getD 0 0).toNat = 48 ∧ 1 < 0 + (c :: r).length
      · rw [if_pos hh, if_neg (dec_canon_inv _ ⟨hh.1, by omega⟩ _)]
      · rw [if_neg hh, if_pos (dec_canon _ hne hd (fun h => hh ⟨h.1, by omega⟩))]
        have hl : ¬ 19 < (c :: r).length := fun h => by
          have := foldV_big _ hd (fun e => hh ⟨e, by omega⟩) h
          omega
        rw [if_neg hl, if_neg (by omega)]
        simp
    · rw [rnL_err (atoi_pos_err c r hc (fun u h => by have := mag_inv _ u h; omega))]
      unfold refN
      split
      · rfl
      · split
        · rfl
        · rw [if_pos (Or.inl ⟨rfl, by omega⟩)]
theorem itoa_neg0 (ds : List UInt8) : Lib.itoa 0 ≠ 45 :: ds := by
  have e : Lib.itoa 0 = [48] := by
    unfold Lib.itoa
    rw [if_neg (by omega), Lib.decDigits, dif_pos (by simp)]; rfl
  rw [e]; simp
theorem foldV_zero (ds : List UInt8) (hne : ds ≠ []) (hd : ∀ c ∈ ds, isDig c = true) (h : foldV 0 ds = 0) : (ds.getD 0 0).toNat = 48 := by
  cases ds with
  | nil => exact absurd rfl hne
  | cons c l =>
    have hc := (isDig_iff c).1 (hd c (by simp))
    rw [foldV_cons] at h
    have := foldV_le l (0 * 10 + (c.toNat - 48))
    simp only [List.getD_cons_zero]
    omega
theorem rn_neg (ds : List UInt8) (hne : ds ≠ []) (hd : ∀ c ∈ ds, isDig c = true) : rnL (45 :: ds) = refN 1 ds := by
  have hpos := List.length_pos_iff.2 hne
  by_cases big : foldV 0 ds ≤ 9223372036854775808
  · rw [rnL_ok (atoi_neg_ok ds _ (mag_ok _ hne hd big) big)]
    unfold refN
    by_cases z : foldV 0 ds = 0
    · have h48 := foldV_zero ds hne hd z
      rw [z, if_neg (by simpa using itoa_neg0 ds), if_pos ⟨h48, by omega⟩]
    · rw [Lib.itoa_neg _ (by omega)]
      by_cases hh : (ds.getD 0 0).toNat = 48 ∧ 1 < 1 + ds.length
      · rw [if_pos hh]
        by_cases h1 : 1 < ds.length
        · rw [if_neg (fun e => dec_canon_inv ds ⟨hh.1, h1⟩ (foldV 0 ds) (by injection e))]
        · exfalso
          apply z
          match ds, h1, hne, hh with
          | [], _, hne, _ => exact absurd rfl hne
          | [c], _, _, hh =>
            simp only [List.getD_cons_zero] at hh
            rw [foldV_cons, foldV_nil]; omega
          | _ :: _ :: _, h1, _, _ => simp at h1
      · rw [if_neg hh, if_pos (by rw [dec_canon _ hne hd (fun h => hh ⟨h.1, by omega⟩)])]
        have hl : ¬ 19 < ds.length := fun h => by
          have := foldV_big _ hd (fun e => hh ⟨e, by omega⟩) h
          omega
        rw [if_neg hl, if_neg (by omega)]
        simp; omega
  · rw [rnL_err (atoi_neg_err ds (fun u h => by have := mag_inv _ u h; omega))]
    unfold refN
    split
    · rfl
    · split
      · rfl
      · rw [if_pos (Or.inr (by omega))]
end Go.Proofs.YthiffpdioclnlaaDoor
