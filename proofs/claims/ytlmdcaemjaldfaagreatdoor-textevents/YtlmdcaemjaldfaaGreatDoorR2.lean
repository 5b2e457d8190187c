import Derived.Test.YtlmdcaemjaldfaaGreatDoorR1
import Derived.OpenShut
import Derived.Carry
import Derived.Deep.Slices
import Derived.RangeFuncNested
import Derived.RangeFuncBound
import Derived.RangeFuncCalls
import Derived.RangeFuncLeaves
import Derived.Shelf.Abstract
import Derived.Shelf.RegionOpen
import Derived.WalkKit
import Derived.OwnWalkIn
import Derived.TacticsInMore
import Derived.LoopNIn
import Derived.LoopIn
import Derived.Lib.MinMax
import Derived.BigQuiet
import Derived.Lib.QuietBelow
import Derived.Deep.MidRow
import Derived.Laws.AppendOwnNone
import Derived.Deep.CutRange
import Derived.Deep.RegionHeld3
import Derived.Deep.Upon
set_option linter.unusedSimpArgs false
set_option linter.unusedVariables false
namespace Go.Proofs.YtlmdcaemjaldfaaGreatDoor
theorem hexD_table : ∀ n : Fin 256, 0 ≤ hexI (UInt8.ofNat n.val) → hexD (hexI (UInt8.ofNat n.val)).toNat = UInt8.ofNat n.val := by decide +kernel
theorem hexD_hexI (c : UInt8) (h : 0 ≤ hexI c) : hexD (hexI c).toNat = c := by
  have := hexD_table ⟨c.toNat, c.toNat_lt⟩
  simp only [UInt8.ofNat_toNat] at this
  exact this h
def hx (a b : UInt8) : UInt8 := UInt8.ofNat (16 * hexI a + hexI b).toNat
theorem hx_val (a b : UInt8) (ha : 0 ≤ hexI a) (hb : 0 ≤ hexI b) : ((hx a b).toNat : Int) = 16 * hexI a + hexI b := by
  have h1 := hexI_bd a
  have h2 := hexI_bd b
  have e : (hx a b).toNat = (16 * hexI a + hexI b).toNat := by
    unfold hx; rw [UInt8.toNat_ofNat']; omega
  rw [e]; omega
theorem hx_digits (a b : UInt8) (ha : 0 ≤ hexI a) (hb : 0 ≤ hexI b) : hexD ((hx a b).toNat / 16) = a ∧ hexD ((hx a b).toNat % 16) = b := by
  have h := hx_val a b ha hb
  have h2 := hexI_bd b
  have e1 : (hx a b).toNat / 16 = (hexI a).toNat := by omega
  have e2 : (hx a b).toNat % 16 = (hexI b).toNat := by omega
  rw [e1, e2]
  exact ⟨hexD_hexI a ha, hexD_hexI b hb⟩
theorem hx_back (c : UInt8) : hx (hexD (c.toNat / 16)) (hexD (c.toNat % 16)) = c := by
  have hc := c.toNat_lt
  have h1 := hexI_hexD (c.toNat / 16) (by omega)
  have h2 := hexI_hexD (c.toNat % 16) (by omega)
  unfold hx
  rw [h1, h2]
  have e : ((16 : Int) * ((c.toNat / 16 : Nat) : Int) + ((c.toNat % 16 : Nat) : Int)).toNat = c.toNat := by omega
  rw [e]; simp
def rqL : Nat → List UInt8 → List UInt8 → Nat → Option (List UInt8 × Nat)
  | 0, _, _, _ => none
  | _ + 1, [], _, _ => none
  | f + 1, c :: l, acc, pos =>
    if c.toNat = 39 then some (acc, pos + 1)
    else if c.toNat = 92 then
      if l.length < 2 then none
      else if hexI (l.getD 0 0) < 0 then none
      else if hexI (l.getD 1 0) < 0 then none
      else rqL f (l.drop 2) (acc ++ [hx (l.getD 0 0) (l.getD 1 0)]) (pos + 3)
    else rqL f l (acc ++ [c]) (pos + 1)
def qdL (l : List UInt8) : Option (List UInt8 × Nat) := match rqL l.length (l.drop 1) [] 1 with
  | none => none
  | some (t, n) => if t.length ≤ 8 ∧ quoteL t = l.take n ∧ n ≤ l.length then some (t, n) else none
theorem rs_inv : ∀ (f : Nat) (l acc : List UInt8) (pos : Nat) (r : Int × Int × List UInt8 × Nat), acc.length ≤ 8 → rsL f l acc pos = some r → ∃ t rest, l = qBytes t ++ 39 :: rest ∧ acc.length + t.length ≤ 8 ∧ r = (2, 0, acc ++ t, pos + (qBytes t).length + 1)
  | 0, l, acc, pos, r, _, h => by simp [rsL] at h
  | f + 1, [], acc, pos, r, _, h => by simp [rsL] at h
  | f + 1, c :: l, acc, pos, r, h8, h => by
    rw [rsL] at h
    by_cases c39 : c.toNat = 39
    · rw [if_pos c39] at h
      have e : c = 39 := UInt8.toNat_inj.1 c39
      refine ⟨[], l, by simp [qBytes, e], by simpa using h8, ?_⟩
      injection h with h
      simp [← h, qBytes]
    · rw [if_neg c39] at h
      by_cases w0 : rbW (c :: l) = 0
      · rw [if_pos w0] at h; cases h
      rw [if_neg w0] at h
      by_cases a8 : acc.length = 8
      · rw [if_pos a8] at h; cases h
      rw [if_neg a8] at h
      by_cases c92 : c.toNat = 92
      · have hb : ¬ (c :: l).length < 3 ∧ ¬ (hexI ((c :: l).getD 1 0) < 0 ∨ hexI ((c :: l).getD 2 0) < 0) ∧ escB (16 * hexI ((c :: l).getD 1 0) + hexI ((c :: l).getD 2 0)) = true := by
          refine ⟨fun h3 => w0 ?_, fun h3 => w0 ?_, ?_⟩
          · unfold rbW rb; simp only [List.getD_cons_zero]; rw [if_pos c92, if_pos h3]; rfl
          · unfold rbW rb; simp only [List.getD_cons_zero]
            rw [if_pos c92]
            split
            · rfl
            · first | rfl | (rw [if_pos h3]; rfl)
          · cases he : escB (16 * hexI ((c :: l).getD 1 0) + hexI ((c :: l).getD 2 0))
            · refine absurd ?_ w0
              unfold rbW rb; simp only [List.getD_cons_zero]
              rw [if_pos c92]
              split
              · rfl
              · split
                · rfl
                · rw [he]; rfl
            · rfl
        obtain ⟨h3, hh, he⟩ := hb
        match l, h3 with
        | [], h3 => simp at h3
        | [_], h3 => simp at h3
        | a :: b :: m, _ =>
          simp only [List.getD_cons_zero, List.getD_cons_succ] at hh he
          have ha : 0 ≤ hexI a := by omega
          have hb : 0 ≤ hexI b := by omega
          have hv := hx_val a b ha hb
          obtain ⟨d1, d2⟩ := hx_digits a b ha hb
          have ec : c = 92 := UInt8.toNat_inj.1 c92
          have eE : escB ((hx a b).toNat : Int) = true := by rw [hv]; exact he
          have hq : qByte (hx a b) = [92, a, b] := by
            unfold qByte; rw [eE, if_pos rfl, d1, d2]
          obtain ⟨w1, w2⟩ := rb_esc (hx a b) m eE
          rw [d1, d2] at w1 w2
          subst ec
          rw [w1, w2] at h
          simp only [List.drop_succ_cons, List.drop_zero] at h
          obtain ⟨t, rest, el, hl, er⟩ := rs_inv f m (acc ++ [hx a b]) (pos + 3) r (by simp; omega) h
          refine ⟨hx a b :: t, rest, ?_, by simp at hl ⊢; omega, ?_⟩
          · rw [qBytes_cons, hq, el]; simp
          · rw [er, qBytes_cons, hq]; simp; omega
      · cases he : escB (c.toNat : Int)
        · obtain ⟨w1, w2⟩ := rb_plain c l he
          rw [w1, w2] at h
          simp only [List.drop_succ_cons, List.drop_zero] at h
          have hq : qByte c = [c] := by unfold qByte; rw [he]; rfl
          obtain ⟨t, rest, el, hl, er⟩ := rs_inv f l (acc ++ [c]) (pos + 1) r (by simp; omega) h
          refine ⟨c :: t, rest, ?_, by simp at hl ⊢; omega, ?_⟩
          · rw [qBytes_cons, hq, el]; simp
          · rw [er, qBytes_cons, hq]; simp; omega
        · refine absurd ?_ w0
          unfold rbW rb; simp only [List.getD_cons_zero]
          rw [if_neg c92, he]; rfl
theorem rq_back (t : List UInt8) : ∀ (f : Nat) (acc rest : List UInt8) (pos : Nat), (qBytes t ++ 39 :: rest).length ≤ f → rqL f (qBytes t ++ 39 :: rest) acc pos = some (acc ++ t, pos + (qBytes t).length + 1) := by
  induction t with
  | nil =>
    intro f acc rest pos hf
    cases f with
    | zero => simp [qBytes] at hf
    | succ f => simp [qBytes, rqL]
  | cons c t ih =>
    intro f acc rest pos hf
    rw [qBytes_cons, List.append_assoc] at hf ⊢
    cases f with
    | zero => have := (qByte_len c).1; simp at hf
    | succ f =>
      cases he : escB (c.toNat : Int)
      · have hq : qByte c = [c] := by unfold qByte; rw [he]; rfl
        have h39 : ¬ c.toNat = 39 := by intro e; rw [e] at he; revert he; decide
        have h92 : ¬ c.toNat = 92 := by intro e; rw [e] at he; revert he; decide
        rw [hq] at hf ⊢
        simp only [List.cons_append, List.nil_append] at hf ⊢
        rw [rqL, if_neg h39, if_neg h92]
        rw [ih f (acc ++ [c]) rest (pos + 1) (by simp at hf ⊢; omega)]
        simp; omega
      · have hq : qByte c = [92, hexD (c.toNat / 16), hexD (c.toNat % 16)] := by unfold qByte; rw [he]; rfl
        have hc := c.toNat_lt
        have h1 := hexI_hexD (c.toNat / 16) (by omega)
        have h2 := hexI_hexD (c.toNat % 16) (by omega)
        rw [hq] at hf ⊢
        simp only [List.cons_append, List.nil_append] at hf ⊢
        rw [rqL, if_neg (by decide), if_pos (by rfl)]
        simp only [List.getD_cons_zero, List.getD_cons_succ, List.drop_succ_cons, List.drop_zero]
        rw [if_neg (by simp), if_neg (by rw [h1]; omega), if_neg (by rw [h2]; omega), hx_back]
        rw [ih f (acc ++ [c]) rest (pos + 3) (by simp at hf ⊢; omega)]
        simp; omega
theorem rs_eq (m : List UInt8) : rsL (39 :: m).length m [] 1 = (qdL (39 :: m)).map (fun x => (2, 0, x.1, x.2)) := by
  cases hq : qdL (39 :: m) with
  | some x =>
    obtain ⟨t, n⟩ := x
    unfold qdL at hq
    cases hr : rqL (39 :: m).length ((39 :: m).drop 1) [] 1 with
    | none => rw [hr] at hq; cases hq
    | some y =>
      rw [hr] at hq
      obtain ⟨t', n'⟩ := y
      simp only at hq
      by_cases hc : t'.length ≤ 8 ∧ quoteL t' = (39 :: m).take n' ∧ n' ≤ (39 :: m).length
      · rw [if_pos hc] at hq
        injection hq with hq
        injection hq with e1 e2
        subst e1 e2
        obtain ⟨h8, hqt, hle⟩ := hc
        have hlen : (quoteL t').length = n' := by rw [hqt, List.length_take]; omega
        have hR := read_quoted t' ((39 :: m).drop n') h8
        rw [hqt, List.take_append_drop] at hR
        unfold readL at hR
        rw [if_neg (by simp), if_pos (by rfl)] at hR
        simp only [List.drop_one, List.tail_cons] at hR
        rw [hR, ← hqt, hlen]; rfl
      · rw [if_neg hc] at hq; cases hq
  | none =>
    cases hr : rsL (39 :: m).length m [] 1 with
    | none => rfl
    | some r =>
      obtain ⟨t, rest, el, hl, er⟩ := rs_inv _ _ _ _ _ (by simp) hr
      exfalso
      have hb := rq_back t (39 :: m).length [] rest 1 (by rw [← el]; simp)
      rw [← el] at hb
      unfold qdL at hq
      simp only [List.drop_one, List.tail_cons] at hq
      rw [hb] at hq
      simp only [List.nil_append] at hq
      rw [if_pos] at hq
      · cases hq
      · refine ⟨by simpa using hl, ?_, ?_⟩
        · rw [el]
          have e : (39 : UInt8) :: (qBytes t ++ 39 :: rest) = quoteL t ++ rest := by simp [quoteL]
          rw [e, List.take_left' (by simp [quoteL]; omega)]
        · rw [el]; simp; omega
theorem foldV_pow (l : List UInt8) : ∀ a : Nat, a * 10 ^ l.length ≤ foldV a l := by
  induction l with
  | nil => intro a; rw [foldV_nil]; simp
  | cons c l ih =>
    intro a
    rw [foldV_cons, List.length_cons, Nat.pow_succ]
    have := ih (a * 10 + (c.toNat - 48))
    have h2 : a * (10 ^ l.length * 10) = (a * 10) * 10 ^ l.length := by rw [Nat.mul_comm (10 ^ l.length) 10, Nat.mul_assoc]
    rw [h2]
    exact Nat.le_trans (Nat.mul_le_mul_right _ (by omega)) this
theorem foldV_lt (l : List UInt8) : ∀ a : Nat, (∀ c ∈ l, isDig c = true) → foldV a l < (a + 1) * 10 ^ l.length := by
  induction l with
  | nil => intro a _; rw [foldV_nil]; simp
  | cons c l ih =>
    intro a hd
    have hc := (isDig_iff c).1 (hd c (by simp))
    rw [foldV_cons, List.length_cons, Nat.pow_succ]
    have := ih (a * 10 + (c.toNat - 48)) (fun d h => hd d (by simp [h]))
    have h2 : (a + 1) * (10 ^ l.length * 10) = ((a + 1) * 10) * 10 ^ l.length := by rw [Nat.mul_comm (10 ^ l.length) 10, Nat.mul_assoc]
    rw [h2]
    exact Nat.lt_of_lt_of_le this (Nat.mul_le_mul_right _ (by omega))
theorem foldV_big (ds : List UInt8) (hd : ∀ c ∈ ds, isDig c = true) (hh : (ds.getD 0 0).toNat ≠ 48) (hl : 19 < ds.length) : 9223372036854775808 < foldV 0 ds := by
  cases ds with
  | nil => simp at hl
  | cons c l =>
    have hc := (isDig_iff c).1 (hd c (by simp))
    simp only [List.getD_cons_zero] at hh
    rw [foldV_cons]
    have h1 := foldV_pow l (0 * 10 + (c.toNat - 48))
    have h2 : (10 : Nat) ^ 19 ≤ 10 ^ l.length := Nat.pow_le_pow_right (by omega) (by simp at hl; omega)
    have h3 : 1 * 10 ^ l.length ≤ (0 * 10 + (c.toNat - 48)) * 10 ^ l.length := Nat.mul_le_mul_right _ (by omega)
    have h4 : (9223372036854775808 : Nat) < 10 ^ 19 := by decide
    omega
theorem foldV_small (ds : List UInt8) (hd : ∀ c ∈ ds, isDig c = true) (hl : ds.length ≤ 18) : foldV 0 ds ≤ 999999999999999999 := by
  have h1 := foldV_lt ds 0 hd
  have h2 : (10 : Nat) ^ ds.length ≤ 10 ^ 18 := Nat.pow_le_pow_right (by omega) hl
  have h4 : (10 : Nat) ^ 18 = 1000000000000000000 := by decide
  omega
theorem dec_canon (ds : List UInt8) (hne : ds ≠ []) (hd : ∀ c ∈ ds, isDig c = true) (hh : ¬ ((ds.getD 0 0).toNat = 48 ∧ 1 < ds.length)) : Lib.decDigits (foldV 0 ds) = ds := by
  induction hn : ds.length using Nat.strongRecOn generalizing ds with
  | _ n ih =>
    obtain ⟨ls, d, rfl⟩ : ∃ ls d, ds = ls ++ [d] := ⟨ds.dropLast, ds.getLast hne, (List.dropLast_concat_getLast hne).symm⟩
    have hdd := (isDig_iff d).1 (hd d (by simp))
    by_cases hl : ls = []
    · subst hl
      simp only [List.nil_append]
      rw [foldV_cons, foldV_nil, Lib.decDigits, dif_pos (by omega)]
      have e : 48 + (0 * 10 + (d.toNat - 48)) = d.toNat := by omega
      rw [e]; simp
    · have hpos : 0 < ls.length := List.length_pos_iff.2 hl
      have hg : (ls ++ [d]).getD 0 0 = ls.getD 0 0 := by
        cases ls with
        | nil => exact absurd rfl hl
        | cons c l => rfl
      rw [hg] at hh
      have hh' : ¬ (ls.getD 0 0).toNat = 48 := fun h => hh ⟨h, by simp; omega⟩
      have hI := ih ls.length (by simp at hn; omega) ls hl (fun c h => hd c (by simp [h])) (fun h => hh' h.1) rfl
      rw [foldV_append, foldV_cons, foldV_nil]
      have h1 : 1 ≤ foldV 0 ls := by
        cases ls with
        | nil => exact absurd rfl hl
        | cons c l =>
          have hc := (isDig_iff c).1 (hd c (by simp))
          simp only [List.getD_cons_zero] at hh'
          rw [foldV_cons]
          have := foldV_le l (0 * 10 + (c.toNat - 48))
          omega
      rw [Lib.decDigits, dif_neg (by omega)]
      have e1 : (foldV 0 ls * 10 + (d.toNat - 48)) / 10 = foldV 0 ls := by omega
      have e2 : 48 + (foldV 0 ls * 10 + (d.toNat - 48)) % 10 = d.toNat := by omega
      rw [e1, e2, hI]; simp
theorem dec_canon_inv (ds : List UInt8) (hh : (ds.getD 0 0).toNat = 48 ∧ 1 < ds.length) (u : Nat) : Lib.decDigits u ≠ ds := by
  intro e
  by_cases h : u < 10
  · rw [Lib.decDigits, dif_pos h] at e
    rw [← e] at hh; simp at hh
  · exact dec_head u (by omega) (by rw [e]; exact hh.1)
theorem atoi_pos_ok (c : UInt8) (r : List UInt8) (hc : isDig c = true) (u : Nat) (hp : Lib.parseMag (c :: r) = .ok u) (h : u ≤ 9223372036854775807) : Lib.atoiAll (c :: r) = .ok (u : Int) := by
  have hc := (isDig_iff c).1 hc
  unfold Lib.atoiAll
  have c1 : ¬ (c.toNat = 43 ∨ c.toNat = 45) := by omega
  have c2 : ¬ c.toNat = 45 := by omega
  simp only [if_neg c1, hp]
  simp [c2]
  omega
theorem atoi_pos_err (c : UInt8) (r : List UInt8) (hc : isDig c = true) (h : ∀ u, Lib.parseMag (c :: r) = .ok u → 9223372036854775807 < u) : ∀ v, Lib.atoiAll (c :: r) ≠ .ok v := by
  have hc := (isDig_iff c).1 hc
  intro v
  unfold Lib.atoiAll
  have c1 : ¬ (c.toNat = 43 ∨ c.toNat = 45) := by omega
  have c2 : ¬ c.toNat = 45 := by omega
  cases hp : Lib.parseMag (c :: r) with
  | ok u =>
    have := h u hp
    simp only [if_neg c1, hp]
    rw [if_pos ⟨c2, by omega⟩]
    intro h; cases h
  | range => simp [c1, hp]
  | _ => simp [c1, hp]
theorem atoi_neg_ok (r : List UInt8) (u : Nat) (hp : Lib.parseMag r = .ok u) (h : u ≤ 9223372036854775808) : Lib.atoiAll (45 :: r) = .ok (-(u : Int)) := by
  unfold Lib.atoiAll
  have e45 : (45 : UInt8).toNat = 45 := rfl
  simp only [e45, if_true, or_true, hp]
  simp
  omega
theorem atoi_neg_err (r : List UInt8) (h : ∀ u, Lib.parseMag r = .ok u → 9223372036854775808 < u) : ∀ v, Lib.atoiAll (45 :: r) ≠ .ok v := by
  intro v
  unfold Lib.atoiAll
  have e45 : (45 : UInt8).toNat = 45 := rfl
  cases hp : Lib.parseMag r with
  | ok u =>
    have := h u hp
    simp only [e45, if_true, or_true, hp]
    rw [if_neg (by simp), if_pos ⟨trivial, by omega⟩]
    intro h; cases h
  | range => simp [e45, hp]
  | _ => simp [e45, hp]
def refN (a : Nat) (ds : List UInt8) : R :=
  if (ds.getD 0 0).toNat = 48 ∧ 1 < a + ds.length then none
  else if 19 < ds.length then none
  else if (a = 0 ∧ 9223372036854775807 < foldV 0 ds) ∨ 9223372036854775808 < foldV 0 ds then none
  else some (1, if a = 1 then -(foldV 0 ds : Int) else foldV 0 ds, [], a + ds.length)
theorem mag_ok (ds : List UInt8) (hne : ds ≠ []) (hd : ∀ c ∈ ds, isDig c = true) (h : foldV 0 ds ≤ 9223372036854775808) : Lib.parseMag ds = .ok (foldV 0 ds) := by
  unfold Lib.parseMag
  rw [if_neg hne, parse_ok _ 0 hd (by omega)]
theorem mag_inv (ds : List UInt8) (u : Nat) (h : Lib.parseMag ds = .ok u) : u = foldV 0 ds := by
  unfold Lib.parseMag at h
  by_cases hne : ds = []
  · rw [if_pos hne] at h; cases h
  · rw [if_neg hne] at h
    exact (parse_inv ds 0 u (by omega) h).2.1
theorem rn_plain (ds : List UInt8) (hne : ds ≠ []) (hd : ∀ c ∈ ds, isDig c = true) : rnL ds = refN 0 ds := by
  cases hds : ds with
  | nil => exact absurd hds hne
  | cons c r =>
    rw [hds] at hne hd
    have hc := hd c (by simp)
    by_cases big : foldV 0 (c :: r) ≤ 9223372036854775807
    · rw [rnL_ok (atoi_pos_ok c r hc _ (mag_ok _ hne hd (by omega)) big), Lib.itoa_nonneg]
      unfold refN
      by_cases hh : ((c :: r).getD 0 0).toNat = 48 ∧ 1 < 0 + (c :: r).length
      · rw [if_pos hh, if_neg (dec_canon_inv _ ⟨hh.1, by omega⟩ _)]
      · rw [if_neg hh, if_pos (dec_canon _ hne hd (fun h => hh ⟨h.1, by omega⟩))]
        have hl : ¬ 19 < (c :: r).length := fun h => by
          have := foldV_big _ hd (fun e => hh ⟨e, by omega⟩) h
          omega
        rw [if_neg hl, if_neg (by omega)]
        simp
    · rw [rnL_err (atoi_pos_err c r hc (fun u h => by have := mag_inv _ u h; omega))]
      unfold refN
      split
      · rfl
      · split
        · rfl
        · rw [if_pos (Or.inl ⟨rfl, by omega⟩)]
theorem itoa_neg0 (ds : List UInt8) : Lib.itoa 0 ≠ 45 :: ds := by
  have e : Lib.itoa 0 = [48] := by
    unfold Lib.itoa
    rw [if_neg (by omega), Lib.decDigits, dif_pos (by simp)]; rfl
  rw [e]; simp
theorem foldV_zero (ds : List UInt8) (hne : ds ≠ []) (hd : ∀ c ∈ ds, isDig c = true) (h : foldV 0 ds = 0) : (ds.getD 0 0).toNat = 48 := by
  cases ds with
  | nil => exact absurd rfl hne
  | cons c l =>
    have hc := (isDig_iff c).1 (hd c (by simp))
    rw [foldV_cons] at h
    have := foldV_le l (0 * 10 + (c.toNat - 48))
    simp only [List.getD_cons_zero]
    omega
theorem rn_neg (ds : List UInt8) (hne : ds ≠ []) (hd : ∀ c ∈ ds, isDig c = true) : rnL (45 :: ds) = refN 1 ds := by
  have hpos := List.length_pos_iff.2 hne
  by_cases big : foldV 0 ds ≤ 9223372036854775808
  · rw [rnL_ok (atoi_neg_ok ds _ (mag_ok _ hne hd big) big)]
    unfold refN
    by_cases z : foldV 0 ds = 0
    · have h48 := foldV_zero ds hne hd z
      rw [z, if_neg (by simpa using itoa_neg0 ds), if_pos ⟨h48, by omega⟩]
    · rw [Lib.itoa_neg _ (by omega)]
      by_cases hh : (ds.getD 0 0).toNat = 48 ∧ 1 < 1 + ds.length
      · rw [if_pos hh]
        by_cases h1 : 1 < ds.length
        · rw [if_neg (fun e => dec_canon_inv ds ⟨hh.1, h1⟩ (foldV 0 ds) (by injection e))]
        · exfalso
          apply z
          match ds, h1, hne, hh with
          | [], _, hne, _ => exact absurd rfl hne
          | [c], _, _, hh =>
            simp only [List.getD_cons_zero] at hh
            rw [foldV_cons, foldV_nil]; omega
          | _ :: _ :: _, h1, _, _ => simp at h1
      · rw [if_neg hh, if_pos (by rw [dec_canon _ hne hd (fun h => hh ⟨h.1, by omega⟩)])]
        have hl : ¬ 19 < ds.length := fun h => by
          have := foldV_big _ hd (fun e => hh ⟨e, by omega⟩) h
          omega
        rw [if_neg hl, if_neg (by omega)]
        simp; omega
  · rw [rnL_err (atoi_neg_err ds (fun u h => by have := mag_inv _ u h; omega))]
    unfold refN
    split
    · rfl
    · split
      · rfl
      · rw [if_pos (Or.inr (by omega))]
end Go.Proofs.YtlmdcaemjaldfaaGreatDoor
namespace Go.Proofs.YtlmdcaemjaldfaaGreatDoor
open Go.RowKit
theorem below_of_grown {w w' : World} {b : Nat} (h : w.grownBy w' (some b)) {B : Nat} (hB : B ≤ b) (hw : B ≤ w.heap.size) : Below B w w' :=
  ⟨h.os, h.tape, h.output, h.size, fun i hi => h.block i (by omega) (by intro e; injection e; omega)⟩
structure Rdr (w : World) (b : Nat) (l : List UInt8) : Prop where
  env : Env w
  six : 6 ≤ b
  rd : RdL w b l
theorem Rdr.lt {w : World} {b : Nat} {l : List UInt8} (h : Rdr w b l) : b < w.heap.size := h.rd.lt
theorem Rdr.grown {w w' : World} {b : Nat} {l r : List UInt8} (h : Rdr w b l) (hg : w.grownBy w' (some b)) (hr : RdL w' b r) : Rdr w' b r :=
  ⟨h.env.below h.six (below_of_grown hg (Nat.le_refl _) (Nat.le_of_lt h.rd.lt)), h.six, hr⟩
theorem Rdr.on {w w' : World} {b : Nat} {l : List UInt8} (h : Rdr w b l) (hb : Below w.heap.size w w') : Rdr w' b l := ⟨h.env.on hb, h.six, h.rd.on hb⟩
def vVal (v : Va) : Value := .agg #[.int .i64 v.1, .int .i64 v.2.1, .string v.2.2]
theorem read_list (l : List UInt8) (w : World) (hE : Env w) (hs : l.length ≤ 1048576) :
    Calls Tryz.prog 79 #[.string (bs l)] w fun e w' => e = .returned (retR (readL l)) ∧ Below w.heap.size w w' := by
  have := read_any (bs l) w hE (by rw [bs_size]; exact hs)
  rw [bs_list] at this
  exact this
def vObj (v : Va) : Obj := .cells #[.int .i64 v.1, .int .i64 v.2.1, .string v.2.2] 40 (0, 0)
theorem infoV : (Tryz.prog.info? 40).map (·.size) = some 3 := by kernel_rfl
theorem readL_long {l : List UInt8} {k n : Int} {s : List UInt8} {j : Nat} (h : readL l = some (k, n, s, j)) : 1 ≤ j ∧ j ≤ l.length := by
  unfold readL at h
  split at h
  · cases h
  · rename_i h0
    split at h
    · obtain ⟨t, rest, e1, _, e2⟩ := rs_inv _ _ _ _ _ (by simp) h
      have hl := congrArg List.length e1
      rw [List.length_drop, List.length_append, List.length_cons] at hl
      injection e2 with _ e2
      injection e2 with _ e2
      injection e2 with _ e2
      omega
    · split at h
      · rename_i hn
        unfold rnL at h
        split at h
        · split at h
          · injection h with h
            injection h with _ h
            injection h with _ h
            injection h with _ h
            have := numEnd_le l
            rw [List.length_take] at h
            omega
          · cases h
        · cases h
      · split at h
        · injection h with h
          injection h with _ h
          injection h with _ h
          injection h with _ h
          omega
        · cases h
theorem valL_len {l r : List UInt8} {v : Va} (h : valL l = some (v, r)) : r.length < l.length := by
  unfold valL at h
  split at h
  · cases h
  · rename_i k n s j e
    obtain ⟨h1, h2⟩ := readL_long e
    injection h with h
    injection h with _ h
    rw [← h, List.length_drop]
    omega
end Go.Proofs.YtlmdcaemjaldfaaGreatDoor
namespace Go.Proofs.YtlmdcaemjaldfaaGreatDoor
open Go.RowKit
def evVal (e : EvV) : Value := .agg #[.int .i64 e.v0.1, .int .i64 e.v0.2.1, .string e.v0.2.2, .int .i64 e.v1.1, .int .i64 e.v1.2.1, .string e.v1.2.2, .int .i64 e.v2.1, .int .i64 e.v2.2.1, .string e.v2.2.2, .int .i64 e.v3.1, .int .i64 e.v3.2.1, .string e.v3.2.2]
def evFit (e : EvV) : Prop := e.v0.2.2.size ≤ maxLen ∧ e.v1.2.2.size ≤ maxLen ∧ e.v2.2.2.size ≤ maxLen ∧ e.v3.2.2.size ≤ maxLen
theorem evCells {w : World} {g : Nat} {t : TypeId} {x0 x1 x2 x3 x4 x5 x6 x7 x8 x9 x10 x11 : Value} (h : w.heap[g]? = some (.cells #[x0, x1, x2, x3, x4, x5, x6, x7, x8, x9, x10, x11] t (0, 0))) : w.cell? ⟨g, 0, none⟩ = some x0 ∧ w.cell? ⟨g, 1, none⟩ = some x1 ∧ w.cell? ⟨g, 2, none⟩ = some x2 ∧ w.cell? ⟨g, 3, none⟩ = some x3 ∧ w.cell? ⟨g, 4, none⟩ = some x4 ∧ w.cell? ⟨g, 5, none⟩ = some x5 ∧ w.cell? ⟨g, 6, none⟩ = some x6 ∧ w.cell? ⟨g, 7, none⟩ = some x7 ∧ w.cell? ⟨g, 8, none⟩ = some x8 ∧ w.cell? ⟨g, 9, none⟩ = some x9 ∧ w.cell? ⟨g, 10, none⟩ = some x10 ∧ w.cell? ⟨g, 11, none⟩ = some x11 :=
  ⟨cell_heap h 0, cell_heap h 1, cell_heap h 2, cell_heap h 3, cell_heap h 4, cell_heap h 5, cell_heap h 6, cell_heap h 7, cell_heap h 8, cell_heap h 9, cell_heap h 10, cell_heap h 11⟩
set_option maxHeartbeats 4000000 in
set_option maxRecDepth 100000 in
theorem refEvent_any (e : EvV) (w : World) (hf : evFit e) :
    Calls Tryz.prog 13 #[evVal e] w fun r w' => r = .returned (.bool (rightE e)) ∧ Below w.heap.size w w' := by
  unfold evVal
  have HR : Hid (rightE e = (((rightB e.v0.1 e.v0.2.1 e.v0.2.2 && rightB e.v1.1 e.v1.2.1 e.v1.2.2) && rightB e.v2.1 e.v2.2.1 e.v2.2.2) && rightB e.v3.1 e.v3.2.1 e.v3.2.2)) := hide rfl
  have R0 := fun (W : World) => hide (refRight_any e.v0.1 e.v0.2.1 e.v0.2.2 W hf.1)
  have R1 := fun (W : World) => hide (refRight_any e.v1.1 e.v1.2.1 e.v1.2.2 W hf.2.1)
  have R2 := fun (W : World) => hide (refRight_any e.v2.1 e.v2.2.1 e.v2.2.2 W hf.2.2.1)
  have R3 := fun (W : World) => hide (refRight_any e.v3.1 e.v3.2.1 e.v3.2.2 W hf.2.2.2)
  generalize rightB e.v0.1 e.v0.2.1 e.v0.2.2 = q0 at HR R0
  generalize rightB e.v1.1 e.v1.2.1 e.v1.2.2 = q1 at HR R1
  generalize rightB e.v2.1 e.v2.2.1 e.v2.2.2 = q2 at HR R2
  generalize rightB e.v3.1 e.v3.2.1 e.v3.2.2 = q3 at HR R3
  have B0 := hide ((Below.refl _ w).alloc (Nat.le_refl _) (Obj.cells #[.int .i64 e.v0.1, .int .i64 e.v0.2.1, .string e.v0.2.2, .int .i64 e.v1.1, .int .i64 e.v1.2.1, .string e.v1.2.2, .int .i64 e.v2.1, .int .i64 e.v2.2.1, .string e.v2.2.2, .int .i64 e.v3.1, .int .i64 e.v3.2.1, .string e.v3.2.2] 42))
  have E0 := hide (heap_new w (Obj.cells #[.int .i64 e.v0.1, .int .i64 e.v0.2.1, .string e.v0.2.2, .int .i64 e.v1.1, .int .i64 e.v1.2.1, .string e.v1.2.2, .int .i64 e.v2.1, .int .i64 e.v2.2.1, .string e.v2.2.2, .int .i64 e.v3.1, .int .i64 e.v3.2.1, .string e.v3.2.2] 42))
  clear hf
  go_enter Tryz.func13, Tryz.ntmps13
  go_wp2
  go_loopw [3] (fun i wr => ∃ k : Int, i = .int .i64 k ∧ (k = 0 ∨ (k = 1 ∧ Hid (q0 = true)) ∨ (k = 2 ∧ Hid (q0 = true ∧ q1 = true)) ∨ (k = 3 ∧ Hid (q0 = true ∧ q1 = true ∧ q2 = true)) ∨ (k = 4 ∧ Hid (rightE e = true))) ∧ Hid (wr.heap[w.heap.size]? = some (.cells #[.int .i64 e.v0.1, .int .i64 e.v0.2.1, .string e.v0.2.2, .int .i64 e.v1.1, .int .i64 e.v1.2.1, .string e.v1.2.2, .int .i64 e.v2.1, .int .i64 e.v2.2.1, .string e.v2.2.2, .int .i64 e.v3.1, .int .i64 e.v3.2.1, .string e.v3.2.2] 42 (0, 0))) ∧ Hid (Below w.heap.size w wr)) (fun i _ => 4 - (intOf i).toNat)
  case atStart => exact ⟨0, rfl, Or.inl rfl, E0, B0⟩
  case round =>
    clear E0 B0
    obtain ⟨k, rfl, hk, HE, HB⟩ := hrel
    obtain ⟨c0, c1, c2, c3, c4, c5, c6, c7, c8, c9, c10, c11⟩ := evCells HE.out
    rcases hk with rfl | ⟨rfl, HP⟩ | ⟨rfl, HP⟩ | ⟨rfl, HP⟩ | ⟨rfl, HP⟩
    · have X := R0 wr
      go_wp2_with fail
      refine (unhide X).mono ?_
      rintro r w2 ⟨rfl, b2⟩
      have HE2 := hide ((b2.block _ (lt_heap HE.out)).trans HE.out)
      have HB2 := hide (HB.out.trans (b2.mono HB.out.size))
      clear X R0 R1 R2 R3 b2
      cases hr : q0
      · have HF : Hid (rightE e = false) := hide (by rw [HR.out, hr]; simp)
        go_wp2
        go_ret
        exact ⟨ret_bool HF.out.symm, HB2.out⟩
      · go_wp2
        exact ⟨⟨1, rfl, Or.inr (Or.inl ⟨rfl, hide hr⟩), HE2, HB2⟩, by simp [intOf]⟩
    · have X := R1 wr
      go_wp2_with fail
      refine (unhide X).mono ?_
      rintro r w2 ⟨rfl, b2⟩
      have HE2 := hide ((b2.block _ (lt_heap HE.out)).trans HE.out)
      have HB2 := hide (HB.out.trans (b2.mono HB.out.size))
      clear X R0 R1 R2 R3 b2
      cases hr : q1
      · have HF : Hid (rightE e = false) := hide (by rw [HR.out, hr]; simp)
        go_wp2
        go_ret
        exact ⟨ret_bool HF.out.symm, HB2.out⟩
      · go_wp2
        exact ⟨⟨2, rfl, Or.inr (Or.inr (Or.inl ⟨rfl, hide ⟨HP.out, hr⟩⟩)), HE2, HB2⟩, by simp [intOf]⟩
    · have X := R2 wr
      go_wp2_with fail
      refine (unhide X).mono ?_
      rintro r w2 ⟨rfl, b2⟩
      have HE2 := hide ((b2.block _ (lt_heap HE.out)).trans HE.out)
      have HB2 := hide (HB.out.trans (b2.mono HB.out.size))
      clear X R0 R1 R2 R3 b2
      cases hr : q2
      · have HF : Hid (rightE e = false) := hide (by rw [HR.out, hr]; simp)
        go_wp2
        go_ret
        exact ⟨ret_bool HF.out.symm, HB2.out⟩
      · go_wp2
        exact ⟨⟨3, rfl, Or.inr (Or.inr (Or.inr (Or.inl ⟨rfl, hide ⟨HP.out.1, HP.out.2, hr⟩⟩))), HE2, HB2⟩, by simp [intOf]⟩
    · have X := R3 wr
      go_wp2_with fail
      refine (unhide X).mono ?_
      rintro r w2 ⟨rfl, b2⟩
      have HE2 := hide ((b2.block _ (lt_heap HE.out)).trans HE.out)
      have HB2 := hide (HB.out.trans (b2.mono HB.out.size))
      clear X R0 R1 R2 R3 b2
      cases hr : q3
      · have HF : Hid (rightE e = false) := hide (by rw [HR.out, hr]; simp)
        go_wp2
        go_ret
        exact ⟨ret_bool HF.out.symm, HB2.out⟩
      · go_wp2
        exact ⟨⟨4, rfl, Or.inr (Or.inr (Or.inr (Or.inr ⟨rfl, hide (by rw [HR.out, HP.out.1, HP.out.2.1, HP.out.2.2, hr]; rfl)⟩))), HE2, HB2⟩, by simp [intOf]⟩
    · go_wp2
      go_ret
      exact ⟨ret_bool HP.out.symm, HB.out⟩
def EvIn (w : World) (g : Nat) (e : EvV) : Prop := w.heap[g]? = some (.cells #[.int .i64 e.v0.1, .int .i64 e.v0.2.1, .string e.v0.2.2, .int .i64 e.v1.1, .int .i64 e.v1.2.1, .string e.v1.2.2, .int .i64 e.v2.1, .int .i64 e.v2.2.1, .string e.v2.2.2, .int .i64 e.v3.1, .int .i64 e.v3.2.1, .string e.v3.2.2] 42 (0, 0))
theorem EvIn.on {w w' : World} {g : Nat} {e : EvV} (h : EvIn w g e) (hb : Below w.heap.size w w') : EvIn w' g e := (hb.block _ (lt_heap h)).trans h
end Go.Proofs.YtlmdcaemjaldfaaGreatDoor
namespace Go.Proofs.YtlmdcaemjaldfaaGreatDoor
open Go.RowKit
set_option maxHeartbeats 400000 in
theorem valRight_any (k n : Int) (s : ByteArray) (w : World) (_hs : s.size ≤ maxLen) :
    Calls Tryz.prog 57 #[.agg #[.int .i64 k, .int .i64 n, .string s]] w fun e w' => e = .returned (.bool (rightB k n s)) ∧ Below w.heap.size w w' := by
  unfold maxLen at _hs
  by_cases k0 : k = 0
  · subst k0
    by_cases hn : n = 0
    · subst hn
      go_enter Tryz.func57, Tryz.ntmps57
      go_wp2
      go_ret
      exact ⟨ret_bool (by simp [rightB]), (Below.refl _ _).alloc (Nat.le_refl _) _⟩
    · have hn' : (n == 0) = false := by simp [hn]
      go_enter Tryz.func57, Tryz.ntmps57
      go_wp2
      go_ret
      exact ⟨ret_bool (by simp [rightB, hn]), (Below.refl _ _).alloc (Nat.le_refl _) _⟩
  have k0' : (k == 0) = false := by simp [k0]
  by_cases k1 : k = 1
  · subst k1
    go_enter Tryz.func57, Tryz.ntmps57
    go_wp2
    go_ret
    exact ⟨ret_bool (by simp [rightB]), (Below.refl _ _).alloc (Nat.le_refl _) _⟩
  have k1' : (k == 1) = false := by simp [k1]
  by_cases k2 : k = 2
  · subst k2
    by_cases hn : n = 0
    · subst hn
      go_enter Tryz.func57, Tryz.ntmps57
      go_wp2
      go_ret
      exact ⟨ret_bool (by simp [rightB]), (Below.refl _ _).alloc (Nat.le_refl _) _⟩
    · have hn' : (n == 0) = false := by simp [hn]
      go_enter Tryz.func57, Tryz.ntmps57
      go_wp2
      go_ret
      exact ⟨ret_bool (by simp [rightB, hn]), (Below.refl _ _).alloc (Nat.le_refl _) _⟩
  have k2' : (k == 2) = false := by simp [k2]
  go_enter Tryz.func57, Tryz.ntmps57
  go_wp2
  go_ret
  exact ⟨ret_bool (by simp [rightB, k0, k1, k2]), (Below.refl _ _).alloc (Nat.le_refl _) _⟩
set_option maxHeartbeats 1000000 in
set_option maxRecDepth 100000 in
theorem apart_any (a b : Rg) (w : World) (h0 : -9223372036854775808 ≤ b.1) (h1 : b.1 ≤ 9223372036854775807) (h2 : -9223372036854775808 ≤ a.2) :
    Calls Tryz.prog 103 #[.agg #[.int .i64 a.1, .int .i64 a.2], .agg #[.int .i64 b.1, .int .i64 b.2]] w fun r w' => r = .returned (.bool (decide (a.2 + 1 < b.1))) ∧ Below w.heap.size w w' := by
  have ba := fun (o1 o2 : Obj) => hide (two_boxes w o1 o2)
  by_cases h : a.2 < b.1
  · have hw : IntKind.i64.wrap (b.1 - 1) = b.1 - 1 := by rw [IntKind.wrap_i64]; omega
    go_enter Tryz.func103, Tryz.ntmps103
    go_wp2
    go_ret
    exact ⟨ret_bool (by rw [decide_eq_decide]; omega), (ba _ _).out.2.2⟩
  · go_enter Tryz.func103, Tryz.ntmps103
    go_wp2
    go_ret
    exact ⟨ret_bool (by symm; rw [decide_eq_false_iff_not]; omega), (ba _ _).out.2.2⟩
end Go.Proofs.YtlmdcaemjaldfaaGreatDoor
namespace Go.Proofs.YtlmdcaemjaldfaaGreatDoor
open Go.RowKit
set_option maxRecDepth 100000 in
theorem run_ev0 (w : World) (e : EvV) : (Instr.index 42 (.agg #[.int .i64 e.v0.1, .int .i64 e.v0.2.1, .string e.v0.2.2, .int .i64 e.v1.1, .int .i64 e.v1.2.1, .string e.v1.2.2, .int .i64 e.v2.1, .int .i64 e.v2.2.1, .string e.v2.2.2, .int .i64 e.v3.1, .int .i64 e.v3.2.1, .string e.v3.2.2]) (.int .i64 0)).run Tryz.prog w = .ok (.agg #[.int .i64 e.v0.1, .int .i64 e.v0.2.1, .string e.v0.2.2]) w := by
  simp [Instr.index, run_underlying Tryz.underlying42, asIntOf, go_sem, part]
set_option maxRecDepth 100000 in
theorem run_ev1 (w : World) (e : EvV) : (Instr.index 42 (.agg #[.int .i64 e.v0.1, .int .i64 e.v0.2.1, .string e.v0.2.2, .int .i64 e.v1.1, .int .i64 e.v1.2.1, .string e.v1.2.2, .int .i64 e.v2.1, .int .i64 e.v2.2.1, .string e.v2.2.2, .int .i64 e.v3.1, .int .i64 e.v3.2.1, .string e.v3.2.2]) (.int .i64 1)).run Tryz.prog w = .ok (.agg #[.int .i64 e.v1.1, .int .i64 e.v1.2.1, .string e.v1.2.2]) w := by
  simp [Instr.index, run_underlying Tryz.underlying42, asIntOf, go_sem, part]
set_option maxRecDepth 100000 in
theorem run_ev2 (w : World) (e : EvV) : (Instr.index 42 (.agg #[.int .i64 e.v0.1, .int .i64 e.v0.2.1, .string e.v0.2.2, .int .i64 e.v1.1, .int .i64 e.v1.2.1, .string e.v1.2.2, .int .i64 e.v2.1, .int .i64 e.v2.2.1, .string e.v2.2.2, .int .i64 e.v3.1, .int .i64 e.v3.2.1, .string e.v3.2.2]) (.int .i64 2)).run Tryz.prog w = .ok (.agg #[.int .i64 e.v2.1, .int .i64 e.v2.2.1, .string e.v2.2.2]) w := by
  simp [Instr.index, run_underlying Tryz.underlying42, asIntOf, go_sem, part]
set_option maxRecDepth 100000 in
theorem run_ev3 (w : World) (e : EvV) : (Instr.index 42 (.agg #[.int .i64 e.v0.1, .int .i64 e.v0.2.1, .string e.v0.2.2, .int .i64 e.v1.1, .int .i64 e.v1.2.1, .string e.v1.2.2, .int .i64 e.v2.1, .int .i64 e.v2.2.1, .string e.v2.2.2, .int .i64 e.v3.1, .int .i64 e.v3.2.1, .string e.v3.2.2]) (.int .i64 3)).run Tryz.prog w = .ok (.agg #[.int .i64 e.v3.1, .int .i64 e.v3.2.1, .string e.v3.2.2]) w := by
  simp [Instr.index, run_underlying Tryz.underlying42, asIntOf, go_sem, part]
set_option maxHeartbeats 4000000 in
set_option maxRecDepth 100000 in
theorem event_any (e : EvV) (w : World) (hf : evFit e) :
    Calls Tryz.prog 30 #[evVal e] w fun r w' => r = .returned (.bool (rightE e)) ∧ Below w.heap.size w w' := by
  unfold evVal
  have HR : Hid (rightE e = (((rightB e.v0.1 e.v0.2.1 e.v0.2.2 && rightB e.v1.1 e.v1.2.1 e.v1.2.2) && rightB e.v2.1 e.v2.2.1 e.v2.2.2) && rightB e.v3.1 e.v3.2.1 e.v3.2.2)) := hide rfl
  have R0 := fun (W : World) => hide (valRight_any e.v0.1 e.v0.2.1 e.v0.2.2 W hf.1)
  have R1 := fun (W : World) => hide (valRight_any e.v1.1 e.v1.2.1 e.v1.2.2 W hf.2.1)
  have R2 := fun (W : World) => hide (valRight_any e.v2.1 e.v2.2.1 e.v2.2.2 W hf.2.2.1)
  have R3 := fun (W : World) => hide (valRight_any e.v3.1 e.v3.2.1 e.v3.2.2 W hf.2.2.2)
  generalize rightB e.v0.1 e.v0.2.1 e.v0.2.2 = q0 at HR R0
  generalize rightB e.v1.1 e.v1.2.1 e.v1.2.2 = q1 at HR R1
  generalize rightB e.v2.1 e.v2.2.1 e.v2.2.2 = q2 at HR R2
  generalize rightB e.v3.1 e.v3.2.1 e.v3.2.2 = q3 at HR R3
  have B0 := hide ((Below.refl _ w).alloc (Nat.le_refl _) (Obj.cells #[.int .i64 e.v0.1, .int .i64 e.v0.2.1, .string e.v0.2.2, .int .i64 e.v1.1, .int .i64 e.v1.2.1, .string e.v1.2.2, .int .i64 e.v2.1, .int .i64 e.v2.2.1, .string e.v2.2.2, .int .i64 e.v3.1, .int .i64 e.v3.2.1, .string e.v3.2.2] 42))
  clear hf
  go_enter Tryz.func30, Tryz.ntmps30
  go_wp2
  go_loopw [6] (fun i wr => ∃ k : Int, i = .int .i64 k ∧ (k = 0 ∨ (k = 1 ∧ Hid (q0 = true)) ∨ (k = 2 ∧ Hid (q0 = true ∧ q1 = true)) ∨ (k = 3 ∧ Hid (q0 = true ∧ q1 = true ∧ q2 = true)) ∨ (k = 4 ∧ Hid (rightE e = true))) ∧ Hid (Below w.heap.size w wr)) (fun i _ => (4 - intOf i).toNat)
  case atStart => exact ⟨0, rfl, Or.inl rfl, B0⟩
  case round =>
    clear B0
    obtain ⟨k, rfl, hk, HB⟩ := hrel
    rcases hk with rfl | ⟨rfl, HP⟩ | ⟨rfl, HP⟩ | ⟨rfl, HP⟩ | ⟨rfl, HP⟩
    · have X := R0 (wr.alloc (Obj.cells #[.int .i64 e.v0.1, .int .i64 e.v0.2.1, .string e.v0.2.2] 40))
      have B1 := hide (HB.out.alloc HB.out.size (Obj.cells #[.int .i64 e.v0.1, .int .i64 e.v0.2.1, .string e.v0.2.2] 40))
      have RX := run_ev0 wr e
      clear R0 R1 R2 R3
      go_wp2_with fail
      refine (unhide X).mono ?_
      rintro r w2 ⟨rfl, b2⟩
      have B2 := hide (B1.out.trans (b2.mono B1.out.size))
      clear X b2 B1
      cases hr : q0
      · have HF : Hid (rightE e = false) := hide (by rw [HR.out, hr]; simp)
        go_wp2
        go_ret
        exact ⟨ret_bool HF.out.symm, B2.out⟩
      · go_wp2
        exact ⟨⟨1, rfl, Or.inr (Or.inl ⟨rfl, hide hr⟩), B2⟩, by simp [intOf]⟩
    · have X := R1 (wr.alloc (Obj.cells #[.int .i64 e.v1.1, .int .i64 e.v1.2.1, .string e.v1.2.2] 40))
      have B1 := hide (HB.out.alloc HB.out.size (Obj.cells #[.int .i64 e.v1.1, .int .i64 e.v1.2.1, .string e.v1.2.2] 40))
      have RX := run_ev1 wr e
      clear R0 R1 R2 R3
      go_wp2_with fail
      refine (unhide X).mono ?_
      rintro r w2 ⟨rfl, b2⟩
      have B2 := hide (B1.out.trans (b2.mono B1.out.size))
      clear X b2 B1
      cases hr : q1
      · have HF : Hid (rightE e = false) := hide (by rw [HR.out, hr]; simp)
        go_wp2
        go_ret
        exact ⟨ret_bool HF.out.symm, B2.out⟩
      · go_wp2
        exact ⟨⟨2, rfl, Or.inr (Or.inr (Or.inl ⟨rfl, hide ⟨HP.out, hr⟩⟩)), B2⟩, by simp [intOf]⟩
    · have X := R2 (wr.alloc (Obj.cells #[.int .i64 e.v2.1, .int .i64 e.v2.2.1, .string e.v2.2.2] 40))
      have B1 := hide (HB.out.alloc HB.out.size (Obj.cells #[.int .i64 e.v2.1, .int .i64 e.v2.2.1, .string e.v2.2.2] 40))
      have RX := run_ev2 wr e
      clear R0 R1 R2 R3
      go_wp2_with fail
      refine (unhide X).mono ?_
      rintro r w2 ⟨rfl, b2⟩
      have B2 := hide (B1.out.trans (b2.mono B1.out.size))
      clear X b2 B1
      cases hr : q2
      · have HF : Hid (rightE e = false) := hide (by rw [HR.out, hr]; simp)
        go_wp2
        go_ret
        exact ⟨ret_bool HF.out.symm, B2.out⟩
      · go_wp2
        exact ⟨⟨3, rfl, Or.inr (Or.inr (Or.inr (Or.inl ⟨rfl, hide ⟨HP.out.1, HP.out.2, hr⟩⟩))), B2⟩, by simp [intOf]⟩
    · have X := R3 (wr.alloc (Obj.cells #[.int .i64 e.v3.1, .int .i64 e.v3.2.1, .string e.v3.2.2] 40))
      have B1 := hide (HB.out.alloc HB.out.size (Obj.cells #[.int .i64 e.v3.1, .int .i64 e.v3.2.1, .string e.v3.2.2] 40))
      have RX := run_ev3 wr e
      clear R0 R1 R2 R3
      go_wp2_with fail
      refine (unhide X).mono ?_
      rintro r w2 ⟨rfl, b2⟩
      have B2 := hide (B1.out.trans (b2.mono B1.out.size))
      clear X b2 B1
      cases hr : q3
      · have HF : Hid (rightE e = false) := hide (by rw [HR.out, hr]; simp)
        go_wp2
        go_ret
        exact ⟨ret_bool HF.out.symm, B2.out⟩
      · go_wp2
        exact ⟨⟨4, rfl, Or.inr (Or.inr (Or.inr (Or.inr ⟨rfl, hide (by rw [HR.out, HP.out.1, HP.out.2.1, HP.out.2.2, hr]; rfl)⟩))), B2⟩, by simp [intOf]⟩
    · go_wp2
      go_ret
      exact ⟨ret_bool HP.out.symm, HB.out⟩
theorem evFit_get {e : EvV} (h : evFit e) (i : Nat) (hi : i < 4) : (e.get i).2.2.size ≤ maxLen := by
  match i, hi with
  | 0, _ => exact h.1
  | 1, _ => exact h.2.1
  | 2, _ => exact h.2.2.1
  | 3, _ => exact h.2.2.2
end Go.Proofs.YtlmdcaemjaldfaaGreatDoor
namespace Go.Proofs.YtlmdcaemjaldfaaGreatDoor
open Go.RowKit
structure SC where
  a : Bool
  p : Option Addr
  n : Nat
  c : Nat
  d : Bool
  q : Option Addr
  m : Nat
  e : Nat
def SC.val (s : SC) : Value := .agg #[.bool s.a, .slice s.p s.n s.c, .bool s.d, .slice s.q s.m s.e]
def SC.zero : SC := ⟨false, none, 0, 0, false, none, 0, 0⟩
theorem SetAt.sc {w : World} {v : Value} {S : SetV} (h : SetAt w v S) : ∃ s : SC, v = s.val := by
  obtain ⟨vi, vs, rfl, hI, hS⟩ := h
  obtain ⟨ai, ci, rfl⟩ := hI.form
  obtain ⟨aq, cq, rfl⟩ := hS.form
  exact ⟨⟨_, _, _, _, _, _, _, _⟩, rfl⟩
def StIn (w : World) (g : Nat) (s : SC) : Prop := w.heap[g]? = some (.cells #[.bool s.a, .slice s.p s.n s.c, .bool s.d, .slice s.q s.m s.e] 26 (0, 0))
theorem StIn.on {w w' : World} {g : Nat} {s : SC} (h : StIn w g s) (hb : Below w.heap.size w w') : StIn w' g s := (hb.block _ (lt_heap h)).trans h
theorem StIn.cells {w : World} {g : Nat} {s : SC} (h : StIn w g s) : w.cell? ⟨g, 0, none⟩ = some (.bool s.a) ∧ w.cell? ⟨g, 1, none⟩ = some (.slice s.p s.n s.c) ∧ w.cell? ⟨g, 2, none⟩ = some (.bool s.d) ∧ w.cell? ⟨g, 3, none⟩ = some (.slice s.q s.m s.e) := setCells h
end Go.Proofs.YtlmdcaemjaldfaaGreatDoor
namespace Go.Proofs.YtlmdcaemjaldfaaGreatDoor
open Go.Deep Go.ChangeShapes Go.WideShapes Go.ChangeAt Go.WideMaps Go.WideElems Go.RowKit Go.Joins
structure EC where
  k : Int
  t : Int
  s : SC
  p : Option Addr
  n : Nat
  c : Nat
def EC.val (x : EC) : Value := .agg #[.int .i64 x.k, .int .i64 x.t, .bool x.s.a, .slice x.s.p x.s.n x.s.c, .bool x.s.d, .slice x.s.q x.s.m x.s.e, .slice x.p x.n x.c]
def noX : ExV := ⟨0, 0, noSet, []⟩
structure EcAt (w : World) (g o : Nat) (x : EC) : Prop where
  c0 : w.cell? ⟨g, o, none⟩ = some (.int .i64 x.k)
  c1 : w.cell? ⟨g, o + 1, none⟩ = some (.int .i64 x.t)
  c2 : w.cell? ⟨g, o + 2, none⟩ = some (.bool x.s.a)
  c3 : w.cell? ⟨g, o + 3, none⟩ = some (.slice x.s.p x.s.n x.s.c)
  c4 : w.cell? ⟨g, o + 4, none⟩ = some (.bool x.s.d)
  c5 : w.cell? ⟨g, o + 5, none⟩ = some (.slice x.s.q x.s.m x.s.e)
  c6 : w.cell? ⟨g, o + 6, none⟩ = some (.slice x.p x.n x.c)
theorem EcAt.on {w w' : World} {g o : Nat} {x : EC} (h : EcAt w g o x) (hg : g < w.heap.size) (hb : Below w.heap.size w w') : EcAt w' g o x :=
  ⟨(hb.cell (p := ⟨g, _, none⟩) hg).trans h.c0, (hb.cell (p := ⟨g, _, none⟩) hg).trans h.c1, (hb.cell (p := ⟨g, _, none⟩) hg).trans h.c2, (hb.cell (p := ⟨g, _, none⟩) hg).trans h.c3, (hb.cell (p := ⟨g, _, none⟩) hg).trans h.c4, (hb.cell (p := ⟨g, _, none⟩) hg).trans h.c5, (hb.cell (p := ⟨g, _, none⟩) hg).trans h.c6⟩
structure EcFor (w : World) (c : EC) (x : ExV) : Prop where
  k : c.k = x.kind
  t : c.t = x.attr
  n : c.n = x.sub.length
  k0 : -9223372036854775808 ≤ c.k
  k1 : c.k ≤ 9223372036854775807
  t0 : -9223372036854775808 ≤ c.t
  t1 : c.t ≤ 9223372036854775807
  s : SetAt w c.s.val x.set
  room : c.n ≤ c.c
  big : c.c ≤ 9223372036854775807
  none : c.p = Option.none → c.n = 0 ∧ c.c = 0
theorem EcFor.on {w w' : World} {c : EC} {x : ExV} (h : EcFor w c x) (hb : Below w.heap.size w w') : EcFor w' c x := ⟨h.k, h.t, h.n, h.k0, h.k1, h.t0, h.t1, h.s.on hb, h.room, h.big, h.none⟩
def ExAt : Nat → World → Value → ExV → Prop
  | 0, _, _, _ => False
  | n + 1, w, v, x => ∃ c : EC, v = c.val ∧ EcFor w c x ∧ ∀ i, i < x.sub.length → ∃ (g off : Nat) (d : EC), c.p = some ⟨g, off, Option.none⟩ ∧ g < w.heap.size ∧ EcAt w g (off + i * 7) d ∧ ExAt n w d.val (x.sub.getD i noX)
theorem ExAt.on {w w' : World} (hb : Below w.heap.size w w') : ∀ (n : Nat) {v : Value} {x : ExV}, ExAt n w v x → ExAt n w' v x
  | 0, _, _, h => by cases h
  | n + 1, v, x, ⟨c, hv, hc, hs⟩ => ⟨c, hv, hc.on hb, fun i hi => by
    obtain ⟨g, off, d, hp, hg, hd, hx⟩ := hs i hi
    exact ⟨g, off, d, hp, Nat.lt_of_lt_of_le hg hb.size, hd.on hg hb, ExAt.on hb n hx⟩⟩
theorem ExAt.more {w : World} : ∀ (n m : Nat) {v : Value} {x : ExV}, n ≤ m → ExAt n w v x → ExAt m w v x
  | 0, _, _, _, _, h => by cases h
  | n + 1, m, v, x, hm, ⟨c, hv, hc, hs⟩ => by
    obtain ⟨k, rfl⟩ : ∃ k, m = k + 1 := ⟨m - 1, by omega⟩
    refine ⟨c, hv, hc, fun i hi => ?_⟩
    obtain ⟨g, off, d, hp, hg, hd, hx⟩ := hs i hi
    exact ⟨g, off, d, hp, hg, hd, ExAt.more n k (by omega) hx⟩
theorem ExAt.ec {w : World} {n : Nat} {v : Value} {x : ExV} (h : ExAt n w v x) : ∃ c : EC, v = c.val ∧ EcFor w c x := by
  cases n with
  | zero => cases h
  | succ n =>
    obtain ⟨c, hv, hc, _⟩ := h
    exact ⟨c, hv, hc⟩
theorem ec_inj {c d : EC} (h : c.val = d.val) : c = d := by
  obtain ⟨k, t, ⟨sa, sp, sn, sc, sd, sq, sm, se⟩, p, n, r⟩ := c
  obtain ⟨k', t', ⟨sa', sp', sn', sc', sd', sq', sm', se'⟩, p', n', r'⟩ := d
  unfold EC.val at h
  simp at h
  obtain ⟨rfl, rfl, rfl, ⟨rfl, rfl, rfl⟩, rfl, ⟨rfl, rfl, rfl⟩, rfl, rfl, rfl⟩ := h
  rfl
theorem ExAt.part {w : World} {n : Nat} {c : EC} {x : ExV} (h : ExAt (n + 1) w c.val x) (i : Nat) (hi : i < x.sub.length) : ∃ (g off : Nat) (d : EC), c.p = some ⟨g, off, Option.none⟩ ∧ g < w.heap.size ∧ EcAt w g (off + i * 7) d ∧ ExAt n w d.val (x.sub.getD i noX) := by
  obtain ⟨c', hv, hc, hs⟩ := h
  have := ec_inj hv
  subst this
  exact hs i hi
theorem getD_mem {l : List ExV} {i : Nat} (h : i < l.length) : l.getD i noX ∈ l := by
  rw [List.getD_eq_getElem?_getD, List.getElem?_eq_getElem h]
  exact List.getElem_mem _
theorem ExAt.low {w : World} : ∀ (n : Nat) {v : Value} {x : ExV}, ExAt n w v x → lowX n x
  | 0, _, _, h => by cases h
  | n + 1, v, x, ⟨c, hv, hc, hs⟩ => fun y hy => by
    obtain ⟨i, hi, rfl⟩ := List.getElem_of_mem hy
    obtain ⟨g, off, d, hp, hg, hd, hx⟩ := hs i hi
    have := ExAt.low n hx
    rwa [List.getD_eq_getElem?_getD, List.getElem?_eq_getElem hi, Option.getD_some] at this
end Go.Proofs.YtlmdcaemjaldfaaGreatDoor
namespace Go.Proofs.YtlmdcaemjaldfaaGreatDoor
open Go.RowKit Go.Shelf
attribute [local go_sem] Oper.semAt_some
def partsX : Nat → Int → ExV → List (Int × ExV)
  | 0, _, _ => []
  | k + 1, D, x => (D, x) :: x.sub.flatMap (partsX k (D + 1))
theorem roomOf_none {F : Fence} (hd : F.depth = none) (k : Nat) : F.room k := fun d h => by rw [hd] at h; cases h
theorem round_anyDepth {F : Fence} (hd : F.depth = none) {m m' : Nat} {P : Program} {l : Nat} {f : FuncId} {tmps : Array Value} {assign body : Code} {w : World} {R : Ending → World → Prop}
    (h : RoundIn F m P l f tmps assign body w R) : RoundIn F m' P l f tmps assign body w R := ⟨h.1, fun c cs _ => h.2 c cs (roomOf_none hd _)⟩
theorem yield_anyDepth {F : Fence} (hd : F.depth = none) {m : Nat} (m' : Nat) {P : Program} {l : Nat} {args : Array Value} {W : World} {R : Ending → World → Prop} (h : YieldAt F m P l args W R) : YieldAt F m' P l args W R := by
  obtain ⟨fn, tmps, assign, body, hy, hR⟩ := h
  exact ⟨fn, tmps, assign, body, hy, round_anyDepth hd hR⟩
structure Kp2 (n₀ n₁ : Nat) (A B : World) : Prop where
  below : Below n₀ A B
  cells : ∀ b o, n₁ ≤ b → A.heap[b]? = some o → o.isCells = true → B.heap[b]? = some o
theorem Kp2.trans {n₀ n₁ : Nat} {A B C : World} (h : Kp2 n₀ n₁ A B) (k : Kp2 n₀ n₁ B C) : Kp2 n₀ n₁ A C :=
  ⟨h.below.trans k.below, fun b o hb ho hc => k.cells b o hb (h.cells b o hb ho hc) hc⟩
theorem Kp2.ofBelow {n₀ n₁ : Nat} {A B : World} (hn : n₀ ≤ A.heap.size) (h : Below A.heap.size A B) : Kp2 n₀ n₁ A B :=
  ⟨h.mono hn, fun b o _ ho _ => (h.block b (Array.getElem?_eq_some_iff.1 ho).1).trans ho⟩
theorem Kp2.refl (n₀ n₁ : Nat) (A : World) : Kp2 n₀ n₁ A A := ⟨Below.refl _ _, fun _ _ _ h _ => h⟩
theorem Kp2.turn {n₀ n₁ : Nat} {w : World} (hn : n₀ ≤ w.heap.size) (W : World) (l : Nat) (o o' : Obj) (hl : w.heap.size ≤ l) (h : W.heap[l]? = some o) (hc : o.isCells = false) (hw : o.isWalk = false) : Kp2 n₀ n₁ W (W.putObj l o') := by
  refine ⟨belowK_b hn W l o o' hl h hc hw, fun b ob hb hob hcb => ?_⟩
  by_cases e : b = l
  · subst e
    rw [h] at hob
    cases hob
    rw [hc] at hcb
    cases hcb
  · have := (grownBy_putObj' W l o')
    have h2 := this.2
    simp only [World.putObj]
    rw [Array.getElem?_setIfInBounds]
    rw [if_neg (fun q => e q.symm)]
    exact hob
theorem ecCells0 {w : World} {g : Nat} {t : TypeId} {x0 x1 x2 x3 x4 x5 x6 : Value} (h : w.heap[g]? = some (.cells #[x0, x1, x2, x3, x4, x5, x6] t (0, 0))) : w.cell? ⟨g, 0, none⟩ = some x0 ∧ w.cell? ⟨g, 1, none⟩ = some x1 ∧ w.cell? ⟨g, 2, none⟩ = some x2 ∧ w.cell? ⟨g, 3, none⟩ = some x3 ∧ w.cell? ⟨g, 4, none⟩ = some x4 ∧ w.cell? ⟨g, 5, none⟩ = some x5 ∧ w.cell? ⟨g, 6, none⟩ = some x6 :=
  ⟨cell_heap h 0, cell_heap h 1, cell_heap h 2, cell_heap h 3, cell_heap h 4, cell_heap h 5, cell_heap h 6⟩
abbrev PartOf (w : World) := { y : Int × EC × ExV // 0 ≤ y.1 ∧ y.1 ≤ 2000 ∧ ∃ k, k ≤ 2000 ∧ ExAt k w y.2.1.val y.2.2 }
def plainOf {w : World} (y : PartOf w) : Int × ExV := (y.1.1, y.1.2.2)
def encOf {w : World} (y : PartOf w) : Array Value := #[.int .i64 y.1.1, y.1.2.1.val]
theorem ExAt.pos {k : Nat} {w : World} {v : Value} {x : ExV} (h : ExAt k w v x) : ∃ m, k = m + 1 := by
  cases k with
  | zero => cases h
  | succ m => exact ⟨m, rfl⟩
theorem parts_take (k : Nat) (D : Int) (x : ExV) (i : Nat) (h : i < x.sub.length) : (x.sub.take (i + 1)).flatMap (partsX k D) = (x.sub.take i).flatMap (partsX k D) ++ partsX k D (x.sub.getD i noX) := by
  rw [List.take_add_one, List.getElem?_eq_getElem h, List.getD_eq_getElem?_getD, List.getElem?_eq_getElem h, List.flatMap_append]
  simp
theorem flat_pre (k : Nat) (D : Int) (l : List ExV) (i : Nat) : (l.take i).flatMap (partsX k D) <+: l.flatMap (partsX k D) := by
  conv => rhs; rw [← List.take_append_drop i l, List.flatMap_append]
  exact List.prefix_append _ _
set_option maxHeartbeats 4000000 in
set_option maxRecDepth 100000 in
theorem visit_in (F : Fence) (hd : F.depth = none) (hv : F.fn 66) (hro : F.round = none) (l n₁ N B : Nat) (w : World) (J Jx : List (PartOf w) → World → Prop)
    (hJ : ∀ s W W', J s W → W.grownBy W' none → J s W')
    (hY : ∀ m pre x W, J pre W → pre.length < N → YieldAt F m Tryz.prog l (encOf x) W fun e W' =>
      (e = .returned (.bool true) ∧ J (pre ++ [x]) W' ∧ Kp2 w.heap.size n₁ W W') ∨ (e = .returned (.bool false) ∧ Jx (pre ++ [x]) W')) :
    ∀ (k n : Nat) (c : EC) (x : ExV) (D : Int) (pre : List (PartOf w)) (W : World), ExAt k w c.val x → Below w.heap.size w W → n₁ ≤ W.heap.size → 0 ≤ D → D + k ≤ 2000 → J pre W → pre.length + (partsX k D x).length ≤ N →
      CallsIn F n Tryz.prog 66 #[.int .i64 D, c.val, .func (.yield l) #[] #[]] W fun e W' =>
        (e = .returned (.bool true) ∧ ∃ ys : List (PartOf w), ys.map plainOf = partsX k D x ∧ J (pre ++ ys) W' ∧ Kp2 w.heap.size n₁ W W') ∨
        (e = .returned (.bool false) ∧ ∃ ys : List (PartOf w), ys.map plainOf <+: partsX k D x ∧ Jx (pre ++ ys) W') := by
  intro k
  induction k with
  | zero => intro n c x D pre W h; cases h
  | succ k ih =>
    intro n c x D pre W hx hB hn hD hDk hJp hN
    have hdd : ∀ k : Nat, (F.depth.isSome = true → 1 ≤ k) := fun k h => by rw [hd] at h; cases h
    obtain ⟨c', hcv, hc, hs⟩ := id hx
    obtain rfl := ec_inj hcv
    obtain ⟨o, ho⟩ : ∃ o, o = Obj.cells #[.int .i64 c.k, .int .i64 c.t, .bool c.s.a, .slice c.s.p c.s.n c.s.c, .bool c.s.d, .slice c.s.q c.s.m c.s.e, .slice c.p c.n c.c] 29 (0, 0) := ⟨_, rfl⟩
    have hB1 : Below w.heap.size w (W.alloc o) := hB.trans ((Below.refl _ W).alloc hB.size o)
    have hJ1 : J pre (W.alloc o) := hJ _ _ _ hJp (World.grownBy_alloc W o none)
    have hK0 : Kp2 w.heap.size n₁ W (W.alloc o) := Kp2.ofBelow hB.size ((Below.refl _ W).alloc (Nat.le_refl _) o)
    have hl1 : 1 ≤ (partsX (k + 1) D x).length := by simp [partsX]
    obtain ⟨y0, hy0, hy1⟩ : ∃ y0 : PartOf w, encOf y0 = #[.int .i64 D, c.val] ∧ plainOf y0 = (D, x) := ⟨⟨(D, c, x), hD, by show D ≤ 2000; omega, k + 1, by omega, hx⟩, rfl, rfl⟩
    have hE1 := heap_new W o
    obtain ⟨fn, tmps, assign, body, hy, hR⟩ := YieldAt.mono (R' := fun e W2 => (e = .returned (.bool true) ∧ J (pre ++ [y0]) W2 ∧ Kp2 w.heap.size n₁ W W2 ∧ Hid (W2.heap[W.heap.size]? = some o) ∧ W2.cell? ⟨W.heap.size, 6, none⟩ = some (.slice c.p c.n c.c)) ∨ (e = .returned (.bool false) ∧ Jx (pre ++ [y0]) W2)) (hY (n - 1) pre y0 (W.alloc o) hJ1 (by omega)) (fun e W2 h => h.elim (fun ⟨he, hj, hk⟩ => .inl ⟨he, hj, hK0.trans hk, hide (hk.cells _ _ hn hE1 (by rw [ho]; rfl)), by
      have := hk.cells _ _ hn hE1 (by rw [ho]; rfl)
      rw [ho] at this
      exact (ecCells0 this).2.2.2.2.2.2⟩) .inr)
    rw [hy0] at hy
    have HS := hide hs
    have HIH := hide ih
    have HHN := hide hN
    have HDK := hide hDk
    have big := hc.big
    have room := hc.room
    have HN := hide hc.n
    have hD2 : D ≤ 2000 := by omega
    clear hs ih hN hc hx hJp hDk
    clear hcv hy0 hl1 hJ1 hE1
    unfold EC.val at hy
    refine callsIn_of_wp Tryz.func66 rfl hv ?_ hro
    simp only [Tryz.ntmps66, List.size_toArray, List.length_cons, List.length_nil, Nat.reduceAdd, Nat.reduceSub, Array.replicate_succ, Array.replicate_zero, List.push_toArray, List.append_toArray, List.nil_append, List.cons_append]
    unfold EC.val
    subst ho
    gi_wp2_with ((try refine ⟨hdd _, ?_⟩); refine hR.mono ?_; clear hR; rintro e W2 (⟨rfl, hJ2, hk2, hE2, c6⟩ | ⟨rfl, hx2⟩))
    · gi_loopw [17] (fun p wr => ∃ (i : Nat) (ys : List (PartOf w)), p = .int .i64 i ∧ i ≤ c.n ∧ Hid (ys.map plainOf = (D, x) :: (x.sub.take i).flatMap (partsX k (D + 1))) ∧ Hid (J (pre ++ ys) wr) ∧ Hid (Kp2 w.heap.size n₁ W wr)) (fun p wr => c.n - (intOf p).toNat)
      case atStart => exact ⟨0, [y0], rfl, by omega, hide (by simp [hy1]), hide hJ2, hide hk2⟩
      case round =>
        obtain ⟨i, ys, rfl, hi, HY, HJ, HK⟩ := hrel
        by_cases hlt : i < c.n
        · have hk' : i < x.sub.length := by rw [← HN.out]; exact hlt
          obtain ⟨g, off, d, hp, hg, hd', hyy⟩ := HS.out i hk'
          have HBw : Below w.heap.size w wr := hB.trans HK.out.below
          obtain ⟨d0, d1, d2, d3, d4, d5, d6⟩ := hd'.on hg HBw
          have hl2 : (pre ++ ys).length + (partsX k (D + 1) (x.sub.getD i noX)).length ≤ N := by
            have e1 := congrArg List.length HY.out
            have e2 := (flat_pre k (D + 1) x.sub (i + 1)).length_le
            rw [parts_take k (D + 1) x i hk', List.length_append] at e2
            have e3 := HHN.out
            simp only [partsX, List.length_cons, List.length_map] at e1 e3
            rw [List.length_append]
            omega
          have X := hide (HIH.out (n - 1) d (x.sub.getD i noX) (D + 1) (pre ++ ys) (wr.alloc (Obj.cells #[.int .i64 d.k, .int .i64 d.t, .bool d.s.a, .slice d.s.p d.s.n d.s.c, .bool d.s.d, .slice d.s.q d.s.m d.s.e, .slice d.p d.n d.c] 29 (0, 0))) hyy
            (HBw.trans ((Below.refl _ wr).alloc HBw.size _)) (by have := HK.out.below.size; simp; omega) (by omega) (by have := HDK.out; omega) (hJ _ _ _ HJ.out (World.grownBy_alloc _ _ none)) hl2)
          have HKA := hide (HK.out.trans (Kp2.ofBelow (n₁ := n₁) HBw.size ((Below.refl _ wr).alloc (Nat.le_refl _) (Obj.cells #[.int .i64 d.k, .int .i64 d.t, .bool d.s.a, .slice d.s.p d.s.n d.s.c, .bool d.s.d, .slice d.s.q d.s.m d.s.e, .slice d.p d.n d.c] 29 (0, 0)))))
          clear hl2 hyy HBw c6 hJ hY HIH HS HJ HK
          unfold EC.val at X
          rw [hp]
          gi_wp2_with fail
          refine (unhide X).mono ?_
          clear X d0 d1 d2 d3 d4 d5 d6
          rintro e W3 (⟨rfl, zs, hz, hJ3, hk3⟩ | ⟨rfl, zs, hz, hx3⟩)
          · have HZ : Hid ((ys ++ zs).map plainOf = (D, x) :: (x.sub.take (i + 1)).flatMap (partsX k (D + 1))) := hide (by
              rw [List.map_append, HY.out, hz, parts_take k (D + 1) x i hk']; rfl)
            have HJ3 := hide hJ3
            have HK3 := hide (HKA.out.trans hk3)
            clear hz hJ3 hk3 HKA HY
            gi_wp2
            go_roundw
            case rel => exact ⟨i + 1, ys ++ zs, by go_num, by omega, HZ, hide (by rw [← List.append_assoc]; exact HJ3.out), HK3⟩
            case measure => simp [intOf]; omega
          · gi_wp2
            go_ret
            refine .inr ⟨rfl, ys ++ zs, ?_, by rw [← List.append_assoc]; exact hx3⟩
            obtain ⟨r, hr⟩ := hz
            obtain ⟨r2, hr2⟩ := flat_pre k (D + 1) x.sub (i + 1)
            refine ⟨r ++ r2, ?_⟩
            rw [List.map_append, HY.out]
            show _ = (D, x) :: x.sub.flatMap (partsX k (D + 1))
            rw [← hr2, parts_take k (D + 1) x i hk', ← hr]
            simp
        · have hge : decide ((i : Int) < (c.n : Int)) = false := by simp; omega
          gi_wp2
          go_ret
          refine .inl ⟨rfl, ys, ?_, HJ.out, HK.out⟩
          rw [HY.out, List.take_of_length_le (by have := HN.out; omega)]
          rfl
    · go_ret
      exact .inr ⟨rfl, [y0], by simp [hy1, partsX], hx2⟩
set_option maxHeartbeats 2000000 in
set_option maxRecDepth 100000 in
theorem each1_in (F : Fence) (hd : F.depth = none) (n : Nat) (he : F.fn 65) (hv : F.fn 66) (hro : F.round = none) (l n₁ b : Nat) (w : World) (J Jx : List (PartOf w) → World → Prop) (k : Nat) (c : EC) (x : ExV)
    (hJ : ∀ s W W', J s W → W.grownBy W' none → J s W')
    (hY : ∀ pre y W, J pre W → pre.length < (partsX k 0 x).length → YieldAt F (n - 1) Tryz.prog l (encOf y) W fun e W' =>
      (e = .returned (.bool true) ∧ J (pre ++ [y]) W' ∧ Kp2 w.heap.size n₁ W W') ∨ (e = .returned (.bool false) ∧ Jx (pre ++ [y]) W'))
    (W : World) (hx : ExAt k w c.val x) (hk : k ≤ 2000) (hB : Below w.heap.size w W) (hn : n₁ ≤ W.heap.size) (hE : W.heap[b]? = some (Obj.cells #[.int .i64 c.k, .int .i64 c.t, .bool c.s.a, .slice c.s.p c.s.n c.s.c, .bool c.s.d, .slice c.s.q c.s.m c.s.e, .slice c.p c.n c.c] 29 (0, 0))) (h0 : J [] W) :
    CallsIn F n Tryz.prog 65 #[.func (.yield l) #[] #[], .pointer (some ⟨b, 0, none⟩)] W fun e W' => (∃ v, e = .returned v) ∧
      ((∃ ys, ys.map plainOf = partsX k 0 x ∧ J ys W') ∨ (∃ pre, pre.map plainOf <+: partsX k 0 x ∧ Jx pre W')) := by
  have hdd : ∀ k : Nat, (F.depth.isSome = true → 1 ≤ k) := fun k h => by rw [hd] at h; cases h
  have hp := hide (visit_in F hd hv hro l n₁ (partsX k 0 x).length 0 w J Jx hJ (fun m pre x W hj hl => yield_anyDepth hd m (hY pre x W hj hl)) k (n - 1) c x 0 [] W hx hB hn (by omega) (by omega) h0 (by simp))
  obtain ⟨c0, c1, c2, c3, c4, c5, c6⟩ := ecCells0 hE
  clear hY hJ hx hE h0
  refine callsIn_of_wp Tryz.func65 rfl he ?_ hro
  simp only [Tryz.ntmps65, List.size_toArray, List.length_cons, List.length_nil, Nat.reduceAdd, Nat.reduceSub, Array.replicate_succ, Array.replicate_zero, List.push_toArray, List.append_toArray, List.nil_append, List.cons_append]
  unfold EC.val at hp
  gi_wp2_with ((try refine ⟨hdd _, ?_⟩); gi_at_call 66; refine (unhide hp).mono ?_; clear hp; rintro e W1 (⟨rfl, ys, hz, hJ1, _⟩ | ⟨rfl, ys, hq, hx⟩))
  · go_end0
    exact ⟨⟨_, rfl⟩, .inl ⟨ys, hz, by simpa using hJ1⟩⟩
  · go_end0
    exact ⟨⟨_, rfl⟩, .inr ⟨ys, hq, by simpa using hx⟩⟩
set_option maxHeartbeats 1000000 in
theorem each_in (F : Fence) (n : Nat) (he : F.fn 37) (hro : F.round = none) (c : EC) (w : World) :
    CallsIn F n Tryz.prog 37 #[c.val] w fun e w' => e = .returned (.func (.func 65) #[] #[.pointer (some ⟨w.heap.size, 0, none⟩)]) ∧ w' = w.alloc (Obj.cells #[.int .i64 c.k, .int .i64 c.t, .bool c.s.a, .slice c.s.p c.s.n c.s.c, .bool c.s.d, .slice c.s.q c.s.m c.s.e, .slice c.p c.n c.c] 29 (0, 0)) := by
  refine callsIn_of_wp Tryz.func37 rfl he ?_ hro
  simp only [Tryz.ntmps37, List.size_toArray, List.length_cons, List.length_nil, Nat.reduceAdd, Nat.reduceSub, Array.replicate_succ, Array.replicate_zero, List.push_toArray, List.append_toArray, List.nil_append, List.cons_append]
  unfold EC.val
  gi_wp2
  go_ret
  exact ⟨rfl, rfl⟩
theorem each_stops (F : Fence) (hd : F.depth = none) (n : Nat) (he : F.fn 65) (hv : F.fn 66) (hro : F.round = none) (b : Nat) (w w0 : World) (k : Nat) (c : EC) (x : ExV) (hx : ExAt k w c.val x) (hk : k ≤ 2000) (hB : Below w.heap.size w w0) (hb : b < w0.heap.size)
    (hE : w0.heap[b]? = some (Obj.cells #[.int .i64 c.k, .int .i64 c.t, .bool c.s.a, .slice c.s.p c.s.n c.s.c, .bool c.s.d, .slice c.s.q c.s.m c.s.e, .slice c.p c.n c.c] 29 (0, 0))) :
    SeqStopsK F n Tryz.prog 65 #[.pointer (some ⟨b, 0, none⟩)] (encOf (w := w)) (Kp2 w.heap.size w0.heap.size) (fun ys => ys.map plainOf = partsX k 0 x) (fun pre => pre.map plainOf <+: partsX k 0 x) (partsX k 0 x).length w0 := fun l J Jx W hW hJ hJx hY h0 =>
  each1_in F hd n he hv hro l w0.heap.size b w J Jx k c x (fun s W W' hs hg => hJ s W W' none hs hg (fun r e => by cases e)) hY W hx hk (hB.trans (hW.mono hB.size)) hW.size ((hW.block b hb).trans hE) h0
end Go.Proofs.YtlmdcaemjaldfaaGreatDoor
namespace Go.Proofs.YtlmdcaemjaldfaaGreatDoor
open Go.RowKit Go.Shelf
attribute [local go_sem] Oper.semAt_some
def tallD (l : List (Int × ExV)) : Int := l.foldl (fun m y => max m (y.1 + 1)) 0
theorem tallD_snoc (l : List (Int × ExV)) (y : Int × ExV) : tallD (l ++ [y]) = max (tallD l) (y.1 + 1) := by simp [tallD]
theorem tall_ge (l : List (Int × ExV)) : ∀ m : Int, m ≤ l.foldl (fun m y => max m (y.1 + 1)) m := by
  induction l with
  | nil => intro m; simp
  | cons y l ih => intro m; have := ih (max m (y.1 + 1)); rw [List.foldl_cons]; omega
theorem tallD_nonneg (l : List (Int × ExV)) : 0 ≤ tallD l := tall_ge l 0
theorem tallD_pre {a b : List (Int × ExV)} (h : a <+: b) : tallD a ≤ tallD b := by
  obtain ⟨r, rfl⟩ := h
  unfold tallD
  rw [List.foldl_append]
  exact tall_ge r _
def sizeP (l : List (Int × ExV)) : Int × Int := if l.length ≤ 40 ∧ tallD l ≤ 8 then ((l.length : Int), tallD l) else (0, 0)
structure Own1 (W : World) (b : Nat) (v : Value) : Prop where
  cell : W.cell? ⟨b, 0, none⟩ = some v
  soft : W.frozen? ⟨b, 0, none⟩ = false
theorem Own1.new (W : World) (v : Value) (t : TypeId) : Own1 (W.alloc (.cells #[v] t)) W.heap.size v := by
  have h := World.alloc_heap_new W (.cells #[v] t)
  constructor
  · unfold World.cell?
    rw [h]
    rfl
  · unfold World.frozen?
    rw [h]
    rfl
theorem Own1.kept {W W' : World} {b : Nat} {v : Value} {row : Option Nat} (h : Own1 W b v) (hg : W.grownBy W' row) (hr : ∀ r, row = some r → ∃ o : Obj, W.heap[r]? = some o ∧ o.isCells = false) : Own1 W' b v :=
  ⟨cell_kept h.cell hg hr, (frozen_kept h.cell hg hr).trans h.soft⟩
theorem Own1.alloc {W : World} {b : Nat} {v : Value} (h : Own1 W b v) (o : Obj) : Own1 (W.alloc o) b v := h.kept (World.grownBy_alloc W o none) (fun r e => by cases e)
theorem Own1.drew {W : World} {b : Nat} {v : Value} (h : Own1 W b v) : Own1 W.drew b v := ⟨h.cell, h.soft⟩
theorem Own1.set {W : World} {b : Nat} {v : Value} (h : Own1 W b v) (u : Value) : Own1 (W.setCell ⟨b, 0, none⟩ u) b u :=
  ⟨World.cell?_setCell_same' _ _ _ (by rw [h.cell]; rfl), by rw [World.frozen?_setCell]; exact h.soft⟩
theorem Own1.other {W : World} {b b' : Nat} {v : Value} (h : Own1 W b v) (u : Value) (hne : b ≠ b') : Own1 (W.setCell ⟨b', 0, none⟩ u) b v :=
  ⟨(World.cell?_setCell_other W _ _ _ (by intro e; cases e; exact hne rfl)).trans h.cell, by rw [World.frozen?_setCell]; exact h.soft⟩
theorem Kp2.setCell {n₀ n₁ : Nat} (W : World) (b : Nat) (v : Value) (h0 : n₀ ≤ b) (h1 : b < n₁) : Kp2 n₀ n₁ W (W.setCell ⟨b, 0, none⟩ v) :=
  ⟨(Below.refl n₀ W).setCell (p := ⟨b, 0, none⟩) h0 v, fun k o hk ho _ => (Below.heap_setCell _ _ _ k (fun e => by dsimp only at e; omega)).trans ho⟩
set_option maxRecDepth 100000 in
set_option maxHeartbeats 4000000 in
theorem size_in (F : Fence) (hd : F.depth = none) (n : Nat) (hs : F.fn 15) (h4 : F.fn 37) (h5 : F.fn 65) (h6 : F.fn 66) (hro : F.round = none) (hn : 3 ≤ n) (k : Nat) (c : EC) (x : ExV) (w : World) (hx : ExAt k w c.val x) (hk : k ≤ 2000) :
    CallsIn F n Tryz.prog 15 #[c.val] w fun e w' => e = .returned (.tuple #[.int .i64 (sizeP (partsX k 0 x)).1, .int .i64 (sizeP (partsX k 0 x)).2]) ∧ Below w.heap.size w w' := by
  have h1 : 1 ≤ n := by omega
  have HX := hide hx
  obtain ⟨R, hR⟩ : ∃ R, R = sizeP (partsX k 0 x) := ⟨_, rfl⟩
  rw [← hR]
  have HR := hide hR
  clear hR
  have hdd : ∀ k : Nat, (F.depth.isSome = true → 1 ≤ k) := fun k h => by rw [hd] at h; cases h
  clear hx
  refine callsIn_of_wp_marks Tryz.func15 rfl hs ?_ hro
  simp only [Tryz.ntmps15, List.size_toArray, List.length_cons, List.length_nil, Nat.reduceAdd, Nat.reduceSub, Array.replicate_succ, Array.replicate_zero, List.push_toArray, List.append_toArray, List.nil_append, List.cons_append]
  unfold EC.val
  gi_wp2_with ((try refine ⟨hdd _, ?_⟩); gi_at_call 37; refine (each_in F (n - 1) h4 hro c _).mono ?_; rintro e w' ⟨rfl, rfl⟩)
  have o1 := (Own1.new (w.alloc (Obj.cells #[.int .i64 c.k, .int .i64 c.t, .bool c.s.a, .slice c.s.p c.s.n c.s.c, .bool c.s.d, .slice c.s.q c.s.m c.s.e, .slice c.p c.n c.c] 29 (0, 0))) (.int .i64 0) 3).alloc (Obj.cells #[.int .i64 0] 3)
  have o2 := Own1.new ((w.alloc (Obj.cells #[.int .i64 c.k, .int .i64 c.t, .bool c.s.a, .slice c.s.p c.s.n c.s.c, .bool c.s.d, .slice c.s.q c.s.m c.s.e, .slice c.p c.n c.c] 29 (0, 0))).alloc (Obj.cells #[.int .i64 0] 3)) (.int .i64 0) 3
  obtain ⟨ob, hob⟩ : ∃ ob, ob = Obj.cells #[.int .i64 c.k, .int .i64 c.t, .bool c.s.a, .slice c.s.p c.s.n c.s.c, .bool c.s.d, .slice c.s.q c.s.m c.s.e, .slice c.p c.n c.c] 29 (0, 0) := ⟨_, rfl⟩
  rw [← hob] at o1 o2 ⊢
  obtain ⟨w3, hw3⟩ : ∃ w3, w3 = ((w.alloc ob).alloc (Obj.cells #[.int .i64 0] 3)).alloc (Obj.cells #[.int .i64 0] 3) := ⟨_, rfl⟩
  have hB3 : Below w.heap.size w w3 := by rw [hw3]; exact (((Below.refl _ w).alloc (Nat.le_refl _) _).alloc (by simp) _).alloc (by simp; omega) _
  have hz3 : w3.heap.size = w.heap.size + 1 + 1 + 1 := by rw [hw3]; simp
  simp only [World.size_alloc] at o1 o2
  rw [← hw3] at o1 o2 ⊢
  have o1 := o1.alloc ob
  have o2 := o2.alloc ob
  have hE := heap_new w3 ob
  obtain ⟨w4, hw4⟩ : ∃ w4, w4 = w3.alloc ob := ⟨_, rfl⟩
  have hB4 : Below w.heap.size w w4 := by rw [hw4]; exact hB3.alloc (by omega) _
  have hz4 : w4.heap.size = w.heap.size + 1 + 1 + 1 + 1 := by rw [hw4]; simp [hz3]
  rw [← hw4] at o1 o2 hE ⊢
  rw [hz3, hob] at hE
  clear hw4 hw3 hB3 hz3
  refine wpIn_rangeFunc_ownF hro h1 (gf := 65) (lb := #[.pointer (some ⟨w.heap.size + 1 + 1 + 1, 0, none⟩)]) rfl h5 (enters_of Tryz.func65 (by kernel_rfl) rfl)
    (each_stops F hd (n - 1) h5 h6 hro (w.heap.size + 1 + 1 + 1) w w4 k c x HX.out hk hB4 (by omega) hE) Kp2.trans (Kp2.turn (by omega)) (Below.refl _ _) (fun _ => rfl)
    (fun pre W => (Own1 W (w.heap.size + 1) (.int .i64 (pre.length : Int)) ∧ Own1 W (w.heap.size + 1 + 1) (.int .i64 (tallD (pre.map plainOf))) ∧ pre.length ≤ 40 ∧ tallD (pre.map plainOf) ≤ 8) ∧ Below w.heap.size w W)
    (fun c pre W => (c = .ret ∧ Own1 W (w.heap.size + 1) (.int .i64 0) ∧ Own1 W (w.heap.size + 1 + 1) (.int .i64 0) ∧ ¬ (pre.length ≤ 40 ∧ tallD (pre.map plainOf) ≤ 8)) ∧ Below w.heap.size w W)
    (OwnFrom.and (Own.from (fun s A B row hs hg hr => ⟨hs.1.kept hg hr, hs.2.1.kept hg hr, hs.2.2⟩) _) (ownFrom_below (Nat.le_refl _) (by omega)))
    (fun c => OwnFrom.and (Own.from (fun s A B row hs hg hr => ⟨hs.1, hs.2.1.kept hg hr, hs.2.2.1.kept hg hr, hs.2.2.2⟩) _) (ownFrom_below (Nat.le_refl _) (by omega)))
    ⟨⟨o1, o2, by simp, by simp [tallD]⟩, hB4⟩
    (fun y => { tmps := #[.agg #[.int .i64 c.k, .int .i64 c.t, .bool c.s.a, .slice c.s.p c.s.n c.s.c, .bool c.s.d, .slice c.s.q c.s.m c.s.e, .slice c.p c.n c.c], .pointer (some ⟨w.heap.size, 0, none⟩), .pointer (some ⟨w.heap.size + 1, 0, none⟩), .pointer (some ⟨w.heap.size + 1 + 1, 0, none⟩), .int .i64 y.1.1,
      .agg #[.int .i64 c.k, .int .i64 c.t, .bool c.s.a, .slice c.s.p c.s.n c.s.c, .bool c.s.d, .slice c.s.q c.s.m c.s.e, .slice c.p c.n c.c], .func (.func 65) #[] #[.pointer (some ⟨w.heap.size + 1 + 1 + 1, 0, none⟩)], .int .i64 y.1.1, y.1.2.1.val, undef, undef, undef, undef, undef, undef, undef, undef, undef, undef, undef, undef, undef, undef], defers := [] }) ?assign ?body ?done ?stop
  case assign =>
    intro l y W K hK
    unfold encOf
    gi_wp2
    exact hK
  case body =>
    rintro l pre ⟨⟨yd, yc, yx⟩, hy0, hy1, hyk⟩ W ⟨⟨p1, p2, hl, ht⟩, hB⟩ _
    dsimp only at hy0 hy1
    have ht0 := tallD_nonneg (pre.map plainOf)
    have hT1 : tallD ((pre ++ [(⟨(yd, yc, yx), hy0, hy1, hyk⟩ : PartOf w)]).map plainOf) = max (tallD (pre.map plainOf)) (yd + 1) := by rw [List.map_append]; exact tallD_snoc _ _
    have hN1 : (pre ++ [(⟨(yd, yc, yx), hy0, hy1, hyk⟩ : PartOf w)]).length = pre.length + 1 := by simp
    generalize (pre ++ [(⟨(yd, yc, yx), hy0, hy1, hyk⟩ : PartOf w)]) = pre1 at *
    generalize tallD (pre.map plainOf) = T at *
    generalize hLL : (pre.length : Int) = L at *
    have hL0 : 0 ≤ L := by omega
    have hL1 : L ≤ 40 := by omega
    have q1 := p1.set (.int .i64 (L + 1))
    have q2 := p2.other (.int .i64 (L + 1)) (b' := w.heap.size + 1) (by omega)
    have r1 := q1.other (.int .i64 (max T (yd + 1))) (b' := w.heap.size + 1 + 1) (by omega)
    have r2 := q2.set (.int .i64 (max T (yd + 1)))
    have s1 := r1.set (.int .i64 0)
    have s2 := r2.other (.int .i64 0) (b' := w.heap.size + 1) (by omega)
    have t1 := s1.other (.int .i64 0) (b' := w.heap.size + 1 + 1) (by omega)
    have t2 := s2.set (.int .i64 0)
    have hk2 := (Kp2.setCell (n₀ := w.heap.size) (n₁ := w4.heap.size) W (w.heap.size + 1) (.int .i64 (L + 1)) (by omega) (by omega)).trans (Kp2.setCell _ (w.heap.size + 1 + 1) (.int .i64 (max T (yd + 1))) (by omega) (by omega))
    have ko2 := (KeepsOthers.setCell W ⟨w.heap.size + 1, 0, none⟩ (.int .i64 (L + 1))).trans (KeepsOthers.setCell _ ⟨w.heap.size + 1 + 1, 0, none⟩ (.int .i64 (max T (yd + 1))))
    have hk4 := hide ((hk2.trans (Kp2.setCell _ (w.heap.size + 1) (.int .i64 0) (by omega) (by omega))).trans (Kp2.setCell _ (w.heap.size + 1 + 1) (.int .i64 0) (by omega) (by omega)))
    have ko4 := hide ((ko2.trans (KeepsOthers.setCell _ ⟨w.heap.size + 1, 0, none⟩ (.int .i64 0))).trans (KeepsOthers.setCell _ ⟨w.heap.size + 1 + 1, 0, none⟩ (.int .i64 0)))
    have hk2 := hide hk2
    have ko2 := hide ko2
    have HB := hide hB
    have T1 := hide t1
    have T2 := hide t2
    have R1 := hide r1
    have R2 := hide r2
    obtain ⟨p1c, p1f⟩ := p1
    obtain ⟨p2c, p2f⟩ := p2
    obtain ⟨q1c, q1f⟩ := q1
    obtain ⟨q2c, q2f⟩ := q2
    obtain ⟨r1c, r1f⟩ := r1
    obtain ⟨r2c, r2f⟩ := r2
    obtain ⟨s1c, s1f⟩ := s1
    obtain ⟨s2c, s2f⟩ := s2
    clear t1 t2 o1 o2 hE HX hB
    dsimp only
    by_cases g1 : 40 < L + 1
    · have g1' : decide (40 < L + 1) = true := by simp; omega
      gi_wp2
      exact ⟨ko4.out, ⟨rfl, T1.out, T2.out, fun h => by omega⟩, HB.out.trans hk4.out.below⟩
    · have g1' : decide (40 < L + 1) = false := by simp; omega
      by_cases g2 : 8 < max T (yd + 1)
      · have g2' : decide (8 < max T (yd + 1)) = true := by simp; omega
        gi_wp2
        exact ⟨ko4.out, ⟨rfl, T1.out, T2.out, fun h => by rw [hT1]; exact g2⟩, HB.out.trans hk4.out.below⟩
      · have g2' : decide (8 < max T (yd + 1)) = false := by simp; omega
        gi_wp2
        exact ⟨ko2.out, hz4 ▸ hk2.out, ⟨by rw [show ((pre1.length : Nat) : Int) = L + 1 by omega]; exact R1.out, by rw [hT1]; exact R2.out, by omega, by rw [hT1]; omega⟩, HB.out.trans hk2.out.below⟩
  case done =>
    rintro D ys W hD hS ⟨⟨p1, p2, hl, ht⟩, hB⟩ hK
    have hLn : ((partsX k 0 x).length : Int) = (ys.length : Int) := by rw [← hS, List.length_map]
    have e1 : sizeP (partsX k 0 x) = ((ys.length : Int), tallD (ys.map plainOf)) := by
      unfold sizeP
      rw [hLn, if_pos ⟨by omega, by rw [← hS]; exact ht⟩, hS]
    have E := hide (HR.out.trans e1)
    clear e1 HR
    have q1 := p1.set (.int .i64 (ys.length : Int))
    have q2 := p2.other (.int .i64 (ys.length : Int)) (b' := w.heap.size + 1) (by omega)
    have r1 := q1.other (.int .i64 (tallD (ys.map plainOf))) (b' := w.heap.size + 1 + 1) (by omega)
    have r2 := q2.set (.int .i64 (tallD (ys.map plainOf)))
    have hk2 := hide ((Kp2.setCell (n₀ := w.heap.size) (n₁ := w4.heap.size) W (w.heap.size + 1) (.int .i64 (ys.length : Int)) (by omega) (by omega)).trans (Kp2.setCell _ (w.heap.size + 1 + 1) (.int .i64 (tallD (ys.map plainOf))) (by omega) (by omega)))
    have hK2 := hide (((KeepsOthers.setCell W ⟨w.heap.size + 1, 0, none⟩ (.int .i64 (ys.length : Int))).trans (KeepsOthers.setCell _ ⟨w.heap.size + 1 + 1, 0, none⟩ (.int .i64 (tallD (ys.map plainOf))))).same D _ hK rfl)
    have R1 := hide r1
    have R2 := hide r2
    have HB := hide hB
    obtain ⟨p1c, p1f⟩ := p1
    obtain ⟨p2c, p2f⟩ := p2
    obtain ⟨q1c, q1f⟩ := q1
    obtain ⟨q2c, q2f⟩ := q2
    clear r1 r2 o1 o2 hE HX hB hK hS hLn
    generalize tallD (ys.map plainOf) = T at *
    generalize (ys.length : Int) = L at *
    gi_wp2
    gi_region
    all_goals gi_wp2
    all_goals
      have hk3 := hK2.out
      have y1 := R1.out.drew.kept (grownBy_putObj' _ D (.deferred none)) (fun r e => by cases e; exact ⟨_, hk3, rfl⟩)
      have y2 := R2.out.drew.kept (grownBy_putObj' _ D (.deferred none)) (fun r e => by cases e; exact ⟨_, hk3, rfl⟩)
      refine ⟨by simp, .inl ⟨_, _, rfl, run_takeDeferred hk3, ?_⟩⟩
      refine ⟨.tuple #[.int .i64 L, .int .i64 T], ?_, by rw [E.out], (HB.out.trans hk2.out.below).trans ((belowK_b (w := w) (Nat.le_refl _) _ D _ _ (by omega) hk3 rfl rfl).drew)⟩
      simp [results, Tryz.f15, go_sem, y1.cell, y2.cell]
  case stop =>
    rintro D c pre W hD hpre ⟨⟨rfl, z1, z2, hne⟩, hB⟩ hK
    have e1 : sizeP (partsX k 0 x) = (0, 0) := by
      unfold sizeP
      rw [if_neg ?_]
      intro h
      apply hne
      have h2 := hpre.length_le
      have h3 := tallD_pre hpre
      rw [List.length_map] at h2
      omega
    have E := hide (HR.out.trans e1)
    clear e1 HR hne hpre
    gi_wp2
    refine ⟨by simp, .inl ⟨_, _, rfl, run_takeDeferred hK, ?_⟩⟩
    have y1 := z1.kept (grownBy_putObj' _ D (.deferred none)) (fun r e => by cases e; exact ⟨_, hK, rfl⟩)
    have y2 := z2.kept (grownBy_putObj' _ D (.deferred none)) (fun r e => by cases e; exact ⟨_, hK, rfl⟩)
    refine ⟨.tuple #[.int .i64 0, .int .i64 0], ?_, by rw [E.out], hB.trans (belowK_b (w := w) (Nat.le_refl _) W D _ _ (by omega) hK rfl rfl)⟩
    simp [results, Tryz.f15, go_sem, y1.cell, y2.cell]
end Go.Proofs.YtlmdcaemjaldfaaGreatDoor
namespace Go.Proofs.YtlmdcaemjaldfaaGreatDoor
open Go.RowKit
set_option maxHeartbeats 2000000 in
set_option maxRecDepth 100000 in
theorem equalR_any (v u : Value) (si ti : List Rg) (w : World) (hv : RngsAt w v si) (hu : RngsAt w u ti) :
    Calls Tryz.prog 104 #[v, u] w fun r w' => r = .returned (.bool (rngEqB si ti)) ∧ Below w.heap.size w w' := by
  have HI := hide hv
  have HJ := hide hu
  have nIle := hv.2.1
  have nJle := hu.2.1
  have lI := rngEqB_len si ti
  obtain ⟨ai, ci, rfl⟩ := hv.form
  obtain ⟨bi, di, rfl⟩ := hu.form
  clear hv hu
  obtain ⟨nI, hnI⟩ : ∃ n : Nat, n = si.length := ⟨_, rfl⟩
  obtain ⟨nJ, hnJ⟩ : ∃ n : Nat, n = ti.length := ⟨_, rfl⟩
  rw [← hnI] at nIle lI HI ⊢
  rw [← hnJ] at nJle lI HJ ⊢
  have HnI := hide hnI
  have HnJ := hide hnJ
  have LI := hide lI
  clear hnI hnJ lI
  by_cases eI : nI = nJ
  · subst eI
    clear LI
    have b1 : ((nI : Int) != (nI : Int)) = false := by simp
    go_enter Tryz.func104, Tryz.ntmps104
    go_wp2
    go_loopw [13] (fun i wr => ∃ k : Nat, i = .int .i64 k ∧ k ≤ nI ∧ Hid (rngEqB (si.drop k) (ti.drop k) = rngEqB si ti) ∧ Hid (Below w.heap.size w wr)) (fun i _ => nI - (intOf i).toNat)
    case atStart => exact ⟨0, rfl, by omega, hide rfl, hide (Below.refl _ _)⟩
    case round =>
      obtain ⟨k, rfl, hk, HG, HB⟩ := hrel
      by_cases hlt : k < nI
      · have hk1 : k < si.length := by rw [← HnI.out]; exact hlt
        have hk2 : k < ti.length := by rw [← HnJ.out]; exact hlt
        obtain ⟨b, off, rfl, hb, x0, x1⟩ := (HI.out.on HB.out).at.2 k hk1
        obtain ⟨b', off', rfl, hb', y0, y1⟩ := (HJ.out.on HB.out).at.2 k hk2
        have G0 := HG.out
        rw [drop_getD si k (0, 0) hk1, drop_getD ti k (0, 0) hk2] at G0
        generalize si.getD k (0, 0) = r at *
        generalize ti.getD k (0, 0) = q at *
        simp only [rngEqB] at G0
        have G1 := hide G0
        clear G0 HG
        cases f1 : (r.1 == q.1)
        · have G2 : Hid (rngEqB si ti = false) := hide (by rw [← G1.out, f1]; rfl)
          clear G1
          go_wp2
          go_quiet (fail)
          go_wp2
          go_ret
          exact ⟨ret_bool (by rw [G2.out]), below_drewN HB.out _⟩
        · cases f2 : (r.2 == q.2)
          · have G2 : Hid (rngEqB si ti = false) := hide (by rw [← G1.out, f1, f2]; rfl)
            clear G1
            go_wp2
            go_quiet (fail)
            go_wp2
            go_ret
            exact ⟨ret_bool (by rw [G2.out]), below_drewN HB.out _⟩
          · have G2 : Hid (rngEqB (si.drop (k + 1)) (ti.drop (k + 1)) = rngEqB si ti) := hide (by rw [← G1.out, f1, f2]; rfl)
            clear G1
            go_wp2
            go_quiet (fail)
            go_wp2
            exact ⟨⟨k + 1, by go_num, by omega, G2, hide (below_drewN HB.out _)⟩, by simp [intOf]; omega⟩
      · have hge : (nI : Int) ≤ (k : Int) := by omega
        have G2 : Hid (rngEqB si ti = true) := hide (by
          rw [← HG.out, List.drop_eq_nil_of_le (by have := HnI.out; omega), List.drop_eq_nil_of_le (by have := HnJ.out; omega)]; rfl)
        clear HG
        go_wp2
        go_ret
        exact ⟨ret_bool (by rw [G2.out]), HB.out⟩
  · have b1 : ((nI : Int) != (nJ : Int)) = true := by rw [bne_iff_ne]; omega
    have G := hide (LI.out eI)
    go_enter Tryz.func104, Tryz.ntmps104
    go_wp2
    go_ret
    exact ⟨ret_bool (by rw [G.out]), Below.refl _ _⟩
set_option maxHeartbeats 2000000 in
set_option maxRecDepth 100000 in
theorem equalS_any (v u : Value) (ss ts : List ByteArray) (w : World) (hv : StrsAt w v ss) (hu : StrsAt w u ts) :
    Calls Tryz.prog 105 #[v, u] w fun r w' => r = .returned (.bool (strEqB ss ts)) ∧ Below w.heap.size w w' := by
  have HI := hide hv
  have HJ := hide hu
  have nIle := hv.2.1
  have nJle := hu.2.1
  have lI := strEqB_len ss ts
  obtain ⟨ai, ci, rfl⟩ := hv.form
  obtain ⟨bi, di, rfl⟩ := hu.form
  clear hv hu
  obtain ⟨nI, hnI⟩ : ∃ n : Nat, n = ss.length := ⟨_, rfl⟩
  obtain ⟨nJ, hnJ⟩ : ∃ n : Nat, n = ts.length := ⟨_, rfl⟩
  rw [← hnI] at nIle lI HI ⊢
  rw [← hnJ] at nJle lI HJ ⊢
  have HnI := hide hnI
  have HnJ := hide hnJ
  have LI := hide lI
  clear hnI hnJ lI
  by_cases eI : nI = nJ
  · subst eI
    clear LI
    have b1 : ((nI : Int) != (nI : Int)) = false := by simp
    go_enter Tryz.func105, Tryz.ntmps105
    go_wp2
    go_loopw [13] (fun i wr => ∃ k : Nat, i = .int .i64 k ∧ k ≤ nI ∧ Hid (strEqB (ss.drop k) (ts.drop k) = strEqB ss ts) ∧ Hid (Below w.heap.size w wr)) (fun i _ => nI - (intOf i).toNat)
    case atStart => exact ⟨0, rfl, by omega, hide rfl, hide (Below.refl _ _)⟩
    case round =>
      obtain ⟨k, rfl, hk, HG, HB⟩ := hrel
      by_cases hlt : k < nI
      · have hk1 : k < ss.length := by rw [← HnI.out]; exact hlt
        have hk2 : k < ts.length := by rw [← HnJ.out]; exact hlt
        obtain ⟨b, off, rfl, hb, x0⟩ := (HI.out.on HB.out).at.2 k hk1
        obtain ⟨b', off', rfl, hb', y0⟩ := (HJ.out.on HB.out).at.2 k hk2
        have G0 := HG.out
        rw [drop_getD ss k ⟨#[]⟩ hk1, drop_getD ts k ⟨#[]⟩ hk2] at G0
        generalize ss.getD k ⟨#[]⟩ = r at *
        generalize ts.getD k ⟨#[]⟩ = q at *
        simp only [strEqB] at G0
        have G1 := hide G0
        clear G0 HG
        cases f1 : (r.toList == q.toList)
        · have G2 : Hid (strEqB ss ts = false) := hide (by rw [← G1.out, f1]; rfl)
          clear G1
          go_wp2
          go_quiet (fail)
          go_wp2
          go_ret
          exact ⟨ret_bool (by rw [G2.out]), below_drewN HB.out _⟩
        · have G2 : Hid (strEqB (ss.drop (k + 1)) (ts.drop (k + 1)) = strEqB ss ts) := hide (by rw [← G1.out, f1]; rfl)
          clear G1
          go_wp2
          go_quiet (fail)
          go_wp2
          exact ⟨⟨k + 1, by go_num, by omega, G2, hide (below_drewN HB.out _)⟩, by simp [intOf]; omega⟩
      · have hge : (nI : Int) ≤ (k : Int) := by omega
        have G2 : Hid (strEqB ss ts = true) := hide (by
          rw [← HG.out, List.drop_eq_nil_of_le (by have := HnI.out; omega), List.drop_eq_nil_of_le (by have := HnJ.out; omega)]; rfl)
        clear HG
        go_wp2
        go_ret
        exact ⟨ret_bool (by rw [G2.out]), HB.out⟩
  · have b1 : ((nI : Int) != (nJ : Int)) = true := by rw [bne_iff_ne]; omega
    have G := hide (LI.out eI)
    go_enter Tryz.func105, Tryz.ntmps105
    go_wp2
    go_ret
    exact ⟨ret_bool (by rw [G.out]), Below.refl _ _⟩
set_option maxHeartbeats 2000000 in
set_option maxRecDepth 100000 in
theorem same_any (v u : Value) (A B : SetV) (w : World) (hv : SetAt w v A) (hu : SetAt w u B) :
    Calls Tryz.prog 92 #[v, u] w fun r w' => r = .returned (.bool (sameB A B)) ∧ Below w.heap.size w w' := by
  obtain ⟨vi, vs, rfl, hI, hS⟩ := hv
  obtain ⟨ui, us, rfl, hJ, hT⟩ := hu
  obtain ⟨sa, si, sc, ss⟩ := A
  obtain ⟨ta, ti, tc, ts⟩ := B
  dsimp only at *
  have HI := hide hI
  have HS := hide hS
  have HJ := hide hJ
  have HT := hide hT
  clear hI hS hJ hT
  have HG : Hid (sameB ⟨sa, si, sc, ss⟩ ⟨ta, ti, tc, ts⟩ = (((sa == ta) && rngEqB si ti) && (sc == tc) && strEqB ss ts)) := hide (by
    unfold sameB
    dsimp only
    cases (sa == ta) <;> cases (sc == tc) <;> cases rngEqB si ti <;> cases strEqB ss ts <;> rfl)
  generalize sameB ⟨sa, si, sc, ss⟩ ⟨ta, ti, tc, ts⟩ = G at *
  have ba := fun (o1 o2 : Obj) => hide (two_boxes w o1 o2)
  have hta : ta = sa ∨ ta = !sa := by cases ta <;> cases sa <;> simp
  rcases hta with rfl | rfl
  · have hb1 : (ta == ta) = true := by simp
    obtain ⟨e1, e2, b2⟩ := (ba (.cells #[.bool ta, vi, .bool sc, vs] 26) (.cells #[.bool ta, ui, .bool tc, us] 26)).out
    have X := hide (equalR_any _ _ si ti _ (HI.out.on b2) (HJ.out.on b2))
    have Y := fun (w1 : World) (h : Below w.heap.size w w1) => hide (equalS_any _ _ ss ts w1 (HS.out.on h) (HT.out.on h))
    have B2 := hide b2
    have E1 := hide e1
    have E2 := hide e2
    clear e1 e2 b2 ba HI HJ HS HT
    go_enter Tryz.func92, Tryz.ntmps92
    go_wp2_with fail
    refine (unhide X).mono ?_
    rintro r w1 ⟨rfl, b1⟩
    have c2 := cell_heap ((b1.block _ (lt_heap E1.out)).trans E1.out) 2
    have c3 := cell_heap ((b1.block _ (lt_heap E1.out)).trans E1.out) 3
    have d2 := cell_heap ((b1.block _ (lt_heap E2.out)).trans E2.out) 2
    have d3 := cell_heap ((b1.block _ (lt_heap E2.out)).trans E2.out) 3
    simp only [List.getElem?_toArray, List.getElem?_cons_zero, List.getElem?_cons_succ] at c2 c3 d2 d3
    have B3 := hide (B2.out.trans (b1.mono B2.out.size))
    clear X B2 b1 E1 E2
    cases hr : rngEqB si ti
    · have HE : Hid (G = false) := hide (by rw [HG.out, hr]; simp)
      go_wp2
      go_ret
      exact ⟨ret_bool HE.out.symm, B3.out⟩
    · have htc : tc = sc ∨ tc = !sc := by cases tc <;> cases sc <;> simp
      rcases htc with rfl | rfl
      · have hb2 : (tc == tc) = true := by simp
        have HE : Hid (G = strEqB ss ts) := hide (by rw [HG.out, hr]; simp)
        have Z := Y _ B3.out
        clear Y HG
        go_wp2_with fail
        refine (unhide Z).mono ?_
        rintro r w4 ⟨rfl, b4⟩
        go_wp2
        go_ret
        exact ⟨ret_bool HE.out.symm, B3.out.trans (b4.mono B3.out.size)⟩
      · have HE : Hid (G = false) := hide (by rw [HG.out]; cases sc <;> simp)
        go_wp2
        go_ret
        exact ⟨ret_bool (by rw [HE.out]), B3.out⟩
  · have HE : Hid (G = false) := hide (by rw [HG.out]; cases sa <;> simp)
    go_enter Tryz.func92, Tryz.ntmps92
    go_wp2
    go_ret
    exact ⟨ret_bool (by rw [HE.out]), (ba _ _).out.2.2⟩
end Go.Proofs.YtlmdcaemjaldfaaGreatDoor
namespace Go.Proofs.YtlmdcaemjaldfaaGreatDoor
open Go.RowKit
end Go.Proofs.YtlmdcaemjaldfaaGreatDoor
namespace Go.Proofs.YtlmdcaemjaldfaaGreatDoor
open Go.RowKit
end Go.Proofs.YtlmdcaemjaldfaaGreatDoor
namespace Go.Proofs.YtlmdcaemjaldfaaGreatDoor
open Go.RowKit
set_option maxHeartbeats 4000000 in
set_option maxRecDepth 100000 in
theorem rightRanges_any (v : Value) (l : List Rg) (w : World) (hv : RngsAt w v l) :
    Calls Tryz.prog 90 #[v] w fun r w' => r = .returned (.bool (rgB none l)) ∧ Below w.heap.size w w' := by
  obtain ⟨a, c, rfl⟩ := hv.form
  have HV := hide hv
  have nle := hv.2.1
  obtain ⟨N, hN⟩ : ∃ n : Nat, n = l.length := ⟨_, rfl⟩
  rw [← hN] at nle ⊢
  have HN := hide hN
  clear hv hN
  go_enter Tryz.func90, Tryz.ntmps90
  go_wp2
  go_loopw [7] (fun i wr => ∃ k : Nat, i = .int .i64 k ∧ k ≤ N ∧ Hid (rgB (prevR l k) (l.drop k) = rgB none l) ∧ Hid (Below w.heap.size w wr)) (fun i _ => N - (intOf i).toNat)
  case atStart => exact ⟨0, rfl, by omega, hide rfl, hide (Below.refl _ _)⟩
  case round =>
    obtain ⟨k, rfl, hk, HG, HB⟩ := hrel
    by_cases hlt : k < N
    · have hk' : k < l.length := by rw [← HN.out]; exact hlt
      have IW := HV.out.on HB.out
      obtain ⟨b, off, rfl, hb, d0, d1⟩ := IW.at.2 k hk'
      have bd := IW.bound k hk'
      have G0 := HG.out
      rw [drop_getD l k (0, 0) hk'] at G0
      have prv : k ≠ 0 → ∃ q : Rg, prevR l k = some q.2 ∧ wr.cell? ⟨b, off + (k - 1) * 2, none⟩ = some (.int .i64 q.1) ∧ wr.cell? ⟨b, off + (k - 1) * 2 + 1, none⟩ = some (.int .i64 q.2) ∧ -9223372036854775808 ≤ q.2 ∧ q.2 ≤ 9223372036854775807 := fun h0 => by
        obtain ⟨b', off', ha, _, e0, e1⟩ := IW.at.2 (k - 1) (by omega)
        obtain ⟨_, _, r2, r3⟩ := IW.bound (k - 1) (by omega)
        simp at ha
        obtain ⟨rfl, rfl⟩ := ha
        exact ⟨_, by unfold prevR; rw [if_neg h0], e0, e1, r2, r3⟩
      have PRV := hide prv
      have NXT : Hid (prevR l (k + 1) = some (l.getD k (0, 0)).2) := hide (by unfold prevR; rw [if_neg (by omega)]; rfl)
      generalize l.getD k (0, 0) = r at *
      have G1 := hide G0
      clear IW prv G0 HG
      have n0 := cell_heap (heap_new wr (Obj.cells #[Value.int IntKind.i64 r.1, Value.int IntKind.i64 r.2] 96)) 0
      have n1 := cell_heap (heap_new wr (Obj.cells #[Value.int IntKind.i64 r.1, Value.int IntKind.i64 r.2] 96)) 1
      simp only [List.getElem?_toArray, List.getElem?_cons_zero, List.getElem?_cons_succ] at n0 n1
      have B5 := hide (HB.out.alloc HB.out.size (Obj.cells #[Value.int IntKind.i64 r.1, Value.int IntKind.i64 r.2] 96))
      have C5 := fun {o : Nat} => ((Below.refl _ wr).alloc (Nat.le_refl _) (Obj.cells #[Value.int IntKind.i64 r.1, Value.int IntKind.i64 r.2] 96)).cell (p := ⟨b, o, none⟩) hb
      by_cases h1 : r.1 ≤ r.2
      · have e1 : decide (r.2 < r.1) = false := decide_eq_false (by omega)
        by_cases k0 : k = 0
        · have dk : decide (0 < k) = false := decide_eq_false (by omega)
          have G2 : Hid (rgB (prevR l (k + 1)) (l.drop (k + 1)) = rgB none l) := hide (by
            have := G1.out
            rw [show prevR l k = none by unfold prevR; rw [if_pos k0]] at this
            rw [← this, NXT.out]
            simp [rgB, h1])
          clear G1 PRV NXT C5 k0
          go_wp2
          clear d0 d1
          go_quiet (fail)
          go_wp2
          exact ⟨⟨k + 1, by go_num, by omega, G2, hide (below_drewN B5.out _)⟩, by simp [intOf]; omega⟩
        · obtain ⟨q, hp, pc0, pc1, p0, p1⟩ := PRV.out k0
          have x0 := C5.trans pc0
          have x1 := C5.trans pc1
          have HX := fun (W : World) => hide (apart_any q r W bd.1 bd.2.1 p0)
          have dk : decide (0 < k) = true := decide_eq_true (by omega)
          have k1 : 1 ≤ k := by omega
          have G1' := G1.out
          rw [hp] at G1'
          have HG1 := hide G1'
          clear PRV hp k0 G1 G1' C5 pc0 pc1
          go_wp2
          generalize wr.alloc (Obj.cells #[Value.int IntKind.i64 r.1, Value.int IntKind.i64 r.2] 96) = w5 at *
          clear d0 d1
          have X := fun (d : Nat) (os : Array Obj) => hide (Calls.regrown_of (HX (Sort.grow (redrawn w5 d) os)).out)
          have p0' := cell_regrown n0
          have p1' := cell_regrown n1
          have p2' := cell_regrown x0
          have p3' := cell_regrown x1
          clear HX
          refine wp_region_quiet_below mixed (by kernel_rfl) ?_
          repeat (first | go_big_quiet_step (exact unhide (X _ _)) | quiet_step (exact unhide (X _ _)))
          refine wpQuiet_nil ?_
          intro _ hw'
          obtain ⟨⟨dq, osq⟩, hw''⟩ := hw'
          subst hw''
          have bq := below_regrown w5 dq osq
          have B6 := hide (B5.out.trans (bq.mono B5.out.size))
          clear p0' p1' p2' p3' X x0 x1 n0 n1 B5 bq bd
          dsimp only
          generalize Sort.grow (redrawn w5 dq) osq = w6 at B6 ⊢
          by_cases hap : q.2 + 1 < r.1
          · have da : decide (q.2 + 1 < r.1) = true := decide_eq_true hap
            have G2 : Hid (rgB (prevR l (k + 1)) (l.drop (k + 1)) = rgB none l) := hide (by
              rw [← HG1.out, NXT.out]
              simp [rgB, h1, hap])
            simp only [da, Bool.not_true]
            go_wp2
            exact ⟨⟨k + 1, by go_num, by omega, G2, B6⟩, by simp [intOf]; omega⟩
          · have da : decide (q.2 + 1 < r.1) = false := decide_eq_false hap
            have G2 : Hid (rgB none l = false) := hide (by
              rw [← HG1.out]
              simp [rgB]
              intro _ h
              exact absurd h hap)
            simp only [da, Bool.not_false]
            go_wp2
            go_ret
            exact ⟨ret_bool G2.out.symm, B6.out⟩
      · have e1 : decide (r.2 < r.1) = true := decide_eq_true (by omega)
        have G2 : Hid (rgB none l = false) := hide (by
          rw [← G1.out]
          cases prevR l k <;> simp [rgB] <;> intro h <;> omega)
        clear G1 PRV NXT C5
        go_wp2
        clear d0 d1
        go_quiet (fail)
        go_wp2
        go_ret
        exact ⟨ret_bool G2.out.symm, below_drewN B5.out _⟩
    · have hge : decide ((k : Int) < (N : Int)) = false := by simp; omega
      have G2 : Hid (rgB none l = true) := hide (by
        rw [← HG.out, List.drop_eq_nil_of_le (by have := HN.out; omega)]
        cases prevR l k <;> rfl)
      go_wp2
      go_ret
      exact ⟨ret_bool G2.out.symm, HB.out⟩
set_option maxHeartbeats 4000000 in
set_option maxRecDepth 100000 in
theorem rightStrings_any (v : Value) (ss : List ByteArray) (w : World) (hv : StrsAt w v ss) :
    Calls Tryz.prog 91 #[v] w fun r w' => r = .returned (.bool (stB none ss)) ∧ Below w.heap.size w w' := by
  obtain ⟨a, c, rfl⟩ := hv.form
  have HS := hide hv
  have nle := hv.2.1
  obtain ⟨nS, hnS⟩ : ∃ n : Nat, n = ss.length := ⟨_, rfl⟩
  rw [← hnS] at nle ⊢
  have HnS := hide hnS
  clear hv hnS
  go_enter Tryz.func91, Tryz.ntmps91
  go_wp2
  go_loopw [7] (fun i wr => ∃ k : Nat, i = .int .i64 k ∧ k ≤ nS ∧ Hid (stB (prevS ss k) (ss.drop k) = stB none ss) ∧ Hid (Below w.heap.size w wr)) (fun i _ => nS - (intOf i).toNat)
  case atStart => exact ⟨0, rfl, by omega, hide rfl, hide (Below.refl _ _)⟩
  case round =>
    obtain ⟨j, rfl, hj, HG, HB⟩ := hrel
    by_cases hlt : j < nS
    · have IW := HS.out.on HB.out
      have hj' : j < ss.length := by rw [← HnS.out]; exact hlt
      obtain ⟨b, off, rfl, hb, d0⟩ := IW.at.2 j hj'
      have q0 := IW.bound j hj'
      have G0 := HG.out
      rw [drop_getD ss j ⟨#[]⟩ hj'] at G0
      have prv : j ≠ 0 → ∃ h : ByteArray, prevS ss j = some h ∧ wr.cell? ⟨b, off + (j - 1), none⟩ = some (.string h) := fun h0 => by
        obtain ⟨b', off', ha, _, e1⟩ := IW.at.2 (j - 1) (by omega)
        simp at ha
        obtain ⟨rfl, rfl⟩ := ha
        exact ⟨_, by unfold prevS; rw [if_neg h0], e1⟩
      have PRV := hide prv
      have nxt : prevS ss (j + 1) = some (ss.getD j ⟨#[]⟩) := by unfold prevS; rw [if_neg (by omega)]; rfl
      have NXT := hide nxt
      generalize ss.getD j ⟨#[]⟩ = r at *
      clear IW prv nxt
      have G1 := hide G0
      clear G0 HG
      by_cases h1 : r.size ≤ 8
      · have e1 : decide (8 < r.size) = false := decide_eq_false (by omega)
        have e1' : decide ((8 : Int) < (r.size : Int)) = false := decide_eq_false (by omega)
        by_cases j0 : j = 0
        · have dj : decide (0 < j) = false := decide_eq_false (by omega)
          have G3 : Hid (stB (prevS ss (j + 1)) (ss.drop (j + 1)) = stB none ss) := hide (by
            have := G1.out
            rw [show prevS ss j = none by unfold prevS; rw [if_pos j0]] at this
            rw [← this, NXT.out]
            simp [stB, h1])
          clear G1 j0 PRV NXT
          go_wp2
          exact ⟨⟨j + 1, by go_num, by omega, G3, HB⟩, by simp [intOf]; omega⟩
        · obtain ⟨h, hp, pc⟩ := PRV.out j0
          have dj : decide (0 < j) = true := decide_eq_true (by omega)
          have j1 : 1 ≤ j := by omega
          have G1' := G1.out
          rw [hp] at G1'
          clear PRV hp j0 G1
          cases h2 : Op.bytesLess h.toList r.toList
          · have G3 : Hid (stB none ss = false) := hide (by rw [← G1']; simp [stB, h2])
            clear G1' NXT
            go_wp2
            go_ret
            exact ⟨ret_bool G3.out.symm, HB.out⟩
          · have G3 : Hid (stB (prevS ss (j + 1)) (ss.drop (j + 1)) = stB none ss) := hide (by rw [← G1', NXT.out]; simp [stB, h1, h2])
            clear G1' NXT
            go_wp2
            exact ⟨⟨j + 1, by go_num, by omega, G3, HB⟩, by simp [intOf]; omega⟩
      · have e1 : decide (8 < r.size) = true := decide_eq_true (by omega)
        have e1' : decide ((8 : Int) < (r.size : Int)) = true := decide_eq_true (by omega)
        have G3 : Hid (stB none ss = false) := hide (by
          rw [← G1.out]
          cases prevS ss j <;> simp [stB, h1])
        clear G1 PRV NXT
        go_wp2
        go_ret
        exact ⟨ret_bool G3.out.symm, HB.out⟩
    · have hge : (nS : Int) ≤ (j : Int) := by omega
      have G3 : Hid (stB none ss = true) := hide (by
        rw [← HG.out, List.drop_eq_nil_of_le (by have := HnS.out; omega)]
        cases prevS ss j <;> rfl)
      clear HG
      go_wp2
      go_ret
      exact ⟨ret_bool G3.out.symm, HB.out⟩
set_option maxHeartbeats 4000000 in
set_option maxRecDepth 100000 in
theorem setRight_any (v : Value) (S : SetV) (w : World) (hv : SetAt w v S) :
    Calls Tryz.prog 77 #[v] w fun r w' => r = .returned (.bool (rightSet S)) ∧ Below w.heap.size w w' := by
  obtain ⟨vi, vs, rfl, hI, hS⟩ := hv
  have HI := hide hI
  have HS := hide hS
  obtain ⟨ai, ci, rfl⟩ := hI.form
  obtain ⟨aq, cq, rfl⟩ := hS.form
  have B0 := fun (o : Obj) => hide ((Below.refl _ w).alloc (Nat.le_refl _) o)
  unfold rightSet
  cases e1 : rgB none S.ints
  · have X := fun (o : Obj) => hide (rightRanges_any _ _ _ (HI.out.on (B0 o).out))
    clear HI HS hI hS
    go_enter Tryz.func77, Tryz.ntmps77
    go_wp2_with fail
    refine (unhide (X _)).mono ?_
    rintro r w1 ⟨rfl, b1⟩
    have B1 := hide ((B0 _).out.trans (b1.mono (B0 _).out.size))
    rw [e1]
    clear X B0 b1
    go_wp2
    go_ret
    exact ⟨rfl, B1.out⟩
  · have X := fun (o : Obj) => hide (rightRanges_any _ _ _ (HI.out.on (B0 o).out))
    have Y := fun (W : World) (b : Below w.heap.size w W) => hide (rightStrings_any _ _ _ (HS.out.on b))
    clear HI HS hI hS
    go_enter Tryz.func77, Tryz.ntmps77
    go_wp2_with fail
    refine (unhide (X _)).mono ?_
    rintro r w1 ⟨rfl, b1⟩
    have B1 := hide ((B0 _).out.trans (b1.mono (B0 _).out.size))
    have hE1 := (b1.block w.heap.size (by simp)).trans (heap_new w _)
    have c3 := cell_heap hE1 3
    simp only [List.getElem?_toArray, List.getElem?_cons_zero, List.getElem?_cons_succ] at c3
    rw [e1]
    clear X B0 b1 hE1
    go_wp2_with fail
    refine (unhide (Y _ B1.out)).mono ?_
    rintro r w2 ⟨rfl, b2⟩
    have B2 := hide (B1.out.trans (b2.mono B1.out.size))
    clear Y b2 B1 c3
    go_wp2
    go_ret
    exact ⟨rfl, B2.out⟩
set_option maxHeartbeats 4000000 in
set_option maxRecDepth 100000 in
theorem small_any (v : Value) (S : SetV) (w : World) (hv : SetAt w v S) :
    Calls Tryz.prog 76 #[v] w fun r w' => r = .returned (.bool (decide (S.ints.length ≤ 6) && decide (S.strs.length ≤ 6))) ∧ Below w.heap.size w w' := by
  obtain ⟨vi, vs, rfl, hI, hS⟩ := hv
  obtain ⟨ai, ci, rfl⟩ := hI.form
  obtain ⟨aq, cq, rfl⟩ := hS.form
  have B0 := fun (o : Obj) => hide ((Below.refl _ w).alloc (Nat.le_refl _) o)
  have n1 := hI.2.1
  have n2 := hS.2.1
  clear hI hS
  generalize S.ints.length = a at *
  generalize S.strs.length = b at *
  by_cases h1 : a ≤ 6
  · have e1 : decide ((a : Int) ≤ 6) = true := decide_eq_true (by omega)
    have e1' : decide (a ≤ 6) = true := decide_eq_true h1
    go_enter Tryz.func76, Tryz.ntmps76
    go_wp2
    go_ret
    exact ⟨ret_bool (by rw [e1', Bool.true_and]; exact decide_eq_decide.2 (by omega)), (B0 _).out⟩
  · have e1 : decide ((a : Int) ≤ 6) = false := decide_eq_false (by omega)
    have e1' : decide (a ≤ 6) = false := decide_eq_false h1
    go_enter Tryz.func76, Tryz.ntmps76
    go_wp2
    go_ret
    exact ⟨ret_bool (by rw [e1', Bool.false_and]), (B0 _).out⟩
end Go.Proofs.YtlmdcaemjaldfaaGreatDoor
namespace Go.Proofs.YtlmdcaemjaldfaaGreatDoor
open Go.RowKit
theorem ecCells1 {w : World} {g : Nat} {t : TypeId} {x0 x1 x2 x3 x4 x5 x6 : Value} (h : w.heap[g]? = some (.cells #[x0, x1, x2, x3, x4, x5, x6] t (0, 0))) : w.cell? ⟨g, 0, none⟩ = some x0 ∧ w.cell? ⟨g, 1, none⟩ = some x1 ∧ w.cell? ⟨g, 2, none⟩ = some x2 ∧ w.cell? ⟨g, 3, none⟩ = some x3 ∧ w.cell? ⟨g, 4, none⟩ = some x4 ∧ w.cell? ⟨g, 5, none⟩ = some x5 ∧ w.cell? ⟨g, 6, none⟩ = some x6 :=
  ⟨cell_heap h 0, cell_heap h 1, cell_heap h 2, cell_heap h 3, cell_heap h 4, cell_heap h 5, cell_heap h 6⟩
set_option maxHeartbeats 4000000 in
set_option maxRecDepth 100000 in
theorem asksNothing_any (c : EC) (x : ExV) (w : World) (hc : EcFor w c x) :
    Calls Tryz.prog 78 #[c.val] w fun r w' => r = .returned (.bool (decide (x.attr = 0) && sameB x.set noSet)) ∧ Below w.heap.size w w' := by
  have B0 := fun (o : Obj) => hide ((Below.refl _ w).alloc (Nat.le_refl _) o)
  have X := fun (o : Obj) => hide (same_any _ _ _ _ _ (hc.s.on (B0 o).out) (noSet_at (w.alloc o)))
  have HT := hide hc.t
  clear hc
  unfold SC.val at X
  by_cases h : c.t = 0
  · have E : Hid ((decide (x.attr = 0) && sameB x.set noSet) = sameB x.set noSet) := hide (by rw [← HT.out, h]; simp)
    have h' : (c.t == 0) = true := by rw [h]; rfl
    clear h HT
    unfold EC.val
    go_enter Tryz.func78, Tryz.ntmps78
    go_wp2_with fail
    refine (unhide (X _)).mono ?_
    rintro r w1 ⟨rfl, b1⟩
    have B1 := hide ((B0 _).out.trans (b1.mono (B0 _).out.size))
    clear X B0 b1
    go_wp2
    go_ret
    exact ⟨ret_bool E.out.symm, B1.out⟩
  · have E : Hid ((decide (x.attr = 0) && sameB x.set noSet) = false) := hide (by rw [← HT.out]; simp [h])
    have h' : (c.t == 0) = false := by simpa using h
    clear h HT X
    unfold EC.val
    go_enter Tryz.func78, Tryz.ntmps78
    go_wp2
    go_ret
    exact ⟨ret_bool E.out.symm, (B0 _).out⟩
set_option maxHeartbeats 4000000 in
set_option maxRecDepth 100000 in
theorem rightPart_atom (c : EC) (x : ExV) (w : World) (hc : EcFor w c x) (hk : c.k = 1) :
    Calls Tryz.prog 50 #[c.val] w fun r w' => r = .returned (.bool (nodeX x)) ∧ Below w.heap.size w w' := by
  have B0 := fun (o : Obj) => hide ((Below.refl _ w).alloc (Nat.le_refl _) o)
  have N0 := fun (o : Obj) => hide (heap_new w o)
  have X := fun (o : Obj) => hide (small_any _ _ _ (hc.s.on (B0 o).out))
  have Y := fun (W : World) (b : Below w.heap.size w W) => hide (setRight_any _ _ _ (hc.s.on b))
  have E : Hid (nodeX x = (decide (0 ≤ c.t ∧ c.t ≤ 3 ∧ c.n = 0) && (rightSet x.set && smallB x.set))) := hide (by
    unfold nodeX
    rw [if_pos (by rw [← hc.k, hk]), hc.t, hc.n])
  have big := hc.big
  have room := hc.room
  generalize nodeX x = R at E ⊢
  obtain ⟨ck, ct, cs, cp, cn, cc⟩ := c
  dsimp only at hk E big room
  subst hk
  clear hc
  unfold SC.val at X Y
  unfold EC.val
  dsimp only at X Y ⊢
  by_cases h0 : 0 ≤ ct
  · by_cases h3 : ct ≤ 3
    · have h4 : decide (ct < 4) = true := decide_eq_true (by omega)
      cases hs : smallB x.set
      · have E2 : Hid (R = false) := hide (by rw [E.out, hs]; simp)
        have hs' : (decide (x.set.ints.length ≤ 6) && decide (x.set.strs.length ≤ 6)) = false := hs
        rw [hs'] at X
        clear Y E
        go_enter Tryz.func50, Tryz.ntmps50
        go_wp2_with fail
        refine (unhide (X _)).mono ?_
        rintro r w1 ⟨rfl, b1⟩
        have B1 := hide ((B0 _).out.trans (b1.mono (B0 _).out.size))
        clear X B0 b1 N0
        go_wp2
        go_ret
        exact ⟨ret_bool E2.out.symm, B1.out⟩
      · have hs' : (decide (x.set.ints.length ≤ 6) && decide (x.set.strs.length ≤ 6)) = true := hs
        rw [hs'] at X
        cases hr : rightSet x.set
        · have E2 : Hid (R = false) := hide (by rw [E.out, hr]; simp)
          rw [hr] at Y
          clear E
          go_enter Tryz.func50, Tryz.ntmps50
          go_wp2_with fail
          refine (unhide (X _)).mono ?_
          rintro r w1 ⟨rfl, b1⟩
          have B1 := hide ((B0 _).out.trans (b1.mono (B0 _).out.size))
          obtain ⟨c0, c1, c2, c3, c4, c5, c6⟩ := ecCells1 ((b1.block w.heap.size (by simp)).trans (N0 _).out)
          have Y1 := Y _ B1.out
          clear X B0 b1 N0 Y
          go_wp2_with fail
          refine (unhide Y1).mono ?_
          rintro r w2 ⟨rfl, b2⟩
          have B2 := hide (B1.out.trans (b2.mono B1.out.size))
          clear Y1 b2 B1 c0 c1 c2 c3 c4 c5 c6
          go_wp2
          go_ret
          exact ⟨ret_bool E2.out.symm, B2.out⟩
        · have E2 : Hid (R = decide (cn = 0)) := hide (by rw [E.out, hr, hs]; simp [h0, h3])
          rw [hr] at Y
          clear E
          go_enter Tryz.func50, Tryz.ntmps50
          go_wp2_with fail
          refine (unhide (X _)).mono ?_
          rintro r w1 ⟨rfl, b1⟩
          have B1 := hide ((B0 _).out.trans (b1.mono (B0 _).out.size))
          have E1 := hide ((b1.block w.heap.size (by simp)).trans (N0 _).out)
          obtain ⟨c0, c1, c2, c3, c4, c5, c6⟩ := ecCells1 E1.out
          have Y1 := Y _ B1.out
          clear X B0 b1 N0 Y
          go_wp2_with fail
          refine (unhide Y1).mono ?_
          rintro r w2 ⟨rfl, b2⟩
          have B2 := hide (B1.out.trans (b2.mono B1.out.size))
          clear c0 c1 c2 c3 c4 c5 c6
          obtain ⟨c0, c1, c2, c3, c4, c5, c6⟩ := ecCells1 ((b2.block w.heap.size (lt_heap E1.out)).trans E1.out)
          clear Y1 b2 B1
          go_wp2
          go_ret
          exact ⟨ret_bool (by rw [E2.out]; by_cases hz : cn = 0 <;> simp [hz]), B2.out⟩
    · have h4 : decide (ct < 4) = false := decide_eq_false (by omega)
      have E2 : Hid (R = false) := hide (by rw [E.out]; simp; intro _ h; omega)
      clear X Y E
      go_enter Tryz.func50, Tryz.ntmps50
      go_wp2
      go_ret
      exact ⟨ret_bool E2.out.symm, (B0 _).out⟩
  · have h4 : decide (0 ≤ ct) = false := decide_eq_false h0
    have E2 : Hid (R = false) := hide (by rw [E.out]; simp; intro h; omega)
    clear X Y E
    go_enter Tryz.func50, Tryz.ntmps50
    go_wp2
    go_ret
    exact ⟨ret_bool E2.out.symm, (B0 _).out⟩
set_option maxHeartbeats 4000000 in
set_option maxRecDepth 100000 in
theorem rightPart_any (c : EC) (x : ExV) (w : World) (hc : EcFor w c x) :
    Calls Tryz.prog 50 #[c.val] w fun r w' => r = .returned (.bool (nodeX x)) ∧ Below w.heap.size w w' := by
  by_cases k1 : c.k = 1
  · exact rightPart_atom c x w hc k1
  have B0 := fun (o : Obj) => hide ((Below.refl _ w).alloc (Nat.le_refl _) o)
  have N0 := fun (o : Obj) => hide (heap_new w o)
  have X := fun (o : Obj) => hide (asksNothing_any c x _ (hc.on (B0 o).out))
  have big := hc.big
  have room := hc.room
  have hn := hc.n
  have hkk := hc.k
  have e1 : (c.k == 1) = false := by simpa using k1
  unfold EC.val at X
  by_cases k23 : c.k = 2 ∨ c.k = 3
  · have E : Hid (nodeX x = (decide (x.attr = 0) && sameB x.set noSet)) := hide (by
      unfold nodeX
      rw [if_neg (by rw [← hkk]; exact k1), if_pos (by rw [← hkk]; omega), show decide (x.kind = 4 → x.sub.length = 1) = true from decide_eq_true (fun h => absurd h (by rw [← hkk]; omega)), Bool.and_true])
    generalize nodeX x = R at E ⊢
    generalize (decide (x.attr = 0) && sameB x.set noSet) = Q at E X
    rcases k23 with k2 | k3
    · have e2 : (c.k == 2) = true := by rw [k2]; rfl
      clear k1 k2 hkk hn hc
      unfold EC.val
      go_enter Tryz.func50, Tryz.ntmps50
      go_wp2_with fail
      refine (unhide (X _)).mono ?_
      rintro r w1 ⟨rfl, b1⟩
      have B1 := hide ((B0 _).out.trans (b1.mono (B0 _).out.size))
      clear X B0 b1 N0
      go_wp2
      go_ret
      exact ⟨ret_bool E.out.symm, B1.out⟩
    · have e2 : (c.k == 2) = false := by rw [k3]; rfl
      have e3 : (c.k == 3) = true := by rw [k3]; rfl
      clear k1 k3 hkk hn hc
      unfold EC.val
      go_enter Tryz.func50, Tryz.ntmps50
      go_wp2_with fail
      refine (unhide (X _)).mono ?_
      rintro r w1 ⟨rfl, b1⟩
      have B1 := hide ((B0 _).out.trans (b1.mono (B0 _).out.size))
      clear X B0 b1 N0
      go_wp2
      go_ret
      exact ⟨ret_bool E.out.symm, B1.out⟩
  · have e2 : (c.k == 2) = false := by simp; omega
    have e3 : (c.k == 3) = false := by simp; omega
    by_cases k4 : c.k = 4
    · have e4 : (c.k == 4) = true := by rw [k4]; rfl
      have E : Hid (nodeX x = ((decide (x.attr = 0) && sameB x.set noSet) && decide (c.n = 1))) := hide (by
        unfold nodeX
        rw [if_neg (by rw [← hkk]; exact k1), if_pos (by rw [← hkk]; omega), hn]
        congr 1
        exact decide_eq_decide.2 ⟨fun h => h (by rw [← hkk]; exact k4), fun h _ => h⟩)
      generalize nodeX x = R at E ⊢
      cases hq : (decide (x.attr = 0) && sameB x.set noSet)
      · rw [hq] at X
        have E2 : Hid (R = false) := hide (by rw [E.out, hq]; rfl)
        clear k1 k4 k23 hkk hn hc E
        unfold EC.val
        go_enter Tryz.func50, Tryz.ntmps50
        go_wp2_with fail
        refine (unhide (X _)).mono ?_
        rintro r w1 ⟨rfl, b1⟩
        have B1 := hide ((B0 _).out.trans (b1.mono (B0 _).out.size))
        clear X B0 b1 N0
        go_wp2
        go_ret
        exact ⟨ret_bool E2.out.symm, B1.out⟩
      · rw [hq] at X
        have E2 : Hid (R = decide (c.n = 1)) := hide (by rw [E.out, hq]; rfl)
        clear k1 k4 k23 hkk hn hc E
        unfold EC.val
        go_enter Tryz.func50, Tryz.ntmps50
        go_wp2_with fail
        refine (unhide (X _)).mono ?_
        rintro r w1 ⟨rfl, b1⟩
        have B1 := hide ((B0 _).out.trans (b1.mono (B0 _).out.size))
        obtain ⟨c0, c1, c2, c3, c4, c5, c6⟩ := ecCells1 ((b1.block w.heap.size (by simp)).trans (N0 _).out)
        clear X B0 b1 N0
        go_wp2
        go_ret
        exact ⟨ret_bool (by rw [E2.out]; by_cases hz : c.n = 1 <;> simp [hz] <;> omega), B1.out⟩
    · have e4 : (c.k == 4) = false := by simpa using k4
      have E2 : Hid (nodeX x = false) := hide (by
        unfold nodeX
        rw [if_neg (by rw [← hkk]; exact k1), if_neg (by rw [← hkk]; omega)])
      generalize nodeX x = R at E2 ⊢
      clear k1 k4 k23 hkk hn hc X
      unfold EC.val
      go_enter Tryz.func50, Tryz.ntmps50
      go_wp2
      go_ret
      exact ⟨ret_bool E2.out.symm, (B0 _).out⟩
end Go.Proofs.YtlmdcaemjaldfaaGreatDoor
namespace Go.Proofs.YtlmdcaemjaldfaaGreatDoor
open Go.RowKit Go.Shelf
attribute [local go_sem] Oper.semAt_some
def cellsOf (c : EC) : Obj := Obj.cells #[.int .i64 c.k, .int .i64 c.t, .bool c.s.a, .slice c.s.p c.s.n c.s.c, .bool c.s.d, .slice c.s.q c.s.m c.s.e, .slice c.p c.n c.c] 29 (0, 0)
def rightP (l : List (Int × ExV)) : Bool := !(decide ((sizeP l).1 = 0)) && l.all fun y => nodeX y.2
theorem size_any (k : Nat) (c : EC) (x : ExV) (w : World) (hx : ExAt k w c.val x) (hk : k ≤ 2000) :
    Calls Tryz.prog 15 #[c.val] w fun e w' => e = .returned (.tuple #[.int .i64 (sizeP (partsX k 0 x)).1, .int .i64 (sizeP (partsX k 0 x)).2]) ∧ Below w.heap.size w w' :=
  (callsIn_wide (n := 3)).1 (size_in Fence.wide rfl 3 trivial trivial trivial trivial rfl (by omega) k c x w hx hk)
set_option maxRecDepth 100000 in
set_option maxHeartbeats 4000000 in
theorem right_any (k : Nat) (c : EC) (x : ExV) (w : World) (hx : ExAt k w c.val x) (hk : k ≤ 2000) :
    Calls Tryz.prog 23 #[c.val] w fun e w' => e = .returned (.bool (rightP (partsX k 0 x))) ∧ Below w.heap.size w w' := by
  refine (callsIn_wide (n := 5)).1 ?_
  have HX := hide hx
  obtain ⟨R, hR⟩ : ∃ R, R = rightP (partsX k 0 x) := ⟨_, rfl⟩
  rw [← hR]
  have HR := hide hR
  have B0 := fun (o : Obj) => hide ((Below.refl _ w).alloc (Nat.le_refl _) o)
  have X := fun (W : World) (b : Below w.heap.size w W) => hide (callsIn_wide (n := 5 - 1).2 (size_any k c x W (ExAt.on b _ hx) hk))
  clear hx hR
  refine callsIn_of_wp_marks Tryz.func23 rfl trivial ?_ rfl
  simp only [Tryz.ntmps23, List.size_toArray, List.length_cons, List.length_nil, Nat.reduceAdd, Nat.reduceSub, Array.replicate_succ, Array.replicate_zero, List.push_toArray, List.append_toArray, List.nil_append, List.cons_append]
  unfold EC.val at X ⊢
  gi_wp2
  have o1 := Own1.new (w.alloc (Obj.cells #[.int .i64 c.k, .int .i64 c.t, .bool c.s.a, .slice c.s.p c.s.n c.s.c, .bool c.s.d, .slice c.s.q c.s.m c.s.e, .slice c.p c.n c.c] 29 (0, 0))) (.bool false) 4
  have hE := (Below.heap_alloc (w.alloc (Obj.cells #[.int .i64 c.k, .int .i64 c.t, .bool c.s.a, .slice c.s.p c.s.n c.s.c, .bool c.s.d, .slice c.s.q c.s.m c.s.e, .slice c.p c.n c.c] 29 (0, 0))) (Obj.cells #[.bool false] 4) w.heap.size (by simp)).trans (heap_new w _)
  have hBA := ((Below.refl _ w).alloc (Nat.le_refl _) (Obj.cells #[.int .i64 c.k, .int .i64 c.t, .bool c.s.a, .slice c.s.p c.s.n c.s.c, .bool c.s.d, .slice c.s.q c.s.m c.s.e, .slice c.p c.n c.c] 29 (0, 0))).alloc (by simp) (Obj.cells #[.bool false] 4)
  simp only [World.size_alloc] at o1
  have hzA : ((w.alloc (Obj.cells #[.int .i64 c.k, .int .i64 c.t, .bool c.s.a, .slice c.s.p c.s.n c.s.c, .bool c.s.d, .slice c.s.q c.s.m c.s.e, .slice c.p c.n c.c] 29 (0, 0))).alloc (Obj.cells #[.bool false] 4)).heap.size = w.heap.size + 1 + 1 := by simp
  generalize (w.alloc (Obj.cells #[.int .i64 c.k, .int .i64 c.t, .bool c.s.a, .slice c.s.p c.s.n c.s.c, .bool c.s.d, .slice c.s.q c.s.m c.s.e, .slice c.p c.n c.c] 29 (0, 0))).alloc (Obj.cells #[.bool false] 4) = wA at *
  refine ⟨trivial, ?_⟩
  refine (unhide (X _ hBA)).mono ?_
  rintro e wB ⟨rfl, bB⟩
  have oB : Own1 wB (w.heap.size + 1) (.bool false) := ⟨(bB.cell (p := ⟨_, _, none⟩) (by rw [hzA]; simp)).trans o1.cell, (bB.frozen (p := ⟨_, _, none⟩) (by rw [hzA]; simp)).trans o1.soft⟩
  have hEB := (bB.block w.heap.size (by omega)).trans hE
  have hBB := hBA.trans (bB.mono hBA.size)
  have hzB : w.heap.size + 1 + 1 ≤ wB.heap.size := by have := bB.size; omega
  obtain ⟨c0, c1, c2, c3, c4, c5, c6⟩ := ecCells1 hEB
  clear X B0 bB hE hBA o1 hzA hEB
  obtain ⟨P, hP⟩ : ∃ P, P = partsX k 0 x := ⟨_, rfl⟩
  have HP := hide hP
  rw [← hP] at HR ⊢
  clear hP
  obtain ⟨oc, of⟩ := id oB
  have HOB := hide oB
  have HBB := hide hBB
  clear oB hBB
  by_cases hz : (sizeP P).1 = 0
  · have hz' : ((sizeP P).1 == 0) = true := by rw [hz]; rfl
    have E : Hid (R = false) := hide (by rw [HR.out]; unfold rightP; rw [decide_eq_true hz]; rfl)
    have q1 := hide (HOB.out.set (.bool false))
    have b1 := hide (HBB.out.setCell (p := ⟨w.heap.size + 1, 0, none⟩) (by simp) (.bool false))
    generalize (sizeP P).1 = s1 at *
    generalize (sizeP P).2 = s2 at *
    clear hz HR HP
    gi_wp2
    refine ⟨.bool false, ?_, by rw [E.out], b1.out⟩
    simp [results, Tryz.f23, go_sem, q1.out.cell]
  · have hz' : ((sizeP P).1 == 0) = false := by simpa using hz
    have E : Hid (R = P.all fun y => nodeX y.2) := hide (by rw [HR.out]; unfold rightP; rw [decide_eq_false hz]; rfl)
    generalize (sizeP P).1 = s1 at *
    generalize (sizeP P).2 = s2 at *
    clear hz HR
    have Y := fun (W : World) => hide (each_in Fence.wide (5 - 1) trivial rfl c W)
    unfold EC.val at Y
    gi_wp2
    refine ⟨trivial, ?_⟩
    refine (unhide (Y wB)).mono ?_
    rintro e wC ⟨rfl, hwC⟩
    have hEC := heap_new wB (cellsOf c)
    have oC := HOB.out.alloc (cellsOf c)
    have hBC := HBB.out.alloc HBB.out.size (cellsOf c)
    have hzC : (wB.alloc (cellsOf c)).heap.size = wB.heap.size + 1 := by simp
    rw [show wB.alloc (cellsOf c) = wC from hwC.symm] at hEC oC hBC hzC
    have hfor := fun (m : Nat) (d : EC) (y : ExV) (W : World) (b : Below w.heap.size w W) (h : ExAt m w d.val y) => (show EcFor W d y by
      obtain ⟨m', rfl⟩ := h.pos
      obtain ⟨d', hv, hd, _⟩ := h
      obtain rfl := ec_inj hv
      exact hd.on b)
    have HFOR := hide hfor
    clear hwC Y HOB c0 c1 c2 c3 c4 c5 c6 oc of hfor
    gi_wp2
    refine wpIn_rangeFunc_ownH (α := PartOf w) (w := wC) rfl (by omega) (gf := 65) (lb := #[.pointer (some ⟨wB.heap.size, 0, none⟩)]) rfl trivial (enters_of Tryz.func65 (by kernel_rfl) rfl)
      (each_stops Fence.wide rfl (5 - 1) trivial trivial rfl wB.heap.size w wC k c x HX.out hk hBC (by omega) hEC) Kp2.trans (Kp2.turn hBC.size) (Below.refl _ _) (fun _ => rfl)
      (fun pre W => (Own1 W (w.heap.size + 1) (.bool false) ∧ ∀ y ∈ pre, nodeX (plainOf y).2 = true) ∧ Below w.heap.size w W)
      (fun c pre W => (c = .ret ∧ Own1 W (w.heap.size + 1) (.bool false) ∧ ∃ y ∈ pre, nodeX (plainOf y).2 = false) ∧ Below w.heap.size w W)
      (OwnFrom.and (Own.from (fun s A B row hs hg hr => ⟨hs.1.kept hg hr, hs.2⟩) _) (ownFrom_below (Nat.le_refl _) hBC.size))
      (fun c => OwnFrom.and (Own.from (fun s A B row hs hg hr => ⟨hs.1, hs.2.1.kept hg hr, hs.2.2⟩) _) (ownFrom_below (Nat.le_refl _) hBC.size))
      ⟨⟨oC, fun y hy => by cases hy⟩, hBC⟩
      (fun y a' W => ∃ bx, W.heap[bx]? = some (cellsOf y.1.2.1) ∧ a' = { tmps := #[.agg #[.int .i64 c.k, .int .i64 c.t, .bool c.s.a, .slice c.s.p c.s.n c.s.c, .bool c.s.d, .slice c.s.q c.s.m c.s.e, .slice c.p c.n c.c], .pointer (some ⟨w.heap.size, 0, none⟩), .pointer (some ⟨w.heap.size + 1, 0, none⟩), .int .i64 s1, .int .i64 s2, undef, .pointer (some ⟨bx, 0, none⟩), .tuple #[.int .i64 s1, .int .i64 s2], .agg #[.int .i64 c.k, .int .i64 c.t, .bool c.s.a, .slice c.s.p c.s.n c.s.c, .bool c.s.d, .slice c.s.q c.s.m c.s.e, .slice c.p c.n c.c], .tuple #[.int .i64 s1, .int .i64 s2], .int .i64 s1, .int .i64 s2, .int .i64 s1, .bool false, .agg #[.int .i64 c.k, .int .i64 c.t, .bool c.s.a, .slice c.s.p c.s.n c.s.c, .bool c.s.d, .slice c.s.q c.s.m c.s.e, .slice c.p c.n c.c], .func (.func 65) #[] #[.pointer (some ⟨wB.heap.size, 0, none⟩)], .int .i64 y.1.1, y.1.2.1.val, undef, undef, undef], defers := [] })
      (fun y a' => fun s A B row hs hg hr => by
        obtain ⟨bx, hbx, ha⟩ := hs
        refine ⟨bx, (hg.block bx (Array.getElem?_eq_some_iff.1 hbx).1 (fun e => ?_)).trans hbx, ha⟩
        obtain ⟨_, o, ho, hc⟩ := hr bx e.symm
        rw [hbx] at ho
        cases ho
        cases hc) ?assign ?body ?done ?stop
    case assign =>
      rintro l pre ⟨⟨yd, yc, yx⟩, hy⟩ W K ⟨⟨p1, hall⟩, hB⟩ hK
      have hK1 := fun a' => hK a' (W.alloc (cellsOf yc)) ((KeepsOthers.alloc _ _).from _) (Kp2.ofBelow hB.size ((Below.refl _ W).alloc (Nat.le_refl _) _)) ⟨⟨p1.alloc _, hall⟩, hB.alloc hB.size _⟩
      have hN := heap_new W (cellsOf yc)
      have hK2 := hide (hK1 _ ⟨W.heap.size, hN, rfl⟩)
      clear hK hK1 hN
      unfold cellsOf at hK2
      dsimp only at hK2
      unfold encOf EC.val at *
      dsimp only
      gi_wp2
      exact hK2.out
    case body =>
      rintro l pre ⟨⟨yd, yc, yx⟩, hy⟩ a' W hl hr ⟨⟨p1, hall⟩, hB⟩ ⟨bx, hbx, rfl⟩ hlt
      have hall' : ∀ y ∈ pre ++ [(⟨(yd, yc, yx), hy⟩ : PartOf w)], nodeX (plainOf y).2 = true ∨ (plainOf y).2 = yx := fun y hy' => by
        rcases List.mem_append.1 hy' with h | h
        · exact .inl (hall y h)
        · simp only [List.mem_singleton] at h
          subst h
          exact .inr rfl
      have hin : ∃ y ∈ pre ++ [(⟨(yd, yc, yx), hy⟩ : PartOf w)], (plainOf y).2 = yx := ⟨⟨(yd, yc, yx), hy⟩, List.mem_append.2 (.inr (List.mem_singleton.2 rfl)), rfl⟩
      obtain ⟨m, hm, hex⟩ := hy.2.2
      have Z := hide (CallsIn.inRound l (callsIn_wide (n := 5 - 1 - 1 - 1).2 (rightPart_any yc yx W (HFOR.out m yc yx W hB hex))))
      obtain ⟨d0, d1, d2, d3, d4, d5, d6⟩ := ecCells1 hbx
      have HB := hide hB
      have P1 := hide p1
      have HA := hide hall'
      have HI := hide hin
      generalize pre ++ [(⟨(yd, yc, yx), hy⟩ : PartOf w)] = pre1 at *
      clear hex hB p1 hall hall' hin HFOR hbx hlt hr hEC oC HX
      unfold EC.val at Z ⊢
      dsimp only
      cases hq : nodeX yx
      · rw [hq] at Z
        gi_wp2
        refine ⟨trivial, ?_⟩
        refine (unhide Z).mono ?_
        rintro e W1 ⟨rfl, bW⟩
        have ko : KeepsOthers W W1 := ⟨bW.size, fun j o h _ => (bW.block j (Array.getElem?_eq_some_iff.1 h).1).trans h⟩
        have kp : Kp2 w.heap.size wC.heap.size W W1 := Kp2.ofBelow HB.out.size bW
        have hl1 : w.heap.size + 1 < W.heap.size := lt_cell (a := ⟨w.heap.size + 1, 0, none⟩) P1.out.cell
        have p2 : Own1 W1 (w.heap.size + 1) (.bool false) := ⟨(bW.cell (p := ⟨_, _, none⟩) hl1).trans P1.out.cell, (bW.frozen (p := ⟨_, _, none⟩) hl1).trans P1.out.soft⟩
        have B1 := hide (HB.out.trans (bW.mono HB.out.size))
        have KO := hide ko
        have KP := hide kp
        have P2 := hide p2
        obtain ⟨pc, pf⟩ := p2
        clear Z d0 d1 d2 d3 d4 d5 d6 ko kp bW P1 HB
        gi_wp2
        obtain ⟨y, hy1, hy2⟩ := HI.out
        exact ⟨(KO.out.trans (KeepsOthers.setCell _ _ _)).from _, ⟨rfl, P2.out.set _, y, hy1, by rw [hy2]; exact hq⟩, B1.out.setCell (p := ⟨w.heap.size + 1, 0, none⟩) (by simp) _⟩
      · rw [hq] at Z
        gi_wp2
        refine ⟨trivial, ?_⟩
        refine (unhide Z).mono ?_
        rintro e W1 ⟨rfl, bW⟩
        have ko : KeepsOthers W W1 := ⟨bW.size, fun j o h _ => (bW.block j (Array.getElem?_eq_some_iff.1 h).1).trans h⟩
        have kp : Kp2 w.heap.size wC.heap.size W W1 := Kp2.ofBelow HB.out.size bW
        have hl1 : w.heap.size + 1 < W.heap.size := lt_cell (a := ⟨w.heap.size + 1, 0, none⟩) P1.out.cell
        have p2 : Own1 W1 (w.heap.size + 1) (.bool false) := ⟨(bW.cell (p := ⟨_, _, none⟩) hl1).trans P1.out.cell, (bW.frozen (p := ⟨_, _, none⟩) hl1).trans P1.out.soft⟩
        have B1 := hide (HB.out.trans (bW.mono HB.out.size))
        have KO := hide ko
        have KP := hide kp
        have P2 := hide p2
        obtain ⟨pc, pf⟩ := p2
        clear Z d0 d1 d2 d3 d4 d5 d6 ko kp bW P1 HB
        gi_wp2
        exact ⟨KO.out.from _, KP.out, ⟨P2.out, fun y hy => (HA.out y hy).elim id (fun e => by rw [e]; exact hq)⟩, B1.out⟩
    case done =>
      rintro D ys W hD hS ⟨⟨p1, hall⟩, hB⟩ hK
      have E2 : Hid (R = true) := hide (by
        rw [E.out, HP.out, ← hS, List.all_eq_true]
        intro z hz
        obtain ⟨y, hy, rfl⟩ := List.mem_map.1 hz
        exact hall y hy)
      have q1 := p1.set (.bool true)
      have hK2 := (KeepsOthers.setCell W ⟨w.heap.size + 1, 0, none⟩ (.bool true)).same D _ hK rfl
      have hB2 := hB.setCell (p := ⟨w.heap.size + 1, 0, none⟩) (by simp) (.bool true)
      have Q1 := hide q1
      have K2 := hide hK2
      have B2 := hide hB2
      obtain ⟨pc, pf⟩ := p1
      clear q1 hK2 hB2 hK hB hall hS hEC oC HX HFOR
      gi_wp2
      refine ⟨by simp, .inl ⟨_, _, rfl, run_takeDeferred K2.out, ?_⟩⟩
      have y1 := Q1.out.kept (grownBy_putObj' _ D (.deferred none)) (fun r e => by cases e; exact ⟨_, K2.out, rfl⟩)
      refine ⟨.bool true, ?_, by rw [E2.out], B2.out.trans (belowK_b (w := w) (Nat.le_refl _) _ D _ _ (by have := hBC.size; omega) K2.out rfl rfl)⟩
      simp [results, Tryz.f23, go_sem, y1.cell]
    case stop =>
      rintro D c' pre W hD hS ⟨⟨rfl, p1, y, hy, hq⟩, hB⟩ hK
      have E2 : Hid (R = false) := hide (by
        rw [E.out, HP.out, List.all_eq_false]
        exact ⟨_, hS.subset (List.mem_map_of_mem hy), by rw [hq]; simp⟩)
      clear hS hEC oC HX HFOR hy hq
      gi_wp2
      refine ⟨by simp, .inl ⟨_, _, rfl, run_takeDeferred hK, ?_⟩⟩
      have y1 := p1.kept (grownBy_putObj' _ D (.deferred none)) (fun r e => by cases e; exact ⟨_, hK, rfl⟩)
      refine ⟨.bool false, ?_, by rw [E2.out], hB.trans (belowK_b (w := w) (Nat.le_refl _) W D _ _ (by have := hBC.size; omega) hK rfl rfl)⟩
      simp [results, Tryz.f23, go_sem, y1.cell]
end Go.Proofs.YtlmdcaemjaldfaaGreatDoor
namespace Go.Proofs.YtlmdcaemjaldfaaGreatDoor
def sizeX : Nat → ExV → Nat
  | 0, _ => 0
  | k + 1, x => 1 + (x.sub.map (sizeX k)).sum
def depthX : Nat → ExV → Int
  | 0, _ => 0
  | k + 1, x => x.sub.foldl (fun m y => max m (depthX k y)) 0 + 1
theorem parts_len : ∀ (k : Nat) (D : Int) (x : ExV), (partsX k D x).length = sizeX k x
  | 0, _, _ => rfl
  | k + 1, D, x => by
    unfold partsX sizeX
    rw [List.length_cons, List.length_flatMap, show (List.map (fun a => (partsX k (D + 1) a).length) x.sub) = x.sub.map (sizeX k) from List.map_congr_left fun y _ => parts_len k (D + 1) y]
    omega
theorem foldl_max_init {α : Type} (h : α → Int) : ∀ (l : List α) (a b : Int), max a (l.foldl (fun m y => max m (h y)) b) = l.foldl (fun m y => max m (h y)) (max a b)
  | [], a, b => rfl
  | y :: l, a, b => by
    rw [List.foldl_cons, List.foldl_cons, foldl_max_init h l]
    congr 1
    omega
theorem foldl_max_shift {α : Type} (g : α → Int) (c : Int) : ∀ (l : List α) (m : Int), l.foldl (fun m y => max m (c + g y)) (c + m) = c + l.foldl (fun m y => max m (g y)) m
  | [], m => rfl
  | y :: l, m => by
    rw [List.foldl_cons, List.foldl_cons, show max (c + m) (c + g y) = c + max m (g y) by omega, foldl_max_shift g c l]
theorem foldl_max_congr {α : Type} (g h : α → Int) : ∀ (l : List α) (m : Int), (∀ y ∈ l, g y = h y) → l.foldl (fun m y => max m (g y)) m = l.foldl (fun m y => max m (h y)) m
  | [], m, _ => rfl
  | y :: l, m, H => by
    rw [List.foldl_cons, List.foldl_cons, H y (by simp), foldl_max_congr g h l _ fun z hz => H z (by simp [hz])]
theorem tallD_append (a b : List (Int × ExV)) : tallD (a ++ b) = max (tallD a) (tallD b) := by
  unfold tallD
  rw [List.foldl_append, foldl_max_init (fun y : Int × ExV => y.1 + 1)]
  congr 1
  have := tallD_nonneg a
  unfold tallD at this
  omega
theorem tallD_flat (g : ExV → List (Int × ExV)) : ∀ (l : List ExV), tallD (l.flatMap g) = l.foldl (fun m y => max m (tallD (g y))) 0
  | [] => rfl
  | y :: l => by
    rw [List.flatMap_cons, tallD_append, tallD_flat g l, List.foldl_cons, foldl_max_init (fun y => tallD (g y))]
    congr 1
    have := tallD_nonneg (g y)
    omega
theorem parts_tall : ∀ (k : Nat) (D : Int) (x : ExV), 0 ≤ D → tallD (partsX (k + 1) D x) = D + depthX (k + 1) x
  | 0, D, x, hD => by
    unfold partsX depthX
    have : ∀ l : List ExV, l.foldl (fun (m : Int) (y : ExV) => max m (depthX 0 y)) 0 = 0 := by
      intro l
      induction l with
      | nil => rfl
      | cons y l ih => exact ih
    rw [show (x.sub.flatMap (partsX 0 (D + 1))) = [] by simp [partsX], this]
    simp [tallD]
    omega
  | k + 1, D, x, hD => by
    rw [show partsX (k + 1 + 1) D x = [(D, x)] ++ x.sub.flatMap (partsX (k + 1) (D + 1)) from rfl, tallD_append, tallD_flat, foldl_max_congr _ (fun y => (D + 1) + depthX (k + 1) y) x.sub 0 (fun y _ => parts_tall k (D + 1) y (by omega)), foldl_max_init,
      show max (tallD [(D, x)]) 0 = (D + 1) + 0 by simp [tallD]; omega, foldl_max_shift]
    rw [show depthX (k + 1 + 1) x = x.sub.foldl (fun m y => max m (depthX (k + 1) y)) 0 + 1 from rfl]
    omega
theorem sizeX_fuel : ∀ (n m : Nat) (x : ExV), lowX n x → n ≤ m → sizeX m x = sizeX n x
  | 0, _, _, h, _ => by cases h
  | n + 1, m, x, h, hm => by
    obtain ⟨k, rfl⟩ : ∃ k, m = k + 1 := ⟨m - 1, by omega⟩
    unfold sizeX
    rw [List.map_congr_left fun y hy => sizeX_fuel n k y (h y hy) (by omega)]
theorem depthX_fuel : ∀ (n m : Nat) (x : ExV), lowX n x → n ≤ m → depthX m x = depthX n x
  | 0, _, _, h, _ => by cases h
  | n + 1, m, x, h, hm => by
    obtain ⟨k, rfl⟩ : ∃ k, m = k + 1 := ⟨m - 1, by omega⟩
    unfold depthX
    rw [foldl_max_congr _ _ _ _ fun y hy => depthX_fuel n k y (h y hy) (by omega)]
theorem eachX_fuel : ∀ (n m : Nat) (x : ExV), lowX n x → n ≤ m → eachX m x = eachX n x
  | 0, _, _, h, _ => by cases h
  | n + 1, m, x, h, hm => by
    obtain ⟨k, rfl⟩ : ∃ k, m = k + 1 := ⟨m - 1, by omega⟩
    unfold eachX
    rw [all_congr_mem _ _ _ fun y hy => eachX_fuel n k y (h y hy) (by omega)]
theorem eachX_any {n m : Nat} {x : ExV} (hn : lowX n x) (hm : lowX m x) : eachX m x = eachX n x := by
  rcases Nat.le_total n m with h | h
  · exact eachX_fuel n m x hn h
  · exact (eachX_fuel m n x hm h).symm
theorem depth_low : ∀ (k m : Nat) (x : ExV), lowX k x → depthX k x ≤ (m : Int) → lowX m x
  | 0, _, _, h, _ => by cases h
  | k + 1, 0, x, _, h => by
    have := foldl_max_ge (depthX k) x.sub 0
    unfold depthX at h
    omega
  | k + 1, m + 1, x, hl, h => fun y hy => by
    have h1 := foldl_max_mem (depthX k) x.sub 0 y hy
    unfold depthX at h
    exact depth_low k m y (hl y hy) (by omega)
theorem count_size : ∀ (f : Nat) (x : ExV), lowX f x → countX f x = min (sizeX f x : Int) 100
  | 0, _, h => by cases h
  | f + 1, x, h => by
    have H : ∀ (l : List ExV), (∀ y ∈ l, lowX f y) → ∀ n : Int, 0 ≤ n → min (l.foldl (fun n y => if n < 100 then n + countX f y else n) n) 100 = min (n + ((l.map (sizeX f)).sum : Int)) 100 := by
      intro l
      induction l with
      | nil => intro _ n _; simp
      | cons y l ih =>
        intro hy n hn
        have h1 := count_size f y (hy y (by simp))
        have h2 := countX_pos f y
        rw [List.foldl_cons, ih (fun z hz => hy z (by simp [hz])) _ (by split <;> omega), List.map_cons, List.sum_cons]
        split
        · rw [h1]
          omega
        · omega
    have := H x.sub h 1 (by omega)
    unfold countX sizeX
    rw [this]
    omega
theorem sub_size {f : Nat} {y : ExV} : ∀ {l : List ExV}, y ∈ l → sizeX f y ≤ (l.map (sizeX f)).sum
  | z :: l, h => by
    rw [List.map_cons, List.sum_cons]
    rcases List.mem_cons.1 h with rfl | h
    · omega
    · have := sub_size (f := f) h
      omega
theorem sizeX_pos {f : Nat} {x : ExV} (h : lowX f x) : 1 ≤ sizeX f x := by
  cases f with
  | zero => cases h
  | succ f => unfold sizeX; omega
theorem sum_len {f : Nat} : ∀ {l : List ExV}, (∀ y ∈ l, lowX f y) → l.length ≤ (l.map (sizeX f)).sum
  | [], _ => by simp
  | z :: l, h => by
    have h1 := sizeX_pos (h z (by simp))
    have h2 := sum_len (f := f) (l := l) fun y hy => h y (by simp [hy])
    rw [List.map_cons, List.sum_cons, List.length_cons]
    omega
theorem deep_depth : ∀ (f : Nat) (x : ExV), lowX f x → sizeX f x < 100 → deepX f x = min (depthX f x) 20
  | 0, _, h, _ => by cases h
  | f + 1, x, h, hs => by
    unfold sizeX at hs
    have hl := sum_len h
    unfold deepX depthX
    rw [List.take_of_length_le (by omega), foldl_max_congr _ (fun y => min (depthX f y) 20) x.sub 0 fun y hy => deep_depth f y (h y hy) (by have := sub_size (f := f) hy; omega)]
    have H : ∀ (l : List ExV) (a b : Int), min a 20 = min b 20 → min (l.foldl (fun m y => max m (min (depthX f y) 20)) a) 20 = min (l.foldl (fun m y => max m (depthX f y)) b) 20 := by
      intro l
      induction l with
      | nil => intro a b h; exact h
      | cons y l ih =>
        intro a b h
        rw [List.foldl_cons, List.foldl_cons]
        exact ih _ _ (by omega)
    have := H x.sub 0 0 rfl
    omega
theorem fits_plain {k : Nat} {x : ExV} (hl : lowX k x) : fitsX x = decide (sizeX k x ≤ 40 ∧ depthX k x ≤ 8) := by
  by_cases h : sizeX k x ≤ 40 ∧ depthX k x ≤ 8
  · rw [decide_eq_true h]
    have l8 : lowX 8 x := depth_low k 8 x hl (by omega)
    have l21 := lowX_mono 8 21 x (by omega) l8
    have e1 : sizeX 21 x = sizeX k x := by
      rcases Nat.le_total k 21 with g | g
      · exact sizeX_fuel k 21 x hl g
      · exact (sizeX_fuel 21 k x l21 g).symm
    have e2 : depthX 21 x = depthX k x := by
      rcases Nat.le_total k 21 with g | g
      · exact depthX_fuel k 21 x hl g
      · exact (depthX_fuel 21 k x l21 g).symm
    unfold fitsX
    rw [count_size 21 x l21, deep_depth 21 x l21 (by omega), e1, e2, Bool.and_eq_true, decide_eq_true_eq, decide_eq_true_eq]
    omega
  · rw [decide_eq_false h]
    cases hf : fitsX x
    · rfl
    · exfalso
      apply h
      have l8 := fits_low hf
      have l21 := lowX_mono 8 21 x (by omega) l8
      unfold fitsX at hf
      rw [Bool.and_eq_true, decide_eq_true_eq, decide_eq_true_eq, count_size 21 x l21] at hf
      have hs : sizeX 21 x ≤ 40 := by omega
      rw [deep_depth 21 x l21 (by omega)] at hf
      have e1 : sizeX 21 x = sizeX k x := by
        rcases Nat.le_total k 21 with g | g
        · exact sizeX_fuel k 21 x hl g
        · exact (sizeX_fuel 21 k x l21 g).symm
      have e2 : depthX 21 x = depthX k x := by
        rcases Nat.le_total k 21 with g | g
        · exact depthX_fuel k 21 x hl g
        · exact (depthX_fuel 21 k x l21 g).symm
      omega
theorem fits_nums {k : Nat} {x : ExV} (hl : lowX k x) (hf : fitsX x = true) : countX 21 x = (sizeX k x : Int) ∧ deepX 21 x = depthX k x := by
  have l8 := fits_low hf
  have l21 := lowX_mono 8 21 x (by omega) l8
  have h := hf
  rw [fits_plain hl, decide_eq_true_eq] at h
  have e1 : sizeX 21 x = sizeX k x := by
    rcases Nat.le_total k 21 with g | g
    · exact sizeX_fuel k 21 x hl g
    · exact (sizeX_fuel 21 k x l21 g).symm
  have e2 : depthX 21 x = depthX k x := by
    rcases Nat.le_total k 21 with g | g
    · exact depthX_fuel k 21 x hl g
    · exact (depthX_fuel 21 k x l21 g).symm
  rw [count_size 21 x l21, deep_depth 21 x l21 (by omega), e1, e2]
  omega
theorem size_plain {k : Nat} {x : ExV} (hl : lowX k x) : sizeP (partsX k 0 x) = if fitsX x then (countX 21 x, deepX 21 x) else (0, 0) := by
  obtain ⟨m, rfl⟩ : ∃ m, k = m + 1 := by
    cases k with
    | zero => cases hl
    | succ m => exact ⟨m, rfl⟩
  unfold sizeP
  rw [parts_len, parts_tall m 0 x (by omega), Int.zero_add]
  have hf := fits_plain hl
  by_cases h : sizeX (m + 1) x ≤ 40 ∧ depthX (m + 1) x ≤ 8
  · rw [decide_eq_true h] at hf
    obtain ⟨e1, e2⟩ := fits_nums hl hf
    rw [if_pos h, hf, if_pos rfl, e1, e2]
  · rw [decide_eq_false h] at hf
    rw [if_neg h, hf, if_neg (by simp)]
theorem parts_each : ∀ (k : Nat) (D : Int) (x : ExV), lowX k x → ((partsX k D x).all fun y => nodeX y.2) = eachX k x
  | 0, _, _, h => by cases h
  | k + 1, D, x, h => by
    unfold partsX eachX
    rw [List.all_cons, List.all_flatMap]
    congr 1
    exact all_congr_mem _ _ _ fun y hy => parts_each k (D + 1) y (h y hy)
theorem right_plain {k : Nat} {x : ExV} (hl : lowX k x) : rightP (partsX k 0 x) = rightX x := by
  unfold rightP rightX
  rw [size_plain hl, parts_each k 0 x hl]
  cases hf : fitsX x
  · rfl
  · have := countX_pos 21 x
    rw [if_pos rfl, decide_eq_false (by dsimp only; omega), eachX_any (fits_low hf) hl]
    rfl
theorem ExAt.shrink {w : World} : ∀ (n m : Nat) {v : Value} {x : ExV}, ExAt n w v x → lowX m x → ExAt m w v x
  | 0, _, _, _, h, _ => by cases h
  | n + 1, 0, v, x, _, h => by cases h
  | n + 1, m + 1, v, x, ⟨c, hv, hc, hs⟩, hl => by
    refine ⟨c, hv, hc, fun i hi => ?_⟩
    obtain ⟨g, off, d, hp, hg, hd, hx⟩ := hs i hi
    exact ⟨g, off, d, hp, hg, hd, ExAt.shrink n m hx (hl _ (getD_mem hi))⟩
end Go.Proofs.YtlmdcaemjaldfaaGreatDoor
namespace Go.Proofs.YtlmdcaemjaldfaaGreatDoor
open Go.RowKit
def exObj (c : EC) : Obj := Obj.cells #[.int .i64 c.k, .int .i64 c.t, .bool c.s.a, .slice c.s.p c.s.n c.s.c, .bool c.s.d, .slice c.s.q c.s.m c.s.e, .slice c.p c.n c.c] 29
def evObj (e : EvV) : Obj := Obj.cells #[.int .i64 e.v0.1, .int .i64 e.v0.2.1, .string e.v0.2.2, .int .i64 e.v1.1, .int .i64 e.v1.2.1, .string e.v1.2.2, .int .i64 e.v2.1, .int .i64 e.v2.2.1, .string e.v2.2.2, .int .i64 e.v3.1, .int .i64 e.v3.2.1, .string e.v3.2.2] 42
structure XeAt (w W : World) (c : EC) (e : EvV) : Prop where
  x : W.heap[w.heap.size]? = some (exObj c)
  e : EvIn W (w.heap.size + 1) e
  b : Below w.heap.size w W
theorem XeAt.new (w : World) (c : EC) (e : EvV) : XeAt w ((w.alloc (exObj c)).alloc (evObj e)) c e := by
  refine ⟨?_, ?_, ?_⟩
  · exact (Below.heap_alloc (w.alloc (exObj c)) (evObj e) w.heap.size (by simp)).trans (heap_new w _)
  · have := heap_new (w.alloc (exObj c)) (evObj e)
    rw [World.size_alloc] at this
    exact this
  · exact ((Below.refl _ w).alloc (Nat.le_refl _) _).alloc (by simp) _
end Go.Proofs.YtlmdcaemjaldfaaGreatDoor
namespace Go.Proofs.YtlmdcaemjaldfaaGreatDoor
open Go.Deep Go.ChangeShapes Go.WideShapes Go.ChangeAt Go.WideMaps Go.WideElems Go.RowKit Go.Joins
def EC.list (c : EC) : List Value := [.int .i64 c.k, .int .i64 c.t, .bool c.s.a, .slice c.s.p c.s.n c.s.c, .bool c.s.d, .slice c.s.q c.s.m c.s.e, .slice c.p c.n c.c]
section
variable {H : Type} {enc : TypeId × Value → H} {W : World}
end
end Go.Proofs.YtlmdcaemjaldfaaGreatDoor
namespace Go.Proofs.YtlmdcaemjaldfaaGreatDoor
open Go.RowKit
structure Kept (m : Nat) (w w' : World) : Prop where
  size : w.heap.size ≤ w'.heap.size
  block : ∀ g, m ≤ g → g < w.heap.size → w'.heap[g]? = w.heap[g]?
theorem Kept.refl (m : Nat) (w : World) : Kept m w w := ⟨Nat.le_refl _, fun _ _ _ => rfl⟩
theorem Kept.ofBelow {m : Nat} {w w' : World} (h : Below w.heap.size w w') : Kept m w w' := ⟨h.size, fun g _ hg => h.block g hg⟩
theorem Kept.trans {m : Nat} {w w' w'' : World} (h : Kept m w w') (k : Kept m w' w'') : Kept m w w'' := ⟨Nat.le_trans h.size k.size, fun g hm hg => (k.block g hm (Nat.lt_of_lt_of_le hg h.size)).trans (h.block g hm hg)⟩
theorem Kept.mono {m m' : Nat} {w w' : World} (h : Kept m w w') (hm : m ≤ m') : Kept m' w w' := ⟨h.size, fun g hg => h.block g (Nat.le_trans hm hg)⟩
theorem Kept.cell {m : Nat} {w w' : World} (h : Kept m w w') {p : Addr} (hm : m ≤ p.block) (hp : p.block < w.heap.size) : w'.cell? p = w.cell? p := World.cell?_of_block (h.block _ hm hp)
theorem Kept.setCell {m : Nat} (w : World) (g i : Nat) (v : Value) (h : g < m) : Kept m w (w.setCell ⟨g, i, none⟩ v) := ⟨by simp, fun k hk _ => Below.heap_setCell _ _ _ k (fun e => by dsimp only at e; omega)⟩
theorem ownsRow_kept {w w' : World} {B : Nat} {e : TypeId} {size : Nat} {v : Value} {n : Nat} {xs : List Value} (h : w.ownsRow B e size v n xs) (hk : Kept B w w') : w'.ownsRow B e size v n xs := by
  refine ⟨h.1, ?_⟩
  rcases h.2 with h2 | ⟨g, cap, cur, e1, hg, hc, hr⟩
  · exact Or.inl h2
  · exact Or.inr ⟨g, cap, cur, e1, hg, (hk.block g hg (Array.getElem?_eq_some_iff.1 hc).1).trans hc, hr⟩
theorem soft_heap {w : World} {g : Nat} {cs : Array Value} {t : TypeId} (h : w.heap[g]? = some (.cells cs t (0, 0))) (i : Nat) : w.frozen? ⟨g, i, none⟩ = false := by
  unfold World.frozen?
  rw [h]
  simp
theorem ownsRow_form {w : World} {B : Nat} {e : TypeId} {size : Nat} {v : Value} {n : Nat} {xs : List Value} (h : w.ownsRow B e size v n xs) : ∃ p c, v = .slice p n c ∧ n ≤ c ∧ c ≤ maxLen ∧ (p = none → n = 0 ∧ c = 0) := by
  rcases h.2 with ⟨rfl, rfl⟩ | ⟨g, cap, cur, rfl, _, _, h1, h2, _⟩
  · exact ⟨none, 0, rfl, Nat.le_refl _, by unfold maxLen; omega, fun _ => ⟨rfl, rfl⟩⟩
  · exact ⟨_, cap, rfl, h1, h2, fun e => by cases e⟩
theorem ownsRow_cell {w : World} {B : Nat} {e : TypeId} {size : Nat} {g n c : Nat} {xs : List Value} (h : w.ownsRow B e size (.slice (some ⟨g, 0, none⟩) n c) n xs) (i : Nat) (u : Value) (hi : xs[i]? = some u) : w.cell? ⟨g, i, none⟩ = some u := by
  rcases h.2 with ⟨h0, _⟩ | ⟨g', cap, cur, e1, _, hc, _, _, _, ht⟩
  · cases h0
  · injection e1 with e1 _ _
    injection e1 with e1
    injection e1 with e1 _ _
    subst e1
    have hl : i < n * size := by rw [← h.1]; exact (List.getElem?_eq_some_iff.1 hi).1
    rw [cell_heap hc, ← hi, ← ht, List.getElem?_take, if_pos hl]
    simp
theorem ownsRow_at {w : World} {B : Nat} {e : TypeId} {size : Nat} {a : Addr} {n c : Nat} {xs : List Value} (h : w.ownsRow B e size (.slice (some a) n c) n xs) : ∃ g cur, a = ⟨g, 0, none⟩ ∧ B ≤ g ∧ w.heap[g]? = some (.cells cur e (0, 0)) := by
  rcases h.2 with ⟨h0, _⟩ | ⟨g', cap, cur, e1, hb, hc, _⟩
  · cases h0
  · injection e1 with e1 _ _
    injection e1 with e1
    exact ⟨g', cur, e1, hb, hc⟩
theorem cInfoR : (Tryz.prog.info? 96).map (fun i => (i.zero, i.size, i.bytes)) = some (some (.agg #[.int .i64 0, .int .i64 0]), 2, 16) := by kernel_rfl
theorem cInfoS : (Tryz.prog.info? 9).map (fun i => (i.zero, i.size, i.bytes)) = some (some (.string ⟨#[]⟩), 1, 16) := by kernel_rfl
theorem cInfoX : (Tryz.prog.info? 29).map (fun i => (i.zero, i.size, i.bytes)) = some (some (.agg #[.int .i64 0, .int .i64 0, .bool false, .slice none 0 0, .bool false, .slice none 0 0, .slice none 0 0]), 7, 104) := by kernel_rfl
end Go.Proofs.YtlmdcaemjaldfaaGreatDoor
namespace Go.Proofs.YtlmdcaemjaldfaaGreatDoor
open Go.RowKit
theorem heap_put {w : World} {g : Nat} {cs : Array Value} {t : TypeId} (h : w.heap[g]? = some (.cells cs t (0, 0))) (i : Nat) (v : Value) : (w.setCell ⟨g, i, none⟩ v).heap[g]? = some (.cells (cs.setIfInBounds i v) t (0, 0)) := heap_setCell (i := i) v h
def stObj (s : SC) : Obj := Obj.cells #[.bool s.a, .slice s.p s.n s.c, .bool s.d, .slice s.q s.m s.e] 26
theorem infoSet4 : (Tryz.prog.info? 26).map (·.size) = some 4 := by kernel_rfl
structure Pair (w W : World) (o1 o2 : Obj) : Prop where
  e1 : W.heap[w.heap.size]? = some o1
  e2 : W.heap[w.heap.size + 1]? = some o2
  b : Below w.heap.size w W
theorem Pair.new (w : World) (o1 o2 : Obj) : Pair w ((w.alloc o1).alloc o2) o1 o2 := by
  refine ⟨(Below.heap_alloc (w.alloc o1) o2 w.heap.size (by simp)).trans (heap_new w _), ?_, ((Below.refl _ w).alloc (Nat.le_refl _) _).alloc (by simp) _⟩
  have := heap_new (w.alloc o1) o2
  rw [World.size_alloc] at this
  exact this
theorem Pair.on {w W W' : World} {o1 o2 : Obj} (h : Pair w W o1 o2) (hb : Below W.heap.size W W') : Pair w W' o1 o2 := ⟨(hb.block _ (lt_heap h.e1)).trans h.e1, (hb.block _ (lt_heap h.e2)).trans h.e2, h.b.trans (hb.mono h.b.size)⟩
theorem Pair.size {w W : World} {o1 o2 : Obj} (h : Pair w W o1 o2) : w.heap.size + 1 < W.heap.size := lt_heap h.e2
end Go.Proofs.YtlmdcaemjaldfaaGreatDoor
namespace Go.Proofs.YtlmdcaemjaldfaaGreatDoor
open Go.RowKit
section
variable {ops : Array Oper} {Q : Exit → Act → World → Prop} {S : World → Prop} {o : Oper} {a : Act}
theorem yl_move (hw : Region.wanted o (yielded ops a.tmps) = true) (x : Operand) (ho : o.op = .move x) (v : Value) (hx : a.eval x = v) : YieldsIf Tryz.prog ops S o v a :=
  Or.inl ⟨hw, fun w _ => by simp [execOp, ho, hx]⟩
theorem yl_assign (hw : Region.wanted o (yielded ops a.tmps) = true) (x : Operand) (ho : o.op = .assign x) (v : Value) (hx : a.eval x = v) : YieldsIf Tryz.prog ops S o v a :=
  Or.inl ⟨hw, fun w _ => by simp [execOp, ho, hx]⟩
theorem yl_not (hw : Region.wanted o (yielded ops a.tmps) = true) (t : TypeId) (x : Operand) (ho : o.op = .unOp .not t x) (b : Bool) (hx : a.eval x = .bool b) : YieldsIf Tryz.prog ops S o (.bool (!b)) a :=
  Or.inl ⟨hw, fun w _ => by simp [execOp, ho, hx]; go_simp⟩
theorem yl_pickT (hw : Region.wanted o (yielded ops a.tmps) = true) (c x y : Operand) (ho : o.op = .pick c x y) (hc : a.eval c = .bool true) (v : Value) (hx : a.eval x = v) : YieldsIf Tryz.prog ops S o v a :=
  Or.inl ⟨hw, fun w _ => by simp [execOp, ho, hc, hx]; go_simp⟩
theorem yl_pickF (hw : Region.wanted o (yielded ops a.tmps) = true) (c x y : Operand) (ho : o.op = .pick c x y) (hc : a.eval c = .bool false) (v : Value) (hx : a.eval y = v) : YieldsIf Tryz.prog ops S o v a :=
  Or.inl ⟨hw, fun w _ => by simp [execOp, ho, hc, hx]; go_simp⟩
theorem yl_undef (hw : Region.wanted o (yielded ops a.tmps) = false) : YieldsIf Tryz.prog ops S o undef a := Or.inr ⟨hw, rfl⟩
theorem run_call {f : Nat} {fn : Func} (hf : Tryz.prog.funcs[f]? = some fn) (hn : (fn.name == "runtime.NumGoroutine") = false) (hb : fn.body.isNone = false) (W : World) (A : Array Value) : (callFunc f A).run Tryz.prog W = .ok (.enter f A) W := by
  simp [callFunc, go_sem, hf, -beq_iff_eq, -Option.isNone_iff_eq_none, hn, hb]
theorem wl_yield {rest : List Oper} {w : World} (v : Value) (hy : YieldsIf Tryz.prog ops (fun x => x = w) o v a) (h : wpList Tryz.prog ops Q rest (a.put o.dst v) w) : wpList Tryz.prog ops Q (o :: rest) a w := by
  unfold wpList
  rcases hy with ⟨hw, hv⟩ | ⟨hw, rfl⟩
  · rw [if_pos hw]
    left
    unfold Oper.wp
    rw [hv w rfl]
    exact h
  · rw [if_neg (by rw [hw]; simp)]
    exact h
theorem wl_run {rest : List Oper} {w : World} (hw : Region.wanted o (yielded ops a.tmps) = true) (v : Value) (w' : World) (hr : (execOp a.eval o).run Tryz.prog w = .ok (.value v) w') (h : wpList Tryz.prog ops Q rest (a.put o.dst v) w') : wpList Tryz.prog ops Q (o :: rest) a w := by
  unfold wpList
  rw [if_pos hw]
  left
  unfold Oper.wp
  rw [hr]
  exact h
theorem wl_skip {rest : List Oper} {w : World} (hw : Region.wanted o (yielded ops a.tmps) = true) (w' : World) (hr : (execOp a.eval o).run Tryz.prog w = .ok .skip w') (h : wpList Tryz.prog ops Q rest (a.put o.dst undef) w') : wpList Tryz.prog ops Q (o :: rest) a w := by
  unfold wpList
  rw [if_pos hw]
  left
  unfold Oper.wp
  rw [hr]
  exact h
end
end Go.Proofs.YtlmdcaemjaldfaaGreatDoor
namespace Go.Proofs.YtlmdcaemjaldfaaGreatDoor
open Go.RowKit
section
variable {ops : Array Oper} {Q : Exit → Act → World → Prop} {S : World → Prop} {o : Oper} {a : Act}
set_option maxHeartbeats 1000000 in
set_option maxRecDepth 100000 in
theorem yl_set (hw : Region.wanted o (yielded ops a.tmps) = true) (x : Operand) (ho : o.op = .load 26 x) (g : Nat) (k : Nat) (hx : a.eval x = .pointer (some ⟨g, k, none⟩)) (x0 x1 x2 x3 : Value)
    (h : ∀ w, S w → w.cell? ⟨g, k, none⟩ = some x0 ∧ w.cell? ⟨g, k + 1, none⟩ = some x1 ∧ w.cell? ⟨g, k + 2, none⟩ = some x2 ∧ w.cell? ⟨g, k + 3, none⟩ = some x3) : YieldsIf Tryz.prog ops S o (.agg #[x0, x1, x2, x3]) a :=
  Or.inl ⟨hw, fun w hS => by
    obtain ⟨c0, c1, c2, c3⟩ := h w hS
    simp only [execOp, ho, hx]
    go_simp⟩
set_option maxHeartbeats 1000000 in
set_option maxRecDepth 100000 in
theorem yl_val (hw : Region.wanted o (yielded ops a.tmps) = true) (x : Operand) (ho : o.op = .load 40 x) (g : Nat) (k : Nat) (hx : a.eval x = .pointer (some ⟨g, k, none⟩)) (x0 x1 x2 : Value)
    (h : ∀ w, S w → w.cell? ⟨g, k, none⟩ = some x0 ∧ w.cell? ⟨g, k + 1, none⟩ = some x1 ∧ w.cell? ⟨g, k + 2, none⟩ = some x2) : YieldsIf Tryz.prog ops S o (.agg #[x0, x1, x2]) a :=
  Or.inl ⟨hw, fun w hS => by
    obtain ⟨c0, c1, c2⟩ := h w hS
    simp only [execOp, ho, hx]
    go_simp⟩
set_option maxHeartbeats 1000000 in
set_option maxRecDepth 100000 in
theorem yl_ev (hw : Region.wanted o (yielded ops a.tmps) = true) (x : Operand) (ho : o.op = .load 42 x) (g : Nat) (k : Nat) (hx : a.eval x = .pointer (some ⟨g, k, none⟩)) (x0 x1 x2 x3 x4 x5 x6 x7 x8 x9 x10 x11 : Value)
    (h : ∀ w, S w → w.cell? ⟨g, k, none⟩ = some x0 ∧ w.cell? ⟨g, k + 1, none⟩ = some x1 ∧ w.cell? ⟨g, k + 2, none⟩ = some x2 ∧ w.cell? ⟨g, k + 3, none⟩ = some x3 ∧ w.cell? ⟨g, k + 4, none⟩ = some x4 ∧ w.cell? ⟨g, k + 5, none⟩ = some x5 ∧ w.cell? ⟨g, k + 6, none⟩ = some x6 ∧ w.cell? ⟨g, k + 7, none⟩ = some x7 ∧ w.cell? ⟨g, k + 8, none⟩ = some x8 ∧ w.cell? ⟨g, k + 9, none⟩ = some x9 ∧ w.cell? ⟨g, k + 10, none⟩ = some x10 ∧ w.cell? ⟨g, k + 11, none⟩ = some x11) : YieldsIf Tryz.prog ops S o (.agg #[x0, x1, x2, x3, x4, x5, x6, x7, x8, x9, x10, x11]) a :=
  Or.inl ⟨hw, fun w hS => by
    obtain ⟨c0, c1, c2, c3, c4, c5, c6, c7, c8, c9, c10, c11⟩ := h w hS
    simp only [execOp, ho, hx]
    go_simp⟩
set_option maxHeartbeats 1000000 in
set_option maxRecDepth 100000 in
theorem yl_atEv (hw : Region.wanted o (yielded ops a.tmps) = true) (x y : Operand) (ho : o.op = .indexAddr 42 x y) (g : Nat) (i : Nat) (hx : a.eval x = .pointer (some ⟨g, 0, none⟩)) (hy : a.eval y = .int .i64 i) (hi : i < 4) : YieldsIf Tryz.prog ops S o (.pointer (some ⟨g, i * 3, none⟩)) a :=
  Or.inl ⟨hw, fun w hS => by
    simp only [execOp, ho, hx, hy]
    match i, hi with
    | 0, _ => go_simp
    | 1, _ => go_simp
    | 2, _ => go_simp
    | 3, _ => go_simp⟩
end
end Go.Proofs.YtlmdcaemjaldfaaGreatDoor
namespace Go.Proofs.YtlmdcaemjaldfaaGreatDoor
open Go.RowKit
section
variable {ops : Array Oper} {Q : Exit → Act → World → Prop} {S : World → Prop} {o : Oper} {a : Act}
theorem yl_extract0 (hw : Region.wanted o (yielded ops a.tmps) = true) (x : Operand) (ho : o.op = .extract x 0) (p q : Value) (hx : a.eval x = .tuple #[p, q]) : YieldsIf Tryz.prog ops S o p a :=
  Or.inl ⟨hw, fun w hS => by
    simp only [execOp, ho, hx]
    go_simp⟩
theorem yl_extract1 (hw : Region.wanted o (yielded ops a.tmps) = true) (x : Operand) (ho : o.op = .extract x 1) (p q : Value) (hx : a.eval x = .tuple #[p, q]) : YieldsIf Tryz.prog ops S o q a :=
  Or.inl ⟨hw, fun w hS => by
    simp only [execOp, ho, hx]
    go_simp⟩
end
end Go.Proofs.YtlmdcaemjaldfaaGreatDoor
namespace Go.Proofs.YtlmdcaemjaldfaaGreatDoor
open Go.RowKit
def ec0 : EC := ⟨0, 0, SC.zero, none, 0, 0⟩
theorem EC.val_list (c : EC) : c.val = .agg c.list.toArray := rfl
theorem EC.list_len (c : EC) : c.list.length = 7 := rfl
theorem EC.list_one (c : EC) : ∀ v ∈ c.list, v.oneCell' = true := by
  intro v hv
  unfold EC.list at hv
  simp only [List.mem_cons, List.not_mem_nil, or_false] at hv
  rcases hv with rfl | rfl | rfl | rfl | rfl | rfl | rfl <;> rfl
theorem infoEx : (Tryz.prog.info? 29).map (·.size) = some 7 := by kernel_rfl
theorem EcAt.range {w : World} {g o : Nat} {c : EC} (h : EcAt w g o c) : w.rangeAt g o c.list := by
  intro j v hv
  match j, hv with
  | 0, hv => simp [EC.list] at hv; subst hv; exact h.c0
  | 1, hv => simp [EC.list] at hv; subst hv; exact h.c1
  | 2, hv => simp [EC.list] at hv; subst hv; exact h.c2
  | 3, hv => simp [EC.list] at hv; subst hv; exact h.c3
  | 4, hv => simp [EC.list] at hv; subst hv; exact h.c4
  | 5, hv => simp [EC.list] at hv; subst hv; exact h.c5
  | 6, hv => simp [EC.list] at hv; subst hv; exact h.c6
  | n + 7, hv => simp [EC.list] at hv
theorem EcAt.ofRange {w : World} {g o : Nat} {c : EC} (h : w.rangeAt g o c.list) : EcAt w g o c :=
  ⟨h 0 _ rfl, h 1 _ rfl, h 2 _ rfl, h 3 _ rfl, h 4 _ rfl, h 5 _ rfl, h 6 _ rfl⟩
def ExIn (w : World) (g : Nat) (c : EC) : Prop := w.heap[g]? = some (exObj c)
theorem ExIn.on {w w' : World} {g : Nat} {c : EC} (h : ExIn w g c) (hb : Below w.heap.size w w') : ExIn w' g c := (hb.block _ (lt_heap h)).trans h
theorem ExIn.ec {w : World} {g : Nat} {c : EC} (h : ExIn w g c) : EcAt w g 0 c := by
  obtain ⟨c0, c1, c2, c3, c4, c5, c6⟩ := ecCells1 h
  exact ⟨c0, c1, c2, c3, c4, c5, c6⟩
structure RowX (w : World) (b n : Nat) (es : Nat → EC) : Prop where
  els : ∀ j, j < n → EcAt w b (j * 7) (es j)
  soft : ∀ i, w.frozen? ⟨b, i, none⟩ = false
theorem RowX.there {w : World} {b n : Nat} {es : Nat → EC} (h : RowX w b n es) (k : Nat) (hk : k < n) : w.there b (k * 7) 7 := fun j hj => by
  refine ⟨?_, h.soft _⟩
  have := (h.els k hk).range j
  have hl : j < (es k).list.length := hj
  rw [this _ (List.getElem?_eq_getElem hl)]
  rfl
theorem RowX.put {w : World} {b n : Nat} {es : Nat → EC} (h : RowX w b n es) (k : Nat) (hk : k < n) (d : EC) : RowX (w.setCells b (k * 7) d.list) b n (fun j => if j = k then d else es j) := by
  refine ⟨fun j hj => ?_, fun i => ?_⟩
  · by_cases e : j = k
    · subst e
      rw [if_pos rfl]
      exact EcAt.ofRange (World.rangeAt_setCells_same w b (j * 7) d.list (h.there j hk))
    · rw [if_neg e]
      refine EcAt.ofRange (World.rangeAt_setCells_apart (h.els j hj).range b (k * 7) d.list ?_)
      rw [EC.list_len, EC.list_len]
      right
      omega
  · rw [World.frozen?_setCells]; exact h.soft i
theorem size_setCells (b : Nat) : ∀ (vs : List Value) (o : Nat) (w : World), (w.setCells b o vs).heap.size = w.heap.size
  | [], _, _ => rfl
  | v :: r, o, w => by
    rw [World.setCells, size_setCells b r (o + 1)]
    simp
theorem Below.setCells {B : Nat} {w0 : World} (b : Nat) (hb : B ≤ b) : ∀ (vs : List Value) (o : Nat) (w : World), Below B w0 w → Below B w0 (w.setCells b o vs)
  | [], _, _, h => h
  | v :: r, o, w, h => by
    rw [World.setCells]
    exact Below.setCells b hb r (o + 1) _ (h.setCell (p := ⟨b, o, none⟩) hb v)
theorem Kept.setCells {m b : Nat} (w : World) (o : Nat) (vs : List Value) (h : b < m) : Kept m w (w.setCells b o vs) :=
  ⟨Nat.le_of_eq (size_setCells b vs o w).symm, fun g hg hs => World.heap_setCells_other w b o vs hs (by omega)⟩
section
variable {ops : Array Oper} {Q : Exit → Act → World → Prop} {S : World → Prop} {o : Oper} {a : Act}
theorem yl_ex (hw : Region.wanted o (yielded ops a.tmps) = true) (x : Operand) (ho : o.op = .load 29 x) (g k : Nat) (hx : a.eval x = .pointer (some ⟨g, k, none⟩)) (c : EC)
    (h : ∀ w, S w → EcAt w g k c) : YieldsIf Tryz.prog ops S o c.val a := by
  rw [EC.val_list]
  exact yieldsIf_load_mid hw 29 x ho g k hx c.list _ (fun w hS => (h w hS).range) Tryz.underlying29 rfl (by rw [infoEx]; rfl)
end
end Go.Proofs.YtlmdcaemjaldfaaGreatDoor
namespace Go.Proofs.YtlmdcaemjaldfaaGreatDoor
open Go.RowKit
end Go.Proofs.YtlmdcaemjaldfaaGreatDoor
namespace Go.Proofs.YtlmdcaemjaldfaaGreatDoor
open Go.RowKit
end Go.Proofs.YtlmdcaemjaldfaaGreatDoor
namespace Go.Proofs.YtlmdcaemjaldfaaGreatDoor
open Go.RowKit
end Go.Proofs.YtlmdcaemjaldfaaGreatDoor
namespace Go.Proofs.YtlmdcaemjaldfaaGreatDoor
open Go.RowKit
end Go.Proofs.YtlmdcaemjaldfaaGreatDoor
namespace Go.Proofs.YtlmdcaemjaldfaaGreatDoor
open Go.RowKit
structure XAt1 (w W : World) (c : EC) : Prop where
  x : W.heap[w.heap.size]? = some (Obj.cells #[.int .i64 c.k, .int .i64 c.t, .bool c.s.a, .slice c.s.p c.s.n c.s.c, .bool c.s.d, .slice c.s.q c.s.m c.s.e, .slice c.p c.n c.c] 29 (0, 0))
  b : Below w.heap.size w W
theorem XAt1.new (w : World) (c : EC) : XAt1 w (w.alloc (Obj.cells #[.int .i64 c.k, .int .i64 c.t, .bool c.s.a, .slice c.s.p c.s.n c.s.c, .bool c.s.d, .slice c.s.q c.s.m c.s.e, .slice c.p c.n c.c] 29)) c := ⟨heap_new w _, (Below.refl _ w).alloc (Nat.le_refl _) _⟩
theorem XAt1.on {w W W' : World} {c : EC} (h : XAt1 w W c) (hb : Below W.heap.size W W') : XAt1 w W' c := ⟨(hb.block _ (lt_heap h.x)).trans h.x, h.b.trans (hb.mono h.b.size)⟩
end Go.Proofs.YtlmdcaemjaldfaaGreatDoor
namespace Go.Proofs.YtlmdcaemjaldfaaGreatDoor
open Go.RowKit
end Go.Proofs.YtlmdcaemjaldfaaGreatDoor
namespace Go.Proofs.YtlmdcaemjaldfaaGreatDoor
open Go.RowKit
def sizeA (x : ExV) : Int × Int := if fitsX x then (countX 21 x, deepX 21 x) else (0, 0)
theorem progSize_any (k : Nat) (c : EC) (x : ExV) (w : World) (hx : ExAt k w c.val x) (hk : k ≤ 2000) :
    Calls Tryz.prog 15 #[c.val] w fun r w' => r = .returned (.tuple #[.int .i64 (sizeA x).1, .int .i64 (sizeA x).2]) ∧ Below w.heap.size w w' := by
  have := size_any k c x w hx hk
  rw [size_plain (ExAt.low k hx)] at this
  exact this
theorem progRight_any (k : Nat) (c : EC) (x : ExV) (w : World) (hx : ExAt k w c.val x) (hk : k ≤ 2000) :
    Calls Tryz.prog 23 #[c.val] w fun r w' => r = .returned (.bool (rightX x)) ∧ Below w.heap.size w w' := by
  have := right_any k c x w hx hk
  rw [right_plain (ExAt.low k hx)] at this
  exact this
end Go.Proofs.YtlmdcaemjaldfaaGreatDoor
namespace Go.Proofs.YtlmdcaemjaldfaaGreatDoor
open Go.RowKit
def Xp (n : Nat) (w : World) (c : EC) (x : ExV) : Prop := ExAt n w c.val x
theorem Xp.on {n : Nat} {w w' : World} {c : EC} {x : ExV} (h : Xp n w c x) (hb : Below w.heap.size w w') : Xp n w' c x := ExAt.on hb n h
def StB (w : World) (g : Nat) (s : SC) : Prop := w.heap[g]? = some (stObj s)
theorem StB.on {w w' : World} {g : Nat} {s : SC} (h : StB w g s) (hb : Below w.heap.size w w') : StB w' g s := (hb.block _ (lt_heap h)).trans h
def vaZ : Va := (0, 0, ⟨#[]⟩)
def evZ : EvV := ⟨vaZ, vaZ, vaZ, vaZ⟩
theorem evZ_fit : evFit evZ := ⟨Nat.zero_le _, Nat.zero_le _, Nat.zero_le _, Nat.zero_le _⟩
section
variable {ops : Array Oper} {Q : Exit → Act → World → Prop} {S : World → Prop} {o : Oper} {a : Act}
set_option maxRecDepth 100000 in
theorem wl_newEx {o2 : Oper} {rest : List Oper} {w : World} (hw : Region.wanted o (yielded ops a.tmps) = true) (ho : o.op = .alloc 29) (x y : Operand) (ho2 : o2.op = .store 29 x y) (hg2 : o2.guard = none)
    (hx : ∀ v, (a.put o.dst v).eval x = v) {c : EC} (hy : ∀ v, (a.put o.dst v).eval y = c.val)
    (h : ∀ W g, ExIn W g c → Below w.heap.size w W → wpList Tryz.prog ops Q rest ((a.put o.dst (.pointer (some ⟨g, 0, none⟩))).put o2.dst undef) W) : wpList Tryz.prog ops Q (o :: o2 :: rest) a w := by
  refine wl_run hw (.pointer (some ⟨w.heap.size, 0, none⟩)) (w.alloc (exObj ec0)) ?_ ?_
  · simp only [execOp, ho, exObj, ec0, SC.zero]
    go_simp
  · have hz : ExIn (w.alloc (exObj ec0)) w.heap.size ec0 := heap_new _ _
    have ht : (w.alloc (exObj ec0)).there w.heap.size 0 7 := fun j hj => by
      refine ⟨?_, soft_heap hz _⟩
      rw [hz.ec.range j _ (List.getElem?_eq_getElem (show j < ec0.list.length from hj))]
      rfl
    refine wpList_store_mid hg2 29 x y ho2 w.heap.size 0 c.list.toArray (hx _) (hy _) ht (by rw [infoEx]; rfl) (all_oneCell_toArray c.list_one) ?_
    refine h _ _ ?_ (Below.setCells w.heap.size (Nat.le_refl _) c.list 0 _ ((Below.refl _ w).alloc (Nat.le_refl _) _))
    exact heap_put (heap_put (heap_put (heap_put (heap_put (heap_put (heap_put hz 0 (.int .i64 c.k)) 1 (.int .i64 c.t)) 2 (.bool c.s.a)) 3 (.slice c.s.p c.s.n c.s.c)) 4 (.bool c.s.d)) 5 (.slice c.s.q c.s.m c.s.e)) 6 (.slice c.p c.n c.c)
theorem yl_zeroE (hw : Region.wanted o (yielded ops a.tmps) = true) (ho : o.op = .build 42 #[]) : YieldsIf Tryz.prog ops S o (evVal evZ) a :=
  Or.inl ⟨hw, fun w _ => by
    simp only [execOp, ho, evVal, evZ, vaZ]
    go_simp⟩
theorem yl_zeroX (hw : Region.wanted o (yielded ops a.tmps) = true) (ho : o.op = .build 29 #[]) : YieldsIf Tryz.prog ops S o ec0.val a :=
  Or.inl ⟨hw, fun w _ => by
    simp only [execOp, ho, EC.val, ec0, SC.zero]
    go_simp⟩
theorem yl_neqB (hw : Region.wanted o (yielded ops a.tmps) = true) (x y : Operand) (t : TypeId) (ho : o.op = .binOp .neq 4 x y t) (p q : Bool) (hx : a.eval x = .bool p) (hy : a.eval y = .bool q) : YieldsIf Tryz.prog ops S o (.bool (p != q)) a :=
  Or.inl ⟨hw, fun w hS => by
    simp only [execOp, ho, hx, hy]
    go_simp
    cases p <;> cases q <;> rfl⟩
end
theorem c_size {n : Nat} {w : World} {c : EC} {x : ExV} (h : Xp n w c x) (hn : n ≤ 2000) : Calls Tryz.prog 15 #[c.val] w fun r w' => r = .returned (.tuple #[.int .i64 (sizeA x).1, .int .i64 (sizeA x).2]) ∧ Below w.heap.size w w' := progSize_any n c x w h hn
theorem c_right {n : Nat} {w : World} {c : EC} {x : ExV} (h : Xp n w c x) (hn : n ≤ 2000) : Calls Tryz.prog 23 #[c.val] w fun r w' => r = .returned (.bool (rightX x)) ∧ Below w.heap.size w w' := progRight_any n c x w h hn
end Go.Proofs.YtlmdcaemjaldfaaGreatDoor
namespace Go.Proofs.YtlmdcaemjaldfaaGreatDoor
open Go.RowKit
theorem heap_on {w w' : World} {g : Nat} {x : Obj} (h : w.heap[g]? = some x) (hb : Below w.heap.size w w') : w'.heap[g]? = some x := (hb.block _ (lt_heap h)).trans h
theorem heap_gr {w w' : World} {g b : Nat} {x : Obj} (h : w.heap[g]? = some x) (hg : w.grownBy w' (some b)) (hn : g ≠ b) : w'.heap[g]? = some x := (hg.block _ (lt_heap h) (by intro e; injection e with e; exact hn e)).trans h
theorem gr_new {a w w' : World} {r : Option Nat} {g : Nat} (h : a.grownBy w r) (hg : a.heap.size ≤ g) (k : w.grownBy w' (some g)) : a.grownBy w' r :=
  ⟨k.os.trans h.os, k.tape.trans h.tape, k.output.trans h.output, Nat.le_trans h.size k.size, fun i hi hr => (k.block i (Nat.lt_of_lt_of_le hi h.size) (by intro e; injection e with e; omega)).trans (h.block i hi hr)⟩
theorem Rdr.gr {w w' : World} {b g : Nat} {l : List UInt8} (h : Rdr w b l) (k : w.grownBy w' (some g)) (hn : b ≠ g) (h6 : 6 ≤ g) : Rdr w' b l :=
  ⟨h.env.below (B := 6) (Nat.le_refl _) (below_of_grown k h6 (by have := h.env.big; omega)), h.six, by
    rcases h.rd with hr | hr
    · exact Or.inl (heap_gr hr k hn)
    · exact Or.inr (heap_gr hr k hn)⟩
theorem Env.gr {w w' : World} {g : Nat} (h : Env w) (k : w.grownBy w' (some g)) (h6 : 6 ≤ g) : Env w' := h.below (B := 6) (Nat.le_refl _) (below_of_grown k h6 (by have := h.big; omega))
theorem put_cells (g : Nat) (t : TypeId) : ∀ (ds cs pre : List Value) (w : World), w.heap[g]? = some (.cells (pre ++ cs).toArray t (0, 0)) → cs.length = ds.length → (w.setCells g pre.length ds).heap[g]? = some (.cells (pre ++ ds).toArray t (0, 0)) ∧ w.grownBy (w.setCells g pre.length ds) (some g)
  | [], [], pre, w, h, _ => ⟨h, grown_refl _ _⟩
  | d :: ds, c :: cs, pre, w, h, hl => by
    have h1 := heap_setCell (i := pre.length) d h
    have e : ((pre ++ c :: cs).toArray).setIfInBounds pre.length d = ((pre ++ [d]) ++ cs).toArray := by simp
    rw [e] at h1
    obtain ⟨h2, h3⟩ := put_cells g t ds cs (pre ++ [d]) _ h1 (by simpa using hl)
    rw [List.length_append, List.length_cons, List.length_nil] at h2 h3
    rw [List.append_assoc, List.cons_append, List.nil_append] at h2
    exact ⟨h2, grown_trans (grown_put _ _ _ _) h3⟩
theorem put_whole {w : World} {g : Nat} {t : TypeId} {cs : Array Value} (ds : List Value) (h : w.heap[g]? = some (.cells cs t (0, 0))) (hl : cs.size = ds.length) : (w.setCells g 0 ds).heap[g]? = some (.cells ds.toArray t (0, 0)) ∧ w.grownBy (w.setCells g 0 ds) (some g) :=
  put_cells g t ds cs.toList [] w (by simpa using h) (by simpa using hl)
theorem bs_cat (l m : List UInt8) : bs l ++ bs m = bs (l ++ m) := by
  unfold bs
  apply ByteArray.ext
  simp
theorem bs_toList (l : List UInt8) : (bs l).toList = l := by rw [ByteArray.toList_eq, bs_list]
theorem bs_drop (l : List UInt8) (j : Nat) : (bs l).extract j (bs l).size = bs (l.drop j) := by
  apply ByteArray.ext
  apply Array.toList_inj.1
  rw [Lib.extract_data, bs_list, bs_list, List.take_of_length_le]
  rw [List.length_drop, bs_size]
  omega
theorem bs_sub (l : List UInt8) (i j : Nat) (h : i ≤ j) : (bs l).extract i j = bs ((l.drop i).take (j - i)) := by
  apply ByteArray.ext
  apply Array.toList_inj.1
  rw [Lib.extract_data, bs_list, bs_list]
section
variable {ops : Array Oper} {Q : Exit → Act → World → Prop} {S : World → Prop} {o : Oper} {a : Act}
theorem wt_call {rest : List Oper} {w : World} (hw : Region.wanted o (yielded ops a.tmps) = true)
    (f : Nat) (xs : Array Operand) (ts : Array TypeId) (ho : o.op = .call { callee := .value (.func f), args := xs, argTypes := ts }) (vs : Array Value) (hv : xs.toList.map a.eval = vs.toList)
    (hrun : ∀ (W : World) (A : Array Value), (callFunc f A).run Tryz.prog W = .ok (.enter f A) W)
    (hc : Calls Tryz.prog f vs w fun r w' => (∃ v, r = .returned v ∧ wpList Tryz.prog ops Q rest (a.put o.dst v) w') ∨ (∃ ch, r = .panicked ch ∧ Q (.panic ch) a w')) : wpList Tryz.prog ops Q (o :: rest) a w := by
  unfold wpList
  rw [if_pos hw]
  left
  have hv : xs.map a.eval = vs := by
    rw [← Array.toList_inj, Array.toList_map]
    exact hv
  have he : a.eval (.func f) = .func (.func f) #[] #[] := rfl
  have hx : (execOp a.eval o).run Tryz.prog w = .ok (.enter f vs) w := by
    have := hrun w vs
    simp [execOp, ho, resolve, he, hv, Deferred.ofValue, invoke, this]
  unfold Oper.wp
  rw [hx, Oper.upon_enter]
  refine hc.mono ?_
  rintro e w' (⟨v, rfl, h1⟩ | ⟨ch, rfl, h1⟩)
  · exact h1
  · exact h1
theorem wt_callv {rest : List Oper} {w : World} (hw : Region.wanted o (yielded ops a.tmps) = true)
    (f : Nat) (x : Operand) (xs : Array Operand) (ts : Array TypeId) (ho : o.op = .call { callee := .value x, args := xs, argTypes := ts }) (caps : Array Value) (hx : a.eval x = .func (.func f) #[] caps) (vs : Array Value) (hv : xs.toList.map a.eval = vs.toList)
    (hrun : ∀ (W : World) (A : Array Value), (callFunc f A).run Tryz.prog W = .ok (.enter f A) W)
    (hc : Calls Tryz.prog f (vs ++ caps) w fun r w' => (∃ v, r = .returned v ∧ wpList Tryz.prog ops Q rest (a.put o.dst v) w') ∨ (∃ ch, r = .panicked ch ∧ Q (.panic ch) a w')) : wpList Tryz.prog ops Q (o :: rest) a w := by
  unfold wpList
  rw [if_pos hw]
  left
  have hv : xs.map a.eval = vs := by
    rw [← Array.toList_inj, Array.toList_map]
    exact hv
  have hx : (execOp a.eval o).run Tryz.prog w = .ok (.enter f (vs ++ caps)) w := by
    have := hrun w (vs ++ caps)
    simp [execOp, ho, resolve, hx, hv, Deferred.ofValue, invoke, this]
  unfold Oper.wp
  rw [hx, Oper.upon_enter]
  refine hc.mono ?_
  rintro e w' (⟨v, rfl, h1⟩ | ⟨ch, rfl, h1⟩)
  · exact h1
  · exact h1
theorem wt_panic {rest : List Oper} {w : World} (hw : Region.wanted o (yielded ops a.tmps) = true) (x : Operand) (ho : o.op = .panic x) (t : TypeId) (v : Value) (hx : a.eval x = .iface t v)
    (h : Q (.panic [{ v := .iface t v, recovered := false }]) a w) : wpList Tryz.prog ops Q (o :: rest) a w := by
  unfold wpList
  rw [if_pos hw]
  left
  have hr : (execOp a.eval o).run Tryz.prog w = .halt (.panic (.iface t v)) w := by
    simp only [execOp, ho, hx]
    go_simp
  unfold Oper.wp
  rw [hr, Oper.upon_panic]
  exact h
theorem yt_iface (hw : Region.wanted o (yielded ops a.tmps) = true) (x : Operand) (ho : o.op = .makeInterface 30 x) (z : Int) (hx : a.eval x = .int .i64 z) : YieldsIf Tryz.prog ops S o (.iface 30 (.int .i64 z)) a :=
  Or.inl ⟨hw, fun w hS => by
    simp only [execOp, ho, hx]
    go_simp⟩
theorem yt_nil (hw : Region.wanted o (yielded ops a.tmps) = true) (x : Operand) (ho : o.op = .nilCheck x) (p : Addr) (hx : a.eval x = .pointer (some p)) : YieldsIf Tryz.prog ops S o (.pointer (some p)) a :=
  Or.inl ⟨hw, fun w hS => by
    simp only [execOp, ho, hx]
    go_simp⟩
theorem yt_fn2 (hw : Region.wanted o (yielded ops a.tmps) = true) (f : Nat) (x y : Operand) (ho : o.op = .makeFunc (.func f) #[] #[x, y]) (v u : Value) (hx : a.eval x = v) (hy : a.eval y = u) : YieldsIf Tryz.prog ops S o (.func (.func f) #[] #[v, u]) a :=
  Or.inl ⟨hw, fun w hS => by
    simp only [execOp, ho, List.map_toArray, List.map_cons, List.map_nil, hx, hy]
    go_simp⟩
theorem wt_left {rest : List Oper} {w : World} (hw : Region.wanted o (yielded ops a.tmps) = true) (x y : Operand) (ho : o.op = .store 9 x y) (g : Nat) (hx : a.eval x = .pointer (some ⟨g, 0, none⟩)) (r : List UInt8) (hy : a.eval y = .string (bs r)) {l : List UInt8} (hc : RdL w g l)
    (h : ∀ W, RdL W g r → w.grownBy W (some g) → wpList Tryz.prog ops Q rest (a.put o.dst undef) W) : wpList Tryz.prog ops Q (o :: rest) a w := by
  obtain ⟨c0, f0⟩ := hc.cell
  refine wl_skip hw (w.setCell ⟨g, 0, none⟩ (.string (bs r))) ?_ (h _ (hc.put r) (grown_put _ _ _ _))
  simp only [execOp, ho, hx, hy]
  go_simp
theorem yt_cat (hw : Region.wanted o (yielded ops a.tmps) = true) (x y : Operand) (t : TypeId) (ho : o.op = .binOp .add 9 x y t) (l m : List UInt8) (hx : a.eval x = .string (bs l)) (hy : a.eval y = .string (bs m)) (hl : l.length + m.length ≤ 9223372036854775807) : YieldsIf Tryz.prog ops S o (.string (bs (l ++ m))) a :=
  Or.inl ⟨hw, fun w hS => by
    have h1 : ¬ 9223372036854775807 < (bs l).size + (bs m).size := by rw [bs_size, bs_size]; omega
    simp only [execOp, ho, hx, hy]
    go_simp
    rw [← bs_cat]⟩
theorem yt_lenS (hw : Region.wanted o (yielded ops a.tmps) = true) (x : Operand) (ho : o.op = .call { callee := .builtin .len, args := #[x], argTypes := #[9] }) (l : List UInt8) (hx : a.eval x = .string (bs l)) : YieldsIf Tryz.prog ops S o (.int .i64 (l.length : Nat)) a :=
  Or.inl ⟨hw, fun w hS => by
    unfold execOp
    simp only [ho, resolve, invoke, builtin, Sem.run_bind, Sem.run_pure, Result.andThen_ok, List.map_toArray, List.map_cons, List.map_nil, hx]
    go_simp
    rw [bs_size]⟩
theorem yt_eqS (hw : Region.wanted o (yielded ops a.tmps) = true) (x y : Operand) (t : TypeId) (ho : o.op = .binOp .eql 9 x y t) (l m : List UInt8) (r : Bool) (hx : a.eval x = .string (bs l)) (hy : a.eval y = .string (bs m)) (hr : (l == m) = r) : YieldsIf Tryz.prog ops S o (.bool r) a :=
  Or.inl ⟨hw, fun w hS => by
    subst hr
    simp only [execOp, ho, hx, hy]
    go_simp
    simp [bs_toList]⟩
theorem yt_neqS (hw : Region.wanted o (yielded ops a.tmps) = true) (x y : Operand) (t : TypeId) (ho : o.op = .binOp .neq 9 x y t) (l m : List UInt8) (r : Bool) (hx : a.eval x = .string (bs l)) (hy : a.eval y = .string (bs m)) (hr : (l != m) = r) : YieldsIf Tryz.prog ops S o (.bool r) a :=
  Or.inl ⟨hw, fun w hS => by
    subst hr
    simp only [execOp, ho, hx, hy]
    go_simp
    simp [bs_toList, bne]⟩
theorem yt_fromS (hw : Region.wanted o (yielded ops a.tmps) = true) (x y : Operand) (ho : o.op = .slice 9 x (some y) none none) (l : List UInt8) (j : Nat) (hx : a.eval x = .string (bs l)) (hy : a.eval y = .int .i64 j) (hj : j ≤ l.length) : YieldsIf Tryz.prog ops S o (.string (bs (l.drop j))) a :=
  Or.inl ⟨hw, fun w hS => by
    have h1 : j ≤ (bs l).size := by rw [bs_size]; exact hj
    have h2 : ¬ (bs l).size < j := by omega
    simp only [execOp, ho, hx, hy, Option.map]
    rw [← bs_drop]
    go_simp⟩
theorem yt_subS (hw : Region.wanted o (yielded ops a.tmps) = true) (x y z : Operand) (ho : o.op = .slice 9 x (some y) (some z) none) (l : List UInt8) (i j : Nat) (hx : a.eval x = .string (bs l)) (hy : a.eval y = .int .i64 i) (hz : a.eval z = .int .i64 j) (hi : i ≤ j) (hj : j ≤ l.length) : YieldsIf Tryz.prog ops S o (.string (bs ((l.drop i).take (j - i)))) a :=
  Or.inl ⟨hw, fun w hS => by
    have h1 : j ≤ (bs l).size := by rw [bs_size]; exact hj
    have h2 : ¬ (bs l).size < j := by omega
    simp only [execOp, ho, hx, hy, hz, Option.map]
    rw [← bs_sub _ _ _ hi]
    go_simp⟩
theorem yt_addI (hw : Region.wanted o (yielded ops a.tmps) = true) (x y : Operand) (t : TypeId) (ho : o.op = .binOp .add 3 x y t) (p q r : Int) (hx : a.eval x = .int .i64 p) (hy : a.eval y = .int .i64 q) (hr : p + q = r) (h0 : -9223372036854775808 ≤ r) (h1 : r ≤ 9223372036854775807) : YieldsIf Tryz.prog ops S o (.int .i64 r) a :=
  Or.inl ⟨hw, fun w hS => by
    subst hr
    simp only [execOp, ho, hx, hy]
    go_simp
    rw [IntKind.wrap_i64]; omega⟩
theorem yt_eqlI (hw : Region.wanted o (yielded ops a.tmps) = true) (x y : Operand) (t : TypeId) (ho : o.op = .binOp .eql 3 x y t) (p q : Int) (r : Bool) (hx : a.eval x = .int .i64 p) (hy : a.eval y = .int .i64 q) (hr : decide (p = q) = r) : YieldsIf Tryz.prog ops S o (.bool r) a :=
  Or.inl ⟨hw, fun w hS => by
    subst hr
    simp only [execOp, ho, hx, hy]
    go_simp
    all_goals (by_cases h : p = q <;> simp [h] <;> (try omega))⟩
theorem yt_neqI (hw : Region.wanted o (yielded ops a.tmps) = true) (x y : Operand) (t : TypeId) (ho : o.op = .binOp .neq 3 x y t) (p q : Int) (r : Bool) (hx : a.eval x = .int .i64 p) (hy : a.eval y = .int .i64 q) (hr : decide (¬ p = q) = r) : YieldsIf Tryz.prog ops S o (.bool r) a :=
  Or.inl ⟨hw, fun w hS => by
    subst hr
    simp only [execOp, ho, hx, hy]
    go_simp
    all_goals (by_cases h : p = q <;> simp [h] <;> (try omega))⟩
theorem yt_lssI (hw : Region.wanted o (yielded ops a.tmps) = true) (x y : Operand) (t : TypeId) (ho : o.op = .binOp .lss 3 x y t) (p q : Int) (r : Bool) (hx : a.eval x = .int .i64 p) (hy : a.eval y = .int .i64 q) (hr : decide (p < q) = r) : YieldsIf Tryz.prog ops S o (.bool r) a :=
  Or.inl ⟨hw, fun w hS => by
    subst hr
    simp only [execOp, ho, hx, hy]
    go_simp
    all_goals (by_cases h : p < q <;> simp [h] <;> (try omega))⟩
theorem yt_gtrI (hw : Region.wanted o (yielded ops a.tmps) = true) (x y : Operand) (t : TypeId) (ho : o.op = .binOp .gtr 3 x y t) (p q : Int) (r : Bool) (hx : a.eval x = .int .i64 p) (hy : a.eval y = .int .i64 q) (hr : decide (q < p) = r) : YieldsIf Tryz.prog ops S o (.bool r) a :=
  Or.inl ⟨hw, fun w hS => by
    subst hr
    simp only [execOp, ho, hx, hy]
    go_simp
    all_goals (by_cases h : q < p <;> simp [h] <;> (try omega))⟩
theorem yt_geqI (hw : Region.wanted o (yielded ops a.tmps) = true) (x y : Operand) (t : TypeId) (ho : o.op = .binOp .geq 3 x y t) (p q : Int) (r : Bool) (hx : a.eval x = .int .i64 p) (hy : a.eval y = .int .i64 q) (hr : decide (q ≤ p) = r) : YieldsIf Tryz.prog ops S o (.bool r) a :=
  Or.inl ⟨hw, fun w hS => by
    subst hr
    simp only [execOp, ho, hx, hy]
    go_simp
    all_goals (by_cases h : q ≤ p <;> simp [h] <;> (try omega))⟩
theorem yt_eqlE (hw : Region.wanted o (yielded ops a.tmps) = true) (x y : Operand) (t : TypeId) (ho : o.op = .binOp .eql 30 x y t) (p q : Int) (r : Bool) (hx : a.eval x = .int .i64 p) (hy : a.eval y = .int .i64 q) (hr : decide (p = q) = r) : YieldsIf Tryz.prog ops S o (.bool r) a :=
  Or.inl ⟨hw, fun w hS => by
    subst hr
    simp only [execOp, ho, hx, hy]
    go_simp
    by_cases h : p = q <;> simp [h]⟩
theorem yt_neqE (hw : Region.wanted o (yielded ops a.tmps) = true) (x y : Operand) (t : TypeId) (ho : o.op = .binOp .neq 30 x y t) (p q : Int) (r : Bool) (hx : a.eval x = .int .i64 p) (hy : a.eval y = .int .i64 q) (hr : decide (¬ p = q) = r) : YieldsIf Tryz.prog ops S o (.bool r) a :=
  Or.inl ⟨hw, fun w hS => by
    subst hr
    simp only [execOp, ho, hx, hy]
    go_simp
    by_cases h : p = q <;> simp [h]⟩
theorem yt_ext3_0 (hw : Region.wanted o (yielded ops a.tmps) = true) (x : Operand) (ho : o.op = .extract x 0) (x0 x1 x2 : Value) (hx : a.eval x = .tuple #[x0, x1, x2]) : YieldsIf Tryz.prog ops S o x0 a :=
  Or.inl ⟨hw, fun w hS => by
    simp only [execOp, ho, hx]
    go_simp⟩
theorem yt_ext3_1 (hw : Region.wanted o (yielded ops a.tmps) = true) (x : Operand) (ho : o.op = .extract x 1) (x0 x1 x2 : Value) (hx : a.eval x = .tuple #[x0, x1, x2]) : YieldsIf Tryz.prog ops S o x1 a :=
  Or.inl ⟨hw, fun w hS => by
    simp only [execOp, ho, hx]
    go_simp⟩
theorem yt_ext3_2 (hw : Region.wanted o (yielded ops a.tmps) = true) (x : Operand) (ho : o.op = .extract x 2) (x0 x1 x2 : Value) (hx : a.eval x = .tuple #[x0, x1, x2]) : YieldsIf Tryz.prog ops S o x2 a :=
  Or.inl ⟨hw, fun w hS => by
    simp only [execOp, ho, hx]
    go_simp⟩
set_option maxRecDepth 100000 in
theorem yt_fRd0 (hw : Region.wanted o (yielded ops a.tmps) = true) (x : Operand) (ho : o.op = .fieldAddr 100 x 0) (g k : Nat) (hx : a.eval x = .pointer (some ⟨g, k, none⟩)) : YieldsIf Tryz.prog ops S o (.pointer (some ⟨g, k + 0, none⟩)) a :=
  Or.inl ⟨hw, fun w hS => by
    simp only [execOp, ho, hx]
    go_simp⟩
set_option maxRecDepth 100000 in
theorem yt_fRd1 (hw : Region.wanted o (yielded ops a.tmps) = true) (x : Operand) (ho : o.op = .fieldAddr 100 x 1) (g k : Nat) (hx : a.eval x = .pointer (some ⟨g, k, none⟩)) : YieldsIf Tryz.prog ops S o (.pointer (some ⟨g, k + 1, none⟩)) a :=
  Or.inl ⟨hw, fun w hS => by
    simp only [execOp, ho, hx]
    go_simp⟩
set_option maxRecDepth 100000 in
theorem yt_fVa0 (hw : Region.wanted o (yielded ops a.tmps) = true) (x : Operand) (ho : o.op = .fieldAddr 40 x 0) (g k : Nat) (hx : a.eval x = .pointer (some ⟨g, k, none⟩)) : YieldsIf Tryz.prog ops S o (.pointer (some ⟨g, k + 0, none⟩)) a :=
  Or.inl ⟨hw, fun w hS => by
    simp only [execOp, ho, hx]
    go_simp⟩
set_option maxRecDepth 100000 in
theorem yt_fVa1 (hw : Region.wanted o (yielded ops a.tmps) = true) (x : Operand) (ho : o.op = .fieldAddr 40 x 1) (g k : Nat) (hx : a.eval x = .pointer (some ⟨g, k, none⟩)) : YieldsIf Tryz.prog ops S o (.pointer (some ⟨g, k + 1, none⟩)) a :=
  Or.inl ⟨hw, fun w hS => by
    simp only [execOp, ho, hx]
    go_simp⟩
set_option maxRecDepth 100000 in
theorem yt_fVa2 (hw : Region.wanted o (yielded ops a.tmps) = true) (x : Operand) (ho : o.op = .fieldAddr 40 x 2) (g k : Nat) (hx : a.eval x = .pointer (some ⟨g, k, none⟩)) : YieldsIf Tryz.prog ops S o (.pointer (some ⟨g, k + 2, none⟩)) a :=
  Or.inl ⟨hw, fun w hS => by
    simp only [execOp, ho, hx]
    go_simp⟩
set_option maxRecDepth 100000 in
theorem yt_fSt0 (hw : Region.wanted o (yielded ops a.tmps) = true) (x : Operand) (ho : o.op = .fieldAddr 26 x 0) (g k : Nat) (hx : a.eval x = .pointer (some ⟨g, k, none⟩)) : YieldsIf Tryz.prog ops S o (.pointer (some ⟨g, k + 0, none⟩)) a :=
  Or.inl ⟨hw, fun w hS => by
    simp only [execOp, ho, hx]
    go_simp⟩
set_option maxRecDepth 100000 in
theorem yt_fSt1 (hw : Region.wanted o (yielded ops a.tmps) = true) (x : Operand) (ho : o.op = .fieldAddr 26 x 1) (g k : Nat) (hx : a.eval x = .pointer (some ⟨g, k, none⟩)) : YieldsIf Tryz.prog ops S o (.pointer (some ⟨g, k + 1, none⟩)) a :=
  Or.inl ⟨hw, fun w hS => by
    simp only [execOp, ho, hx]
    go_simp⟩
set_option maxRecDepth 100000 in
theorem yt_fSt2 (hw : Region.wanted o (yielded ops a.tmps) = true) (x : Operand) (ho : o.op = .fieldAddr 26 x 2) (g k : Nat) (hx : a.eval x = .pointer (some ⟨g, k, none⟩)) : YieldsIf Tryz.prog ops S o (.pointer (some ⟨g, k + 2, none⟩)) a :=
  Or.inl ⟨hw, fun w hS => by
    simp only [execOp, ho, hx]
    go_simp⟩
set_option maxRecDepth 100000 in
theorem yt_fSt3 (hw : Region.wanted o (yielded ops a.tmps) = true) (x : Operand) (ho : o.op = .fieldAddr 26 x 3) (g k : Nat) (hx : a.eval x = .pointer (some ⟨g, k, none⟩)) : YieldsIf Tryz.prog ops S o (.pointer (some ⟨g, k + 3, none⟩)) a :=
  Or.inl ⟨hw, fun w hS => by
    simp only [execOp, ho, hx]
    go_simp⟩
set_option maxRecDepth 100000 in
theorem yt_fRg0 (hw : Region.wanted o (yielded ops a.tmps) = true) (x : Operand) (ho : o.op = .fieldAddr 96 x 0) (g k : Nat) (hx : a.eval x = .pointer (some ⟨g, k, none⟩)) : YieldsIf Tryz.prog ops S o (.pointer (some ⟨g, k + 0, none⟩)) a :=
  Or.inl ⟨hw, fun w hS => by
    simp only [execOp, ho, hx]
    go_simp⟩
set_option maxRecDepth 100000 in
theorem yt_fRg1 (hw : Region.wanted o (yielded ops a.tmps) = true) (x : Operand) (ho : o.op = .fieldAddr 96 x 1) (g k : Nat) (hx : a.eval x = .pointer (some ⟨g, k, none⟩)) : YieldsIf Tryz.prog ops S o (.pointer (some ⟨g, k + 1, none⟩)) a :=
  Or.inl ⟨hw, fun w hS => by
    simp only [execOp, ho, hx]
    go_simp⟩
set_option maxRecDepth 100000 in
theorem yt_fRr0 (hw : Region.wanted o (yielded ops a.tmps) = true) (x : Operand) (ho : o.op = .fieldAddr 60 x 0) (g k : Nat) (hx : a.eval x = .pointer (some ⟨g, k, none⟩)) : YieldsIf Tryz.prog ops S o (.pointer (some ⟨g, k + 0, none⟩)) a :=
  Or.inl ⟨hw, fun w hS => by
    simp only [execOp, ho, hx]
    go_simp⟩
set_option maxRecDepth 100000 in
theorem yt_fRr1 (hw : Region.wanted o (yielded ops a.tmps) = true) (x : Operand) (ho : o.op = .fieldAddr 60 x 1) (g k : Nat) (hx : a.eval x = .pointer (some ⟨g, k, none⟩)) : YieldsIf Tryz.prog ops S o (.pointer (some ⟨g, k + 1, none⟩)) a :=
  Or.inl ⟨hw, fun w hS => by
    simp only [execOp, ho, hx]
    go_simp⟩
set_option maxRecDepth 100000 in
theorem yt_fEx0 (hw : Region.wanted o (yielded ops a.tmps) = true) (x : Operand) (ho : o.op = .fieldAddr 29 x 0) (g k : Nat) (hx : a.eval x = .pointer (some ⟨g, k, none⟩)) : YieldsIf Tryz.prog ops S o (.pointer (some ⟨g, k + 0, none⟩)) a :=
  Or.inl ⟨hw, fun w hS => by
    simp only [execOp, ho, hx]
    go_simp⟩
set_option maxRecDepth 100000 in
theorem yt_fEx1 (hw : Region.wanted o (yielded ops a.tmps) = true) (x : Operand) (ho : o.op = .fieldAddr 29 x 1) (g k : Nat) (hx : a.eval x = .pointer (some ⟨g, k, none⟩)) : YieldsIf Tryz.prog ops S o (.pointer (some ⟨g, k + 1, none⟩)) a :=
  Or.inl ⟨hw, fun w hS => by
    simp only [execOp, ho, hx]
    go_simp⟩
set_option maxRecDepth 100000 in
theorem yt_fEx2 (hw : Region.wanted o (yielded ops a.tmps) = true) (x : Operand) (ho : o.op = .fieldAddr 29 x 2) (g k : Nat) (hx : a.eval x = .pointer (some ⟨g, k, none⟩)) : YieldsIf Tryz.prog ops S o (.pointer (some ⟨g, k + 2, none⟩)) a :=
  Or.inl ⟨hw, fun w hS => by
    simp only [execOp, ho, hx]
    go_simp⟩
set_option maxRecDepth 100000 in
theorem yt_fEx3 (hw : Region.wanted o (yielded ops a.tmps) = true) (x : Operand) (ho : o.op = .fieldAddr 29 x 3) (g k : Nat) (hx : a.eval x = .pointer (some ⟨g, k, none⟩)) : YieldsIf Tryz.prog ops S o (.pointer (some ⟨g, k + 6, none⟩)) a :=
  Or.inl ⟨hw, fun w hS => by
    simp only [execOp, ho, hx]
    go_simp⟩
theorem yt_ldS (hw : Region.wanted o (yielded ops a.tmps) = true) (x : Operand) (ho : o.op = .load 9 x) (g k : Nat) (hx : a.eval x = .pointer (some ⟨g, k, none⟩)) (s : ByteArray) (h : ∀ w, S w → w.cell? ⟨g, k, none⟩ = some (.string s)) : YieldsIf Tryz.prog ops S o (.string s) a :=
  Or.inl ⟨hw, fun w hS => by
    have := h w hS
    simp only [execOp, ho, hx]
    go_simp⟩
theorem yt_ldI (hw : Region.wanted o (yielded ops a.tmps) = true) (x : Operand) (ho : o.op = .load 3 x) (g k : Nat) (hx : a.eval x = .pointer (some ⟨g, k, none⟩)) (z : Int) (h : ∀ w, S w → w.cell? ⟨g, k, none⟩ = some (.int .i64 z)) : YieldsIf Tryz.prog ops S o (.int .i64 z) a :=
  Or.inl ⟨hw, fun w hS => by
    have := h w hS
    simp only [execOp, ho, hx]
    go_simp⟩
theorem wt_putI {rest : List Oper} {w : World} (hw : Region.wanted o (yielded ops a.tmps) = true) (x y : Operand) (ho : o.op = .store 3 x y) (g k : Nat) (hx : a.eval x = .pointer (some ⟨g, k, none⟩)) (z : Int) (hy : a.eval y = .int .i64 z) {cs : Array Value} {t : TypeId} (hc : w.heap[g]? = some (.cells cs t (0, 0))) (hk : k < cs.size)
    (h : ∀ W, W.heap[g]? = some (.cells (cs.setIfInBounds k (.int .i64 z)) t (0, 0)) → w.grownBy W (some g) → wpList Tryz.prog ops Q rest (a.put o.dst undef) W) : wpList Tryz.prog ops Q (o :: rest) a w := by
  have c0 : w.cell? ⟨g, k, none⟩ = some cs[k] := by rw [cell_heap hc, Array.getElem?_eq_getElem hk]
  have f0 := frozen_heap hc k
  refine wl_skip hw (w.setCell ⟨g, k, none⟩ (.int .i64 z)) ?_ (h _ (heap_setCell _ hc) (grown_put _ _ _ _))
  simp only [execOp, ho, hx, hy]
  go_simp
theorem yt_ldB (hw : Region.wanted o (yielded ops a.tmps) = true) (x : Operand) (ho : o.op = .load 4 x) (g k : Nat) (hx : a.eval x = .pointer (some ⟨g, k, none⟩)) (z : Bool) (h : ∀ w, S w → w.cell? ⟨g, k, none⟩ = some (.bool z)) : YieldsIf Tryz.prog ops S o (.bool z) a :=
  Or.inl ⟨hw, fun w hS => by
    have := h w hS
    simp only [execOp, ho, hx]
    go_simp⟩
theorem wt_putB {rest : List Oper} {w : World} (hw : Region.wanted o (yielded ops a.tmps) = true) (x y : Operand) (ho : o.op = .store 4 x y) (g k : Nat) (hx : a.eval x = .pointer (some ⟨g, k, none⟩)) (z : Bool) (hy : a.eval y = .bool z) {cs : Array Value} {t : TypeId} (hc : w.heap[g]? = some (.cells cs t (0, 0))) (hk : k < cs.size)
    (h : ∀ W, W.heap[g]? = some (.cells (cs.setIfInBounds k (.bool z)) t (0, 0)) → w.grownBy W (some g) → wpList Tryz.prog ops Q rest (a.put o.dst undef) W) : wpList Tryz.prog ops Q (o :: rest) a w := by
  have c0 : w.cell? ⟨g, k, none⟩ = some cs[k] := by rw [cell_heap hc, Array.getElem?_eq_getElem hk]
  have f0 := frozen_heap hc k
  refine wl_skip hw (w.setCell ⟨g, k, none⟩ (.bool z)) ?_ (h _ (heap_setCell _ hc) (grown_put _ _ _ _))
  simp only [execOp, ho, hx, hy]
  go_simp
theorem wt_putE {rest : List Oper} {w : World} (hw : Region.wanted o (yielded ops a.tmps) = true) (x y : Operand) (ho : o.op = .store 30 x y) (g k : Nat) (hx : a.eval x = .pointer (some ⟨g, k, none⟩)) (z : Int) (hy : a.eval y = .int .i64 z) {cs : Array Value} {t : TypeId} (hc : w.heap[g]? = some (.cells cs t (0, 0))) (hk : k < cs.size)
    (h : ∀ W, W.heap[g]? = some (.cells (cs.setIfInBounds k (.int .i64 z)) t (0, 0)) → w.grownBy W (some g) → wpList Tryz.prog ops Q rest (a.put o.dst undef) W) : wpList Tryz.prog ops Q (o :: rest) a w := by
  have c0 : w.cell? ⟨g, k, none⟩ = some cs[k] := by rw [cell_heap hc, Array.getElem?_eq_getElem hk]
  have f0 := frozen_heap hc k
  refine wl_skip hw (w.setCell ⟨g, k, none⟩ (.int .i64 z)) ?_ (h _ (heap_setCell _ hc) (grown_put _ _ _ _))
  simp only [execOp, ho, hx, hy]
  go_simp
theorem wt_allocE {rest : List Oper} {w : World} (hw : Region.wanted o (yielded ops a.tmps) = true) (ho : o.op = .alloc 30)
    (h : ∀ W g, w.heap.size ≤ g → W.heap[g]? = some (.cells #[.int .i64 0] 30 (0, 0)) → Below w.heap.size w W → wpList Tryz.prog ops Q rest (a.put o.dst (.pointer (some ⟨g, 0, none⟩))) W) : wpList Tryz.prog ops Q (o :: rest) a w := by
  refine wl_run hw (.pointer (some ⟨w.heap.size, 0, none⟩)) (w.alloc (.cells #[.int .i64 0] 30 (0, 0))) ?_ (h _ _ (Nat.le_refl _) (heap_new _ _) ((Below.refl _ w).alloc (Nat.le_refl _) _))
  simp only [execOp, ho]
  go_simp
theorem yt_ldLr (hw : Region.wanted o (yielded ops a.tmps) = true) (x : Operand) (ho : o.op = .load 23 x) (g k : Nat) (hx : a.eval x = .pointer (some ⟨g, k, none⟩)) (p : Option Addr) (n c : Nat) (h : ∀ w, S w → w.cell? ⟨g, k, none⟩ = some (.slice p n c)) : YieldsIf Tryz.prog ops S o (.slice p n c) a :=
  Or.inl ⟨hw, fun w hS => by
    have := h w hS
    simp only [execOp, ho, hx]
    go_simp⟩
theorem yt_ldLs (hw : Region.wanted o (yielded ops a.tmps) = true) (x : Operand) (ho : o.op = .load 24 x) (g k : Nat) (hx : a.eval x = .pointer (some ⟨g, k, none⟩)) (p : Option Addr) (n c : Nat) (h : ∀ w, S w → w.cell? ⟨g, k, none⟩ = some (.slice p n c)) : YieldsIf Tryz.prog ops S o (.slice p n c) a :=
  Or.inl ⟨hw, fun w hS => by
    have := h w hS
    simp only [execOp, ho, hx]
    go_simp⟩
theorem yt_ldLx (hw : Region.wanted o (yielded ops a.tmps) = true) (x : Operand) (ho : o.op = .load 27 x) (g k : Nat) (hx : a.eval x = .pointer (some ⟨g, k, none⟩)) (p : Option Addr) (n c : Nat) (h : ∀ w, S w → w.cell? ⟨g, k, none⟩ = some (.slice p n c)) : YieldsIf Tryz.prog ops S o (.slice p n c) a :=
  Or.inl ⟨hw, fun w hS => by
    have := h w hS
    simp only [execOp, ho, hx]
    go_simp⟩
theorem wt_allocLx {rest : List Oper} {w : World} (hw : Region.wanted o (yielded ops a.tmps) = true) (ho : o.op = .alloc 27)
    (h : ∀ W g, w.heap.size ≤ g → W.heap[g]? = some (.cells #[.slice none 0 0] 27 (0, 0)) → Below w.heap.size w W → wpList Tryz.prog ops Q rest (a.put o.dst (.pointer (some ⟨g, 0, none⟩))) W) : wpList Tryz.prog ops Q (o :: rest) a w := by
  refine wl_run hw (.pointer (some ⟨w.heap.size, 0, none⟩)) (w.alloc (.cells #[.slice none 0 0] 27 (0, 0))) ?_ (h _ _ (Nat.le_refl _) (heap_new _ _) ((Below.refl _ w).alloc (Nat.le_refl _) _))
  simp only [execOp, ho]
  go_simp
theorem yt_ldPr (hw : Region.wanted o (yielded ops a.tmps) = true) (x : Operand) (ho : o.op = .load 57 x) (g k : Nat) (hx : a.eval x = .pointer (some ⟨g, k, none⟩)) (p : Option Addr) (h : ∀ w, S w → w.cell? ⟨g, k, none⟩ = some (.pointer p)) : YieldsIf Tryz.prog ops S o (.pointer p) a :=
  Or.inl ⟨hw, fun w hS => by
    have := h w hS
    simp only [execOp, ho, hx]
    go_simp⟩
theorem wt_boxPr {rest : List Oper} {w : World} (hw : Region.wanted o (yielded ops a.tmps) = true) (x : Operand) (ho : o.op = .box 57 x) (p : Option Addr) (hx : a.eval x = .pointer p)
    (h : ∀ W g, w.heap.size ≤ g → W.heap[g]? = some (.cells #[.pointer p] 57 (0, 0)) → Below w.heap.size w W → wpList Tryz.prog ops Q rest (a.put o.dst (.pointer (some ⟨g, 0, none⟩))) W) : wpList Tryz.prog ops Q (o :: rest) a w := by
  refine wl_run hw (.pointer (some ⟨w.heap.size, 0, none⟩)) (w.alloc (.cells #[.pointer p] 57 (0, 0))) ?_ (h _ _ (Nat.le_refl _) (heap_new _ _) ((Below.refl _ w).alloc (Nat.le_refl _) _))
  simp only [execOp, ho, hx]
  go_simp
theorem infoEv12 : (Tryz.prog.info? 42).map (·.size) = some 12 := by kernel_rfl
def vZ : Va := (0, 0, ⟨#[]⟩)
def rgObj (r : Rg) : Obj := .cells #[.int .i64 r.1, .int .i64 r.2] 96 (0, 0)
theorem infoRg2 : (Tryz.prog.info? 96).map (·.size) = some 2 := by kernel_rfl
set_option maxHeartbeats 1000000 in
set_option maxRecDepth 100000 in
theorem wt_putVa {rest : List Oper} {w : World} (hw : o.guard = none) (x y : Operand) (ho : o.op = .store 40 x y) (g : Nat) (hx : a.eval x = .pointer (some ⟨g, 0, none⟩)) (v : Va) (hy : a.eval y = vVal v) {cs : Array Value} (hc : w.heap[g]? = some (.cells cs 40 (0, 0))) (hk : cs.size = 3)
    (h : ∀ W, W.heap[g]? = some (vObj v) → w.grownBy W (some g) → wpList Tryz.prog ops Q rest (a.put o.dst undef) W) : wpList Tryz.prog ops Q (o :: rest) a w := by
  have ht : w.there g 0 3 := fun j hj => ⟨by rw [cell_heap hc, Nat.zero_add, Array.getElem?_eq_getElem (by omega)]; rfl, frozen_heap hc _⟩
  refine wpList_store_mid hw 40 x y ho g 0 #[Value.int .i64 v.1, .int .i64 v.2.1, .string v.2.2] hx hy ht (by rw [infoV]; rfl) (by simp [Value.oneCell']) ?_
  obtain ⟨h1, h2⟩ := put_whole [Value.int .i64 v.1, .int .i64 v.2.1, .string v.2.2] hc (by rw [hk]; rfl)
  exact h _ h1 h2
theorem wt_allocVa {rest : List Oper} {w : World} (hw : Region.wanted o (yielded ops a.tmps) = true) (ho : o.op = .alloc 40)
    (h : ∀ W g, w.heap.size ≤ g → W.heap[g]? = some (vObj vZ) → Below w.heap.size w W → wpList Tryz.prog ops Q rest (a.put o.dst (.pointer (some ⟨g, 0, none⟩))) W) : wpList Tryz.prog ops Q (o :: rest) a w := by
  refine wl_run hw (.pointer (some ⟨w.heap.size, 0, none⟩)) (w.alloc (vObj vZ)) ?_ (h _ _ (Nat.le_refl _) (heap_new _ _) ((Below.refl _ w).alloc (Nat.le_refl _) _))
  simp only [execOp, ho, vObj, vZ]
  go_simp
set_option maxHeartbeats 1000000 in
set_option maxRecDepth 100000 in
theorem wt_putSt {rest : List Oper} {w : World} (hw : o.guard = none) (x y : Operand) (ho : o.op = .store 26 x y) (g : Nat) (hx : a.eval x = .pointer (some ⟨g, 0, none⟩)) (s : SC) (hy : a.eval y = s.val) {cs : Array Value} (hc : w.heap[g]? = some (.cells cs 26 (0, 0))) (hk : cs.size = 4)
    (h : ∀ W, W.heap[g]? = some (stObj s) → w.grownBy W (some g) → wpList Tryz.prog ops Q rest (a.put o.dst undef) W) : wpList Tryz.prog ops Q (o :: rest) a w := by
  have ht : w.there g 0 4 := fun j hj => ⟨by rw [cell_heap hc, Nat.zero_add, Array.getElem?_eq_getElem (by omega)]; rfl, frozen_heap hc _⟩
  refine wpList_store_mid hw 26 x y ho g 0 #[Value.bool s.a, .slice s.p s.n s.c, .bool s.d, .slice s.q s.m s.e] hx hy ht (by rw [infoSet4]; rfl) (by simp [Value.oneCell']) ?_
  obtain ⟨h1, h2⟩ := put_whole [Value.bool s.a, .slice s.p s.n s.c, .bool s.d, .slice s.q s.m s.e] hc (by rw [hk]; rfl)
  exact h _ h1 h2
theorem wt_boxSt {rest : List Oper} {w : World} (hw : Region.wanted o (yielded ops a.tmps) = true) (x : Operand) (ho : o.op = .box 26 x) (s : SC) (hx : a.eval x = s.val)
    (h : ∀ W g, w.heap.size ≤ g → W.heap[g]? = some (stObj s) → Below w.heap.size w W → wpList Tryz.prog ops Q rest (a.put o.dst (.pointer (some ⟨g, 0, none⟩))) W) : wpList Tryz.prog ops Q (o :: rest) a w := by
  refine wl_run hw (.pointer (some ⟨w.heap.size, 0, none⟩)) (w.alloc (stObj s)) ?_ (h _ _ (Nat.le_refl _) (heap_new _ _) ((Below.refl _ w).alloc (Nat.le_refl _) _))
  simp only [execOp, ho, hx, SC.val, stObj]
  go_simp
theorem wt_allocSt {rest : List Oper} {w : World} (hw : Region.wanted o (yielded ops a.tmps) = true) (ho : o.op = .alloc 26)
    (h : ∀ W g, w.heap.size ≤ g → W.heap[g]? = some (stObj SC.zero) → Below w.heap.size w W → wpList Tryz.prog ops Q rest (a.put o.dst (.pointer (some ⟨g, 0, none⟩))) W) : wpList Tryz.prog ops Q (o :: rest) a w := by
  refine wl_run hw (.pointer (some ⟨w.heap.size, 0, none⟩)) (w.alloc (stObj SC.zero)) ?_ (h _ _ (Nat.le_refl _) (heap_new _ _) ((Below.refl _ w).alloc (Nat.le_refl _) _))
  simp only [execOp, ho, stObj, SC.zero]
  go_simp
set_option maxHeartbeats 1000000 in
set_option maxRecDepth 100000 in
theorem wt_putEx {rest : List Oper} {w : World} (hw : o.guard = none) (x y : Operand) (ho : o.op = .store 29 x y) (g : Nat) (hx : a.eval x = .pointer (some ⟨g, 0, none⟩)) (c : EC) (hy : a.eval y = c.val) {cs : Array Value} (hc : w.heap[g]? = some (.cells cs 29 (0, 0))) (hk : cs.size = 7)
    (h : ∀ W, W.heap[g]? = some (exObj c) → w.grownBy W (some g) → wpList Tryz.prog ops Q rest (a.put o.dst undef) W) : wpList Tryz.prog ops Q (o :: rest) a w := by
  have ht : w.there g 0 7 := fun j hj => ⟨by rw [cell_heap hc, Nat.zero_add, Array.getElem?_eq_getElem (by omega)]; rfl, frozen_heap hc _⟩
  refine wpList_store_mid hw 29 x y ho g 0 #[Value.int .i64 c.k, .int .i64 c.t, .bool c.s.a, .slice c.s.p c.s.n c.s.c, .bool c.s.d, .slice c.s.q c.s.m c.s.e, .slice c.p c.n c.c] hx hy ht (by rw [infoEx]; rfl) (by simp [Value.oneCell']) ?_
  obtain ⟨h1, h2⟩ := put_whole [Value.int .i64 c.k, .int .i64 c.t, .bool c.s.a, .slice c.s.p c.s.n c.s.c, .bool c.s.d, .slice c.s.q c.s.m c.s.e, .slice c.p c.n c.c] hc (by rw [hk]; rfl)
  exact h _ h1 h2
theorem wt_boxEx {rest : List Oper} {w : World} (hw : Region.wanted o (yielded ops a.tmps) = true) (x : Operand) (ho : o.op = .box 29 x) (c : EC) (hx : a.eval x = c.val)
    (h : ∀ W g, w.heap.size ≤ g → W.heap[g]? = some (exObj c) → Below w.heap.size w W → wpList Tryz.prog ops Q rest (a.put o.dst (.pointer (some ⟨g, 0, none⟩))) W) : wpList Tryz.prog ops Q (o :: rest) a w := by
  refine wl_run hw (.pointer (some ⟨w.heap.size, 0, none⟩)) (w.alloc (exObj c)) ?_ (h _ _ (Nat.le_refl _) (heap_new _ _) ((Below.refl _ w).alloc (Nat.le_refl _) _))
  simp only [execOp, ho, hx, EC.val, exObj]
  go_simp
theorem wt_allocEx {rest : List Oper} {w : World} (hw : Region.wanted o (yielded ops a.tmps) = true) (ho : o.op = .alloc 29)
    (h : ∀ W g, w.heap.size ≤ g → W.heap[g]? = some (exObj ec0) → Below w.heap.size w W → wpList Tryz.prog ops Q rest (a.put o.dst (.pointer (some ⟨g, 0, none⟩))) W) : wpList Tryz.prog ops Q (o :: rest) a w := by
  refine wl_run hw (.pointer (some ⟨w.heap.size, 0, none⟩)) (w.alloc (exObj ec0)) ?_ (h _ _ (Nat.le_refl _) (heap_new _ _) ((Below.refl _ w).alloc (Nat.le_refl _) _))
  simp only [execOp, ho, exObj, ec0, SC.zero]
  go_simp
set_option maxHeartbeats 1000000 in
set_option maxRecDepth 100000 in
theorem wt_putRg {rest : List Oper} {w : World} (hw : o.guard = none) (x y : Operand) (ho : o.op = .store 96 x y) (g : Nat) (hx : a.eval x = .pointer (some ⟨g, 0, none⟩)) (r : Rg) (hy : a.eval y = .agg #[.int .i64 r.1, .int .i64 r.2]) {cs : Array Value} (hc : w.heap[g]? = some (.cells cs 96 (0, 0))) (hk : cs.size = 2)
    (h : ∀ W, W.heap[g]? = some (rgObj r) → w.grownBy W (some g) → wpList Tryz.prog ops Q rest (a.put o.dst undef) W) : wpList Tryz.prog ops Q (o :: rest) a w := by
  have ht : w.there g 0 2 := fun j hj => ⟨by rw [cell_heap hc, Nat.zero_add, Array.getElem?_eq_getElem (by omega)]; rfl, frozen_heap hc _⟩
  refine wpList_store_mid hw 96 x y ho g 0 #[Value.int .i64 r.1, .int .i64 r.2] hx hy ht (by rw [infoRg2]; rfl) (by simp [Value.oneCell']) ?_
  obtain ⟨h1, h2⟩ := put_whole [Value.int .i64 r.1, .int .i64 r.2] hc (by rw [hk]; rfl)
  exact h _ h1 h2
theorem wt_boxRg {rest : List Oper} {w : World} (hw : Region.wanted o (yielded ops a.tmps) = true) (x : Operand) (ho : o.op = .box 96 x) (r : Rg) (hx : a.eval x = .agg #[.int .i64 r.1, .int .i64 r.2])
    (h : ∀ W g, w.heap.size ≤ g → W.heap[g]? = some (rgObj r) → Below w.heap.size w W → wpList Tryz.prog ops Q rest (a.put o.dst (.pointer (some ⟨g, 0, none⟩))) W) : wpList Tryz.prog ops Q (o :: rest) a w := by
  refine wl_run hw (.pointer (some ⟨w.heap.size, 0, none⟩)) (w.alloc (rgObj r)) ?_ (h _ _ (Nat.le_refl _) (heap_new _ _) ((Below.refl _ w).alloc (Nat.le_refl _) _))
  simp only [execOp, ho, hx, rgObj]
  go_simp
theorem wt_allocRg {rest : List Oper} {w : World} (hw : Region.wanted o (yielded ops a.tmps) = true) (ho : o.op = .alloc 96)
    (h : ∀ W g, w.heap.size ≤ g → W.heap[g]? = some (rgObj (0, 0)) → Below w.heap.size w W → wpList Tryz.prog ops Q rest (a.put o.dst (.pointer (some ⟨g, 0, none⟩))) W) : wpList Tryz.prog ops Q (o :: rest) a w := by
  refine wl_run hw (.pointer (some ⟨w.heap.size, 0, none⟩)) (w.alloc (rgObj (0, 0))) ?_ (h _ _ (Nat.le_refl _) (heap_new _ _) ((Below.refl _ w).alloc (Nat.le_refl _) _))
  simp only [execOp, ho, rgObj]
  go_simp
set_option maxHeartbeats 1000000 in
set_option maxRecDepth 100000 in
theorem wt_putEv {rest : List Oper} {w : World} (hw : o.guard = none) (x y : Operand) (ho : o.op = .store 42 x y) (g : Nat) (hx : a.eval x = .pointer (some ⟨g, 0, none⟩)) (e : EvV) (hy : a.eval y = evVal e) {cs : Array Value} (hc : w.heap[g]? = some (.cells cs 42 (0, 0))) (hk : cs.size = 12)
    (h : ∀ W, W.heap[g]? = some (evObj e) → w.grownBy W (some g) → wpList Tryz.prog ops Q rest (a.put o.dst undef) W) : wpList Tryz.prog ops Q (o :: rest) a w := by
  have ht : w.there g 0 12 := fun j hj => ⟨by rw [cell_heap hc, Nat.zero_add, Array.getElem?_eq_getElem (by omega)]; rfl, frozen_heap hc _⟩
  refine wpList_store_mid hw 42 x y ho g 0 #[Value.int .i64 e.v0.1, .int .i64 e.v0.2.1, .string e.v0.2.2, .int .i64 e.v1.1, .int .i64 e.v1.2.1, .string e.v1.2.2, .int .i64 e.v2.1, .int .i64 e.v2.2.1, .string e.v2.2.2, .int .i64 e.v3.1, .int .i64 e.v3.2.1, .string e.v3.2.2] hx hy ht (by rw [infoEv12]; rfl) (by simp [Value.oneCell']) ?_
  obtain ⟨h1, h2⟩ := put_whole [Value.int .i64 e.v0.1, .int .i64 e.v0.2.1, .string e.v0.2.2, .int .i64 e.v1.1, .int .i64 e.v1.2.1, .string e.v1.2.2, .int .i64 e.v2.1, .int .i64 e.v2.2.1, .string e.v2.2.2, .int .i64 e.v3.1, .int .i64 e.v3.2.1, .string e.v3.2.2] hc (by rw [hk]; rfl)
  exact h _ h1 h2
theorem wt_boxEv {rest : List Oper} {w : World} (hw : Region.wanted o (yielded ops a.tmps) = true) (x : Operand) (ho : o.op = .box 42 x) (e : EvV) (hx : a.eval x = evVal e)
    (h : ∀ W g, w.heap.size ≤ g → W.heap[g]? = some (evObj e) → Below w.heap.size w W → wpList Tryz.prog ops Q rest (a.put o.dst (.pointer (some ⟨g, 0, none⟩))) W) : wpList Tryz.prog ops Q (o :: rest) a w := by
  refine wl_run hw (.pointer (some ⟨w.heap.size, 0, none⟩)) (w.alloc (evObj e)) ?_ (h _ _ (Nat.le_refl _) (heap_new _ _) ((Below.refl _ w).alloc (Nat.le_refl _) _))
  simp only [execOp, ho, hx, evVal, evObj]
  go_simp
theorem wt_allocEv {rest : List Oper} {w : World} (hw : Region.wanted o (yielded ops a.tmps) = true) (ho : o.op = .alloc 42)
    (h : ∀ W g, w.heap.size ≤ g → W.heap[g]? = some (evObj evZ) → Below w.heap.size w W → wpList Tryz.prog ops Q rest (a.put o.dst (.pointer (some ⟨g, 0, none⟩))) W) : wpList Tryz.prog ops Q (o :: rest) a w := by
  refine wl_run hw (.pointer (some ⟨w.heap.size, 0, none⟩)) (w.alloc (evObj evZ)) ?_ (h _ _ (Nat.le_refl _) (heap_new _ _) ((Below.refl _ w).alloc (Nat.le_refl _) _))
  simp only [execOp, ho, evObj, evZ, vaZ]
  go_simp
end
end Go.Proofs.YtlmdcaemjaldfaaGreatDoor
