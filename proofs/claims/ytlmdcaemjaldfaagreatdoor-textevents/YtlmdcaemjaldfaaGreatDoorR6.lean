import Derived.Test.YtlmdcaemjaldfaaGreatDoorR5
import Derived.DeepKeys
set_option linter.unusedSimpArgs false
set_option linter.unusedVariables false
namespace Go.Proofs.YtlmdcaemjaldfaaGreatDoor
open Go.RowKit
theorem empty_of {s : ByteArray} (h : s.toList.isEmpty = true) : s = ⟨#[]⟩ := by
  rw [ByteArray.toList_eq, List.isEmpty_iff] at h
  have e : s = bs s.data.toList := rfl
  rw [e, h]
  rfl
theorem va_back (v : Va) (h : rightB v.1 v.2.1 v.2.2 = true) (hk : ¬ v.1 = 0) (h0 : -9223372036854775808 ≤ v.2.1) (h1 : v.2.1 ≤ 9223372036854775807) (c : UInt8) (m : List UInt8) (hd : isDig c = false) : valL (vaTxt v ++ c :: m) = some (v, c :: m) := by
  obtain ⟨k, n, s⟩ := v
  dsimp only at h hk h0 h1
  unfold rightB at h
  rw [if_neg hk] at h
  by_cases k1 : k = 1
  · rw [if_pos k1] at h
    have := empty_of h
    subst this k1
    rw [show vaTxt (1, n, ⟨#[]⟩) = Lib.itoa n from rfl]
    exact val_int n c m h0 h1 hd
  · rw [if_neg k1] at h
    by_cases k2 : k = 2
    · rw [if_pos k2, Bool.and_eq_true, beq_iff_eq, decide_eq_true_eq] at h
      obtain ⟨hn, hs⟩ := h
      subst k2 hn
      rw [show vaTxt (2, 0, s) = quoteL s.data.toList from rfl]
      exact val_str s (c :: m) (by omega)
    · rw [if_neg k2] at h
      cases h
theorem va_zero {v : Va} (h : rightB v.1 v.2.1 v.2.2 = true) (hk : v.1 = 0) : v = vaZ := by
  obtain ⟨k, n, s⟩ := v
  dsimp only at h hk
  unfold rightB at h
  rw [if_pos hk, Bool.and_eq_true, beq_iff_eq] at h
  have := empty_of h.2
  rw [hk, h.1, this]
  rfl
theorem evItem_back (e acc : EvV) (hr : rightE e = true) (hi : inE e) (i : Nat) (h4 : i < 4) (hk : ¬ (e.get i).1 = 0) (c : UInt8) (r : List UInt8) (hd : isDig c = false) : evItemL acc (evItem e i ++ c :: r) = some (acc.setAt i (e.get i), c :: r) := by
  unfold evItemL evItem
  rw [List.append_assoc, attr_back (i : Int) (by omega) (by omega)]
  dsimp only
  rw [List.cons_append, cut_one]
  dsimp only
  rw [va_back (e.get i) (rightE_get hr i h4) hk (hi i h4).1 (hi i h4).2 c r hd]
theorem ev_fold (e : EvV) (hr : rightE e = true) : (evItems e).foldl (fun a (i : Nat) => a.setAt i (e.get i)) evZ = e := by
  have g0 := fun h => va_zero (rightE_get hr 0 (by omega)) h
  have g1 := fun h => va_zero (rightE_get hr 1 (by omega)) h
  have g2 := fun h => va_zero (rightE_get hr 2 (by omega)) h
  have g3 := fun h => va_zero (rightE_get hr 3 (by omega)) h
  obtain ⟨a, b, c, d⟩ := e
  unfold evItems
  simp only [EvV.get] at g0 g1 g2 g3 ⊢
  by_cases h0 : a.1 = 0 <;> by_cases h1 : b.1 = 0 <;> by_cases h2 : c.1 = 0 <;> by_cases h3 : d.1 = 0 <;> simp [List.filter, h0, h1, h2, h3, EvV.get, EvV.setAt, evZ] <;> (try simp [*] at *) <;> simp [*]
theorem ev_back (e : EvV) (hr : rightE e = true) (hi : inE e) : evL (evTxt e) = some (e, []) := by
  unfold evL evTxt
  rw [cut_one]
  dsimp only
  have hm : ∀ i ∈ evItems e, i < 4 ∧ ¬ (e.get i).1 = 0 := fun i h => by
    obtain ⟨h1, h2⟩ := List.mem_filter.1 h
    exact ⟨by simp at h1; omega, of_decide_eq_true h2⟩
  have hn : ∀ i ∈ evItems e, ∃ b t, evItem e i = b :: t ∧ b ≠ 125 := fun i h => by
    refine ⟨_, _, rfl, ?_⟩
    have := (hm i h).1
    exact ne_of_toNat (by rw [UInt8.toNat_ofNat']; show (97 + (i : Int).toNat) % 256 ≠ 125; omega)
  have hl := joinL_len (evItem e) (evItems e) fun i h => by obtain ⟨b, t, e, _⟩ := hn i h; exact ⟨b, t, e⟩
  have := items_back 125 (by decide) evItemL (evItem e) (fun a (i : Nat) => a.setAt i (e.get i)) (evItems e) ((joinL ((evItems e).map (evItem e)) ++ [125]).length + 1) evZ [] (by rw [List.length_append]; omega)
    (fun i h acc c r hc => evItem_back e acc hr hi i (hm i h).1 (hm i h).2 c r (by rcases hc with rfl | rfl <;> decide)) hn
  rw [this, ev_fold e hr]
theorem parseE_txt {e : EvV} (hr : rightE e = true) (hi : inE e) : parseE (evTxt e) = some e := by
  unfold parseE
  rw [ev_back e hr hi]
  exact if_pos ⟨hr, rfl⟩
theorem parseE_some {l : List UInt8} {e : EvV} (h : parseE l = some e) : rightE e = true ∧ evTxt e = l := by
  unfold parseE at h
  split at h
  · cases h
  · split at h
    · rename_i hc
      injection h with h
      rw [← h]
      exact hc
    · cases h
end Go.Proofs.YtlmdcaemjaldfaaGreatDoor
namespace Go.Proofs.YtlmdcaemjaldfaaGreatDoor
open Go.RowKit
def rfStep (l : List UInt8) (i n : Nat) (e : EvV) : Option (Nat × EvV) :=
  let n1 := if 1 < n ∧ (l.drop n).take 1 = [32] then n + 1 else n
  if (l.drop n1).take 2 = nameL i ++ [61] then
    if (readL (l.drop (n1 + 2))).isSome = true then some (n1 + 2 + rdN (readL (l.drop (n1 + 2))), e.setAt i (rdV (readL (l.drop (n1 + 2))))) else none
  else some (n, e)
def rfEv (l : List UInt8) : Nat → Option (Nat × EvV)
  | 0 => some (1, evZ)
  | k + 1 =>
    match rfEv l k with
    | none => none
    | some (n, e) => rfStep l k n e
def rfAns (l : List UInt8) : Option EvV :=
  if l.take 1 = [123] then
    match rfEv l 4 with
    | none => none
    | some (n, e) => if (l.drop n).take 1 = [125] ∧ n + 1 = l.length ∧ evTxt e = l then some e else none
  else none
theorem readL_val {l : List UInt8} (h : (readL l).isSome = true) : valL l = some (rdV (readL l), l.drop (rdN (readL l))) ∧ rdN (readL l) ≤ l.length := by
  obtain ⟨q, hq⟩ := Option.isSome_iff_exists.1 h
  obtain ⟨k, z, s, j⟩ := q
  have hv : valL l = some ((k, z, ⟨s.toArray⟩), l.drop j) := by unfold valL; rw [hq]
  obtain ⟨j', h1, h2, _⟩ := valL_read hv
  rw [hq] at h1
  injection h1 with h1
  have hj : j = j' := by
    injection h1 with _ h1
    injection h1 with _ h1
    injection h1 with _ h1
  rw [hq]
  exact ⟨hv, by show j ≤ l.length; omega⟩
theorem get_setAt (e : EvV) (i k : Nat) (hi : i < 4) (hk : k < 4) (v : Va) : (e.setAt i v).get k = if k = i then v else e.get k := by
  match i, hi, k, hk with
  | 0, _, 0, _ => rfl
  | 0, _, 1, _ => rfl
  | 0, _, 2, _ => rfl
  | 0, _, 3, _ => rfl
  | 1, _, 0, _ => rfl
  | 1, _, 1, _ => rfl
  | 1, _, 2, _ => rfl
  | 1, _, 3, _ => rfl
  | 2, _, 0, _ => rfl
  | 2, _, 1, _ => rfl
  | 2, _, 2, _ => rfl
  | 2, _, 3, _ => rfl
  | 3, _, 0, _ => rfl
  | 3, _, 1, _ => rfl
  | 3, _, 2, _ => rfl
  | 3, _, 3, _ => rfl
theorem right_setAt {e : EvV} (hr : rightE e = true) (i : Nat) (hi : i < 4) {v : Va} (hv : rightB v.1 v.2.1 v.2.2 = true) : rightE (e.setAt i v) = true := by
  unfold rightE
  refine (all4_iff _).2 fun k hk => ?_
  show rightB ((e.setAt i v).get k).1 ((e.setAt i v).get k).2.1 ((e.setAt i v).get k).2.2 = true
  rw [get_setAt e i k hi hk v]
  split
  · exact hv
  · exact rightE_get hr k hk
theorem rfStep_ok {l : List UInt8} {i n n' : Nat} {e e' : EvV} (hi : i < 4) (hn : n ≤ l.length) (hr : rightE e = true) (ho : okE e) (h : rfStep l i n e = some (n', e')) : n' ≤ l.length ∧ rightE e' = true ∧ okE e' := by
  unfold rfStep at h
  dsimp only at h
  generalize hn1 : (if 1 < n ∧ (l.drop n).take 1 = [32] then n + 1 else n) = n1 at h
  split at h
  · rename_i ht
    split at h
    · rename_i hs
      obtain ⟨hv, hj⟩ := readL_val hs
      injection h with h
      injection h with h1 h2
      have hlen := congrArg List.length ht
      rw [List.length_take, List.length_drop, List.length_append] at hlen
      rw [List.length_drop] at hj
      have : (nameL (i : Int)).length = 1 := rfl
      simp only [List.length_cons, List.length_nil] at hlen
      obtain ⟨_, h8, hb⟩ := valL_ok hv
      subst h1 h2
      exact ⟨by omega, right_setAt hr i hi hb, setAt_ok ho h8 (valL_num hv)⟩
    · cases h
  · injection h with h
    injection h with h1 h2
    subst h1 h2
    exact ⟨hn, hr, ho⟩
theorem evZ_right : rightE evZ = true := by kernel_rfl
theorem evZ_ok : okE evZ := ⟨evZ_fit, fun i hi => by match i, hi with | 0, _ => decide | 1, _ => decide | 2, _ => decide | 3, _ => decide⟩
theorem rfEv_ok {l : List UInt8} (h1 : 1 ≤ l.length) : ∀ k, k ≤ 4 → ∀ n e, rfEv l k = some (n, e) → n ≤ l.length ∧ rightE e = true ∧ okE e
  | 0, _, n, e, h => by
    injection h with h
    injection h with h2 h3
    subst h2 h3
    exact ⟨h1, evZ_right, evZ_ok⟩
  | k + 1, hk, n, e, h => by
    rw [rfEv] at h
    cases hq : rfEv l k with
    | none => rw [hq] at h; cases h
    | some q =>
      rw [hq] at h
      obtain ⟨m, d⟩ := q
      obtain ⟨g1, g2, g3⟩ := rfEv_ok h1 k (by omega) m d hq
      exact rfStep_ok (by omega) g1 g2 g3 h
theorem rfAns_parse {l : List UInt8} {e : EvV} (h : rfAns l = some e) : parseE l = some e := by
  unfold rfAns at h
  split at h
  · rename_i ht
    have hl : 1 ≤ l.length := by
      have := congrArg List.length ht
      rw [List.length_take] at this
      simp only [List.length_cons, List.length_nil] at this
      omega
    cases hq : rfEv l 4 with
    | none => rw [hq] at h; cases h
    | some q =>
      rw [hq] at h
      obtain ⟨n, d⟩ := q
      obtain ⟨_, g2, g3⟩ := rfEv_ok hl 4 (by omega) n d hq
      dsimp only at h
      split at h
      · rename_i hc
        injection h with h
        subst h
        rw [← hc.2.2]
        exact parseE_txt g2 g3.2
      · cases h
  · cases h
end Go.Proofs.YtlmdcaemjaldfaaGreatDoor
namespace Go.Proofs.YtlmdcaemjaldfaaGreatDoor
open Go.RowKit
def itsE (e : EvV) : Nat → Nat → List Nat
  | 0, _ => []
  | d + 1, k => if (e.get k).1 = 0 then itsE e d (k + 1) else k :: itsE e d (k + 1)
theorem itsE_all (e : EvV) : itsE e 4 0 = evItems e := by
  unfold evItems itsE itsE itsE itsE itsE
  by_cases h0 : (e.get 0).1 = 0 <;> by_cases h1 : (e.get 1).1 = 0 <;> by_cases h2 : (e.get 2).1 = 0 <;> by_cases h3 : (e.get 3).1 = 0 <;> simp [List.filter, h0, h1, h2, h3]
theorem itsE_ge (e : EvV) : ∀ (d k : Nat), ∀ j ∈ itsE e d k, k ≤ j ∧ j < k + d
  | 0, _, j, h => by cases h
  | d + 1, k, j, h => by
    rw [itsE] at h
    split at h
    · have := itsE_ge e d (k + 1) j h; omega
    · rcases List.mem_cons.1 h with rfl | h
      · omega
      · have := itsE_ge e d (k + 1) j h; omega
def restE (e : EvV) (xs : List Nat) (first : Bool) : List UInt8 := if xs = [] then [125] else (if first = true then [] else [32]) ++ (joinL (xs.map (evItem e)) ++ [125])
def rfGo (l : List UInt8) : Nat → Nat → Nat → EvV → Option (Nat × EvV)
  | 0, _, n, e => some (n, e)
  | d + 1, k, n, e =>
    match rfStep l k n e with
    | none => none
    | some (n', e') => rfGo l d (k + 1) n' e'
theorem rfGo_all (l : List UInt8) : rfEv l 4 = rfGo l 4 0 1 evZ := by
  unfold rfEv rfEv rfEv rfEv rfEv rfGo
  dsimp only
  cases rfStep l 0 1 evZ with
  | none => rfl
  | some p =>
    obtain ⟨n, e⟩ := p
    unfold rfGo
    dsimp only
    cases rfStep l 1 n e with
    | none => rfl
    | some p =>
      obtain ⟨n, e⟩ := p
      unfold rfGo
      dsimp only
      cases rfStep l 2 n e with
      | none => rfl
      | some p =>
        obtain ⟨n, e⟩ := p
        unfold rfGo rfGo
        dsimp only
        cases rfStep l 3 n e with
        | none => rfl
        | some p => rfl
theorem item_cons (e : EvV) (k : Nat) : evItem e k = UInt8.ofNat (97 + k) :: 61 :: vaTxt (e.get k) := by
  unfold evItem nameL
  rw [Int.toNat_natCast]
  rfl
theorem join_split (e : EvV) (k : Nat) (xs : List Nat) : ∃ c r, joinL ((k :: xs).map (evItem e)) ++ [125] = UInt8.ofNat (97 + k) :: 61 :: (vaTxt (e.get k) ++ c :: r) ∧ (c = 32 ∨ c = 125) ∧ c :: r = restE e xs false := by
  cases xs with
  | nil => exact ⟨125, [], by rw [List.map_cons, List.map_nil]; show evItem e k ++ [125] = _; rw [item_cons]; rfl, Or.inr rfl, rfl⟩
  | cons j xs =>
    refine ⟨32, joinL ((j :: xs).map (evItem e)) ++ [125], ?_, Or.inl rfl, by unfold restE; rw [if_neg (by simp)]; rfl⟩
    rw [List.map_cons, joinL_cons _ _ (by simp), item_cons]
    simp
theorem read_hit {l : List UInt8} {m : Nat} {v : Va} {c : UInt8} {r : List UInt8} (hl : l.drop m = vaTxt v ++ c :: r) (hv : rightB v.1 v.2.1 v.2.2 = true) (hk : ¬ v.1 = 0) (h0 : -9223372036854775808 ≤ v.2.1) (h1 : v.2.1 ≤ 9223372036854775807) (hd : isDig c = false) :
    (readL (l.drop m)).isSome = true ∧ rdV (readL (l.drop m)) = v ∧ l.drop (m + rdN (readL (l.drop m))) = c :: r := by
  have hb := va_back v hv hk h0 h1 c r hd
  rw [← hl] at hb
  obtain ⟨j, h2, h3, h4⟩ := valL_read hb
  have hs : (readL (l.drop m)).isSome = true := by rw [h2]; rfl
  have h5 := (readL_val hs).1
  rw [hb] at h5
  injection h5 with h5
  injection h5 with h6 h7
  refine ⟨hs, h6.symm, ?_⟩
  rw [h7, List.drop_drop]
theorem rf_one (l : List UInt8) (e σ : EvV) (k n : Nat) (hr : rightE e = true) (hi : inE e) (hk : k < 4) (hn : 1 ≤ n) (xs : List Nat) (hge : ∀ j ∈ xs, k + 1 ≤ j ∧ j < 4) (h : l.drop n = restE e (if (e.get k).1 = 0 then xs else k :: xs) (decide (n = 1))) :
    ∃ n', rfStep l k n σ = some (n', if (e.get k).1 = 0 then σ else σ.setAt k (e.get k)) ∧ 1 ≤ n' ∧ l.drop n' = restE e xs (decide (n' = 1)) := by
  have hne : ∀ j, j < 4 → k + 1 ≤ j → UInt8.ofNat (97 + j) ≠ UInt8.ofNat (97 + k) := fun j h4 hj => ne_of_toNat (by rw [UInt8.toNat_ofNat', UInt8.toNat_ofNat']; omega)
  have hna : nameL (k : Int) ++ [61] = [UInt8.ofNat (97 + k), 61] := by unfold nameL; rw [Int.toNat_natCast]; rfl
  -- where the item would begin
  have hn1 : ∀ ys : List Nat, l.drop n = restE e ys (decide (n = 1)) → ys ≠ [] → (∀ j ∈ ys, j < 4) → ∃ n1, (if 1 < n ∧ (l.drop n).take 1 = [32] then n + 1 else n) = n1 ∧ n ≤ n1 ∧ l.drop n1 = joinL (ys.map (evItem e)) ++ [125] := by
    intro ys hy hnil h4
    unfold restE at hy
    rw [if_neg hnil] at hy
    by_cases h1 : n = 1
    · refine ⟨n, if_neg (by omega), Nat.le_refl _, ?_⟩
      rw [hy, if_pos (by simp [h1])]
      rfl
    · rw [if_neg (by simp [h1])] at hy
      refine ⟨n + 1, if_pos ⟨by omega, by rw [hy]; rfl⟩, by omega, ?_⟩
      rw [← List.drop_drop, hy]
      rfl
  by_cases h0 : (e.get k).1 = 0
  · rw [if_pos h0] at h ⊢
    refine ⟨n, ?_, hn, h⟩
    unfold rfStep
    dsimp only
    cases xs with
    | nil =>
      have hd : l.drop n = [125] := h
      rw [if_neg (show ¬ (1 < n ∧ (l.drop n).take 1 = [32]) by rw [hd]; rintro ⟨_, h⟩; revert h; decide), if_neg]
      rw [hd, hna]
      intro hh
      have := congrArg List.length hh
      simp at this
    | cons j xs =>
      obtain ⟨n1, e1, _, h2⟩ := hn1 (j :: xs) h (by simp) (fun i hi => (hge i hi).2)
      rw [e1, if_neg]
      obtain ⟨c, r, e2, _⟩ := join_split e j xs
      rw [h2, e2, hna]
      intro hh
      injection hh with hh _
      have := hge j (by simp)
      exact hne j this.2 this.1 hh
  · rw [if_neg h0] at h ⊢
    obtain ⟨n1, e1, h1n, h2⟩ := hn1 (k :: xs) h (by simp) (fun i hi => by rcases List.mem_cons.1 hi with rfl | hi; exact hk; exact (hge i hi).2)
    obtain ⟨c, r, e2, hc, e3⟩ := join_split e k xs
    rw [e2] at h2
    have h4 : l.drop (n1 + 2) = vaTxt (e.get k) ++ c :: r := by rw [← List.drop_drop, h2]; rfl
    obtain ⟨g1, g2, g3⟩ := read_hit h4 (rightE_get hr k hk) h0 (hi k hk).1 (hi k hk).2 (by rcases hc with rfl | rfl <;> decide)
    refine ⟨n1 + 2 + rdN (readL (l.drop (n1 + 2))), ?_, by omega, ?_⟩
    · unfold rfStep
      dsimp only
      rw [e1, if_pos (by rw [h2, hna]; rfl), if_pos g1, g2]
    · rw [g3, e3, show decide (n1 + 2 + rdN (readL (l.drop (n1 + 2))) = 1) = false from decide_eq_false (by omega)]
theorem rf_go (l : List UInt8) (e : EvV) (hr : rightE e = true) (hi : inE e) : ∀ (d k n : Nat) (σ : EvV), k + d = 4 → 1 ≤ n → l.drop n = restE e (itsE e d k) (decide (n = 1)) →
    ∃ n', rfGo l d k n σ = some (n', (itsE e d k).foldl (fun a (i : Nat) => a.setAt i (e.get i)) σ) ∧ l.drop n' = [125]
  | 0, k, n, σ, _, _, h => ⟨n, rfl, h⟩
  | d + 1, k, n, σ, hk, hn, h => by
    obtain ⟨n', h1, h2, h3⟩ := rf_one l e σ k n hr hi (by omega) hn (itsE e d (k + 1)) (fun j hj => by have := itsE_ge e d (k + 1) j hj; omega) h
    obtain ⟨n2, g1, g2⟩ := rf_go l e hr hi d (k + 1) n' (if (e.get k).1 = 0 then σ else σ.setAt k (e.get k)) (by omega) h2 h3
    refine ⟨n2, ?_, g2⟩
    rw [rfGo, h1]
    dsimp only
    rw [g1, itsE]
    split <;> rfl
theorem rfAns_txt {e : EvV} (hr : rightE e = true) (hi : inE e) : rfAns (evTxt e) = some e := by
  have hd : (evTxt e).drop 1 = restE e (itsE e 4 0) (decide (1 = 1)) := by
    rw [itsE_all]
    unfold restE evTxt
    split
    · rename_i hx
      rw [hx]
      rfl
    · rfl
  obtain ⟨n, h1, h2⟩ := rf_go (evTxt e) e hr hi 4 0 1 evZ (by omega) (by omega) hd
  rw [← rfGo_all, itsE_all, ev_fold e hr] at h1
  have hl := congrArg List.length h2
  rw [List.length_drop] at hl
  simp only [List.length_cons, List.length_nil] at hl
  unfold rfAns
  rw [if_pos (by rfl), h1]
  dsimp only
  rw [if_pos ⟨by rw [h2]; rfl, by omega, rfl⟩]
theorem rfAns_eq (l : List UInt8) : rfAns l = parseE l := by
  cases h : parseE l with
  | some e =>
    obtain ⟨h1, h2⟩ := parseE_some h
    rw [← h2]
    refine rfAns_txt h1 ?_
    unfold parseE at h
    split at h
    · cases h
    · rename_i x q hx
      split at h
      · injection h with h
        subst h
        exact (evL_ok hx).2
      · cases h
  | none =>
    cases h2 : rfAns l with
    | none => rfl
    | some e => rw [rfAns_parse h2] at h; cases h
end Go.Proofs.YtlmdcaemjaldfaaGreatDoor
namespace Go.Proofs.YtlmdcaemjaldfaaGreatDoor
open Go.RowKit
section
variable {ops : Array Oper} {Q : Exit → Act → World → Prop} {o : Oper} {a : Act} {w : World}
set_option maxRecDepth 100000 in
theorem yt_buildRf {S : World → Prop} (hw : Region.wanted o (yielded ops a.tmps) = true) (x : Operand) (ho : o.op = .build 60 #[(0, x)]) (l : List UInt8) (hx : a.eval x = .string (bs l)) : YieldsIf Tryz.prog ops S o (.agg #[.string (bs l), .int .i64 0]) a :=
  Or.inl ⟨hw, fun w _ => by
    simp only [execOp, ho, List.map_toArray, List.map_cons, List.map_nil, hx]
    go_simp⟩
theorem wt_boxRf {rest : List Oper} (hw : Region.wanted o (yielded ops a.tmps) = true) (x : Operand) (ho : o.op = .box 60 x) (l : List UInt8) (hx : a.eval x = .agg #[.string (bs l), .int .i64 0])
    (h : ∀ W g, w.heap.size ≤ g → W.heap[g]? = some (rfObj l 0) → Below w.heap.size w W → wpList Tryz.prog ops Q rest (a.put o.dst (.pointer (some ⟨g, 0, none⟩))) W) : wpList Tryz.prog ops Q (o :: rest) a w := by
  refine wl_run hw (.pointer (some ⟨w.heap.size, 0, none⟩)) (w.alloc (rfObj l 0)) ?_ (h _ _ (Nat.le_refl _) (heap_new _ _) ((Below.refl _ w).alloc (Nat.le_refl _) _))
  simp only [execOp, ho, hx, rfObj]
  go_simp
end
theorem rfEv_none {l : List UInt8} {k : Nat} (h : rfEv l k = none) : ∀ d, rfEv l (k + d) = none
  | 0 => h
  | d + 1 => by
    rw [← Nat.add_assoc, rfEv, rfEv_none h d]
theorem rfAns_stop {l : List UInt8} {k n : Nat} {e : EvV} (hk : k < 4) (h : rfEv l k = some (n, e)) (hs : rfStep l k n e = none) : rfAns l = none := by
  have h1 : rfEv l (k + 1) = none := by rw [rfEv, h]; exact hs
  have h2 := rfEv_none h1 (3 - k)
  rw [show k + 1 + (3 - k) = 4 by omega] at h2
  unfold rfAns
  rw [h2]
  split <;> rfl
theorem rfAns_four {l : List UInt8} {n : Nat} {e : EvV} (h0 : l.take 1 = [123]) (h : rfEv l 4 = some (n, e)) : rfAns l = if (l.drop n).take 1 = [125] ∧ n + 1 = l.length ∧ evTxt e = l then some e else none := by
  unfold rfAns
  rw [if_pos h0, h]
theorem rdN_le (l : List UInt8) (h : l.length ≤ 1000000) : rdN (readL l) ≤ 1000000 := by
  cases hs : (readL l).isSome
  · have : readL l = none := by simpa using hs
    rw [this]
    show 0 ≤ _
    omega
  · have := (readL_val hs).2
    omega
set_option maxHeartbeats 1000000 in
set_option maxRecDepth 100000 in
theorem refReadEvent7 (l : List UInt8) (w : World) (HE : Env w) (hl : l.length ≤ 1000) :
    Calls Tryz.prog 11 #[.string (bs l)] w fun e w' => e = .returned (.tuple #[evVal ((rfAns l).getD evZ), .bool (rfAns l).isSome]) ∧ Below w.heap.size w w' := by
  have w6 : 6 ≤ w.heap.size := HE.big
  have D : w.grownBy w none := grown_refl _ _
  go_enter Tryz.func11, Tryz.ntmps11
  refine wp_seq_k (fun K1 hK1 => ?_)
  refine wp_region_lit ?_
  refine wt_allocEv (o := ⟨_, _, _, _, _, _⟩) (by rfl) rfl (fun v1 g1 hg G1 kb => ?_)
  simp only [Act.put, lzA, lzB, lzC]
  have ge_g1 : w.heap.size ≤ g1 := Nat.le_trans D.size hg
  have six_g1 : 6 ≤ g1 := Nat.le_trans w6 ge_g1
  clear hg
  replace D := grown_below D kb
  replace HE := HE.on kb
  clear kb
  replace G1 : v1.heap[g1]? = some (.cells #[.int .i64 0, .int .i64 0, .string (bs ([])), .int .i64 0, .int .i64 0, .string (bs ([])), .int .i64 0, .int .i64 0, .string (bs ([])), .int .i64 0, .int .i64 0, .string (bs ([]))] 42 (0, 0)) := G1
  refine wl_yield (o := ⟨_, _, _, _, _, _⟩) (.bool false) (yl_assign (by rfl) _ rfl _ rfl) ?_
  simp only [Act.put, lzA, lzB, lzC]
  refine wpList_nil ?_
  refine hK1 _ _ ?_
  clear hK1 K1
  refine wp_seq_k (fun K2 hK2 => ?_)
  refine wp_region_lit ?_
  refine wl_yield (o := ⟨_, _, _, _, _, _⟩) (.string (bs l)) (yl_move (by rfl) _ rfl _ rfl) ?_
  simp only [Act.put, lzA, lzB, lzC]
  refine wl_yield (o := ⟨_, _, _, _, _, _⟩) (.agg #[.string (bs l), .int .i64 0]) (yt_buildRf (by rfl) _ rfl l rfl) ?_
  simp only [Act.put, lzA, lzB, lzC]
  refine wt_boxRf (o := ⟨_, _, _, _, _, _⟩) (by rfl) _ rfl l rfl (fun v2 g2 hg G2 kb => ?_)
  simp only [Act.put, lzA, lzB, lzC]
  have n_g1_g2 : g1 ≠ g2 := by have := lt_heap G1; omega
  have ge_g2 : w.heap.size ≤ g2 := Nat.le_trans D.size hg
  have six_g2 : 6 ≤ g2 := Nat.le_trans w6 ge_g2
  clear hg
  replace D := grown_below D kb
  replace HE := HE.on kb
  replace G1 := heap_on G1 kb
  clear kb
  refine wl_yield (o := ⟨_, _, _, _, _, _⟩) (.pointer (some ⟨g2, 0, none⟩)) (yl_assign (by rfl) _ rfl _ rfl) ?_
  simp only [Act.put, lzA, lzB, lzC]
  refine wpList_nil ?_
  refine hK2 _ _ ?_
  clear hK2 K2
  refine wp_seq_k (fun K3 hK3 => ?_)
  refine wp_region_lit ?_
  refine wl_yield (o := ⟨_, _, _, _, _, _⟩) (evVal evZ) (yl_zeroE (by rfl) rfl) ?_
  simp only [Act.put, lzA, lzB, lzC]
  refine wt_allocEv (o := ⟨_, _, _, _, _, _⟩) (by rfl) rfl (fun v3 g3 hg G3 kb => ?_)
  simp only [Act.put, lzA, lzB, lzC]
  have n_g1_g3 : g1 ≠ g3 := by have := lt_heap G1; omega
  have n_g2_g3 : g2 ≠ g3 := by have := lt_heap G2; omega
  have ge_g3 : w.heap.size ≤ g3 := Nat.le_trans D.size hg
  have six_g3 : 6 ≤ g3 := Nat.le_trans w6 ge_g3
  clear hg
  replace D := grown_below D kb
  replace HE := HE.on kb
  replace G1 := heap_on G1 kb
  replace G2 := heap_on G2 kb
  clear kb
  replace G3 : v3.heap[g3]? = some (.cells #[.int .i64 0, .int .i64 0, .string (bs ([])), .int .i64 0, .int .i64 0, .string (bs ([])), .int .i64 0, .int .i64 0, .string (bs ([])), .int .i64 0, .int .i64 0, .string (bs ([]))] 42 (0, 0)) := G3
  refine wt_putEv (o := ⟨_, _, _, _, _, _⟩) rfl _ _ rfl _ rfl (evZ) rfl G3 rfl (fun v4 X kg => ?_)
  simp only [Act.put, lzA, lzB, lzC]
  replace D := gr_new D ge_g3 kg
  replace HE := Env.gr HE kg six_g3
  replace G1 := heap_gr G1 kg n_g1_g3
  replace G2 := heap_gr G2 kg n_g2_g3
  clear kg
  replace G3 : v4.heap[g3]? = some (.cells #[.int .i64 (evZ.v0.1), .int .i64 (evZ.v0.2.1), .string evZ.v0.2.2, .int .i64 (evZ.v1.1), .int .i64 (evZ.v1.2.1), .string evZ.v1.2.2, .int .i64 (evZ.v2.1), .int .i64 (evZ.v2.2.1), .string evZ.v2.2.2, .int .i64 (evZ.v3.1), .int .i64 (evZ.v3.2.1), .string evZ.v3.2.2] 42 (0, 0)) := X
  clear X
  refine wpList_nil ?_
  refine hK3 _ _ ?_
  clear hK3 K3
  refine wp_seq_k (fun K4 hK4 => ?_)
  refine wp_seq_k (fun K5 hK5 => ?_)
  refine wp_region_lit ?_
  refine wl_yield (o := ⟨_, _, _, _, _, _⟩) (.pointer (some ⟨g2, 0, none⟩)) (yl_move (by rfl) _ rfl _ rfl) ?_
  simp only [Act.put, lzA, lzB, lzC]
  refine wt_call (o := ⟨_, _, _, _, _, _⟩) (by rfl) 27 _ _ rfl #[.pointer (some ⟨g2, 0, none⟩), .string (bs ([123]))] rfl (run_call Tryz.func27 (by kernel_rfl) (by kernel_rfl)) ?_
  refine (refEat7 g2 (0) l ([123]) _ G2 (by omega) (by omega) (by show 1 ≤ 1000000; omega) (by show 0 < 1; omega)).mono ?_
  rintro r v5 (⟨hm, rfl, HG, kg⟩ | ⟨hm, rfl, HG, kg⟩)
  · replace D := gr_new D ge_g2 kg
    replace HE := Env.gr HE kg six_g2
    replace G1 := heap_gr G1 kg n_g1_g2
    replace G3 := heap_gr G3 kg (Ne.symm n_g2_g3)
    clear kg
    replace G2 : v5.heap[g2]? = some (rfObj l (1)) := HG
    clear HG
    have ho : l.take 1 = [123] := hm
    have hl1 : 1 ≤ l.length := by have := congrArg List.length ho; rw [List.length_take] at this; simp only [List.length_cons, List.length_nil] at this; omega
    refine Or.inl ⟨.bool true, rfl, ?_⟩
    simp only [Act.put, lzA, lzB, lzC]
    refine wl_yield (o := ⟨_, _, _, _, _, _⟩) (.bool false) (yl_not (by rfl) _ _ rfl true rfl) ?_
    simp only [Act.put, lzA, lzB, lzC]
    refine wpList_nil ?_
    refine hK5 _ _ ?_
    clear hK5 K5
    refine wp_cond_false rfl ?_
    refine wp_skip ?_
    refine hK4 _ _ ?_
    clear hK4 K4
    refine wp_seq_k (fun K6 hK6 => ?_)
    refine wp_seq_k (fun K7 hK7 => ?_)
    refine wp_region_lit ?_
    refine wl_yield (o := ⟨_, _, _, _, _, _⟩) (.int .i64 0) (yl_assign (by rfl) _ rfl _ rfl) ?_
    simp only [Act.put, lzA, lzB, lzC]
    refine wpList_nil ?_
    refine hK7 _ _ ?_
    clear hK7 K7
    refine wp_block ?_
    go_loopw [6] (fun i wr => ∃ (k n : Nat) (σ : EvV), i = .int .i64 k ∧ k ≤ 4 ∧ rfEv l k = some (n, σ) ∧ wr.heap[g1]? = some (evObj evZ) ∧ wr.heap[g2]? = some (rfObj l n) ∧ wr.heap[g3]? = some (evObj σ) ∧ Env wr ∧ w.grownBy wr none) (fun i _ => 4 - (intOf i).toNat)
    case atStart => exact ⟨0, 1, evZ, rfl, by omega, rfl, G1, G2, G3, HE, D⟩
    case round =>
      clear D HE G1 G2 G3
      obtain ⟨k, n, σ, rfl, hk, hev, G1, G2, G3, HE, D⟩ := hrel
      obtain ⟨hnl, hσr, hσo⟩ := rfEv_ok hl1 k hk n σ hev
      by_cases hlt : k < 4
      · refine wp_seq_k (fun K8 hK8 => ?_)
        refine wp_seq_k (fun K9 hK9 => ?_)
        refine wp_region_lit ?_
        refine wl_yield (o := ⟨_, _, _, _, _, _⟩) (.int .i64 (k : Nat)) (yl_move (by rfl) _ rfl _ rfl) ?_
        simp only [Act.put, lzA, lzB, lzC]
        refine wl_yield (o := ⟨_, _, _, _, _, _⟩) (.bool true) (yt_lssI (by rfl) _ _ _ rfl (((k : Nat) : Int)) 4 true rfl rfl (decide_eq_true (by omega))) ?_
        simp only [Act.put, lzA, lzB, lzC]
        refine wpList_nil ?_
        refine hK9 _ _ ?_
        clear hK9 K9
        refine wp_cond_true rfl ?_
        refine wp_skip ?_
        refine hK8 _ _ ?_
        clear hK8 K8
        refine wp_seq_k (fun K10 hK10 => ?_)
        refine wp_block ?_
        refine wp_seq_k (fun K11 hK11 => ?_)
        refine wp_region_lit ?_
        refine wl_yield (o := ⟨_, _, _, _, _, _⟩) (.pointer (some ⟨g2, 0, none⟩)) (yl_move (by rfl) _ rfl _ rfl) ?_
        simp only [Act.put, lzA, lzB, lzC]
        refine wl_yield (o := ⟨_, _, _, _, _, _⟩) (.pointer (some ⟨g2, 0, none⟩)) (yt_nil (by rfl) _ rfl _ rfl) ?_
        simp only [Act.put, lzA, lzB, lzC]
        refine wl_yield (o := ⟨_, _, _, _, _, _⟩) (.pointer (some ⟨g2, 1, none⟩)) (yt_fRr1 (by rfl) _ rfl g2 0 rfl) ?_
        simp only [Act.put, lzA, lzB, lzC]
        refine wl_yield (o := ⟨_, _, _, _, _, _⟩) (.int .i64 (n : Nat)) (yt_ldI (by rfl) _ rfl _ _ rfl (((n : Nat) : Int)) (fun _ h => by subst h; exact cell_heap G2 1)) ?_
        simp only [Act.put, lzA, lzB, lzC]
        refine wl_yield (o := ⟨_, _, _, _, _, _⟩) (.int .i64 (n : Nat)) (yl_assign (by rfl) _ rfl _ rfl) ?_
        simp only [Act.put, lzA, lzB, lzC]
        refine wpList_nil ?_
        refine hK11 _ _ ?_
        clear hK11 K11
        refine wp_seq_k (fun K12 hK12 => ?_)
        refine wp_seq_k (fun K13 hK13 => ?_)
        by_cases h1n : 1 < n
        · refine wp_region_lit ?_
          refine wl_yield (o := ⟨_, _, _, _, _, _⟩) (.int .i64 (n : Nat)) (yl_move (by rfl) _ rfl _ rfl) ?_
          simp only [Act.put, lzA, lzB, lzC]
          refine wl_yield (o := ⟨_, _, _, _, _, _⟩) (.bool true) (yt_gtrI (by rfl) _ _ _ rfl (((n : Nat) : Int)) 1 true rfl rfl (decide_eq_true (by omega))) ?_
          simp only [Act.put, lzA, lzB, lzC]
          refine wpList_nil ?_
          refine hK13 _ _ ?_
          clear hK13 K13
          refine wp_cond_true rfl ?_
          refine wp_region_lit ?_
          refine wl_yield (o := ⟨_, _, _, _, _, _⟩) (.pointer (some ⟨g2, 0, none⟩)) (yl_move (by rfl) _ rfl _ rfl) ?_
          simp only [Act.put, lzA, lzB, lzC]
          refine wt_call (o := ⟨_, _, _, _, _, _⟩) (by rfl) 27 _ _ rfl #[.pointer (some ⟨g2, 0, none⟩), .string (bs ([32]))] rfl (run_call Tryz.func27 (by kernel_rfl) (by kernel_rfl)) ?_
          refine (refEat7 g2 (n) l ([32]) _ G2 (by omega) (by omega) (by show 1 ≤ 1000000; omega) (by show 0 < 1; omega)).mono ?_
          rintro r v6 (⟨hm, rfl, HG, kg⟩ | ⟨hm, rfl, HG, kg⟩)
          · replace D := gr_new D ge_g2 kg
            replace HE := Env.gr HE kg six_g2
            replace G1 := heap_gr G1 kg n_g1_g2
            replace G3 := heap_gr G3 kg (Ne.symm n_g2_g3)
            clear kg
            replace G2 : v6.heap[g2]? = some (rfObj l (n + 1)) := HG
            clear HG
            have hn1 : (if 1 < n ∧ (l.drop n).take 1 = [32] then n + 1 else n) = n + 1 := if_pos ⟨h1n, hm⟩
            have hlen1 : n + 1 ≤ l.length := by have := congrArg List.length hm; rw [List.length_take, List.length_drop] at this; simp only [List.length_cons, List.length_nil] at this; omega
            refine Or.inl ⟨.bool true, rfl, ?_⟩
            simp only [Act.put, lzA, lzB, lzC]
            refine wpList_nil ?_
            refine hK12 _ _ ?_
            clear hK12 K12
            refine wp_seq_k (fun K14 hK14 => ?_)
            refine wp_seq_k (fun K15 hK15 => ?_)
            refine wp_region_lit ?_
            refine wl_yield (o := ⟨_, _, _, _, _, _⟩) (.pointer (some ⟨g2, 0, none⟩)) (yl_move (by rfl) _ rfl _ rfl) ?_
            simp only [Act.put, lzA, lzB, lzC]
            refine wl_yield (o := ⟨_, _, _, _, _, _⟩) (.int .i64 (k : Nat)) (yl_move (by rfl) _ rfl _ rfl) ?_
            simp only [Act.put, lzA, lzB, lzC]
            refine wt_call (o := ⟨_, _, _, _, _, _⟩) (by rfl) 28 _ _ rfl #[.int .i64 (k : Nat)] rfl (run_call Tryz.func28 (by kernel_rfl) (by kernel_rfl)) ?_
            refine (refName7 (k : Nat) (by omega) (by omega) _).mono ?_
            rintro r v7 ⟨rfl, kb⟩
            replace D := grown_below D kb
            replace HE := HE.on kb
            replace G1 := heap_on G1 kb
            replace G2 := heap_on G2 kb
            replace G3 := heap_on G3 kb
            clear kb
            refine Or.inl ⟨.string (bs (nameL (k : Nat))), rfl, ?_⟩
            simp only [Act.put, lzA, lzB, lzC]
            refine wl_yield (o := ⟨_, _, _, _, _, _⟩) (.string (bs ((nameL (k : Nat)) ++ ([61])))) (yt_cat (by rfl) _ _ _ rfl (nameL (k : Nat)) ([61]) rfl rfl (by rw [name1]; decide)) ?_
            simp only [Act.put, lzA, lzB, lzC]
            refine wt_call (o := ⟨_, _, _, _, _, _⟩) (by rfl) 27 _ _ rfl #[.pointer (some ⟨g2, 0, none⟩), .string (bs ((nameL (k : Nat)) ++ ([61])))] rfl (run_call Tryz.func27 (by kernel_rfl) (by kernel_rfl)) ?_
            refine (refEat7 g2 (n + 1) l (nameL (k : Nat) ++ [61]) _ G2 (by omega) (by omega) (by show 2 ≤ 1000000; omega) (by show 0 < 2; omega)).mono ?_
            rintro r v8 (⟨hm, rfl, HG, kg⟩ | ⟨hm, rfl, HG, kg⟩)
            · replace D := gr_new D ge_g2 kg
              replace HE := Env.gr HE kg six_g2
              replace G1 := heap_gr G1 kg n_g1_g2
              replace G3 := heap_gr G3 kg (Ne.symm n_g2_g3)
              clear kg
              replace G2 : v8.heap[g2]? = some (rfObj l (n + 1 + 2)) := HG
              clear HG
              have hlen2 : n + 1 + 2 ≤ l.length := by have := congrArg List.length hm; rw [List.length_take, List.length_drop] at this; have e2 : (nameL ((k : Nat) : Int) ++ [61]).length = 2 := rfl; omega
              have hname : (l.drop (n + 1)).take 2 = nameL ((k : Nat) : Int) ++ [61] := hm
              refine Or.inl ⟨.bool true, rfl, ?_⟩
              simp only [Act.put, lzA, lzB, lzC]
              refine wl_yield (o := ⟨_, _, _, _, _, _⟩) (.bool false) (yl_not (by rfl) _ _ rfl true rfl) ?_
              simp only [Act.put, lzA, lzB, lzC]
              refine wpList_nil ?_
              refine hK15 _ _ ?_
              clear hK15 K15
              refine wp_cond_false rfl ?_
              refine wp_skip ?_
              refine hK14 _ _ ?_
              clear hK14 K14
              refine wp_seq_k (fun K16 hK16 => ?_)
              refine wp_region_lit ?_
              refine wl_yield (o := ⟨_, _, _, _, _, _⟩) (.pointer (some ⟨g2, 0, none⟩)) (yl_move (by rfl) _ rfl _ rfl) ?_
              simp only [Act.put, lzA, lzB, lzC]
              cases hs : (readL (l.drop (n + 1 + 2))).isSome
              · have hst : rfStep l k n σ = none := by unfold rfStep; dsimp only; rw [hn1, if_pos hname, hs]; rfl
                have hA := rfAns_stop hlt hev hst
                refine wt_call (o := ⟨_, _, _, _, _, _⟩) (by rfl) 29 _ _ rfl #[.pointer (some ⟨g2, 0, none⟩)] rfl (run_call Tryz.func29 (by kernel_rfl) (by kernel_rfl)) ?_
                refine (refVal7 g2 (n + 1 + 2) l _ G2 (by omega) (by omega) (rdN_le _ (by rw [List.length_drop]; omega))).mono ?_
                rintro r v9 (⟨rfl, HG, kg⟩)
                · replace D := gr_new D ge_g2 kg
                  replace HE := Env.gr HE kg six_g2
                  replace G1 := heap_gr G1 kg n_g1_g2
                  replace G3 := heap_gr G3 kg (Ne.symm n_g2_g3)
                  clear kg
                  replace G2 : v9.heap[g2]? = some (rfObj l (n + 1 + 2 + rdN (readL (l.drop (n + 1 + 2))))) := HG
                  clear HG
                  refine Or.inl ⟨.tuple #[vVal ((rdV (readL (l.drop (n + 1 + 2))))), .bool false], by rw [hs], ?_⟩
                  simp only [Act.put, lzA, lzB, lzC]
                  refine wl_yield (o := ⟨_, _, _, _, _, _⟩) (.tuple #[vVal ((rdV (readL (l.drop (n + 1 + 2))))), .bool false]) (yl_move (by rfl) _ rfl _ rfl) ?_
                  simp only [Act.put, lzA, lzB, lzC]
                  refine wl_yield (o := ⟨_, _, _, _, _, _⟩) (vVal ((rdV (readL (l.drop (n + 1 + 2)))))) (yl_extract0 (by rfl) _ rfl _ _ rfl) ?_
                  simp only [Act.put, lzA, lzB, lzC]
                  refine wl_yield (o := ⟨_, _, _, _, _, _⟩) (.bool false) (yl_extract1 (by rfl) _ rfl _ _ rfl) ?_
                  simp only [Act.put, lzA, lzB, lzC]
                  refine wt_allocVa (o := ⟨_, _, _, _, _, _⟩) (by rfl) rfl (fun v10 g10 hg G10 kb => ?_)
                  simp only [Act.put, lzA, lzB, lzC]
                  have n_g1_g10 : g1 ≠ g10 := by have := lt_heap G1; omega
                  have n_g2_g10 : g2 ≠ g10 := by have := lt_heap G2; omega
                  have n_g3_g10 : g3 ≠ g10 := by have := lt_heap G3; omega
                  have ge_g10 : w.heap.size ≤ g10 := Nat.le_trans D.size hg
                  have six_g10 : 6 ≤ g10 := Nat.le_trans w6 ge_g10
                  clear hg
                  replace D := grown_below D kb
                  replace HE := HE.on kb
                  replace G1 := heap_on G1 kb
                  replace G2 := heap_on G2 kb
                  replace G3 := heap_on G3 kb
                  clear kb
                  replace G10 : v10.heap[g10]? = some (.cells #[.int .i64 0, .int .i64 0, .string (bs ([]))] 40 (0, 0)) := G10
                  refine wt_putVa (o := ⟨_, _, _, _, _, _⟩) rfl _ _ rfl _ rfl ((rdV (readL (l.drop (n + 1 + 2))))) rfl G10 rfl (fun v11 X kg => ?_)
                  simp only [Act.put, lzA, lzB, lzC]
                  replace D := gr_new D ge_g10 kg
                  replace HE := Env.gr HE kg six_g10
                  replace G1 := heap_gr G1 kg n_g1_g10
                  replace G2 := heap_gr G2 kg n_g2_g10
                  replace G3 := heap_gr G3 kg n_g3_g10
                  clear kg
                  replace G10 : v11.heap[g10]? = some (.cells #[.int .i64 (((rdV (readL (l.drop (n + 1 + 2))))).1), .int .i64 (((rdV (readL (l.drop (n + 1 + 2))))).2.1), .string ((rdV (readL (l.drop (n + 1 + 2))))).2.2] 40 (0, 0)) := X
                  clear X
                  refine wl_yield (o := ⟨_, _, _, _, _, _⟩) (.bool false) (yl_assign (by rfl) _ rfl _ rfl) ?_
                  simp only [Act.put, lzA, lzB, lzC]
                  refine wpList_nil ?_
                  refine hK16 _ _ ?_
                  clear hK16 K16
                  refine wp_seq_k (fun K17 hK17 => ?_)
                  refine wp_seq_k (fun K18 hK18 => ?_)
                  refine wp_region_lit ?_
                  refine wl_yield (o := ⟨_, _, _, _, _, _⟩) (.bool false) (yl_move (by rfl) _ rfl _ rfl) ?_
                  simp only [Act.put, lzA, lzB, lzC]
                  refine wl_yield (o := ⟨_, _, _, _, _, _⟩) (.bool true) (yl_not (by rfl) _ _ rfl false rfl) ?_
                  simp only [Act.put, lzA, lzB, lzC]
                  refine wpList_nil ?_
                  refine hK18 _ _ ?_
                  clear hK18 K18
                  refine wp_cond_true rfl ?_
                  refine wp_seq_k (fun K19 hK19 => ?_)
                  refine wp_region_lit ?_
                  refine wl_yield (o := ⟨_, _, _, _, _, _⟩) (evVal evZ) (yl_zeroE (by rfl) rfl) ?_
                  simp only [Act.put, lzA, lzB, lzC]
                  refine wt_putEv (o := ⟨_, _, _, _, _, _⟩) rfl _ _ rfl _ rfl (evZ) rfl G1 rfl (fun v12 X kg => ?_)
                  simp only [Act.put, lzA, lzB, lzC]
                  replace D := gr_new D ge_g1 kg
                  replace HE := Env.gr HE kg six_g1
                  replace G2 := heap_gr G2 kg (Ne.symm n_g1_g2)
                  replace G3 := heap_gr G3 kg (Ne.symm n_g1_g3)
                  replace G10 := heap_gr G10 kg (Ne.symm n_g1_g10)
                  clear kg
                  replace G1 : v12.heap[g1]? = some (.cells #[.int .i64 (evZ.v0.1), .int .i64 (evZ.v0.2.1), .string evZ.v0.2.2, .int .i64 (evZ.v1.1), .int .i64 (evZ.v1.2.1), .string evZ.v1.2.2, .int .i64 (evZ.v2.1), .int .i64 (evZ.v2.2.1), .string evZ.v2.2.2, .int .i64 (evZ.v3.1), .int .i64 (evZ.v3.2.1), .string evZ.v3.2.2] 42 (0, 0)) := X
                  clear X
                  refine wl_yield (o := ⟨_, _, _, _, _, _⟩) (.bool false) (yl_assign (by rfl) _ rfl _ rfl) ?_
                  simp only [Act.put, lzA, lzB, lzC]
                  refine wpList_nil ?_
                  refine hK19 _ _ ?_
                  clear hK19 K19
                  refine wp_ret ?_
                  try simp only [Exit.inBlock, Exit.then]
                  refine bodyPost_ret (results_cs rfl _ _ g1 _ (.bool false) rfl rfl (run_loadVar_row _ _ _ _ _ _ _ G1 Tryz.underlying42 rfl (by rw [infoEv12]; rfl))) rfl ⟨by rw [hA]; rfl, below_none D⟩
              · have hst : rfStep l k n σ = some (n + 1 + 2 + rdN (readL (l.drop (n + 1 + 2))), σ.setAt k (rdV (readL (l.drop (n + 1 + 2))))) := by unfold rfStep; dsimp only; rw [hn1, if_pos hname, hs]; rfl
                refine wt_call (o := ⟨_, _, _, _, _, _⟩) (by rfl) 29 _ _ rfl #[.pointer (some ⟨g2, 0, none⟩)] rfl (run_call Tryz.func29 (by kernel_rfl) (by kernel_rfl)) ?_
                refine (refVal7 g2 (n + 1 + 2) l _ G2 (by omega) (by omega) (rdN_le _ (by rw [List.length_drop]; omega))).mono ?_
                rintro r v9 (⟨rfl, HG, kg⟩)
                · replace D := gr_new D ge_g2 kg
                  replace HE := Env.gr HE kg six_g2
                  replace G1 := heap_gr G1 kg n_g1_g2
                  replace G3 := heap_gr G3 kg (Ne.symm n_g2_g3)
                  clear kg
                  replace G2 : v9.heap[g2]? = some (rfObj l (n + 1 + 2 + rdN (readL (l.drop (n + 1 + 2))))) := HG
                  clear HG
                  refine Or.inl ⟨.tuple #[vVal ((rdV (readL (l.drop (n + 1 + 2))))), .bool true], by rw [hs], ?_⟩
                  simp only [Act.put, lzA, lzB, lzC]
                  refine wl_yield (o := ⟨_, _, _, _, _, _⟩) (.tuple #[vVal ((rdV (readL (l.drop (n + 1 + 2))))), .bool true]) (yl_move (by rfl) _ rfl _ rfl) ?_
                  simp only [Act.put, lzA, lzB, lzC]
                  refine wl_yield (o := ⟨_, _, _, _, _, _⟩) (vVal ((rdV (readL (l.drop (n + 1 + 2)))))) (yl_extract0 (by rfl) _ rfl _ _ rfl) ?_
                  simp only [Act.put, lzA, lzB, lzC]
                  refine wl_yield (o := ⟨_, _, _, _, _, _⟩) (.bool true) (yl_extract1 (by rfl) _ rfl _ _ rfl) ?_
                  simp only [Act.put, lzA, lzB, lzC]
                  refine wt_allocVa (o := ⟨_, _, _, _, _, _⟩) (by rfl) rfl (fun v10 g10 hg G10 kb => ?_)
                  simp only [Act.put, lzA, lzB, lzC]
                  have n_g1_g10 : g1 ≠ g10 := by have := lt_heap G1; omega
                  have n_g2_g10 : g2 ≠ g10 := by have := lt_heap G2; omega
                  have n_g3_g10 : g3 ≠ g10 := by have := lt_heap G3; omega
                  have ge_g10 : w.heap.size ≤ g10 := Nat.le_trans D.size hg
                  have six_g10 : 6 ≤ g10 := Nat.le_trans w6 ge_g10
                  clear hg
                  replace D := grown_below D kb
                  replace HE := HE.on kb
                  replace G1 := heap_on G1 kb
                  replace G2 := heap_on G2 kb
                  replace G3 := heap_on G3 kb
                  clear kb
                  replace G10 : v10.heap[g10]? = some (.cells #[.int .i64 0, .int .i64 0, .string (bs ([]))] 40 (0, 0)) := G10
                  refine wt_putVa (o := ⟨_, _, _, _, _, _⟩) rfl _ _ rfl _ rfl ((rdV (readL (l.drop (n + 1 + 2))))) rfl G10 rfl (fun v11 X kg => ?_)
                  simp only [Act.put, lzA, lzB, lzC]
                  replace D := gr_new D ge_g10 kg
                  replace HE := Env.gr HE kg six_g10
                  replace G1 := heap_gr G1 kg n_g1_g10
                  replace G2 := heap_gr G2 kg n_g2_g10
                  replace G3 := heap_gr G3 kg n_g3_g10
                  clear kg
                  replace G10 : v11.heap[g10]? = some (.cells #[.int .i64 (((rdV (readL (l.drop (n + 1 + 2))))).1), .int .i64 (((rdV (readL (l.drop (n + 1 + 2))))).2.1), .string ((rdV (readL (l.drop (n + 1 + 2))))).2.2] 40 (0, 0)) := X
                  clear X
                  refine wl_yield (o := ⟨_, _, _, _, _, _⟩) (.bool true) (yl_assign (by rfl) _ rfl _ rfl) ?_
                  simp only [Act.put, lzA, lzB, lzC]
                  refine wpList_nil ?_
                  refine hK16 _ _ ?_
                  clear hK16 K16
                  refine wp_seq_k (fun K17 hK17 => ?_)
                  refine wp_seq_k (fun K18 hK18 => ?_)
                  refine wp_region_lit ?_
                  refine wl_yield (o := ⟨_, _, _, _, _, _⟩) (.bool true) (yl_move (by rfl) _ rfl _ rfl) ?_
                  simp only [Act.put, lzA, lzB, lzC]
                  refine wl_yield (o := ⟨_, _, _, _, _, _⟩) (.bool false) (yl_not (by rfl) _ _ rfl true rfl) ?_
                  simp only [Act.put, lzA, lzB, lzC]
                  refine wpList_nil ?_
                  refine hK18 _ _ ?_
                  clear hK18 K18
                  refine wp_cond_false rfl ?_
                  refine wp_skip ?_
                  refine hK17 _ _ ?_
                  clear hK17 K17
                  refine wp_region_lit ?_
                  refine wl_yield (o := ⟨_, _, _, _, _, _⟩) (.int .i64 (k : Nat)) (yl_move (by rfl) _ rfl _ rfl) ?_
                  simp only [Act.put, lzA, lzB, lzC]
                  refine wl_yield (o := ⟨_, _, _, _, _, _⟩) (.agg #[.int .i64 (((rdV (readL (l.drop (n + 1 + 2))))).1), .int .i64 (((rdV (readL (l.drop (n + 1 + 2))))).2.1), .string ((rdV (readL (l.drop (n + 1 + 2))))).2.2]) (yl_val (by rfl) _ rfl _ 0 rfl _ _ _ (fun _ h => by subst h; exact ⟨cell_heap G10 0, cell_heap G10 1, cell_heap G10 2⟩)) ?_
                  simp only [Act.put, lzA, lzB, lzC]
                  refine wl_yield (o := ⟨_, _, _, _, _, _⟩) (.pointer (some ⟨g3, ((k : Nat) : Int).toNat * 3, none⟩)) (yt_atEv (by rfl) _ _ rfl g3 ((k : Nat) : Int) rfl rfl (by omega) (by omega)) ?_
                  simp only [Act.put, lzA, lzB, lzC]
                  refine wt_putEvAt (o := ⟨_, _, _, _, _, _⟩) rfl _ _ rfl g3 ((k : Nat) : Int) rfl ((rdV (readL (l.drop (n + 1 + 2))))) rfl G3 (by omega) (by omega) (fun v12 X kg => ?_)
                  simp only [Act.put, lzA, lzB, lzC]
                  replace D := gr_new D ge_g3 kg
                  replace HE := Env.gr HE kg six_g3
                  replace G1 := heap_gr G1 kg n_g1_g3
                  replace G2 := heap_gr G2 kg n_g2_g3
                  replace G10 := heap_gr G10 kg (Ne.symm n_g3_g10)
                  clear kg
                  replace G3 := X
                  clear X
                  refine wpList_nil ?_
                  refine hK10 _ _ ?_
                  clear hK10 K10
                  refine wp_region_lit ?_
                  refine wl_yield (o := ⟨_, _, _, _, _, _⟩) (.int .i64 (k : Nat)) (yl_move (by rfl) _ rfl _ rfl) ?_
                  simp only [Act.put, lzA, lzB, lzC]
                  refine wl_yield (o := ⟨_, _, _, _, _, _⟩) (.int .i64 (k + 1 : Nat)) (yt_addI (by rfl) _ _ _ rfl (((k : Nat) : Int)) 1 (((k + 1 : Nat) : Int)) rfl rfl (by omega) (by omega) (by omega)) ?_
                  simp only [Act.put, lzA, lzB, lzC]
                  refine wl_yield (o := ⟨_, _, _, _, _, _⟩) (.int .i64 (k + 1 : Nat)) (yl_assign (by rfl) _ rfl _ rfl) ?_
                  simp only [Act.put, lzA, lzB, lzC]
                  refine wpList_nil ?_
                  show _ ∧ _
                  go_roundw
                  case rel => exact ⟨k + 1, _, _, rfl, by omega, by rw [rfEv, hev]; exact hst, G1, G2, G3, HE, D⟩
                  case measure => simp [intOf]; omega
            · replace D := gr_new D ge_g2 kg
              replace HE := Env.gr HE kg six_g2
              replace G1 := heap_gr G1 kg n_g1_g2
              replace G3 := heap_gr G3 kg (Ne.symm n_g2_g3)
              clear kg
              replace G2 : v8.heap[g2]? = some (rfObj l (n + 1)) := HG
              clear HG
              have hst : rfStep l k n σ = some (n, σ) := by unfold rfStep; dsimp only; rw [hn1]; exact if_neg hm
              refine Or.inl ⟨.bool false, rfl, ?_⟩
              simp only [Act.put, lzA, lzB, lzC]
              refine wl_yield (o := ⟨_, _, _, _, _, _⟩) (.bool true) (yl_not (by rfl) _ _ rfl false rfl) ?_
              simp only [Act.put, lzA, lzB, lzC]
              refine wpList_nil ?_
              refine hK15 _ _ ?_
              clear hK15 K15
              refine wp_cond_true rfl ?_
              refine wp_seq_k (fun K16 hK16 => ?_)
              refine wp_region_lit ?_
              refine wl_yield (o := ⟨_, _, _, _, _, _⟩) (.pointer (some ⟨g2, 0, none⟩)) (yl_move (by rfl) _ rfl _ rfl) ?_
              simp only [Act.put, lzA, lzB, lzC]
              refine wl_yield (o := ⟨_, _, _, _, _, _⟩) (.int .i64 (n : Nat)) (yl_move (by rfl) _ rfl _ rfl) ?_
              simp only [Act.put, lzA, lzB, lzC]
              refine wl_yield (o := ⟨_, _, _, _, _, _⟩) (.pointer (some ⟨g2, 0, none⟩)) (yt_nil (by rfl) _ rfl _ rfl) ?_
              simp only [Act.put, lzA, lzB, lzC]
              refine wl_yield (o := ⟨_, _, _, _, _, _⟩) (.pointer (some ⟨g2, 1, none⟩)) (yt_fRr1 (by rfl) _ rfl g2 0 rfl) ?_
              simp only [Act.put, lzA, lzB, lzC]
              refine wt_putI (o := ⟨_, _, _, _, _, _⟩) (by rfl) _ _ rfl _ 1 rfl (((n : Nat) : Int)) rfl G2 (by simp) (fun v9 X kg => ?_)
              simp only [Act.put, lzA, lzB, lzC]
              replace D := gr_new D ge_g2 kg
              replace HE := Env.gr HE kg six_g2
              replace G1 := heap_gr G1 kg n_g1_g2
              replace G3 := heap_gr G3 kg (Ne.symm n_g2_g3)
              clear kg
              replace G2 : v9.heap[g2]? = some (.cells #[.string (bs l), .int .i64 (n : Nat)] 60 (0, 0)) := X
              clear X
              refine wpList_nil ?_
              refine hK16 _ _ ?_
              clear hK16 K16
              refine wp_exit ?_
              refine hK10 _ _ ?_
              clear hK14 K14 hK10 K10
              refine wp_region_lit ?_
              refine wl_yield (o := ⟨_, _, _, _, _, _⟩) (.int .i64 (k : Nat)) (yl_move (by rfl) _ rfl _ rfl) ?_
              simp only [Act.put, lzA, lzB, lzC]
              refine wl_yield (o := ⟨_, _, _, _, _, _⟩) (.int .i64 (k + 1 : Nat)) (yt_addI (by rfl) _ _ _ rfl (((k : Nat) : Int)) 1 (((k + 1 : Nat) : Int)) rfl rfl (by omega) (by omega) (by omega)) ?_
              simp only [Act.put, lzA, lzB, lzC]
              refine wl_yield (o := ⟨_, _, _, _, _, _⟩) (.int .i64 (k + 1 : Nat)) (yl_assign (by rfl) _ rfl _ rfl) ?_
              simp only [Act.put, lzA, lzB, lzC]
              refine wpList_nil ?_
              show _ ∧ _
              go_roundw
              case rel => exact ⟨k + 1, _, _, rfl, by omega, by rw [rfEv, hev]; exact hst, G1, G2, G3, HE, D⟩
              case measure => simp [intOf]; omega
          · replace D := gr_new D ge_g2 kg
            replace HE := Env.gr HE kg six_g2
            replace G1 := heap_gr G1 kg n_g1_g2
            replace G3 := heap_gr G3 kg (Ne.symm n_g2_g3)
            clear kg
            replace G2 : v6.heap[g2]? = some (rfObj l (n)) := HG
            clear HG
            have hn1 : (if 1 < n ∧ (l.drop n).take 1 = [32] then n + 1 else n) = n := if_neg (fun h => hm h.2)
            refine Or.inl ⟨.bool false, rfl, ?_⟩
            simp only [Act.put, lzA, lzB, lzC]
            refine wpList_nil ?_
            refine hK12 _ _ ?_
            clear hK12 K12
            refine wp_seq_k (fun K14 hK14 => ?_)
            refine wp_seq_k (fun K15 hK15 => ?_)
            refine wp_region_lit ?_
            refine wl_yield (o := ⟨_, _, _, _, _, _⟩) (.pointer (some ⟨g2, 0, none⟩)) (yl_move (by rfl) _ rfl _ rfl) ?_
            simp only [Act.put, lzA, lzB, lzC]
            refine wl_yield (o := ⟨_, _, _, _, _, _⟩) (.int .i64 (k : Nat)) (yl_move (by rfl) _ rfl _ rfl) ?_
            simp only [Act.put, lzA, lzB, lzC]
            refine wt_call (o := ⟨_, _, _, _, _, _⟩) (by rfl) 28 _ _ rfl #[.int .i64 (k : Nat)] rfl (run_call Tryz.func28 (by kernel_rfl) (by kernel_rfl)) ?_
            refine (refName7 (k : Nat) (by omega) (by omega) _).mono ?_
            rintro r v7 ⟨rfl, kb⟩
            replace D := grown_below D kb
            replace HE := HE.on kb
            replace G1 := heap_on G1 kb
            replace G2 := heap_on G2 kb
            replace G3 := heap_on G3 kb
            clear kb
            refine Or.inl ⟨.string (bs (nameL (k : Nat))), rfl, ?_⟩
            simp only [Act.put, lzA, lzB, lzC]
            refine wl_yield (o := ⟨_, _, _, _, _, _⟩) (.string (bs ((nameL (k : Nat)) ++ ([61])))) (yt_cat (by rfl) _ _ _ rfl (nameL (k : Nat)) ([61]) rfl rfl (by rw [name1]; decide)) ?_
            simp only [Act.put, lzA, lzB, lzC]
            refine wt_call (o := ⟨_, _, _, _, _, _⟩) (by rfl) 27 _ _ rfl #[.pointer (some ⟨g2, 0, none⟩), .string (bs ((nameL (k : Nat)) ++ ([61])))] rfl (run_call Tryz.func27 (by kernel_rfl) (by kernel_rfl)) ?_
            refine (refEat7 g2 (n) l (nameL (k : Nat) ++ [61]) _ G2 (by omega) (by omega) (by show 2 ≤ 1000000; omega) (by show 0 < 2; omega)).mono ?_
            rintro r v8 (⟨hm, rfl, HG, kg⟩ | ⟨hm, rfl, HG, kg⟩)
            · replace D := gr_new D ge_g2 kg
              replace HE := Env.gr HE kg six_g2
              replace G1 := heap_gr G1 kg n_g1_g2
              replace G3 := heap_gr G3 kg (Ne.symm n_g2_g3)
              clear kg
              replace G2 : v8.heap[g2]? = some (rfObj l (n + 2)) := HG
              clear HG
              have hlen2 : n + 2 ≤ l.length := by have := congrArg List.length hm; rw [List.length_take, List.length_drop] at this; have e2 : (nameL ((k : Nat) : Int) ++ [61]).length = 2 := rfl; omega
              have hname : (l.drop (n)).take 2 = nameL ((k : Nat) : Int) ++ [61] := hm
              refine Or.inl ⟨.bool true, rfl, ?_⟩
              simp only [Act.put, lzA, lzB, lzC]
              refine wl_yield (o := ⟨_, _, _, _, _, _⟩) (.bool false) (yl_not (by rfl) _ _ rfl true rfl) ?_
              simp only [Act.put, lzA, lzB, lzC]
              refine wpList_nil ?_
              refine hK15 _ _ ?_
              clear hK15 K15
              refine wp_cond_false rfl ?_
              refine wp_skip ?_
              refine hK14 _ _ ?_
              clear hK14 K14
              refine wp_seq_k (fun K16 hK16 => ?_)
              refine wp_region_lit ?_
              refine wl_yield (o := ⟨_, _, _, _, _, _⟩) (.pointer (some ⟨g2, 0, none⟩)) (yl_move (by rfl) _ rfl _ rfl) ?_
              simp only [Act.put, lzA, lzB, lzC]
              cases hs : (readL (l.drop (n + 2))).isSome
              · have hst : rfStep l k n σ = none := by unfold rfStep; dsimp only; rw [hn1, if_pos hname, hs]; rfl
                have hA := rfAns_stop hlt hev hst
                refine wt_call (o := ⟨_, _, _, _, _, _⟩) (by rfl) 29 _ _ rfl #[.pointer (some ⟨g2, 0, none⟩)] rfl (run_call Tryz.func29 (by kernel_rfl) (by kernel_rfl)) ?_
                refine (refVal7 g2 (n + 2) l _ G2 (by omega) (by omega) (rdN_le _ (by rw [List.length_drop]; omega))).mono ?_
                rintro r v9 (⟨rfl, HG, kg⟩)
                · replace D := gr_new D ge_g2 kg
                  replace HE := Env.gr HE kg six_g2
                  replace G1 := heap_gr G1 kg n_g1_g2
                  replace G3 := heap_gr G3 kg (Ne.symm n_g2_g3)
                  clear kg
                  replace G2 : v9.heap[g2]? = some (rfObj l (n + 2 + rdN (readL (l.drop (n + 2))))) := HG
                  clear HG
                  refine Or.inl ⟨.tuple #[vVal ((rdV (readL (l.drop (n + 2))))), .bool false], by rw [hs], ?_⟩
                  simp only [Act.put, lzA, lzB, lzC]
                  refine wl_yield (o := ⟨_, _, _, _, _, _⟩) (.tuple #[vVal ((rdV (readL (l.drop (n + 2))))), .bool false]) (yl_move (by rfl) _ rfl _ rfl) ?_
                  simp only [Act.put, lzA, lzB, lzC]
                  refine wl_yield (o := ⟨_, _, _, _, _, _⟩) (vVal ((rdV (readL (l.drop (n + 2)))))) (yl_extract0 (by rfl) _ rfl _ _ rfl) ?_
                  simp only [Act.put, lzA, lzB, lzC]
                  refine wl_yield (o := ⟨_, _, _, _, _, _⟩) (.bool false) (yl_extract1 (by rfl) _ rfl _ _ rfl) ?_
                  simp only [Act.put, lzA, lzB, lzC]
                  refine wt_allocVa (o := ⟨_, _, _, _, _, _⟩) (by rfl) rfl (fun v10 g10 hg G10 kb => ?_)
                  simp only [Act.put, lzA, lzB, lzC]
                  have n_g1_g10 : g1 ≠ g10 := by have := lt_heap G1; omega
                  have n_g2_g10 : g2 ≠ g10 := by have := lt_heap G2; omega
                  have n_g3_g10 : g3 ≠ g10 := by have := lt_heap G3; omega
                  have ge_g10 : w.heap.size ≤ g10 := Nat.le_trans D.size hg
                  have six_g10 : 6 ≤ g10 := Nat.le_trans w6 ge_g10
                  clear hg
                  replace D := grown_below D kb
                  replace HE := HE.on kb
                  replace G1 := heap_on G1 kb
                  replace G2 := heap_on G2 kb
                  replace G3 := heap_on G3 kb
                  clear kb
                  replace G10 : v10.heap[g10]? = some (.cells #[.int .i64 0, .int .i64 0, .string (bs ([]))] 40 (0, 0)) := G10
                  refine wt_putVa (o := ⟨_, _, _, _, _, _⟩) rfl _ _ rfl _ rfl ((rdV (readL (l.drop (n + 2))))) rfl G10 rfl (fun v11 X kg => ?_)
                  simp only [Act.put, lzA, lzB, lzC]
                  replace D := gr_new D ge_g10 kg
                  replace HE := Env.gr HE kg six_g10
                  replace G1 := heap_gr G1 kg n_g1_g10
                  replace G2 := heap_gr G2 kg n_g2_g10
                  replace G3 := heap_gr G3 kg n_g3_g10
                  clear kg
                  replace G10 : v11.heap[g10]? = some (.cells #[.int .i64 (((rdV (readL (l.drop (n + 2))))).1), .int .i64 (((rdV (readL (l.drop (n + 2))))).2.1), .string ((rdV (readL (l.drop (n + 2))))).2.2] 40 (0, 0)) := X
                  clear X
                  refine wl_yield (o := ⟨_, _, _, _, _, _⟩) (.bool false) (yl_assign (by rfl) _ rfl _ rfl) ?_
                  simp only [Act.put, lzA, lzB, lzC]
                  refine wpList_nil ?_
                  refine hK16 _ _ ?_
                  clear hK16 K16
                  refine wp_seq_k (fun K17 hK17 => ?_)
                  refine wp_seq_k (fun K18 hK18 => ?_)
                  refine wp_region_lit ?_
                  refine wl_yield (o := ⟨_, _, _, _, _, _⟩) (.bool false) (yl_move (by rfl) _ rfl _ rfl) ?_
                  simp only [Act.put, lzA, lzB, lzC]
                  refine wl_yield (o := ⟨_, _, _, _, _, _⟩) (.bool true) (yl_not (by rfl) _ _ rfl false rfl) ?_
                  simp only [Act.put, lzA, lzB, lzC]
                  refine wpList_nil ?_
                  refine hK18 _ _ ?_
                  clear hK18 K18
                  refine wp_cond_true rfl ?_
                  refine wp_seq_k (fun K19 hK19 => ?_)
                  refine wp_region_lit ?_
                  refine wl_yield (o := ⟨_, _, _, _, _, _⟩) (evVal evZ) (yl_zeroE (by rfl) rfl) ?_
                  simp only [Act.put, lzA, lzB, lzC]
                  refine wt_putEv (o := ⟨_, _, _, _, _, _⟩) rfl _ _ rfl _ rfl (evZ) rfl G1 rfl (fun v12 X kg => ?_)
                  simp only [Act.put, lzA, lzB, lzC]
                  replace D := gr_new D ge_g1 kg
                  replace HE := Env.gr HE kg six_g1
                  replace G2 := heap_gr G2 kg (Ne.symm n_g1_g2)
                  replace G3 := heap_gr G3 kg (Ne.symm n_g1_g3)
                  replace G10 := heap_gr G10 kg (Ne.symm n_g1_g10)
                  clear kg
                  replace G1 : v12.heap[g1]? = some (.cells #[.int .i64 (evZ.v0.1), .int .i64 (evZ.v0.2.1), .string evZ.v0.2.2, .int .i64 (evZ.v1.1), .int .i64 (evZ.v1.2.1), .string evZ.v1.2.2, .int .i64 (evZ.v2.1), .int .i64 (evZ.v2.2.1), .string evZ.v2.2.2, .int .i64 (evZ.v3.1), .int .i64 (evZ.v3.2.1), .string evZ.v3.2.2] 42 (0, 0)) := X
                  clear X
                  refine wl_yield (o := ⟨_, _, _, _, _, _⟩) (.bool false) (yl_assign (by rfl) _ rfl _ rfl) ?_
                  simp only [Act.put, lzA, lzB, lzC]
                  refine wpList_nil ?_
                  refine hK19 _ _ ?_
                  clear hK19 K19
                  refine wp_ret ?_
                  try simp only [Exit.inBlock, Exit.then]
                  refine bodyPost_ret (results_cs rfl _ _ g1 _ (.bool false) rfl rfl (run_loadVar_row _ _ _ _ _ _ _ G1 Tryz.underlying42 rfl (by rw [infoEv12]; rfl))) rfl ⟨by rw [hA]; rfl, below_none D⟩
              · have hst : rfStep l k n σ = some (n + 2 + rdN (readL (l.drop (n + 2))), σ.setAt k (rdV (readL (l.drop (n + 2))))) := by unfold rfStep; dsimp only; rw [hn1, if_pos hname, hs]; rfl
                refine wt_call (o := ⟨_, _, _, _, _, _⟩) (by rfl) 29 _ _ rfl #[.pointer (some ⟨g2, 0, none⟩)] rfl (run_call Tryz.func29 (by kernel_rfl) (by kernel_rfl)) ?_
                refine (refVal7 g2 (n + 2) l _ G2 (by omega) (by omega) (rdN_le _ (by rw [List.length_drop]; omega))).mono ?_
                rintro r v9 (⟨rfl, HG, kg⟩)
                · replace D := gr_new D ge_g2 kg
                  replace HE := Env.gr HE kg six_g2
                  replace G1 := heap_gr G1 kg n_g1_g2
                  replace G3 := heap_gr G3 kg (Ne.symm n_g2_g3)
                  clear kg
                  replace G2 : v9.heap[g2]? = some (rfObj l (n + 2 + rdN (readL (l.drop (n + 2))))) := HG
                  clear HG
                  refine Or.inl ⟨.tuple #[vVal ((rdV (readL (l.drop (n + 2))))), .bool true], by rw [hs], ?_⟩
                  simp only [Act.put, lzA, lzB, lzC]
                  refine wl_yield (o := ⟨_, _, _, _, _, _⟩) (.tuple #[vVal ((rdV (readL (l.drop (n + 2))))), .bool true]) (yl_move (by rfl) _ rfl _ rfl) ?_
                  simp only [Act.put, lzA, lzB, lzC]
                  refine wl_yield (o := ⟨_, _, _, _, _, _⟩) (vVal ((rdV (readL (l.drop (n + 2)))))) (yl_extract0 (by rfl) _ rfl _ _ rfl) ?_
                  simp only [Act.put, lzA, lzB, lzC]
                  refine wl_yield (o := ⟨_, _, _, _, _, _⟩) (.bool true) (yl_extract1 (by rfl) _ rfl _ _ rfl) ?_
                  simp only [Act.put, lzA, lzB, lzC]
                  refine wt_allocVa (o := ⟨_, _, _, _, _, _⟩) (by rfl) rfl (fun v10 g10 hg G10 kb => ?_)
                  simp only [Act.put, lzA, lzB, lzC]
                  have n_g1_g10 : g1 ≠ g10 := by have := lt_heap G1; omega
                  have n_g2_g10 : g2 ≠ g10 := by have := lt_heap G2; omega
                  have n_g3_g10 : g3 ≠ g10 := by have := lt_heap G3; omega
                  have ge_g10 : w.heap.size ≤ g10 := Nat.le_trans D.size hg
                  have six_g10 : 6 ≤ g10 := Nat.le_trans w6 ge_g10
                  clear hg
                  replace D := grown_below D kb
                  replace HE := HE.on kb
                  replace G1 := heap_on G1 kb
                  replace G2 := heap_on G2 kb
                  replace G3 := heap_on G3 kb
                  clear kb
                  replace G10 : v10.heap[g10]? = some (.cells #[.int .i64 0, .int .i64 0, .string (bs ([]))] 40 (0, 0)) := G10
                  refine wt_putVa (o := ⟨_, _, _, _, _, _⟩) rfl _ _ rfl _ rfl ((rdV (readL (l.drop (n + 2))))) rfl G10 rfl (fun v11 X kg => ?_)
                  simp only [Act.put, lzA, lzB, lzC]
                  replace D := gr_new D ge_g10 kg
                  replace HE := Env.gr HE kg six_g10
                  replace G1 := heap_gr G1 kg n_g1_g10
                  replace G2 := heap_gr G2 kg n_g2_g10
                  replace G3 := heap_gr G3 kg n_g3_g10
                  clear kg
                  replace G10 : v11.heap[g10]? = some (.cells #[.int .i64 (((rdV (readL (l.drop (n + 2))))).1), .int .i64 (((rdV (readL (l.drop (n + 2))))).2.1), .string ((rdV (readL (l.drop (n + 2))))).2.2] 40 (0, 0)) := X
                  clear X
                  refine wl_yield (o := ⟨_, _, _, _, _, _⟩) (.bool true) (yl_assign (by rfl) _ rfl _ rfl) ?_
                  simp only [Act.put, lzA, lzB, lzC]
                  refine wpList_nil ?_
                  refine hK16 _ _ ?_
                  clear hK16 K16
                  refine wp_seq_k (fun K17 hK17 => ?_)
                  refine wp_seq_k (fun K18 hK18 => ?_)
                  refine wp_region_lit ?_
                  refine wl_yield (o := ⟨_, _, _, _, _, _⟩) (.bool true) (yl_move (by rfl) _ rfl _ rfl) ?_
                  simp only [Act.put, lzA, lzB, lzC]
                  refine wl_yield (o := ⟨_, _, _, _, _, _⟩) (.bool false) (yl_not (by rfl) _ _ rfl true rfl) ?_
                  simp only [Act.put, lzA, lzB, lzC]
                  refine wpList_nil ?_
                  refine hK18 _ _ ?_
                  clear hK18 K18
                  refine wp_cond_false rfl ?_
                  refine wp_skip ?_
                  refine hK17 _ _ ?_
                  clear hK17 K17
                  refine wp_region_lit ?_
                  refine wl_yield (o := ⟨_, _, _, _, _, _⟩) (.int .i64 (k : Nat)) (yl_move (by rfl) _ rfl _ rfl) ?_
                  simp only [Act.put, lzA, lzB, lzC]
                  refine wl_yield (o := ⟨_, _, _, _, _, _⟩) (.agg #[.int .i64 (((rdV (readL (l.drop (n + 2))))).1), .int .i64 (((rdV (readL (l.drop (n + 2))))).2.1), .string ((rdV (readL (l.drop (n + 2))))).2.2]) (yl_val (by rfl) _ rfl _ 0 rfl _ _ _ (fun _ h => by subst h; exact ⟨cell_heap G10 0, cell_heap G10 1, cell_heap G10 2⟩)) ?_
                  simp only [Act.put, lzA, lzB, lzC]
                  refine wl_yield (o := ⟨_, _, _, _, _, _⟩) (.pointer (some ⟨g3, ((k : Nat) : Int).toNat * 3, none⟩)) (yt_atEv (by rfl) _ _ rfl g3 ((k : Nat) : Int) rfl rfl (by omega) (by omega)) ?_
                  simp only [Act.put, lzA, lzB, lzC]
                  refine wt_putEvAt (o := ⟨_, _, _, _, _, _⟩) rfl _ _ rfl g3 ((k : Nat) : Int) rfl ((rdV (readL (l.drop (n + 2))))) rfl G3 (by omega) (by omega) (fun v12 X kg => ?_)
                  simp only [Act.put, lzA, lzB, lzC]
                  replace D := gr_new D ge_g3 kg
                  replace HE := Env.gr HE kg six_g3
                  replace G1 := heap_gr G1 kg n_g1_g3
                  replace G2 := heap_gr G2 kg n_g2_g3
                  replace G10 := heap_gr G10 kg (Ne.symm n_g3_g10)
                  clear kg
                  replace G3 := X
                  clear X
                  refine wpList_nil ?_
                  refine hK10 _ _ ?_
                  clear hK10 K10
                  refine wp_region_lit ?_
                  refine wl_yield (o := ⟨_, _, _, _, _, _⟩) (.int .i64 (k : Nat)) (yl_move (by rfl) _ rfl _ rfl) ?_
                  simp only [Act.put, lzA, lzB, lzC]
                  refine wl_yield (o := ⟨_, _, _, _, _, _⟩) (.int .i64 (k + 1 : Nat)) (yt_addI (by rfl) _ _ _ rfl (((k : Nat) : Int)) 1 (((k + 1 : Nat) : Int)) rfl rfl (by omega) (by omega) (by omega)) ?_
                  simp only [Act.put, lzA, lzB, lzC]
                  refine wl_yield (o := ⟨_, _, _, _, _, _⟩) (.int .i64 (k + 1 : Nat)) (yl_assign (by rfl) _ rfl _ rfl) ?_
                  simp only [Act.put, lzA, lzB, lzC]
                  refine wpList_nil ?_
                  show _ ∧ _
                  go_roundw
                  case rel => exact ⟨k + 1, _, _, rfl, by omega, by rw [rfEv, hev]; exact hst, G1, G2, G3, HE, D⟩
                  case measure => simp [intOf]; omega
            · replace D := gr_new D ge_g2 kg
              replace HE := Env.gr HE kg six_g2
              replace G1 := heap_gr G1 kg n_g1_g2
              replace G3 := heap_gr G3 kg (Ne.symm n_g2_g3)
              clear kg
              replace G2 : v8.heap[g2]? = some (rfObj l (n)) := HG
              clear HG
              have hst : rfStep l k n σ = some (n, σ) := by unfold rfStep; dsimp only; rw [hn1]; exact if_neg hm
              refine Or.inl ⟨.bool false, rfl, ?_⟩
              simp only [Act.put, lzA, lzB, lzC]
              refine wl_yield (o := ⟨_, _, _, _, _, _⟩) (.bool true) (yl_not (by rfl) _ _ rfl false rfl) ?_
              simp only [Act.put, lzA, lzB, lzC]
              refine wpList_nil ?_
              refine hK15 _ _ ?_
              clear hK15 K15
              refine wp_cond_true rfl ?_
              refine wp_seq_k (fun K16 hK16 => ?_)
              refine wp_region_lit ?_
              refine wl_yield (o := ⟨_, _, _, _, _, _⟩) (.pointer (some ⟨g2, 0, none⟩)) (yl_move (by rfl) _ rfl _ rfl) ?_
              simp only [Act.put, lzA, lzB, lzC]
              refine wl_yield (o := ⟨_, _, _, _, _, _⟩) (.int .i64 (n : Nat)) (yl_move (by rfl) _ rfl _ rfl) ?_
              simp only [Act.put, lzA, lzB, lzC]
              refine wl_yield (o := ⟨_, _, _, _, _, _⟩) (.pointer (some ⟨g2, 0, none⟩)) (yt_nil (by rfl) _ rfl _ rfl) ?_
              simp only [Act.put, lzA, lzB, lzC]
              refine wl_yield (o := ⟨_, _, _, _, _, _⟩) (.pointer (some ⟨g2, 1, none⟩)) (yt_fRr1 (by rfl) _ rfl g2 0 rfl) ?_
              simp only [Act.put, lzA, lzB, lzC]
              refine wt_putI (o := ⟨_, _, _, _, _, _⟩) (by rfl) _ _ rfl _ 1 rfl (((n : Nat) : Int)) rfl G2 (by simp) (fun v9 X kg => ?_)
              simp only [Act.put, lzA, lzB, lzC]
              replace D := gr_new D ge_g2 kg
              replace HE := Env.gr HE kg six_g2
              replace G1 := heap_gr G1 kg n_g1_g2
              replace G3 := heap_gr G3 kg (Ne.symm n_g2_g3)
              clear kg
              replace G2 : v9.heap[g2]? = some (.cells #[.string (bs l), .int .i64 (n : Nat)] 60 (0, 0)) := X
              clear X
              refine wpList_nil ?_
              refine hK16 _ _ ?_
              clear hK16 K16
              refine wp_exit ?_
              refine hK10 _ _ ?_
              clear hK14 K14 hK10 K10
              refine wp_region_lit ?_
              refine wl_yield (o := ⟨_, _, _, _, _, _⟩) (.int .i64 (k : Nat)) (yl_move (by rfl) _ rfl _ rfl) ?_
              simp only [Act.put, lzA, lzB, lzC]
              refine wl_yield (o := ⟨_, _, _, _, _, _⟩) (.int .i64 (k + 1 : Nat)) (yt_addI (by rfl) _ _ _ rfl (((k : Nat) : Int)) 1 (((k + 1 : Nat) : Int)) rfl rfl (by omega) (by omega) (by omega)) ?_
              simp only [Act.put, lzA, lzB, lzC]
              refine wl_yield (o := ⟨_, _, _, _, _, _⟩) (.int .i64 (k + 1 : Nat)) (yl_assign (by rfl) _ rfl _ rfl) ?_
              simp only [Act.put, lzA, lzB, lzC]
              refine wpList_nil ?_
              show _ ∧ _
              go_roundw
              case rel => exact ⟨k + 1, _, _, rfl, by omega, by rw [rfEv, hev]; exact hst, G1, G2, G3, HE, D⟩
              case measure => simp [intOf]; omega
        · have hn1 : (if 1 < n ∧ (l.drop n).take 1 = [32] then n + 1 else n) = n := if_neg (by omega)
          refine wp_region_lit ?_
          refine wl_yield (o := ⟨_, _, _, _, _, _⟩) (.int .i64 (n : Nat)) (yl_move (by rfl) _ rfl _ rfl) ?_
          simp only [Act.put, lzA, lzB, lzC]
          refine wl_yield (o := ⟨_, _, _, _, _, _⟩) (.bool false) (yt_gtrI (by rfl) _ _ _ rfl (((n : Nat) : Int)) 1 false rfl rfl (decide_eq_false (by omega))) ?_
          simp only [Act.put, lzA, lzB, lzC]
          refine wpList_nil ?_
          refine hK13 _ _ ?_
          clear hK13 K13
          refine wp_cond_false rfl ?_
          refine wp_skip ?_
          refine hK12 _ _ ?_
          clear hK12 K12
          refine wp_seq_k (fun K14 hK14 => ?_)
          refine wp_seq_k (fun K15 hK15 => ?_)
          refine wp_region_lit ?_
          refine wl_yield (o := ⟨_, _, _, _, _, _⟩) (.pointer (some ⟨g2, 0, none⟩)) (yl_move (by rfl) _ rfl _ rfl) ?_
          simp only [Act.put, lzA, lzB, lzC]
          refine wl_yield (o := ⟨_, _, _, _, _, _⟩) (.int .i64 (k : Nat)) (yl_move (by rfl) _ rfl _ rfl) ?_
          simp only [Act.put, lzA, lzB, lzC]
          refine wt_call (o := ⟨_, _, _, _, _, _⟩) (by rfl) 28 _ _ rfl #[.int .i64 (k : Nat)] rfl (run_call Tryz.func28 (by kernel_rfl) (by kernel_rfl)) ?_
          refine (refName7 (k : Nat) (by omega) (by omega) _).mono ?_
          rintro r v6 ⟨rfl, kb⟩
          replace D := grown_below D kb
          replace HE := HE.on kb
          replace G1 := heap_on G1 kb
          replace G2 := heap_on G2 kb
          replace G3 := heap_on G3 kb
          clear kb
          refine Or.inl ⟨.string (bs (nameL (k : Nat))), rfl, ?_⟩
          simp only [Act.put, lzA, lzB, lzC]
          refine wl_yield (o := ⟨_, _, _, _, _, _⟩) (.string (bs ((nameL (k : Nat)) ++ ([61])))) (yt_cat (by rfl) _ _ _ rfl (nameL (k : Nat)) ([61]) rfl rfl (by rw [name1]; decide)) ?_
          simp only [Act.put, lzA, lzB, lzC]
          refine wt_call (o := ⟨_, _, _, _, _, _⟩) (by rfl) 27 _ _ rfl #[.pointer (some ⟨g2, 0, none⟩), .string (bs ((nameL (k : Nat)) ++ ([61])))] rfl (run_call Tryz.func27 (by kernel_rfl) (by kernel_rfl)) ?_
          refine (refEat7 g2 (n) l (nameL (k : Nat) ++ [61]) _ G2 (by omega) (by omega) (by show 2 ≤ 1000000; omega) (by show 0 < 2; omega)).mono ?_
          rintro r v7 (⟨hm, rfl, HG, kg⟩ | ⟨hm, rfl, HG, kg⟩)
          · replace D := gr_new D ge_g2 kg
            replace HE := Env.gr HE kg six_g2
            replace G1 := heap_gr G1 kg n_g1_g2
            replace G3 := heap_gr G3 kg (Ne.symm n_g2_g3)
            clear kg
            replace G2 : v7.heap[g2]? = some (rfObj l (n + 2)) := HG
            clear HG
            have hlen2 : n + 2 ≤ l.length := by have := congrArg List.length hm; rw [List.length_take, List.length_drop] at this; have e2 : (nameL ((k : Nat) : Int) ++ [61]).length = 2 := rfl; omega
            have hname : (l.drop (n)).take 2 = nameL ((k : Nat) : Int) ++ [61] := hm
            refine Or.inl ⟨.bool true, rfl, ?_⟩
            simp only [Act.put, lzA, lzB, lzC]
            refine wl_yield (o := ⟨_, _, _, _, _, _⟩) (.bool false) (yl_not (by rfl) _ _ rfl true rfl) ?_
            simp only [Act.put, lzA, lzB, lzC]
            refine wpList_nil ?_
            refine hK15 _ _ ?_
            clear hK15 K15
            refine wp_cond_false rfl ?_
            refine wp_skip ?_
            refine hK14 _ _ ?_
            clear hK14 K14
            refine wp_seq_k (fun K16 hK16 => ?_)
            refine wp_region_lit ?_
            refine wl_yield (o := ⟨_, _, _, _, _, _⟩) (.pointer (some ⟨g2, 0, none⟩)) (yl_move (by rfl) _ rfl _ rfl) ?_
            simp only [Act.put, lzA, lzB, lzC]
            cases hs : (readL (l.drop (n + 2))).isSome
            · have hst : rfStep l k n σ = none := by unfold rfStep; dsimp only; rw [hn1, if_pos hname, hs]; rfl
              have hA := rfAns_stop hlt hev hst
              refine wt_call (o := ⟨_, _, _, _, _, _⟩) (by rfl) 29 _ _ rfl #[.pointer (some ⟨g2, 0, none⟩)] rfl (run_call Tryz.func29 (by kernel_rfl) (by kernel_rfl)) ?_
              refine (refVal7 g2 (n + 2) l _ G2 (by omega) (by omega) (rdN_le _ (by rw [List.length_drop]; omega))).mono ?_
              rintro r v8 (⟨rfl, HG, kg⟩)
              · replace D := gr_new D ge_g2 kg
                replace HE := Env.gr HE kg six_g2
                replace G1 := heap_gr G1 kg n_g1_g2
                replace G3 := heap_gr G3 kg (Ne.symm n_g2_g3)
                clear kg
                replace G2 : v8.heap[g2]? = some (rfObj l (n + 2 + rdN (readL (l.drop (n + 2))))) := HG
                clear HG
                refine Or.inl ⟨.tuple #[vVal ((rdV (readL (l.drop (n + 2))))), .bool false], by rw [hs], ?_⟩
                simp only [Act.put, lzA, lzB, lzC]
                refine wl_yield (o := ⟨_, _, _, _, _, _⟩) (.tuple #[vVal ((rdV (readL (l.drop (n + 2))))), .bool false]) (yl_move (by rfl) _ rfl _ rfl) ?_
                simp only [Act.put, lzA, lzB, lzC]
                refine wl_yield (o := ⟨_, _, _, _, _, _⟩) (vVal ((rdV (readL (l.drop (n + 2)))))) (yl_extract0 (by rfl) _ rfl _ _ rfl) ?_
                simp only [Act.put, lzA, lzB, lzC]
                refine wl_yield (o := ⟨_, _, _, _, _, _⟩) (.bool false) (yl_extract1 (by rfl) _ rfl _ _ rfl) ?_
                simp only [Act.put, lzA, lzB, lzC]
                refine wt_allocVa (o := ⟨_, _, _, _, _, _⟩) (by rfl) rfl (fun v9 g9 hg G9 kb => ?_)
                simp only [Act.put, lzA, lzB, lzC]
                have n_g1_g9 : g1 ≠ g9 := by have := lt_heap G1; omega
                have n_g2_g9 : g2 ≠ g9 := by have := lt_heap G2; omega
                have n_g3_g9 : g3 ≠ g9 := by have := lt_heap G3; omega
                have ge_g9 : w.heap.size ≤ g9 := Nat.le_trans D.size hg
                have six_g9 : 6 ≤ g9 := Nat.le_trans w6 ge_g9
                clear hg
                replace D := grown_below D kb
                replace HE := HE.on kb
                replace G1 := heap_on G1 kb
                replace G2 := heap_on G2 kb
                replace G3 := heap_on G3 kb
                clear kb
                replace G9 : v9.heap[g9]? = some (.cells #[.int .i64 0, .int .i64 0, .string (bs ([]))] 40 (0, 0)) := G9
                refine wt_putVa (o := ⟨_, _, _, _, _, _⟩) rfl _ _ rfl _ rfl ((rdV (readL (l.drop (n + 2))))) rfl G9 rfl (fun v10 X kg => ?_)
                simp only [Act.put, lzA, lzB, lzC]
                replace D := gr_new D ge_g9 kg
                replace HE := Env.gr HE kg six_g9
                replace G1 := heap_gr G1 kg n_g1_g9
                replace G2 := heap_gr G2 kg n_g2_g9
                replace G3 := heap_gr G3 kg n_g3_g9
                clear kg
                replace G9 : v10.heap[g9]? = some (.cells #[.int .i64 (((rdV (readL (l.drop (n + 2))))).1), .int .i64 (((rdV (readL (l.drop (n + 2))))).2.1), .string ((rdV (readL (l.drop (n + 2))))).2.2] 40 (0, 0)) := X
                clear X
                refine wl_yield (o := ⟨_, _, _, _, _, _⟩) (.bool false) (yl_assign (by rfl) _ rfl _ rfl) ?_
                simp only [Act.put, lzA, lzB, lzC]
                refine wpList_nil ?_
                refine hK16 _ _ ?_
                clear hK16 K16
                refine wp_seq_k (fun K17 hK17 => ?_)
                refine wp_seq_k (fun K18 hK18 => ?_)
                refine wp_region_lit ?_
                refine wl_yield (o := ⟨_, _, _, _, _, _⟩) (.bool false) (yl_move (by rfl) _ rfl _ rfl) ?_
                simp only [Act.put, lzA, lzB, lzC]
                refine wl_yield (o := ⟨_, _, _, _, _, _⟩) (.bool true) (yl_not (by rfl) _ _ rfl false rfl) ?_
                simp only [Act.put, lzA, lzB, lzC]
                refine wpList_nil ?_
                refine hK18 _ _ ?_
                clear hK18 K18
                refine wp_cond_true rfl ?_
                refine wp_seq_k (fun K19 hK19 => ?_)
                refine wp_region_lit ?_
                refine wl_yield (o := ⟨_, _, _, _, _, _⟩) (evVal evZ) (yl_zeroE (by rfl) rfl) ?_
                simp only [Act.put, lzA, lzB, lzC]
                refine wt_putEv (o := ⟨_, _, _, _, _, _⟩) rfl _ _ rfl _ rfl (evZ) rfl G1 rfl (fun v11 X kg => ?_)
                simp only [Act.put, lzA, lzB, lzC]
                replace D := gr_new D ge_g1 kg
                replace HE := Env.gr HE kg six_g1
                replace G2 := heap_gr G2 kg (Ne.symm n_g1_g2)
                replace G3 := heap_gr G3 kg (Ne.symm n_g1_g3)
                replace G9 := heap_gr G9 kg (Ne.symm n_g1_g9)
                clear kg
                replace G1 : v11.heap[g1]? = some (.cells #[.int .i64 (evZ.v0.1), .int .i64 (evZ.v0.2.1), .string evZ.v0.2.2, .int .i64 (evZ.v1.1), .int .i64 (evZ.v1.2.1), .string evZ.v1.2.2, .int .i64 (evZ.v2.1), .int .i64 (evZ.v2.2.1), .string evZ.v2.2.2, .int .i64 (evZ.v3.1), .int .i64 (evZ.v3.2.1), .string evZ.v3.2.2] 42 (0, 0)) := X
                clear X
                refine wl_yield (o := ⟨_, _, _, _, _, _⟩) (.bool false) (yl_assign (by rfl) _ rfl _ rfl) ?_
                simp only [Act.put, lzA, lzB, lzC]
                refine wpList_nil ?_
                refine hK19 _ _ ?_
                clear hK19 K19
                refine wp_ret ?_
                try simp only [Exit.inBlock, Exit.then]
                refine bodyPost_ret (results_cs rfl _ _ g1 _ (.bool false) rfl rfl (run_loadVar_row _ _ _ _ _ _ _ G1 Tryz.underlying42 rfl (by rw [infoEv12]; rfl))) rfl ⟨by rw [hA]; rfl, below_none D⟩
            · have hst : rfStep l k n σ = some (n + 2 + rdN (readL (l.drop (n + 2))), σ.setAt k (rdV (readL (l.drop (n + 2))))) := by unfold rfStep; dsimp only; rw [hn1, if_pos hname, hs]; rfl
              refine wt_call (o := ⟨_, _, _, _, _, _⟩) (by rfl) 29 _ _ rfl #[.pointer (some ⟨g2, 0, none⟩)] rfl (run_call Tryz.func29 (by kernel_rfl) (by kernel_rfl)) ?_
              refine (refVal7 g2 (n + 2) l _ G2 (by omega) (by omega) (rdN_le _ (by rw [List.length_drop]; omega))).mono ?_
              rintro r v8 (⟨rfl, HG, kg⟩)
              · replace D := gr_new D ge_g2 kg
                replace HE := Env.gr HE kg six_g2
                replace G1 := heap_gr G1 kg n_g1_g2
                replace G3 := heap_gr G3 kg (Ne.symm n_g2_g3)
                clear kg
                replace G2 : v8.heap[g2]? = some (rfObj l (n + 2 + rdN (readL (l.drop (n + 2))))) := HG
                clear HG
                refine Or.inl ⟨.tuple #[vVal ((rdV (readL (l.drop (n + 2))))), .bool true], by rw [hs], ?_⟩
                simp only [Act.put, lzA, lzB, lzC]
                refine wl_yield (o := ⟨_, _, _, _, _, _⟩) (.tuple #[vVal ((rdV (readL (l.drop (n + 2))))), .bool true]) (yl_move (by rfl) _ rfl _ rfl) ?_
                simp only [Act.put, lzA, lzB, lzC]
                refine wl_yield (o := ⟨_, _, _, _, _, _⟩) (vVal ((rdV (readL (l.drop (n + 2)))))) (yl_extract0 (by rfl) _ rfl _ _ rfl) ?_
                simp only [Act.put, lzA, lzB, lzC]
                refine wl_yield (o := ⟨_, _, _, _, _, _⟩) (.bool true) (yl_extract1 (by rfl) _ rfl _ _ rfl) ?_
                simp only [Act.put, lzA, lzB, lzC]
                refine wt_allocVa (o := ⟨_, _, _, _, _, _⟩) (by rfl) rfl (fun v9 g9 hg G9 kb => ?_)
                simp only [Act.put, lzA, lzB, lzC]
                have n_g1_g9 : g1 ≠ g9 := by have := lt_heap G1; omega
                have n_g2_g9 : g2 ≠ g9 := by have := lt_heap G2; omega
                have n_g3_g9 : g3 ≠ g9 := by have := lt_heap G3; omega
                have ge_g9 : w.heap.size ≤ g9 := Nat.le_trans D.size hg
                have six_g9 : 6 ≤ g9 := Nat.le_trans w6 ge_g9
                clear hg
                replace D := grown_below D kb
                replace HE := HE.on kb
                replace G1 := heap_on G1 kb
                replace G2 := heap_on G2 kb
                replace G3 := heap_on G3 kb
                clear kb
                replace G9 : v9.heap[g9]? = some (.cells #[.int .i64 0, .int .i64 0, .string (bs ([]))] 40 (0, 0)) := G9
                refine wt_putVa (o := ⟨_, _, _, _, _, _⟩) rfl _ _ rfl _ rfl ((rdV (readL (l.drop (n + 2))))) rfl G9 rfl (fun v10 X kg => ?_)
                simp only [Act.put, lzA, lzB, lzC]
                replace D := gr_new D ge_g9 kg
                replace HE := Env.gr HE kg six_g9
                replace G1 := heap_gr G1 kg n_g1_g9
                replace G2 := heap_gr G2 kg n_g2_g9
                replace G3 := heap_gr G3 kg n_g3_g9
                clear kg
                replace G9 : v10.heap[g9]? = some (.cells #[.int .i64 (((rdV (readL (l.drop (n + 2))))).1), .int .i64 (((rdV (readL (l.drop (n + 2))))).2.1), .string ((rdV (readL (l.drop (n + 2))))).2.2] 40 (0, 0)) := X
                clear X
                refine wl_yield (o := ⟨_, _, _, _, _, _⟩) (.bool true) (yl_assign (by rfl) _ rfl _ rfl) ?_
                simp only [Act.put, lzA, lzB, lzC]
                refine wpList_nil ?_
                refine hK16 _ _ ?_
                clear hK16 K16
                refine wp_seq_k (fun K17 hK17 => ?_)
                refine wp_seq_k (fun K18 hK18 => ?_)
                refine wp_region_lit ?_
                refine wl_yield (o := ⟨_, _, _, _, _, _⟩) (.bool true) (yl_move (by rfl) _ rfl _ rfl) ?_
                simp only [Act.put, lzA, lzB, lzC]
                refine wl_yield (o := ⟨_, _, _, _, _, _⟩) (.bool false) (yl_not (by rfl) _ _ rfl true rfl) ?_
                simp only [Act.put, lzA, lzB, lzC]
                refine wpList_nil ?_
                refine hK18 _ _ ?_
                clear hK18 K18
                refine wp_cond_false rfl ?_
                refine wp_skip ?_
                refine hK17 _ _ ?_
                clear hK17 K17
                refine wp_region_lit ?_
                refine wl_yield (o := ⟨_, _, _, _, _, _⟩) (.int .i64 (k : Nat)) (yl_move (by rfl) _ rfl _ rfl) ?_
                simp only [Act.put, lzA, lzB, lzC]
                refine wl_yield (o := ⟨_, _, _, _, _, _⟩) (.agg #[.int .i64 (((rdV (readL (l.drop (n + 2))))).1), .int .i64 (((rdV (readL (l.drop (n + 2))))).2.1), .string ((rdV (readL (l.drop (n + 2))))).2.2]) (yl_val (by rfl) _ rfl _ 0 rfl _ _ _ (fun _ h => by subst h; exact ⟨cell_heap G9 0, cell_heap G9 1, cell_heap G9 2⟩)) ?_
                simp only [Act.put, lzA, lzB, lzC]
                refine wl_yield (o := ⟨_, _, _, _, _, _⟩) (.pointer (some ⟨g3, ((k : Nat) : Int).toNat * 3, none⟩)) (yt_atEv (by rfl) _ _ rfl g3 ((k : Nat) : Int) rfl rfl (by omega) (by omega)) ?_
                simp only [Act.put, lzA, lzB, lzC]
                refine wt_putEvAt (o := ⟨_, _, _, _, _, _⟩) rfl _ _ rfl g3 ((k : Nat) : Int) rfl ((rdV (readL (l.drop (n + 2))))) rfl G3 (by omega) (by omega) (fun v11 X kg => ?_)
                simp only [Act.put, lzA, lzB, lzC]
                replace D := gr_new D ge_g3 kg
                replace HE := Env.gr HE kg six_g3
                replace G1 := heap_gr G1 kg n_g1_g3
                replace G2 := heap_gr G2 kg n_g2_g3
                replace G9 := heap_gr G9 kg (Ne.symm n_g3_g9)
                clear kg
                replace G3 := X
                clear X
                refine wpList_nil ?_
                refine hK10 _ _ ?_
                clear hK10 K10
                refine wp_region_lit ?_
                refine wl_yield (o := ⟨_, _, _, _, _, _⟩) (.int .i64 (k : Nat)) (yl_move (by rfl) _ rfl _ rfl) ?_
                simp only [Act.put, lzA, lzB, lzC]
                refine wl_yield (o := ⟨_, _, _, _, _, _⟩) (.int .i64 (k + 1 : Nat)) (yt_addI (by rfl) _ _ _ rfl (((k : Nat) : Int)) 1 (((k + 1 : Nat) : Int)) rfl rfl (by omega) (by omega) (by omega)) ?_
                simp only [Act.put, lzA, lzB, lzC]
                refine wl_yield (o := ⟨_, _, _, _, _, _⟩) (.int .i64 (k + 1 : Nat)) (yl_assign (by rfl) _ rfl _ rfl) ?_
                simp only [Act.put, lzA, lzB, lzC]
                refine wpList_nil ?_
                show _ ∧ _
                go_roundw
                case rel => exact ⟨k + 1, _, _, rfl, by omega, by rw [rfEv, hev]; exact hst, G1, G2, G3, HE, D⟩
                case measure => simp [intOf]; omega
          · replace D := gr_new D ge_g2 kg
            replace HE := Env.gr HE kg six_g2
            replace G1 := heap_gr G1 kg n_g1_g2
            replace G3 := heap_gr G3 kg (Ne.symm n_g2_g3)
            clear kg
            replace G2 : v7.heap[g2]? = some (rfObj l (n)) := HG
            clear HG
            have hst : rfStep l k n σ = some (n, σ) := by unfold rfStep; dsimp only; rw [hn1]; exact if_neg hm
            refine Or.inl ⟨.bool false, rfl, ?_⟩
            simp only [Act.put, lzA, lzB, lzC]
            refine wl_yield (o := ⟨_, _, _, _, _, _⟩) (.bool true) (yl_not (by rfl) _ _ rfl false rfl) ?_
            simp only [Act.put, lzA, lzB, lzC]
            refine wpList_nil ?_
            refine hK15 _ _ ?_
            clear hK15 K15
            refine wp_cond_true rfl ?_
            refine wp_seq_k (fun K16 hK16 => ?_)
            refine wp_region_lit ?_
            refine wl_yield (o := ⟨_, _, _, _, _, _⟩) (.pointer (some ⟨g2, 0, none⟩)) (yl_move (by rfl) _ rfl _ rfl) ?_
            simp only [Act.put, lzA, lzB, lzC]
            refine wl_yield (o := ⟨_, _, _, _, _, _⟩) (.int .i64 (n : Nat)) (yl_move (by rfl) _ rfl _ rfl) ?_
            simp only [Act.put, lzA, lzB, lzC]
            refine wl_yield (o := ⟨_, _, _, _, _, _⟩) (.pointer (some ⟨g2, 0, none⟩)) (yt_nil (by rfl) _ rfl _ rfl) ?_
            simp only [Act.put, lzA, lzB, lzC]
            refine wl_yield (o := ⟨_, _, _, _, _, _⟩) (.pointer (some ⟨g2, 1, none⟩)) (yt_fRr1 (by rfl) _ rfl g2 0 rfl) ?_
            simp only [Act.put, lzA, lzB, lzC]
            refine wt_putI (o := ⟨_, _, _, _, _, _⟩) (by rfl) _ _ rfl _ 1 rfl (((n : Nat) : Int)) rfl G2 (by simp) (fun v8 X kg => ?_)
            simp only [Act.put, lzA, lzB, lzC]
            replace D := gr_new D ge_g2 kg
            replace HE := Env.gr HE kg six_g2
            replace G1 := heap_gr G1 kg n_g1_g2
            replace G3 := heap_gr G3 kg (Ne.symm n_g2_g3)
            clear kg
            replace G2 : v8.heap[g2]? = some (.cells #[.string (bs l), .int .i64 (n : Nat)] 60 (0, 0)) := X
            clear X
            refine wpList_nil ?_
            refine hK16 _ _ ?_
            clear hK16 K16
            refine wp_exit ?_
            refine hK10 _ _ ?_
            clear hK14 K14 hK10 K10
            refine wp_region_lit ?_
            refine wl_yield (o := ⟨_, _, _, _, _, _⟩) (.int .i64 (k : Nat)) (yl_move (by rfl) _ rfl _ rfl) ?_
            simp only [Act.put, lzA, lzB, lzC]
            refine wl_yield (o := ⟨_, _, _, _, _, _⟩) (.int .i64 (k + 1 : Nat)) (yt_addI (by rfl) _ _ _ rfl (((k : Nat) : Int)) 1 (((k + 1 : Nat) : Int)) rfl rfl (by omega) (by omega) (by omega)) ?_
            simp only [Act.put, lzA, lzB, lzC]
            refine wl_yield (o := ⟨_, _, _, _, _, _⟩) (.int .i64 (k + 1 : Nat)) (yl_assign (by rfl) _ rfl _ rfl) ?_
            simp only [Act.put, lzA, lzB, lzC]
            refine wpList_nil ?_
            show _ ∧ _
            go_roundw
            case rel => exact ⟨k + 1, _, _, rfl, by omega, by rw [rfEv, hev]; exact hst, G1, G2, G3, HE, D⟩
            case measure => simp [intOf]; omega
      · obtain rfl : k = 4 := by omega
        refine wp_seq_k (fun K8 hK8 => ?_)
        refine wp_seq_k (fun K9 hK9 => ?_)
        refine wp_region_lit ?_
        refine wl_yield (o := ⟨_, _, _, _, _, _⟩) (.int .i64 (4 : Nat)) (yl_move (by rfl) _ rfl _ rfl) ?_
        simp only [Act.put, lzA, lzB, lzC]
        refine wl_yield (o := ⟨_, _, _, _, _, _⟩) (.bool false) (yt_lssI (by rfl) _ _ _ rfl (((4 : Nat) : Int)) 4 false rfl rfl (decide_eq_false (by omega))) ?_
        simp only [Act.put, lzA, lzB, lzC]
        refine wpList_nil ?_
        refine hK9 _ _ ?_
        clear hK9 K9
        refine wp_cond_false rfl ?_
        refine wp_exit ?_
        refine hK6 _ _ ?_
        clear hK8 K8 hK6 K6
        refine wp_seq_k (fun K10 hK10 => ?_)
        refine wp_seq_k (fun K11 hK11 => ?_)
        by_cases hN : n + 1 = l.length
        · by_cases hT : evTxt σ = l
          · refine wp_region_lit ?_
            refine wl_yield (o := ⟨_, _, _, _, _, _⟩) (.pointer (some ⟨g2, 0, none⟩)) (yl_move (by rfl) _ rfl _ rfl) ?_
            simp only [Act.put, lzA, lzB, lzC]
            refine wt_call (o := ⟨_, _, _, _, _, _⟩) (by rfl) 27 _ _ rfl #[.pointer (some ⟨g2, 0, none⟩), .string (bs ([125]))] rfl (run_call Tryz.func27 (by kernel_rfl) (by kernel_rfl)) ?_
            refine (refEat7 g2 (n) l ([125]) _ G2 (by omega) (by omega) (by show 1 ≤ 1000000; omega) (by show 0 < 1; omega)).mono ?_
            rintro r v6 (⟨hm, rfl, HG, kg⟩ | ⟨hm, rfl, HG, kg⟩)
            · replace D := gr_new D ge_g2 kg
              replace HE := Env.gr HE kg six_g2
              replace G1 := heap_gr G1 kg n_g1_g2
              replace G3 := heap_gr G3 kg (Ne.symm n_g2_g3)
              clear kg
              replace G2 : v6.heap[g2]? = some (rfObj l (n + 1)) := HG
              clear HG
              have hA := rfAns_four ho hev
              rw [if_pos ⟨hm, hN, hT⟩] at hA
              refine Or.inl ⟨.bool true, rfl, ?_⟩
              simp only [Act.put, lzA, lzB, lzC]
              refine wl_yield (o := ⟨_, _, _, _, _, _⟩) (.bool false) (yl_not (by rfl) _ _ rfl true rfl) ?_
              simp only [Act.put, lzA, lzB, lzC]
              refine wl_yield (o := ⟨_, _, _, _, _, _⟩) (.bool false) (yl_move (by rfl) _ rfl _ rfl) ?_
              simp only [Act.put, lzA, lzB, lzC]
              refine wl_yield (o := ⟨_, _, _, _, _, _⟩) (.pointer (some ⟨g2, 0, none⟩)) (yl_move (by rfl) _ rfl _ rfl) ?_
              simp only [Act.put, lzA, lzB, lzC]
              refine wl_yield (o := ⟨_, _, _, _, _, _⟩) (.pointer (some ⟨g2, 0, none⟩)) (yt_nil (by rfl) _ rfl _ rfl) ?_
              simp only [Act.put, lzA, lzB, lzC]
              refine wl_yield (o := ⟨_, _, _, _, _, _⟩) (.pointer (some ⟨g2, 1, none⟩)) (yt_fRr1 (by rfl) _ rfl g2 0 rfl) ?_
              simp only [Act.put, lzA, lzB, lzC]
              refine wl_yield (o := ⟨_, _, _, _, _, _⟩) (.int .i64 (n + 1 : Nat)) (yt_ldI (by rfl) _ rfl _ _ rfl (((n + 1 : Nat) : Int)) (fun _ h => by subst h; exact cell_heap G2 1)) ?_
              simp only [Act.put, lzA, lzB, lzC]
              refine wl_yield (o := ⟨_, _, _, _, _, _⟩) (.string (bs l)) (yl_move (by rfl) _ rfl _ rfl) ?_
              simp only [Act.put, lzA, lzB, lzC]
              refine wl_yield (o := ⟨_, _, _, _, _, _⟩) (.int .i64 (l.length : Nat)) (yt_lenS (by rfl) _ rfl l rfl) ?_
              simp only [Act.put, lzA, lzB, lzC]
              refine wl_yield (o := ⟨_, _, _, _, _, _⟩) (.bool false) (yt_neqI (by rfl) _ _ _ rfl (((n + 1 : Nat) : Int)) (((l.length : Nat) : Int)) false rfl rfl (decide_eq_false (by omega))) ?_
              simp only [Act.put, lzA, lzB, lzC]
              refine wl_yield (o := ⟨_, _, _, _, _, _⟩) (.bool false) (yl_pickF (by rfl) _ _ _ rfl rfl _ rfl) ?_
              simp only [Act.put, lzA, lzB, lzC]
              refine wl_yield (o := ⟨_, _, _, _, _, _⟩) (.bool false) (yl_move (by rfl) _ rfl _ rfl) ?_
              simp only [Act.put, lzA, lzB, lzC]
              refine wl_yield (o := ⟨_, _, _, _, _, _⟩) (evVal σ) (yl_ev (by rfl) _ rfl _ 0 rfl _ _ _ _ _ _ _ _ _ _ _ _ (fun _ h => by subst h; exact ⟨cell_heap G3 0, cell_heap G3 1, cell_heap G3 2, cell_heap G3 3, cell_heap G3 4, cell_heap G3 5, cell_heap G3 6, cell_heap G3 7, cell_heap G3 8, cell_heap G3 9, cell_heap G3 10, cell_heap G3 11⟩)) ?_
              simp only [Act.put, lzA, lzB, lzC]
              refine wt_call (o := ⟨_, _, _, _, _, _⟩) (by rfl) 14 _ _ rfl #[evVal σ] rfl (run_call Tryz.func14 (by kernel_rfl) (by kernel_rfl)) ?_
              refine (refEvent7 σ _ HE hσo.1 hσo.2 hσr).mono ?_
              rintro r v7 ⟨rfl, kb⟩
              replace D := grown_below D kb
              replace HE := HE.on kb
              replace G1 := heap_on G1 kb
              replace G2 := heap_on G2 kb
              replace G3 := heap_on G3 kb
              clear kb
              refine Or.inl ⟨.string (bs (evTxt σ)), rfl, ?_⟩
              simp only [Act.put, lzA, lzB, lzC]
              refine wl_yield (o := ⟨_, _, _, _, _, _⟩) (.string (bs l)) (yl_move (by rfl) _ rfl _ rfl) ?_
              simp only [Act.put, lzA, lzB, lzC]
              refine wl_yield (o := ⟨_, _, _, _, _, _⟩) (.bool false) (yt_neqS (by rfl) _ _ _ rfl (evTxt σ) l false rfl rfl (by rw [hT]; simp)) ?_
              simp only [Act.put, lzA, lzB, lzC]
              refine wl_yield (o := ⟨_, _, _, _, _, _⟩) (.bool false) (yl_pickF (by rfl) _ _ _ rfl rfl _ rfl) ?_
              simp only [Act.put, lzA, lzB, lzC]
              refine wpList_nil ?_
              refine hK11 _ _ ?_
              clear hK11 K11
              refine wp_cond_false rfl ?_
              refine wp_skip ?_
              refine hK10 _ _ ?_
              clear hK10 K10
              refine wp_seq_k (fun K12 hK12 => ?_)
              refine wp_region_lit ?_
              refine wl_yield (o := ⟨_, _, _, _, _, _⟩) (evVal σ) (yl_ev (by rfl) _ rfl _ 0 rfl _ _ _ _ _ _ _ _ _ _ _ _ (fun _ h => by subst h; exact ⟨cell_heap G3 0, cell_heap G3 1, cell_heap G3 2, cell_heap G3 3, cell_heap G3 4, cell_heap G3 5, cell_heap G3 6, cell_heap G3 7, cell_heap G3 8, cell_heap G3 9, cell_heap G3 10, cell_heap G3 11⟩)) ?_
              simp only [Act.put, lzA, lzB, lzC]
              refine wt_putEv (o := ⟨_, _, _, _, _, _⟩) rfl _ _ rfl _ rfl (σ) rfl G1 rfl (fun v8 X kg => ?_)
              simp only [Act.put, lzA, lzB, lzC]
              replace D := gr_new D ge_g1 kg
              replace HE := Env.gr HE kg six_g1
              replace G2 := heap_gr G2 kg (Ne.symm n_g1_g2)
              replace G3 := heap_gr G3 kg (Ne.symm n_g1_g3)
              clear kg
              replace G1 : v8.heap[g1]? = some (.cells #[.int .i64 (σ.v0.1), .int .i64 (σ.v0.2.1), .string σ.v0.2.2, .int .i64 (σ.v1.1), .int .i64 (σ.v1.2.1), .string σ.v1.2.2, .int .i64 (σ.v2.1), .int .i64 (σ.v2.2.1), .string σ.v2.2.2, .int .i64 (σ.v3.1), .int .i64 (σ.v3.2.1), .string σ.v3.2.2] 42 (0, 0)) := X
              clear X
              refine wl_yield (o := ⟨_, _, _, _, _, _⟩) (.bool true) (yl_assign (by rfl) _ rfl _ rfl) ?_
              simp only [Act.put, lzA, lzB, lzC]
              refine wpList_nil ?_
              refine hK12 _ _ ?_
              clear hK12 K12
              refine wp_ret ?_
              try simp only [Exit.inBlock, Exit.then]
              refine bodyPost_ret (results_cs rfl _ _ g1 _ (.bool true) rfl rfl (run_loadVar_row _ _ _ _ _ _ _ G1 Tryz.underlying42 rfl (by rw [infoEv12]; rfl))) rfl ⟨by rw [hA]; rfl, below_none D⟩
            · replace D := gr_new D ge_g2 kg
              replace HE := Env.gr HE kg six_g2
              replace G1 := heap_gr G1 kg n_g1_g2
              replace G3 := heap_gr G3 kg (Ne.symm n_g2_g3)
              clear kg
              replace G2 : v6.heap[g2]? = some (rfObj l (n)) := HG
              clear HG
              have hA := rfAns_four ho hev
              rw [if_neg (fun h => hm h.1)] at hA
              refine Or.inl ⟨.bool false, rfl, ?_⟩
              simp only [Act.put, lzA, lzB, lzC]
              refine wl_yield (o := ⟨_, _, _, _, _, _⟩) (.bool true) (yl_not (by rfl) _ _ rfl false rfl) ?_
              simp only [Act.put, lzA, lzB, lzC]
              refine wl_yield (o := ⟨_, _, _, _, _, _⟩) (.bool true) (yl_move (by rfl) _ rfl _ rfl) ?_
              simp only [Act.put, lzA, lzB, lzC]
              with_reducible refine wl_yield (o := ⟨_, _, _, _, _, _⟩) undef (yl_undef (by kernel_rfl)) ?_
              simp only [Act.put, lzA, lzB, lzC]
              with_reducible refine wl_yield (o := ⟨_, _, _, _, _, _⟩) undef (yl_undef (by kernel_rfl)) ?_
              simp only [Act.put, lzA, lzB, lzC]
              with_reducible refine wl_yield (o := ⟨_, _, _, _, _, _⟩) undef (yl_undef (by kernel_rfl)) ?_
              simp only [Act.put, lzA, lzB, lzC]
              with_reducible refine wl_yield (o := ⟨_, _, _, _, _, _⟩) undef (yl_undef (by kernel_rfl)) ?_
              simp only [Act.put, lzA, lzB, lzC]
              with_reducible refine wl_yield (o := ⟨_, _, _, _, _, _⟩) undef (yl_undef (by kernel_rfl)) ?_
              simp only [Act.put, lzA, lzB, lzC]
              with_reducible refine wl_yield (o := ⟨_, _, _, _, _, _⟩) undef (yl_undef (by kernel_rfl)) ?_
              simp only [Act.put, lzA, lzB, lzC]
              with_reducible refine wl_yield (o := ⟨_, _, _, _, _, _⟩) undef (yl_undef (by kernel_rfl)) ?_
              simp only [Act.put, lzA, lzB, lzC]
              refine wl_yield (o := ⟨_, _, _, _, _, _⟩) (.bool true) (yl_pickT (by rfl) _ _ _ rfl rfl _ rfl) ?_
              simp only [Act.put, lzA, lzB, lzC]
              refine wl_yield (o := ⟨_, _, _, _, _, _⟩) (.bool true) (yl_move (by rfl) _ rfl _ rfl) ?_
              simp only [Act.put, lzA, lzB, lzC]
              with_reducible refine wl_yield (o := ⟨_, _, _, _, _, _⟩) undef (yl_undef (by kernel_rfl)) ?_
              simp only [Act.put, lzA, lzB, lzC]
              with_reducible refine wl_yield (o := ⟨_, _, _, _, _, _⟩) undef (yl_undef (by kernel_rfl)) ?_
              simp only [Act.put, lzA, lzB, lzC]
              with_reducible refine wl_yield (o := ⟨_, _, _, _, _, _⟩) undef (yl_undef (by kernel_rfl)) ?_
              simp only [Act.put, lzA, lzB, lzC]
              with_reducible refine wl_yield (o := ⟨_, _, _, _, _, _⟩) undef (yl_undef (by kernel_rfl)) ?_
              simp only [Act.put, lzA, lzB, lzC]
              refine wl_yield (o := ⟨_, _, _, _, _, _⟩) (.bool true) (yl_pickT (by rfl) _ _ _ rfl rfl _ rfl) ?_
              simp only [Act.put, lzA, lzB, lzC]
              refine wpList_nil ?_
              refine hK11 _ _ ?_
              clear hK11 K11
              refine wp_cond_true rfl ?_
              refine wp_seq_k (fun K12 hK12 => ?_)
              refine wp_region_lit ?_
              refine wl_yield (o := ⟨_, _, _, _, _, _⟩) (evVal evZ) (yl_zeroE (by rfl) rfl) ?_
              simp only [Act.put, lzA, lzB, lzC]
              refine wt_putEv (o := ⟨_, _, _, _, _, _⟩) rfl _ _ rfl _ rfl (evZ) rfl G1 rfl (fun v7 X kg => ?_)
              simp only [Act.put, lzA, lzB, lzC]
              replace D := gr_new D ge_g1 kg
              replace HE := Env.gr HE kg six_g1
              replace G2 := heap_gr G2 kg (Ne.symm n_g1_g2)
              replace G3 := heap_gr G3 kg (Ne.symm n_g1_g3)
              clear kg
              replace G1 : v7.heap[g1]? = some (.cells #[.int .i64 (evZ.v0.1), .int .i64 (evZ.v0.2.1), .string evZ.v0.2.2, .int .i64 (evZ.v1.1), .int .i64 (evZ.v1.2.1), .string evZ.v1.2.2, .int .i64 (evZ.v2.1), .int .i64 (evZ.v2.2.1), .string evZ.v2.2.2, .int .i64 (evZ.v3.1), .int .i64 (evZ.v3.2.1), .string evZ.v3.2.2] 42 (0, 0)) := X
              clear X
              refine wl_yield (o := ⟨_, _, _, _, _, _⟩) (.bool false) (yl_assign (by rfl) _ rfl _ rfl) ?_
              simp only [Act.put, lzA, lzB, lzC]
              refine wpList_nil ?_
              refine hK12 _ _ ?_
              clear hK12 K12
              refine wp_ret ?_
              try simp only [Exit.inBlock, Exit.then]
              refine bodyPost_ret (results_cs rfl _ _ g1 _ (.bool false) rfl rfl (run_loadVar_row _ _ _ _ _ _ _ G1 Tryz.underlying42 rfl (by rw [infoEv12]; rfl))) rfl ⟨by rw [hA]; rfl, below_none D⟩
          · refine wp_region_lit ?_
            refine wl_yield (o := ⟨_, _, _, _, _, _⟩) (.pointer (some ⟨g2, 0, none⟩)) (yl_move (by rfl) _ rfl _ rfl) ?_
            simp only [Act.put, lzA, lzB, lzC]
            refine wt_call (o := ⟨_, _, _, _, _, _⟩) (by rfl) 27 _ _ rfl #[.pointer (some ⟨g2, 0, none⟩), .string (bs ([125]))] rfl (run_call Tryz.func27 (by kernel_rfl) (by kernel_rfl)) ?_
            refine (refEat7 g2 (n) l ([125]) _ G2 (by omega) (by omega) (by show 1 ≤ 1000000; omega) (by show 0 < 1; omega)).mono ?_
            rintro r v6 (⟨hm, rfl, HG, kg⟩ | ⟨hm, rfl, HG, kg⟩)
            · replace D := gr_new D ge_g2 kg
              replace HE := Env.gr HE kg six_g2
              replace G1 := heap_gr G1 kg n_g1_g2
              replace G3 := heap_gr G3 kg (Ne.symm n_g2_g3)
              clear kg
              replace G2 : v6.heap[g2]? = some (rfObj l (n + 1)) := HG
              clear HG
              have hA := rfAns_four ho hev
              rw [if_neg (fun h => hT h.2.2)] at hA
              refine Or.inl ⟨.bool true, rfl, ?_⟩
              simp only [Act.put, lzA, lzB, lzC]
              refine wl_yield (o := ⟨_, _, _, _, _, _⟩) (.bool false) (yl_not (by rfl) _ _ rfl true rfl) ?_
              simp only [Act.put, lzA, lzB, lzC]
              refine wl_yield (o := ⟨_, _, _, _, _, _⟩) (.bool false) (yl_move (by rfl) _ rfl _ rfl) ?_
              simp only [Act.put, lzA, lzB, lzC]
              refine wl_yield (o := ⟨_, _, _, _, _, _⟩) (.pointer (some ⟨g2, 0, none⟩)) (yl_move (by rfl) _ rfl _ rfl) ?_
              simp only [Act.put, lzA, lzB, lzC]
              refine wl_yield (o := ⟨_, _, _, _, _, _⟩) (.pointer (some ⟨g2, 0, none⟩)) (yt_nil (by rfl) _ rfl _ rfl) ?_
              simp only [Act.put, lzA, lzB, lzC]
              refine wl_yield (o := ⟨_, _, _, _, _, _⟩) (.pointer (some ⟨g2, 1, none⟩)) (yt_fRr1 (by rfl) _ rfl g2 0 rfl) ?_
              simp only [Act.put, lzA, lzB, lzC]
              refine wl_yield (o := ⟨_, _, _, _, _, _⟩) (.int .i64 (n + 1 : Nat)) (yt_ldI (by rfl) _ rfl _ _ rfl (((n + 1 : Nat) : Int)) (fun _ h => by subst h; exact cell_heap G2 1)) ?_
              simp only [Act.put, lzA, lzB, lzC]
              refine wl_yield (o := ⟨_, _, _, _, _, _⟩) (.string (bs l)) (yl_move (by rfl) _ rfl _ rfl) ?_
              simp only [Act.put, lzA, lzB, lzC]
              refine wl_yield (o := ⟨_, _, _, _, _, _⟩) (.int .i64 (l.length : Nat)) (yt_lenS (by rfl) _ rfl l rfl) ?_
              simp only [Act.put, lzA, lzB, lzC]
              refine wl_yield (o := ⟨_, _, _, _, _, _⟩) (.bool false) (yt_neqI (by rfl) _ _ _ rfl (((n + 1 : Nat) : Int)) (((l.length : Nat) : Int)) false rfl rfl (decide_eq_false (by omega))) ?_
              simp only [Act.put, lzA, lzB, lzC]
              refine wl_yield (o := ⟨_, _, _, _, _, _⟩) (.bool false) (yl_pickF (by rfl) _ _ _ rfl rfl _ rfl) ?_
              simp only [Act.put, lzA, lzB, lzC]
              refine wl_yield (o := ⟨_, _, _, _, _, _⟩) (.bool false) (yl_move (by rfl) _ rfl _ rfl) ?_
              simp only [Act.put, lzA, lzB, lzC]
              refine wl_yield (o := ⟨_, _, _, _, _, _⟩) (evVal σ) (yl_ev (by rfl) _ rfl _ 0 rfl _ _ _ _ _ _ _ _ _ _ _ _ (fun _ h => by subst h; exact ⟨cell_heap G3 0, cell_heap G3 1, cell_heap G3 2, cell_heap G3 3, cell_heap G3 4, cell_heap G3 5, cell_heap G3 6, cell_heap G3 7, cell_heap G3 8, cell_heap G3 9, cell_heap G3 10, cell_heap G3 11⟩)) ?_
              simp only [Act.put, lzA, lzB, lzC]
              refine wt_call (o := ⟨_, _, _, _, _, _⟩) (by rfl) 14 _ _ rfl #[evVal σ] rfl (run_call Tryz.func14 (by kernel_rfl) (by kernel_rfl)) ?_
              refine (refEvent7 σ _ HE hσo.1 hσo.2 hσr).mono ?_
              rintro r v7 ⟨rfl, kb⟩
              replace D := grown_below D kb
              replace HE := HE.on kb
              replace G1 := heap_on G1 kb
              replace G2 := heap_on G2 kb
              replace G3 := heap_on G3 kb
              clear kb
              refine Or.inl ⟨.string (bs (evTxt σ)), rfl, ?_⟩
              simp only [Act.put, lzA, lzB, lzC]
              refine wl_yield (o := ⟨_, _, _, _, _, _⟩) (.string (bs l)) (yl_move (by rfl) _ rfl _ rfl) ?_
              simp only [Act.put, lzA, lzB, lzC]
              refine wl_yield (o := ⟨_, _, _, _, _, _⟩) (.bool true) (yt_neqS (by rfl) _ _ _ rfl (evTxt σ) l true rfl rfl (by simpa using hT)) ?_
              simp only [Act.put, lzA, lzB, lzC]
              refine wl_yield (o := ⟨_, _, _, _, _, _⟩) (.bool true) (yl_pickF (by rfl) _ _ _ rfl rfl _ rfl) ?_
              simp only [Act.put, lzA, lzB, lzC]
              refine wpList_nil ?_
              refine hK11 _ _ ?_
              clear hK11 K11
              refine wp_cond_true rfl ?_
              refine wp_seq_k (fun K12 hK12 => ?_)
              refine wp_region_lit ?_
              refine wl_yield (o := ⟨_, _, _, _, _, _⟩) (evVal evZ) (yl_zeroE (by rfl) rfl) ?_
              simp only [Act.put, lzA, lzB, lzC]
              refine wt_putEv (o := ⟨_, _, _, _, _, _⟩) rfl _ _ rfl _ rfl (evZ) rfl G1 rfl (fun v8 X kg => ?_)
              simp only [Act.put, lzA, lzB, lzC]
              replace D := gr_new D ge_g1 kg
              replace HE := Env.gr HE kg six_g1
              replace G2 := heap_gr G2 kg (Ne.symm n_g1_g2)
              replace G3 := heap_gr G3 kg (Ne.symm n_g1_g3)
              clear kg
              replace G1 : v8.heap[g1]? = some (.cells #[.int .i64 (evZ.v0.1), .int .i64 (evZ.v0.2.1), .string evZ.v0.2.2, .int .i64 (evZ.v1.1), .int .i64 (evZ.v1.2.1), .string evZ.v1.2.2, .int .i64 (evZ.v2.1), .int .i64 (evZ.v2.2.1), .string evZ.v2.2.2, .int .i64 (evZ.v3.1), .int .i64 (evZ.v3.2.1), .string evZ.v3.2.2] 42 (0, 0)) := X
              clear X
              refine wl_yield (o := ⟨_, _, _, _, _, _⟩) (.bool false) (yl_assign (by rfl) _ rfl _ rfl) ?_
              simp only [Act.put, lzA, lzB, lzC]
              refine wpList_nil ?_
              refine hK12 _ _ ?_
              clear hK12 K12
              refine wp_ret ?_
              try simp only [Exit.inBlock, Exit.then]
              refine bodyPost_ret (results_cs rfl _ _ g1 _ (.bool false) rfl rfl (run_loadVar_row _ _ _ _ _ _ _ G1 Tryz.underlying42 rfl (by rw [infoEv12]; rfl))) rfl ⟨by rw [hA]; rfl, below_none D⟩
            · replace D := gr_new D ge_g2 kg
              replace HE := Env.gr HE kg six_g2
              replace G1 := heap_gr G1 kg n_g1_g2
              replace G3 := heap_gr G3 kg (Ne.symm n_g2_g3)
              clear kg
              replace G2 : v6.heap[g2]? = some (rfObj l (n)) := HG
              clear HG
              have hA := rfAns_four ho hev
              rw [if_neg (fun h => hm h.1)] at hA
              refine Or.inl ⟨.bool false, rfl, ?_⟩
              simp only [Act.put, lzA, lzB, lzC]
              refine wl_yield (o := ⟨_, _, _, _, _, _⟩) (.bool true) (yl_not (by rfl) _ _ rfl false rfl) ?_
              simp only [Act.put, lzA, lzB, lzC]
              refine wl_yield (o := ⟨_, _, _, _, _, _⟩) (.bool true) (yl_move (by rfl) _ rfl _ rfl) ?_
              simp only [Act.put, lzA, lzB, lzC]
              with_reducible refine wl_yield (o := ⟨_, _, _, _, _, _⟩) undef (yl_undef (by kernel_rfl)) ?_
              simp only [Act.put, lzA, lzB, lzC]
              with_reducible refine wl_yield (o := ⟨_, _, _, _, _, _⟩) undef (yl_undef (by kernel_rfl)) ?_
              simp only [Act.put, lzA, lzB, lzC]
              with_reducible refine wl_yield (o := ⟨_, _, _, _, _, _⟩) undef (yl_undef (by kernel_rfl)) ?_
              simp only [Act.put, lzA, lzB, lzC]
              with_reducible refine wl_yield (o := ⟨_, _, _, _, _, _⟩) undef (yl_undef (by kernel_rfl)) ?_
              simp only [Act.put, lzA, lzB, lzC]
              with_reducible refine wl_yield (o := ⟨_, _, _, _, _, _⟩) undef (yl_undef (by kernel_rfl)) ?_
              simp only [Act.put, lzA, lzB, lzC]
              with_reducible refine wl_yield (o := ⟨_, _, _, _, _, _⟩) undef (yl_undef (by kernel_rfl)) ?_
              simp only [Act.put, lzA, lzB, lzC]
              with_reducible refine wl_yield (o := ⟨_, _, _, _, _, _⟩) undef (yl_undef (by kernel_rfl)) ?_
              simp only [Act.put, lzA, lzB, lzC]
              refine wl_yield (o := ⟨_, _, _, _, _, _⟩) (.bool true) (yl_pickT (by rfl) _ _ _ rfl rfl _ rfl) ?_
              simp only [Act.put, lzA, lzB, lzC]
              refine wl_yield (o := ⟨_, _, _, _, _, _⟩) (.bool true) (yl_move (by rfl) _ rfl _ rfl) ?_
              simp only [Act.put, lzA, lzB, lzC]
              with_reducible refine wl_yield (o := ⟨_, _, _, _, _, _⟩) undef (yl_undef (by kernel_rfl)) ?_
              simp only [Act.put, lzA, lzB, lzC]
              with_reducible refine wl_yield (o := ⟨_, _, _, _, _, _⟩) undef (yl_undef (by kernel_rfl)) ?_
              simp only [Act.put, lzA, lzB, lzC]
              with_reducible refine wl_yield (o := ⟨_, _, _, _, _, _⟩) undef (yl_undef (by kernel_rfl)) ?_
              simp only [Act.put, lzA, lzB, lzC]
              with_reducible refine wl_yield (o := ⟨_, _, _, _, _, _⟩) undef (yl_undef (by kernel_rfl)) ?_
              simp only [Act.put, lzA, lzB, lzC]
              refine wl_yield (o := ⟨_, _, _, _, _, _⟩) (.bool true) (yl_pickT (by rfl) _ _ _ rfl rfl _ rfl) ?_
              simp only [Act.put, lzA, lzB, lzC]
              refine wpList_nil ?_
              refine hK11 _ _ ?_
              clear hK11 K11
              refine wp_cond_true rfl ?_
              refine wp_seq_k (fun K12 hK12 => ?_)
              refine wp_region_lit ?_
              refine wl_yield (o := ⟨_, _, _, _, _, _⟩) (evVal evZ) (yl_zeroE (by rfl) rfl) ?_
              simp only [Act.put, lzA, lzB, lzC]
              refine wt_putEv (o := ⟨_, _, _, _, _, _⟩) rfl _ _ rfl _ rfl (evZ) rfl G1 rfl (fun v7 X kg => ?_)
              simp only [Act.put, lzA, lzB, lzC]
              replace D := gr_new D ge_g1 kg
              replace HE := Env.gr HE kg six_g1
              replace G2 := heap_gr G2 kg (Ne.symm n_g1_g2)
              replace G3 := heap_gr G3 kg (Ne.symm n_g1_g3)
              clear kg
              replace G1 : v7.heap[g1]? = some (.cells #[.int .i64 (evZ.v0.1), .int .i64 (evZ.v0.2.1), .string evZ.v0.2.2, .int .i64 (evZ.v1.1), .int .i64 (evZ.v1.2.1), .string evZ.v1.2.2, .int .i64 (evZ.v2.1), .int .i64 (evZ.v2.2.1), .string evZ.v2.2.2, .int .i64 (evZ.v3.1), .int .i64 (evZ.v3.2.1), .string evZ.v3.2.2] 42 (0, 0)) := X
              clear X
              refine wl_yield (o := ⟨_, _, _, _, _, _⟩) (.bool false) (yl_assign (by rfl) _ rfl _ rfl) ?_
              simp only [Act.put, lzA, lzB, lzC]
              refine wpList_nil ?_
              refine hK12 _ _ ?_
              clear hK12 K12
              refine wp_ret ?_
              try simp only [Exit.inBlock, Exit.then]
              refine bodyPost_ret (results_cs rfl _ _ g1 _ (.bool false) rfl rfl (run_loadVar_row _ _ _ _ _ _ _ G1 Tryz.underlying42 rfl (by rw [infoEv12]; rfl))) rfl ⟨by rw [hA]; rfl, below_none D⟩
        · refine wp_region_lit ?_
          refine wl_yield (o := ⟨_, _, _, _, _, _⟩) (.pointer (some ⟨g2, 0, none⟩)) (yl_move (by rfl) _ rfl _ rfl) ?_
          simp only [Act.put, lzA, lzB, lzC]
          refine wt_call (o := ⟨_, _, _, _, _, _⟩) (by rfl) 27 _ _ rfl #[.pointer (some ⟨g2, 0, none⟩), .string (bs ([125]))] rfl (run_call Tryz.func27 (by kernel_rfl) (by kernel_rfl)) ?_
          refine (refEat7 g2 (n) l ([125]) _ G2 (by omega) (by omega) (by show 1 ≤ 1000000; omega) (by show 0 < 1; omega)).mono ?_
          rintro r v6 (⟨hm, rfl, HG, kg⟩ | ⟨hm, rfl, HG, kg⟩)
          · replace D := gr_new D ge_g2 kg
            replace HE := Env.gr HE kg six_g2
            replace G1 := heap_gr G1 kg n_g1_g2
            replace G3 := heap_gr G3 kg (Ne.symm n_g2_g3)
            clear kg
            replace G2 : v6.heap[g2]? = some (rfObj l (n + 1)) := HG
            clear HG
            have hA := rfAns_four ho hev
            rw [if_neg (fun h => hN h.2.1)] at hA
            refine Or.inl ⟨.bool true, rfl, ?_⟩
            simp only [Act.put, lzA, lzB, lzC]
            refine wl_yield (o := ⟨_, _, _, _, _, _⟩) (.bool false) (yl_not (by rfl) _ _ rfl true rfl) ?_
            simp only [Act.put, lzA, lzB, lzC]
            refine wl_yield (o := ⟨_, _, _, _, _, _⟩) (.bool false) (yl_move (by rfl) _ rfl _ rfl) ?_
            simp only [Act.put, lzA, lzB, lzC]
            refine wl_yield (o := ⟨_, _, _, _, _, _⟩) (.pointer (some ⟨g2, 0, none⟩)) (yl_move (by rfl) _ rfl _ rfl) ?_
            simp only [Act.put, lzA, lzB, lzC]
            refine wl_yield (o := ⟨_, _, _, _, _, _⟩) (.pointer (some ⟨g2, 0, none⟩)) (yt_nil (by rfl) _ rfl _ rfl) ?_
            simp only [Act.put, lzA, lzB, lzC]
            refine wl_yield (o := ⟨_, _, _, _, _, _⟩) (.pointer (some ⟨g2, 1, none⟩)) (yt_fRr1 (by rfl) _ rfl g2 0 rfl) ?_
            simp only [Act.put, lzA, lzB, lzC]
            refine wl_yield (o := ⟨_, _, _, _, _, _⟩) (.int .i64 (n + 1 : Nat)) (yt_ldI (by rfl) _ rfl _ _ rfl (((n + 1 : Nat) : Int)) (fun _ h => by subst h; exact cell_heap G2 1)) ?_
            simp only [Act.put, lzA, lzB, lzC]
            refine wl_yield (o := ⟨_, _, _, _, _, _⟩) (.string (bs l)) (yl_move (by rfl) _ rfl _ rfl) ?_
            simp only [Act.put, lzA, lzB, lzC]
            refine wl_yield (o := ⟨_, _, _, _, _, _⟩) (.int .i64 (l.length : Nat)) (yt_lenS (by rfl) _ rfl l rfl) ?_
            simp only [Act.put, lzA, lzB, lzC]
            refine wl_yield (o := ⟨_, _, _, _, _, _⟩) (.bool true) (yt_neqI (by rfl) _ _ _ rfl (((n + 1 : Nat) : Int)) (((l.length : Nat) : Int)) true rfl rfl (decide_eq_true (by omega))) ?_
            simp only [Act.put, lzA, lzB, lzC]
            refine wl_yield (o := ⟨_, _, _, _, _, _⟩) (.bool true) (yl_pickF (by rfl) _ _ _ rfl rfl _ rfl) ?_
            simp only [Act.put, lzA, lzB, lzC]
            refine wl_yield (o := ⟨_, _, _, _, _, _⟩) (.bool true) (yl_move (by rfl) _ rfl _ rfl) ?_
            simp only [Act.put, lzA, lzB, lzC]
            with_reducible refine wl_yield (o := ⟨_, _, _, _, _, _⟩) undef (yl_undef (by kernel_rfl)) ?_
            simp only [Act.put, lzA, lzB, lzC]
            with_reducible refine wl_yield (o := ⟨_, _, _, _, _, _⟩) undef (yl_undef (by kernel_rfl)) ?_
            simp only [Act.put, lzA, lzB, lzC]
            with_reducible refine wl_yield (o := ⟨_, _, _, _, _, _⟩) undef (yl_undef (by kernel_rfl)) ?_
            simp only [Act.put, lzA, lzB, lzC]
            with_reducible refine wl_yield (o := ⟨_, _, _, _, _, _⟩) undef (yl_undef (by kernel_rfl)) ?_
            simp only [Act.put, lzA, lzB, lzC]
            refine wl_yield (o := ⟨_, _, _, _, _, _⟩) (.bool true) (yl_pickT (by rfl) _ _ _ rfl rfl _ rfl) ?_
            simp only [Act.put, lzA, lzB, lzC]
            refine wpList_nil ?_
            refine hK11 _ _ ?_
            clear hK11 K11
            refine wp_cond_true rfl ?_
            refine wp_seq_k (fun K12 hK12 => ?_)
            refine wp_region_lit ?_
            refine wl_yield (o := ⟨_, _, _, _, _, _⟩) (evVal evZ) (yl_zeroE (by rfl) rfl) ?_
            simp only [Act.put, lzA, lzB, lzC]
            refine wt_putEv (o := ⟨_, _, _, _, _, _⟩) rfl _ _ rfl _ rfl (evZ) rfl G1 rfl (fun v7 X kg => ?_)
            simp only [Act.put, lzA, lzB, lzC]
            replace D := gr_new D ge_g1 kg
            replace HE := Env.gr HE kg six_g1
            replace G2 := heap_gr G2 kg (Ne.symm n_g1_g2)
            replace G3 := heap_gr G3 kg (Ne.symm n_g1_g3)
            clear kg
            replace G1 : v7.heap[g1]? = some (.cells #[.int .i64 (evZ.v0.1), .int .i64 (evZ.v0.2.1), .string evZ.v0.2.2, .int .i64 (evZ.v1.1), .int .i64 (evZ.v1.2.1), .string evZ.v1.2.2, .int .i64 (evZ.v2.1), .int .i64 (evZ.v2.2.1), .string evZ.v2.2.2, .int .i64 (evZ.v3.1), .int .i64 (evZ.v3.2.1), .string evZ.v3.2.2] 42 (0, 0)) := X
            clear X
            refine wl_yield (o := ⟨_, _, _, _, _, _⟩) (.bool false) (yl_assign (by rfl) _ rfl _ rfl) ?_
            simp only [Act.put, lzA, lzB, lzC]
            refine wpList_nil ?_
            refine hK12 _ _ ?_
            clear hK12 K12
            refine wp_ret ?_
            try simp only [Exit.inBlock, Exit.then]
            refine bodyPost_ret (results_cs rfl _ _ g1 _ (.bool false) rfl rfl (run_loadVar_row _ _ _ _ _ _ _ G1 Tryz.underlying42 rfl (by rw [infoEv12]; rfl))) rfl ⟨by rw [hA]; rfl, below_none D⟩
          · replace D := gr_new D ge_g2 kg
            replace HE := Env.gr HE kg six_g2
            replace G1 := heap_gr G1 kg n_g1_g2
            replace G3 := heap_gr G3 kg (Ne.symm n_g2_g3)
            clear kg
            replace G2 : v6.heap[g2]? = some (rfObj l (n)) := HG
            clear HG
            have hA := rfAns_four ho hev
            rw [if_neg (fun h => hm h.1)] at hA
            refine Or.inl ⟨.bool false, rfl, ?_⟩
            simp only [Act.put, lzA, lzB, lzC]
            refine wl_yield (o := ⟨_, _, _, _, _, _⟩) (.bool true) (yl_not (by rfl) _ _ rfl false rfl) ?_
            simp only [Act.put, lzA, lzB, lzC]
            refine wl_yield (o := ⟨_, _, _, _, _, _⟩) (.bool true) (yl_move (by rfl) _ rfl _ rfl) ?_
            simp only [Act.put, lzA, lzB, lzC]
            with_reducible refine wl_yield (o := ⟨_, _, _, _, _, _⟩) undef (yl_undef (by kernel_rfl)) ?_
            simp only [Act.put, lzA, lzB, lzC]
            with_reducible refine wl_yield (o := ⟨_, _, _, _, _, _⟩) undef (yl_undef (by kernel_rfl)) ?_
            simp only [Act.put, lzA, lzB, lzC]
            with_reducible refine wl_yield (o := ⟨_, _, _, _, _, _⟩) undef (yl_undef (by kernel_rfl)) ?_
            simp only [Act.put, lzA, lzB, lzC]
            with_reducible refine wl_yield (o := ⟨_, _, _, _, _, _⟩) undef (yl_undef (by kernel_rfl)) ?_
            simp only [Act.put, lzA, lzB, lzC]
            with_reducible refine wl_yield (o := ⟨_, _, _, _, _, _⟩) undef (yl_undef (by kernel_rfl)) ?_
            simp only [Act.put, lzA, lzB, lzC]
            with_reducible refine wl_yield (o := ⟨_, _, _, _, _, _⟩) undef (yl_undef (by kernel_rfl)) ?_
            simp only [Act.put, lzA, lzB, lzC]
            with_reducible refine wl_yield (o := ⟨_, _, _, _, _, _⟩) undef (yl_undef (by kernel_rfl)) ?_
            simp only [Act.put, lzA, lzB, lzC]
            refine wl_yield (o := ⟨_, _, _, _, _, _⟩) (.bool true) (yl_pickT (by rfl) _ _ _ rfl rfl _ rfl) ?_
            simp only [Act.put, lzA, lzB, lzC]
            refine wl_yield (o := ⟨_, _, _, _, _, _⟩) (.bool true) (yl_move (by rfl) _ rfl _ rfl) ?_
            simp only [Act.put, lzA, lzB, lzC]
            with_reducible refine wl_yield (o := ⟨_, _, _, _, _, _⟩) undef (yl_undef (by kernel_rfl)) ?_
            simp only [Act.put, lzA, lzB, lzC]
            with_reducible refine wl_yield (o := ⟨_, _, _, _, _, _⟩) undef (yl_undef (by kernel_rfl)) ?_
            simp only [Act.put, lzA, lzB, lzC]
            with_reducible refine wl_yield (o := ⟨_, _, _, _, _, _⟩) undef (yl_undef (by kernel_rfl)) ?_
            simp only [Act.put, lzA, lzB, lzC]
            with_reducible refine wl_yield (o := ⟨_, _, _, _, _, _⟩) undef (yl_undef (by kernel_rfl)) ?_
            simp only [Act.put, lzA, lzB, lzC]
            refine wl_yield (o := ⟨_, _, _, _, _, _⟩) (.bool true) (yl_pickT (by rfl) _ _ _ rfl rfl _ rfl) ?_
            simp only [Act.put, lzA, lzB, lzC]
            refine wpList_nil ?_
            refine hK11 _ _ ?_
            clear hK11 K11
            refine wp_cond_true rfl ?_
            refine wp_seq_k (fun K12 hK12 => ?_)
            refine wp_region_lit ?_
            refine wl_yield (o := ⟨_, _, _, _, _, _⟩) (evVal evZ) (yl_zeroE (by rfl) rfl) ?_
            simp only [Act.put, lzA, lzB, lzC]
            refine wt_putEv (o := ⟨_, _, _, _, _, _⟩) rfl _ _ rfl _ rfl (evZ) rfl G1 rfl (fun v7 X kg => ?_)
            simp only [Act.put, lzA, lzB, lzC]
            replace D := gr_new D ge_g1 kg
            replace HE := Env.gr HE kg six_g1
            replace G2 := heap_gr G2 kg (Ne.symm n_g1_g2)
            replace G3 := heap_gr G3 kg (Ne.symm n_g1_g3)
            clear kg
            replace G1 : v7.heap[g1]? = some (.cells #[.int .i64 (evZ.v0.1), .int .i64 (evZ.v0.2.1), .string evZ.v0.2.2, .int .i64 (evZ.v1.1), .int .i64 (evZ.v1.2.1), .string evZ.v1.2.2, .int .i64 (evZ.v2.1), .int .i64 (evZ.v2.2.1), .string evZ.v2.2.2, .int .i64 (evZ.v3.1), .int .i64 (evZ.v3.2.1), .string evZ.v3.2.2] 42 (0, 0)) := X
            clear X
            refine wl_yield (o := ⟨_, _, _, _, _, _⟩) (.bool false) (yl_assign (by rfl) _ rfl _ rfl) ?_
            simp only [Act.put, lzA, lzB, lzC]
            refine wpList_nil ?_
            refine hK12 _ _ ?_
            clear hK12 K12
            refine wp_ret ?_
            try simp only [Exit.inBlock, Exit.then]
            refine bodyPost_ret (results_cs rfl _ _ g1 _ (.bool false) rfl rfl (run_loadVar_row _ _ _ _ _ _ _ G1 Tryz.underlying42 rfl (by rw [infoEv12]; rfl))) rfl ⟨by rw [hA]; rfl, below_none D⟩
  · replace D := gr_new D ge_g2 kg
    replace HE := Env.gr HE kg six_g2
    replace G1 := heap_gr G1 kg n_g1_g2
    replace G3 := heap_gr G3 kg (Ne.symm n_g2_g3)
    clear kg
    replace G2 : v5.heap[g2]? = some (rfObj l (0)) := HG
    clear HG
    have hA : rfAns l = none := by unfold rfAns; rw [if_neg (show ¬ l.take 1 = [123] from hm)]
    refine Or.inl ⟨.bool false, rfl, ?_⟩
    simp only [Act.put, lzA, lzB, lzC]
    refine wl_yield (o := ⟨_, _, _, _, _, _⟩) (.bool true) (yl_not (by rfl) _ _ rfl false rfl) ?_
    simp only [Act.put, lzA, lzB, lzC]
    refine wpList_nil ?_
    refine hK5 _ _ ?_
    clear hK5 K5
    refine wp_cond_true rfl ?_
    refine wp_seq_k (fun K6 hK6 => ?_)
    refine wp_region_lit ?_
    refine wl_yield (o := ⟨_, _, _, _, _, _⟩) (evVal evZ) (yl_ev (by rfl) _ rfl _ 0 rfl _ _ _ _ _ _ _ _ _ _ _ _ (fun _ h => by subst h; exact ⟨cell_heap G3 0, cell_heap G3 1, cell_heap G3 2, cell_heap G3 3, cell_heap G3 4, cell_heap G3 5, cell_heap G3 6, cell_heap G3 7, cell_heap G3 8, cell_heap G3 9, cell_heap G3 10, cell_heap G3 11⟩)) ?_
    simp only [Act.put, lzA, lzB, lzC]
    refine wt_putEv (o := ⟨_, _, _, _, _, _⟩) rfl _ _ rfl _ rfl (evZ) rfl G1 rfl (fun v6 X kg => ?_)
    simp only [Act.put, lzA, lzB, lzC]
    replace D := gr_new D ge_g1 kg
    replace HE := Env.gr HE kg six_g1
    replace G2 := heap_gr G2 kg (Ne.symm n_g1_g2)
    replace G3 := heap_gr G3 kg (Ne.symm n_g1_g3)
    clear kg
    replace G1 : v6.heap[g1]? = some (.cells #[.int .i64 (evZ.v0.1), .int .i64 (evZ.v0.2.1), .string evZ.v0.2.2, .int .i64 (evZ.v1.1), .int .i64 (evZ.v1.2.1), .string evZ.v1.2.2, .int .i64 (evZ.v2.1), .int .i64 (evZ.v2.2.1), .string evZ.v2.2.2, .int .i64 (evZ.v3.1), .int .i64 (evZ.v3.2.1), .string evZ.v3.2.2] 42 (0, 0)) := X
    clear X
    refine wl_yield (o := ⟨_, _, _, _, _, _⟩) (.bool false) (yl_assign (by rfl) _ rfl _ rfl) ?_
    simp only [Act.put, lzA, lzB, lzC]
    refine wpList_nil ?_
    refine hK6 _ _ ?_
    clear hK6 K6
    refine wp_ret ?_
    try simp only [Exit.inBlock, Exit.then]
    refine bodyPost_ret (results_cs rfl _ _ g1 _ (.bool false) rfl rfl (run_loadVar_row _ _ _ _ _ _ _ G1 Tryz.underlying42 rfl (by rw [infoEv12]; rfl))) rfl ⟨by rw [hA]; rfl, below_none D⟩
end Go.Proofs.YtlmdcaemjaldfaaGreatDoor
namespace Go.Proofs.YtlmdcaemjaldfaaGreatDoor
open Go.RowKit
set_option maxRecDepth 100000
theorem cV : Tryz.prog.cellsOf 40 = 3 := by kernel_rfl
theorem cE : Tryz.prog.cellsOf 42 = 12 := by kernel_rfl
theorem cI : Tryz.prog.cellsOf 3 = 1 := by kernel_rfl
theorem cS : Tryz.prog.cellsOf 9 = 1 := by kernel_rfl
theorem keyV (k n : Int) (s : ByteArray) (hk : (Lit.int .i64 k).wf = true) (hn : (Lit.int .i64 n).wf = true) (hs : s.size ≤ maxLen) (d : Nat) : Tryz.prog.keyLits (d + 2) 40 [.int .i64 k, .int .i64 n, .string s] = some [.int .i64 k, .int .i64 n, .string s.data.toList] := by
  simp [Program.keyLits, Tryz.underlying40, Tryz.underlying3, Tryz.underlying9, cV, cI, cS, hk, hn, hs]
theorem keyEv (e : EvV) (hw : ∀ k, k < 4 → (Lit.int .i64 (e.get k).1).wf = true ∧ (Lit.int .i64 (e.get k).2.1).wf = true ∧ (e.get k).2.2.size ≤ maxLen) : Tryz.prog.keyLits 5 42 (evVal e).cells.toList = some [.int .i64 e.v0.1, .int .i64 e.v0.2.1, .string e.v0.2.2.data.toList, .int .i64 e.v1.1, .int .i64 e.v1.2.1, .string e.v1.2.2.data.toList, .int .i64 e.v2.1, .int .i64 e.v2.2.1, .string e.v2.2.2.data.toList, .int .i64 e.v3.1, .int .i64 e.v3.2.1, .string e.v3.2.2.data.toList] := by
  obtain ⟨a0, a1, a2⟩ := hw 0 (by omega)
  obtain ⟨b0, b1, b2⟩ := hw 1 (by omega)
  obtain ⟨c0, c1, c2⟩ := hw 2 (by omega)
  obtain ⟨d0, d1, d2⟩ := hw 3 (by omega)
  have k0 := keyV e.v0.1 e.v0.2.1 e.v0.2.2 a0 a1 a2 2
  have k1 := keyV e.v1.1 e.v1.2.1 e.v1.2.2 b0 b1 b2 2
  have k2 := keyV e.v2.1 e.v2.2.1 e.v2.2.2 c0 c1 c2 2
  have k3 := keyV e.v3.1 e.v3.2.1 e.v3.2.2 d0 d1 d2 2
  show Tryz.prog.keyLits (4 + 1) 42 [.int .i64 e.v0.1, .int .i64 e.v0.2.1, .string e.v0.2.2, .int .i64 e.v1.1, .int .i64 e.v1.2.1, .string e.v1.2.2, .int .i64 e.v2.1, .int .i64 e.v2.2.1, .string e.v2.2.2, .int .i64 e.v3.1, .int .i64 e.v3.2.1, .string e.v3.2.2] = _
  unfold Program.keyLits
  simp only [Tryz.underlying42, cE, cV]
  have hr : List.range 4 = [0, 1, 2, 3] := rfl
  rw [if_pos (by rfl), hr]
  simp only [List.mapM_cons, List.mapM_nil, Nat.zero_mul, Nat.one_mul, List.drop_zero, List.drop_succ_cons, List.take_succ_cons, List.take_zero, k0, k1, k2, k3]
  simp [k0, k1, k2, k3]
theorem formEv (e : EvV) : (evVal e).formed Tryz.prog 42 = true := by kernel_rfl
theorem bytes_inj {s t : ByteArray} (h : s.data.toList = t.data.toList) : s = t := by
  have h1 : s = bs s.data.toList := rfl
  rw [h1, h]
  rfl
theorem keyEv_inj {a b : EvV} (h : ([.int .i64 a.v0.1, .int .i64 a.v0.2.1, .string a.v0.2.2.data.toList, .int .i64 a.v1.1, .int .i64 a.v1.2.1, .string a.v1.2.2.data.toList, .int .i64 a.v2.1, .int .i64 a.v2.2.1, .string a.v2.2.2.data.toList, .int .i64 a.v3.1, .int .i64 a.v3.2.1, .string a.v3.2.2.data.toList] : List Lit) = [.int .i64 b.v0.1, .int .i64 b.v0.2.1, .string b.v0.2.2.data.toList, .int .i64 b.v1.1, .int .i64 b.v1.2.1, .string b.v1.2.2.data.toList, .int .i64 b.v2.1, .int .i64 b.v2.2.1, .string b.v2.2.2.data.toList, .int .i64 b.v3.1, .int .i64 b.v3.2.1, .string b.v3.2.2.data.toList]) : a = b := by
  obtain ⟨⟨a0, a1, a2⟩, ⟨a3, a4, a5⟩, ⟨a6, a7, a8⟩, ⟨a9, a10, a11⟩⟩ := a
  obtain ⟨⟨b0, b1, b2⟩, ⟨b3, b4, b5⟩, ⟨b6, b7, b8⟩, ⟨b9, b10, b11⟩⟩ := b
  simp only [List.cons.injEq, Lit.int.injEq, Lit.string.injEq, true_and, and_true] at h
  obtain ⟨h0, h1, h2, h3, h4, h5, h6, h7, h8, h9, h10, h11⟩ := h
  have e2 := bytes_inj h2
  have e5 := bytes_inj h5
  have e8 := bytes_inj h8
  have e11 := bytes_inj h11
  subst h0 h1 e2 h3 h4 e5 h6 h7 e8 h9 h10 e11
  rfl
def wfE (e : EvV) : Prop := ∀ k, k < 4 → (Lit.int .i64 (e.get k).1).wf = true ∧ (Lit.int .i64 (e.get k).2.1).wf = true ∧ (e.get k).2.2.size ≤ maxLen
theorem run_eqEv (a b : EvV) (ha : wfE a) (hb : wfE b) (w : World) : ∃ r : Bool, (Op.equalIn 10000 42 (evVal a) (evVal b)).run Tryz.prog w = .ok r w ∧ (r = true ↔ a = b) := by
  obtain ⟨r, hr, hi⟩ := run_equalIn_deep (P := Tryz.prog) 9997 3 42 (by kernel_rfl) w 5 5 (evVal a) (evVal b) _ _ (formEv a) (formEv b) (keyEv a ha) (keyEv b hb)
  exact ⟨r, hr, hi.trans ⟨keyEv_inj, fun h => by rw [h]⟩⟩
section
variable {ops : Array Oper} {S : World → Prop} {o : Oper} {a : Act}
set_option maxHeartbeats 1000000 in
theorem yt_eqEv (hw : Region.wanted o (yielded ops a.tmps) = true) (x y : Operand) (t : TypeId) (ho : o.op = .binOp .eql 42 x y t) (p q : EvV) (wp : wfE p) (wq : wfE q) (r : Bool) (hx : a.eval x = evVal p) (hy : a.eval y = evVal q) (hr : r = true ↔ p = q) : YieldsIf Tryz.prog ops S o (.bool r) a :=
  Or.inl ⟨hw, fun w _ => by
    obtain ⟨r', h, hi⟩ := run_eqEv p q wp wq w
    have e : r' = r := Bool.eq_iff_iff.2 (hi.trans hr.symm)
    subst e
    simp only [evVal] at h
    simp only [execOp, ho, hx, hy, evVal]
    go_simp⟩
theorem yt_neqEv (hw : Region.wanted o (yielded ops a.tmps) = true) (x y : Operand) (t : TypeId) (ho : o.op = .binOp .neq 42 x y t) (p q : EvV) (wp : wfE p) (wq : wfE q) (r : Bool) (hx : a.eval x = evVal p) (hy : a.eval y = evVal q) (hr : r = true ↔ ¬ p = q) : YieldsIf Tryz.prog ops S o (.bool r) a :=
  Or.inl ⟨hw, fun w _ => by
    obtain ⟨r', h, hi⟩ := run_eqEv p q wp wq w
    have e : r = !r' := by cases r <;> cases r' <;> simp_all
    subst e
    simp only [evVal] at h
    simp only [execOp, ho, hx, hy, evVal]
    go_simp⟩
end
theorem wf_right {e : EvV} (hr : rightE e = true) (ho : okE e) : wfE e := fun k hk => by
  have h1 := rightE_get hr k hk
  have h2 := ho.2 k hk
  have h3 := evFit_get ho.1 k hk
  have hkd : (e.get k).1 = 0 ∨ (e.get k).1 = 1 ∨ (e.get k).1 = 2 := by
    unfold rightB at h1
    split at h1
    · exact Or.inl (by assumption)
    · split at h1
      · exact Or.inr (Or.inl (by assumption))
      · split at h1
        · exact Or.inr (Or.inr (by assumption))
        · cases h1
  refine ⟨?_, ?_, h3⟩
  · rcases hkd with h | h | h <;> rw [h] <;> rfl
  · have m1 : IntKind.i64.min = -9223372036854775808 := rfl
    have m2 : IntKind.i64.max = 9223372036854775807 := rfl
    simp [Lit.wf, m1, m2]
    omega
end Go.Proofs.YtlmdcaemjaldfaaGreatDoor
namespace Go.Proofs.YtlmdcaemjaldfaaGreatDoor
open Go.RowKit
theorem aw_eqz (w : World) : (Op.equalIn 10000 42 (evVal evZ) (evVal evZ)).run Tryz.prog w = .ok true w := by
  have hs : (Tryz.prog.keyLits 5 42 (evVal evZ).cells.toList).isSome = true := by kernel_rfl
  obtain ⟨la, h⟩ := Option.isSome_iff_exists.1 hs
  obtain ⟨r, hr, hi⟩ := run_equalIn_deep (P := Tryz.prog) 9997 3 42 (by kernel_rfl) w 5 5 (evVal evZ) (evVal evZ) la la (by kernel_rfl) (by kernel_rfl) h h
  rw [hi.2 rfl] at hr
  exact hr
def aw1 : ExV := ⟨2, 0, noSet, [⟨1, 0, ⟨false, [(1, 5)], false, [bs [120]]⟩, []⟩, ⟨4, 0, noSet, [⟨1, 1, ⟨true, [], false, []⟩, []⟩]⟩]⟩
def aw2 : EvV := ⟨(1, 1, ⟨#[]⟩), (0, 0, ⟨#[]⟩), (2, 0, bs [120]), (0, 0, ⟨#[]⟩)⟩
def aw3 : SetV := ⟨false, [], true, [bs [113]]⟩
theorem aw_p1 : parseP [38, 40, 97, 58, 91, 49, 46, 46, 53, 32, 39, 120, 39, 93, 32, 33, 98, 58, 91, 45, 93, 41] = some aw1 := by kernel_rfl
theorem aw_p2 : parseP [38, 40, 97, 58, 91, 53, 46, 46, 49, 93, 41] = none := by kernel_rfl
theorem aw_e : parseE [123, 125] = some evZ := by kernel_rfl
theorem aw_r : evR aw2 = ([123, 97, 61, 49, 32, 99, 61, 39, 120, 39, 125], 0) := by kernel_rfl
theorem aw_s : setTxt aw3 = [91, 126, 32, 39, 113, 39, 93] := by kernel_rfl
theorem aw_z1 : (sizeA aw1).1 = 4 := by kernel_rfl
theorem aw_z2 : (sizeA aw1).2 = 3 := by kernel_rfl
theorem aw_y1 {m : Nat} {W : World} {d : EC} {err : Int} (h : ParsedT m W [38, 40, 97, 58, 91, 49, 46, 46, 53, 32, 39, 120, 39, 93, 32, 33, 98, 58, 91, 45, 93, 41] d err) : err = 0 ∧ Xp 31 W d aw1 := by
  unfold ParsedT at h
  rw [if_neg (by decide)] at h
  unfold Parsed at h
  rw [aw_p1] at h
  exact ⟨h.1, h.2 _ (Kept.refl _ _)⟩
theorem aw_y2 {m : Nat} {W : World} {d : EC} {err : Int} (h : ParsedT m W [38, 40, 97, 58, 91, 53, 46, 46, 49, 93, 41] d err) : err = 2 ∧ d = ec0 := by
  unfold ParsedT at h
  rw [if_neg (by decide)] at h
  unfold Parsed at h
  rw [aw_p2] at h
  exact h
theorem aw_fit : evFit aw2 := ⟨by decide, by decide, by decide, by decide⟩
theorem aw_in : inE aw2 := fun i hi => by match i, hi with | 0, _ => decide | 1, _ => decide | 2, _ => decide | 3, _ => decide
theorem aw_ok : okB aw3 := by
  refine ⟨fun r h => ?_, fun s h => ?_⟩
  · cases h
  · rcases List.mem_cons.1 h with rfl | h
    · decide
    · cases h
theorem aw_st {w : World} {g : Nat} (h : w.heap[g]? = some (.cells #[.string (bs [113])] 9 (0, 0))) : StrsAt w (.slice (some ⟨g, 0, none⟩) 1 1) [bs [113]] := by
  refine ⟨fun s hs => ?_, by decide, some ⟨g, 0, none⟩, 0, rfl, fun i hi => ?_⟩
  · rcases List.mem_cons.1 hs with rfl | hs
    · decide
    · cases hs
  · refine ⟨g, 0, rfl, lt_heap h, ?_⟩
    have : i = 0 := by simp at hi; omega
    subst this
    exact cell_heap h 0
theorem ri_nil (w : World) : RngsAt w (.slice none 0 0) [] := ⟨(fun r h => by cases h), by decide, none, 0, rfl, (fun i hi => by cases hi)⟩
section
variable {ops : Array Oper} {S : World → Prop} {o : Oper} {a : Act}
set_option maxRecDepth 100000 in
theorem yt_buildV3 (hw : Region.wanted o (yielded ops a.tmps) = true) (x y : Operand) (ho : o.op = .build 40 #[(0, x), (2, y)]) (k : Int) (s : ByteArray) (hx : a.eval x = .int .i64 k) (hy : a.eval y = .string s) : YieldsIf Tryz.prog ops S o (vVal (k, 0, s)) a :=
  Or.inl ⟨hw, fun w _ => by
    simp only [execOp, ho, List.map_toArray, List.map_cons, List.map_nil, hx, hy, vVal]
    go_simp⟩
set_option maxRecDepth 100000 in
theorem yt_buildE2 (hw : Region.wanted o (yielded ops a.tmps) = true) (x y : Operand) (ho : o.op = .build 42 #[(0, x), (2, y)]) (u v : Va) (hx : a.eval x = vVal u) (hy : a.eval y = vVal v) : YieldsIf Tryz.prog ops S o (evVal ⟨u, (0, 0, ⟨#[]⟩), v, (0, 0, ⟨#[]⟩)⟩) a :=
  Or.inl ⟨hw, fun w _ => by
    simp only [execOp, ho, List.map_toArray, List.map_cons, List.map_nil, hx, hy, vVal, evVal]
    go_simp⟩
set_option maxRecDepth 100000 in
theorem yt_eqEvZ (hw : Region.wanted o (yielded ops a.tmps) = true) (x y : Operand) (t : TypeId) (ho : o.op = .binOp .eql 42 x y t) (hx : a.eval x = evVal evZ) (hy : a.eval y = evVal evZ) : YieldsIf Tryz.prog ops S o (.bool true) a :=
  Or.inl ⟨hw, fun w _ => by
    have h := aw_eqz w
    simp only [evVal, evZ, vaZ] at h
    simp only [execOp, ho, hx, hy, evVal, evZ, vaZ]
    go_simp⟩
theorem wt_newEv {Q : Exit → Act → World → Prop} {o2 : Oper} {rest : List Oper} {w : World} (hw : Region.wanted o (yielded ops a.tmps) = true) (ho : o.op = .alloc 42) (x y : Operand) (ho2 : o2.op = .store 42 x y) (hg2 : o2.guard = none)
    (hx : ∀ v, (a.put o.dst v).eval x = v) {e : EvV} (hy : ∀ v, (a.put o.dst v).eval y = evVal e)
    (h : ∀ W g, W.heap[g]? = some (evObj e) → Below w.heap.size w W → wpList Tryz.prog ops Q rest ((a.put o.dst (.pointer (some ⟨g, 0, none⟩))).put o2.dst undef) W) : wpList Tryz.prog ops Q (o :: o2 :: rest) a w :=
  wt_allocEv hw ho fun v1 g1 hg G1 kb => wt_putEv hg2 x y ho2 g1 (hx _) e (hy _) G1 rfl fun v2 X kg => h v2 g1 X (below_none (gr_new (grown_below (grown_refl _ _) kb) hg kg))
set_option maxRecDepth 100000 in
theorem yt_buildS2 (hw : Region.wanted o (yielded ops a.tmps) = true) (x y : Operand) (ho : o.op = .build 26 #[(2, x), (3, y)]) (b : Bool) (p : Option Addr) (n c : Nat) (hx : a.eval x = .bool b) (hy : a.eval y = .slice p n c) : YieldsIf Tryz.prog ops S o (.agg #[.bool false, .slice none 0 0, .bool b, .slice p n c]) a :=
  Or.inl ⟨hw, fun w _ => by
    simp only [execOp, ho, List.map_toArray, List.map_cons, List.map_nil, hx, hy]
    go_simp⟩
end
set_option maxHeartbeats 1000000 in
set_option maxRecDepth 100000 in
theorem awake7_any (w : World) (HE : Env w) :
    Calls Tryz.prog 5 #[] w fun e w' => e = .returned (.bool true) ∧ Below w.heap.size w w' := by
  have w6 : 6 ≤ w.heap.size := HE.big
  have D : w.grownBy w none := grown_refl _ _
  go_enter Tryz.func5, Tryz.ntmps5
  refine wp_seq_k (fun K1 hK1 => ?_)
  refine wp_region_lit ?_
  refine wl_yield (o := ⟨_, _, _, _, _, _⟩) (.bool false) (yl_assign (by rfl) _ rfl _ rfl) ?_
  simp only [Act.put, lzA, lzB, lzC]
  refine wpList_nil ?_
  refine hK1 _ _ ?_
  clear hK1 K1
  refine wp_seq_k (fun K2 hK2 => ?_)
  refine wp_region_lit ?_
  refine wt_call (o := ⟨_, _, _, _, _, _⟩) (by rfl) 6 _ _ rfl #[.string (bs ([38, 40, 97, 58, 91, 49, 46, 46, 53, 32, 39, 120, 39, 93, 32, 33, 98, 58, 91, 45, 93, 41]))] rfl (run_call Tryz.func6 (by kernel_rfl) (by kernel_rfl)) ?_
  refine (parse_any _ _ HE (by decide)).mono ?_
  rintro r v1 (⟨⟨d1, err, rfl, PA⟩, kb⟩)
  · obtain ⟨rfl, Pd1⟩ := aw_y1 PA
    clear PA
    replace D := grown_below D kb
    replace HE := HE.on kb
    clear kb
    refine Or.inl ⟨.tuple #[EC.val d1, .int .i64 0], rfl, ?_⟩
    simp only [Act.put, lzA, lzB, lzC]
    refine wl_yield (o := ⟨_, _, _, _, _, _⟩) (.tuple #[EC.val d1, .int .i64 0]) (yl_move (by rfl) _ rfl _ rfl) ?_
    simp only [Act.put, lzA, lzB, lzC]
    refine wl_yield (o := ⟨_, _, _, _, _, _⟩) (EC.val d1) (yl_extract0 (by rfl) _ rfl _ _ rfl) ?_
    simp only [Act.put, lzA, lzB, lzC]
    refine wl_yield (o := ⟨_, _, _, _, _, _⟩) (.int .i64 0) (yl_extract1 (by rfl) _ rfl _ _ rfl) ?_
    simp only [Act.put, lzA, lzB, lzC]
    refine wl_newEx (o := ⟨_, _, _, _, _, _⟩) (o2 := ⟨_, _, _, _, _, _⟩) (by rfl) rfl _ _ rfl rfl (fun _ => rfl) (c := d1) (fun _ => rfl) (fun v2 g2 G2 kb => ?_)
    simp only [Act.put, lzA, lzB, lzC]
    replace D := grown_below D kb
    replace HE := HE.on kb
    replace Pd1 := Pd1.on kb
    clear kb
    replace G2 : v2.heap[g2]? = some (.cells #[.int .i64 (d1.k), .int .i64 (d1.t), .bool (d1.s.a), .slice d1.s.p d1.s.n d1.s.c, .bool (d1.s.d), .slice d1.s.q d1.s.m d1.s.e, .slice d1.p d1.n d1.c] 29 (0, 0)) := G2
    refine wl_yield (o := ⟨_, _, _, _, _, _⟩) (.int .i64 0) (yl_assign (by rfl) _ rfl _ rfl) ?_
    simp only [Act.put, lzA, lzB, lzC]
    refine wpList_nil ?_
    refine hK2 _ _ ?_
    clear hK2 K2
    refine wp_seq_k (fun K3 hK3 => ?_)
    refine wp_region_lit ?_
    refine wt_call (o := ⟨_, _, _, _, _, _⟩) (by rfl) 6 _ _ rfl #[.string (bs ([38, 40, 97, 58, 91, 53, 46, 46, 49, 93, 41]))] rfl (run_call Tryz.func6 (by kernel_rfl) (by kernel_rfl)) ?_
    refine (parse_any _ _ HE (by decide)).mono ?_
    rintro r v3 (⟨⟨d2, err, rfl, PA⟩, kb⟩)
    · obtain ⟨rfl, Pd2⟩ := aw_y2 PA
      clear PA
      subst Pd2
      replace D := grown_below D kb
      replace HE := HE.on kb
      replace Pd1 := Pd1.on kb
      replace G2 := heap_on G2 kb
      clear kb
      refine Or.inl ⟨.tuple #[EC.val ec0, .int .i64 2], rfl, ?_⟩
      simp only [Act.put, lzA, lzB, lzC]
      refine wl_yield (o := ⟨_, _, _, _, _, _⟩) (.tuple #[EC.val ec0, .int .i64 2]) (yl_move (by rfl) _ rfl _ rfl) ?_
      simp only [Act.put, lzA, lzB, lzC]
      refine wl_yield (o := ⟨_, _, _, _, _, _⟩) (EC.val ec0) (yl_extract0 (by rfl) _ rfl _ _ rfl) ?_
      simp only [Act.put, lzA, lzB, lzC]
      refine wl_yield (o := ⟨_, _, _, _, _, _⟩) (.int .i64 2) (yl_extract1 (by rfl) _ rfl _ _ rfl) ?_
      simp only [Act.put, lzA, lzB, lzC]
      refine wl_newEx (o := ⟨_, _, _, _, _, _⟩) (o2 := ⟨_, _, _, _, _, _⟩) (by rfl) rfl _ _ rfl rfl (fun _ => rfl) (c := ec0) (fun _ => rfl) (fun v4 g4 G4 kb => ?_)
      simp only [Act.put, lzA, lzB, lzC]
      replace D := grown_below D kb
      replace HE := HE.on kb
      replace Pd1 := Pd1.on kb
      replace G2 := heap_on G2 kb
      clear kb
      replace G4 : v4.heap[g4]? = some (.cells #[.int .i64 (ec0.k), .int .i64 (ec0.t), .bool (ec0.s.a), .slice ec0.s.p ec0.s.n ec0.s.c, .bool (ec0.s.d), .slice ec0.s.q ec0.s.m ec0.s.e, .slice ec0.p ec0.n ec0.c] 29 (0, 0)) := G4
      refine wl_yield (o := ⟨_, _, _, _, _, _⟩) (.int .i64 2) (yl_assign (by rfl) _ rfl _ rfl) ?_
      simp only [Act.put, lzA, lzB, lzC]
      refine wpList_nil ?_
      refine hK3 _ _ ?_
      clear hK3 K3
      refine wp_seq_k (fun K4 hK4 => ?_)
      refine wp_region_lit ?_
      refine wl_yield (o := ⟨_, _, _, _, _, _⟩) (vVal (((1, 1, ⟨#[]⟩) : Va))) (yt_buildV2 (by rfl) _ _ rfl 1 1 rfl rfl) ?_
      simp only [Act.put, lzA, lzB, lzC]
      refine wl_yield (o := ⟨_, _, _, _, _, _⟩) (vVal (((2, 0, bs [120]) : Va))) (yt_buildV3 (by rfl) _ _ rfl 2 (bs [120]) rfl rfl) ?_
      simp only [Act.put, lzA, lzB, lzC]
      refine wl_yield (o := ⟨_, _, _, _, _, _⟩) (evVal aw2) (yt_buildE2 (by rfl) _ _ rfl (1, 1, ⟨#[]⟩) (2, 0, bs [120]) rfl rfl) ?_
      simp only [Act.put, lzA, lzB, lzC]
      refine wt_call (o := ⟨_, _, _, _, _, _⟩) (by rfl) 12 _ _ rfl #[evVal aw2] rfl (run_call Tryz.func12 (by kernel_rfl) (by kernel_rfl)) ?_
      refine (eventText_any aw2 _ HE aw_fit aw_in).mono ?_
      rintro r v5 ⟨rfl, kb⟩
      replace D := grown_below D kb
      replace HE := HE.on kb
      replace Pd1 := Pd1.on kb
      replace G2 := heap_on G2 kb
      replace G4 := heap_on G4 kb
      clear kb
      refine Or.inl ⟨.tuple #[.string (bs ([123, 97, 61, 49, 32, 99, 61, 39, 120, 39, 125])), .int .i64 0], by rw [aw_r], ?_⟩
      simp only [Act.put, lzA, lzB, lzC]
      refine wl_yield (o := ⟨_, _, _, _, _, _⟩) (.tuple #[.string (bs ([123, 97, 61, 49, 32, 99, 61, 39, 120, 39, 125])), .int .i64 0]) (yl_move (by rfl) _ rfl _ rfl) ?_
      simp only [Act.put, lzA, lzB, lzC]
      refine wl_yield (o := ⟨_, _, _, _, _, _⟩) (.string (bs ([123, 97, 61, 49, 32, 99, 61, 39, 120, 39, 125]))) (yl_extract0 (by rfl) _ rfl _ _ rfl) ?_
      simp only [Act.put, lzA, lzB, lzC]
      refine wl_yield (o := ⟨_, _, _, _, _, _⟩) (.int .i64 0) (yl_extract1 (by rfl) _ rfl _ _ rfl) ?_
      simp only [Act.put, lzA, lzB, lzC]
      refine wl_yield (o := ⟨_, _, _, _, _, _⟩) (.string (bs ([123, 97, 61, 49, 32, 99, 61, 39, 120, 39, 125]))) (yl_assign (by rfl) _ rfl _ rfl) ?_
      simp only [Act.put, lzA, lzB, lzC]
      refine wl_yield (o := ⟨_, _, _, _, _, _⟩) (.int .i64 0) (yl_assign (by rfl) _ rfl _ rfl) ?_
      simp only [Act.put, lzA, lzB, lzC]
      refine wpList_nil ?_
      refine hK4 _ _ ?_
      clear hK4 K4
      refine wp_seq_k (fun K5 hK5 => ?_)
      refine wp_region_lit ?_
      refine wt_call (o := ⟨_, _, _, _, _, _⟩) (by rfl) 10 _ _ rfl #[.string (bs ([123, 125]))] rfl (run_call Tryz.func10 (by kernel_rfl) (by kernel_rfl)) ?_
      refine (readEvent_any [123, 125] _ HE (by decide)).mono ?_
      rintro r v6 (⟨⟨e0, err, rfl, PA⟩, kb⟩)
      · rw [aw_e] at PA
        obtain ⟨rfl, rfl⟩ := PA
        replace D := grown_below D kb
        replace HE := HE.on kb
        replace Pd1 := Pd1.on kb
        replace G2 := heap_on G2 kb
        replace G4 := heap_on G4 kb
        clear kb
        refine Or.inl ⟨.tuple #[evVal evZ, .int .i64 0], rfl, ?_⟩
        simp only [Act.put, lzA, lzB, lzC]
        refine wl_yield (o := ⟨_, _, _, _, _, _⟩) (.tuple #[evVal evZ, .int .i64 0]) (yl_move (by rfl) _ rfl _ rfl) ?_
        simp only [Act.put, lzA, lzB, lzC]
        refine wl_yield (o := ⟨_, _, _, _, _, _⟩) (evVal evZ) (yl_extract0 (by rfl) _ rfl _ _ rfl) ?_
        simp only [Act.put, lzA, lzB, lzC]
        refine wl_yield (o := ⟨_, _, _, _, _, _⟩) (.int .i64 0) (yl_extract1 (by rfl) _ rfl _ _ rfl) ?_
        simp only [Act.put, lzA, lzB, lzC]
        refine wt_newEv (o := ⟨_, _, _, _, _, _⟩) (o2 := ⟨_, _, _, _, _, _⟩) (by rfl) rfl _ _ rfl rfl (fun _ => rfl) (e := evZ) (fun _ => rfl) (fun v7 g7 G7 kb => ?_)
        simp only [Act.put, lzA, lzB, lzC]
        replace D := grown_below D kb
        replace HE := HE.on kb
        replace Pd1 := Pd1.on kb
        replace G2 := heap_on G2 kb
        replace G4 := heap_on G4 kb
        clear kb
        replace G7 : v7.heap[g7]? = some (.cells #[.int .i64 (evZ.v0.1), .int .i64 (evZ.v0.2.1), .string evZ.v0.2.2, .int .i64 (evZ.v1.1), .int .i64 (evZ.v1.2.1), .string evZ.v1.2.2, .int .i64 (evZ.v2.1), .int .i64 (evZ.v2.2.1), .string evZ.v2.2.2, .int .i64 (evZ.v3.1), .int .i64 (evZ.v3.2.1), .string evZ.v3.2.2] 42 (0, 0)) := G7
        refine wl_yield (o := ⟨_, _, _, _, _, _⟩) (.int .i64 0) (yl_assign (by rfl) _ rfl _ rfl) ?_
        simp only [Act.put, lzA, lzB, lzC]
        refine wpList_nil ?_
        refine hK5 _ _ ?_
        clear hK5 K5
        refine wp_seq_k (fun K6 hK6 => ?_)
        refine wp_region_lit ?_
        refine wl_yield (o := ⟨_, _, _, _, _, _⟩) (EC.val d1) (yl_ex (by rfl) _ rfl _ 0 rfl (c := ⟨d1.k, d1.t, ⟨d1.s.a, d1.s.p, d1.s.n, d1.s.c, d1.s.d, d1.s.q, d1.s.m, d1.s.e⟩, d1.p, d1.n, d1.c⟩) (fun _ h => by subst h; exact ⟨cell_heap G2 0, cell_heap G2 1, cell_heap G2 2, cell_heap G2 3, cell_heap G2 4, cell_heap G2 5, cell_heap G2 6⟩)) ?_
        simp only [Act.put, lzA, lzB, lzC]
        refine wt_call (o := ⟨_, _, _, _, _, _⟩) (by rfl) 15 _ _ rfl #[EC.val d1] rfl (run_call Tryz.func15 (by kernel_rfl) (by kernel_rfl)) ?_
        refine (c_size Pd1 (by omega)).mono ?_
        rintro r v8 ⟨rfl, kb⟩
        replace D := grown_below D kb
        replace HE := HE.on kb
        replace Pd1 := Pd1.on kb
        replace G2 := heap_on G2 kb
        replace G4 := heap_on G4 kb
        replace G7 := heap_on G7 kb
        clear kb
        refine Or.inl ⟨.tuple #[.int .i64 4, .int .i64 3], by rw [aw_z1, aw_z2], ?_⟩
        simp only [Act.put, lzA, lzB, lzC]
        refine wl_yield (o := ⟨_, _, _, _, _, _⟩) (.tuple #[.int .i64 4, .int .i64 3]) (yl_move (by rfl) _ rfl _ rfl) ?_
        simp only [Act.put, lzA, lzB, lzC]
        refine wl_yield (o := ⟨_, _, _, _, _, _⟩) (.int .i64 4) (yl_extract0 (by rfl) _ rfl _ _ rfl) ?_
        simp only [Act.put, lzA, lzB, lzC]
        refine wl_yield (o := ⟨_, _, _, _, _, _⟩) (.int .i64 3) (yl_extract1 (by rfl) _ rfl _ _ rfl) ?_
        simp only [Act.put, lzA, lzB, lzC]
        refine wl_yield (o := ⟨_, _, _, _, _, _⟩) (.int .i64 4) (yl_assign (by rfl) _ rfl _ rfl) ?_
        simp only [Act.put, lzA, lzB, lzC]
        refine wl_yield (o := ⟨_, _, _, _, _, _⟩) (.int .i64 3) (yl_assign (by rfl) _ rfl _ rfl) ?_
        simp only [Act.put, lzA, lzB, lzC]
        refine wpList_nil ?_
        refine hK6 _ _ ?_
        clear hK6 K6
        refine wp_seq_k (fun K7 hK7 => ?_)
        refine wp_region_lit ?_
        refine wl_yield (o := ⟨_, _, _, _, _, _⟩) (.int .i64 0) (yl_move (by rfl) _ rfl _ rfl) ?_
        simp only [Act.put, lzA, lzB, lzC]
        refine wl_yield (o := ⟨_, _, _, _, _, _⟩) (.bool true) (yt_eqlE (by rfl) _ _ _ rfl 0 0 true rfl rfl (by decide)) ?_
        simp only [Act.put, lzA, lzB, lzC]
        refine wl_yield (o := ⟨_, _, _, _, _, _⟩) (.bool true) (yl_move (by rfl) _ rfl _ rfl) ?_
        simp only [Act.put, lzA, lzB, lzC]
        refine wl_yield (o := ⟨_, _, _, _, _, _⟩) (.int .i64 4) (yl_move (by rfl) _ rfl _ rfl) ?_
        simp only [Act.put, lzA, lzB, lzC]
        refine wl_yield (o := ⟨_, _, _, _, _, _⟩) (.bool true) (yt_eqlI (by rfl) _ _ _ rfl 4 4 true rfl rfl (by decide)) ?_
        simp only [Act.put, lzA, lzB, lzC]
        refine wl_yield (o := ⟨_, _, _, _, _, _⟩) (.bool true) (yl_pickT (by rfl) _ _ _ rfl rfl _ rfl) ?_
        simp only [Act.put, lzA, lzB, lzC]
        refine wl_yield (o := ⟨_, _, _, _, _, _⟩) (.bool true) (yl_move (by rfl) _ rfl _ rfl) ?_
        simp only [Act.put, lzA, lzB, lzC]
        refine wl_yield (o := ⟨_, _, _, _, _, _⟩) (.int .i64 3) (yl_move (by rfl) _ rfl _ rfl) ?_
        simp only [Act.put, lzA, lzB, lzC]
        refine wl_yield (o := ⟨_, _, _, _, _, _⟩) (.bool true) (yt_eqlI (by rfl) _ _ _ rfl 3 3 true rfl rfl (by decide)) ?_
        simp only [Act.put, lzA, lzB, lzC]
        refine wl_yield (o := ⟨_, _, _, _, _, _⟩) (.bool true) (yl_pickT (by rfl) _ _ _ rfl rfl _ rfl) ?_
        simp only [Act.put, lzA, lzB, lzC]
        refine wl_yield (o := ⟨_, _, _, _, _, _⟩) (.bool true) (yl_move (by rfl) _ rfl _ rfl) ?_
        simp only [Act.put, lzA, lzB, lzC]
        refine wl_yield (o := ⟨_, _, _, _, _, _⟩) (.int .i64 2) (yl_move (by rfl) _ rfl _ rfl) ?_
        simp only [Act.put, lzA, lzB, lzC]
        refine wl_yield (o := ⟨_, _, _, _, _, _⟩) (.bool true) (yt_eqlE (by rfl) _ _ _ rfl 2 2 true rfl rfl (by decide)) ?_
        simp only [Act.put, lzA, lzB, lzC]
        refine wl_yield (o := ⟨_, _, _, _, _, _⟩) (.bool true) (yl_pickT (by rfl) _ _ _ rfl rfl _ rfl) ?_
        simp only [Act.put, lzA, lzB, lzC]
        refine wl_yield (o := ⟨_, _, _, _, _, _⟩) (.bool true) (yl_move (by rfl) _ rfl _ rfl) ?_
        simp only [Act.put, lzA, lzB, lzC]
        refine wl_yield (o := ⟨_, _, _, _, _, _⟩) (.string (bs ([123, 97, 61, 49, 32, 99, 61, 39, 120, 39, 125]))) (yl_move (by rfl) _ rfl _ rfl) ?_
        simp only [Act.put, lzA, lzB, lzC]
        refine wl_yield (o := ⟨_, _, _, _, _, _⟩) (.bool true) (yt_eqS (by rfl) _ _ _ rfl ([123, 97, 61, 49, 32, 99, 61, 39, 120, 39, 125]) ([123, 97, 61, 49, 32, 99, 61, 39, 120, 39, 125]) true rfl rfl (by decide)) ?_
        simp only [Act.put, lzA, lzB, lzC]
        refine wl_yield (o := ⟨_, _, _, _, _, _⟩) (.bool true) (yl_pickT (by rfl) _ _ _ rfl rfl _ rfl) ?_
        simp only [Act.put, lzA, lzB, lzC]
        refine wl_yield (o := ⟨_, _, _, _, _, _⟩) (.bool true) (yl_move (by rfl) _ rfl _ rfl) ?_
        simp only [Act.put, lzA, lzB, lzC]
        refine wl_yield (o := ⟨_, _, _, _, _, _⟩) (.int .i64 0) (yl_move (by rfl) _ rfl _ rfl) ?_
        simp only [Act.put, lzA, lzB, lzC]
        refine wl_yield (o := ⟨_, _, _, _, _, _⟩) (.bool true) (yt_eqlE (by rfl) _ _ _ rfl 0 0 true rfl rfl (by decide)) ?_
        simp only [Act.put, lzA, lzB, lzC]
        refine wl_yield (o := ⟨_, _, _, _, _, _⟩) (.bool true) (yl_pickT (by rfl) _ _ _ rfl rfl _ rfl) ?_
        simp only [Act.put, lzA, lzB, lzC]
        refine wl_yield (o := ⟨_, _, _, _, _, _⟩) (.bool true) (yl_move (by rfl) _ rfl _ rfl) ?_
        simp only [Act.put, lzA, lzB, lzC]
        refine wl_yield (o := ⟨_, _, _, _, _, _⟩) (evVal evZ) (yl_ev (by rfl) _ rfl _ 0 rfl _ _ _ _ _ _ _ _ _ _ _ _ (fun _ h => by subst h; exact ⟨cell_heap G7 0, cell_heap G7 1, cell_heap G7 2, cell_heap G7 3, cell_heap G7 4, cell_heap G7 5, cell_heap G7 6, cell_heap G7 7, cell_heap G7 8, cell_heap G7 9, cell_heap G7 10, cell_heap G7 11⟩)) ?_
        simp only [Act.put, lzA, lzB, lzC]
        refine wl_yield (o := ⟨_, _, _, _, _, _⟩) (evVal evZ) (yl_zeroE (by rfl) rfl) ?_
        simp only [Act.put, lzA, lzB, lzC]
        refine wl_yield (o := ⟨_, _, _, _, _, _⟩) (.bool true) (yt_eqEvZ (by rfl) _ _ _ rfl rfl rfl) ?_
        simp only [Act.put, lzA, lzB, lzC]
        refine wl_yield (o := ⟨_, _, _, _, _, _⟩) (.bool true) (yl_pickT (by rfl) _ _ _ rfl rfl _ rfl) ?_
        simp only [Act.put, lzA, lzB, lzC]
        refine wl_yield (o := ⟨_, _, _, _, _, _⟩) (.bool true) (yl_move (by rfl) _ rfl _ rfl) ?_
        simp only [Act.put, lzA, lzB, lzC]
        refine wl_yield (o := ⟨_, _, _, _, _, _⟩) (.int .i64 0) (yl_move (by rfl) _ rfl _ rfl) ?_
        simp only [Act.put, lzA, lzB, lzC]
        refine wl_yield (o := ⟨_, _, _, _, _, _⟩) (.bool true) (yt_eqlE (by rfl) _ _ _ rfl 0 0 true rfl rfl (by decide)) ?_
        simp only [Act.put, lzA, lzB, lzC]
        refine wl_yield (o := ⟨_, _, _, _, _, _⟩) (.bool true) (yl_pickT (by rfl) _ _ _ rfl rfl _ rfl) ?_
        simp only [Act.put, lzA, lzB, lzC]
        refine wl_yield (o := ⟨_, _, _, _, _, _⟩) (.bool true) (yl_move (by rfl) _ rfl _ rfl) ?_
        simp only [Act.put, lzA, lzB, lzC]
        refine wt_row1S (o := ⟨_, _, _, _, _, _⟩) (by rfl) _ rfl (bs ([113])) rfl (fun v9 g9 hg G9 kb => ?_)
        have n_g2_g9 : g2 ≠ g9 := by have := lt_heap G2; omega
        have n_g4_g9 : g4 ≠ g9 := by have := lt_heap G4; omega
        have n_g7_g9 : g7 ≠ g9 := by have := lt_heap G7; omega
        have ge_g9 : w.heap.size ≤ g9 := Nat.le_trans D.size hg
        have six_g9 : 6 ≤ g9 := Nat.le_trans w6 ge_g9
        clear hg
        replace D := grown_below D kb
        replace HE := HE.on kb
        replace Pd1 := Pd1.on kb
        replace G2 := heap_on G2 kb
        replace G4 := heap_on G4 kb
        replace G7 := heap_on G7 kb
        clear kb
        simp only [Act.put, lzA, lzB, lzC]
        refine wl_yield (o := ⟨_, _, _, _, _, _⟩) (.agg #[.bool false, .slice none 0 0, .bool true, .slice (some ⟨g9, 0, none⟩) 1 1]) (yt_buildS2 (by rfl) _ _ rfl true _ _ _ rfl rfl) ?_
        simp only [Act.put, lzA, lzB, lzC]
        refine wt_call (o := ⟨_, _, _, _, _, _⟩) (by rfl) 16 _ _ rfl #[.agg #[.bool false, .slice none 0 0, .bool true, .slice (some ⟨g9, 0, none⟩) 1 1]] rfl (run_call Tryz.func16 (by kernel_rfl) (by kernel_rfl)) ?_
        refine (setText_any aw3 none (some ⟨g9, 0, none⟩) 0 1 _ HE (ri_nil _) (aw_st G9) aw_ok (by decide) (by decide)).mono ?_
        rintro r v10 ⟨rfl, kb⟩
        replace D := grown_below D kb
        replace HE := HE.on kb
        replace Pd1 := Pd1.on kb
        replace G2 := heap_on G2 kb
        replace G4 := heap_on G4 kb
        replace G7 := heap_on G7 kb
        replace G9 := heap_on G9 kb
        clear kb
        refine Or.inl ⟨.string (bs ([91, 126, 32, 39, 113, 39, 93])), by rw [aw_s], ?_⟩
        simp only [Act.put, lzA, lzB, lzC]
        refine wl_yield (o := ⟨_, _, _, _, _, _⟩) (.bool true) (yt_eqS (by rfl) _ _ _ rfl ([91, 126, 32, 39, 113, 39, 93]) ([91, 126, 32, 39, 113, 39, 93]) true rfl rfl (by decide)) ?_
        simp only [Act.put, lzA, lzB, lzC]
        refine wl_yield (o := ⟨_, _, _, _, _, _⟩) (.bool true) (yl_pickT (by rfl) _ _ _ rfl rfl _ rfl) ?_
        simp only [Act.put, lzA, lzB, lzC]
        refine wl_yield (o := ⟨_, _, _, _, _, _⟩) (.bool true) (yl_assign (by rfl) _ rfl _ rfl) ?_
        simp only [Act.put, lzA, lzB, lzC]
        refine wpList_nil ?_
        refine hK7 _ _ ?_
        clear hK7 K7
        refine wp_ret ?_
        go_ret
        exact ⟨rfl, below_none D⟩
end Go.Proofs.YtlmdcaemjaldfaaGreatDoor
namespace Go.Proofs.YtlmdcaemjaldfaaGreatDoor
open Go.RowKit
section
variable {ops : Array Oper} {S : World → Prop} {o : Oper} {a : Act}
end
end Go.Proofs.YtlmdcaemjaldfaaGreatDoor
