import Derived.Lib.UnsafeStr
import Derived.Lib.Bytealg
import Derived.Lib.AtoiAll
import Derived.Lib.ItoaNum
import Derived.Lib.ItoaWalk
import Derived.Lib.ItoaMem
import Derived.Test.YtlmdcaemjaldfaaGreatDoorRows
import Derived.WalkKit
import Derived.WalkSpells
import Derived.WalkLawsBesides
import Derived.WalkSmall
import Derived.Lib.SmallJoins
import Derived.Lib.ItoaLen
import Derived.Lib.Slices
import Derived.Laws.IdiomStrings
import Derived.Laws.OwnMore
import Derived.OwnWalk
import Derived.BigCall
import Derived.Deep.RegionHeld3
import Derived.Deep.AppendLies
import Derived.Deep.DrawnRows
import Derived.Lib.AppendIntMem
import Derived.Deep.QuietTactic
import Derived.BigQuiet
import Derived.Lib.QuietBelow
import Derived.ProofKit
import Derived.OpenShut
import Derived.Carry
import Derived.Deep.Slices
import Derived.Laws.AppendOwnNone
import Derived.Tactics
import Derived.Tactics2
import Derived.Defers
import Derived.Laws.Pointers
import Derived.Laws.LoneSync
import Derived.Laws.NewBlocks
import Derived.RegionTactic
import Derived.RegionCalls
import Derived.ChangeAlike
import Derived.Shelf.Strings.Builder1
import Derived.Shelf.Strings.Builder2
import Derived.Shelf.Strings.OnBuilder
import Derived.Shelf.Small.Strs
import Derived.Shelf.Small.Wraps
import Derived.Shelf.Strconv.Atoi
import Derived.Shelf.Strconv.Itoa0
import Derived.Shelf.Strconv.Itoa1
import Derived.Shelf.LaysM
import Derived.Shelf.Strconv.Itoa2
import Derived.Shelf.Strconv.Itoa3
import Derived.Shelf.Strconv.AtoiErrFast
import Derived.Shelf.Strconv.ParseIntEmpty
import Derived.Shelf.Strconv.AtoiFail
import Derived.Shelf.Strconv.Clone
import Derived.Shelf.Strconv.SyntaxError
import Derived.Shelf.LaysC
import Derived.Shelf.Strconv.ToError
import Derived.Shelf.Strconv.Lower
import Derived.Shelf.Strconv.ParseUint10
import Derived.Shelf.Strconv.ParseUint10Empty
import Derived.Shelf.Strconv.ParseUint10Any
import Derived.Shelf.Strconv.ParseInt10
import Derived.Shelf.Strconv.AtoiLong
import Derived.Shelf.Strconv.AtoiInnerAll
import Derived.Shelf.Strconv.RangeError
import Derived.Shelf.Strconv.ToErrorRange
import Derived.Shelf.Strconv.AtoiAll
import Derived.Shelf.Strconv.ErrVarAll
import Derived.Shelf.Strings.Search1
import Derived.Shelf.Strings.Prefix
import Derived.Test.YtlmdcaemjaldfaaGreatDoorProg
import Derived.Lib.AtoiErrMem
import Derived.Lib.AtoiAllCases
namespace Go.Proofs.YtlmdcaemjaldfaaGreatDoor
theorem lzA {α : Type _} {l : List α} {i : Nat} {a : α} : l.toArray.setIfInBounds i a = (l.set i a).toArray := by simp
theorem lzB {α : Type _} {a b : α} {l : List α} : (a :: l).set 0 b = b :: l := rfl
theorem lzC {α : Type _} {a b : α} {l : List α} {n : Nat} : (a :: l).set (n + 1) b = a :: l.set n b := rfl
end Go.Proofs.YtlmdcaemjaldfaaGreatDoor
set_option linter.unusedSimpArgs false
set_option linter.unusedVariables false
namespace Go.Proofs.YtlmdcaemjaldfaaGreatDoor
def escB (c : Int) : Bool := decide (c < 32) || decide (126 < c) || c == 39 || c == 92
def hexA : List UInt8 := [48, 49, 50, 51, 52, 53, 54, 55, 56, 57, 97, 98, 99, 100, 101, 102]
def hexD (n : Nat) : UInt8 := hexA.getD n 0
def qByte (c : UInt8) : List UInt8 := if escB c.toNat then [92, hexD (c.toNat / 16), hexD (c.toNat % 16)] else [c]
def qBytes (l : List UInt8) : List UInt8 := l.flatMap qByte
def quoteL (l : List UInt8) : List UInt8 := 39 :: (qBytes l ++ [39])
theorem qByte_len (c : UInt8) : 1 ≤ (qByte c).length ∧ (qByte c).length ≤ 3 := by
  unfold qByte; split <;> simp
theorem qBytes_cons (c : UInt8) (l : List UInt8) : qBytes (c :: l) = qByte c ++ qBytes l := by simp [qBytes]
theorem qBytes_append (a b : List UInt8) : qBytes (a ++ b) = qBytes a ++ qBytes b := by simp [qBytes]
theorem qBytes_len (l : List UInt8) : l.length ≤ (qBytes l).length ∧ (qBytes l).length ≤ 3 * l.length := by
  induction l with
  | nil => simp [qBytes]
  | cons c l ih =>
    have := qByte_len c
    rw [qBytes_cons, List.length_append, List.length_cons]
    omega
theorem qBytes_snoc (l : List UInt8) (c : UInt8) : qBytes (l ++ [c]) = qBytes l ++ qByte c := by
  rw [qBytes_append]; simp [qBytes]
theorem take_snoc (s : ByteArray) (k : Nat) (h : k < s.size) : s.data.toList.take (k + 1) = s.data.toList.take k ++ [s[k]] := by
  rw [List.take_succ_eq_append_getElem (by simpa using h)]; rfl
theorem quote_step (s : ByteArray) (k : Nat) (h : k < s.size) : 39 :: qBytes (s.data.toList.take (k + 1)) = (39 :: qBytes (s.data.toList.take k)) ++ qByte s[k] := by
  rw [take_snoc s k h, qBytes_snoc]; rfl
end Go.Proofs.YtlmdcaemjaldfaaGreatDoor
namespace Go.Proofs.YtlmdcaemjaldfaaGreatDoor
def hexI (c : UInt8) : Int := Lib.indexByte hexA c
theorem hexI_table : ∀ n : Fin 256, hexI (UInt8.ofNat n.val) = if 48 ≤ n.val ∧ n.val ≤ 57 then (n.val : Int) - 48 else if 97 ≤ n.val ∧ n.val ≤ 102 then (n.val : Int) - 87 else -1 := by decide +kernel
theorem hexI_eq (c : UInt8) : hexI c = if 48 ≤ c.toNat ∧ c.toNat ≤ 57 then (c.toNat : Int) - 48 else if 97 ≤ c.toNat ∧ c.toNat ≤ 102 then (c.toNat : Int) - 87 else -1 := by
  have := hexI_table ⟨c.toNat, c.toNat_lt⟩
  simpa using this
theorem hexI_bd (c : UInt8) : -1 ≤ hexI c ∧ hexI c ≤ 15 := by
  rw [hexI_eq]; split
  · omega
  · split <;> omega
def rb (l : List UInt8) : Int × Int :=
  if (l.getD 0 0).toNat = 92 then
    if l.length < 3 then (0, 0)
    else if hexI (l.getD 1 0) < 0 ∨ hexI (l.getD 2 0) < 0 then (0, 0)
    else if escB (16 * hexI (l.getD 1 0) + hexI (l.getD 2 0)) = true then (16 * hexI (l.getD 1 0) + hexI (l.getD 2 0), 3) else (0, 0)
  else if escB ((l.getD 0 0).toNat : Int) = true then (0, 0) else ((l.getD 0 0).toNat, 1)
theorem at_getD (s : ByteArray) (i : Nat) (h : i < s.size) : s[i] = s.data.toList.getD i 0 := by
  rw [List.getD_eq_getElem?_getD, List.getElem?_eq_getElem (by simpa using h)]
  rfl
theorem rb_bd (l : List UInt8) : 0 ≤ (rb l).1 ∧ (rb l).1 ≤ 255 ∧ 0 ≤ (rb l).2 ∧ (rb l).2 ≤ 3 := by
  have h1 := hexI_bd (l.getD 1 0)
  have h2 := hexI_bd (l.getD 2 0)
  have h3 := (l.getD 0 0).toNat_lt
  unfold rb
  generalize hexI (l.getD 1 0) = a at *
  generalize hexI (l.getD 2 0) = b at *
  generalize (l.getD 0 0).toNat = c at *
  split
  · split
    · simp
    · split
      · simp
      · split
        · refine ⟨?_, ?_, ?_, ?_⟩ <;> dsimp only <;> omega
        · simp
  · split
    · simp
    · refine ⟨?_, ?_, ?_, ?_⟩ <;> dsimp only <;> omega
def isDig (c : UInt8) : Bool := decide (48 ≤ c.toNat) && decide (c.toNat ≤ 57)
def digsTo (l : List UInt8) (a k : Nat) : Prop := ∀ j, a ≤ j → j < k → isDig (l.getD j 0) = true
theorem digsTo_start (l : List UInt8) (a : Nat) : digsTo l a a := fun j h1 h2 => by omega
def digCount : List UInt8 → Nat
  | [] => 0
  | c :: l => if isDig c then digCount l + 1 else 0
theorem digCount_le (l : List UInt8) : digCount l ≤ l.length := by
  induction l with
  | nil => simp [digCount]
  | cons c l ih => unfold digCount; split <;> simp <;> omega
def numEnd (l : List UInt8) : Nat :=
  if (l.getD 0 0).toNat = 45 then (if digCount (l.drop 1) = 0 then 0 else 1 + digCount (l.drop 1)) else digCount l
theorem digCount_of (l : List UInt8) (n : Nat) (hn : n ≤ l.length) (h : ∀ j, j < n → isDig (l.getD j 0) = true) (he : n = l.length ∨ isDig (l.getD n 0) = false) : digCount l = n := by
  induction l generalizing n with
  | nil => simp at hn; simp [digCount, hn]
  | cons c l ih =>
    cases n with
    | zero =>
      rcases he with he | he
      · simp at he
      · simp at he
        simp [digCount, he]
    | succ n =>
      have h0 := h 0 (by omega)
      simp at h0
      have := ih n (by simpa using hn) (fun j hj => by simpa using h (j + 1) (by omega)) (by simpa using he)
      simp [digCount, h0, this]
theorem digCount_loop (s : ByteArray) (a k : Nat) (ha : a ≤ k) (hk : k ≤ s.size) (h : digsTo s.data.toList a k) (he : k = s.size ∨ isDig (s.data.toList.getD k 0) = false) : digCount (s.data.toList.drop a) = k - a := by
  have hl : s.data.toList.length = s.size := by rw [Array.length_toList]; rfl
  refine digCount_of _ _ (by rw [List.length_drop, hl]; omega) (fun j hj => ?_) ?_
  · have := h (a + j) (by omega) (by omega)
    simpa [List.getD_eq_getElem?_getD, List.getElem?_drop] using this
  · rcases he with he | he
    · left; rw [List.length_drop, hl]; omega
    · right
      have e : a + (k - a) = k := by omega
      simpa [List.getD_eq_getElem?_getD, List.getElem?_drop, e] using he
theorem digsTo_step (s : ByteArray) (a k : Nat) (h : digsTo s.data.toList a k) (hk : k < s.size) (h1 : 48 ≤ (s[k].toNat : Int)) (h2 : (s[k].toNat : Int) ≤ 57) : digsTo s.data.toList a (k + 1) := by
  intro j h3 h4
  by_cases e : j = k
  · subst e
    rw [← at_getD s j hk]
    simp [isDig]; omega
  · exact h j h3 (by omega)
theorem notDig (s : ByteArray) (k : Nat) (hk : k < s.size) (h : (s[k].toNat : Int) < 48 ∨ 57 < (s[k].toNat : Int)) : isDig (s.data.toList.getD k 0) = false := by
  rw [← at_getD s k hk]
  simp [isDig]; omega
theorem numEnd_minus (s : ByteArray) (h0 : 0 < s.size) (c0 : s[0].toNat = 45) : numEnd s.data.toList = if digCount (s.data.toList.drop 1) = 0 then 0 else 1 + digCount (s.data.toList.drop 1) := by
  unfold numEnd; rw [← at_getD s 0 h0, if_pos c0]
theorem numEnd_plain (s : ByteArray) (h0 : 0 < s.size) (c0 : ¬ s[0].toNat = 45) : numEnd s.data.toList = digCount (s.data.toList.drop 0) := by
  unfold numEnd; rw [← at_getD s 0 h0, if_neg c0]; rfl
theorem numEnd_end1 (s : ByteArray) (h0 : 0 < s.size) (c0 : s[0].toNat = 45) (k : Nat) (h1 : 1 ≤ k) (hk : k ≤ s.size) (h : digsTo s.data.toList 1 k) (he : k = s.size ∨ isDig (s.data.toList.getD k 0) = false) : numEnd s.data.toList = if k = 1 then 0 else k := by
  rw [numEnd_minus s h0 c0, digCount_loop s 1 k h1 hk h he]
  split <;> split <;> omega
theorem numEnd_end0 (s : ByteArray) (h0 : 0 < s.size) (c0 : ¬ s[0].toNat = 45) (k : Nat) (hk : k ≤ s.size) (h : digsTo s.data.toList 0 k) (he : k = s.size ∨ isDig (s.data.toList.getD k 0) = false) : numEnd s.data.toList = k := by
  rw [numEnd_plain s h0 c0, digCount_loop s 0 k (by omega) hk h he]
  omega
abbrev R := Option (Int × Int × List UInt8 × Nat)
def rnL (l : List UInt8) : R := match Lib.atoiAll l with
  | .ok v => if Lib.itoa v = l then some (1, v, [], l.length) else none
  | _ => none
theorem rnL_ok {l : List UInt8} {v : Int} (h : Lib.atoiAll l = .ok v) : rnL l = if Lib.itoa v = l then some (1, v, [], l.length) else none := by
  unfold rnL; rw [h]
theorem rnL_err {l : List UInt8} (h : ∀ v, Lib.atoiAll l ≠ .ok v) : rnL l = none := by
  unfold rnL
  cases e : Lib.atoiAll l with
  | ok v => exact absurd e (h v)
  | range => rfl
  | _ => rfl
def rbC (l : List UInt8) : UInt8 := UInt8.ofNat (rb l).1.toNat
def rbW (l : List UInt8) : Nat := (rb l).2.toNat
theorem rb_c (l : List UInt8) : (rb l).1 = ((rbC l).toNat : Int) := by
  have := rb_bd l
  unfold rbC
  have e : (UInt8.ofNat (rb l).1.toNat).toNat = (rb l).1.toNat := by
    rw [UInt8.toNat_ofNat']; omega
  rw [e]; omega
theorem rb_w (l : List UInt8) : (rb l).2 = ((rbW l : Nat) : Int) := by
  have := rb_bd l
  unfold rbW
  omega
theorem rbW_le (l : List UInt8) (h : l ≠ []) : rbW l ≤ l.length ∧ rbW l ≤ 3 := by
  have hp : 0 < l.length := List.length_pos_iff.2 h
  unfold rbW rb
  split
  · split
    · simp
    · split
      · simp
      · split
        · simp; omega
        · simp
  · split
    · simp
    · simp; omega
def rsL : Nat → List UInt8 → List UInt8 → Nat → R
  | 0, _, _, _ => none
  | _ + 1, [], _, _ => none
  | f + 1, c :: l, acc, pos =>
    if c.toNat = 39 then some (2, 0, acc, pos + 1)
    else if rbW (c :: l) = 0 then none
    else if acc.length = 8 then none
    else rsL f ((c :: l).drop (rbW (c :: l))) (acc ++ [rbC (c :: l)]) (pos + rbW (c :: l))
theorem drop_at (s : ByteArray) (k : Nat) (hk : k < s.size) : s.data.toList.drop k = s[k] :: s.data.toList.drop (k + 1) := by
  rw [List.drop_eq_getElem_cons (by simpa using hk)]; rfl
theorem drop_end (s : ByteArray) (k : Nat) (hk : k = s.size) : s.data.toList.drop k = [] := by
  subst hk; rw [List.drop_eq_nil_iff]; simp
def Rs (s : ByteArray) (acc : List UInt8) (k : Nat) : Prop := ∃ f, s.size - k ≤ f ∧ rsL f (s.data.toList.drop k) acc k = rsL s.size (s.data.toList.drop 1) [] 1
theorem rs_start (s : ByteArray) : Rs s [] 1 := ⟨s.size, by omega, rfl⟩
theorem rs_end (s : ByteArray) (acc : List UInt8) (k : Nat) (h : Rs s acc k) (hk : k = s.size) : rsL s.size (s.data.toList.drop 1) [] 1 = none := by
  obtain ⟨f, _, e⟩ := h
  rw [← e, drop_end s k hk]
  cases f <;> rfl
theorem rs_quote (s : ByteArray) (acc : List UInt8) (k : Nat) (h : Rs s acc k) (hk : k < s.size) (hq : s[k].toNat = 39) : rsL s.size (s.data.toList.drop 1) [] 1 = some (2, 0, acc, k + 1) := by
  obtain ⟨f, hf, e⟩ := h
  rw [← e, drop_at s k hk]
  cases f with
  | zero => omega
  | succ f => simp [rsL, hq]
theorem rs_wrong (s : ByteArray) (acc : List UInt8) (k : Nat) (h : Rs s acc k) (hk : k < s.size) (hq : ¬ s[k].toNat = 39) (hw : rbW (s.data.toList.drop k) = 0) : rsL s.size (s.data.toList.drop 1) [] 1 = none := by
  obtain ⟨f, hf, e⟩ := h
  rw [drop_at s k hk] at e hw
  rw [← e]
  cases f with
  | zero => omega
  | succ f => simp [rsL, hq, hw]
theorem rs_long (s : ByteArray) (acc : List UInt8) (k : Nat) (h : Rs s acc k) (hk : k < s.size) (hq : ¬ s[k].toNat = 39) (h8 : acc.length = 8) : rsL s.size (s.data.toList.drop 1) [] 1 = none := by
  obtain ⟨f, hf, e⟩ := h
  rw [drop_at s k hk] at e
  rw [← e]
  cases f with
  | zero => omega
  | succ f => simp [rsL, hq, h8]
theorem rs_step (s : ByteArray) (acc : List UInt8) (k : Nat) (h : Rs s acc k) (hk : k < s.size) (hq : ¬ s[k].toNat = 39) (hw : ¬ rbW (s.data.toList.drop k) = 0) (h8 : ¬ acc.length = 8) : Rs s (acc ++ [rbC (s.data.toList.drop k)]) (k + rbW (s.data.toList.drop k)) := by
  obtain ⟨f, hf, e⟩ := h
  have hd := drop_at s k hk
  cases f with
  | zero => omega
  | succ f =>
    refine ⟨f, by omega, ?_⟩
    rw [← e]
    rw [← List.drop_drop]
    rw [hd] at hw ⊢
    simp only [rsL, if_neg hq, if_neg hw, if_neg h8]
theorem rbW_at (s : ByteArray) (k : Nat) (hk : k < s.size) : rbW (s.data.toList.drop k) ≤ s.size - k ∧ rbW (s.data.toList.drop k) ≤ 3 := by
  have hl : s.data.toList.length = s.size := by rw [Array.length_toList]; rfl
  have := rbW_le (s.data.toList.drop k) (by rw [drop_at s k hk]; simp)
  rw [List.length_drop, hl] at this
  exact this
def readL (l : List UInt8) : R :=
  if l.length = 0 then none
  else if (l.getD 0 0).toNat = 39 then rsL l.length (l.drop 1) [] 1
  else if 0 < numEnd l then rnL (l.take (numEnd l))
  else if (l.getD 0 0).toNat = 45 then some (0, 0, [], 1)
  else none
theorem numEnd_le (l : List UInt8) : numEnd l ≤ l.length := by
  have h1 := digCount_le l
  have h2 := digCount_le (l.drop 1)
  rw [List.length_drop] at h2
  unfold numEnd
  split
  · split <;> omega
  · exact h1
end Go.Proofs.YtlmdcaemjaldfaaGreatDoor
namespace Go.Proofs.YtlmdcaemjaldfaaGreatDoor
def foldV (a : Nat) (l : List UInt8) : Nat := l.foldl (fun x c => x * 10 + (c.toNat - 48)) a
theorem foldV_nil (a : Nat) : foldV a [] = a := List.foldl_nil
theorem foldV_cons (a : Nat) (c : UInt8) (l : List UInt8) : foldV a (c :: l) = foldV (a * 10 + (c.toNat - 48)) l := List.foldl_cons
theorem foldV_le (l : List UInt8) : ∀ a : Nat, a ≤ foldV a l := by
  induction l with
  | nil => intro a; rw [foldV_nil]; exact Nat.le_refl _
  | cons c l ih =>
    intro a
    rw [foldV_cons]
    have := ih (a * 10 + (c.toNat - 48))
    omega
theorem foldV_append (l m : List UInt8) (a : Nat) : foldV a (l ++ m) = foldV (foldV a l) m := List.foldl_append
theorem isDig_iff (c : UInt8) : isDig c = true ↔ 48 ≤ c.toNat ∧ c.toNat ≤ 57 := by simp [isDig]
theorem parse_ok : ∀ (l : List UInt8) (a : Nat), (∀ c ∈ l, isDig c = true) → foldV a l < 18446744073709551616 → Lib.parseUint10 a l = .ok (foldV a l)
  | [], a, _, _ => by rw [foldV_nil, Lib.parseUint10]
  | c :: l, a, hd, hf => by
    have hc := (isDig_iff c).1 (hd c (by simp))
    rw [foldV_cons] at hf ⊢
    have h1 := foldV_le l (a * 10 + (c.toNat - 48))
    rw [Lib.parseUint10, if_pos hc, if_neg (by omega), if_neg (by omega)]
    exact parse_ok l _ (fun d h => hd d (by simp [h])) hf
theorem parse_inv : ∀ (l : List UInt8) (a u : Nat), a < 18446744073709551616 → Lib.parseUint10 a l = .ok u → (∀ c ∈ l, isDig c = true) ∧ u = foldV a l ∧ foldV a l < 18446744073709551616
  | [], a, u, ha, h => by
    simp only [Lib.parseUint10] at h
    injection h with h
    exact ⟨by simp, by rw [← h, foldV_nil], by rw [foldV_nil]; exact ha⟩
  | c :: l, a, u, ha, h => by
    rw [Lib.parseUint10] at h
    by_cases hc : 48 ≤ c.toNat ∧ c.toNat ≤ 57
    · rw [if_pos hc] at h
      by_cases h1 : 1844674407370955162 ≤ a
      · rw [if_pos h1] at h; cases h
      · rw [if_neg h1] at h
        by_cases h2 : 18446744073709551616 ≤ a * 10 + (c.toNat - 48)
        · rw [if_pos h2] at h; cases h
        · rw [if_neg h2] at h
          obtain ⟨i1, i2, i3⟩ := parse_inv l _ u (by omega) h
          refine ⟨fun d hd => ?_, by rw [foldV_cons]; exact i2, by rw [foldV_cons]; exact i3⟩
          rcases List.mem_cons.1 hd with rfl | hd
          · exact (isDig_iff d).2 hc
          · exact i1 d hd
    · rw [if_neg hc] at h; cases h
theorem dig_byte (k : Nat) (h : k < 10) : (UInt8.ofNat (48 + k)).toNat = 48 + k := by rw [UInt8.toNat_ofNat']; omega
theorem dec_digits (u : Nat) : (∀ c ∈ Lib.decDigits u, isDig c = true) ∧ foldV 0 (Lib.decDigits u) = u ∧ Lib.decDigits u ≠ [] := by
  induction u using Nat.strongRecOn with
  | _ u ih =>
    by_cases h : u < 10
    · rw [Lib.decDigits, dif_pos h]
      refine ⟨fun c hc => ?_, ?_, by simp⟩
      · rw [List.mem_singleton.1 hc, isDig_iff, dig_byte u h]; omega
      · rw [foldV_cons, foldV_nil, dig_byte u h]; omega
    · obtain ⟨i1, i2, i3⟩ := ih (u / 10) (by omega)
      rw [Lib.decDigits, dif_neg h]
      refine ⟨fun c hc => ?_, ?_, by simp⟩
      · rcases List.mem_append.1 hc with hc | hc
        · exact i1 c hc
        · rw [List.mem_singleton.1 hc, isDig_iff, dig_byte _ (by omega)]; omega
      · rw [foldV_append, i2, foldV_cons, foldV_nil, dig_byte _ (by omega)]; omega
theorem dec_head (u : Nat) (h : 10 ≤ u) : ((Lib.decDigits u).getD 0 0).toNat ≠ 48 := by
  induction u using Nat.strongRecOn with
  | _ u ih =>
    rw [Lib.decDigits, dif_neg (by omega)]
    have hne := (dec_digits (u / 10)).2.2
    have e : (Lib.decDigits (u / 10) ++ [UInt8.ofNat (48 + u % 10)]).getD 0 0 = (Lib.decDigits (u / 10)).getD 0 0 := by
      cases hl : Lib.decDigits (u / 10) with
      | nil => exact absurd hl hne
      | cons c l => rfl
    rw [e]
    by_cases h2 : 10 ≤ u / 10
    · exact ih (u / 10) (by omega) h2
    · rw [Lib.decDigits, dif_pos (by omega)]
      simp only [List.getD_cons_zero]
      rw [dig_byte _ (by omega)]; omega
theorem atoi_itoa (n : Int) (h0 : -9223372036854775808 ≤ n) (h1 : n ≤ 9223372036854775807) : Lib.atoiAll (Lib.itoa n) = .ok n := by
  by_cases hn : n < 0
  · obtain ⟨u, rfl⟩ : ∃ u : Nat, n = -(u : Int) := ⟨n.natAbs, by omega⟩
    rw [Lib.itoa_neg u (by omega)]
    obtain ⟨d1, d2, d3⟩ := dec_digits u
    have hp : Lib.parseMag (Lib.decDigits u) = .ok u := by
      unfold Lib.parseMag
      rw [if_neg d3, parse_ok _ 0 d1 (by rw [d2]; omega), d2]
    unfold Lib.atoiAll
    have e45 : (45 : UInt8).toNat = 45 := rfl
    simp only [e45, if_true, or_true, hp]
    simp
    omega
  · obtain ⟨u, rfl⟩ : ∃ u : Nat, n = (u : Int) := ⟨n.toNat, by omega⟩
    rw [Lib.itoa_nonneg u]
    obtain ⟨d1, d2, d3⟩ := dec_digits u
    have hp : Lib.parseMag (Lib.decDigits u) = .ok u := by
      unfold Lib.parseMag
      rw [if_neg d3, parse_ok _ 0 d1 (by rw [d2]; omega), d2]
    cases hl : Lib.decDigits u with
    | nil => exact absurd hl d3
    | cons c l =>
      have hc := (isDig_iff c).1 (d1 c (by rw [hl]; simp))
      rw [hl] at hp
      unfold Lib.atoiAll
      have c1 : ¬ (c.toNat = 43 ∨ c.toNat = 45) := by omega
      have c2 : ¬ c.toNat = 45 := by omega
      simp only [if_neg c1, hp]
      simp [c2]
      omega
theorem rn_itoa (n : Int) (h0 : -9223372036854775808 ≤ n) (h1 : n ≤ 9223372036854775807) : rnL (Lib.itoa n) = some (1, n, [], (Lib.itoa n).length) := by
  rw [rnL_ok (atoi_itoa n h0 h1), if_pos rfl]
theorem digCount_run (l m : List UInt8) (hl : ∀ c ∈ l, isDig c = true) (hm : m = [] ∨ isDig (m.getD 0 0) = false) : digCount (l ++ m) = l.length := by
  induction l with
  | nil =>
    cases m with
    | nil => rfl
    | cons c m =>
      rcases hm with hm | hm
      · cases hm
      · simp at hm
        simp [digCount, hm]
  | cons c l ih =>
    have := ih (fun d h => hl d (by simp [h]))
    simp [digCount, hl c (by simp), this]
theorem itoa_pos (n : Int) : 0 < (Lib.itoa n).length := by
  unfold Lib.itoa
  split
  · simp
  · exact List.length_pos_iff.2 (dec_digits _).2.2
theorem numEnd_itoa (n : Int) (m : List UInt8) (hm : m = [] ∨ isDig (m.getD 0 0) = false) : numEnd (Lib.itoa n ++ m) = (Lib.itoa n).length := by
  unfold Lib.itoa
  split
  · obtain ⟨d1, d2, d3⟩ := dec_digits n.natAbs
    have e : numEnd ((45 :: Lib.decDigits n.natAbs) ++ m) = if digCount (Lib.decDigits n.natAbs ++ m) = 0 then 0 else 1 + digCount (Lib.decDigits n.natAbs ++ m) := rfl
    have := List.length_pos_iff.2 d3
    rw [e, digCount_run _ _ d1 hm, if_neg (by omega), List.length_cons]; omega
  · obtain ⟨d1, d2, d3⟩ := dec_digits n.toNat
    have hd : ((Lib.decDigits n.toNat ++ m).getD 0 0).toNat ≠ 45 := by
      cases hl : Lib.decDigits n.toNat with
      | nil => exact absurd hl d3
      | cons c l =>
        have := (isDig_iff c).1 (d1 c (by rw [hl]; simp))
        simp; omega
    unfold numEnd
    rw [if_neg hd, digCount_run _ _ d1 hm]
theorem itoa_head (n : Int) (m : List UInt8) : ((Lib.itoa n ++ m).getD 0 0).toNat ≠ 39 := by
  unfold Lib.itoa
  split
  · simp
  · obtain ⟨d1, d2, d3⟩ := dec_digits n.toNat
    cases hl : Lib.decDigits n.toNat with
    | nil => exact absurd hl d3
    | cons c l =>
      have := (isDig_iff c).1 (d1 c (by rw [hl]; simp))
      simp; omega
theorem read_itoa (n : Int) (m : List UInt8) (h0 : -9223372036854775808 ≤ n) (h1 : n ≤ 9223372036854775807) (hm : m = [] ∨ isDig (m.getD 0 0) = false) : readL (Lib.itoa n ++ m) = some (1, n, [], (Lib.itoa n).length) := by
  have hp := itoa_pos n
  unfold readL
  rw [if_neg (by rw [List.length_append]; omega), if_neg (itoa_head n m), numEnd_itoa n m hm, if_pos hp, List.take_left', rn_itoa n h0 h1]
  rfl
theorem hex_digit : ∀ k : Fin 16, hexI (hexD k.val) = (k.val : Int) := by decide +kernel
theorem hexI_hexD (k : Nat) (h : k < 16) : hexI (hexD k) = (k : Int) := hex_digit ⟨k, h⟩
theorem rb_plain (c : UInt8) (l : List UInt8) (h : escB (c.toNat : Int) = false) : rbW (c :: l) = 1 ∧ rbC (c :: l) = c := by
  have hc : ¬ c.toNat = 92 := by
    intro e
    rw [e] at h
    revert h; decide
  have e : rb (c :: l) = ((c.toNat : Int), 1) := by
    unfold rb
    simp only [List.getD_cons_zero]
    rw [if_neg hc, h]; rfl
  refine ⟨by unfold rbW; rw [e]; rfl, ?_⟩
  unfold rbC; rw [e]
  simp
theorem rb_esc (c : UInt8) (l : List UInt8) (h : escB (c.toNat : Int) = true) : rbW (92 :: hexD (c.toNat / 16) :: hexD (c.toNat % 16) :: l) = 3 ∧ rbC (92 :: hexD (c.toNat / 16) :: hexD (c.toNat % 16) :: l) = c := by
  have hc := c.toNat_lt
  have h1 := hexI_hexD (c.toNat / 16) (by omega)
  have h2 := hexI_hexD (c.toNat % 16) (by omega)
  have hv : 16 * hexI (hexD (c.toNat / 16)) + hexI (hexD (c.toNat % 16)) = (c.toNat : Int) := by rw [h1, h2]; omega
  have e : rb (92 :: hexD (c.toNat / 16) :: hexD (c.toNat % 16) :: l) = ((c.toNat : Int), 3) := by
    unfold rb
    simp only [List.getD_cons_zero, List.getD_cons_succ]
    rw [if_pos (by rfl), if_neg (by simp), if_neg (by omega), hv, h]; rfl
  refine ⟨by unfold rbW; rw [e]; rfl, ?_⟩
  unfold rbC; rw [e]
  simp
theorem rs_back (t : List UInt8) : ∀ (f : Nat) (acc rest : List UInt8) (pos : Nat), (qBytes t ++ 39 :: rest).length ≤ f → acc.length + t.length ≤ 8 → rsL f (qBytes t ++ 39 :: rest) acc pos = some (2, 0, acc ++ t, pos + (qBytes t).length + 1) := by
  induction t with
  | nil =>
    intro f acc rest pos hf h8
    cases f with
    | zero => simp [qBytes] at hf
    | succ f => simp [qBytes, rsL]
  | cons c t ih =>
    intro f acc rest pos hf h8
    rw [qBytes_cons, List.append_assoc] at hf ⊢
    have hn8 : ¬ acc.length = 8 := by simp at h8; omega
    cases f with
    | zero => have := (qByte_len c).1; simp at hf
    | succ f =>
      cases he : escB (c.toNat : Int)
      · have hq : qByte c = [c] := by unfold qByte; rw [he]; rfl
        have h39 : ¬ c.toNat = 39 := by intro e; rw [e] at he; revert he; decide
        rw [hq] at hf ⊢
        obtain ⟨w1, w2⟩ := rb_plain c (qBytes t ++ 39 :: rest) he
        simp only [List.cons_append, List.nil_append] at hf ⊢
        rw [rsL, if_neg h39, w1, w2, if_neg (by decide), if_neg hn8]
        simp only [List.drop_one, List.tail_cons]
        rw [ih f (acc ++ [c]) rest (pos + 1) (by simp at hf ⊢; omega) (by simp at h8 ⊢; omega)]
        simp; omega
      · have hq : qByte c = [92, hexD (c.toNat / 16), hexD (c.toNat % 16)] := by unfold qByte; rw [he]; rfl
        rw [hq] at hf ⊢
        obtain ⟨w1, w2⟩ := rb_esc c (qBytes t ++ 39 :: rest) he
        simp only [List.cons_append, List.nil_append] at hf ⊢
        rw [rsL, if_neg (by decide), w1, w2, if_neg (by decide), if_neg hn8]
        simp only [List.drop_succ_cons, List.drop_zero]
        rw [ih f (acc ++ [c]) rest (pos + 3) (by simp at hf ⊢; omega) (by simp at h8 ⊢; omega)]
        simp; omega
theorem read_quoted (t m : List UInt8) (h8 : t.length ≤ 8) : readL (quoteL t ++ m) = some (2, 0, t, (quoteL t).length) := by
  have e : quoteL t ++ m = 39 :: (qBytes t ++ 39 :: m) := by simp [quoteL]
  unfold readL
  rw [e, if_neg (by simp), if_pos (by rfl)]
  rw [List.drop_one, List.tail_cons, rs_back t _ [] m 1 (by simp) (by simpa using h8)]
  simp [quoteL]; omega
end Go.Proofs.YtlmdcaemjaldfaaGreatDoor
namespace Go.Proofs.YtlmdcaemjaldfaaGreatDoor
open Go.RowKit
theorem hide {p : Prop} (h : p) : Hid p := h
theorem unhide {p : Prop} (h : Hid p) : p := h
theorem ret_int {k : IntKind} {a b : Int} (h : a = b) : Ending.returned (.int k a) = .returned (.int k b) := by rw [h]
theorem ret_bool {a b : Bool} (h : a = b) : Ending.returned (.bool a) = .returned (.bool b) := by rw [h]
theorem ret_str {a b : ByteArray} (h : a = b) : Ending.returned (.string a) = .returned (.string b) := by rw [h]
theorem bcell {W w1 : World} (hb : Below W.heap.size W w1) : (∀ b o, b < W.heap.size → w1.cell? ⟨b, o, none⟩ = W.cell? ⟨b, o, none⟩) ∧ (∀ b o, b < W.heap.size → w1.frozen? ⟨b, o, none⟩ = W.frozen? ⟨b, o, none⟩) :=
  ⟨fun b o h => hb.cell (p := ⟨b, o, none⟩) h, fun b o h => hb.frozen (p := ⟨b, o, none⟩) h⟩
theorem heap_top (w : World) (o : Obj) : (w.alloc o).heap[w.heap.size]? = some o := by
  show (w.heap.push o)[w.heap.size]? = some o
  simp
theorem cells_one (l : List UInt8) : ∀ u ∈ Lib.byteCells l, u.oneCell' = true := by
  intro u hu
  simp [Lib.byteCells] at hu
  obtain ⟨b, _, rfl⟩ := hu
  rfl
theorem heap_setCell {w : World} {b i : Nat} {cs : Array Value} {t : TypeId} {fz : Nat × Nat} (v : Value) (h : w.heap[b]? = some (.cells cs t fz)) : (w.setCell ⟨b, i, none⟩ v).heap[b]? = some (.cells (cs.setIfInBounds i v) t fz) := by
  simp [World.setCell, Array.getElem?_modify, h]
theorem cell_heap {w : World} {b : Nat} {cs : Array Value} {t : TypeId} {fz : Nat × Nat} (h : w.heap[b]? = some (.cells cs t fz)) (i : Nat) : w.cell? ⟨b, i, none⟩ = cs[i]? := by simp [World.cell?, h]
theorem frozen_heap {w : World} {b : Nat} {cs : Array Value} {t : TypeId} (h : w.heap[b]? = some (.cells cs t (0, 0))) (i : Nat) : w.frozen? ⟨b, i, none⟩ = false := by simp [World.frozen?, h]
theorem lt_heap {w : World} {b : Nat} {o : Obj} (h : w.heap[b]? = some o) : b < w.heap.size := by
  rcases Nat.lt_or_ge b w.heap.size with h' | h'
  · exact h'
  · rw [Array.getElem?_eq_none h'] at h
    cases h
theorem heap_new (w : World) (o : Obj) : (w.alloc o).heap[w.heap.size]? = some o := by
  show (w.heap.push o)[w.heap.size]? = some o
  simp
theorem below_alloc {w w1 : World} {o : Obj} (hb : Below (w.alloc o).heap.size (w.alloc o) w1) : Below w.heap.size w w1 :=
  ((Below.refl _ _).alloc (Nat.le_refl _) o).trans (hb.mono (by simp))
theorem below_one {w w1 : World} {o : Obj} (hb : Below (w.heap.size + 1) (w.alloc o) w1) : Below w.heap.size w w1 :=
  ((Below.refl _ _).alloc (Nat.le_refl _) o).trans (hb.mono (by omega))
theorem below_undrew {w w1 : World} (h : Below w.drew.heap.size w.drew w1) : Below w.heap.size w w1 := ⟨h.os, h.tape, h.output, h.size, h.block⟩
theorem mk_append (a b : List UInt8) : (⟨a.toArray⟩ : ByteArray) ++ (⟨b.toArray⟩ : ByteArray) = ⟨(a ++ b).toArray⟩ := by
  have h : ((⟨a.toArray⟩ : ByteArray) ++ (⟨b.toArray⟩ : ByteArray)).data = (a ++ b).toArray := by
    rw [ByteArray.data_append]; simp
  cases e : (⟨a.toArray⟩ : ByteArray) ++ (⟨b.toArray⟩ : ByteArray) with
  | mk d => rw [e] at h; rw [← h]
theorem mixed : Tryz.prog.follows .mixedOrders = true := by kernel_rfl
end Go.Proofs.YtlmdcaemjaldfaaGreatDoor
namespace Go.Proofs.YtlmdcaemjaldfaaGreatDoor
abbrev Rg := Int × Int
def memR (l : List Rg) (n : Int) : Prop := ∃ r ∈ l, r.1 ≤ n ∧ n ≤ r.2
theorem memR_nil (n : Int) : ¬ memR [] n := fun ⟨_, h, _⟩ => by simp at h
theorem memR_cons (r : Rg) (l : List Rg) (n : Int) : memR (r :: l) n ↔ (r.1 ≤ n ∧ n ≤ r.2) ∨ memR l n := by
  constructor
  · rintro ⟨x, hx, h⟩
    rcases List.mem_cons.1 hx with rfl | hx
    · exact Or.inl h
    · exact Or.inr ⟨x, hx, h⟩
  · rintro (h | ⟨x, hx, h⟩)
    · exact ⟨r, by simp, h⟩
    · exact ⟨x, by simp [hx], h⟩
def rightFrom (b : Int) : List Rg → Prop
  | [] => True
  | r :: l => b < r.1 ∧ r.1 ≤ r.2 ∧ rightFrom (r.2 + 1) l
def rightR : List Rg → Prop
  | [] => True
  | r :: l => r.1 ≤ r.2 ∧ rightFrom (r.2 + 1) l
theorem rightFrom_right {b : Int} {l : List Rg} (h : rightFrom b l) : rightR l := by
  cases l with
  | nil => trivial
  | cons r l => exact ⟨h.2.1, h.2.2⟩
theorem rightFrom_mono {b c : Int} {l : List Rg} (h : rightFrom b l) (hc : c ≤ b) : rightFrom c l := by
  cases l with
  | nil => trivial
  | cons r l => exact ⟨by have := h.1; omega, h.2.1, h.2.2⟩
theorem rightFrom_lt {b : Int} : ∀ {l : List Rg}, rightFrom b l → ∀ n, memR l n → b < n
  | [], _, n, h => absurd h (memR_nil n)
  | r :: l, ⟨h1, h2, h3⟩, n, h => by
    rcases (memR_cons r l n).1 h with h | h
    · omega
    · have := rightFrom_lt h3 n h; omega
theorem rightR_from {r : Rg} {l : List Rg} (h : rightR (r :: l)) : rightFrom (r.1 - 1) (r :: l) := ⟨by omega, h.1, h.2⟩
theorem rightFrom_ext : ∀ (a b : List Rg) (c : Int), rightFrom c a → rightFrom c b → (∀ n, memR a n ↔ memR b n) → a = b
  | [], [], _, _, _, _ => rfl
  | [], s :: m, _, _, hb, h => absurd ((h s.1).2 ⟨s, by simp, Int.le_refl _, hb.2.1⟩) (memR_nil _)
  | r :: l, [], _, ha, _, h => absurd ((h r.1).1 ⟨r, by simp, Int.le_refl _, ha.2.1⟩) (memR_nil _)
  | r :: l, s :: m, c, ⟨a1, a2, a3⟩, ⟨b1, b2, b3⟩, h => by
    have hA := fun n => rightFrom_lt a3 n
    have hB := fun n => rightFrom_lt b3 n
    have e1 : r.1 = s.1 := by
      have x := (h r.1).1 ⟨r, by simp, Int.le_refl _, a2⟩
      have y := (h s.1).2 ⟨s, by simp, Int.le_refl _, b2⟩
      rcases (memR_cons s m _).1 x with x | x <;> rcases (memR_cons r l _).1 y with y | y
      · omega
      · have := hA _ y; omega
      · have := hB _ x; omega
      · have := hA _ y; have := hB _ x; omega
    have e2 : r.2 = s.2 := by
      rcases Int.lt_trichotomy r.2 s.2 with hlt | hlt | hlt
      · have y := (h (r.2 + 1)).2 ⟨s, by simp, by omega, by omega⟩
        rcases (memR_cons r l _).1 y with y | y
        · omega
        · have := hA _ y; omega
      · exact hlt
      · have x := (h (s.2 + 1)).1 ⟨r, by simp, by omega, by omega⟩
        rcases (memR_cons s m _).1 x with x | x
        · omega
        · have := hB _ x; omega
    have e : r = s := Prod.ext e1 e2
    subst e
    have := rightFrom_ext l m (r.2 + 1) a3 b3 (fun n => by
      constructor
      · intro hn
        have hx := hA n hn
        rcases (memR_cons r m n).1 ((h n).1 ((memR_cons r l n).2 (Or.inr hn))) with x | x
        · omega
        · exact x
      · intro hn
        have hx := hB n hn
        rcases (memR_cons r l n).1 ((h n).2 ((memR_cons r m n).2 (Or.inr hn))) with x | x
        · omega
        · exact x)
    rw [this]
theorem rightR_ext (a b : List Rg) (ha : rightR a) (hb : rightR b) (h : ∀ n, memR a n ↔ memR b n) : a = b := by
  cases a with
  | nil =>
    cases b with
    | nil => rfl
    | cons s m => exact absurd ((h s.1).2 ⟨s, by simp, Int.le_refl _, hb.1⟩) (memR_nil _)
  | cons r l =>
    cases b with
    | nil => exact absurd ((h r.1).1 ⟨r, by simp, Int.le_refl _, ha.1⟩) (memR_nil _)
    | cons s m =>
      refine rightFrom_ext _ _ (min (r.1 - 1) (s.1 - 1)) (rightFrom_mono (rightR_from ha) (by omega)) (rightFrom_mono (rightR_from hb) (by omega)) h
def inI64 (l : List Rg) : Prop := ∀ r ∈ l, -9223372036854775808 ≤ r.1 ∧ r.1 ≤ 9223372036854775807 ∧ -9223372036854775808 ≤ r.2 ∧ r.2 ≤ 9223372036854775807
theorem memR_in {l : List Rg} (h : inI64 l) {n : Int} (hn : memR l n) : -9223372036854775808 ≤ n ∧ n ≤ 9223372036854775807 := by
  obtain ⟨r, hr, h1, h2⟩ := hn
  have := h r hr
  omega
theorem rightR_ext64 (a b : List Rg) (ha : rightR a) (hb : rightR b) (ia : inI64 a) (ib : inI64 b) (h : ∀ n, -9223372036854775808 ≤ n → n ≤ 9223372036854775807 → (memR a n ↔ memR b n)) : a = b :=
  rightR_ext a b ha hb fun n => ⟨fun hn => (h n (memR_in ia hn).1 (memR_in ia hn).2).1 hn, fun hn => (h n (memR_in ib hn).1 (memR_in ib hn).2).2 hn⟩
abbrev St := List UInt8
theorem lessB_irrefl : ∀ a : St, Op.bytesLess a a = false
  | [] => by simp [Op.bytesLess]
  | x :: a => by simp [Op.bytesLess]; exact lessB_irrefl a
theorem lessB_trans : ∀ a b c : St, Op.bytesLess a b = true → Op.bytesLess b c = true → Op.bytesLess a c = true
  | _, _, [], _, h => by cases ‹St› <;> simp [Op.bytesLess] at h
  | [], _, _ :: _, _, _ => by simp [Op.bytesLess]
  | _ :: _, [], _ :: _, h, _ => by simp [Op.bytesLess] at h
  | x :: a, y :: b, z :: c, h, k => by
    simp [Op.bytesLess] at h k ⊢
    rcases h with h | ⟨rfl, h⟩ <;> rcases k with k | ⟨rfl, k⟩
    · left; rw [UInt8.lt_iff_toNat_lt] at *; omega
    · exact Or.inl h
    · exact Or.inl k
    · exact Or.inr ⟨rfl, lessB_trans a b c h k⟩
def risesS : List St → Prop
  | [] => True
  | a :: l => (∀ b ∈ l, Op.bytesLess a b = true) ∧ risesS l
theorem risesS_ext : ∀ a b : List St, risesS a → risesS b → (∀ s, s ∈ a ↔ s ∈ b) → a = b
  | [], [], _, _, _ => rfl
  | [], y :: m, _, _, h => by have := (h y).2 (by simp); simp at this
  | x :: l, [], _, _, h => by have := (h x).1 (by simp); simp at this
  | x :: l, y :: m, ⟨a1, a2⟩, ⟨b1, b2⟩, h => by
    have e : x = y := by
      rcases List.mem_cons.1 ((h x).1 (by simp)) with e | hx
      · exact e
      rcases List.mem_cons.1 ((h y).2 (by simp)) with e | hy
      · exact e.symm
      have h1 := b1 x hx
      have h2 := a1 y hy
      have := lessB_trans _ _ _ h1 h2
      rw [lessB_irrefl] at this
      exact absurd this (by simp)
    subst e
    have : l = m := risesS_ext l m a2 b2 (fun s => by
      constructor
      · intro hs
        rcases List.mem_cons.1 ((h s).1 (by simp [hs])) with e | hm
        · subst e
          have := a1 _ hs
          rw [lessB_irrefl] at this
          exact absurd this (by simp)
        · exact hm
      · intro hs
        rcases List.mem_cons.1 ((h s).2 (by simp [hs])) with e | hm
        · subst e
          have := b1 _ hs
          rw [lessB_irrefl] at this
          exact absurd this (by simp)
        · exact hm)
    rw [this]
def dropS (s : St) : List St → List St
  | [] => []
  | t :: l => if t = s then l else t :: dropS s l
theorem dropS_len (s : St) : ∀ l : List St, s ∈ l → (dropS s l).length + 1 = l.length
  | [], h => by simp at h
  | t :: l, h => by
    unfold dropS
    by_cases e : t = s
    · rw [if_pos e]; simp
    · rw [if_neg e]
      rcases List.mem_cons.1 h with h | h
      · exact absurd h.symm e
      · have := dropS_len s l h
        simp; omega
theorem dropS_mem (s x : St) (hne : x ≠ s) : ∀ l : List St, x ∈ l → x ∈ dropS s l
  | [], h => h
  | t :: l, h => by
    unfold dropS
    by_cases e : t = s
    · rw [if_pos e]
      rcases List.mem_cons.1 h with h | h
      · exact absurd (h.trans e) hne
      · exact h
    · rw [if_neg e]
      rcases List.mem_cons.1 h with h | h
      · rw [h]; simp
      · exact List.mem_cons.2 (Or.inr (dropS_mem s x hne l h))
theorem holes (f : Nat → St) (hf : ∀ i j, f i = f j → i = j) : ∀ (n : Nat) (l : List St), (∀ i, i < n → f i ∈ l) → n ≤ l.length
  | 0, l, _ => Nat.zero_le _
  | n + 1, l, h => by
    have h1 := holes f hf n (dropS (f n) l) (fun i hi => dropS_mem _ _ (fun e => by have := hf _ _ e; omega) l (h i (by omega)))
    have h2 := dropS_len (f n) l (h n (by omega))
    omega
theorem fresh_out (f : Nat → St) (hf : ∀ i j, f i = f j → i = j) (l : List St) (n : Nat) (hn : l.length < n) : ∃ i, i < n ∧ f i ∉ l := by
  refine Classical.byContradiction fun hno => ?_
  have := holes f hf n l (fun i hi => Classical.byContradiction fun h => hno ⟨i, hi, h⟩)
  omega
end Go.Proofs.YtlmdcaemjaldfaaGreatDoor
namespace Go.Proofs.YtlmdcaemjaldfaaGreatDoor
open Go.RowKit
attribute [local go_sem ↓] Go.wp_at_zero Go.wp_at_succ
def rightB (k n : Int) (s : ByteArray) : Bool :=
  if k = 0 then n == 0 && s.toList.isEmpty else if k = 1 then s.toList.isEmpty else if k = 2 then n == 0 && decide ((s.size : Int) ≤ 8) else false
theorem one_dig (u : Nat) (h : u < 10) : 48 + (u : Int) = ((UInt8.ofNat (48 + u)).toNat : Int) := by
  rw [UInt8.toNat_ofNat']; omega
theorem last_dig (u : Nat) (h : u < 18446744073709551616) : IntKind.u8.wrap (IntKind.u64.wrap (48 + (u : Int).tmod 10)) = ((UInt8.ofNat (48 + u % 10)).toNat : Int) := by
  rw [UInt8.toNat_ofNat', IntKind.wrap_u64, IntKind.wrap_u8, Int.tmod_eq_emod_of_nonneg (by omega)]; omega
theorem dec_short (u : Nat) (h : u < 18446744073709551616) : (Lib.decDigits u).length ≤ 20 := by
  rw [Lib.decDigits_length]
  by_cases h0 : u = 0
  · subst h0; rw [Lib.nDigits_small (by omega)]; omega
  · have := Lib.numDigits_eq u (by omega) h
    split at this <;> omega
end Go.Proofs.YtlmdcaemjaldfaaGreatDoor
namespace Go.Proofs.YtlmdcaemjaldfaaGreatDoor
open Go.Deep Go.ChangeShapes Go.WideShapes Go.ChangeAt Go.WideMaps Go.WideElems Go.RowKit Go.Joins
def capOf (a : Option Addr) (n sp : Nat) : Nat := match a with
  | none => 0
  | some _ => n + sp
theorem capOf_of {a : Option Addr} {n c : Nat} (h : n ≤ c) (hn : a = none → c = 0) : ∃ sp, c = capOf a n sp := by
  cases a with
  | none => exact ⟨0, hn rfl⟩
  | some a => exact ⟨c - n, by show c = n + (c - n); omega⟩
theorem capOf_some {a : Option Addr} {n sp : Nat} (h : ∃ b, a = some b) : n ≤ capOf a n sp := by
  obtain ⟨b, rfl⟩ := h
  show n ≤ n + sp
  omega
def RngsAt (w : World) (v : Value) (l : List Rg) : Prop :=
  inI64 l ∧ l.length ≤ 9223372036854775807 ∧ ∃ (a : Option Addr) (cap : Nat), v = .slice a l.length (capOf a l.length cap) ∧ ∀ i, i < l.length → ∃ (b off : Nat), a = some ⟨b, off, none⟩ ∧ b < w.heap.size ∧
    w.cell? ⟨b, off + i * 2, none⟩ = some (.int .i64 (l.getD i (0, 0)).1) ∧ w.cell? ⟨b, off + i * 2 + 1, none⟩ = some (.int .i64 (l.getD i (0, 0)).2)
def StrsAt (w : World) (v : Value) (l : List ByteArray) : Prop :=
  (∀ s ∈ l, s.size ≤ 9223372036854775807) ∧ l.length ≤ 9223372036854775807 ∧ ∃ (a : Option Addr) (cap : Nat), v = .slice a l.length (capOf a l.length cap) ∧ ∀ i, i < l.length → ∃ (b off : Nat), a = some ⟨b, off, none⟩ ∧ b < w.heap.size ∧
    w.cell? ⟨b, off + i, none⟩ = some (.string (l.getD i ⟨#[]⟩))
structure SetV where
  absent : Bool
  ints : List Rg
  co : Bool
  strs : List ByteArray
def SetAt (w : World) (v : Value) (S : SetV) : Prop := ∃ vi vs, v = .agg #[.bool S.absent, vi, .bool S.co, vs] ∧ RngsAt w vi S.ints ∧ StrsAt w vs S.strs
theorem RngsAt.on {w w' : World} {v : Value} {l : List Rg} (h : RngsAt w v l) (hb : Below w.heap.size w w') : RngsAt w' v l := by
  obtain ⟨h1, h2, a, cap, hv, h⟩ := h
  refine ⟨h1, h2, a, cap, hv, fun i hi => ?_⟩
  obtain ⟨b, off, ha, hlt, c0, c1⟩ := h i hi
  exact ⟨b, off, ha, Nat.lt_of_lt_of_le hlt hb.size, (hb.cell (p := ⟨b, _, none⟩) hlt).trans c0, (hb.cell (p := ⟨b, _, none⟩) hlt).trans c1⟩
theorem StrsAt.on {w w' : World} {v : Value} {l : List ByteArray} (h : StrsAt w v l) (hb : Below w.heap.size w w') : StrsAt w' v l := by
  obtain ⟨h1, h2, a, cap, hv, h⟩ := h
  refine ⟨h1, h2, a, cap, hv, fun i hi => ?_⟩
  obtain ⟨b, off, ha, hlt, c0⟩ := h i hi
  exact ⟨b, off, ha, Nat.lt_of_lt_of_le hlt hb.size, (hb.cell (p := ⟨b, _, none⟩) hlt).trans c0⟩
theorem SetAt.on {w w' : World} {v : Value} {S : SetV} (h : SetAt w v S) (hb : Below w.heap.size w w') : SetAt w' v S := by
  obtain ⟨vi, vs, hv, h1, h2⟩ := h
  exact ⟨vi, vs, hv, h1.on hb, h2.on hb⟩
theorem RngsAt.bound {w : World} {v : Value} {l : List Rg} (h : RngsAt w v l) (i : Nat) (hi : i < l.length) : -9223372036854775808 ≤ (l.getD i (0, 0)).1 ∧ (l.getD i (0, 0)).1 ≤ 9223372036854775807 ∧ -9223372036854775808 ≤ (l.getD i (0, 0)).2 ∧ (l.getD i (0, 0)).2 ≤ 9223372036854775807 := by
  refine h.1 _ ?_
  rw [List.getD_eq_getElem?_getD, List.getElem?_eq_getElem hi]
  exact List.getElem_mem _
theorem StrsAt.bound {w : World} {v : Value} {l : List ByteArray} (h : StrsAt w v l) (i : Nat) (hi : i < l.length) : (l.getD i ⟨#[]⟩).size ≤ 9223372036854775807 := by
  refine h.1 _ ?_
  rw [List.getD_eq_getElem?_getD, List.getElem?_eq_getElem hi]
  exact List.getElem_mem _
theorem RngsAt.at {w : World} {a : Option Addr} {n cap : Nat} {l : List Rg} (h : RngsAt w (.slice a n cap) l) : n = l.length ∧ ∀ i, i < l.length → ∃ (b off : Nat), a = some ⟨b, off, none⟩ ∧ b < w.heap.size ∧
    w.cell? ⟨b, off + i * 2, none⟩ = some (.int .i64 (l.getD i (0, 0)).1) ∧ w.cell? ⟨b, off + i * 2 + 1, none⟩ = some (.int .i64 (l.getD i (0, 0)).2) := by
  obtain ⟨h1, h2, a', cap', hv, h⟩ := h
  injection hv with e1 e2 e3
  subst e1 e2
  exact ⟨rfl, h⟩
theorem StrsAt.at {w : World} {a : Option Addr} {n cap : Nat} {l : List ByteArray} (h : StrsAt w (.slice a n cap) l) : n = l.length ∧ ∀ i, i < l.length → ∃ (b off : Nat), a = some ⟨b, off, none⟩ ∧ b < w.heap.size ∧
    w.cell? ⟨b, off + i, none⟩ = some (.string (l.getD i ⟨#[]⟩)) := by
  obtain ⟨h1, h2, a', cap', hv, h⟩ := h
  injection hv with e1 e2 e3
  subst e1 e2
  exact ⟨rfl, h⟩
theorem RngsAt.form {w : World} {v : Value} {l : List Rg} (h : RngsAt w v l) : ∃ a cap, v = .slice a l.length cap := by
  obtain ⟨_, _, a, cap, hv, _⟩ := h
  exact ⟨a, _, hv⟩
theorem RngsAt.room {w : World} {a : Option Addr} {n cap : Nat} {l : List Rg} (h : RngsAt w (.slice a n cap) l) : n ≤ cap ∧ (a = none → n = 0 ∧ cap = 0) := by
  obtain ⟨_, _, a', sp, hv, he⟩ := h
  injection hv with e1 e2 e3
  subst e1 e2 e3
  cases a with
  | none =>
    have h0 : l.length = 0 := Classical.byContradiction fun hne => by
      obtain ⟨b, off, e, _⟩ := he 0 (by omega)
      cases e
    exact ⟨by rw [h0]; exact Nat.zero_le _, fun _ => ⟨h0, rfl⟩⟩
  | some a => exact ⟨capOf_some ⟨a, rfl⟩, fun e => by cases e⟩
theorem StrsAt.form {w : World} {v : Value} {l : List ByteArray} (h : StrsAt w v l) : ∃ a cap, v = .slice a l.length cap := by
  obtain ⟨_, _, a, cap, hv, _⟩ := h
  exact ⟨a, _, hv⟩
theorem StrsAt.room {w : World} {a : Option Addr} {n cap : Nat} {l : List ByteArray} (h : StrsAt w (.slice a n cap) l) : n ≤ cap ∧ (a = none → n = 0 ∧ cap = 0) := by
  obtain ⟨_, _, a', sp, hv, he⟩ := h
  injection hv with e1 e2 e3
  subst e1 e2 e3
  cases a with
  | none =>
    have h0 : l.length = 0 := Classical.byContradiction fun hne => by
      obtain ⟨b, off, e, _⟩ := he 0 (by omega)
      cases e
    exact ⟨by rw [h0]; exact Nat.zero_le _, fun _ => ⟨h0, rfl⟩⟩
  | some a => exact ⟨capOf_some ⟨a, rfl⟩, fun e => by cases e⟩
theorem lt_cell {w : World} {a : Addr} {v : Value} (h : w.cell? a = some v) : a.block < w.heap.size := by
  rcases Nat.lt_or_ge a.block w.heap.size with h' | h'
  · exact h'
  · exfalso
    simp [World.cell?, Array.getElem?_eq_none h'] at h
theorem cellsI : Tryz.prog.cellsOf 3 = 1 := by kernel_rfl
theorem cellsS : Tryz.prog.cellsOf 9 = 1 := by kernel_rfl
section
variable {H : Type} {enc : TypeId × Value → H} {W : World}
end
end Go.Proofs.YtlmdcaemjaldfaaGreatDoor
namespace Go.Proofs.YtlmdcaemjaldfaaGreatDoor
open Go.RowKit
theorem drop_getD {α : Type} (l : List α) (k : Nat) (d : α) (h : k < l.length) : l.drop k = l.getD k d :: l.drop (k + 1) := by
  rw [List.drop_eq_getElem_cons h, List.getD_eq_getElem?_getD, List.getElem?_eq_getElem h]; rfl
def inIntsB (l : List Rg) (n : Int) : Bool := l.any fun r => decide (r.1 ≤ n) && decide (n ≤ r.2)
def inStrsB (l : List ByteArray) (s : ByteArray) : Bool := l.any fun t => t.toList == s.toList
def hasB (S : SetV) (k n : Int) (s : ByteArray) : Bool := rightB k n s && (if k = 0 then S.absent else if k = 1 then inIntsB S.ints n else (inStrsB S.strs s != S.co))
theorem two_new {w w1 : World} {o1 o2 : Obj} (h : Below ((w.alloc o1).alloc o2).heap.size ((w.alloc o1).alloc o2) w1) : w1.heap[w.heap.size]? = some o1 ∧ w1.heap[w.heap.size + 1]? = some o2 ∧ Below w.heap.size w w1 := by
  have s1 : (w.alloc o1).heap.size = w.heap.size + 1 := by show (w.heap.push _).size = _; simp
  have s2 : ((w.alloc o1).alloc o2).heap.size = w.heap.size + 2 := by show ((w.alloc o1).heap.push _).size = _; rw [Array.size_push, s1]
  refine ⟨?_, ?_, below_alloc (below_alloc h)⟩
  · rw [h.block _ (by omega)]
    show ((w.heap.push o1).push o2)[w.heap.size]? = _
    rw [Array.getElem?_push, if_neg (by simp), Array.getElem?_push, if_pos rfl]
  · rw [h.block _ (by omega)]
    show ((w.heap.push o1).push o2)[w.heap.size + 1]? = _
    rw [Array.getElem?_push, if_pos (by simp)]
theorem SetAt.form {w : World} {v : Value} {S : SetV} (h : SetAt w v S) : ∃ vi vs, v = .agg #[.bool S.absent, vi, .bool S.co, vs] ∧ RngsAt w vi S.ints ∧ StrsAt w vs S.strs := h
end Go.Proofs.YtlmdcaemjaldfaaGreatDoor
namespace Go.Proofs.YtlmdcaemjaldfaaGreatDoor
open Go.RowKit
def rgB : Option Int → List Rg → Bool
  | _, [] => true
  | none, r :: l => decide (r.1 ≤ r.2) && rgB (some r.2) l
  | some h, r :: l => decide (r.1 ≤ r.2) && (decide (h + 1 < r.1) && rgB (some r.2) l)
def stB : Option ByteArray → List ByteArray → Bool
  | _, [] => true
  | none, s :: l => decide (s.size ≤ 8) && stB (some s) l
  | some p, s :: l => decide (s.size ≤ 8) && (Op.bytesLess p.toList s.toList && stB (some s) l)
def rightSet (S : SetV) : Bool := rgB none S.ints && stB none S.strs
def prevR (l : List Rg) (k : Nat) : Option Int := if k = 0 then none else some (l.getD (k - 1) (0, 0)).2
def prevS (l : List ByteArray) (k : Nat) : Option ByteArray := if k = 0 then none else some (l.getD (k - 1) ⟨#[]⟩)
theorem below_drewN {w w1 : World} (h : Below w.heap.size w w1) (n : Nat) : Below w.heap.size w (w1.drewN n) := ⟨h.os, h.tape, h.output, h.size, h.block⟩
end Go.Proofs.YtlmdcaemjaldfaaGreatDoor
namespace Go.Proofs.YtlmdcaemjaldfaaGreatDoor
open Go.RowKit
def rngEqB : List Rg → List Rg → Bool
  | [], [] => true
  | r :: l, s :: m => ((r.1 == s.1) && (r.2 == s.2)) && rngEqB l m
  | _, _ => false
def strEqB : List ByteArray → List ByteArray → Bool
  | [], [] => true
  | r :: l, s :: m => (r.toList == s.toList) && strEqB l m
  | _, _ => false
theorem rngEqB_iff : ∀ a b : List Rg, rngEqB a b = true ↔ a = b
  | [], [] => by simp [rngEqB]
  | [], _ :: _ => by simp [rngEqB]
  | _ :: _, [] => by simp [rngEqB]
  | r :: l, s :: m => by
    simp only [rngEqB, Bool.and_eq_true, beq_iff_eq, rngEqB_iff l m, List.cons.injEq]
    constructor
    · rintro ⟨⟨h1, h2⟩, h3⟩; exact ⟨Prod.ext h1 h2, h3⟩
    · rintro ⟨rfl, h⟩; exact ⟨⟨rfl, rfl⟩, h⟩
theorem bytes_eq {a b : ByteArray} : (a.toList == b.toList) = true ↔ a = b := by
  rw [beq_iff_eq, ByteArray.toList_eq, ByteArray.toList_eq]
  constructor
  · intro h; apply ByteArray.ext; exact Array.toList_inj.1 h
  · rintro rfl; rfl
theorem strEqB_iff : ∀ a b : List ByteArray, strEqB a b = true ↔ a = b
  | [], [] => by simp [strEqB]
  | [], _ :: _ => by simp [strEqB]
  | _ :: _, [] => by simp [strEqB]
  | r :: l, s :: m => by simp only [strEqB, Bool.and_eq_true, bytes_eq, strEqB_iff l m, List.cons.injEq]
theorem rngEqB_len : ∀ a b : List Rg, a.length ≠ b.length → rngEqB a b = false := fun a b h => by
  cases e : rngEqB a b
  · rfl
  · exact absurd (congrArg List.length ((rngEqB_iff a b).1 e)) h
theorem strEqB_len : ∀ a b : List ByteArray, a.length ≠ b.length → strEqB a b = false := fun a b h => by
  cases e : strEqB a b
  · rfl
  · exact absurd (congrArg List.length ((strEqB_iff a b).1 e)) h
def sameB (A B : SetV) : Bool := ((A.absent == B.absent) && (A.co == B.co)) && (rngEqB A.ints B.ints && strEqB A.strs B.strs)
theorem sameB_iff (A B : SetV) : sameB A B = true ↔ A = B := by
  obtain ⟨a1, a2, a3, a4⟩ := A
  obtain ⟨b1, b2, b3, b4⟩ := B
  simp only [sameB, Bool.and_eq_true, beq_iff_eq, rngEqB_iff, strEqB_iff, SetV.mk.injEq]
  constructor
  · rintro ⟨⟨h1, h2⟩, h3, h4⟩; exact ⟨h1, h3, h2, h4⟩
  · rintro ⟨h1, h2, h3, h4⟩; exact ⟨⟨h1, h3⟩, h2, h4⟩
theorem two_boxes (w : World) (o1 o2 : Obj) : ((w.alloc o1).alloc o2).heap[w.heap.size]? = some o1 ∧ ((w.alloc o1).alloc o2).heap[w.heap.size + 1]? = some o2 ∧ Below w.heap.size w ((w.alloc o1).alloc o2) := two_new (Below.refl _ _)
end Go.Proofs.YtlmdcaemjaldfaaGreatDoor
namespace Go.Proofs.YtlmdcaemjaldfaaGreatDoor
open Go.RowKit
def noSet : SetV := ⟨false, [], false, []⟩
def SetsAt (w : World) (v : Value) (l : List SetV) : Prop :=
  l.length ≤ 9223372036854775807 ∧ ∃ (a : Option Addr) (cap : Nat), v = .slice a l.length cap ∧ ∀ i, i < l.length → ∃ (b off : Nat) (vi vs : Value), a = some ⟨b, off, none⟩ ∧ b < w.heap.size ∧
    w.cell? ⟨b, off + i * 4, none⟩ = some (.bool (l.getD i noSet).absent) ∧ w.cell? ⟨b, off + i * 4 + 1, none⟩ = some vi ∧ w.cell? ⟨b, off + i * 4 + 2, none⟩ = some (.bool (l.getD i noSet).co) ∧ w.cell? ⟨b, off + i * 4 + 3, none⟩ = some vs ∧
    RngsAt w vi (l.getD i noSet).ints ∧ StrsAt w vs (l.getD i noSet).strs
theorem SetsAt.on {w w' : World} {v : Value} {l : List SetV} (h : SetsAt w v l) (hb : Below w.heap.size w w') : SetsAt w' v l := by
  obtain ⟨h2, a, cap, hv, h⟩ := h
  refine ⟨h2, a, cap, hv, fun i hi => ?_⟩
  obtain ⟨b, off, vi, vs, ha, hlt, c0, c1, c2, c3, h1, h2⟩ := h i hi
  exact ⟨b, off, vi, vs, ha, Nat.lt_of_lt_of_le hlt hb.size, (hb.cell (p := ⟨b, _, none⟩) hlt).trans c0, (hb.cell (p := ⟨b, _, none⟩) hlt).trans c1, (hb.cell (p := ⟨b, _, none⟩) hlt).trans c2, (hb.cell (p := ⟨b, _, none⟩) hlt).trans c3, h1.on hb, h2.on hb⟩
theorem SetsAt.at {w : World} {a : Option Addr} {n cap : Nat} {l : List SetV} (h : SetsAt w (.slice a n cap) l) : n = l.length ∧ ∀ i, i < l.length → ∃ (b off : Nat) (vi vs : Value), a = some ⟨b, off, none⟩ ∧ b < w.heap.size ∧
    w.cell? ⟨b, off + i * 4, none⟩ = some (.bool (l.getD i noSet).absent) ∧ w.cell? ⟨b, off + i * 4 + 1, none⟩ = some vi ∧ w.cell? ⟨b, off + i * 4 + 2, none⟩ = some (.bool (l.getD i noSet).co) ∧ w.cell? ⟨b, off + i * 4 + 3, none⟩ = some vs ∧
    RngsAt w vi (l.getD i noSet).ints ∧ StrsAt w vs (l.getD i noSet).strs := by
  obtain ⟨h2, a', cap', hv, h⟩ := h
  injection hv with e1 e2 e3
  subst e1 e2
  exact ⟨rfl, h⟩
end Go.Proofs.YtlmdcaemjaldfaaGreatDoor
namespace Go.Proofs.YtlmdcaemjaldfaaGreatDoor
open Go.RowKit
def tryS (s : ByteArray) (n : Nat) : ByteArray := s ++ ⟨(Lib.itoa (n : Int)).toArray⟩
end Go.Proofs.YtlmdcaemjaldfaaGreatDoor
namespace Go.Proofs.YtlmdcaemjaldfaaGreatDoor
open Go.RowKit
abbrev Va := Int × Int × ByteArray
def vaCells (l : List Va) : List Value := l.flatMap fun v => [.int .i64 v.1, .int .i64 v.2.1, .string v.2.2]
def OwnV (w : World) (B : Nat) (v : Value) (l : List Va) : Prop := w.ownsRow B 40 3 v l.length (vaCells l)
theorem OwnV.alloc {w : World} {B : Nat} {v : Value} {l : List Va} (h : OwnV w B v l) (o : Obj) : OwnV (w.alloc o) B v l := World.ownsRow.alloc h o
theorem OwnV.grownB {w w' : World} {B : Nat} {v : Value} {l : List Va} (h : OwnV w B v l) (hB : B ≤ w.heap.size) (hg : w.grownBy w' v.ownBlock) : Below B w w' :=
  (Below.refl _ _).grown hg hB (fun k hk => (World.ownsRow.lt h k hk).1)
theorem OwnV.on {w w' : World} {B : Nat} {v : Value} {l : List Va} (h : OwnV w B v l) (hb : Below w.heap.size w w') : OwnV w' B v l :=
  World.ownsRow.kept (row := none) h ⟨hb.os, hb.tape, hb.output, hb.size, fun k hk _ => hb.block k hk⟩ (by cases v.ownBlock <;> simp)
structure InR (w0 w : World) (R : Nat) (r : Rg) (o : Value) (l : List Va) : Prop where
  own : OwnV w w0.heap.size o l
  ne : o.ownBlock ≠ some R
  rb : w.heap[R]? = some (.cells #[.int .i64 r.1, .int .i64 r.2] 96 (0, 0))
  below : Below w0.heap.size w0 w
theorem InR.alloc {w0 w : World} {R : Nat} {r : Rg} {o : Value} {l : List Va} (h : InR w0 w R r o l) (x : Obj) : InR w0 (w.alloc x) R r o l :=
  ⟨h.own.alloc x, h.ne, (((Below.refl _ w).alloc (Nat.le_refl _) x).block R (lt_heap h.rb)).trans h.rb, h.below.alloc h.below.size x⟩
theorem InR.cells {w0 w : World} {R : Nat} {r : Rg} {o : Value} {l : List Va} (h : InR w0 w R r o l) : w.cell? ⟨R, 0, none⟩ = some (.int .i64 r.1) ∧ w.cell? ⟨R, 1, none⟩ = some (.int .i64 r.2) := ⟨cell_heap h.rb 0, cell_heap h.rb 1⟩
theorem InR.start {w0 w : World} {r : Rg} {o : Value} {l : List Va} (h : OwnV w w0.heap.size o l) (hb : Below w0.heap.size w0 w) : InR w0 (w.alloc (.cells #[.int .i64 r.1, .int .i64 r.2] 96)) w.heap.size r o l :=
  ⟨h.alloc _, fun e => by have := (World.ownsRow.lt h _ e).2; omega, heap_top _ _, hb.alloc hb.size _⟩
def noS : ByteArray := ⟨#[]⟩
end Go.Proofs.YtlmdcaemjaldfaaGreatDoor
namespace Go.Proofs.YtlmdcaemjaldfaaGreatDoor
open Go.RowKit
theorem two_bx (w : World) (o1 o2 : Obj) : ((w.alloc o1).alloc o2).heap[w.heap.size]? = some o1 ∧ ((w.alloc o1).alloc o2).heap[w.heap.size + 1]? = some o2 ∧ Below w.heap.size w ((w.alloc o1).alloc o2) := two_new (Below.refl _ _)
def noVa : Va := (0, 0, noS)
theorem OwnV.form {w : World} {B : Nat} {v : Value} {l : List Va} (h : OwnV w B v l) (hne : 0 < l.length) : ∃ g cap, v = .slice (some ⟨g, 0, none⟩) l.length cap ∧ B ≤ g ∧ g < w.heap.size := by
  rcases h.2 with ⟨_, h⟩ | ⟨g, cap, cur, h1, h2, h3, _⟩
  · omega
  · exact ⟨g, cap, h1, h2, lt_heap h3⟩
theorem vaCells_at : ∀ (l : List Va) (i : Nat), i < l.length → (vaCells l)[i * 3]? = some (.int .i64 (l.getD i noVa).1) ∧ (vaCells l)[i * 3 + 1]? = some (.int .i64 (l.getD i noVa).2.1) ∧ (vaCells l)[i * 3 + 2]? = some (.string (l.getD i noVa).2.2)
  | [], i, h => by simp at h
  | v :: l, 0, _ => by simp [vaCells]
  | v :: l, i + 1, h => by
    have ih := vaCells_at l i (by simpa using h)
    have e : vaCells (v :: l) = [.int .i64 v.1, .int .i64 v.2.1, .string v.2.2] ++ vaCells l := rfl
    rw [e]
    refine ⟨?_, ?_, ?_⟩
    · rw [List.getElem?_append_right (by simp; omega)]
      simpa [show (i + 1) * 3 - 3 = i * 3 by omega] using ih.1
    · rw [List.getElem?_append_right (by simp; omega)]
      simpa [show (i + 1) * 3 + 1 - 3 = i * 3 + 1 by omega] using ih.2.1
    · rw [List.getElem?_append_right (by simp; omega)]
      simpa [show (i + 1) * 3 + 2 - 3 = i * 3 + 2 by omega] using ih.2.2
theorem OwnV.at {w : World} {B g n cap : Nat} {l : List Va} (h : OwnV w B (.slice (some ⟨g, 0, none⟩) n cap) l) (i : Nat) (hi : i < l.length) : w.cell? ⟨g, i * 3, none⟩ = some (.int .i64 (l.getD i noVa).1) ∧ w.cell? ⟨g, i * 3 + 1, none⟩ = some (.int .i64 (l.getD i noVa).2.1) ∧ w.cell? ⟨g, i * 3 + 2, none⟩ = some (.string (l.getD i noVa).2.2) := by
  obtain ⟨hl, hr⟩ := h
  rcases hr with ⟨h0, _⟩ | ⟨g', cap', cur, h1, h2, h3, h4, h5, h6, h7⟩
  · cases h0
  · injection h1 with e1 e2 e3
    injection e1 with e1
    injection e1 with e1
    subst e1
    have hc : ∀ j, j < l.length * 3 → w.cell? ⟨g, j, none⟩ = (vaCells l)[j]? := fun j hj => by
      rw [cell_heap h3, ← h7, List.getElem?_take, if_pos hj]
      simp
    obtain ⟨a1, a2, a3⟩ := vaCells_at l i hi
    exact ⟨(hc _ (by omega)).trans a1, (hc _ (by omega)).trans a2, (hc _ (by omega)).trans a3⟩
def hasP (S : SetV) (p : Va) : Bool := hasB S p.1 p.2.1 p.2.2
end Go.Proofs.YtlmdcaemjaldfaaGreatDoor
namespace Go.Proofs.YtlmdcaemjaldfaaGreatDoor
theorem dec_ne_nil (u : Nat) : Lib.decDigits u ≠ [] := by
  rw [Lib.decDigits]; split <;> simp
theorem decDigits_inj (u : Nat) : ∀ v, Lib.decDigits u = Lib.decDigits v → u = v := by
  induction u using Nat.strongRecOn with
  | _ u ih =>
    intro v h
    have hu : Lib.decDigits u = if h : u < 10 then [UInt8.ofNat (48 + u)] else Lib.decDigits (u / 10) ++ [UInt8.ofNat (48 + u % 10)] := by rw [Lib.decDigits]
    have hv : Lib.decDigits v = if h : v < 10 then [UInt8.ofNat (48 + v)] else Lib.decDigits (v / 10) ++ [UInt8.ofNat (48 + v % 10)] := by rw [Lib.decDigits]
    have key : ∀ a b : Nat, a < 10 → b < 10 → UInt8.ofNat (48 + a) = UInt8.ofNat (48 + b) → a = b := fun a b ha hb e => by
      have := congrArg UInt8.toNat e
      rw [UInt8.toNat_ofNat', UInt8.toNat_ofNat'] at this
      omega
    by_cases h1 : u < 10
    · by_cases h2 : v < 10
      · rw [hu, hv, dif_pos h1, dif_pos h2] at h
        simp only [List.cons.injEq, and_true] at h
        exact key u v h1 h2 h
      · rw [hu, hv, dif_pos h1, dif_neg h2] at h
        have e := congrArg List.length h
        have e2 := List.length_pos_iff.2 (dec_ne_nil (v / 10))
        simp only [List.length_append, List.length_cons, List.length_nil] at e
        omega
    · by_cases h2 : v < 10
      · rw [hu, hv, dif_neg h1, dif_pos h2] at h
        have e := congrArg List.length h
        have e2 := List.length_pos_iff.2 (dec_ne_nil (u / 10))
        simp only [List.length_append, List.length_cons, List.length_nil] at e
        omega
      · rw [hu, hv, dif_neg h1, dif_neg h2] at h
        obtain ⟨e1, e2⟩ := List.append_inj' h rfl
        simp only [List.cons.injEq, and_true] at e2
        have a := ih (u / 10) (by omega) (v / 10) e1
        have b := key (u % 10) (v % 10) (by omega) (by omega) e2
        omega
theorem tryS_inj (s : ByteArray) (i j : Nat) (h : tryS s i = tryS s j) : i = j := by
  have h1 := congrArg (fun b : ByteArray => b.data.toList) h
  simp only [tryS, ByteArray.data_append, Array.toList_append, List.toList_toArray, List.append_cancel_left_eq, Lib.itoa_nonneg] at h1
  exact decDigits_inj i j h1
theorem inInts_iff (l : List Rg) (n : Int) : inIntsB l n = true ↔ memR l n := by
  unfold inIntsB memR
  rw [List.any_eq_true]
  constructor
  · rintro ⟨r, hr, h⟩
    simp at h
    exact ⟨r, hr, h⟩
  · rintro ⟨r, hr, h⟩
    exact ⟨r, hr, by simpa using h⟩
theorem inStrs_iff (l : List ByteArray) (s : ByteArray) : inStrsB l s = true ↔ s ∈ l := by
  unfold inStrsB
  rw [List.any_eq_true]
  constructor
  · rintro ⟨t, ht, h⟩
    rw [← bytes_eq.1 h]; exact ht
  · intro h
    exact ⟨s, h, bytes_eq.2 rfl⟩
theorem rgB_some (l : List Rg) : ∀ h : Int, rgB (some h) l = true ↔ rightFrom (h + 1) l := by
  induction l with
  | nil => intro h; simp [rgB, rightFrom]
  | cons r l ih =>
    intro h
    simp only [rgB, Bool.and_eq_true, decide_eq_true_eq, ih, rightFrom]
    constructor
    · rintro ⟨h1, h2, h3⟩; exact ⟨h2, h1, h3⟩
    · rintro ⟨h1, h2, h3⟩; exact ⟨h2, h1, h3⟩
theorem rgB_none (l : List Rg) : rgB none l = true ↔ rightR l := by
  cases l with
  | nil => simp [rgB, rightR]
  | cons r l => simp only [rgB, Bool.and_eq_true, decide_eq_true_eq, rgB_some, rightR]
def rightS (l : List ByteArray) : Prop := (∀ s ∈ l, s.size ≤ 8) ∧ risesS (l.map fun b => b.toList)
theorem stB_some (l : List ByteArray) : ∀ p : ByteArray, stB (some p) l = true ↔ rightS l ∧ ∀ b ∈ l, Op.bytesLess p.toList b.toList = true := by
  induction l with
  | nil => intro p; simp [stB, rightS, risesS]
  | cons s l ih =>
    intro p
    simp only [stB, Bool.and_eq_true, decide_eq_true_eq, ih, rightS, List.map_cons, risesS, List.mem_cons, List.mem_map, forall_eq_or_imp]
    constructor
    · rintro ⟨h1, h2, ⟨h3, h4⟩, h5⟩
      refine ⟨⟨⟨h1, h3⟩, ?_, h4⟩, h2, fun b hb => lessB_trans _ _ _ h2 (h5 b hb)⟩
      rintro b ⟨x, hx, rfl⟩
      exact h5 x hx
    · rintro ⟨⟨⟨h1, h3⟩, h6, h4⟩, h2, h5⟩
      exact ⟨h1, h2, ⟨h3, h4⟩, fun b hb => h6 _ ⟨b, hb, rfl⟩⟩
theorem stB_none (l : List ByteArray) : stB none l = true ↔ rightS l := by
  cases l with
  | nil => simp [stB, rightS, risesS]
  | cons s l =>
    simp only [stB, Bool.and_eq_true, decide_eq_true_eq, stB_some, rightS, List.map_cons, risesS, List.mem_cons, List.mem_map, forall_eq_or_imp]
    constructor
    · rintro ⟨h1, ⟨h3, h4⟩, h5⟩
      refine ⟨⟨h1, h3⟩, ?_, h4⟩
      rintro b ⟨x, hx, rfl⟩
      exact h5 x hx
    · rintro ⟨⟨h1, h3⟩, h6, h4⟩
      exact ⟨h1, ⟨h3, h4⟩, fun b hb => h6 _ ⟨b, hb, rfl⟩⟩
theorem rightSet_iff (S : SetV) : rightSet S = true ↔ rightR S.ints ∧ rightS S.strs := by
  unfold rightSet
  rw [Bool.and_eq_true, rgB_none, stB_none]
theorem toList_inj {a b : ByteArray} (h : a.toList = b.toList) : a = b := bytes_eq.1 (beq_iff_eq.2 h)
theorem rightS_ext (a b : List ByteArray) (ha : rightS a) (hb : rightS b) (h : ∀ s : ByteArray, s ∈ a ↔ s ∈ b) : a = b := by
  have hm : ∀ l : List ByteArray, ∀ s : ByteArray, s.toList ∈ l.map (fun x => x.toList) ↔ s ∈ l := fun l s => by
    rw [List.mem_map]
    constructor
    · rintro ⟨x, hx, e⟩; rw [← toList_inj e]; exact hx
    · intro hs; exact ⟨s, hs, rfl⟩
  have e := risesS_ext (a.map fun x => x.toList) (b.map fun x => x.toList) ha.2 hb.2 (fun s => by
    constructor
    · intro hs
      obtain ⟨x, hx, rfl⟩ := List.mem_map.1 hs
      exact (hm b x).2 ((h x).1 hx)
    · intro hs
      obtain ⟨x, hx, rfl⟩ := List.mem_map.1 hs
      exact (hm a x).2 ((h x).2 hx))
  exact List.map_inj_right (fun x y e => toList_inj e) |>.1 e
def rightV (p : Va) : Prop := rightB p.1 p.2.1 p.2.2 = true
theorem size_nil {s : ByteArray} (h : s.size = 0) : s = noS := ByteArray.ext (Array.eq_empty_of_size_eq_zero h)
theorem toList_len (s : ByteArray) : s.toList.length = s.size := by rw [ByteArray.toList_eq]; exact (Lib.size_eq s).symm
theorem rightV_cases {p : Va} (h : rightV p) : p = (0, 0, noS) ∨ (∃ n, p = (1, n, noS)) ∨ ∃ s : ByteArray, s.size ≤ 8 ∧ p = (2, 0, s) := by
  obtain ⟨k, n, s⟩ := p
  unfold rightV rightB at h
  dsimp only at h
  have hnil : s.toList.isEmpty = true → s = noS := fun e => size_nil (by rw [← toList_len, List.isEmpty_iff.1 e]; rfl)
  split at h
  · rename_i hk
    rw [Bool.and_eq_true, beq_iff_eq] at h
    left; rw [hk, h.1, hnil h.2]
  · split at h
    · rename_i hk
      right; left; exact ⟨n, by rw [hk, hnil h]⟩
    · split at h
      · rename_i hk
        rw [Bool.and_eq_true, beq_iff_eq, decide_eq_true_eq] at h
        right; right; exact ⟨s, by omega, by rw [hk, h.1]⟩
      · exact absurd h (by simp)
theorem noS_empty : noS.toList.isEmpty = true := by rw [ByteArray.toList_eq]; rfl
theorem rightV_num (n : Int) : rightB 1 n noS = true := by
  unfold rightB
  rw [if_neg (by omega), if_pos rfl, noS_empty]
theorem rightV_abs : rightB 0 0 noS = true := by
  unfold rightB
  rw [if_pos rfl, noS_empty]; rfl
theorem rightV_str {s : ByteArray} (h : s.size ≤ 8) : rightB 2 0 s = true := by
  have e : decide ((s.size : Int) ≤ 8) = true := decide_eq_true (by omega)
  unfold rightB
  rw [if_neg (by omega), if_neg (by omega), if_pos rfl, e]; rfl
theorem has_abs (S : SetV) : hasP S (0, 0, noS) = S.absent := by unfold hasP hasB; rw [rightV_abs]; rfl
theorem has_num (S : SetV) (n : Int) : hasP S (1, n, noS) = inIntsB S.ints n := by
  unfold hasP hasB
  dsimp only
  rw [rightV_num, Bool.true_and, if_neg (by omega), if_pos rfl]
theorem has_str (S : SetV) {s : ByteArray} (h : s.size ≤ 8) : hasP S (2, 0, s) = (inStrsB S.strs s != S.co) := by
  unfold hasP hasB
  dsimp only
  rw [rightV_str h, Bool.true_and, if_neg (by omega), if_neg (by omega)]
theorem has_wrong (S : SetV) {p : Va} (h : ¬ rightV p) : hasP S p = false := by
  unfold rightV at h
  unfold hasP hasB
  cases e : rightB p.1 p.2.1 p.2.2
  · rfl
  · exact absurd e h
theorem fresh_short {j : Nat} (h : j < 100000) : (tryS ⟨#[126]⟩ j).size ≤ 8 := by
  unfold tryS
  rw [ByteArray.size_append]
  have h1 : (⟨#[126]⟩ : ByteArray).size = 1 := rfl
  have h2 : (⟨(Lib.itoa (j : Int)).toArray⟩ : ByteArray).size = (Lib.decDigits j).length := by rw [Lib.itoa_nonneg]; simp [ByteArray.size]
  have h3 : (Lib.decDigits j).length ≤ 5 := by
    rw [Lib.decDigits_length]
    have one : ∀ u : Nat, ∀ c : Nat, (u / 10 < 10 ^ c → Lib.nDigits (u / 10) ≤ c) → 1 ≤ c → u < 10 ^ (c + 1) → Lib.nDigits u ≤ c + 1 := fun u c ih hc hu => by
      by_cases h : u < 10
      · rw [Lib.nDigits_small h]; omega
      · rw [Lib.nDigits_big h]
        have := ih (Nat.div_lt_of_lt_mul (by rw [Nat.mul_comm]; exact (Nat.pow_succ (n := 10) (m := c)) ▸ hu))
        omega
    refine one j 4 (fun h4 => one _ 3 (fun h3 => one _ 2 (fun h2 => one _ 1 (fun h1 => ?_) (by omega) h2) (by omega) h3) (by omega) h4) (by omega) (by omega)
    rw [Lib.nDigits_small (by omega)]; omega
  omega
end Go.Proofs.YtlmdcaemjaldfaaGreatDoor
namespace Go.Proofs.YtlmdcaemjaldfaaGreatDoor
theorem inStrs_not {l : List ByteArray} {s : ByteArray} (h : s ∉ l) : inStrsB l s = false := by
  cases e : inStrsB l s
  · rfl
  · exact absurd ((inStrs_iff _ _).1 e) h
theorem some_fresh (a b : List ByteArray) (h : a.length + b.length < 100000) : ∃ t : ByteArray, t.size ≤ 8 ∧ t ∉ a ∧ t ∉ b := by
  obtain ⟨i, hi, hf⟩ := fresh_out (fun i => (tryS ⟨#[126]⟩ i).data.toList) (fun i j e => tryS_inj _ i j (by
    apply ByteArray.ext
    exact Array.toList_inj.1 e)) ((a ++ b).map fun x => x.data.toList) 100000 (by rw [List.length_map, List.length_append]; exact h)
  refine ⟨tryS ⟨#[126]⟩ i, fresh_short hi, fun hm => hf ?_, fun hm => hf ?_⟩
  · exact List.mem_map.2 ⟨_, List.mem_append_left _ hm, rfl⟩
  · exact List.mem_map.2 ⟨_, List.mem_append_right _ hm, rfl⟩
theorem set_ext (A B : SetV) (rA : rightSet A = true) (rB : rightSet B = true) (iA : inI64 A.ints) (iB : inI64 B.ints) (hn : A.strs.length + B.strs.length < 100000)
    (h : ∀ p : Va, -9223372036854775808 ≤ p.2.1 → p.2.1 ≤ 9223372036854775807 → hasP A p = hasP B p) : A = B := by
  obtain ⟨rAi, rAs⟩ := (rightSet_iff A).1 rA
  obtain ⟨rBi, rBs⟩ := (rightSet_iff B).1 rB
  have e1 : A.absent = B.absent := by
    have := h (0, 0, noS) (by dsimp only; omega) (by dsimp only; omega)
    rwa [has_abs, has_abs] at this
  have e2 : A.ints = B.ints := by
    refine rightR_ext64 _ _ rAi rBi iA iB fun n h0 h1 => ?_
    have := h (1, n, noS) h0 h1
    rw [has_num, has_num] at this
    rw [← inInts_iff, ← inInts_iff, this]
  have e3 : A.co = B.co := by
    obtain ⟨t, t8, ta, tb⟩ := some_fresh A.strs B.strs hn
    have := h (2, 0, t) (by dsimp only; omega) (by dsimp only; omega)
    rw [has_str A t8, has_str B t8, inStrs_not ta, inStrs_not tb] at this
    revert this
    cases A.co <;> cases B.co <;> simp
  have e4 : A.strs = B.strs := by
    refine rightS_ext _ _ rAs rBs fun s => ?_
    by_cases s8 : s.size ≤ 8
    · have := h (2, 0, s) (by dsimp only; omega) (by dsimp only; omega)
      rw [has_str A s8, has_str B s8, e3] at this
      rw [← inStrs_iff, ← inStrs_iff]
      revert this
      cases inStrsB A.strs s <;> cases inStrsB B.strs s <;> cases B.co <;> simp
    · exact ⟨fun hs => absurd (rAs.1 s hs) s8, fun hs => absurd (rBs.1 s hs) s8⟩
  obtain ⟨a1, a2, a3, a4⟩ := A
  obtain ⟨b1, b2, b3, b4⟩ := B
  dsimp only at *
  subst e1 e2 e3 e4
  rfl
end Go.Proofs.YtlmdcaemjaldfaaGreatDoor
namespace Go.Proofs.YtlmdcaemjaldfaaGreatDoor
end Go.Proofs.YtlmdcaemjaldfaaGreatDoor
namespace Go.Proofs.YtlmdcaemjaldfaaGreatDoor
open Go.RowKit
def rgCells (l : List Rg) : List Value := l.flatMap fun v => [.int .i64 v.1, .int .i64 v.2]
theorem rgCells_append (a b : List Rg) : rgCells (a ++ b) = rgCells a ++ rgCells b := by unfold rgCells; rw [List.flatMap_append]
theorem rgCells_len : ∀ l : List Rg, (rgCells l).length = l.length * 2
  | [] => rfl
  | v :: l => by
    have := rgCells_len l
    unfold rgCells at *
    rw [List.flatMap_cons, List.length_append, this]
    simp; omega
def OwnR (w : World) (B : Nat) (v : Value) (l : List Rg) : Prop := w.ownsRow B 96 2 v l.length (rgCells l)
theorem OwnR.alloc {w : World} {B : Nat} {v : Value} {l : List Rg} (h : OwnR w B v l) (o : Obj) : OwnR (w.alloc o) B v l := World.ownsRow.alloc h o
theorem OwnR.drewN {w : World} {B : Nat} {v : Value} {l : List Rg} (h : OwnR w B v l) (n : Nat) : OwnR (w.drewN n) B v l := h
theorem OwnR.grownB {w w' : World} {B : Nat} {v : Value} {l : List Rg} (h : OwnR w B v l) (hB : B ≤ w.heap.size) (hg : w.grownBy w' v.ownBlock) : Below B w w' :=
  (Below.refl _ _).grown hg hB (fun k hk => (World.ownsRow.lt h k hk).1)
theorem OwnR.on {w w' : World} {B : Nat} {v : Value} {l : List Rg} (h : OwnR w B v l) (hb : Below w.heap.size w w') : OwnR w' B v l :=
  World.ownsRow.kept (row := none) h ⟨hb.os, hb.tape, hb.output, hb.size, fun k hk _ => hb.block k hk⟩ (by cases v.ownBlock <;> simp)
theorem OwnR.form {w : World} {B : Nat} {v : Value} {l : List Rg} (h : OwnR w B v l) (hne : 0 < l.length) : ∃ g cap, v = .slice (some ⟨g, 0, none⟩) l.length cap ∧ B ≤ g ∧ g < w.heap.size := by
  rcases h.2 with ⟨_, h⟩ | ⟨g, cap, cur, h1, h2, h3, _⟩
  · omega
  · exact ⟨g, cap, h1, h2, lt_heap h3⟩
theorem rgCells_at : ∀ (l : List Rg) (i : Nat), i < l.length → (rgCells l)[i * 2]? = some (.int .i64 (l.getD i (0, 0)).1) ∧ (rgCells l)[i * 2 + 1]? = some (.int .i64 (l.getD i (0, 0)).2)
  | [], i, h => by simp at h
  | v :: l, 0, _ => by simp [rgCells]
  | v :: l, i + 1, h => by
    have ih := rgCells_at l i (by simpa using h)
    have e : rgCells (v :: l) = [.int .i64 v.1, .int .i64 v.2] ++ rgCells l := rfl
    rw [e]
    refine ⟨?_, ?_⟩
    · rw [List.getElem?_append_right (by simp; omega)]
      simpa [show (i + 1) * 2 - 2 = i * 2 by omega] using ih.1
    · rw [List.getElem?_append_right (by simp; omega)]
      simpa [show (i + 1) * 2 + 1 - 2 = i * 2 + 1 by omega] using ih.2
theorem OwnR.at {w : World} {B g n cap : Nat} {l : List Rg} (h : OwnR w B (.slice (some ⟨g, 0, none⟩) n cap) l) (i : Nat) (hi : i < l.length) : w.cell? ⟨g, i * 2, none⟩ = some (.int .i64 (l.getD i (0, 0)).1) ∧ w.cell? ⟨g, i * 2 + 1, none⟩ = some (.int .i64 (l.getD i (0, 0)).2) := by
  obtain ⟨hl, hr⟩ := h
  rcases hr with ⟨h0, _⟩ | ⟨g', cap', cur, h1, h2, h3, h4, h5, h6, h7⟩
  · cases h0
  · injection h1 with e1 e2 e3
    injection e1 with e1
    injection e1 with e1
    subst e1
    have hc : ∀ j, j < l.length * 2 → w.cell? ⟨g, j, none⟩ = (rgCells l)[j]? := fun j hj => by
      rw [cell_heap h3, ← h7, List.getElem?_take, if_pos hj]
      simp
    obtain ⟨a1, a2⟩ := rgCells_at l i hi
    exact ⟨(hc _ (by omega)).trans a1, (hc _ (by omega)).trans a2⟩
theorem OwnR.len {w : World} {B g n cap : Nat} {l : List Rg} (h : OwnR w B (.slice (some ⟨g, 0, none⟩) n cap) l) : n = l.length := by
  rcases h.2 with ⟨h0, _⟩ | ⟨g', cap', cur, h1, _⟩
  · cases h0
  · injection h1
theorem rgCells_set (o : List Rg) (q : Rg) (x : Int) : (rgCells (o ++ [q])).set (o.length * 2 + 1) (.int .i64 x) = rgCells (o ++ [(q.1, x)]) := by
  rw [rgCells_append, rgCells_append, List.set_append, if_neg (by rw [rgCells_len]; omega), rgCells_len, show o.length * 2 + 1 - o.length * 2 = 1 by omega]
  rfl
theorem OwnR.put {w : World} {B g n cap : Nat} {o : List Rg} {q : Rg} (h : OwnR w B (.slice (some ⟨g, 0, none⟩) n cap) (o ++ [q])) (x : Int) : OwnR (w.setCell ⟨g, o.length * 2 + 1, none⟩ (.int .i64 x)) B (.slice (some ⟨g, 0, none⟩) n cap) (o ++ [(q.1, x)]) ∧ Below B w (w.setCell ⟨g, o.length * 2 + 1, none⟩ (.int .i64 x)) := by
  have hn := h.len
  subst hn
  have hlt := (World.ownsRow.lt h g rfl).1
  refine ⟨?_, (Below.refl _ _).setCell hlt _⟩
  have := (World.ownsRow.stored (size := 2) h (o.length * 2 + 1) (.int .i64 x)).1
  rw [rgCells_set] at this
  unfold OwnR
  rw [show (o ++ [(q.1, x)]).length = (o ++ [q]).length by simp]
  exact this
end Go.Proofs.YtlmdcaemjaldfaaGreatDoor
namespace Go.Proofs.YtlmdcaemjaldfaaGreatDoor
open Go.RowKit
end Go.Proofs.YtlmdcaemjaldfaaGreatDoor
namespace Go.Proofs.YtlmdcaemjaldfaaGreatDoor
def notR (from_ : Int) : List Rg → List Rg
  | [] => if from_ ≤ 9223372036854775807 then [(from_, 9223372036854775807)] else []
  | r :: l => if from_ < r.1 then (from_, r.1 - 1) :: notR (r.2 + 1) l else notR (r.2 + 1) l
theorem notR_mem : ∀ (l : List Rg) (f : Int), rightFrom (f - 1) l → inI64 l → ∀ n, memR (notR f l) n ↔ (f ≤ n ∧ n ≤ 9223372036854775807 ∧ ¬ memR l n)
  | [], f, _, _, n => by
    unfold notR
    split
    · rw [memR_cons]; simp [memR_nil]
    · simp [memR_nil]; omega
  | r :: l, f, ⟨h1, h2, h3⟩, hi, n => by
    have hr := hi r (by simp)
    have ih := notR_mem l (r.2 + 1) (rightFrom_mono h3 (by omega)) (fun x hx => hi x (by simp [hx])) n
    have hgt := fun hm => rightFrom_lt h3 n hm
    unfold notR
    rw [memR_cons]
    split
    · rw [memR_cons, ih]
      dsimp only
      constructor
      · rintro (h | ⟨a, b, c⟩)
        · refine ⟨h.1, by omega, ?_⟩
          rintro (h' | h')
          · omega
          · have := hgt h'; omega
        · refine ⟨by omega, b, ?_⟩
          rintro (h' | h')
          · omega
          · exact c h'
      · rintro ⟨a, b, c⟩
        by_cases hn : n < r.1
        · left; omega
        · right
          refine ⟨?_, b, fun h' => c (Or.inr h')⟩
          by_cases hn2 : n ≤ r.2
          · exact absurd (Or.inl ⟨by omega, hn2⟩) c
          · omega
    · rw [ih]
      constructor
      · rintro ⟨a, b, c⟩
        refine ⟨by omega, b, ?_⟩
        rintro (h' | h')
        · omega
        · exact c h'
      · rintro ⟨a, b, c⟩
        refine ⟨?_, b, fun h' => c (Or.inr h')⟩
        by_cases hn2 : n ≤ r.2
        · exact absurd (Or.inl ⟨by omega, hn2⟩) c
        · omega
theorem notR_right : ∀ (l : List Rg) (f : Int), rightFrom (f - 1) l → inI64 l → -9223372036854775808 ≤ f → (∀ b, b < f → rightFrom b (notR f l)) ∧ inI64 (notR f l) ∧ (notR f l).length ≤ l.length + 1
  | [], f, _, _, h => by
    unfold notR
    split
    · refine ⟨fun b hb => ⟨hb, by dsimp only; omega, trivial⟩, fun x hx => ?_, by simp⟩
      simp at hx; rw [hx]; dsimp only; omega
    · exact ⟨fun b hb => trivial, fun x hx => by simp at hx, by simp⟩
  | r :: l, f, ⟨h1, h2, h3⟩, hi, h => by
    have hr := hi r (by simp)
    obtain ⟨i1, i2, i3⟩ := notR_right l (r.2 + 1) (rightFrom_mono h3 (by omega)) (fun x hx => hi x (by simp [hx])) (by omega)
    unfold notR
    split
    · refine ⟨fun b hb => ⟨hb, by dsimp only; omega, ?_⟩, fun x hx => ?_, by simp; omega⟩
      · have := i1 r.1 (by omega)
        dsimp only
        rw [show r.1 - 1 + 1 = r.1 by omega]; exact this
      · rcases List.mem_cons.1 hx with rfl | hx
        · dsimp only; omega
        · exact i2 x hx
    · exact ⟨fun b hb => i1 b (by omega), i2, by simp; omega⟩
def notV (S : SetV) : SetV := ⟨!S.absent, notR (-9223372036854775808) S.ints, !S.co, S.strs⟩
structure Good (S : SetV) : Prop where
  r : rightSet S = true
  i : inI64 S.ints
theorem Good.ri {S : SetV} (h : Good S) : rightR S.ints := ((rightSet_iff S).1 h.r).1
theorem Good.rs {S : SetV} (h : Good S) : rightS S.strs := ((rightSet_iff S).1 h.r).2
theorem rightR_low {l : List Rg} (h : rightR l) (hi : inI64 l) : rightFrom (-9223372036854775808 - 1) l := by
  cases l with
  | nil => trivial
  | cons r l => exact ⟨by have := hi r (by simp); omega, h.1, h.2⟩
theorem notV_good {S : SetV} (h : Good S) : Good (notV S) := by
  obtain ⟨h1, h2, _⟩ := notR_right S.ints (-9223372036854775808) (rightR_low h.ri h.i) h.i (by omega)
  exact ⟨(rightSet_iff _).2 ⟨rightFrom_right (h1 (-9223372036854775809) (by omega)), h.rs⟩, h2⟩
theorem bool_of_iff {a b : Bool} (h : a = true ↔ b = true) : a = b := by
  cases a <;> cases b <;> simp at h ⊢
theorem notV_has {S : SetV} (h : Good S) (p : Va) (b0 : -9223372036854775808 ≤ p.2.1) (b1 : p.2.1 ≤ 9223372036854775807) : hasP (notV S) p = (rightB p.1 p.2.1 p.2.2 && !hasP S p) := by
  by_cases hp : rightV p
  · have hp' : rightB p.1 p.2.1 p.2.2 = true := hp
    rw [hp', Bool.true_and]
    rcases rightV_cases hp with rfl | ⟨n, rfl⟩ | ⟨s, hs, rfl⟩
    · rw [has_abs, has_abs]; rfl
    · rw [has_num, has_num]
      refine bool_of_iff ?_
      rw [inInts_iff]
      show memR (notR _ S.ints) n ↔ _
      rw [notR_mem S.ints _ (rightR_low h.ri h.i) h.i n, ← inInts_iff]
      dsimp only at b0 b1
      simp [b0, b1]
    · rw [has_str _ hs, has_str _ hs]
      show (inStrsB S.strs s != !S.co) = !(inStrsB S.strs s != S.co)
      cases inStrsB S.strs s <;> cases S.co <;> rfl
  · rw [has_wrong _ hp, has_wrong _ hp]
    have : rightB p.1 p.2.1 p.2.2 = false := by
      cases e : rightB p.1 p.2.1 p.2.2
      · rfl
      · exact absurd e hp
    rw [this]; rfl
end Go.Proofs.YtlmdcaemjaldfaaGreatDoor
namespace Go.Proofs.YtlmdcaemjaldfaaGreatDoor
open Go.RowKit
theorem rngs_none (w : World) : RngsAt w (.slice none 0 0) [] := ⟨fun _ h => by simp at h, by simp, none, 0, rfl, fun i hi => by simp at hi⟩
theorem strs_none (w : World) : StrsAt w (.slice none 0 0) [] := ⟨fun _ h => by simp at h, by simp, none, 0, rfl, fun i hi => by simp at hi⟩
theorem OwnR.rngs {w : World} {B : Nat} {v : Value} {l : List Rg} (h : OwnR w B v l) (hi : inI64 l) (hl : l.length ≤ 9223372036854775807) : RngsAt w v l := by
  refine ⟨hi, hl, ?_⟩
  rcases h.2 with ⟨e, h0⟩ | ⟨g, cap, cur, e, _, hg, hc, _⟩
  · exact ⟨none, 0, by rw [e, h0]; rfl, fun i hi' => by omega⟩
  · obtain ⟨sp, hsp⟩ := capOf_of (a := some ⟨g, 0, none⟩) hc (fun e => by cases e)
    subst e
    refine ⟨_, sp, by rw [← hsp], fun i hi' => ⟨g, 0, rfl, lt_heap hg, ?_, ?_⟩⟩
    · rw [Nat.zero_add]; exact (h.at i hi').1
    · rw [Nat.zero_add]; exact (h.at i hi').2
theorem noSet_at (w : World) : SetAt w (.agg #[.bool false, .slice none 0 0, .bool false, .slice none 0 0]) noSet := ⟨_, _, rfl, rngs_none w, strs_none w⟩
end Go.Proofs.YtlmdcaemjaldfaaGreatDoor
namespace Go.Proofs.YtlmdcaemjaldfaaGreatDoor
theorem good_ext {A B : SetV} (hA : Good A) (hB : Good B) (hn : A.strs.length + B.strs.length < 100000)
    (h : ∀ p : Va, -9223372036854775808 ≤ p.2.1 → p.2.1 ≤ 9223372036854775807 → hasP A p = hasP B p) : A = B := set_ext A B hA.r hB.r hA.i hB.i hn h
theorem not_right {S : SetV} {p : Va} (h : rightB p.1 p.2.1 p.2.2 = false) : hasP S p = false := has_wrong S (fun hp => by
  have hp' : rightB p.1 p.2.1 p.2.2 = true := hp
  rw [h] at hp'; simp at hp')
theorem not_not {A : SetV} (hA : Good A) (lA : A.strs.length ≤ 1000) : notV (notV A) = A := by
  refine good_ext (notV_good (notV_good hA)) hA (by show A.strs.length + A.strs.length < _; omega) fun p b0 b1 => ?_
  rw [notV_has (notV_good hA) p b0 b1, notV_has hA p b0 b1]
  cases e : rightB p.1 p.2.1 p.2.2
  · rw [not_right e]; rfl
  · cases hasP A p <;> rfl
end Go.Proofs.YtlmdcaemjaldfaaGreatDoor
namespace Go.Proofs.YtlmdcaemjaldfaaGreatDoor
open Go.RowKit
end Go.Proofs.YtlmdcaemjaldfaaGreatDoor
namespace Go.Proofs.YtlmdcaemjaldfaaGreatDoor
open Go.RowKit
structure Two (w0 w : World) (o1 o2 : Obj) : Prop where
  e1 : w.heap[w0.heap.size]? = some o1
  e2 : w.heap[w0.heap.size + 1]? = some o2
  b : Below w0.heap.size w0 w
theorem Two.on {w0 w w' : World} {o1 o2 : Obj} (h : Two w0 w o1 o2) (hb : Below w.heap.size w w') : Two w0 w' o1 o2 :=
  ⟨(hb.block _ (lt_heap h.e1)).trans h.e1, (hb.block _ (lt_heap h.e2)).trans h.e2, h.b.trans (hb.mono h.b.size)⟩
theorem Two.start (w : World) (o1 o2 : Obj) : Two w ((w.alloc o1).alloc o2) o1 o2 := ⟨(two_bx w o1 o2).1, (two_bx w o1 o2).2.1, (two_bx w o1 o2).2.2⟩
theorem setCells {w : World} {b : Nat} {x0 x1 x2 x3 : Value} {t : TypeId} (h : w.heap[b]? = some (.cells #[x0, x1, x2, x3] t (0, 0))) : w.cell? ⟨b, 0, none⟩ = some x0 ∧ w.cell? ⟨b, 1, none⟩ = some x1 ∧ w.cell? ⟨b, 2, none⟩ = some x2 ∧ w.cell? ⟨b, 3, none⟩ = some x3 :=
  ⟨cell_heap h 0, cell_heap h 1, cell_heap h 2, cell_heap h 3⟩
end Go.Proofs.YtlmdcaemjaldfaaGreatDoor
namespace Go.Proofs.YtlmdcaemjaldfaaGreatDoor
structure BoxV where
  s0 : SetV
  s1 : SetV
  s2 : SetV
  s3 : SetV
structure EvV where
  v0 : Va
  v1 : Va
  v2 : Va
  v3 : Va
def BoxV.get (b : BoxV) : Nat → SetV
  | 0 => b.s0
  | 1 => b.s1
  | 2 => b.s2
  | _ => b.s3
def EvV.get (e : EvV) : Nat → Va
  | 0 => e.v0
  | 1 => e.v1
  | 2 => e.v2
  | _ => e.v3
def BoxV.put (b : BoxV) (i : Nat) (s : SetV) : BoxV := match i with
  | 0 => { b with s0 := s }
  | 1 => { b with s1 := s }
  | 2 => { b with s2 := s }
  | 3 => { b with s3 := s }
  | _ => b
def EvV.put (e : EvV) (i : Nat) (p : Va) : EvV := match i with
  | 0 => { e with v0 := p }
  | 1 => { e with v1 := p }
  | 2 => { e with v2 := p }
  | 3 => { e with v3 := p }
  | _ => e
def all4 (f : Nat → Bool) : Bool := ((f 0 && f 1) && f 2) && f 3
theorem all4_iff (f : Nat → Bool) : all4 f = true ↔ ∀ i, i < 4 → f i = true := by
  unfold all4
  rw [Bool.and_eq_true, Bool.and_eq_true, Bool.and_eq_true]
  constructor
  · rintro ⟨⟨⟨h0, h1⟩, h2⟩, h3⟩ i hi
    match i, hi with
    | 0, _ => exact h0
    | 1, _ => exact h1
    | 2, _ => exact h2
    | 3, _ => exact h3
  · intro h
    exact ⟨⟨⟨h 0 (by omega), h 1 (by omega)⟩, h 2 (by omega)⟩, h 3 (by omega)⟩
def inE (e : EvV) : Prop := ∀ i, i < 4 → -9223372036854775808 ≤ (e.get i).2.1 ∧ (e.get i).2.1 ≤ 9223372036854775807
def rightE (e : EvV) : Bool := all4 fun i => rightB (e.get i).1 (e.get i).2.1 (e.get i).2.2
end Go.Proofs.YtlmdcaemjaldfaaGreatDoor
namespace Go.Proofs.YtlmdcaemjaldfaaGreatDoor
structure ExV where
  kind : Int
  attr : Int
  set : SetV
  sub : List ExV
def lowX : Nat → ExV → Prop
  | 0, _ => False
  | n + 1, x => ∀ y ∈ x.sub, lowX n y
theorem lowX_mono : ∀ (n m : Nat) (x : ExV), n ≤ m → lowX n x → lowX m x
  | 0, _, _, _, h => by cases h
  | n + 1, m, x, hm, h => by
    obtain ⟨k, rfl⟩ : ∃ k, m = k + 1 := ⟨m - 1, by omega⟩
    exact fun y hy => lowX_mono n k y (by omega) (h y hy)
def countX : Nat → ExV → Int
  | 0, _ => 100
  | f + 1, x => min (x.sub.foldl (fun n y => if n < 100 then n + countX f y else n) 1) 100
def deepX : Nat → ExV → Int
  | 0, _ => 20
  | f + 1, x => min ((x.sub.take 100).foldl (fun n y => max n (deepX f y)) 0 + 1) 20
def fitsX (x : ExV) : Bool := decide (countX 21 x ≤ 40) && decide (deepX 21 x ≤ 8)
theorem foldl_max_ge (g : ExV → Int) : ∀ (l : List ExV) (n : Int), n ≤ l.foldl (fun n y => max n (g y)) n
  | [], n => by simp
  | y :: l, n => by
    have := foldl_max_ge g l (max n (g y))
    rw [List.foldl_cons]
    omega
theorem foldl_max_mem (g : ExV → Int) : ∀ (l : List ExV) (n : Int) (y : ExV), y ∈ l → g y ≤ l.foldl (fun n y => max n (g y)) n
  | z :: l, n, y, h => by
    rw [List.foldl_cons]
    rcases List.mem_cons.1 h with rfl | h
    · have := foldl_max_ge g l (max n (g y))
      omega
    · exact foldl_max_mem g l _ y h
theorem deepX_pos : ∀ (f : Nat) (x : ExV), 1 ≤ deepX f x
  | 0, _ => by unfold deepX; omega
  | f + 1, x => by
    have := foldl_max_ge (deepX f) (x.sub.take 100) 0
    unfold deepX
    omega
theorem countX_pos : ∀ (f : Nat) (x : ExV), 1 ≤ countX f x
  | 0, _ => by unfold countX; omega
  | f + 1, x => by
    have hg : ∀ (l : List ExV) (n : Int), (∀ y ∈ l, 1 ≤ countX f y) → n ≤ l.foldl (fun n y => if n < 100 then n + countX f y else n) n := by
      intro l
      induction l with
      | nil => intro n _; simp
      | cons y l ih =>
        intro n h
        have h1 := h y (by simp)
        rw [List.foldl_cons]
        have := ih (if n < 100 then n + countX f y else n) (fun z hz => h z (by simp [hz]))
        split at this <;> split <;> omega
    have := hg x.sub 1 (fun y _ => countX_pos f y)
    unfold countX
    omega
theorem count_len (f : Nat) : ∀ (l : List ExV) (n : Int), l.foldl (fun n y => if n < 100 then n + countX f y else n) n < 100 → n + (l.length : Int) ≤ l.foldl (fun n y => if n < 100 then n + countX f y else n) n
  | [], n, _ => by simp
  | y :: l, n, h => by
    rw [List.foldl_cons] at h ⊢
    have h1 := countX_pos f y
    have h2 := count_len f l _ h
    rw [List.length_cons]
    by_cases hn : n < 100
    · rw [if_pos hn] at h2 h ⊢
      omega
    · rw [if_neg hn] at h2 h ⊢
      omega
theorem deep_low : ∀ (f : Nat) (k : Nat) (x : ExV), k ≤ f → countX f x < 100 → deepX f x ≤ k → k < 20 → lowX k x
  | 0, k, x, hk, hc, hd, _ => by unfold countX at hc; omega
  | f + 1, 0, x, hk, hc, hd, _ => by have := deepX_pos (f + 1) x; omega
  | f + 1, k + 1, x, hk, hc, hd, hk2 => by
    unfold countX at hc
    unfold deepX at hd
    have hl := count_len f x.sub 1 (by omega)
    have ht : x.sub.take 100 = x.sub := List.take_of_length_le (by omega)
    rw [ht] at hd
    intro y hy
    have h1 := foldl_max_mem (deepX f) x.sub 0 y hy
    refine deep_low f k y (by omega) ?_ (by omega) (by omega)
    have hg : ∀ (l : List ExV) (n : Int), l.foldl (fun n y => if n < 100 then n + countX f y else n) n < 100 → 0 ≤ n → y ∈ l → countX f y < 100 := by
      intro l
      induction l with
      | nil => intro n _ _ h; cases h
      | cons z l ih =>
        intro n h h0 hm
        rw [List.foldl_cons] at h
        have hz := countX_pos f z
        have h2 := count_len f l _ h
        by_cases hn : n < 100
        · rw [if_pos hn] at h h2
          rcases List.mem_cons.1 hm with rfl | hm
          · omega
          · exact ih _ h (by omega) hm
        · rw [if_neg hn] at h h2
          omega
    exact hg x.sub 1 (by omega) (by omega) hy
theorem fits_low {x : ExV} (h : fitsX x = true) : lowX 8 x := by
  unfold fitsX at h
  rw [Bool.and_eq_true, decide_eq_true_eq, decide_eq_true_eq] at h
  exact deep_low 21 8 x (by omega) (by omega) (by exact_mod_cast h.2) (by omega)
def smallB (s : SetV) : Bool := decide (s.ints.length ≤ 6) && decide (s.strs.length ≤ 6)
def nodeX (x : ExV) : Bool :=
  if x.kind = 1 then decide (0 ≤ x.attr ∧ x.attr ≤ 3 ∧ x.sub.length = 0) && (rightSet x.set && smallB x.set)
  else if x.kind = 2 ∨ x.kind = 3 ∨ x.kind = 4 then (decide (x.attr = 0) && sameB x.set noSet) && decide (x.kind = 4 → x.sub.length = 1)
  else false
def eachX : Nat → ExV → Bool
  | 0, _ => false
  | n + 1, x => nodeX x && x.sub.all (eachX n)
def rightX (x : ExV) : Bool := fitsX x && eachX 8 x
def andX (l : List ExV) : ExV := ⟨2, 0, noSet, l⟩
def orX (l : List ExV) : ExV := ⟨3, 0, noSet, l⟩
def notX (x : ExV) : ExV := ⟨4, 0, noSet, [x]⟩
def atomX (attr : Int) (s : SetV) : ExV := ⟨1, attr, s, []⟩
theorem all_congr_mem {α : Type} (p q : α → Bool) : ∀ (l : List α), (∀ y ∈ l, p y = q y) → l.all p = l.all q
  | [], _ => rfl
  | y :: l, h => by rw [List.all_cons, List.all_cons, h y (by simp), all_congr_mem p q l fun z hz => h z (by simp [hz])]
theorem rightX_low {x : ExV} (h : rightX x = true) : lowX 8 x := by
  unfold rightX at h
  rw [Bool.and_eq_true] at h
  exact fits_low h.1
end Go.Proofs.YtlmdcaemjaldfaaGreatDoor
namespace Go.Proofs.YtlmdcaemjaldfaaGreatDoor
def joinL : List (List UInt8) → List UInt8
  | [] => []
  | [a] => a
  | a :: b :: l => a ++ 32 :: joinL (b :: l)
def rgTxt (r : Rg) : List UInt8 := if r.1 < r.2 then Lib.itoa r.1 ++ (46 :: 46 :: Lib.itoa r.2) else Lib.itoa r.1
abbrev Pt := Bool ⊕ (Rg ⊕ ByteArray)
abbrev ptAb : Pt := .inl false
abbrev ptCo : Pt := .inl true
abbrev ptRg (r : Rg) : Pt := .inr (.inl r)
abbrev ptSt (s : ByteArray) : Pt := .inr (.inr s)
def ptTxt : Pt → List UInt8
  | .inl false => [45]
  | .inl true => [126]
  | .inr (.inl r) => rgTxt r
  | .inr (.inr s) => quoteL s.data.toList
def partsS (S : SetV) : List Pt := (if S.absent then [ptAb] else []) ++ (S.ints.map ptRg ++ ((if S.co then [ptCo] else []) ++ S.strs.map ptSt))
def setTxt (S : SetV) : List UInt8 := 91 :: (joinL ((partsS S).map ptTxt) ++ [93])
def nameL (i : Int) : List UInt8 := [UInt8.ofNat (97 + i.toNat)]
def exTxt : Nat → ExV → List UInt8
  | 0, _ => []
  | n + 1, x =>
    if x.kind = 2 then 38 :: 40 :: (joinL (x.sub.map (exTxt n)) ++ [41])
    else if x.kind = 3 then 124 :: 40 :: (joinL (x.sub.map (exTxt n)) ++ [41])
    else if x.kind = 4 then 33 :: (x.sub.head?.elim [] (exTxt n))
    else nameL x.attr ++ 58 :: setTxt x.set
def vaTxt (p : Va) : List UInt8 := if p.1 = 1 then Lib.itoa p.2.1 else if p.1 = 2 then quoteL p.2.2.data.toList else [45]
def evItems (e : EvV) : List Nat := [0, 1, 2, 3].filter fun i => decide (¬ (e.get i).1 = 0)
def evItem (e : EvV) (i : Nat) : List UInt8 := nameL i ++ 61 :: vaTxt (e.get i)
def evTxt (e : EvV) : List UInt8 := 123 :: (joinL ((evItems e).map (evItem e)) ++ [125])
def cut (m l : List UInt8) : Option (List UInt8) := if m.isPrefixOf l then some (l.drop m.length) else none
theorem cut_hit (m l : List UInt8) : cut m (m ++ l) = some l := by
  unfold cut
  rw [if_pos (List.isPrefixOf_iff_prefix.2 ⟨l, rfl⟩), List.drop_left]
theorem cut_one (c : UInt8) (l : List UInt8) : cut [c] (c :: l) = some l := cut_hit [c] l
theorem cut_not (c d : UInt8) (m l : List UInt8) (h : c ≠ d) : cut (c :: m) (d :: l) = none := by
  unfold cut
  rw [if_neg]
  intro hp
  obtain ⟨t, e⟩ := List.isPrefixOf_iff_prefix.1 hp
  rw [List.cons_append] at e
  exact h (List.cons.inj e).1
theorem cut_some {m l r : List UInt8} (h : cut m l = some r) : l = m ++ r := by
  unfold cut at h
  split at h
  · rename_i hp
    obtain ⟨t, e⟩ := List.isPrefixOf_iff_prefix.1 hp
    subst e
    rw [List.drop_left] at h
    injection h with h
    rw [h]
  · cases h
theorem cut_len {m l r : List UInt8} (h : cut m l = some r) : l.length = m.length + r.length := by rw [cut_some h, List.length_append]
def itemsL {σ : Type} (stop : UInt8) (f : σ → List UInt8 → Option (σ × List UInt8)) : Nat → Bool → σ → List UInt8 → Option (σ × List UInt8)
  | 0, _, _, _ => none
  | k + 1, first, a, l =>
    match cut [stop] l with
    | some r => some (a, r)
    | none =>
      match (if first then some l else cut [32] l) with
      | none => none
      | some l' =>
        match f a l' with
        | none => none
        | some (a', r) => itemsL stop f k false a' r
def valL (l : List UInt8) : Option (Va × List UInt8) :=
  match readL l with
  | none => none
  | some (k, n, s, long) => some ((k, n, ⟨s.toArray⟩), l.drop long)
def hiL (lo : Int) (l : List UInt8) : Option (Int × List UInt8) :=
  match cut [46, 46] l with
  | none => some (lo, l)
  | some r =>
    match valL r with
    | none => none
    | some (v, r') => if v.1 = 1 then some (v.2.1, r') else none
def partL (S : SetV) (l : List UInt8) : Option (SetV × List UInt8) :=
  match cut [126] l with
  | some r => some ({ S with co := true }, r)
  | none =>
    match valL l with
    | none => none
    | some (v, r) =>
      if v.1 = 1 then (hiL v.2.1 r).map fun q => ({ S with ints := S.ints ++ [(v.2.1, q.1)] }, q.2)
      else if v.1 = 2 then some ({ S with strs := S.strs ++ [v.2.2] }, r)
      else some ({ S with absent := true }, r)
def setL (l : List UInt8) : Option (SetV × List UInt8) :=
  match cut [91] l with
  | none => none
  | some r => itemsL 93 partL (r.length + 1) true noSet r
def attrL : List UInt8 → Option (Int × List UInt8)
  | [] => none
  | c :: l => if 97 ≤ c.toNat ∧ c.toNat ≤ 100 then some ((c.toNat : Int) - 97, l) else none
def atomL (l : List UInt8) : Option (ExV × List UInt8) :=
  match attrL l with
  | none => none
  | some (a, r) =>
    match cut [58] r with
    | none => none
    | some r' => (setL r').map fun q => (atomX a q.1, q.2)
def subL (g : List UInt8 → Option (ExV × List UInt8)) (acc : List ExV) (l : List UInt8) : Option (List ExV × List UInt8) := (g l).map fun q => (acc ++ [q.1], q.2)
def listL (g : List UInt8 → Option (ExV × List UInt8)) (l : List UInt8) : Option (List ExV × List UInt8) :=
  match cut [40] l with
  | none => none
  | some r => itemsL 41 (subL g) (r.length + 1) true [] r
def exL : Nat → List UInt8 → Option (ExV × List UInt8)
  | 0, _ => none
  | n + 1, l =>
    match cut [38] l with
    | some r => (listL (exL n) r).map fun q => (andX q.1, q.2)
    | none =>
      match cut [124] l with
      | some r => (listL (exL n) r).map fun q => (orX q.1, q.2)
      | none =>
        match cut [33] l with
        | some r => (exL n r).map fun q => (notX q.1, q.2)
        | none => atomL l
theorem joinL_cons (a : List UInt8) (l : List (List UInt8)) (h : l ≠ []) : joinL (a :: l) = a ++ 32 :: joinL l := by
  cases l with
  | nil => exact absurd rfl h
  | cons b l => rfl
theorem items_go {σ α : Type} (stop : UInt8) (hs : stop ≠ 32) (f : σ → List UInt8 → Option (σ × List UInt8)) (txt : α → List UInt8) (add : σ → α → σ) :
    ∀ (xs : List α) (k : Nat) (first : Bool) (acc : σ) (rest : List UInt8), xs.length < k →
    (∀ x ∈ xs, ∀ acc c r, (c = 32 ∨ c = stop) → f acc (txt x ++ c :: r) = some (add acc x, c :: r)) → (∀ x ∈ xs, ∃ b t, txt x = b :: t ∧ b ≠ stop) →
    itemsL stop f k first acc ((if first ∨ xs = [] then [] else [32]) ++ (joinL (xs.map txt) ++ stop :: rest)) = some (xs.foldl add acc, rest)
  | [], k + 1, first, acc, rest, hk, h, hn => by
    unfold itemsL
    simp only [or_true, if_true, List.map_nil, joinL, List.nil_append, cut_one, List.foldl_nil]
  | x :: xs, k + 1, first, acc, rest, hk, h, hn => by
    obtain ⟨b, t, eb, nb⟩ := hn x (by simp)
    have ih := items_go stop hs f txt add xs k false (add acc x) rest (by simpa using hk) (fun y hy => h y (by simp [hy])) (fun y hy => hn y (by simp [hy]))
    have hf : f acc (joinL ((x :: xs).map txt) ++ stop :: rest) = some (add acc x, (if xs = [] then [] else [32]) ++ (joinL (xs.map txt) ++ stop :: rest)) := by
      cases xs with
      | nil =>
        have := h x (by simp) acc stop rest (Or.inr rfl)
        simpa [joinL] using this
      | cons y ys =>
        have := h x (by simp) acc 32 (joinL ((y :: ys).map txt) ++ stop :: rest) (Or.inl rfl)
        rw [List.map_cons, joinL_cons _ _ (by simp), List.append_assoc, List.cons_append, this]
        simp
    have hc : cut [stop] ((if first ∨ (x :: xs) = [] then [] else [32]) ++ (joinL ((x :: xs).map txt) ++ stop :: rest)) = none := by
      cases first with
      | false => exact cut_not _ _ _ _ hs
      | true =>
        have e : ∃ t', joinL ((x :: xs).map txt) ++ stop :: rest = b :: t' := by
          cases xs with
          | nil => exact ⟨t ++ stop :: rest, by simp [joinL, eb]⟩
          | cons y ys => exact ⟨t ++ 32 :: joinL ((y :: ys).map txt) ++ stop :: rest, by rw [List.map_cons, joinL_cons _ _ (by simp), eb]; simp⟩
        obtain ⟨t', e⟩ := e
        simp only [true_or, if_true, List.nil_append]
        rw [e]
        exact cut_not _ _ _ _ (Ne.symm nb)
    unfold itemsL
    rw [hc]
    have hl : (if first = true then some ((if first ∨ (x :: xs) = [] then [] else [32]) ++ (joinL ((x :: xs).map txt) ++ stop :: rest)) else cut [32] ((if first ∨ (x :: xs) = [] then [] else [32]) ++ (joinL ((x :: xs).map txt) ++ stop :: rest))) = some (joinL ((x :: xs).map txt) ++ stop :: rest) := by
      cases first with
      | false => simp only [Bool.false_eq_true, if_false, false_or, reduceCtorEq, List.cons_append, List.nil_append, cut_one]
      | true => rfl
    dsimp only
    rw [hl]
    dsimp only
    rw [hf]
    dsimp only
    have e2 : (if (false = true) ∨ xs = [] then ([] : List UInt8) else [32]) = (if xs = [] then [] else [32]) := by simp
    rw [e2] at ih
    rw [ih, List.foldl_cons]
theorem items_back {σ α : Type} (stop : UInt8) (hs : stop ≠ 32) (f : σ → List UInt8 → Option (σ × List UInt8)) (txt : α → List UInt8) (add : σ → α → σ)
    (xs : List α) (k : Nat) (acc : σ) (rest : List UInt8) (hk : xs.length < k)
    (h : ∀ x ∈ xs, ∀ acc c r, (c = 32 ∨ c = stop) → f acc (txt x ++ c :: r) = some (add acc x, c :: r)) (hn : ∀ x ∈ xs, ∃ b t, txt x = b :: t ∧ b ≠ stop) :
    itemsL stop f k true acc (joinL (xs.map txt) ++ stop :: rest) = some (xs.foldl add acc, rest) := by
  have := items_go stop hs f txt add xs k true acc rest hk h hn
  simpa using this
theorem joinL_len {α : Type} (txt : α → List UInt8) : ∀ (xs : List α), (∀ x ∈ xs, ∃ b t, txt x = b :: t) → xs.length ≤ (joinL (xs.map txt)).length
  | [], _ => by simp
  | [x], h => by
    obtain ⟨b, t, e⟩ := h x (by simp)
    simp [joinL, e]
  | x :: y :: l, h => by
    have ih := joinL_len txt (y :: l) fun z hz => h z (by simp [hz])
    rw [List.map_cons, joinL_cons _ _ (by simp), List.length_append, List.length_cons]
    simp only [List.length_cons] at ih ⊢
    omega
theorem notDig_of {c : UInt8} {m : List UInt8} (h : isDig c = false) : c :: m = [] ∨ isDig ((c :: m).getD 0 0) = false := Or.inr h
theorem val_int (n : Int) (c : UInt8) (m : List UInt8) (h0 : -9223372036854775808 ≤ n) (h1 : n ≤ 9223372036854775807) (hc : isDig c = false) : valL (Lib.itoa n ++ c :: m) = some ((1, n, ⟨#[]⟩), c :: m) := by
  unfold valL
  rw [read_itoa n (c :: m) h0 h1 (notDig_of hc)]
  dsimp only
  rw [List.drop_left]
theorem val_str (s : ByteArray) (m : List UInt8) (h8 : s.size ≤ 8) : valL (quoteL s.data.toList ++ m) = some ((2, 0, s), m) := by
  unfold valL
  rw [read_quoted s.data.toList m (by rw [← Lib.size_eq]; exact h8)]
  dsimp only
  rw [List.drop_left]
theorem ne_of_toNat {a b : UInt8} (h : a.toNat ≠ b.toNat) : a ≠ b := fun e => h (by rw [e])
theorem attr_back (a : Int) (h0 : 0 ≤ a) (h3 : a ≤ 3) (r : List UInt8) : attrL (nameL a ++ r) = some (a, r) := by
  have e : (UInt8.ofNat (97 + a.toNat)).toNat = 97 + a.toNat := by rw [UInt8.toNat_ofNat']; omega
  unfold nameL
  rw [List.cons_append, List.nil_append]
  show (if 97 ≤ (UInt8.ofNat (97 + a.toNat)).toNat ∧ (UInt8.ofNat (97 + a.toNat)).toNat ≤ 100 then some (((UInt8.ofNat (97 + a.toNat)).toNat : Int) - 97, r) else none) = some (a, r)
  rw [e, if_pos (by omega), show ((97 + a.toNat : Nat) : Int) - 97 = a from by omega]
theorem node_kind {x : ExV} (h : nodeX x = true) : x.kind = 1 ∨ x.kind = 2 ∨ x.kind = 3 ∨ x.kind = 4 := by
  unfold nodeX at h
  split at h
  · exact Or.inl ‹_›
  · split at h
    · exact Or.inr ‹_›
    · cases h
theorem node_at {x : ExV} (h : nodeX x = true) (k : x.kind = 1) : 0 ≤ x.attr ∧ x.attr ≤ 3 ∧ x = atomX x.attr x.set := by
  obtain ⟨xk, xa, xs, xl⟩ := x
  dsimp only at k
  subst k
  unfold nodeX at h
  simp only [if_true, Bool.and_eq_true, decide_eq_true_eq] at h
  obtain ⟨⟨h0, h3, hl⟩, _⟩ := h
  rw [List.length_eq_zero_iff] at hl
  subst hl
  exact ⟨h0, h3, rfl⟩
theorem node_op {x : ExV} (h : nodeX x = true) (k : ¬ x.kind = 1) : x = ⟨x.kind, 0, noSet, x.sub⟩ ∧ (x.kind = 4 → x.sub.length = 1) := by
  obtain ⟨xk, xa, xs, xl⟩ := x
  dsimp only at k
  unfold nodeX at h
  rw [if_neg k] at h
  split at h
  · simp only [Bool.and_eq_true, decide_eq_true_eq] at h
    obtain ⟨⟨ha, hs⟩, h4⟩ := h
    have : xs = noSet := (sameB_iff _ _).1 hs
    subst this; subst ha
    exact ⟨rfl, h4⟩
  · cases h
theorem ex_first (n : Nat) (x : ExV) (h : eachX (n + 1) x = true) : ∃ b t, exTxt (n + 1) x = b :: t ∧ b ≠ 41 := by
  unfold eachX at h
  rw [Bool.and_eq_true] at h
  unfold exTxt
  split
  · exact ⟨38, _, rfl, by decide⟩
  · split
    · exact ⟨124, _, rfl, by decide⟩
    · split
      · exact ⟨33, _, rfl, by decide⟩
      · have k1 : x.kind = 1 := by rcases node_kind h.1 with k | k | k | k <;> first | exact k | contradiction
        obtain ⟨h0, h3, _⟩ := node_at h.1 k1
        have e : (UInt8.ofNat (97 + x.attr.toNat)).toNat = 97 + x.attr.toNat := by rw [UInt8.toNat_ofNat']; omega
        exact ⟨_, _, rfl, ne_of_toNat (by rw [e]; show _ ≠ 41; omega)⟩
def parseP (l : List UInt8) : Option ExV :=
  match exL (l.length + 9) l with
  | none => none
  | some (x, _) => if rightX x = true ∧ (exTxt 8 x).length ≤ 1024 ∧ exTxt 8 x = l then some x else none
theorem rightX_each {x : ExV} (h : rightX x = true) : eachX 8 x = true := by
  unfold rightX at h
  rw [Bool.and_eq_true] at h
  exact h.2
end Go.Proofs.YtlmdcaemjaldfaaGreatDoor
namespace Go.Proofs.YtlmdcaemjaldfaaGreatDoor
open Go.RowKit
attribute [local go_sem ↓] Go.wp_at_zero Go.wp_at_succ
set_option maxHeartbeats 400000 in
theorem refRight_any (k n : Int) (s : ByteArray) (w : World) (_hs : s.size ≤ maxLen) :
    Calls Tryz.prog 34 #[.agg #[.int .i64 k, .int .i64 n, .string s]] w fun e w' => e = .returned (.bool (rightB k n s)) ∧ Below w.heap.size w w' := by
  unfold maxLen at _hs
  by_cases k0 : k = 0
  · subst k0
    by_cases hn : n = 0
    · subst hn
      go_enter Tryz.func34, Tryz.ntmps34
      go_wp2
      go_ret
      exact ⟨ret_bool (by simp [rightB]), (Below.refl _ _).alloc (Nat.le_refl _) _⟩
    · have hn' : (n == 0) = false := by simp [hn]
      go_enter Tryz.func34, Tryz.ntmps34
      go_wp2
      go_ret
      exact ⟨ret_bool (by simp [rightB, hn]), (Below.refl _ _).alloc (Nat.le_refl _) _⟩
  have k0' : (k == 0) = false := by simp [k0]
  by_cases k1 : k = 1
  · subst k1
    go_enter Tryz.func34, Tryz.ntmps34
    go_wp2
    go_ret
    exact ⟨ret_bool (by simp [rightB]), (Below.refl _ _).alloc (Nat.le_refl _) _⟩
  have k1' : (k == 1) = false := by simp [k1]
  by_cases k2 : k = 2
  · subst k2
    by_cases hn : n = 0
    · subst hn
      go_enter Tryz.func34, Tryz.ntmps34
      go_wp2
      go_ret
      exact ⟨ret_bool (by simp [rightB]), (Below.refl _ _).alloc (Nat.le_refl _) _⟩
    · have hn' : (n == 0) = false := by simp [hn]
      go_enter Tryz.func34, Tryz.ntmps34
      go_wp2
      go_ret
      exact ⟨ret_bool (by simp [rightB, hn]), (Below.refl _ _).alloc (Nat.le_refl _) _⟩
  have k2' : (k == 2) = false := by simp [k2]
  go_enter Tryz.func34, Tryz.ntmps34
  go_wp2
  go_ret
  exact ⟨ret_bool (by simp [rightB, k0, k1, k2]), (Below.refl _ _).alloc (Nat.le_refl _) _⟩
end Go.Proofs.YtlmdcaemjaldfaaGreatDoor
namespace Go.Proofs.YtlmdcaemjaldfaaGreatDoor
open Go.RowKit
set_option maxHeartbeats 400000 in
theorem w_right_any (k n : Int) (s : ByteArray) (w : World) (_hs : s.size ≤ maxLen) :
    Calls Tryz.prog 57 #[.agg #[.int .i64 k, .int .i64 n, .string s]] w fun e w' => e = .returned (.bool (rightB k n s)) ∧ Below w.heap.size w w' := by
  unfold maxLen at _hs
  by_cases k0 : k = 0
  · subst k0
    by_cases hn : n = 0
    · subst hn
      go_enter Tryz.func57, Tryz.ntmps57
      go_wp2
      go_ret
      exact ⟨ret_bool (by simp [rightB]), (Below.refl _ _).alloc (Nat.le_refl _) _⟩
    · have hn' : (n == 0) = false := by simp [hn]
      go_enter Tryz.func57, Tryz.ntmps57
      go_wp2
      go_ret
      exact ⟨ret_bool (by simp [rightB, hn]), (Below.refl _ _).alloc (Nat.le_refl _) _⟩
  have k0' : (k == 0) = false := by simp [k0]
  by_cases k1 : k = 1
  · subst k1
    go_enter Tryz.func57, Tryz.ntmps57
    go_wp2
    go_ret
    exact ⟨ret_bool (by simp [rightB]), (Below.refl _ _).alloc (Nat.le_refl _) _⟩
  have k1' : (k == 1) = false := by simp [k1]
  by_cases k2 : k = 2
  · subst k2
    by_cases hn : n = 0
    · subst hn
      go_enter Tryz.func57, Tryz.ntmps57
      go_wp2
      go_ret
      exact ⟨ret_bool (by simp [rightB]), (Below.refl _ _).alloc (Nat.le_refl _) _⟩
    · have hn' : (n == 0) = false := by simp [hn]
      go_enter Tryz.func57, Tryz.ntmps57
      go_wp2
      go_ret
      exact ⟨ret_bool (by simp [rightB, hn]), (Below.refl _ _).alloc (Nat.le_refl _) _⟩
  have k2' : (k == 2) = false := by simp [k2]
  go_enter Tryz.func57, Tryz.ntmps57
  go_wp2
  go_ret
  exact ⟨ret_bool (by simp [rightB, k0, k1, k2]), (Below.refl _ _).alloc (Nat.le_refl _) _⟩
set_option maxHeartbeats 400000 in
theorem escaped_any (c : Int) (w : World) :
    Calls Tryz.prog 67 #[.int .u8 c] w fun e w' => e = .returned (.bool (escB c)) ∧ w' = w := by
  go_enter Tryz.func67, Tryz.ntmps67
  go_wp2
  all_goals (go_ret; refine ⟨ret_bool ?_, rfl⟩)
  all_goals first
    | rfl
    | (simp [escB]; omega)
theorem w_two_new (w : World) (o1 o2 : Obj) : Below w.heap.size w ((w.alloc o1).alloc o2) := ((Below.refl _ _).alloc (Nat.le_refl _) _).alloc (by simp) _
end Go.Proofs.YtlmdcaemjaldfaaGreatDoor
namespace Go.Proofs.YtlmdcaemjaldfaaGreatDoor
theorem r_disable (w : World) : (callFunc 134 #[]).run Tryz.prog w = .ok (.value (.tuple #[])) w := run_call_mark0 Tryz.func134 (by kernel_rfl) (by kernel_rfl) (by kernel_rfl) .disable (by kernel_rfl) w
theorem r_enable (w : World) : (callFunc 136 #[]).run Tryz.prog w = .ok (.value (.tuple #[])) w := run_call_mark0 Tryz.func136 (by kernel_rfl) (by kernel_rfl) (by kernel_rfl) .enable (by kernel_rfl) w
theorem r_acquire (a : Addr) (w : World) : (callFunc 137 #[.pointer (some a)]).run Tryz.prog w = .ok (.value (.tuple #[])) w := run_call_marked Tryz.func137 (by kernel_rfl) (by kernel_rfl) (by kernel_rfl) .acquire (by kernel_rfl) a w
theorem r_releaseMerge (a : Addr) (w : World) : (callFunc 139 #[.pointer (some a)]).run Tryz.prog w = .ok (.value (.tuple #[])) w := run_call_marked Tryz.func139 (by kernel_rfl) (by kernel_rfl) (by kernel_rfl) .releaseMerge (by kernel_rfl) a w
set_option maxRecDepth 100000 in
theorem store_deferred (a : Addr) (x : Value) (u : FrameMode) (w : World) (hc : w.cell? a = some x) (hz : w.frozen? a = false) :
    CallsD Tryz.prog 111 #[.pointer (some a), .bool true] u w fun e u' w' => u' = u ∧ (e = .returned (.tuple #[]) ∧ w' = w.drew.setCell a (.int .u32 1)) := by
  have hc' : w.drew.cell? a = some x := by go_simp
  have hz' : w.drew.frozen? a = false := by go_simp
  have hst := run_call_store (P := Tryz.prog) Tryz.func121 (by kernel_rfl) (by kernel_rfl) (by kernel_rfl) (by kernel_rfl) (k := .u32) (y := 1) hc' hz'
  go_enter_d Tryz.func111, Tryz.ntmps111
  go_wp2
  go_region_calls
  all_goals (go_end0; exact ⟨rfl, rfl⟩)
set_option maxRecDepth 100000 in
set_option maxHeartbeats 800000 in
theorem unlock_deferred (a : Addr) (u : FrameMode) (w : World) (hc : w.cell? a = some (.int .i32 1)) (hz : w.frozen? a = false) :
    CallsD Tryz.prog 110 #[.pointer (some a)] u w fun e u' w' => u' = u ∧ (e = .returned (.tuple #[]) ∧ w' = w.setCell a (.int .i32 0)) := by
  have hd := r_disable
  have he := r_enable
  have hr := r_releaseMerge
  have hadd := run_call_add (P := Tryz.prog) Tryz.func140 (by kernel_rfl) (by kernel_rfl) (by kernel_rfl) .i32 (by kernel_rfl) (y := -1) (s := 0) hc hz (by simp [go_sem]; rfl)
  have hcv := run_convert_to_unsafe (P := Tryz.prog) (src := 181) (dst := 146) Tryz.underlying181 Tryz.underlying146 (by kernel_rfl) hc
  go_enter_d Tryz.func110, Tryz.ntmps110
  go_wp2
  go_end0
  go_wp2
  go_end0
  exact ⟨rfl, rfl⟩
set_option maxRecDepth 100000 in
set_option maxHeartbeats 800000 in
theorem lock_free (a : Addr) (w : World) (hc : w.cell? a = some (.int .i32 0)) (hz : w.frozen? a = false) :
    Calls Tryz.prog 109 #[.pointer (some a)] w fun e w' => e = .returned (.tuple #[]) ∧ w' = w.setCell a (.int .i32 1) := by
  have hd := r_disable
  have he := r_enable
  have ha := r_acquire
  have hcas := run_call_cas_hit (P := Tryz.prog) Tryz.func135 (by kernel_rfl) (by kernel_rfl) (by kernel_rfl) .i32 (by kernel_rfl) (y := 1) hc hz
  have hc' : (w.setCell a (.int .i32 1)).cell? a = some (.int .i32 1) := World.cell?_setCell_same w a _ hc
  have hcv := run_convert_to_unsafe (P := Tryz.prog) (src := 181) (dst := 146) Tryz.underlying181 Tryz.underlying146 (by kernel_rfl) hc'
  go_enter Tryz.func109, Tryz.ntmps109
  go_wp2
  first | go_end0 | (simp only [Exit.inBlock, Exit.then]; refine bodyPost_ret (results_none rfl _ _ _) rfl ?_) | refine bodyPost_ret (results_none rfl _ _ _) rfl ?_
  go_wp2
  go_end0
  exact ⟨rfl, rfl⟩
end Go.Proofs.YtlmdcaemjaldfaaGreatDoor
namespace Go.Proofs.YtlmdcaemjaldfaaGreatDoor
open Go.RowKit
set_option maxHeartbeats 800000 in
theorem lays_names (b : Nat) (pl : Addr) (hpb : ¬ b = pl.block) (x3 x4 x5 x6 : Value) (w : World) (hp : w.cell? pl = some (.pointer (some ⟨b, 0, none⟩)))
    (h3 : w.cell? ⟨b, 3, none⟩ = some x3) (h4 : w.cell? ⟨b, 4, none⟩ = some x4) (h5 : w.cell? ⟨b, 5, none⟩ = some x5) (h6 : w.cell? ⟨b, 6, none⟩ = some x6)
    (f3 : w.frozen? ⟨b, 3, none⟩ = false) (f4 : w.frozen? ⟨b, 4, none⟩ = false) (f5 : w.frozen? ⟨b, 5, none⟩ = false) (f6 : w.frozen? ⟨b, 6, none⟩ = false) :
    Calls Tryz.prog 82 #[.pointer (some pl)] w fun e w' => e = .returned (.tuple #[]) ∧
      w' = (((w.setCell ⟨b, 3, none⟩ (.string ⟨#[97]⟩)).setCell ⟨b, 4, none⟩ (.string ⟨#[98]⟩)).setCell ⟨b, 5, none⟩ (.string ⟨#[99]⟩)).setCell ⟨b, 6, none⟩ (.string ⟨#[100]⟩) := by
  go_enter Tryz.func82, Tryz.ntmps82
  go_wp2
  go_end0
  exact ⟨rfl, rfl⟩
def slowW (w : World) (b : Nat) : World :=
  (((((((w.setCell ⟨b, 1, none⟩ (.int .i32 1)).setCell ⟨b, 3, none⟩ (.string ⟨#[97]⟩)).setCell ⟨b, 4, none⟩ (.string ⟨#[98]⟩)).setCell ⟨b, 5, none⟩ (.string ⟨#[99]⟩)).setCell ⟨b, 6, none⟩ (.string ⟨#[100]⟩)).drew.setCell ⟨b, 0, none⟩ (.int .u32 1)).setCell ⟨b, 1, none⟩ (.int .i32 0))
theorem so {w : World} {a b : Addr} {u v : Value} (h : a ≠ b) (hv : w.cell? b = some v) : (w.setCell a u).cell? b = some v := (World.cell?_setCell_other _ _ _ _ h).trans hv
set_option maxRecDepth 100000 in
set_option maxHeartbeats 1600000 in
theorem slow_any (b : Nat) (pl : Addr) (hpb : ¬ b = pl.block) (x3 x4 x5 x6 : Value) (w : World) (hp : w.cell? pl = some (.pointer (some ⟨b, 0, none⟩)))
    (h0 : w.cell? ⟨b, 0, none⟩ = some (.int .u32 0)) (h1 : w.cell? ⟨b, 1, none⟩ = some (.int .i32 0))
    (h3 : w.cell? ⟨b, 3, none⟩ = some x3) (h4 : w.cell? ⟨b, 4, none⟩ = some x4) (h5 : w.cell? ⟨b, 5, none⟩ = some x5) (h6 : w.cell? ⟨b, 6, none⟩ = some x6)
    (hf : ∀ i, w.frozen? ⟨b, i, none⟩ = false) :
    Calls Tryz.prog 98 #[.pointer (some ⟨b, 0, none⟩), .func (.func 82) #[] #[.pointer (some pl)]] w fun e w' => e = .returned (.tuple #[]) ∧ w' = slowW w b := by
  unfold slowW
  have n1 : ∀ j, j ≠ 1 → (⟨b, 1, none⟩ : Addr) ≠ ⟨b, j, none⟩ := fun j hj h => hj (by simpa using (congrArg Addr.off h).symm)
  have np : ∀ j, (⟨b, j, none⟩ : Addr) ≠ pl := fun j h => hpb (by rw [← h])
  have hl := run_call_load (P := Tryz.prog) Tryz.func108 (by kernel_rfl) (by kernel_rfl) (by kernel_rfl) .u32 (by kernel_rfl) (w := w.setCell ⟨b, 1, none⟩ (.int .i32 1)) (a := ⟨b, 0, none⟩) (x := 0) (so (n1 _ (by decide)) h0)
  have hcl := lays_names b pl hpb x3 x4 x5 x6 (w.setCell ⟨b, 1, none⟩ (.int .i32 1)) (so (np _) hp) (so (n1 _ (by decide)) h3) (so (n1 _ (by decide)) h4) (so (n1 _ (by decide)) h5) (so (n1 _ (by decide)) h6) (by simp [hf]) (by simp [hf]) (by simp [hf]) (by simp [hf])
  have hnot : ∀ (x : Bool) (w : World), (Op.unary .not (.bool x)).run Tryz.prog w = .ok (.bool (!x)) w := fun _ _ => rfl
  have Hcl := hide hcl
  clear hcl np n1
  go_enter_defers Tryz.func98, Tryz.ntmps98
  go_wp2_with (first | (go_at_call 109; refine (lock_free ⟨b, 1, none⟩ _ (by go_simp) (by go_simp)).mono ?_; rintro e w' ⟨rfl, rfl⟩) | (go_at_call 97; go_in))
  refine (unhide Hcl).mono ?_
  rintro e w' ⟨rfl, rfl⟩
  go_wp2
  refine leaves_cons (f := 111) (args := #[.pointer (some ⟨b, 0, none⟩), .bool true]) (by simp) (by simp [go_sem]) ?_
  have n0 : ∀ (j k : Nat), j ≠ k → (⟨b, j, none⟩ : Addr) ≠ ⟨b, k, none⟩ := fun j k hj h => hj (by simpa using (congrArg Addr.off h))
  refine (store_deferred ⟨b, 0, none⟩ (.int .u32 0) .returning _ ?_ (by simp [hf])).mono ?_
  · exact so (n0 _ _ (by decide)) (so (n0 _ _ (by decide)) (so (n0 _ _ (by decide)) (so (n0 _ _ (by decide)) (so (n0 _ _ (by decide)) h0))))
  rintro e u' w'' ⟨rfl, rfl, rfl⟩
  refine leaves_cons (f := 110) (args := #[.pointer (some ⟨b, 1, none⟩)]) (by simp [settle]) (by simp [go_sem]) ?_
  refine (unlock_deferred ⟨b, 1, none⟩ _ _ ?_ (by simp [hf])).mono ?_
  · refine so (n0 _ _ (by decide)) ?_
    rw [World.cell?_drew]
    exact so (n0 _ _ (by decide)) (so (n0 _ _ (by decide)) (so (n0 _ _ (by decide)) (so (n0 _ _ (by decide)) (World.cell?_setCell_same w _ _ h1))))
  rintro e u' w'' ⟨rfl, rfl, rfl⟩
  simp [Leaves, settle, results, Tryz.results98]
set_option maxRecDepth 100000 in
set_option maxHeartbeats 1600000 in
theorem do_first (b : Nat) (pl : Addr) (hpb : ¬ b = pl.block) (x3 x4 x5 x6 : Value) (w : World) (hp : w.cell? pl = some (.pointer (some ⟨b, 0, none⟩)))
    (h0 : w.cell? ⟨b, 0, none⟩ = some (.int .u32 0)) (h1 : w.cell? ⟨b, 1, none⟩ = some (.int .i32 0))
    (h3 : w.cell? ⟨b, 3, none⟩ = some x3) (h4 : w.cell? ⟨b, 4, none⟩ = some x4) (h5 : w.cell? ⟨b, 5, none⟩ = some x5) (h6 : w.cell? ⟨b, 6, none⟩ = some x6)
    (hf : ∀ i, w.frozen? ⟨b, i, none⟩ = false) :
    Calls Tryz.prog 81 #[.pointer (some ⟨b, 0, none⟩), .func (.func 82) #[] #[.pointer (some pl)]] w fun e w' => e = .returned (.tuple #[]) ∧ w' = slowW w b := by
  have hl := run_call_load (P := Tryz.prog) Tryz.func108 (by kernel_rfl) (by kernel_rfl) (by kernel_rfl) .u32 (by kernel_rfl) h0
  have hnot : ∀ (x : Bool) (w : World), (Op.unary .not (.bool x)).run Tryz.prog w = .ok (.bool (!x)) w := fun _ _ => rfl
  have Hs := hide (slow_any b pl hpb x3 x4 x5 x6 w hp h0 h1 h3 h4 h5 h6 hf)
  go_enter Tryz.func81, Tryz.ntmps81
  go_wp2_with (first | (go_at_call 98; refine (unhide Hs).mono ?_; rintro e w' ⟨rfl, rfl⟩) | (go_at_call 97; go_in))
  go_end0
  exact ⟨rfl, rfl⟩
theorem do_done (a : Addr) (fv : Value) (w : World) (h0 : w.cell? a = some (.int .u32 1)) :
    Calls Tryz.prog 81 #[.pointer (some a), fv] w fun e w' => e = .returned (.tuple #[]) ∧ w' = w := by
  have hl := run_call_load (P := Tryz.prog) Tryz.func108 (by kernel_rfl) (by kernel_rfl) (by kernel_rfl) .u32 (by kernel_rfl) h0
  have hnot : ∀ (x : Bool) (w : World), (Op.unary .not (.bool x)).run Tryz.prog w = .ok (.bool (!x)) w := fun _ _ => rfl
  go_enter Tryz.func81, Tryz.ntmps81
  go_wp2
  go_end0
  exact ⟨rfl, rfl⟩
end Go.Proofs.YtlmdcaemjaldfaaGreatDoor
namespace Go.Proofs.YtlmdcaemjaldfaaGreatDoor
open Go.RowKit
def freshN : Obj := .cells #[.int .u32 0, .int .i32 0, .int .u32 0, .string ⟨#[]⟩, .string ⟨#[]⟩, .string ⟨#[]⟩, .string ⟨#[]⟩] 82 (0, 0)
def doneN : Obj := .cells #[.int .u32 1, .int .i32 0, .int .u32 0, .string ⟨#[97]⟩, .string ⟨#[98]⟩, .string ⟨#[99]⟩, .string ⟨#[100]⟩] 82 (0, 0)
def namesV : Value := .agg #[.string ⟨#[97]⟩, .string ⟨#[98]⟩, .string ⟨#[99]⟩, .string ⟨#[100]⟩]
theorem heap_drew {w : World} {b : Nat} {o : Obj} (h : w.heap[b]? = some o) : w.drew.heap[b]? = some o := h
theorem slow_heap {w : World} {b : Nat} (h : w.heap[b]? = some freshN) : (slowW w b).heap[b]? = some doneN := by
  unfold slowW
  unfold freshN at h
  unfold doneN
  have h1 := heap_setCell (i := 1) (.int .i32 1) h
  generalize w.setCell ⟨b, 1, none⟩ (.int .i32 1) = w1 at h1 ⊢
  have h2 := heap_setCell (i := 3) (.string ⟨#[97]⟩) h1
  generalize w1.setCell ⟨b, 3, none⟩ (.string ⟨#[97]⟩) = w2 at h2 ⊢
  have h3 := heap_setCell (i := 4) (.string ⟨#[98]⟩) h2
  generalize w2.setCell ⟨b, 4, none⟩ (.string ⟨#[98]⟩) = w3 at h3 ⊢
  have h4 := heap_setCell (i := 5) (.string ⟨#[99]⟩) h3
  generalize w3.setCell ⟨b, 5, none⟩ (.string ⟨#[99]⟩) = w4 at h4 ⊢
  have h5 := heap_setCell (i := 6) (.string ⟨#[100]⟩) h4
  generalize w4.setCell ⟨b, 6, none⟩ (.string ⟨#[100]⟩) = w5 at h5 ⊢
  have h6 := heap_setCell (i := 0) (.int .u32 1) (heap_drew h5)
  generalize w5.drew.setCell ⟨b, 0, none⟩ (.int .u32 1) = w6 at h6 ⊢
  have h7 := heap_setCell (i := 1) (.int .i32 0) h6
  rw [h7]
  rfl
theorem grown_refl (w : World) (r : Option Nat) : w.grownBy w r := ⟨rfl, rfl, rfl, Nat.le_refl _, fun _ _ _ => rfl⟩
theorem grown_trans {a b c : World} {r : Option Nat} (h : a.grownBy b r) (k : b.grownBy c r) : a.grownBy c r :=
  ⟨k.os.trans h.os, k.tape.trans h.tape, k.output.trans h.output, Nat.le_trans h.size k.size, fun i hi hr => (k.block i (Nat.lt_of_lt_of_le hi h.size) hr).trans (h.block i hi hr)⟩
theorem grown_setCell {a w : World} {b : Nat} (h : a.grownBy w (some b)) (i : Nat) (v : Value) : a.grownBy (w.setCell ⟨b, i, none⟩ v) (some b) :=
  grown_trans h ⟨rfl, rfl, rfl, by simp [World.setCell], fun k hk hr => Below.heap_setCell _ _ _ _ (fun e => hr (by simp [e]))⟩
theorem grown_drew {a w : World} {r : Option Nat} (h : a.grownBy w r) : a.grownBy w.drew r := ⟨h.os, h.tape, h.output, h.size, h.block⟩
theorem grown_below {a w w' : World} {r : Option Nat} (h : a.grownBy w r) (hb : Below w.heap.size w w') : a.grownBy w' r :=
  grown_trans h ⟨hb.os, hb.tape, hb.output, hb.size, fun k hk _ => hb.block k hk⟩
theorem grown_cell {w w' : World} {b : Nat} (h : w.grownBy w' (some b)) {c : Nat} (hc : c < w.heap.size) (hne : c ≠ b) (i : Nat) : w'.cell? ⟨c, i, none⟩ = w.cell? ⟨c, i, none⟩ :=
  World.cell?_of_block (h.block c hc (by simp [hne]))
theorem grown_frozen {w w' : World} {b : Nat} (h : w.grownBy w' (some b)) {c : Nat} (hc : c < w.heap.size) (hne : c ≠ b) (i : Nat) : w'.frozen? ⟨c, i, none⟩ = w.frozen? ⟨c, i, none⟩ :=
  World.frozen?_of_block (h.block c hc (by simp [hne]))
theorem grown_new {a w : World} {r : Option Nat} (h : a.grownBy w r) {c : Nat} (hc : a.heap.size ≤ c) (i : Nat) (v : Value) : a.grownBy (w.setCell ⟨c, i, none⟩ v) r :=
  ⟨h.os, h.tape, h.output, by simpa [World.setCell] using h.size, fun k hk hr => (Below.heap_setCell _ _ _ _ (by simp; omega)).trans (h.block k hk hr)⟩
theorem slow_grown (w : World) (b : Nat) : w.grownBy (slowW w b) (some b) := by
  unfold slowW
  exact grown_setCell (grown_setCell (grown_drew (grown_setCell (grown_setCell (grown_setCell (grown_setCell (grown_setCell (grown_refl _ _) _ _) _ _) _ _) _ _) _ _)) _ _) _ _
def NamesAt (w : World) (b : Nat) : Prop := w.heap[b]? = some freshN ∨ w.heap[b]? = some doneN
theorem do_any (b : Nat) (pl : Addr) (hpb : ¬ b = pl.block) (w : World) (hp : w.cell? pl = some (.pointer (some ⟨b, 0, none⟩))) (hN : NamesAt w b) :
    Calls Tryz.prog 81 #[.pointer (some ⟨b, 0, none⟩), .func (.func 82) #[] #[.pointer (some pl)]] w fun e w' => e = .returned (.tuple #[]) ∧ w'.heap[b]? = some doneN ∧ w.grownBy w' (some b) := by
  rcases hN with h | h
  · refine (do_first b pl hpb _ _ _ _ w hp (cell_heap h 0) (cell_heap h 1) (cell_heap h 3) (cell_heap h 4) (cell_heap h 5) (cell_heap h 6) (frozen_heap h)).mono ?_
    rintro e w' ⟨rfl, rfl⟩
    exact ⟨rfl, slow_heap h, slow_grown _ _⟩
  · refine (do_done ⟨b, 0, none⟩ _ w (cell_heap h 0)).mono ?_
    rintro e w' ⟨rfl, rfl⟩
    exact ⟨rfl, h, grown_refl _ _⟩
theorem four_stores {w : World} {r : Nat} {x0 x1 x2 x3 a b c d : Value} (r0 : w.cell? ⟨r, 0, none⟩ = some x0) (r1 : w.cell? ⟨r, 1, none⟩ = some x1) (r2 : w.cell? ⟨r, 2, none⟩ = some x2) (r3 : w.cell? ⟨r, 3, none⟩ = some x3) :
    (w.setCell ⟨r, 0, none⟩ a).cell? ⟨r, 0, none⟩ = some a ∧ ((w.setCell ⟨r, 0, none⟩ a).setCell ⟨r, 1, none⟩ b).cell? ⟨r, 1, none⟩ = some b ∧
    (((w.setCell ⟨r, 0, none⟩ a).setCell ⟨r, 1, none⟩ b).setCell ⟨r, 2, none⟩ c).cell? ⟨r, 2, none⟩ = some c ∧ ((((w.setCell ⟨r, 0, none⟩ a).setCell ⟨r, 1, none⟩ b).setCell ⟨r, 2, none⟩ c).setCell ⟨r, 3, none⟩ d).cell? ⟨r, 3, none⟩ = some d := by
  refine ⟨World.cell?_setCell_same _ _ _ r0, World.cell?_setCell_same _ _ _ (so (by simp) r1), World.cell?_setCell_same _ _ _ (so (by simp) (so (by simp) r2)), World.cell?_setCell_same _ _ _ (so (by simp) (so (by simp) (so (by simp) r3)))⟩
set_option maxRecDepth 100000 in
set_option maxHeartbeats 1600000 in
theorem laid_some (b : Nat) (w : World) (hN : NamesAt w b) :
    Calls Tryz.prog 58 #[.pointer (some ⟨b, 0, none⟩)] w fun e w' => e = .returned namesV ∧ w'.heap[b]? = some doneN ∧ w.grownBy w' (some b) := by
  have hb : b < w.heap.size := by rcases hN with h | h <;> exact lt_heap h
  have hmf : ∀ (fn : Fn) (first cap : Array Value) (w : World), (Instr.makeFunc fn first cap).run Tryz.prog w = .ok (.func fn first cap) w := fun _ _ _ _ => rfl
  go_enter Tryz.func58, Tryz.ntmps58
  go_wp2_with fail
  refine (do_any b ⟨w.heap.size, 0, none⟩ (by simp; omega) _ (by simp) ?_).mono ?_
  · rcases hN with h | h
    · exact Or.inl (by rw [Below.heap_alloc _ _ _ (by simp; omega), Below.heap_alloc _ _ _ hb]; exact h)
    · exact Or.inr (by rw [Below.heap_alloc _ _ _ (by simp; omega), Below.heap_alloc _ _ _ hb]; exact h)
  rintro e w1 ⟨rfl, hd, hg⟩
  have hd' := hd
  unfold doneN at hd'
  have c3 := cell_heap hd' 3
  have c4 := cell_heap hd' 4
  have c5 := cell_heap hd' 5
  have c6 := cell_heap hd' 6
  simp at c3 c4 c5 c6
  have p0 := grown_cell hg (c := w.heap.size) (by simp; omega) (by omega) 0
  have r0 := grown_cell hg (c := w.heap.size + 1) (by simp) (by omega) 0
  have r1 := grown_cell hg (c := w.heap.size + 1) (by simp) (by omega) 1
  have r2 := grown_cell hg (c := w.heap.size + 1) (by simp) (by omega) 2
  have r3 := grown_cell hg (c := w.heap.size + 1) (by simp) (by omega) 3
  have z := grown_frozen hg (c := w.heap.size + 1) (by simp) (by omega)
  have g0 : w.grownBy w1 (some b) := grown_trans (grown_below (grown_refl _ _) (w_two_new w _ _)) hg
  have Hg := hide hg
  have Hd := hide hd
  clear hd hd' hg
  simp at p0 r0 r1 r2 r3 z
  obtain ⟨q0, q1, q2, q3⟩ := four_stores (a := .string ⟨#[97]⟩) (b := .string ⟨#[98]⟩) (c := .string ⟨#[99]⟩) (d := .string ⟨#[100]⟩) r0 r1 r2 r3
  have Hq := hide (And.intro q0 (And.intro q1 (And.intro q2 q3)))
  clear q0 q1 q2 q3
  go_wp2
  obtain ⟨q0, q1, q2, q3⟩ := unhide Hq
  refine bodyPost_ret (v := namesV) (by simp [results, Tryz.results58, go_sem, namesV, q0, q1, q2, q3]) rfl ⟨rfl, ?_, ?_⟩
  · rw [Below.heap_setCell _ _ _ _ (by simp; omega), Below.heap_setCell _ _ _ _ (by simp; omega), Below.heap_setCell _ _ _ _ (by simp; omega), Below.heap_setCell _ _ _ _ (by simp; omega)]
    exact unhide Hd
  · exact grown_new (grown_new (grown_new (grown_new g0 (by omega) _ _) (by omega) _ _) (by omega) _ _) (by omega) _ _
def nameOf (a : Int) : ByteArray := if a = 0 then ⟨#[97]⟩ else if a = 1 then ⟨#[98]⟩ else if a = 2 then ⟨#[99]⟩ else if a = 3 then ⟨#[100]⟩ else ⟨#[]⟩
set_option maxRecDepth 100000 in
set_option maxHeartbeats 1600000 in
theorem name_some (b : Nat) (a : Int) (w : World) (hN : NamesAt w b) :
    Calls Tryz.prog 31 #[.pointer (some ⟨b, 0, none⟩), .int .i64 a] w fun e w' => e = .returned (.string (nameOf a)) ∧ NamesAt w' b ∧ w.grownBy w' (some b) := by
  by_cases h0 : a < 0
  · go_enter Tryz.func31, Tryz.ntmps31
    go_wp2
    go_ret
    exact ⟨ret_str (by unfold nameOf; rw [if_neg (by omega), if_neg (by omega), if_neg (by omega), if_neg (by omega)]), hN, grown_refl _ _⟩
  by_cases h4 : 4 ≤ a
  · go_enter Tryz.func31, Tryz.ntmps31
    go_wp2
    go_ret
    exact ⟨ret_str (by unfold nameOf; rw [if_neg (by omega), if_neg (by omega), if_neg (by omega), if_neg (by omega)]), hN, grown_refl _ _⟩
  have hL := laid_some b w hN
  unfold namesV at hL
  have HL := hide hL
  clear hL
  have : a = 0 ∨ a = 1 ∨ a = 2 ∨ a = 3 := by omega
  rcases this with rfl | rfl | rfl | rfl
  · go_enter Tryz.func31, Tryz.ntmps31
    go_wp2_with (go_at_call 58; refine (unhide HL).mono ?_; rintro e w' ⟨rfl, hd, hg⟩)
    go_ret
    exact ⟨rfl, Or.inr (by rw [Below.heap_alloc _ _ _ (lt_heap hd)]; exact hd), grown_below hg ((Below.refl _ _).alloc (Nat.le_refl _) _)⟩
  · go_enter Tryz.func31, Tryz.ntmps31
    go_wp2_with (go_at_call 58; refine (unhide HL).mono ?_; rintro e w' ⟨rfl, hd, hg⟩)
    go_ret
    exact ⟨rfl, Or.inr (by rw [Below.heap_alloc _ _ _ (lt_heap hd)]; exact hd), grown_below hg ((Below.refl _ _).alloc (Nat.le_refl _) _)⟩
  · go_enter Tryz.func31, Tryz.ntmps31
    go_wp2_with (go_at_call 58; refine (unhide HL).mono ?_; rintro e w' ⟨rfl, hd, hg⟩)
    go_ret
    exact ⟨rfl, Or.inr (by rw [Below.heap_alloc _ _ _ (lt_heap hd)]; exact hd), grown_below hg ((Below.refl _ _).alloc (Nat.le_refl _) _)⟩
  · go_enter Tryz.func31, Tryz.ntmps31
    go_wp2_with (go_at_call 58; refine (unhide HL).mono ?_; rintro e w' ⟨rfl, hd, hg⟩)
    go_ret
    exact ⟨rfl, Or.inr (by rw [Below.heap_alloc _ _ _ (lt_heap hd)]; exact hd), grown_below hg ((Below.refl _ _).alloc (Nat.le_refl _) _)⟩
end Go.Proofs.YtlmdcaemjaldfaaGreatDoor
namespace Go.Proofs.YtlmdcaemjaldfaaGreatDoor
open Go.RowKit
set_option maxHeartbeats 800000 in
theorem lays_names1 (b : Nat) (pl : Addr) (hpb : ¬ b = pl.block) (x3 x4 x5 x6 : Value) (w : World) (hp : w.cell? pl = some (.pointer (some ⟨b, 1, none⟩)))
    (h3 : w.cell? ⟨b, 4, none⟩ = some x3) (h4 : w.cell? ⟨b, 5, none⟩ = some x4) (h5 : w.cell? ⟨b, 6, none⟩ = some x5) (h6 : w.cell? ⟨b, 7, none⟩ = some x6)
    (f3 : w.frozen? ⟨b, 4, none⟩ = false) (f4 : w.frozen? ⟨b, 5, none⟩ = false) (f5 : w.frozen? ⟨b, 6, none⟩ = false) (f6 : w.frozen? ⟨b, 7, none⟩ = false) :
    Calls Tryz.prog 82 #[.pointer (some pl)] w fun e w' => e = .returned (.tuple #[]) ∧
      w' = (((w.setCell ⟨b, 4, none⟩ (.string ⟨#[97]⟩)).setCell ⟨b, 5, none⟩ (.string ⟨#[98]⟩)).setCell ⟨b, 6, none⟩ (.string ⟨#[99]⟩)).setCell ⟨b, 7, none⟩ (.string ⟨#[100]⟩) := by
  go_enter Tryz.func82, Tryz.ntmps82
  go_wp2
  go_end0
  exact ⟨rfl, rfl⟩
def slowW1 (w : World) (b : Nat) : World :=
  (((((((w.setCell ⟨b, 2, none⟩ (.int .i32 1)).setCell ⟨b, 4, none⟩ (.string ⟨#[97]⟩)).setCell ⟨b, 5, none⟩ (.string ⟨#[98]⟩)).setCell ⟨b, 6, none⟩ (.string ⟨#[99]⟩)).setCell ⟨b, 7, none⟩ (.string ⟨#[100]⟩)).drew.setCell ⟨b, 1, none⟩ (.int .u32 1)).setCell ⟨b, 2, none⟩ (.int .i32 0))
set_option maxRecDepth 100000 in
set_option maxHeartbeats 1600000 in
theorem slow_any1 (b : Nat) (pl : Addr) (hpb : ¬ b = pl.block) (x3 x4 x5 x6 : Value) (w : World) (hp : w.cell? pl = some (.pointer (some ⟨b, 1, none⟩)))
    (h0 : w.cell? ⟨b, 1, none⟩ = some (.int .u32 0)) (h1 : w.cell? ⟨b, 2, none⟩ = some (.int .i32 0))
    (h3 : w.cell? ⟨b, 4, none⟩ = some x3) (h4 : w.cell? ⟨b, 5, none⟩ = some x4) (h5 : w.cell? ⟨b, 6, none⟩ = some x5) (h6 : w.cell? ⟨b, 7, none⟩ = some x6)
    (hf : ∀ i, w.frozen? ⟨b, i, none⟩ = false) :
    Calls Tryz.prog 98 #[.pointer (some ⟨b, 1, none⟩), .func (.func 82) #[] #[.pointer (some pl)]] w fun e w' => e = .returned (.tuple #[]) ∧ w' = slowW1 w b := by
  unfold slowW1
  have n1 : ∀ j, j ≠ 2 → (⟨b, 2, none⟩ : Addr) ≠ ⟨b, j, none⟩ := fun j hj h => hj (by simpa using (congrArg Addr.off h).symm)
  have np : ∀ j, (⟨b, j, none⟩ : Addr) ≠ pl := fun j h => hpb (by rw [← h])
  have hl := run_call_load (P := Tryz.prog) Tryz.func108 (by kernel_rfl) (by kernel_rfl) (by kernel_rfl) .u32 (by kernel_rfl) (w := w.setCell ⟨b, 2, none⟩ (.int .i32 1)) (a := ⟨b, 1, none⟩) (x := 0) (so (n1 _ (by decide)) h0)
  have hcl := lays_names1 b pl hpb x3 x4 x5 x6 (w.setCell ⟨b, 2, none⟩ (.int .i32 1)) (so (np _) hp) (so (n1 _ (by decide)) h3) (so (n1 _ (by decide)) h4) (so (n1 _ (by decide)) h5) (so (n1 _ (by decide)) h6) (by simp [hf]) (by simp [hf]) (by simp [hf]) (by simp [hf])
  have hnot : ∀ (x : Bool) (w : World), (Op.unary .not (.bool x)).run Tryz.prog w = .ok (.bool (!x)) w := fun _ _ => rfl
  have Hcl := hide hcl
  clear hcl np n1
  go_enter_defers Tryz.func98, Tryz.ntmps98
  go_wp2_with (first | (go_at_call 109; refine (lock_free ⟨b, 2, none⟩ _ (by go_simp) (by go_simp)).mono ?_; rintro e w' ⟨rfl, rfl⟩) | (go_at_call 97; go_in))
  refine (unhide Hcl).mono ?_
  rintro e w' ⟨rfl, rfl⟩
  go_wp2
  refine leaves_cons (f := 111) (args := #[.pointer (some ⟨b, 1, none⟩), .bool true]) (by simp) (by simp [go_sem]) ?_
  have n0 : ∀ (j k : Nat), j ≠ k → (⟨b, j, none⟩ : Addr) ≠ ⟨b, k, none⟩ := fun j k hj h => hj (by simpa using (congrArg Addr.off h))
  refine (store_deferred ⟨b, 1, none⟩ (.int .u32 0) .returning _ ?_ (by simp [hf])).mono ?_
  · exact so (n0 _ _ (by decide)) (so (n0 _ _ (by decide)) (so (n0 _ _ (by decide)) (so (n0 _ _ (by decide)) (so (n0 _ _ (by decide)) h0))))
  rintro e u' w'' ⟨rfl, rfl, rfl⟩
  refine leaves_cons (f := 110) (args := #[.pointer (some ⟨b, 2, none⟩)]) (by simp [settle]) (by simp [go_sem]) ?_
  refine (unlock_deferred ⟨b, 2, none⟩ _ _ ?_ (by simp [hf])).mono ?_
  · refine so (n0 _ _ (by decide)) ?_
    rw [World.cell?_drew]
    exact so (n0 _ _ (by decide)) (so (n0 _ _ (by decide)) (so (n0 _ _ (by decide)) (so (n0 _ _ (by decide)) (World.cell?_setCell_same w _ _ h1))))
  rintro e u' w'' ⟨rfl, rfl, rfl⟩
  simp [Leaves, settle, results, Tryz.results98]
set_option maxRecDepth 100000 in
set_option maxHeartbeats 1600000 in
theorem do_first1 (b : Nat) (pl : Addr) (hpb : ¬ b = pl.block) (x3 x4 x5 x6 : Value) (w : World) (hp : w.cell? pl = some (.pointer (some ⟨b, 1, none⟩)))
    (h0 : w.cell? ⟨b, 1, none⟩ = some (.int .u32 0)) (h1 : w.cell? ⟨b, 2, none⟩ = some (.int .i32 0))
    (h3 : w.cell? ⟨b, 4, none⟩ = some x3) (h4 : w.cell? ⟨b, 5, none⟩ = some x4) (h5 : w.cell? ⟨b, 6, none⟩ = some x5) (h6 : w.cell? ⟨b, 7, none⟩ = some x6)
    (hf : ∀ i, w.frozen? ⟨b, i, none⟩ = false) :
    Calls Tryz.prog 81 #[.pointer (some ⟨b, 1, none⟩), .func (.func 82) #[] #[.pointer (some pl)]] w fun e w' => e = .returned (.tuple #[]) ∧ w' = slowW1 w b := by
  have hl := run_call_load (P := Tryz.prog) Tryz.func108 (by kernel_rfl) (by kernel_rfl) (by kernel_rfl) .u32 (by kernel_rfl) h0
  have hnot : ∀ (x : Bool) (w : World), (Op.unary .not (.bool x)).run Tryz.prog w = .ok (.bool (!x)) w := fun _ _ => rfl
  have Hs := hide (slow_any1 b pl hpb x3 x4 x5 x6 w hp h0 h1 h3 h4 h5 h6 hf)
  go_enter Tryz.func81, Tryz.ntmps81
  go_wp2_with (first | (go_at_call 98; refine (unhide Hs).mono ?_; rintro e w' ⟨rfl, rfl⟩) | (go_at_call 97; go_in))
  go_end0
  exact ⟨rfl, rfl⟩
end Go.Proofs.YtlmdcaemjaldfaaGreatDoor
namespace Go.Proofs.YtlmdcaemjaldfaaGreatDoor
open Go.RowKit
def freshRd (l : ByteArray) : Obj := .cells #[.string l, .int .u32 0, .int .i32 0, .int .u32 0, .string ⟨#[]⟩, .string ⟨#[]⟩, .string ⟨#[]⟩, .string ⟨#[]⟩] 100 (0, 0)
def doneRd (l : ByteArray) : Obj := .cells #[.string l, .int .u32 1, .int .i32 0, .int .u32 0, .string ⟨#[97]⟩, .string ⟨#[98]⟩, .string ⟨#[99]⟩, .string ⟨#[100]⟩] 100 (0, 0)
theorem slow_heap1 {w : World} {b : Nat} {l : ByteArray} (h : w.heap[b]? = some (freshRd l)) : (slowW1 w b).heap[b]? = some (doneRd l) := by
  unfold slowW1
  unfold freshRd at h
  unfold doneRd
  have h1 := heap_setCell (i := 2) (.int .i32 1) h
  generalize w.setCell ⟨b, 2, none⟩ (.int .i32 1) = w1 at h1 ⊢
  have h2 := heap_setCell (i := 4) (.string ⟨#[97]⟩) h1
  generalize w1.setCell ⟨b, 4, none⟩ (.string ⟨#[97]⟩) = w2 at h2 ⊢
  have h3 := heap_setCell (i := 5) (.string ⟨#[98]⟩) h2
  generalize w2.setCell ⟨b, 5, none⟩ (.string ⟨#[98]⟩) = w3 at h3 ⊢
  have h4 := heap_setCell (i := 6) (.string ⟨#[99]⟩) h3
  generalize w3.setCell ⟨b, 6, none⟩ (.string ⟨#[99]⟩) = w4 at h4 ⊢
  have h5 := heap_setCell (i := 7) (.string ⟨#[100]⟩) h4
  generalize w4.setCell ⟨b, 7, none⟩ (.string ⟨#[100]⟩) = w5 at h5 ⊢
  have h6 := heap_setCell (i := 1) (.int .u32 1) (heap_drew h5)
  generalize w5.drew.setCell ⟨b, 1, none⟩ (.int .u32 1) = w6 at h6 ⊢
  have h7 := heap_setCell (i := 2) (.int .i32 0) h6
  rw [h7]
  rfl
theorem slow_grown1 (w : World) (b : Nat) : w.grownBy (slowW1 w b) (some b) := by
  unfold slowW1
  exact grown_setCell (grown_setCell (grown_drew (grown_setCell (grown_setCell (grown_setCell (grown_setCell (grown_setCell (grown_refl _ _) _ _) _ _) _ _) _ _) _ _)) _ _) _ _
def RdAt (w : World) (b : Nat) (l : ByteArray) : Prop := w.heap[b]? = some (freshRd l) ∨ w.heap[b]? = some (doneRd l)
theorem do_any1 (b : Nat) (pl : Addr) (hpb : ¬ b = pl.block) (w : World) (hp : w.cell? pl = some (.pointer (some ⟨b, 1, none⟩))) (l : ByteArray) (hN : RdAt w b l) :
    Calls Tryz.prog 81 #[.pointer (some ⟨b, 1, none⟩), .func (.func 82) #[] #[.pointer (some pl)]] w fun e w' => e = .returned (.tuple #[]) ∧ w'.heap[b]? = some (doneRd l) ∧ w.grownBy w' (some b) := by
  rcases hN with h | h
  · refine (do_first1 b pl hpb _ _ _ _ w hp (cell_heap h 1) (cell_heap h 2) (cell_heap h 4) (cell_heap h 5) (cell_heap h 6) (cell_heap h 7) (frozen_heap h)).mono ?_
    rintro e w' ⟨rfl, rfl⟩
    exact ⟨rfl, slow_heap1 h, slow_grown1 _ _⟩
  · refine (do_done ⟨b, 1, none⟩ _ w (cell_heap h 1)).mono ?_
    rintro e w' ⟨rfl, rfl⟩
    exact ⟨rfl, h, grown_refl _ _⟩
set_option maxRecDepth 100000 in
set_option maxHeartbeats 1600000 in
theorem laid_some1 (b : Nat) (w : World) (l : ByteArray) (hN : RdAt w b l) :
    Calls Tryz.prog 58 #[.pointer (some ⟨b, 1, none⟩)] w fun e w' => e = .returned namesV ∧ w'.heap[b]? = some (doneRd l) ∧ w.grownBy w' (some b) := by
  have hb : b < w.heap.size := by rcases hN with h | h <;> exact lt_heap h
  have hmf : ∀ (fn : Fn) (first cap : Array Value) (w : World), (Instr.makeFunc fn first cap).run Tryz.prog w = .ok (.func fn first cap) w := fun _ _ _ _ => rfl
  go_enter Tryz.func58, Tryz.ntmps58
  go_wp2_with fail
  refine (do_any1 b ⟨w.heap.size, 0, none⟩ (by simp; omega) _ (by simp) l ?_).mono ?_
  · rcases hN with h | h
    · exact Or.inl (by rw [Below.heap_alloc _ _ _ (by simp; omega), Below.heap_alloc _ _ _ hb]; exact h)
    · exact Or.inr (by rw [Below.heap_alloc _ _ _ (by simp; omega), Below.heap_alloc _ _ _ hb]; exact h)
  rintro e w1 ⟨rfl, hd, hg⟩
  have hd' := hd
  unfold doneRd at hd'
  have c3 := cell_heap hd' 4
  have c4 := cell_heap hd' 5
  have c5 := cell_heap hd' 6
  have c6 := cell_heap hd' 7
  simp at c3 c4 c5 c6
  have p0 := grown_cell hg (c := w.heap.size) (by simp; omega) (by omega) 0
  have r0 := grown_cell hg (c := w.heap.size + 1) (by simp) (by omega) 0
  have r1 := grown_cell hg (c := w.heap.size + 1) (by simp) (by omega) 1
  have r2 := grown_cell hg (c := w.heap.size + 1) (by simp) (by omega) 2
  have r3 := grown_cell hg (c := w.heap.size + 1) (by simp) (by omega) 3
  have z := grown_frozen hg (c := w.heap.size + 1) (by simp) (by omega)
  have g0 : w.grownBy w1 (some b) := grown_trans (grown_below (grown_refl _ _) (w_two_new w _ _)) hg
  have Hg := hide hg
  have Hd := hide hd
  clear hd hd' hg
  simp at p0 r0 r1 r2 r3 z
  obtain ⟨q0, q1, q2, q3⟩ := four_stores (a := .string ⟨#[97]⟩) (b := .string ⟨#[98]⟩) (c := .string ⟨#[99]⟩) (d := .string ⟨#[100]⟩) r0 r1 r2 r3
  have Hq := hide (And.intro q0 (And.intro q1 (And.intro q2 q3)))
  clear q0 q1 q2 q3
  go_wp2
  obtain ⟨q0, q1, q2, q3⟩ := unhide Hq
  refine bodyPost_ret (v := namesV) (by simp [results, Tryz.results58, go_sem, namesV, q0, q1, q2, q3]) rfl ⟨rfl, ?_, ?_⟩
  · rw [Below.heap_setCell _ _ _ _ (by simp; omega), Below.heap_setCell _ _ _ _ (by simp; omega), Below.heap_setCell _ _ _ _ (by simp; omega), Below.heap_setCell _ _ _ _ (by simp; omega)]
    exact unhide Hd
  · exact grown_new (grown_new (grown_new (grown_new g0 (by omega) _ _) (by omega) _ _) (by omega) _ _) (by omega) _ _
set_option maxRecDepth 100000 in
set_option maxHeartbeats 1600000 in
theorem name_some1 (b : Nat) (a : Int) (w : World) (l : ByteArray) (hN : RdAt w b l) :
    Calls Tryz.prog 31 #[.pointer (some ⟨b, 1, none⟩), .int .i64 a] w fun e w' => e = .returned (.string (nameOf a)) ∧ RdAt w' b l ∧ w.grownBy w' (some b) := by
  by_cases h0 : a < 0
  · go_enter Tryz.func31, Tryz.ntmps31
    go_wp2
    go_ret
    exact ⟨ret_str (by unfold nameOf; rw [if_neg (by omega), if_neg (by omega), if_neg (by omega), if_neg (by omega)]), hN, grown_refl _ _⟩
  by_cases h4 : 4 ≤ a
  · go_enter Tryz.func31, Tryz.ntmps31
    go_wp2
    go_ret
    exact ⟨ret_str (by unfold nameOf; rw [if_neg (by omega), if_neg (by omega), if_neg (by omega), if_neg (by omega)]), hN, grown_refl _ _⟩
  have hL := laid_some1 b w l hN
  unfold namesV at hL
  have HL := hide hL
  clear hL
  have : a = 0 ∨ a = 1 ∨ a = 2 ∨ a = 3 := by omega
  rcases this with rfl | rfl | rfl | rfl
  · go_enter Tryz.func31, Tryz.ntmps31
    go_wp2_with (go_at_call 58; refine (unhide HL).mono ?_; rintro e w' ⟨rfl, hd, hg⟩)
    go_ret
    exact ⟨rfl, Or.inr (by rw [Below.heap_alloc _ _ _ (lt_heap hd)]; exact hd), grown_below hg ((Below.refl _ _).alloc (Nat.le_refl _) _)⟩
  · go_enter Tryz.func31, Tryz.ntmps31
    go_wp2_with (go_at_call 58; refine (unhide HL).mono ?_; rintro e w' ⟨rfl, hd, hg⟩)
    go_ret
    exact ⟨rfl, Or.inr (by rw [Below.heap_alloc _ _ _ (lt_heap hd)]; exact hd), grown_below hg ((Below.refl _ _).alloc (Nat.le_refl _) _)⟩
  · go_enter Tryz.func31, Tryz.ntmps31
    go_wp2_with (go_at_call 58; refine (unhide HL).mono ?_; rintro e w' ⟨rfl, hd, hg⟩)
    go_ret
    exact ⟨rfl, Or.inr (by rw [Below.heap_alloc _ _ _ (lt_heap hd)]; exact hd), grown_below hg ((Below.refl _ _).alloc (Nat.le_refl _) _)⟩
  · go_enter Tryz.func31, Tryz.ntmps31
    go_wp2_with (go_at_call 58; refine (unhide HL).mono ?_; rintro e w' ⟨rfl, hd, hg⟩)
    go_ret
    exact ⟨rfl, Or.inr (by rw [Below.heap_alloc _ _ _ (lt_heap hd)]; exact hd), grown_below hg ((Below.refl _ _).alloc (Nat.le_refl _) _)⟩
end Go.Proofs.YtlmdcaemjaldfaaGreatDoor
namespace Go.Proofs
open Go.Shelf
def Tryz.lays156_ren : Go.Shelf.Ren := ⟨fun | 156 => 33 | 165 => 60 | 166 => 61 | 169 => 62 | 240 => 84 | 241 => 85 | 276 => 100 | 277 => 101 | n => n, fun | 31 => 24 | 9 => 9 | 3 => 3 | 4 => 4 | 0 => 0 | 20 => 20 | 72 => 116 | 76 => 120 | 70 => 114 | 37 => 110 | 75 => 119 | 127 => 136 | 164 => 146 | 5 => 5 | 80 => 122 | n => n, fun | n => n⟩
theorem Tryz.lays156 : Go.Proofs.Lays.n156 Tryz.prog Tryz.lays156_ren := {
  mixed := by kernel_rfl
  f156 := Tryz.func33.trans (congrArg some (by kernel_rfl))
  f165 := Tryz.func60.trans (congrArg some (by kernel_rfl))
  f166 := Tryz.func61.trans (congrArg some (by kernel_rfl))
  f169 := Tryz.func62.trans (congrArg some (by kernel_rfl))
  f240 := Tryz.func84.trans (congrArg some (by kernel_rfl))
  f241 := Tryz.func85.trans (congrArg some (by kernel_rfl))
  f276 := Tryz.func100.trans (congrArg some (by kernel_rfl))
  f277 := Tryz.func101.trans (congrArg some (by kernel_rfl))
  t0 := Tryz.underlying0
  a0 := Tryz.isAgg0
  z0 := Tryz.sizeOf0
  v0 := Tryz.zeroValue0
  t3 := Tryz.underlying3
  a3 := Tryz.isAgg3
  z3 := Tryz.sizeOf3
  v3 := Tryz.zeroValue3
  t4 := Tryz.underlying4
  a4 := Tryz.isAgg4
  z4 := Tryz.sizeOf4
  v4 := Tryz.zeroValue4
  t9 := Tryz.underlying9
  a9 := Tryz.isAgg9
  z9 := Tryz.sizeOf9
  v9 := Tryz.zeroValue9
  t20 := Tryz.underlying20
  a20 := Tryz.isAgg20
  z20 := Tryz.sizeOf20
  v20 := Tryz.zeroValue20
  t31 := Tryz.underlying24
  a31 := Tryz.isAgg24
  z31 := Tryz.sizeOf24
  v31 := Tryz.zeroValue24
  t37 := Tryz.underlying110
  a37 := Tryz.isAgg110
  z37 := Tryz.sizeOf110
  v37 := Tryz.zeroValue110
  t70 := Tryz.underlying114
  a70 := Tryz.isAgg114
  z70 := Tryz.sizeOf114
  v70 := Tryz.zeroValue114
  t72 := Tryz.underlying116
  a72 := Tryz.isAgg116
  z72 := Tryz.sizeOf116
  v72 := Tryz.zeroValue116
  t75 := Tryz.underlying119
  a75 := Tryz.isAgg119
  z75 := Tryz.sizeOf119
  v75 := Tryz.zeroValue119
  t76 := Tryz.underlying120
  a76 := Tryz.isAgg120
  z76 := Tryz.sizeOf120
  v76 := Tryz.zeroValue120
  t127 := Tryz.underlying136
  a127 := Tryz.isAgg136
  z127 := Tryz.sizeOf136
  v127 := Tryz.zeroValue136
  t164 := Tryz.underlying146
  a164 := Tryz.isAgg146
  z164 := Tryz.sizeOf146
  v164 := Tryz.zeroValue146 }
theorem Tryz.Builder_Extra_156 : Builder.Extra Tryz.prog Tryz.lays156_ren := {
  sizeBuilder := by kernel_rfl
  liesBuilder := by kernel_rfl
  t5 := Tryz.underlying5
  a5 := Tryz.isAgg5
  z5 := Tryz.sizeOf5
  v5 := Tryz.zeroValue5
  infoByte := by kernel_rfl
  cellsByte := by kernel_rfl
  sizeByte := by kernel_rfl
  neB5 := by decide }
open Go.RowKit in
theorem Tryz.strings_Join_none (a : Option Addr) (c : Nat) (sep : ByteArray) (w : World) :
    Calls Tryz.prog 33 #[.slice a 0 c, .string sep] w fun e w' => e = .returned (.string ⟨#[]⟩) ∧ w' = w := Any.strings_Join_none Tryz.lays156 Tryz.Builder_Extra_156 a c sep w
open Go.RowKit in
theorem Tryz.strings_Join (bk o c : Nat) (xs : List ByteArray) (sep : ByteArray) (w : World) (hcells : ∀ (j : Nat) x, xs[j]? = some x → w.cell? ⟨bk, o + j, none⟩ = some (.string x)) (hbk : bk < w.heap.size) (hN : xs.length ≤ 140737488355328) (hcap : xs.length ≤ c) (hlen : (Lib.join (xs.map (·.data.toList)) sep.data.toList).length ≤ 140737488355328) :
    Calls Tryz.prog 33 #[.slice (some ⟨bk, o, none⟩) xs.length c, .string sep] w fun e w' => e = .returned (.string ⟨(Lib.join (xs.map (·.data.toList)) sep.data.toList).toArray⟩) ∧ Below w.heap.size w w' := Any.strings_Join Tryz.lays156 Tryz.Builder_Extra_156 bk o c xs sep w hcells hbk hN hcap hlen
def Tryz.lays103_ren : Go.Shelf.Ren := ⟨fun | 103 => 68 | 210 => 88 | 206 => 102 | n => n, fun | 9 => 9 | 4 => 4 | 24 => 126 | 3 => 3 | n => n, fun | n => n⟩
theorem Tryz.lays103 : Go.Proofs.Lays.n103 Tryz.prog Tryz.lays103_ren := {
  mixed := by kernel_rfl
  f103 := Tryz.func68.trans (congrArg some (by kernel_rfl))
  f206 := Tryz.func102.trans (congrArg some (by kernel_rfl))
  f210 := Tryz.func88.trans (congrArg some (by kernel_rfl))
  t3 := Tryz.underlying3
  a3 := Tryz.isAgg3
  z3 := Tryz.sizeOf3
  v3 := Tryz.zeroValue3
  t4 := Tryz.underlying4
  a4 := Tryz.isAgg4
  z4 := Tryz.sizeOf4
  v4 := Tryz.zeroValue4
  t9 := Tryz.underlying9
  a9 := Tryz.isAgg9
  z9 := Tryz.sizeOf9
  v9 := Tryz.zeroValue9
  t24 := Tryz.underlying126
  a24 := Tryz.isAgg126
  z24 := Tryz.sizeOf126
  v24 := Tryz.zeroValue126 }
open Go.RowKit in
theorem Tryz.strings_CutPrefix (s p : ByteArray) (w : World) :
    Calls Tryz.prog 68 #[.string s, .string p] w fun e w' => e = .returned (.tuple #[.string ⟨(Lib.trimPrefix s.data.toList p.data.toList).toArray⟩, .bool (Lib.hasPrefix s.data.toList p.data.toList)]) ∧ w' = w := Any.strings_CutPrefix Tryz.lays103 s p w
def Tryz.laysM171_ren : Go.Shelf.Ren := ⟨fun | 171 => 59 | 243 => 83 | 246 => 99 | 283 => 112 | 284 => 113 | 285 => 114 | 286 => 115 | 129 => 124 | 317 => 123 | 318 => 125 | 319 => 126 | 320 => 127 | 337 => 142 | 338 => 143 | n => n, fun | 3 => 3 | 9 => 9 | 2 => 2 | 4 => 4 | 171 => 159 | 0 => 0 | 53 => 134 | 37 => 110 | 5 => 5 | 173 => 162 | 212 => 170 | 51 => 71 | 20 => 20 | 213 => 171 | 46 => 173 | 232 => 195 | 233 => 196 | n => n, fun | 17 => 1 | 18 => 4 | 19 => 5 | n => n⟩
theorem Tryz.laysM171 : Go.Proofs.LaysM.n171 Tryz.prog Tryz.laysM171_ren := {
  mixed := by kernel_rfl
  f129 := Tryz.func124.trans (congrArg some (by kernel_rfl))
  f171 := Tryz.func59.trans (congrArg some (by kernel_rfl))
  f243 := Tryz.func83.trans (congrArg some (by kernel_rfl))
  f246 := Tryz.func99.trans (congrArg some (by kernel_rfl))
  f283 := Tryz.func112.trans (congrArg some (by kernel_rfl))
  f284 := Tryz.func113.trans (congrArg some (by kernel_rfl))
  f285 := Tryz.func114.trans (congrArg some (by kernel_rfl))
  f286 := Tryz.func115.trans (congrArg some (by kernel_rfl))
  f317 := Tryz.func123.trans (congrArg some (by kernel_rfl))
  f318 := Tryz.func125.trans (congrArg some (by kernel_rfl))
  f319 := Tryz.func126.trans (congrArg some (by kernel_rfl))
  f320 := Tryz.func127.trans (congrArg some (by kernel_rfl))
  f337 := Tryz.func142.trans (congrArg some (by kernel_rfl))
  f338 := Tryz.func143.trans (congrArg some (by kernel_rfl))
  t0 := Tryz.underlying0
  a0 := Tryz.isAgg0
  z0 := Tryz.sizeOf0
  v0 := Tryz.zeroValue0
  t2 := Tryz.underlying2
  a2 := Tryz.isAgg2
  z2 := Tryz.sizeOf2
  v2 := Tryz.zeroValue2
  t3 := Tryz.underlying3
  a3 := Tryz.isAgg3
  z3 := Tryz.sizeOf3
  v3 := Tryz.zeroValue3
  t4 := Tryz.underlying4
  a4 := Tryz.isAgg4
  z4 := Tryz.sizeOf4
  v4 := Tryz.zeroValue4
  t5 := Tryz.underlying5
  a5 := Tryz.isAgg5
  z5 := Tryz.sizeOf5
  v5 := Tryz.zeroValue5
  t9 := Tryz.underlying9
  a9 := Tryz.isAgg9
  z9 := Tryz.sizeOf9
  v9 := Tryz.zeroValue9
  t20 := Tryz.underlying20
  a20 := Tryz.isAgg20
  z20 := Tryz.sizeOf20
  v20 := Tryz.zeroValue20
  t37 := Tryz.underlying110
  a37 := Tryz.isAgg110
  z37 := Tryz.sizeOf110
  v37 := Tryz.zeroValue110
  t46 := Tryz.underlying173
  a46 := Tryz.isAgg173
  z46 := Tryz.sizeOf173
  v46 := Tryz.zeroValue173
  t51 := Tryz.underlying71
  a51 := Tryz.isAgg71
  z51 := Tryz.sizeOf71
  v51 := Tryz.zeroValue71
  t53 := Tryz.underlying134
  a53 := Tryz.isAgg134
  z53 := Tryz.sizeOf134
  v53 := Tryz.zeroValue134
  t171 := Tryz.underlying159
  a171 := Tryz.isAgg159
  z171 := Tryz.sizeOf159
  v171 := Tryz.zeroValue159
  t173 := Tryz.underlying162
  a173 := Tryz.isAgg162
  z173 := Tryz.sizeOf162
  v173 := Tryz.zeroValue162
  t212 := Tryz.underlying170
  a212 := Tryz.isAgg170
  z212 := Tryz.sizeOf170
  v212 := Tryz.zeroValue170
  t213 := Tryz.underlying171
  a213 := Tryz.isAgg171
  z213 := Tryz.sizeOf171
  t232 := Tryz.underlying195
  a232 := Tryz.isAgg195
  z232 := Tryz.sizeOf195
  v232 := Tryz.zeroValue195
  t233 := Tryz.underlying196
  a233 := Tryz.isAgg196
  z233 := Tryz.sizeOf196
  v233 := Tryz.zeroValue196
  g17 := by kernel_rfl
  g18 := by kernel_rfl
  g19 := by kernel_rfl
  i0 := by kernel_rfl
  i2 := by kernel_rfl
  i3 := by kernel_rfl
  i4 := by kernel_rfl
  i5 := by kernel_rfl
  i9 := by kernel_rfl
  i20 := by kernel_rfl
  i37 := by kernel_rfl
  i46 := by kernel_rfl
  i51 := by kernel_rfl
  i53 := by kernel_rfl
  i171 := by kernel_rfl
  i173 := by kernel_rfl
  i212 := by kernel_rfl
  i232 := by kernel_rfl
  i233 := by kernel_rfl
  m17 := by kernel_rfl
  m18 := by kernel_rfl
  m19 := by kernel_rfl }
open Go.RowKit Go.Sort Go.Lib in
theorem Tryz.strconv_Itoa (n : Int) (h0 : -9223372036854775808 ≤ n) (h1 : n ≤ 9223372036854775807) (w : World) (htab : Lib.TabIs Tryz.prog w "internal/strconv.uint64pow10" .u64 Lib.pow10Tab) :
    Calls Tryz.prog 59 #[.int .i64 n] w fun e w' => e = .returned (.string ⟨(Lib.itoa n).toArray⟩) ∧ ∃ k os, w' = grow (w.drewN k) os := Any.strconv_Itoa Tryz.laysM171 n h0 h1 w htab
def Tryz.laysC172_ren : Go.Shelf.Ren := ⟨fun | 172 => 107 | 244 => 117 | 245 => 118 | 247 => 129 | 279 => 130 | 280 => 131 | 281 => 132 | 282 => 133 | 287 => 145 | 316 => 146 | 171 => 59 | 205 => 147 | 321 => 155 | 322 => 156 | 243 => 83 | 246 => 99 | 283 => 112 | 284 => 113 | 285 => 114 | 286 => 115 | 129 => 124 | 317 => 123 | 318 => 125 | 319 => 126 | 320 => 127 | 337 => 142 | 338 => 143 | n => n, fun | 9 => 9 | 3 => 3 | 75 => 119 | 76 => 120 | 4 => 4 | 5 => 5 | 167 => 175 | 37 => 110 | 0 => 0 | 85 => 176 | 2 => 2 | 168 => 178 | 53 => 134 | 175 => 188 | 46 => 173 | 210 => 191 | 127 => 136 | 145 => 200 | 143 => 198 | 21 => 21 | 171 => 159 | 173 => 162 | 212 => 170 | 51 => 71 | 20 => 20 | 213 => 171 | 232 => 195 | 233 => 196 | 80 => 122 | n => n, fun | 15 => 2 | 16 => 3 | 17 => 1 | 18 => 4 | 19 => 5 | n => n⟩
theorem Tryz.laysC172 : Go.Proofs.LaysC.n172 Tryz.prog Tryz.laysC172_ren := {
  mixed := by kernel_rfl
  f129 := Tryz.func124.trans (congrArg some (by kernel_rfl))
  f171 := Tryz.func59.trans (congrArg some (by kernel_rfl))
  f172 := Tryz.func107.trans (congrArg some (by kernel_rfl))
  f205 := Tryz.func147.trans (congrArg some (by kernel_rfl))
  f243 := Tryz.func83.trans (congrArg some (by kernel_rfl))
  f244 := Tryz.func117.trans (congrArg some (by kernel_rfl))
  f245 := Tryz.func118.trans (congrArg some (by kernel_rfl))
  f246 := Tryz.func99.trans (congrArg some (by kernel_rfl))
  f247 := Tryz.func129.trans (congrArg some (by kernel_rfl))
  f279 := Tryz.func130.trans (congrArg some (by kernel_rfl))
  f280 := Tryz.func131.trans (congrArg some (by kernel_rfl))
  f281 := Tryz.func132.trans (congrArg some (by kernel_rfl))
  f282 := Tryz.func133.trans (congrArg some (by kernel_rfl))
  f283 := Tryz.func112.trans (congrArg some (by kernel_rfl))
  f284 := Tryz.func113.trans (congrArg some (by kernel_rfl))
  f285 := Tryz.func114.trans (congrArg some (by kernel_rfl))
  f286 := Tryz.func115.trans (congrArg some (by kernel_rfl))
  f287 := Tryz.func145.trans (congrArg some (by kernel_rfl))
  f316 := Tryz.func146.trans (congrArg some (by kernel_rfl))
  f317 := Tryz.func123.trans (congrArg some (by kernel_rfl))
  f318 := Tryz.func125.trans (congrArg some (by kernel_rfl))
  f319 := Tryz.func126.trans (congrArg some (by kernel_rfl))
  f320 := Tryz.func127.trans (congrArg some (by kernel_rfl))
  f321 := Tryz.func155.trans (congrArg some (by kernel_rfl))
  f322 := Tryz.func156.trans (congrArg some (by kernel_rfl))
  f337 := Tryz.func142.trans (congrArg some (by kernel_rfl))
  f338 := Tryz.func143.trans (congrArg some (by kernel_rfl))
  t0 := Tryz.underlying0
  a0 := Tryz.isAgg0
  z0 := Tryz.sizeOf0
  v0 := Tryz.zeroValue0
  t2 := Tryz.underlying2
  a2 := Tryz.isAgg2
  z2 := Tryz.sizeOf2
  v2 := Tryz.zeroValue2
  t3 := Tryz.underlying3
  a3 := Tryz.isAgg3
  z3 := Tryz.sizeOf3
  v3 := Tryz.zeroValue3
  t4 := Tryz.underlying4
  a4 := Tryz.isAgg4
  z4 := Tryz.sizeOf4
  v4 := Tryz.zeroValue4
  t5 := Tryz.underlying5
  a5 := Tryz.isAgg5
  z5 := Tryz.sizeOf5
  v5 := Tryz.zeroValue5
  t9 := Tryz.underlying9
  a9 := Tryz.isAgg9
  z9 := Tryz.sizeOf9
  v9 := Tryz.zeroValue9
  t20 := Tryz.underlying20
  a20 := Tryz.isAgg20
  z20 := Tryz.sizeOf20
  v20 := Tryz.zeroValue20
  t21 := Tryz.underlying21
  a21 := Tryz.isAgg21
  z21 := Tryz.sizeOf21
  v21 := Tryz.zeroValue21
  t37 := Tryz.underlying110
  a37 := Tryz.isAgg110
  z37 := Tryz.sizeOf110
  v37 := Tryz.zeroValue110
  t46 := Tryz.underlying173
  a46 := Tryz.isAgg173
  z46 := Tryz.sizeOf173
  v46 := Tryz.zeroValue173
  t51 := Tryz.underlying71
  a51 := Tryz.isAgg71
  z51 := Tryz.sizeOf71
  v51 := Tryz.zeroValue71
  t53 := Tryz.underlying134
  a53 := Tryz.isAgg134
  z53 := Tryz.sizeOf134
  v53 := Tryz.zeroValue134
  t75 := Tryz.underlying119
  a75 := Tryz.isAgg119
  z75 := Tryz.sizeOf119
  v75 := Tryz.zeroValue119
  t76 := Tryz.underlying120
  a76 := Tryz.isAgg120
  z76 := Tryz.sizeOf120
  v76 := Tryz.zeroValue120
  t85 := Tryz.underlying176
  a85 := Tryz.isAgg176
  z85 := Tryz.sizeOf176
  v85 := Tryz.zeroValue176
  t127 := Tryz.underlying136
  a127 := Tryz.isAgg136
  z127 := Tryz.sizeOf136
  v127 := Tryz.zeroValue136
  t143 := Tryz.underlying198
  a143 := Tryz.isAgg198
  z143 := Tryz.sizeOf198
  v143 := Tryz.zeroValue198
  t145 := Tryz.underlying200
  a145 := Tryz.isAgg200
  z145 := Tryz.sizeOf200
  v145 := Tryz.zeroValue200
  t167 := Tryz.underlying175
  a167 := Tryz.isAgg175
  z167 := Tryz.sizeOf175
  v167 := Tryz.zeroValue175
  t168 := Tryz.underlying178
  a168 := Tryz.isAgg178
  z168 := Tryz.sizeOf178
  v168 := Tryz.zeroValue178
  t171 := Tryz.underlying159
  a171 := Tryz.isAgg159
  z171 := Tryz.sizeOf159
  v171 := Tryz.zeroValue159
  t173 := Tryz.underlying162
  a173 := Tryz.isAgg162
  z173 := Tryz.sizeOf162
  v173 := Tryz.zeroValue162
  t175 := Tryz.underlying188
  a175 := Tryz.isAgg188
  z175 := Tryz.sizeOf188
  v175 := Tryz.zeroValue188
  t210 := Tryz.underlying191
  a210 := Tryz.isAgg191
  z210 := Tryz.sizeOf191
  v210 := Tryz.zeroValue191
  t212 := Tryz.underlying170
  a212 := Tryz.isAgg170
  z212 := Tryz.sizeOf170
  v212 := Tryz.zeroValue170
  t213 := Tryz.underlying171
  a213 := Tryz.isAgg171
  z213 := Tryz.sizeOf171
  t232 := Tryz.underlying195
  a232 := Tryz.isAgg195
  z232 := Tryz.sizeOf195
  v232 := Tryz.zeroValue195
  t233 := Tryz.underlying196
  a233 := Tryz.isAgg196
  z233 := Tryz.sizeOf196
  v233 := Tryz.zeroValue196
  g15 := by kernel_rfl
  g16 := by kernel_rfl
  g17 := by kernel_rfl
  g18 := by kernel_rfl
  g19 := by kernel_rfl
  t80 := Tryz.underlying122
  a80 := Tryz.isAgg122
  z80 := Tryz.sizeOf122
  v80 := Tryz.zeroValue122
  i0 := by kernel_rfl
  i2 := by kernel_rfl
  i3 := by kernel_rfl
  i4 := by kernel_rfl
  i5 := by kernel_rfl
  i9 := by kernel_rfl
  i20 := by kernel_rfl
  i21 := by kernel_rfl
  i37 := by kernel_rfl
  i46 := by kernel_rfl
  i51 := by kernel_rfl
  i53 := by kernel_rfl
  i75 := by kernel_rfl
  i76 := by kernel_rfl
  i80 := by kernel_rfl
  i85 := by kernel_rfl
  i127 := by kernel_rfl
  i143 := by kernel_rfl
  i145 := by kernel_rfl
  i167 := by kernel_rfl
  i168 := by kernel_rfl
  i171 := by kernel_rfl
  i173 := by kernel_rfl
  i175 := by kernel_rfl
  i210 := by kernel_rfl
  i212 := by kernel_rfl
  i232 := by kernel_rfl
  i233 := by kernel_rfl
  m15 := by kernel_rfl
  m16 := by kernel_rfl
  m17 := by kernel_rfl
  m18 := by kernel_rfl
  m19 := by kernel_rfl
  c0 := by kernel_rfl
  c2 := by kernel_rfl
  c3 := by kernel_rfl
  c4 := by kernel_rfl
  c5 := by kernel_rfl
  c9 := by kernel_rfl
  c20 := by kernel_rfl
  c21 := by kernel_rfl
  c37 := by kernel_rfl
  c46 := by kernel_rfl
  c51 := by kernel_rfl
  c53 := by kernel_rfl
  c75 := by kernel_rfl
  c76 := by kernel_rfl
  c80 := by kernel_rfl
  c85 := by kernel_rfl
  c127 := by kernel_rfl
  c143 := by kernel_rfl
  c145 := by kernel_rfl
  c167 := by kernel_rfl
  c168 := by kernel_rfl
  c171 := by kernel_rfl
  c173 := by kernel_rfl
  c175 := by kernel_rfl
  c210 := by kernel_rfl
  c212 := by kernel_rfl
  c213 := by kernel_rfl
  c232 := by kernel_rfl
  c233 := by kernel_rfl }
open Go.RowKit in
theorem Tryz.strconv_Atoi_ok (s : ByteArray) (hmax : s.size ≤ 9223372036854775806) (v : Int) (h : Lib.atoiAll s.data.toList = .ok v) (w : World) :
    Calls Tryz.prog 107 #[.string s] w fun e w' => e = .returned (.tuple #[.int .i64 v, .nilIface]) ∧ (w' = w ∨ ∃ t, w' = Lib.bytesWorld w 5 t) := Any.strconv_Atoi_ok Tryz.laysC172 s hmax v h w
def Tryz.lays217_ren : Go.Shelf.Ren := ⟨fun | 217 => 128 | 266 => 144 | n => n, fun | 9 => 9 | 5 => 5 | 3 => 3 | n => n, fun | n => n⟩
theorem Tryz.lays217 : Go.Proofs.Lays.n217 Tryz.prog Tryz.lays217_ren := {
  mixed := by kernel_rfl
  f217 := Tryz.func128.trans (congrArg some (by kernel_rfl))
  f266 := Tryz.func144.trans (congrArg some (by kernel_rfl))
  t3 := Tryz.underlying3
  a3 := Tryz.isAgg3
  z3 := Tryz.sizeOf3
  v3 := Tryz.zeroValue3
  t5 := Tryz.underlying5
  a5 := Tryz.isAgg5
  z5 := Tryz.sizeOf5
  v5 := Tryz.zeroValue5
  t9 := Tryz.underlying9
  a9 := Tryz.isAgg9
  z9 := Tryz.sizeOf9
  v9 := Tryz.zeroValue9 }
open Go.RowKit Go.Lib in
theorem Tryz.stringslite_IndexByte (s : ByteArray) (c : Int) (w : World) :
    Calls Tryz.prog 128 #[.string s, .int .u8 c] w fun e w' => e = .returned (.int .i64 (Lib.indexByte s.data.toList c.toNat.toUInt8)) ∧ w' = w := Any.stringslite_IndexByte Tryz.lays217 s c w
end Go.Proofs
namespace Go.Proofs.YtlmdcaemjaldfaaGreatDoor
open Go.RowKit
theorem gPow : Tryz.prog.globalNamed "internal/strconv.uint64pow10" = some 1 := by kernel_rfl
theorem gSyn : Tryz.prog.globalNamed "strconv.ErrSyntax" = some 2 := by kernel_rfl
theorem gRng : Tryz.prog.globalNamed "strconv.ErrRange" = some 3 := by kernel_rfl
structure Env (w : World) : Prop where
  big : 6 ≤ w.heap.size
  tab : Lib.TabIs Tryz.prog w "internal/strconv.uint64pow10" .u64 Lib.pow10Tab
  syn : ∃ tp p, w.var? Tryz.prog "strconv.ErrSyntax" = some #[.iface tp p]
  rng : ∃ tp p, w.var? Tryz.prog "strconv.ErrRange" = some #[.iface tp p]
theorem Env.below {w w' : World} (h : Env w) {B : Nat} (hB : 6 ≤ B) (hb : Below B w w') : Env w' := by
  obtain ⟨h1, h2, ⟨t3, p3, h3⟩, ⟨t4, p4, h4⟩⟩ := h
  exact ⟨Nat.le_trans h1 hb.size, var?_below hb gPow (by omega) h2, ⟨t3, p3, var?_below hb gSyn (by omega) h3⟩, ⟨t4, p4, var?_below hb gRng (by omega) h4⟩⟩
theorem Env.on {w w' : World} (h : Env w) (hb : Below w.heap.size w w') : Env w' := h.below h.big hb
theorem Env.alloc {w : World} (h : Env w) (o : Obj) : Env (w.alloc o) := h.on ((Below.refl _ _).alloc (Nat.le_refl _) o)
theorem Env.drew {w : World} (h : Env w) : Env w.drew := h.on (Below.refl _ _).drew
theorem itoa_any (n : Int) (h0 : -9223372036854775808 ≤ n) (h1 : n ≤ 9223372036854775807) (w : World) (hE : Env w) :
    Calls Tryz.prog 59 #[.int .i64 n] w fun e w' => e = .returned (.string ⟨(Lib.itoa n).toArray⟩) ∧ Below w.heap.size w w' := by
  refine (Tryz.strconv_Itoa n h0 h1 w hE.tab).mono ?_
  rintro e w' ⟨rfl, k, os, rfl⟩
  exact ⟨rfl, Lib.below_grow _ _ (Nat.le_refl _) _ _⟩
theorem atoi_any (s : ByteArray) (hl : s.size ≤ 281474976710656) (w : World) (hE : Env w) :
    Calls Tryz.prog 107 #[.string s] w fun e w' => ((∃ v, Lib.atoiAll s.data.toList = .ok v ∧ e = .returned (.tuple #[.int .i64 v, .nilIface])) ∨ ((∀ v, Lib.atoiAll s.data.toList ≠ .ok v) ∧ ∃ z N, e = .returned (.tuple #[.int .i64 z, .iface 178 (.pointer (some ⟨N, 0, none⟩))]))) ∧ Below w.heap.size w w' := by
  obtain ⟨h1, h2, ⟨t3, p3, h3⟩, ⟨t4, p4, h4⟩⟩ := hE
  cases h : Lib.atoiAll s.data.toList with
  | ok v =>
    refine (Tryz.strconv_Atoi_ok s (by omega) v h w).mono ?_
    rintro e w' ⟨rfl, hw⟩
    refine ⟨Or.inl ⟨v, rfl, rfl⟩, ?_⟩
    rcases hw with rfl | ⟨t, rfl⟩
    · exact Below.refl _ _
    · exact Lib.bytesWorld_below _ _ _
  | range =>
    refine (Any.strconv_Atoi_range_var Tryz.laysC172 s hl h t4 p4 w h4).mono ?_
    rintro e w' ⟨N, rfl, _, _, hb⟩
    exact ⟨Or.inr ⟨by intro v; simp, _, N, rfl⟩, hb⟩
  | _ =>
    refine (Any.strconv_Atoi_syntax_var Tryz.laysC172 s hl h t3 p3 w h3).mono ?_
    rintro e w' ⟨N, rfl, _, _, hb⟩
    exact ⟨Or.inr ⟨by intro v; simp, _, N, rfl⟩, hb⟩
end Go.Proofs.YtlmdcaemjaldfaaGreatDoor
namespace Go.Proofs.YtlmdcaemjaldfaaGreatDoor
open Go.RowKit
theorem infoByte : (Tryz.prog.info? 5).map (fun i => (i.zero, i.size, i.bytes)) = some (some (.int .u8 0), 1, 1) := by kernel_rfl
def Own (w : World) (B : Nat) (v : Value) (l : List UInt8) : Prop := w.ownsRow B 5 1 v l.length (Lib.byteCells l)
theorem Own.alloc {w : World} {B : Nat} {v : Value} {l : List UInt8} (h : Own w B v l) (o : Obj) : Own (w.alloc o) B v l := World.ownsRow.alloc h o
theorem Own.drew {w : World} {B : Nat} {v : Value} {l : List UInt8} (h : Own w B v l) : Own w.drew B v l := h
theorem Own.grownB {w w' : World} {B : Nat} {v : Value} {l : List UInt8} (h : Own w B v l) (hB : B ≤ w.heap.size) (hg : w.grownBy w' v.ownBlock) : Below B w w' :=
  (Below.refl _ _).grown hg hB (fun k hk => (World.ownsRow.lt h k hk).1)
theorem Own.on {w w' : World} {B : Nat} {v : Value} {l : List UInt8} (h : Own w B v l) (hb : Below w.heap.size w w') : Own w' B v l :=
  World.ownsRow.kept (row := none) h ⟨hb.os, hb.tape, hb.output, hb.size, fun k hk _ => hb.block k hk⟩ (by cases v.ownBlock <;> simp)
theorem wpList_app {ops : Array Oper} {rest : List Oper} {o : Oper} {a : Act} {Q : Exit → Act → World → Prop} (w : World) (hgd : o.guard = none) (s x : Operand)
    (ho : o.op = .call { callee := .builtin .append, args := #[s, x], argTypes := #[110, 110] })
    (B : Nat) (v : Value) (l : List UInt8) (hs : a.eval s = v) (hown : Own w B v l) (g m c : Nat) (cs : Array Value) (news : List UInt8) (hm : news.length = m)
    (hx : a.eval x = .slice (some ⟨g, 0, none⟩) m c) (hb : w.heap[g]? = some (.cells cs 5 (0, 0))) (hcs : cs.toList = Lib.byteCells news) (hlen : l.length + m ≤ 1099511627776) (hB : B ≤ w.heap.size)
    (h : ∀ v' w', Own w' B v' (l ++ news) → Below B w w' → wpList Tryz.prog ops Q rest (a.put o.dst v') w') : wpList Tryz.prog ops Q (o :: rest) a w := by
  obtain ⟨i0, hi, hz0, hz1, hz2⟩ := info_parts infoByte
  have hown' : w.ownsRow B 5 1 v l.length (Lib.byteCells l) := hown
  refine wpList_append_own w hgd s x 110 ho B 5 i0 (.int .u8 0) 1 1 Tryz.underlying110 hi hz0 hz1 hz2 rfl (by decide) v l.length (Lib.byteCells l) hs hown' ⟨g, 0, none⟩ m c (Lib.byteCells news) hx (by simp [Lib.byteCells, hm]) ?_ (cells_one _) (by unfold maxLen; omega) (by omega) hB ?_
  · rw [← hcs]; exact World.news_of_block hb
  · intro v' w' h1 h2 _
    refine h v' w' ?_ (Own.grownB hown hB h2)
    unfold Own
    rw [List.length_append, hm]
    simpa [Lib.byteCells] using h1
theorem step_app {ops : Array Oper} {o : Oper} {a : Act} {K : Act → World → Prop} {Q : Exit → Act → World → Prop} {E : Prop} (w : World) (hgd : o.guard = none) (s x : Operand)
    (ho : o.op = .call { callee := .builtin .append, args := #[s, x], argTypes := #[110, 110] })
    (B : Nat) (v : Value) (l : List UInt8) (hs : a.eval s = v) (hown : Own w B v l) (g m c : Nat) (cs : Array Value) (news : List UInt8) (hm : news.length = m) (hm0 : 0 < m)
    (hx : a.eval x = .slice (some ⟨g, 0, none⟩) m c) (hb : w.heap[g]? = some (.cells cs 5 (0, 0))) (hcs : cs.toList = Lib.byteCells news) (hlen : l.length + m ≤ 1099511627776) (hB : B ≤ w.heap.size)
    (h : ∀ v' w', Own w' B v' (l ++ news) → Below B w w' → K (a.put o.dst v') w') :
    if Region.wanted o (yielded ops a.tmps) = true then Oper.wp Tryz.prog o a w K Q else E := by
  obtain ⟨i0, hi, hz0, hz1, hz2⟩ := info_parts infoByte
  have hown' : w.ownsRow B 5 1 v l.length (Lib.byteCells l) := hown
  refine step_append_lies w hgd s x 110 ho B 5 i0 (.int .u8 0) 1 1 Tryz.underlying110 hi hz0 hz1 hz2 rfl (by decide) v l.length (Lib.byteCells l) hs hown' ⟨g, 0, none⟩ m c (Lib.byteCells news) hx (by simp [Lib.byteCells, hm]) ?_ (cells_one _) hm0 (by unfold maxLen; omega) (by omega) hB w.heap.size rfl ?_
  · rw [← hcs]; exact World.news_of_block hb
  · intro g' cap' w' h1 h2 _ _
    refine h _ w' ?_ (Own.grownB hown hB h2)
    unfold Own
    rw [List.length_append, hm]
    simpa [Lib.byteCells] using h1
theorem conv_own {w : World} {B : Nat} {g n cap : Nat} {l : List UInt8} (hown : Own w B (.slice (some ⟨g, 0, none⟩) n cap) l) :
    (convert 110 9 (.slice (some ⟨g, 0, none⟩) n cap)).run Tryz.prog w = .ok (.string ⟨l.toArray⟩) w := by
  have hn : n = l.length := by
    rcases hown.2 with ⟨h, _⟩ | ⟨g', cap', cur, h, _⟩
    · cases h
    · injection h
  subst hn
  exact run_convert_bytes_back (P := Tryz.prog) w 110 9 5 ⟨g, 0, none⟩ cap l Tryz.underlying110 Tryz.underlying5 Tryz.underlying9 (fun j hj => World.ownsRow.cells hown (g := g) rfl j _ (by simp [Lib.byteCells, hj]))
theorem dig_0 (W : World) : (Instr.index 9 (.string ⟨#[48, 49, 50, 51, 52, 53, 54, 55, 56, 57, 97, 98, 99, 100, 101, 102]⟩) (.int .u8 0)).run Tryz.prog W = .ok (.int .u8 48) W := by kernel_rfl
theorem dig_1 (W : World) : (Instr.index 9 (.string ⟨#[48, 49, 50, 51, 52, 53, 54, 55, 56, 57, 97, 98, 99, 100, 101, 102]⟩) (.int .u8 1)).run Tryz.prog W = .ok (.int .u8 49) W := by kernel_rfl
theorem dig_2 (W : World) : (Instr.index 9 (.string ⟨#[48, 49, 50, 51, 52, 53, 54, 55, 56, 57, 97, 98, 99, 100, 101, 102]⟩) (.int .u8 2)).run Tryz.prog W = .ok (.int .u8 50) W := by kernel_rfl
theorem dig_3 (W : World) : (Instr.index 9 (.string ⟨#[48, 49, 50, 51, 52, 53, 54, 55, 56, 57, 97, 98, 99, 100, 101, 102]⟩) (.int .u8 3)).run Tryz.prog W = .ok (.int .u8 51) W := by kernel_rfl
theorem dig_4 (W : World) : (Instr.index 9 (.string ⟨#[48, 49, 50, 51, 52, 53, 54, 55, 56, 57, 97, 98, 99, 100, 101, 102]⟩) (.int .u8 4)).run Tryz.prog W = .ok (.int .u8 52) W := by kernel_rfl
theorem dig_5 (W : World) : (Instr.index 9 (.string ⟨#[48, 49, 50, 51, 52, 53, 54, 55, 56, 57, 97, 98, 99, 100, 101, 102]⟩) (.int .u8 5)).run Tryz.prog W = .ok (.int .u8 53) W := by kernel_rfl
theorem dig_6 (W : World) : (Instr.index 9 (.string ⟨#[48, 49, 50, 51, 52, 53, 54, 55, 56, 57, 97, 98, 99, 100, 101, 102]⟩) (.int .u8 6)).run Tryz.prog W = .ok (.int .u8 54) W := by kernel_rfl
theorem dig_7 (W : World) : (Instr.index 9 (.string ⟨#[48, 49, 50, 51, 52, 53, 54, 55, 56, 57, 97, 98, 99, 100, 101, 102]⟩) (.int .u8 7)).run Tryz.prog W = .ok (.int .u8 55) W := by kernel_rfl
theorem dig_8 (W : World) : (Instr.index 9 (.string ⟨#[48, 49, 50, 51, 52, 53, 54, 55, 56, 57, 97, 98, 99, 100, 101, 102]⟩) (.int .u8 8)).run Tryz.prog W = .ok (.int .u8 56) W := by kernel_rfl
theorem dig_9 (W : World) : (Instr.index 9 (.string ⟨#[48, 49, 50, 51, 52, 53, 54, 55, 56, 57, 97, 98, 99, 100, 101, 102]⟩) (.int .u8 9)).run Tryz.prog W = .ok (.int .u8 57) W := by kernel_rfl
theorem dig_10 (W : World) : (Instr.index 9 (.string ⟨#[48, 49, 50, 51, 52, 53, 54, 55, 56, 57, 97, 98, 99, 100, 101, 102]⟩) (.int .u8 10)).run Tryz.prog W = .ok (.int .u8 97) W := by kernel_rfl
theorem dig_11 (W : World) : (Instr.index 9 (.string ⟨#[48, 49, 50, 51, 52, 53, 54, 55, 56, 57, 97, 98, 99, 100, 101, 102]⟩) (.int .u8 11)).run Tryz.prog W = .ok (.int .u8 98) W := by kernel_rfl
theorem dig_12 (W : World) : (Instr.index 9 (.string ⟨#[48, 49, 50, 51, 52, 53, 54, 55, 56, 57, 97, 98, 99, 100, 101, 102]⟩) (.int .u8 12)).run Tryz.prog W = .ok (.int .u8 99) W := by kernel_rfl
theorem dig_13 (W : World) : (Instr.index 9 (.string ⟨#[48, 49, 50, 51, 52, 53, 54, 55, 56, 57, 97, 98, 99, 100, 101, 102]⟩) (.int .u8 13)).run Tryz.prog W = .ok (.int .u8 100) W := by kernel_rfl
theorem dig_14 (W : World) : (Instr.index 9 (.string ⟨#[48, 49, 50, 51, 52, 53, 54, 55, 56, 57, 97, 98, 99, 100, 101, 102]⟩) (.int .u8 14)).run Tryz.prog W = .ok (.int .u8 101) W := by kernel_rfl
theorem dig_15 (W : World) : (Instr.index 9 (.string ⟨#[48, 49, 50, 51, 52, 53, 54, 55, 56, 57, 97, 98, 99, 100, 101, 102]⟩) (.int .u8 15)).run Tryz.prog W = .ok (.int .u8 102) W := by kernel_rfl
theorem dig_at (n : Nat) (h : n < 16) (W : World) : (Instr.index 9 (.string ⟨#[48, 49, 50, 51, 52, 53, 54, 55, 56, 57, 97, 98, 99, 100, 101, 102]⟩) (.int .u8 (n : Int))).run Tryz.prog W = .ok (.int .u8 ((hexD n).toNat : Int)) W := by
  have hc : n = 0 ∨ n = 1 ∨ n = 2 ∨ n = 3 ∨ n = 4 ∨ n = 5 ∨ n = 6 ∨ n = 7 ∨ n = 8 ∨ n = 9 ∨ n = 10 ∨ n = 11 ∨ n = 12 ∨ n = 13 ∨ n = 14 ∨ n = 15 := by omega
  rcases hc with rfl | rfl | rfl | rfl | rfl | rfl | rfl | rfl | rfl | rfl | rfl | rfl | rfl | rfl | rfl | rfl
  · exact dig_0 W
  · exact dig_1 W
  · exact dig_2 W
  · exact dig_3 W
  · exact dig_4 W
  · exact dig_5 W
  · exact dig_6 W
  · exact dig_7 W
  · exact dig_8 W
  · exact dig_9 W
  · exact dig_10 W
  · exact dig_11 W
  · exact dig_12 W
  · exact dig_13 W
  · exact dig_14 W
  · exact dig_15 W
theorem hi_nibble (c : UInt8) : IntKind.u8.wrap ((c.toNat : Int) / 16) = ((c.toNat / 16 : Nat) : Int) := by
  have := c.toNat_lt
  rw [IntKind.wrap_u8]; omega
theorem lo_nibble (c : UInt8) : ((c.toNat : Int)).tmod 16 = ((c.toNat % 16 : Nat) : Int) := by
  rw [Int.tmod_eq_emod_of_nonneg (by omega)]; omega
theorem own_len {w : World} {B : Nat} {g n cap : Nat} {l : List UInt8} (hown : Own w B (.slice (some ⟨g, 0, none⟩) n cap) l) : n = l.length := by
  rcases hown.2 with ⟨h, _⟩ | ⟨g', cap', cur, h, _⟩
  · cases h
  · injection h
theorem own_form {w : World} {B : Nat} {v : Value} {l : List UInt8} (hown : Own w B v l) (hne : 0 < l.length) : ∃ g n cap, v = .slice (some ⟨g, 0, none⟩) n cap := by
  rcases hown.2 with ⟨_, h⟩ | ⟨g', cap', cur, h, _⟩
  · omega
  · exact ⟨g', _, cap', h⟩
end Go.Proofs.YtlmdcaemjaldfaaGreatDoor
namespace Go.Proofs.YtlmdcaemjaldfaaGreatDoor
open Go.RowKit
attribute [local go_sem ↓] Go.wp_at_zero Go.wp_at_succ
theorem indexByte_any (s : ByteArray) (c : Int) (w : World) :
    Calls Tryz.prog 116 #[.string s, .int .u8 c] w fun e w' => e = .returned (.int .i64 (Lib.indexByte s.data.toList c.toNat.toUInt8)) ∧ w' = w := by
  go_enter Tryz.func116, Tryz.ntmps116
  go_wp2_with (go_at_call 128; refine (Tryz.stringslite_IndexByte _ _ _).mono ?_; rintro e w' ⟨rfl, rfl⟩)
  go_ret
  exact ⟨rfl, rfl⟩
theorem hex_any (c : UInt8) (w : World) :
    Calls Tryz.prog 116 #[.string ⟨#[48, 49, 50, 51, 52, 53, 54, 55, 56, 57, 97, 98, 99, 100, 101, 102]⟩, .int .u8 (c.toNat : Int)] w fun e w' => e = .returned (.int .i64 (hexI c)) ∧ w' = w := by
  refine (indexByte_any _ _ _).mono ?_
  rintro e w' ⟨rfl, rfl⟩
  refine ⟨ret_int ?_, rfl⟩
  unfold hexI hexA
  simp
theorem ret_two {c d a b : Int} (h1 : c = a) (h2 : d = b) : Ending.returned (.tuple #[.int .u8 c, .int .i64 d]) = .returned (.tuple #[.int .u8 a, .int .i64 b]) := by rw [h1, h2]
set_option maxHeartbeats 1000000 in
set_option maxRecDepth 100000 in
theorem readByte_any (s : ByteArray) (w : World) (h0 : 0 < s.size) (hs : s.size ≤ 1048576) :
    Calls Tryz.prog 106 #[.string s] w fun e w' => e = .returned (.tuple #[.int .u8 (rb s.data.toList).1, .int .i64 (rb s.data.toList).2]) ∧ Below w.heap.size w w' := by
  have e0 := hide (at_getD s 0 h0)
  have hl : s.data.toList.length = s.size := (Lib.size_eq s).symm
  have Hl := hide hl
  clear hl
  by_cases c0 : s[0].toNat = 92
  · have c0' : ((s[0].toNat : Int) != 92) = false := by rw [c0]; rfl
    by_cases h3 : s.size < 3
    · go_enter Tryz.func106, Tryz.ntmps106
      go_wp2
      go_ret2
      refine ⟨ret_two ?_ ?_, Below.refl _ _⟩ <;> (unfold rb; rw [← unhide e0, if_pos c0, if_pos (by rw [unhide Hl]; exact h3)])
    · have b1 := hexI_bd s[1]
      have b2 := hexI_bd s[2]
      have e1 := hide (at_getD s 1 (by omega))
      have e2 := hide (at_getD s 2 (by omega))
      have HD := hide c0
      have g1 : (1 : Int) < (s.size : Int) := by omega
      have g2 : (2 : Int) < (s.size : Int) := by omega
      clear c0
      have hg : Hid (rb s.data.toList = if hexI s[1] < 0 ∨ hexI s[2] < 0 then ((0 : Int), (0 : Int)) else if escB ((16 : Int) * hexI s[1] + hexI s[2]) = true then ((16 : Int) * hexI s[1] + hexI s[2], 3) else (0, 0)) := hide (by
        unfold rb; rw [← unhide e0, ← unhide e1, ← unhide e2, if_pos HD.out, if_neg (by rw [unhide Hl]; exact h3)])
      clear e0 e1 e2 HD Hl
      by_cases n1 : hexI s[1] < 0
      · go_enter Tryz.func106, Tryz.ntmps106
        go_wp2
        go_region_with (go_at_call 116; refine (hex_any _ _).mono ?_; rintro e w' ⟨rfl, rfl⟩)
        all_goals
          go_wp2_with (go_at_call 67; refine (escaped_any _ _).mono ?_; rintro e w' ⟨rfl, rfl⟩)
          go_ret2
          refine ⟨ret_two ?_ ?_, (Below.refl _ _).drew⟩ <;> (rw [hg.out]; simp [n1])
      by_cases n2 : hexI s[2] < 0
      · go_enter Tryz.func106, Tryz.ntmps106
        go_wp2
        go_region_with (go_at_call 116; refine (hex_any _ _).mono ?_; rintro e w' ⟨rfl, rfl⟩)
        all_goals
          go_wp2_with (go_at_call 67; refine (escaped_any _ _).mono ?_; rintro e w' ⟨rfl, rfl⟩)
          go_ret2
          refine ⟨ret_two ?_ ?_, (Below.refl _ _).drew⟩ <;> (rw [hg.out]; simp [n2])
      have hw8 : IntKind.u8.wrap ((16 : Int) * hexI s[1] + hexI s[2]) = (16 : Int) * hexI s[1] + hexI s[2] := by rw [IntKind.wrap_u8]; omega
      cases he : escB ((16 : Int) * hexI s[1] + hexI s[2])
      · go_enter Tryz.func106, Tryz.ntmps106
        go_wp2
        go_region_with (go_at_call 116; refine (hex_any _ _).mono ?_; rintro e w' ⟨rfl, rfl⟩)
        all_goals
          go_wp2_with (go_at_call 67; refine (escaped_any _ _).mono ?_; rintro e w' ⟨rfl, rfl⟩)
          go_ret2
          refine ⟨ret_two ?_ ?_, (Below.refl _ _).drew⟩ <;> (rw [hg.out]; simp [n1, n2, he])
      · go_enter Tryz.func106, Tryz.ntmps106
        go_wp2
        go_region_with (go_at_call 116; refine (hex_any _ _).mono ?_; rintro e w' ⟨rfl, rfl⟩)
        all_goals
          go_wp2_with (go_at_call 67; refine (escaped_any _ _).mono ?_; rintro e w' ⟨rfl, rfl⟩)
          go_ret2
          refine ⟨ret_two ?_ ?_, (Below.refl _ _).drew⟩ <;> (rw [hg.out, if_neg (by omega), if_pos he])
  · have c0' : ((s[0].toNat : Int) != 92) = true := by rw [bne_iff_ne]; omega
    cases he : escB (s[0].toNat : Int)
    · go_enter Tryz.func106, Tryz.ntmps106
      go_wp2_with (go_at_call 67; refine (escaped_any _ _).mono ?_; rintro e w' ⟨rfl, rfl⟩)
      go_ret2
      refine ⟨ret_two ?_ ?_, Below.refl _ _⟩ <;> (unfold rb; rw [← unhide e0, if_neg c0, he]; rfl)
    · go_enter Tryz.func106, Tryz.ntmps106
      go_wp2_with (go_at_call 67; refine (escaped_any _ _).mono ?_; rintro e w' ⟨rfl, rfl⟩)
      go_ret2
      refine ⟨ret_two ?_ ?_, Below.refl _ _⟩ <;> (unfold rb; rw [← unhide e0, if_neg c0, he]; rfl)
set_option maxHeartbeats 1000000 in
set_option maxRecDepth 100000 in
theorem numberEnd_any (s : ByteArray) (w : World) (h0 : 0 < s.size) (hs : s.size ≤ 1048576) :
    Calls Tryz.prog 94 #[.string s] w fun e w' => e = .returned (.int .i64 (numEnd s.data.toList : Nat)) ∧ w' = w := by
  by_cases c0 : s[0].toNat = 45
  · have c0' : ((s[0].toNat : Int) == 45) = true := by rw [c0]; rfl
    have HC := hide c0
    clear c0
    go_enter Tryz.func94, Tryz.ntmps94
    go_wp2
    go_loop [4] (fun t => ∃ k : Nat, 1 ≤ k ∧ k ≤ s.size ∧ t = .int .i64 k ∧ Hid (digsTo s.data.toList 1 k)) (fun t => s.size - (intOf t).toNat)
    case atStart => exact ⟨1, by omega, by omega, rfl, digsTo_start _ _⟩
    case round =>
      obtain ⟨k, hk1, hk, rfl, hd⟩ := hrel
      by_cases hlt : k < s.size
      · by_cases d1 : 48 ≤ (s[k].toNat : Int)
        · by_cases d2 : (s[k].toNat : Int) ≤ 57
          · go_wp2
            exact ⟨⟨k + 1, by omega, by omega, by go_num, hide (digsTo_step s 1 k hd.out hlt d1 d2)⟩, by simp [intOf]; omega⟩
          · have E0 := notDig s k hlt (Or.inr (by omega))
            have HE := hide E0
            clear E0
            have E := hide (numEnd_end1 s h0 HC.out k hk1 hk hd.out (Or.inr HE.out))
            by_cases k1 : k = 1
            · have kb : ((k : Int) == 1) = true := by rw [k1]; rfl
              have K1 := hide k1
              clear k1
              go_wp2
              go_ret
              exact ⟨ret_int (by rw [E.out, if_pos K1.out]; rfl), rfl⟩
            · have kb : ((k : Int) == 1) = false := beq_eq_false_iff_ne.2 (by omega)
              go_wp2
              go_ret
              exact ⟨ret_int (by rw [E.out, if_neg k1]), rfl⟩
        · have E0 := notDig s k hlt (Or.inl (by omega))
          have HE := hide E0
          clear E0
          have E := hide (numEnd_end1 s h0 HC.out k hk1 hk hd.out (Or.inr HE.out))
          by_cases k1 : k = 1
          · have kb : ((k : Int) == 1) = true := by rw [k1]; rfl
            have K1 := hide k1
            clear k1
            go_wp2
            go_ret
            exact ⟨ret_int (by rw [E.out, if_pos K1.out]; rfl), rfl⟩
          · have kb : ((k : Int) == 1) = false := beq_eq_false_iff_ne.2 (by omega)
            go_wp2
            go_ret
            exact ⟨ret_int (by rw [E.out, if_neg k1]), rfl⟩
      · have E0 : k = s.size := by omega
        have HE := hide E0
        clear E0
        have E := hide (numEnd_end1 s h0 HC.out k hk1 hk hd.out (Or.inl HE.out))
        by_cases k1 : k = 1
        · have kb : ((k : Int) == 1) = true := by rw [k1]; rfl
          have K1 := hide k1
          clear k1
          go_wp2
          go_ret
          exact ⟨ret_int (by rw [E.out, if_pos K1.out]; rfl), rfl⟩
        · have kb : ((k : Int) == 1) = false := beq_eq_false_iff_ne.2 (by omega)
          go_wp2
          go_ret
          exact ⟨ret_int (by rw [E.out, if_neg k1]), rfl⟩
  · have c0' : ((s[0].toNat : Int) == 45) = false := beq_eq_false_iff_ne.2 (by omega)
    have HC := hide c0
    clear c0
    go_enter Tryz.func94, Tryz.ntmps94
    go_wp2
    go_loop [4] (fun t => ∃ k : Nat, 0 ≤ k ∧ k ≤ s.size ∧ t = .int .i64 k ∧ Hid (digsTo s.data.toList 0 k)) (fun t => s.size - (intOf t).toNat)
    case atStart => exact ⟨0, by omega, by omega, rfl, digsTo_start _ _⟩
    case round =>
      obtain ⟨k, hk1, hk, rfl, hd⟩ := hrel
      by_cases hlt : k < s.size
      · by_cases d1 : 48 ≤ (s[k].toNat : Int)
        · by_cases d2 : (s[k].toNat : Int) ≤ 57
          · go_wp2
            exact ⟨⟨k + 1, by omega, by omega, by go_num, hide (digsTo_step s 0 k hd.out hlt d1 d2)⟩, by simp [intOf]; omega⟩
          · have E0 := notDig s k hlt (Or.inr (by omega))
            have HE := hide E0
            clear E0
            have E := hide (numEnd_end0 s h0 HC.out k hk hd.out (Or.inr HE.out))
            by_cases k1 : k = 0
            · have kb : ((k : Int) == 0) = true := by rw [k1]; rfl
              have K1 := hide k1
              clear k1
              go_wp2
              go_ret
              exact ⟨ret_int (by rw [E.out, K1.out]; rfl), rfl⟩
            · have kb : ((k : Int) == 0) = false := beq_eq_false_iff_ne.2 (by omega)
              go_wp2
              go_ret
              exact ⟨ret_int (by rw [E.out]), rfl⟩
        · have E0 := notDig s k hlt (Or.inl (by omega))
          have HE := hide E0
          clear E0
          have E := hide (numEnd_end0 s h0 HC.out k hk hd.out (Or.inr HE.out))
          by_cases k1 : k = 0
          · have kb : ((k : Int) == 0) = true := by rw [k1]; rfl
            have K1 := hide k1
            clear k1
            go_wp2
            go_ret
            exact ⟨ret_int (by rw [E.out, K1.out]; rfl), rfl⟩
          · have kb : ((k : Int) == 0) = false := beq_eq_false_iff_ne.2 (by omega)
            go_wp2
            go_ret
            exact ⟨ret_int (by rw [E.out]), rfl⟩
      · have E0 : k = s.size := by omega
        have HE := hide E0
        clear E0
        have E := hide (numEnd_end0 s h0 HC.out k hk hd.out (Or.inl HE.out))
        by_cases k1 : k = 0
        · have kb : ((k : Int) == 0) = true := by rw [k1]; rfl
          have K1 := hide k1
          clear k1
          go_wp2
          go_ret
          exact ⟨ret_int (by rw [E.out, K1.out]; rfl), rfl⟩
        · have kb : ((k : Int) == 0) = false := beq_eq_false_iff_ne.2 (by omega)
          go_wp2
          go_ret
          exact ⟨ret_int (by rw [E.out]), rfl⟩
end Go.Proofs.YtlmdcaemjaldfaaGreatDoor
namespace Go.Proofs.YtlmdcaemjaldfaaGreatDoor
open Go.RowKit
def retR : R → Value
  | none => .tuple #[.agg #[.int .i64 0, .int .i64 0, .string ⟨#[]⟩], .int .i64 0, .bool false]
  | some (k, n, s, long) => .tuple #[.agg #[.int .i64 k, .int .i64 n, .string ⟨s.toArray⟩], .int .i64 (long : Nat), .bool true]
theorem atoi_ok (s : ByteArray) (hl : s.size ≤ 281474976710656) (w : World) (hE : Env w) (v : Int) (h : Lib.atoiAll s.data.toList = .ok v) :
    Calls Tryz.prog 107 #[.string s] w fun e w' => e = .returned (.tuple #[.int .i64 v, .nilIface]) ∧ Below w.heap.size w w' := by
  refine (atoi_any s hl w hE).mono ?_
  rintro e w' ⟨⟨v', hv, rfl⟩ | ⟨hn, _⟩, hb⟩
  · rw [h] at hv
    injection hv with hv
    subst hv
    exact ⟨rfl, hb⟩
  · exact absurd h (hn v)
theorem atoi_err (s : ByteArray) (hl : s.size ≤ 281474976710656) (w : World) (hE : Env w) (h : ∀ v, Lib.atoiAll s.data.toList ≠ .ok v) :
    Calls Tryz.prog 107 #[.string s] w fun e w' => ∃ z N, e = .returned (.tuple #[.int .i64 z, .iface 178 (.pointer (some ⟨N, 0, none⟩))]) ∧ Below w.heap.size w w' := by
  refine (atoi_any s hl w hE).mono ?_
  rintro e w' ⟨⟨v', hv, rfl⟩ | ⟨hn, z, N, rfl⟩, hb⟩
  · exact absurd hv (h v')
  · exact ⟨z, N, rfl, hb⟩
theorem three_stores {w : World} {r : Nat} {x0 x1 x2 : Value} (a b c : Value) (r0 : w.cell? ⟨r, 0, none⟩ = some x0) (r1 : w.cell? ⟨r, 1, none⟩ = some x1) (r2 : w.cell? ⟨r, 2, none⟩ = some x2) :
    (w.setCell ⟨r, 0, none⟩ a).cell? ⟨r, 0, none⟩ = some a ∧ ((w.setCell ⟨r, 0, none⟩ a).setCell ⟨r, 1, none⟩ b).cell? ⟨r, 1, none⟩ = some b ∧
    (((w.setCell ⟨r, 0, none⟩ a).setCell ⟨r, 1, none⟩ b).setCell ⟨r, 2, none⟩ c).cell? ⟨r, 2, none⟩ = some c := by
  refine ⟨World.cell?_setCell_same _ _ _ r0, World.cell?_setCell_same _ _ _ ((World.cell?_setCell_other _ _ _ _ (by simp)).trans r1), World.cell?_setCell_same _ _ _ ((World.cell?_setCell_other _ _ _ _ (by simp)).trans ((World.cell?_setCell_other _ _ _ _ (by simp)).trans r2))⟩
theorem below_three {w w2 : World} (a b c : Value) (hb : Below w.heap.size w w2) : Below w.heap.size w (((w2.setCell ⟨w.heap.size, 0, none⟩ a).setCell ⟨w.heap.size, 1, none⟩ b).setCell ⟨w.heap.size, 2, none⟩ c) :=
  ((hb.setCell (Nat.le_refl _) _).setCell (Nat.le_refl _) _).setCell (Nat.le_refl _) _
set_option maxHeartbeats 1000000 in
set_option maxRecDepth 100000 in
theorem readNumber_any (s : ByteArray) (w : World) (hE : Env w) (hs : s.size ≤ 1048576) :
    Calls Tryz.prog 95 #[.string s] w fun e w' => e = .returned (retR (rnL s.data.toList)) ∧ Below w.heap.size w w' := by
  by_cases hok : ∃ v, Lib.atoiAll s.data.toList = .ok v
  · obtain ⟨v, hv⟩ := hok
    obtain ⟨v0, v1⟩ := Lib.atoiAll_bounds hv
    have HA := fun W (h : Env W) => hide (atoi_ok s (by omega) W h v hv)
    have HI := fun W (h : Env W) => hide (itoa_any v v0 v1 W h)
    have Hr := hide (rnL_ok hv)
    clear hv
    have hE' := hide hE
    clear hE
    go_enter Tryz.func95, Tryz.ntmps95
    go_wp2_with fail
    refine (unhide (HA _ (hE'.out.alloc _))).mono ?_
    rintro e w1 ⟨rfl, hb1⟩
    have hE1 := hide ((hE'.out.alloc _).on hb1)
    have hb1' := hide (below_alloc hb1)
    obtain ⟨hc, hf⟩ := bcell hb1
    have hz : w.heap.size < w1.heap.size := by have := hb1.size; simp at this; omega
    clear hb1
    by_cases hi : Lib.itoa v = s.data.toList
    · have hq : (Lib.itoa v == s.toList) = true := by rw [ByteArray.toList_eq, hi]; simp
      have Hi := hide hi
      clear hi
      go_wp2_with (go_at_call 59; refine (unhide (HI _ hE1.out)).mono ?_; rintro e w2 ⟨rfl, hb2⟩; refine Hid.out ?_)
      refine hide ?_
      obtain ⟨hc2, hf2⟩ := bcell hb2
      have hz2 : w.heap.size < w2.heap.size := by have := hb2.size; omega
      have hB := hide (hb1'.out.trans (hb2.mono (by omega)))
      clear hb2
      have r0 : w2.cell? ⟨w.heap.size, 0, none⟩ = some (.int .i64 0) := by rw [hc2 _ _ hz, hc _ _ (by simp)]; simp
      have r1 : w2.cell? ⟨w.heap.size, 1, none⟩ = some (.int .i64 0) := by rw [hc2 _ _ hz, hc _ _ (by simp)]; simp
      have r2 : w2.cell? ⟨w.heap.size, 2, none⟩ = some (.string ⟨#[]⟩) := by rw [hc2 _ _ hz, hc _ _ (by simp)]; simp
      have Hq := hide (three_stores (.int .i64 1) (.int .i64 v) (.string ⟨#[]⟩) r0 r1 r2)
      go_wp2
      obtain ⟨q0, q1, q2⟩ := Hq.out
      refine bodyPost_ret (v := retR (some (1, v, [], s.size))) (by simp [results, Tryz.results95, go_sem, retR, q0, q1, q2]) rfl ⟨?_, below_three _ _ _ hB.out⟩
      rw [Hr.out, if_pos Hi.out, ← Lib.size_eq]
    · have hq : (Lib.itoa v == s.toList) = false := by rw [ByteArray.toList_eq]; exact beq_eq_false_iff_ne.2 hi
      have Hi := hide hi
      clear hi
      go_wp2_with (go_at_call 59; refine (unhide (HI _ hE1.out)).mono ?_; rintro e w2 ⟨rfl, hb2⟩; refine Hid.out ?_)
      refine hide ?_
      obtain ⟨hc2, hf2⟩ := bcell hb2
      have hz2 : w.heap.size < w2.heap.size := by have := hb2.size; omega
      have hB := hide (hb1'.out.trans (hb2.mono (by omega)))
      clear hb2
      have r0 : w2.cell? ⟨w.heap.size, 0, none⟩ = some (.int .i64 0) := by rw [hc2 _ _ hz, hc _ _ (by simp)]; simp
      have r1 : w2.cell? ⟨w.heap.size, 1, none⟩ = some (.int .i64 0) := by rw [hc2 _ _ hz, hc _ _ (by simp)]; simp
      have r2 : w2.cell? ⟨w.heap.size, 2, none⟩ = some (.string ⟨#[]⟩) := by rw [hc2 _ _ hz, hc _ _ (by simp)]; simp
      have Hq := hide (three_stores (.int .i64 0) (.int .i64 0) (.string ⟨#[]⟩) r0 r1 r2)
      go_wp2
      obtain ⟨q0, q1, q2⟩ := Hq.out
      refine bodyPost_ret (v := retR (none)) (by simp [results, Tryz.results95, go_sem, retR, q0, q1, q2]) rfl ⟨?_, below_three _ _ _ hB.out⟩
      rw [Hr.out, if_neg Hi.out]
  · have hne : ∀ v, Lib.atoiAll s.data.toList ≠ .ok v := fun v h => hok ⟨v, h⟩
    have HA := fun W (h : Env W) => hide (atoi_err s (by omega) W h hne)
    have Hr := hide (rnL_err hne)
    clear hok hne
    have hE' := hide hE
    clear hE
    go_enter Tryz.func95, Tryz.ntmps95
    go_wp2_with fail
    refine (unhide (HA _ (hE'.out.alloc _))).mono ?_
    rintro e w2 ⟨z, N, rfl, hb1⟩
    have hB := hide (below_alloc hb1)
    obtain ⟨hc, hf⟩ := bcell hb1
    have hz : w.heap.size < w2.heap.size := by have := hb1.size; simp at this; omega
    clear hb1
    have r0 : w2.cell? ⟨w.heap.size, 0, none⟩ = some (.int .i64 0) := by rw [hc _ _ (by simp)]; simp
    have r1 : w2.cell? ⟨w.heap.size, 1, none⟩ = some (.int .i64 0) := by rw [hc _ _ (by simp)]; simp
    have r2 : w2.cell? ⟨w.heap.size, 2, none⟩ = some (.string ⟨#[]⟩) := by rw [hc _ _ (by simp)]; simp
    have Hq := hide (three_stores (.int .i64 0) (.int .i64 0) (.string ⟨#[]⟩) r0 r1 r2)
    go_wp2
    obtain ⟨q0, q1, q2⟩ := Hq.out
    refine bodyPost_ret (v := retR none) (by simp [results, Tryz.results95, go_sem, retR, q0, q1, q2]) rfl ⟨?_, below_three _ _ _ hB.out⟩
    rw [Hr.out]
theorem readByte_at (s : ByteArray) (k : Nat) (hk : k < s.size) (hs : s.size ≤ 1048576) (w : World) :
    Calls Tryz.prog 106 #[.string (s.extract k s.size)] w fun e w' => e = .returned (.tuple #[.int .u8 ((rbC (s.data.toList.drop k)).toNat : Int), .int .i64 ((rbW (s.data.toList.drop k) : Nat) : Int)]) ∧ Below w.heap.size w w' := by
  have hsz : (s.extract k s.size).size = s.size - k := by rw [Lib.size_eq, Lib.extract_data, List.length_take, List.length_drop, ← Lib.size_eq]; omega
  have hd : (s.extract k s.size).data.toList = s.data.toList.drop k := by
    rw [Lib.extract_data, List.take_of_length_le]
    rw [List.length_drop, ← Lib.size_eq]; omega
  refine (readByte_any (s.extract k s.size) w (by omega) (by omega)).mono ?_
  rw [hd, rb_c, rb_w]
  exact fun e w' h => h
set_option maxHeartbeats 1000000 in
set_option maxRecDepth 100000 in
theorem readString_any (s : ByteArray) (w : World) (h0 : 0 < s.size) (hs : s.size ≤ 1048576) :
    Calls Tryz.prog 93 #[.string s] w fun e w' => e = .returned (retR (rsL s.size (s.data.toList.drop 1) [] 1)) ∧ Below w.heap.size w w' := by
  obtain ⟨i0, hi, hz0, hz1, hz2⟩ := info_parts infoByte
  go_enter Tryz.func93, Tryz.ntmps93
  go_wp2_with (at_make; refine wpList_make_own _ rfl _ _ 110 rfl (w.heap.size + 1) 5 i0 (.int .u8 0) 1 Tryz.underlying110 hi hz0 hz1 _ _ _ 8 rfl rfl (by omega) ?b2 ?b3 (by simp) ?_)
  case b2 => rw [hz2]; omega
  case b3 => unfold maxLen; omega
  intro w0 hown0 hgrow0
  have hb0 : Below (w.heap.size + 1) (w.alloc (.cells #[.int .i64 0, .int .i64 0, .string ⟨#[]⟩] 40)) w0 := (Below.refl _ _).grown hgrow0 (by simp) (fun k h => by cases h)
  have hO0 : Hid (Own w0 (w.heap.size + 1) (.slice (some ⟨w.heap.size + 1, 0, none⟩) 0 8) []) := hide (by simpa [Own, Lib.byteCells] using hown0)
  have hB0 := hide hb0
  clear hown0 hgrow0 hi hz0 hz1 hz2 hb0
  go_wp2
  go_loopw [5, 6] (fun v i wr => ∃ (k g n cap : Nat) (acc : List UInt8), 1 ≤ k ∧ k ≤ s.size ∧ i = .int .i64 k ∧ v = .slice (some ⟨g, 0, none⟩) n cap ∧ n ≤ 8 ∧ Hid (n = acc.length) ∧ Hid (Own wr (w.heap.size + 1) (.slice (some ⟨g, 0, none⟩) n cap) acc) ∧ Hid (Rs s acc k) ∧ Hid (Below (w.heap.size + 1) (w.alloc (.cells #[.int .i64 0, .int .i64 0, .string ⟨#[]⟩] 40)) wr)) (fun _ i _ => s.size - (intOf i).toNat)
  case atStart => exact ⟨1, w.heap.size + 1, 0, 8, [], by omega, by omega, rfl, rfl, by omega, rfl, hO0, rs_start s, hB0⟩
  case round =>
    obtain ⟨k, g, n, cap, acc, hk1, hk, rfl, rfl, hn8, hn, hO, hR, hB⟩ := hrel
    clear hO0 hB0
    have hsz : w.heap.size + 1 ≤ wr.heap.size := by have := hB.out.size; simp at this; omega
    have r0 := hB.out.cell (p := ⟨w.heap.size, 0, none⟩) (by simp)
    have r1 := hB.out.cell (p := ⟨w.heap.size, 1, none⟩) (by simp)
    have r2 := hB.out.cell (p := ⟨w.heap.size, 2, none⟩) (by simp)
    have f0 := hB.out.frozen (p := ⟨w.heap.size, 0, none⟩) (by simp)
    have f1 := hB.out.frozen (p := ⟨w.heap.size, 1, none⟩) (by simp)
    have f2 := hB.out.frozen (p := ⟨w.heap.size, 2, none⟩) (by simp)
    simp at r0 r1 r2 f0 f1 f2
    by_cases hlt : k < s.size
    · by_cases hq : s[k].toNat = 39
      · have hqb : ((s[k].toNat : Int) != 39) = false := by rw [hq]; rfl
        have E := hide (rs_quote s acc k hR.out hlt hq)
        have hcv := conv_own hO.out
        have Hq := hide (three_stores (.int .i64 2) (.int .i64 0) (.string ⟨acc.toArray⟩) r0 r1 r2)
        have hkb : ((k : Int) == (s.size : Int)) = false := beq_eq_false_iff_ne.2 (by omega)
        clear hq
        go_wp2
        obtain ⟨q0, q1, q2⟩ := Hq.out
        refine bodyPost_ret (v := retR (some (2, 0, acc, k + 1))) (by simp [results, Tryz.results93, go_sem, retR, q0, q1, q2]) rfl ⟨by rw [E.out], below_three _ _ _ (below_one hB.out)⟩
      · have hqb : ((s[k].toNat : Int) != 39) = true := by rw [bne_iff_ne]; omega
        have HQ := hide hq
        clear hq
        have hw := rbW_at s k hlt
        have HRB := fun W => hide (readByte_at s k hlt hs W)
        have hst := hide (fun a b => rs_step s acc k hR.out hlt HQ.out a b)
        have hwr := hide (fun a => rs_wrong s acc k hR.out hlt HQ.out a)
        have hlg := hide (fun a => rs_long s acc k hR.out hlt HQ.out a)
        generalize rbW (s.data.toList.drop k) = q at *
        generalize rbC (s.data.toList.drop k) = c at *
        go_wp2_with (go_at_call 106; refine (unhide (HRB _)).mono ?_; rintro e w1 ⟨rfl, hb1⟩; refine Hid.out ?_)
        refine hide ?_
        have hO1 := hide (hO.out.on hb1)
        have hB1 := hide (hB.out.trans (hb1.mono hsz))
        obtain ⟨hc, hf⟩ := bcell hb1
        have hsz1 : w.heap.size + 1 ≤ w1.heap.size := by have := hb1.size; omega
        rw [← hc _ _ (by omega)] at r0 r1 r2
        rw [← hf _ _ (by omega)] at f0 f1 f2
        clear hb1 hc hf
        by_cases q0 : q = 0
        · have E := hide (hwr.out q0)
          have qb : ((q : Int) == 0) = true := by rw [q0]; rfl
          have Hq := hide (three_stores (.int .i64 0) (.int .i64 0) (.string ⟨#[]⟩) r0 r1 r2)
          clear q0
          go_wp2
          obtain ⟨q0, q1, q2⟩ := Hq.out
          refine bodyPost_ret (v := retR (none)) (by simp [results, Tryz.results93, go_sem, retR, q0, q1, q2]) rfl ⟨by rw [E.out], below_three _ _ _ (below_one hB1.out)⟩
        · have qb : ((q : Int) == 0) = false := beq_eq_false_iff_ne.2 (by omega)
          by_cases n8 : n = 8
          · have E := hide (hlg.out (hn.out.symm.trans n8))
            have nb : ((n : Int) == 8) = true := by rw [n8]; rfl
            have Hq := hide (three_stores (.int .i64 0) (.int .i64 0) (.string ⟨#[]⟩) r0 r1 r2)
            clear n8
            go_wp2
            obtain ⟨q0, q1, q2⟩ := Hq.out
            refine bodyPost_ret (v := retR (none)) (by simp [results, Tryz.results93, go_sem, retR, q0, q1, q2]) rfl ⟨by rw [E.out], below_three _ _ _ (below_one hB1.out)⟩
          · have nb : ((n : Int) == 8) = false := beq_eq_false_iff_ne.2 (by omega)
            have hR2 := hide (hst.out q0 (fun h => n8 (hn.out.trans h)))
            have hl8 : acc.length + 1 ≤ 9 := by have := hn.out; omega
            go_wp2_with (at_builtin; refine wpList_app _ rfl _ _ rfl (w.heap.size + 1) _ acc rfl (hO1.out.alloc _) _ 1 1 _ [c] rfl rfl (heap_top _ _) rfl (by omega) (by simp; omega) ?_; intro v2 w2 hO2 hb2; refine Hid.out ?_)
            refine hide ?_
            obtain ⟨g2, n2, cap2, rfl⟩ := own_form hO2 (by simp)
            have hn2 := own_len hO2
            have hn2' : n2 = n + 1 := by rw [hn2, List.length_append, ← hn.out]; rfl
            have Hn2 := hide hn2
            have hn28 : n2 ≤ 8 := by omega
            have HO2 := hide hO2
            have HB2 := hide ((hB1.out.alloc hsz1 _).trans hb2)
            clear hn2 hn2' hO2 hb2
            go_wp2
            exact ⟨⟨k + q, g2, n2, cap2, acc ++ [c], by omega, by omega, by go_num, rfl, hn28, Hn2, HO2, hR2, HB2⟩, by simp [intOf]; omega⟩
    · have E := hide (rs_end s acc k hR.out (by omega))
      have Hq := hide (three_stores (.int .i64 0) (.int .i64 0) (.string ⟨#[]⟩) r0 r1 r2)
      have hkb : ((k : Int) == (s.size : Int)) = true := by rw [show k = s.size from by omega]; simp
      go_wp2
      obtain ⟨q0, q1, q2⟩ := Hq.out
      refine bodyPost_ret (v := retR (none)) (by simp [results, Tryz.results93, go_sem, retR, q0, q1, q2]) rfl ⟨by rw [E.out], below_three _ _ _ (below_one hB.out)⟩
end Go.Proofs.YtlmdcaemjaldfaaGreatDoor
namespace Go.Proofs.YtlmdcaemjaldfaaGreatDoor
open Go.RowKit
theorem read_empty (s : ByteArray) (h : s.size = 0) : readL s.data.toList = none := by
  unfold readL; rw [if_pos (by rw [← Lib.size_eq]; exact h)]
theorem read_quote (s : ByteArray) (h : 0 < s.size) (c : s[0].toNat = 39) : readL s.data.toList = rsL s.size (s.data.toList.drop 1) [] 1 := by
  unfold readL; rw [← at_getD s 0 h, ← Lib.size_eq, if_neg (by omega), if_pos c]
theorem read_num (s : ByteArray) (h : 0 < s.size) (c : ¬ s[0].toNat = 39) (hn : 0 < numEnd s.data.toList) : readL s.data.toList = rnL (s.data.toList.take (numEnd s.data.toList)) := by
  unfold readL; rw [← at_getD s 0 h, ← Lib.size_eq, if_neg (by omega), if_neg c, if_pos hn]
theorem read_minus (s : ByteArray) (h : 0 < s.size) (c : ¬ s[0].toNat = 39) (hn : ¬ 0 < numEnd s.data.toList) (hm : s[0].toNat = 45) : readL s.data.toList = some (0, 0, [], 1) := by
  unfold readL; rw [← at_getD s 0 h, ← Lib.size_eq, if_neg (by omega), if_neg c, if_neg hn, if_pos hm]
theorem read_none (s : ByteArray) (h : 0 < s.size) (c : ¬ s[0].toNat = 39) (hn : ¬ 0 < numEnd s.data.toList) (hm : ¬ s[0].toNat = 45) : readL s.data.toList = none := by
  unfold readL; rw [← at_getD s 0 h, ← Lib.size_eq, if_neg (by omega), if_neg c, if_neg hn, if_neg hm]
theorem isEmpty_false (s : ByteArray) (h : 0 < s.size) : s.toList.isEmpty = false := by
  rw [ByteArray.toList_eq]
  cases e : s.data.toList with
  | nil => rw [Lib.size_eq, e] at h; simp at h
  | cons c l => rfl
theorem isEmpty_true (s : ByteArray) (h : s.size = 0) : s.toList.isEmpty = true := by
  rw [ByteArray.toList_eq]
  cases e : s.data.toList with
  | nil => rfl
  | cons c l => rw [Lib.size_eq, e] at h; simp at h
theorem readNumber_cut (s : ByteArray) (n : Nat) (hn : n ≤ s.size) (w : World) (hE : Env w) (hs : s.size ≤ 1048576) :
    Calls Tryz.prog 95 #[.string (s.extract 0 n)] w fun e w' => e = .returned (retR (rnL (s.data.toList.take n))) ∧ Below w.heap.size w w' := by
  have hd : (s.extract 0 n).data.toList = s.data.toList.take n := by rw [Lib.extract_data]; simp
  have hz : (s.extract 0 n).size ≤ 1048576 := by rw [Lib.size_eq, hd, List.length_take, ← Lib.size_eq]; omega
  have := readNumber_any (s.extract 0 n) w hE hz
  rw [hd] at this
  exact this
set_option maxHeartbeats 1000000 in
set_option maxRecDepth 100000 in
theorem read_any (s : ByteArray) (w : World) (hE : Env w) (hs : s.size ≤ 1048576) :
    Calls Tryz.prog 79 #[.string s] w fun e w' => e = .returned (retR (readL s.data.toList)) ∧ Below w.heap.size w w' := by
  have HE := hide hE
  clear hE
  by_cases h0 : 0 < s.size
  · have he := isEmpty_false s h0
    by_cases c : s[0].toNat = 39
    · have cb : ((s[0].toNat : Int) == 39) = true := by rw [c]; rfl
      have E := read_quote s h0 c
      have HC := fun (W : World) (_ : True) => readString_any s W h0 hs
      clear c
      cases hR : rsL s.size (s.data.toList.drop 1) [] 1 with
      | none =>
        rw [hR] at HC E
        unfold retR at HC
        have HH := fun W h => hide (HC W h)
        clear HC
        go_enter Tryz.func79, Tryz.ntmps79
        go_wp2_with (go_at_call 93; refine (unhide (HH _ trivial)).mono ?_; rintro e w1 ⟨rfl, hb1⟩; refine Hid.out ?_)
        refine hide ?_
        obtain ⟨hc, hf⟩ := bcell hb1
        have hB := hide (below_alloc hb1)
        have hz : w.heap.size < w1.heap.size := by have := hb1.size; simp at this; omega
        clear hb1
        have r0 : w1.cell? ⟨w.heap.size, 0, none⟩ = some (.int .i64 0) := by rw [hc _ _ (by simp)]; simp
        have r1 : w1.cell? ⟨w.heap.size, 1, none⟩ = some (.int .i64 0) := by rw [hc _ _ (by simp)]; simp
        have r2 : w1.cell? ⟨w.heap.size, 2, none⟩ = some (.string ⟨#[]⟩) := by rw [hc _ _ (by simp)]; simp
        have Hq := hide (three_stores (.int .i64 0) (.int .i64 0) (.string ⟨#[]⟩) r0 r1 r2)
        go_wp2
        obtain ⟨q0, q1, q2⟩ := Hq.out
        refine bodyPost_ret (v := retR (none)) (by simp [results, Tryz.results79, go_sem, retR, q0, q1, q2]) rfl ⟨by rw [E], below_three _ _ _ hB.out⟩
      | some x =>
        rw [hR] at HC E
        unfold retR at HC
        have HH := fun W h => hide (HC W h)
        clear HC
        go_enter Tryz.func79, Tryz.ntmps79
        go_wp2_with (go_at_call 93; refine (unhide (HH _ trivial)).mono ?_; rintro e w1 ⟨rfl, hb1⟩; refine Hid.out ?_)
        refine hide ?_
        obtain ⟨hc, hf⟩ := bcell hb1
        have hB := hide (below_alloc hb1)
        have hz : w.heap.size < w1.heap.size := by have := hb1.size; simp at this; omega
        clear hb1
        have r0 : w1.cell? ⟨w.heap.size, 0, none⟩ = some (.int .i64 0) := by rw [hc _ _ (by simp)]; simp
        have r1 : w1.cell? ⟨w.heap.size, 1, none⟩ = some (.int .i64 0) := by rw [hc _ _ (by simp)]; simp
        have r2 : w1.cell? ⟨w.heap.size, 2, none⟩ = some (.string ⟨#[]⟩) := by rw [hc _ _ (by simp)]; simp
        have Hq := hide (three_stores (.int .i64 x.1) (.int .i64 x.2.1) (.string ⟨x.2.2.1.toArray⟩) r0 r1 r2)
        go_wp2
        obtain ⟨q0, q1, q2⟩ := Hq.out
        refine bodyPost_ret (v := retR (some x)) (by simp [results, Tryz.results79, go_sem, retR, q0, q1, q2]) rfl ⟨by rw [E], below_three _ _ _ hB.out⟩
    · have cb : ((s[0].toNat : Int) == 39) = false := beq_eq_false_iff_ne.2 (by omega)
      have HN := fun (W : World) => hide (numberEnd_any s W h0 hs)
      have hle := numEnd_le s.data.toList
      rw [← Lib.size_eq] at hle
      by_cases hn : 0 < numEnd s.data.toList
      · have E := read_num s h0 c hn
        have HC := fun (W : World) (h : Env W) => readNumber_cut s _ hle W h hs
        clear c
        generalize numEnd s.data.toList = n at *
        cases hR : rnL (s.data.toList.take n) with
        | none =>
          rw [hR] at HC E
          unfold retR at HC
          have HH := fun W h => hide (HC W h)
          clear HC
          go_enter Tryz.func79, Tryz.ntmps79
          go_wp2_with (first | (go_at_call 94; refine (unhide (HN _)).mono ?_; rintro e w' ⟨rfl, rfl⟩) | (go_at_call 95; refine (unhide (HH _ (HE.out.alloc _))).mono ?_; rintro e w1 ⟨rfl, hb1⟩; refine Hid.out ?_))
          refine hide ?_
          obtain ⟨hc, hf⟩ := bcell hb1
          have hB := hide (below_alloc hb1)
          have hz : w.heap.size < w1.heap.size := by have := hb1.size; simp at this; omega
          clear hb1
          have r0 : w1.cell? ⟨w.heap.size, 0, none⟩ = some (.int .i64 0) := by rw [hc _ _ (by simp)]; simp
          have r1 : w1.cell? ⟨w.heap.size, 1, none⟩ = some (.int .i64 0) := by rw [hc _ _ (by simp)]; simp
          have r2 : w1.cell? ⟨w.heap.size, 2, none⟩ = some (.string ⟨#[]⟩) := by rw [hc _ _ (by simp)]; simp
          have Hq := hide (three_stores (.int .i64 0) (.int .i64 0) (.string ⟨#[]⟩) r0 r1 r2)
          go_wp2
          obtain ⟨q0, q1, q2⟩ := Hq.out
          refine bodyPost_ret (v := retR (none)) (by simp [results, Tryz.results79, go_sem, retR, q0, q1, q2]) rfl ⟨by rw [E], below_three _ _ _ hB.out⟩
        | some x =>
          rw [hR] at HC E
          unfold retR at HC
          have HH := fun W h => hide (HC W h)
          clear HC
          go_enter Tryz.func79, Tryz.ntmps79
          go_wp2_with (first | (go_at_call 94; refine (unhide (HN _)).mono ?_; rintro e w' ⟨rfl, rfl⟩) | (go_at_call 95; refine (unhide (HH _ (HE.out.alloc _))).mono ?_; rintro e w1 ⟨rfl, hb1⟩; refine Hid.out ?_))
          refine hide ?_
          obtain ⟨hc, hf⟩ := bcell hb1
          have hB := hide (below_alloc hb1)
          have hz : w.heap.size < w1.heap.size := by have := hb1.size; simp at this; omega
          clear hb1
          have r0 : w1.cell? ⟨w.heap.size, 0, none⟩ = some (.int .i64 0) := by rw [hc _ _ (by simp)]; simp
          have r1 : w1.cell? ⟨w.heap.size, 1, none⟩ = some (.int .i64 0) := by rw [hc _ _ (by simp)]; simp
          have r2 : w1.cell? ⟨w.heap.size, 2, none⟩ = some (.string ⟨#[]⟩) := by rw [hc _ _ (by simp)]; simp
          have Hq := hide (three_stores (.int .i64 x.1) (.int .i64 x.2.1) (.string ⟨x.2.2.1.toArray⟩) r0 r1 r2)
          go_wp2
          obtain ⟨q0, q1, q2⟩ := Hq.out
          refine bodyPost_ret (v := retR (some x)) (by simp [results, Tryz.results79, go_sem, retR, q0, q1, q2]) rfl ⟨by rw [E], below_three _ _ _ hB.out⟩
      · have nb : ¬ (0 : Int) < (numEnd s.data.toList : Nat) := by omega
        by_cases hm : s[0].toNat = 45
        · have mb : ((s[0].toNat : Int) == 45) = true := by rw [hm]; rfl
          have E := hide (read_minus s h0 c hn hm)
          clear hm hn c
          generalize numEnd s.data.toList = n at *
          go_enter Tryz.func79, Tryz.ntmps79
          go_wp2_with (go_at_call 94; refine (unhide (HN _)).mono ?_; rintro e w' ⟨rfl, rfl⟩)
          refine bodyPost_ret (v := retR (some (0, 0, [], 1))) (by simp [results, Tryz.results79, go_sem, retR]) rfl ⟨by rw [E.out], (Below.refl _ _).alloc (Nat.le_refl _) _⟩
        · have mb : ((s[0].toNat : Int) == 45) = false := beq_eq_false_iff_ne.2 (by omega)
          have E := hide (read_none s h0 c hn hm)
          clear hm hn c
          generalize numEnd s.data.toList = n at *
          go_enter Tryz.func79, Tryz.ntmps79
          go_wp2_with (go_at_call 94; refine (unhide (HN _)).mono ?_; rintro e w' ⟨rfl, rfl⟩)
          refine bodyPost_ret (v := retR (none)) (by simp [results, Tryz.results79, go_sem, retR]) rfl ⟨by rw [E.out], (Below.refl _ _).alloc (Nat.le_refl _) _⟩
  · have he := isEmpty_true s (by omega)
    have E := hide (read_empty s (by omega))
    go_enter Tryz.func79, Tryz.ntmps79
    go_wp2
    refine bodyPost_ret (v := retR (none)) (by simp [results, Tryz.results79, go_sem, retR]) rfl ⟨by rw [E.out], (Below.refl _ _).alloc (Nat.le_refl _) _⟩
end Go.Proofs.YtlmdcaemjaldfaaGreatDoor
namespace Go.Proofs.YtlmdcaemjaldfaaGreatDoor
open Go.RowKit
def bs (l : List UInt8) : ByteArray := ⟨l.toArray⟩
theorem bs_list (l : List UInt8) : (bs l).data.toList = l := by unfold bs; simp
theorem bs_size (l : List UInt8) : (bs l).size = l.length := by rw [Lib.size_eq, bs_list]
theorem bs_of (s : ByteArray) : bs s.data.toList = s := rfl
def RdL (w : World) (b : Nat) (l : List UInt8) : Prop := RdAt w b (bs l)
theorem RdL.lt {w : World} {b : Nat} {l : List UInt8} (h : RdL w b l) : b < w.heap.size := by
  rcases h with h | h <;> exact lt_heap h
theorem RdL.on {w w' : World} {b : Nat} {l : List UInt8} (h : RdL w b l) (hb : Below w.heap.size w w') : RdL w' b l := by
  rcases h with h | h
  · exact Or.inl ((hb.block b (lt_heap h)).trans h)
  · exact Or.inr ((hb.block b (lt_heap h)).trans h)
theorem RdL.block {w w' : World} {b : Nat} {l : List UInt8} (h : RdL w b l) (hb : w'.heap[b]? = w.heap[b]?) : RdL w' b l := by
  rcases h with h | h
  · exact Or.inl (hb.trans h)
  · exact Or.inr (hb.trans h)
theorem RdL.cell {w : World} {b : Nat} {l : List UInt8} (h : RdL w b l) : w.cell? ⟨b, 0, none⟩ = some (.string (bs l)) ∧ w.frozen? ⟨b, 0, none⟩ = false := by
  rcases h with h | h <;> exact ⟨cell_heap h 0, frozen_heap h 0⟩
theorem RdL.put {w : World} {b : Nat} {l : List UInt8} (h : RdL w b l) (r : List UInt8) : RdL (w.setCell ⟨b, 0, none⟩ (.string (bs r))) b r := by
  rcases h with h | h
  · exact Or.inl (heap_setCell (i := 0) (.string (bs r)) h)
  · exact Or.inr (heap_setCell (i := 0) (.string (bs r)) h)
theorem grown_put (w : World) (b i : Nat) (v : Value) : w.grownBy (w.setCell ⟨b, i, none⟩ v) (some b) := grown_setCell (grown_refl _ _) i v
def chE : List PanicEntry := [{ v := .iface 30 (.int .i64 2), recovered := false }]
theorem has_yes (b : Nat) (l m r : List UInt8) (w : World) (h : RdL w b l) (hc : cut m l = some r) :
    Calls Tryz.prog 41 #[.pointer (some ⟨b, 0, none⟩), .string (bs m)] w fun e w' => e = .returned (.bool true) ∧ RdL w' b r ∧ w.grownBy w' (some b) := by
  obtain ⟨c0, f0⟩ := h.cell
  have HP := hide h.put
  have hp : m.isPrefixOf l = true := by
    unfold cut at hc
    split at hc
    · assumption
    · cases hc
  have hr : l.drop m.length = r := by
    unfold cut at hc
    rw [if_pos hp] at hc
    injection hc
  have E : Hid (Lib.trimPrefix (bs l).data.toList (bs m).data.toList = r) := hide (by rw [bs_list, bs_list]; unfold Lib.trimPrefix Lib.hasPrefix; rw [if_pos hp, hr])
  have E2 : Lib.hasPrefix (bs l).data.toList (bs m).data.toList = true := by rw [bs_list, bs_list]; exact hp
  clear h hp hr hc
  go_enter Tryz.func41, Tryz.ntmps41
  go_wp2_with (go_at_call 68; refine (Tryz.strings_CutPrefix _ _ _).mono ?_; rintro e w' ⟨rfl, rfl⟩; rw [E.out, E2])
  go_ret
  exact ⟨rfl, HP.out r, grown_put _ _ _ _⟩
theorem has_no (b : Nat) (l m : List UInt8) (w : World) (h : RdL w b l) (hc : cut m l = none) :
    Calls Tryz.prog 41 #[.pointer (some ⟨b, 0, none⟩), .string (bs m)] w fun e w' => e = .returned (.bool false) ∧ RdL w' b l ∧ w.grownBy w' (some b) := by
  obtain ⟨c0, f0⟩ := h.cell
  have HP := hide h.put
  have hp : ¬ m.isPrefixOf l = true := by
    intro hp
    unfold cut at hc
    rw [if_pos hp] at hc
    cases hc
  have E : Hid (Lib.trimPrefix (bs l).data.toList (bs m).data.toList = l) := hide (by rw [bs_list, bs_list]; unfold Lib.trimPrefix Lib.hasPrefix; rw [if_neg hp])
  have E2 : Lib.hasPrefix (bs l).data.toList (bs m).data.toList = false := by rw [bs_list, bs_list]; exact Bool.eq_false_iff.2 hp
  clear h hp hc
  go_enter Tryz.func41, Tryz.ntmps41
  go_wp2_with (go_at_call 68; refine (Tryz.strings_CutPrefix _ _ _).mono ?_; rintro e w' ⟨rfl, rfl⟩; rw [E.out, E2])
  go_ret
  exact ⟨rfl, HP.out l, grown_put _ _ _ _⟩
theorem need_yes (b : Nat) (l m r : List UInt8) (w : World) (h : RdL w b l) (hc : cut m l = some r) :
    Calls Tryz.prog 44 #[.pointer (some ⟨b, 0, none⟩), .string (bs m)] w fun e w' => e = .returned (.tuple #[]) ∧ RdL w' b r ∧ w.grownBy w' (some b) := by
  have H := hide (has_yes b l m r w h hc)
  clear h hc
  go_enter Tryz.func44, Tryz.ntmps44
  go_wp2_with (go_at_call 41; refine (unhide H).mono ?_; rintro e w' ⟨rfl, hr, hg⟩; replace hr := hide hr; replace hg := hide hg)
  go_end0
  exact ⟨rfl, hr.out, hg.out⟩
theorem need_no (b : Nat) (l m : List UInt8) (w : World) (h : RdL w b l) (hc : cut m l = none) :
    Calls Tryz.prog 44 #[.pointer (some ⟨b, 0, none⟩), .string (bs m)] w fun e w' => e = .panicked chE ∧ w.grownBy w' (some b) := by
  have H := hide (has_no b l m w h hc)
  clear h hc
  go_enter Tryz.func44, Tryz.ntmps44
  go_wp2_with (go_at_call 41; refine (unhide H).mono ?_; rintro e w' ⟨rfl, hr, hg⟩; replace hr := hide hr; replace hg := hide hg)
  exact ⟨rfl, rfl, hg.out⟩
end Go.Proofs.YtlmdcaemjaldfaaGreatDoor
