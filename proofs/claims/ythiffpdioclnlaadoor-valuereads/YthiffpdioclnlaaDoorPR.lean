/-
  Plain mathematics of reading: no program in sight.
-/
import Derived.Test.YthiffpdioclnlaaDoorPQ
import Derived.Lib.Bytealg
import Derived.Lib.AtoiAll
import Derived.Lib.ItoaNum
import Derived.Lib.ItoaWalk
set_option linter.unusedSimpArgs false
set_option linter.unusedVariables false
namespace Go.Proofs.YthiffpdioclnlaaDoor

def hexI (c : UInt8) : Int := Lib.indexByte hexA c

theorem hexI_table : ∀ n : Fin 256, hexI (UInt8.ofNat n.val) = if 48 ≤ n.val ∧ n.val ≤ 57 then (n.val : Int) - 48 else if 97 ≤ n.val ∧ n.val ≤ 102 then (n.val : Int) - 87 else -1 := by decide +kernel
theorem hexI_eq (c : UInt8) : hexI c = if 48 ≤ c.toNat ∧ c.toNat ≤ 57 then (c.toNat : Int) - 48 else if 97 ≤ c.toNat ∧ c.toNat ≤ 102 then (c.toNat : Int) - 87 else -1 := by
  have := hexI_table ⟨c.toNat, c.toNat_lt⟩
  simpa using this
theorem hexI_bd (c : UInt8) : -1 ≤ hexI c ∧ hexI c ≤ 15 := by
  rw [hexI_eq]; split
  · omega
  · split <;> omega

/-- value.readByte: the byte, and how wide it is written. -/
def rb (l : List UInt8) : Int × Int :=
  if (l.getD 0 0).toNat = 92 then
    if l.length < 3 then (0, 0)
    else if hexI (l.getD 1 0) < 0 ∨ hexI (l.getD 2 0) < 0 then (0, 0)
    else if escB (16 * hexI (l.getD 1 0) + hexI (l.getD 2 0)) = true then (16 * hexI (l.getD 1 0) + hexI (l.getD 2 0), 3) else (0, 0)
  else if escB ((l.getD 0 0).toNat : Int) = true then (0, 0) else ((l.getD 0 0).toNat, 1)

theorem at_getD (s : ByteArray) (i : Nat) (h : i < s.size) : s[i] = s.data.toList.getD i 0 := by
  rw [List.getD_eq_getElem?_getD, List.getElem?_eq_getElem (by simpa using h)]
  rfl

theorem rb_bd (l : List UInt8) : 0 ≤ (rb l).1 ∧ (rb l).1 ≤ 255 ∧ 0 ≤ (rb l).2 ∧ (rb l).2 ≤ 3 := by
  have h1 := hexI_bd (l.getD 1 0)
  have h2 := hexI_bd (l.getD 2 0)
  have h3 := (l.getD 0 0).toNat_lt
  unfold rb
  generalize hexI (l.getD 1 0) = a at *
  generalize hexI (l.getD 2 0) = b at *
  generalize (l.getD 0 0).toNat = c at *
  split
  · split
    · simp
    · split
      · simp
      · split
        · refine ⟨?_, ?_, ?_, ?_⟩ <;> dsimp only <;> omega
        · simp
  · split
    · simp
    · refine ⟨?_, ?_, ?_, ?_⟩ <;> dsimp only <;> omega

def isDig (c : UInt8) : Bool := decide (48 ≤ c.toNat) && decide (c.toNat ≤ 57)

/-- From place a to place k all are digits. -/
def digsTo (l : List UInt8) (a k : Nat) : Prop := ∀ j, a ≤ j → j < k → isDig (l.getD j 0) = true
theorem digsTo_start (l : List UInt8) (a : Nat) : digsTo l a a := fun j h1 h2 => by omega

/-- How many digits a list begins with. -/
def digCount : List UInt8 → Nat
  | [] => 0
  | c :: l => if isDig c then digCount l + 1 else 0

theorem digCount_le (l : List UInt8) : digCount l ≤ l.length := by
  induction l with
  | nil => simp [digCount]
  | cons c l ih => unfold digCount; split <;> simp <;> omega

/-- value.numberEnd. -/
def numEnd (l : List UInt8) : Nat :=
  if (l.getD 0 0).toNat = 45 then (if digCount (l.drop 1) = 0 then 0 else 1 + digCount (l.drop 1)) else digCount l

theorem digCount_of (l : List UInt8) (n : Nat) (hn : n ≤ l.length) (h : ∀ j, j < n → isDig (l.getD j 0) = true) (he : n = l.length ∨ isDig (l.getD n 0) = false) : digCount l = n := by
  induction l generalizing n with
  | nil => simp at hn; simp [digCount, hn]
  | cons c l ih =>
    cases n with
    | zero =>
      rcases he with he | he
      · simp at he
      · simp at he
        simp [digCount, he]
    | succ n =>
      have h0 := h 0 (by omega)
      simp at h0
      have := ih n (by simpa using hn) (fun j hj => by simpa using h (j + 1) (by omega)) (by simpa using he)
      simp [digCount, h0, this]

/-- What the loop leaves is the count. -/
theorem digCount_loop (s : ByteArray) (a k : Nat) (ha : a ≤ k) (hk : k ≤ s.size) (h : digsTo s.data.toList a k) (he : k = s.size ∨ isDig (s.data.toList.getD k 0) = false) : digCount (s.data.toList.drop a) = k - a := by
  have hl : s.data.toList.length = s.size := by rw [Array.length_toList]; rfl
  refine digCount_of _ _ (by rw [List.length_drop, hl]; omega) (fun j hj => ?_) ?_
  · have := h (a + j) (by omega) (by omega)
    simpa [List.getD_eq_getElem?_getD, List.getElem?_drop] using this
  · rcases he with he | he
    · left; rw [List.length_drop, hl]; omega
    · right
      have e : a + (k - a) = k := by omega
      simpa [List.getD_eq_getElem?_getD, List.getElem?_drop, e] using he

theorem digsTo_step (s : ByteArray) (a k : Nat) (h : digsTo s.data.toList a k) (hk : k < s.size) (h1 : 48 ≤ (s[k].toNat : Int)) (h2 : (s[k].toNat : Int) ≤ 57) : digsTo s.data.toList a (k + 1) := by
  intro j h3 h4
  by_cases e : j = k
  · subst e
    rw [← at_getD s j hk]
    simp [isDig]; omega
  · exact h j h3 (by omega)

theorem notDig (s : ByteArray) (k : Nat) (hk : k < s.size) (h : (s[k].toNat : Int) < 48 ∨ 57 < (s[k].toNat : Int)) : isDig (s.data.toList.getD k 0) = false := by
  rw [← at_getD s k hk]
  simp [isDig]; omega

theorem numEnd_minus (s : ByteArray) (h0 : 0 < s.size) (c0 : s[0].toNat = 45) : numEnd s.data.toList = if digCount (s.data.toList.drop 1) = 0 then 0 else 1 + digCount (s.data.toList.drop 1) := by
  unfold numEnd; rw [← at_getD s 0 h0, if_pos c0]
theorem numEnd_plain (s : ByteArray) (h0 : 0 < s.size) (c0 : ¬ s[0].toNat = 45) : numEnd s.data.toList = digCount (s.data.toList.drop 0) := by
  unfold numEnd; rw [← at_getD s 0 h0, if_neg c0]; rfl
theorem numEnd_end1 (s : ByteArray) (h0 : 0 < s.size) (c0 : s[0].toNat = 45) (k : Nat) (h1 : 1 ≤ k) (hk : k ≤ s.size) (h : digsTo s.data.toList 1 k) (he : k = s.size ∨ isDig (s.data.toList.getD k 0) = false) : numEnd s.data.toList = if k = 1 then 0 else k := by
  rw [numEnd_minus s h0 c0, digCount_loop s 1 k h1 hk h he]
  split <;> split <;> omega
theorem numEnd_end0 (s : ByteArray) (h0 : 0 < s.size) (c0 : ¬ s[0].toNat = 45) (k : Nat) (hk : k ≤ s.size) (h : digsTo s.data.toList 0 k) (he : k = s.size ∨ isDig (s.data.toList.getD k 0) = false) : numEnd s.data.toList = k := by
  rw [numEnd_plain s h0 c0, digCount_loop s 0 k (by omega) hk h he]
  omega

/-- What a reading answers: the value's kind, number and bytes, and how long it is; or none. -/
abbrev R := Option (Int × Int × List UInt8 × Nat)

/-- value.readNumber. -/
def rnL (l : List UInt8) : R := match Lib.atoiAll l with
  | .ok v => if Lib.itoa v = l then some (1, v, [], l.length) else none
  | _ => none
theorem rnL_ok {l : List UInt8} {v : Int} (h : Lib.atoiAll l = .ok v) : rnL l = if Lib.itoa v = l then some (1, v, [], l.length) else none := by
  unfold rnL; rw [h]
theorem rnL_err {l : List UInt8} (h : ∀ v, Lib.atoiAll l ≠ .ok v) : rnL l = none := by
  unfold rnL
  cases e : Lib.atoiAll l with
  | ok v => exact absurd e (h v)
  | range => rfl
  | _ => rfl

def rbC (l : List UInt8) : UInt8 := UInt8.ofNat (rb l).1.toNat
def rbW (l : List UInt8) : Nat := (rb l).2.toNat
theorem rb_c (l : List UInt8) : (rb l).1 = ((rbC l).toNat : Int) := by
  have := rb_bd l
  unfold rbC
  have e : (UInt8.ofNat (rb l).1.toNat).toNat = (rb l).1.toNat := by
    rw [UInt8.toNat_ofNat']; omega
  rw [e]; omega
theorem rb_w (l : List UInt8) : (rb l).2 = ((rbW l : Nat) : Int) := by
  have := rb_bd l
  unfold rbW
  omega
theorem rbW_le (l : List UInt8) (h : l ≠ []) : rbW l ≤ l.length ∧ rbW l ≤ 3 := by
  have hp : 0 < l.length := List.length_pos_iff.2 h
  unfold rbW rb
  split
  · split
    · simp
    · split
      · simp
      · split
        · simp; omega
        · simp
  · split
    · simp
    · simp; omega

/-- value.readString, from some place on. -/
def rsL : Nat → List UInt8 → List UInt8 → Nat → R
  | 0, _, _, _ => none
  | _ + 1, [], _, _ => none
  | f + 1, c :: l, acc, pos =>
    if c.toNat = 39 then some (2, 0, acc, pos + 1)
    else if rbW (c :: l) = 0 then none
    else if acc.length = 8 then none
    else rsL f ((c :: l).drop (rbW (c :: l))) (acc ++ [rbC (c :: l)]) (pos + rbW (c :: l))

theorem drop_at (s : ByteArray) (k : Nat) (hk : k < s.size) : s.data.toList.drop k = s[k] :: s.data.toList.drop (k + 1) := by
  rw [List.drop_eq_getElem_cons (by simpa using hk)]; rfl
theorem drop_end (s : ByteArray) (k : Nat) (hk : k = s.size) : s.data.toList.drop k = [] := by
  subst hk; rw [List.drop_eq_nil_iff]; simp

/-- The loop's relation: what is still to be read comes to what the whole does. -/
def Rs (s : ByteArray) (acc : List UInt8) (k : Nat) : Prop := ∃ f, s.size - k ≤ f ∧ rsL f (s.data.toList.drop k) acc k = rsL s.size (s.data.toList.drop 1) [] 1

theorem rs_start (s : ByteArray) : Rs s [] 1 := ⟨s.size, by omega, rfl⟩
theorem rs_end (s : ByteArray) (acc : List UInt8) (k : Nat) (h : Rs s acc k) (hk : k = s.size) : rsL s.size (s.data.toList.drop 1) [] 1 = none := by
  obtain ⟨f, _, e⟩ := h
  rw [← e, drop_end s k hk]
  cases f <;> rfl
theorem rs_quote (s : ByteArray) (acc : List UInt8) (k : Nat) (h : Rs s acc k) (hk : k < s.size) (hq : s[k].toNat = 39) : rsL s.size (s.data.toList.drop 1) [] 1 = some (2, 0, acc, k + 1) := by
  obtain ⟨f, hf, e⟩ := h
  rw [← e, drop_at s k hk]
  cases f with
  | zero => omega
  | succ f => simp [rsL, hq]
theorem rs_wrong (s : ByteArray) (acc : List UInt8) (k : Nat) (h : Rs s acc k) (hk : k < s.size) (hq : ¬ s[k].toNat = 39) (hw : rbW (s.data.toList.drop k) = 0) : rsL s.size (s.data.toList.drop 1) [] 1 = none := by
  obtain ⟨f, hf, e⟩ := h
  rw [drop_at s k hk] at e hw
  rw [← e]
  cases f with
  | zero => omega
  | succ f => simp [rsL, hq, hw]
theorem rs_long (s : ByteArray) (acc : List UInt8) (k : Nat) (h : Rs s acc k) (hk : k < s.size) (hq : ¬ s[k].toNat = 39) (h8 : acc.length = 8) : rsL s.size (s.data.toList.drop 1) [] 1 = none := by
  obtain ⟨f, hf, e⟩ := h
  rw [drop_at s k hk] at e
  rw [← e]
  cases f with
  | zero => omega
  | succ f => simp [rsL, hq, h8]
theorem rs_step (s : ByteArray) (acc : List UInt8) (k : Nat) (h : Rs s acc k) (hk : k < s.size) (hq : ¬ s[k].toNat = 39) (hw : ¬ rbW (s.data.toList.drop k) = 0) (h8 : ¬ acc.length = 8) : Rs s (acc ++ [rbC (s.data.toList.drop k)]) (k + rbW (s.data.toList.drop k)) := by
  obtain ⟨f, hf, e⟩ := h
  have hd := drop_at s k hk
  cases f with
  | zero => omega
  | succ f =>
    refine ⟨f, by omega, ?_⟩
    rw [← e]
    rw [← List.drop_drop]
    rw [hd] at hw ⊢
    simp only [rsL, if_neg hq, if_neg hw, if_neg h8]
theorem rbW_at (s : ByteArray) (k : Nat) (hk : k < s.size) : rbW (s.data.toList.drop k) ≤ s.size - k ∧ rbW (s.data.toList.drop k) ≤ 3 := by
  have hl : s.data.toList.length = s.size := by rw [Array.length_toList]; rfl
  have := rbW_le (s.data.toList.drop k) (by rw [drop_at s k hk]; simp)
  rw [List.length_drop, hl] at this
  exact this

/-- value.Read. -/
def readL (l : List UInt8) : R :=
  if l.length = 0 then none
  else if (l.getD 0 0).toNat = 39 then rsL l.length (l.drop 1) [] 1
  else if 0 < numEnd l then rnL (l.take (numEnd l))
  else if (l.getD 0 0).toNat = 45 then some (0, 0, [], 1)
  else none
theorem numEnd_le (l : List UInt8) : numEnd l ≤ l.length := by
  have h1 := digCount_le l
  have h2 := digCount_le (l.drop 1)
  rw [List.length_drop] at h2
  unfold numEnd
  split
  · split <;> omega
  · exact h1
end Go.Proofs.YthiffpdioclnlaaDoor
