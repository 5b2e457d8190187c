import Derived.Test.YtlmdcaemjaldfaaGreatRR2
import Derived.Test.YtlmdcaemjaldfaaGreatRR3
import Derived.Test.YtlmdcaemjaldfaaGreatRR1
import Derived.Lib.MinMax
set_option linter.unusedSimpArgs false
set_option linter.unusedVariables false
namespace Go.Proofs.YtlmdcaemjaldfaaGreat
abbrev TkF (α : Type) := List UInt8 → Int → α × List UInt8 × Int
structure Tk {α : Type} (f : TkF α) (en : α → List UInt8) (P : α → Prop) : Prop where
 stick : ∀ l e, e ≠ 0 → (f l e).2.2 ≠ 0
 le : ∀ l e, (f l e).2.1.length ≤ l.length
 inv : ∀ l a r, f l 0 = (a, r, 0) → l = en a ++ r ∧ P a
 back : ∀ a r, P a → f (en a ++ r) 0 = (a, r, 0)
theorem got_eta {g : Got} (h : g.err = 0) : g = ⟨0, g.n, g.rest⟩ := by
 obtain ⟨e, n, r⟩ := g;cases h
 rfl
section
variable {α β : Type} {f : TkF α} {g : TkF β} {en : α → List UInt8} {en' : β → List UInt8} {P : α → Prop} {Q : β → Prop}
theorem Tk.zero (h : Tk f en P) {l : List UInt8} {e : Int} (h0 : (f l e).2.2 = 0) : e = 0 := by
 cases Int.decEq e 0 with
 | isTrue h => exact h
 | isFalse hn => exact absurd h0 (h.stick l e hn)
theorem Tk.inv' (h : Tk f en P) {l : List UInt8} (h0 : (f l 0).2.2 = 0) : l = en (f l 0).1 ++ (f l 0).2.1 ∧ P (f l 0).1 := h.inv l _ _ (Prod.ext rfl (Prod.ext rfl h0))
def twoO (f : TkF α) (g : TkF β) : TkF (α × β) := fun l e => (((f l e).1, (g (f l e).2.1 (f l e).2.2).1), (g (f l e).2.1 (f l e).2.2).2)
theorem Tk.two (h : Tk f en P) (k : Tk g en' Q) : Tk (twoO f g) (fun p => en p.1 ++ en' p.2) (fun p => P p.1 ∧ Q p.2) where
 stick l e he := k.stick _ _ (h.stick l e he)
 le l e := Nat.le_trans (k.le _ _) (h.le l e)
 inv l a r h0 := by
  unfold twoO at h0;have e2 : (g (f l 0).2.1 (f l 0).2.2).2.2 = 0 := by rw [show (g (f l 0).2.1 (f l 0).2.2).2 = (r, (0 : Int)) from congrArg Prod.snd h0]
  have e1 := k.zero e2;obtain ⟨i1, p1⟩ := h.inv' e1;rw [e1] at h0 e2;obtain ⟨i2, p2⟩ := k.inv' e2;have a1 : ((f l 0).1, (g (f l 0).2.1 0).1) = a := congrArg Prod.fst h0;have a2 : (g (f l 0).2.1 0).2.1 = r := congrArg (fun z => z.2.1) h0;subst a1;rw [a2] at i2;exact ⟨by rw [List.append_assoc, ← i2]; exact i1, p1, p2⟩
 back a r p := by
  unfold twoO;rw [List.append_assoc, h.back a.1 _ p.1];simp only [];rw [k.back a.2 r p.2]
def mapO (i : α → β) (f : TkF α) : TkF β := fun l e => (i (f l e).1, (f l e).2)
theorem Tk.map (h : Tk f en P) (i : α → β) (j : β → α) (hi : ∀ b, i (j b) = b) (hj : ∀ a, P a → j (i a) = a) : Tk (mapO i f) (fun b => en (j b)) (fun b => P (j b)) where
 stick l e he := h.stick l e he
 le l e := h.le l e
 inv l b r h0 := by
  unfold mapO at h0;have e1 : (f l 0).2.2 = 0 := congrArg (fun z => z.2.2) h0;obtain ⟨i1, p1⟩ := h.inv' e1;have a1 : i (f l 0).1 = b := congrArg Prod.fst h0;have a2 : (f l 0).2.1 = r := congrArg (fun z => z.2.1) h0;subst a1;simp only [hj _ p1];rw [a2] at i1;exact ⟨i1, p1⟩
 back b r p := by
  unfold mapO;rw [h.back (j b) r p];simp only [hi]
def iterO (f : TkF α) : Nat → TkF (List α)
 | 0, l, e => ([], l, e)
 | k + 1, l, e => ((iterO f k l e).1 ++ [(f (iterO f k l e).2.1 (iterO f k l e).2.2).1], (f (iterO f k l e).2.1 (iterO f k l e).2.2).2)
theorem iterO_len (f : TkF α) : ∀ (k : Nat) (l : List UInt8) (e : Int), (iterO f k l e).1.length = k
 | 0, _, _ => rfl
 | k + 1, l, e => by rw [iterO, List.length_append, iterO_len f k l e]; rfl
theorem Tk.iter_stick (h : Tk f en P) : ∀ (k : Nat) (l : List UInt8) (e : Int), e ≠ 0 → (iterO f k l e).2.2 ≠ 0
 | 0, _, _, he => he
 | k + 1, l, e, he => h.stick _ _ (h.iter_stick k l e he)
theorem Tk.iter_le (h : Tk f en P) : ∀ (k : Nat) (l : List UInt8) (e : Int), (iterO f k l e).2.1.length ≤ l.length
 | 0, _, _ => Nat.le_refl _
 | k + 1, l, e => Nat.le_trans (h.le _ _) (h.iter_le k l e)
theorem Tk.iter_inv (h : Tk f en P) : ∀ (k : Nat) (l : List UInt8), (iterO f k l 0).2.2 = 0 → l = (iterO f k l 0).1.flatMap en ++ (iterO f k l 0).2.1 ∧ ∀ a ∈ (iterO f k l 0).1, P a
 | 0, l, _ => ⟨rfl, fun a ha => by cases ha⟩
 | k + 1, l, h0 => by
  rw [iterO] at h0 ⊢;have e1 := h.zero h0;obtain ⟨i1, p1⟩ := h.iter_inv k l e1;simp only [e1] at h0 ⊢;obtain ⟨i2, p2⟩ := h.inv' h0;refine ⟨?_, fun a ha => ?_⟩
  ·rw [List.flatMap_append, List.append_assoc];simp only [List.flatMap_cons, List.flatMap_nil, List.append_nil];rw [← i2];exact i1
  ·rcases List.mem_append.1 ha with ha | ha
   ·exact p1 a ha
   ·rw [List.mem_singleton.1 ha]; exact p2
theorem Tk.iter_back (h : Tk f en P) (xs : List α) (r : List UInt8) (hp : ∀ a ∈ xs, P a) : ∀ k, k ≤ xs.length → iterO f k (xs.flatMap en ++ r) 0 = (xs.take k, (xs.drop k).flatMap en ++ r, 0)
 | 0, _ => by simp [iterO]
 | k + 1, hk => by
  have hk' : k < xs.length := hk;rw [iterO, h.iter_back xs r hp k (by omega)];simp only [];rw [List.drop_eq_getElem_cons hk', List.flatMap_cons, List.append_assoc, h.back _ _ (hp _ (List.getElem_mem _)), List.take_succ_eq_append_getElem hk']
def cntO (most : Nat) : TkF Nat := fun l e => if (most : Int) < (uintO l e).1 then (0, failO 2 (uintO l e).2.1 (uintO l e).2.2) else ((uintO l e).1.toNat, (uintO l e).2)
theorem failO_ne (c : Int) (l : List UInt8) (e : Int) (hc : c ≠ 0) : (failO c l e).2 ≠ 0 := by
 unfold failO
 split
 ·first | exact hc | (rw [if_neg hc]; exact hc)
 ·rename_i h; exact h
theorem failO_le (c : Int) (l : List UInt8) (e : Int) : (failO c l e).1.length ≤ l.length := by
 unfold failO
 split
 ·split
  ·exact Nat.le_refl _
  ·exact Nat.zero_le _
 ·exact Nat.zero_le _
theorem uintO_stick (l : List UInt8) (e : Int) (he : e ≠ 0) : (uintO l e).2.2 ≠ 0 := by unfold uintO; rw [if_neg he]; exact he
theorem uintO_le (l : List UInt8) (e : Int) : (uintO l e).2.1.length ≤ l.length := by
 unfold uintO
 split
 ·exact dec_rest_le l true 0
 ·exact Nat.zero_le _
theorem cntO_tk (most : Nat) (hm : most < 1000) : Tk (cntO most) enc (fun n => n ≤ most) where
 stick l e he := by
  unfold cntO
  split
  ·exact failO_ne _ _ _ (by decide)
  ·exact uintO_stick l e he
 le l e := by
  unfold cntO
  split
  ·exact Nat.le_trans (failO_le _ _ _) (uintO_le l e)
  ·exact uintO_le l e
 inv l a r h0 := by
  unfold cntO at h0
  split at h0
  ·have := congrArg (fun z => z.2.2) h0;exact absurd this (failO_ne _ _ _ (by decide))
  ·rename_i hn
   have a1 := congrArg Prod.fst h0;have a2 := congrArg (fun z => z.2.1) h0;have a3 := congrArg (fun z => z.2.2) h0;simp only [uintO, if_pos] at a1 a2 a3 hn;have e3 : (decL true 0 l).err = 0 := by omega
   obtain ⟨i1, _⟩ := dec_inv l (decL true 0 l).n (decL true 0 l).rest (got_eta e3);have e1 : (decL true 0 l).n = a := by omega
   rw [e1, a2] at i1;exact ⟨i1, by omega⟩
 back a r p := by
  unfold cntO uintO;rw [if_pos rfl, dec_enc a r (by omega)];rw [if_neg (by simp only []; omega)]
  simp
def listO (most : Nat) (f : TkF α) : TkF (List α) := fun l e => iterO f (cntO most l e).1 (cntO most l e).2.1 (cntO most l e).2.2
theorem Tk.list (h : Tk f en P) (most : Nat) (hm : most < 1000) : Tk (listO most f) (fun xs => enc xs.length ++ xs.flatMap en) (fun xs => xs.length ≤ most ∧ ∀ a ∈ xs, P a) where
 stick l e he := h.iter_stick _ _ _ ((cntO_tk most hm).stick l e he)
 le l e := Nat.le_trans (h.iter_le _ _ _) ((cntO_tk most hm).le l e)
 inv l a r h0 := by
  unfold listO at h0;have z2 : (iterO f (cntO most l 0).1 (cntO most l 0).2.1 (cntO most l 0).2.2).2.2 = 0 := congrArg (fun z => z.2.2) h0;have z1 : (cntO most l 0).2.2 = 0 := by
   cases Int.decEq (cntO most l 0).2.2 0 with
   | isTrue h => exact h
   | isFalse hn => exact absurd z2 (h.iter_stick _ _ _ hn)
  obtain ⟨i1, p1⟩ := (cntO_tk most hm).inv' z1;rw [z1] at z2 h0;obtain ⟨i2, p2⟩ := h.iter_inv _ _ z2;have hl := iterO_len f (cntO most l 0).1 (cntO most l 0).2.1 0;have a1 := congrArg Prod.fst h0;have a2 := congrArg (fun z => z.2.1) h0;simp only at a1 a2;rw [a1, a2] at i2;rw [a1] at p2 hl;refine ⟨?_, by omega, p2⟩;simp only [hl];rw [List.append_assoc, ← i2];exact i1
 back a r p := by
  unfold listO;rw [List.append_assoc, (cntO_tk most hm).back a.length _ p.1];simp only [];rw [h.iter_back a r p.2 a.length (Nat.le_refl _), List.take_length, List.drop_length]
  rfl
end
def okI (n : Int) : Prop := -9223372036854775808 ≤ n ∧ n ≤ 9223372036854775807
theorem intO_tk : Tk intO (fun n => enc (zz n)) okI where
 stick l e he := by unfold intO; rw [if_neg he]; exact he
 le l e := by
  unfold intO
  split
  ·exact dec_rest_le l true 0
  ·exact Nat.zero_le _
 inv l a r h0 := by
  unfold intO at h0;rw [if_pos rfl] at h0;have a1 := congrArg Prod.fst h0;have a2 := congrArg (fun z => z.2.1) h0;have a3 := congrArg (fun z => z.2.2) h0;simp only at a1 a2 a3;have e3 : (decL true 0 l).err = 0 := by omega
  obtain ⟨i1, i2⟩ := dec_inv l (decL true 0 l).n (decL true 0 l).rest (got_eta e3);rw [a2] at i1;subst a1;rw [zz_unzz];exact ⟨i1, unzz_bd _ i2⟩
 back a r p := by
  unfold intO;rw [if_pos rfl, dec_enc _ r (zz_bd a p.1 p.2)];simp only [unzz_zz]
  rfl
def rgO : TkF Rg := twoO intO intO
def rgB2 (r : Rg) : List UInt8 := enc (zz r.1) ++ enc (zz r.2)
theorem rgO_tk : Tk rgO rgB2 (fun r => okI r.1 ∧ okI r.2) := intO_tk.two intO_tk
def stO : TkF ByteArray := fun l e => (⟨(strO 8 l e).1.toArray⟩, (strO 8 l e).2)
def stB2 (s : ByteArray) : List UInt8 := enc s.size ++ s.data.toList
theorem stO_tk : Tk stO stB2 (fun s => s.size ≤ 8) where
 stick l e he := by unfold stO strO; rw [if_neg he]; exact he
 le l e := by
  unfold stO strO
  split
  ·simp only [strL]
   split
   ·exact Nat.zero_le _
   ·split
    ·exact Nat.zero_le _
    ·split
     ·exact Nat.zero_le _
     ·simp only [List.length_drop];exact Nat.le_trans (Nat.sub_le _ _) (dec_rest_le l true 0)
  ·exact Nat.zero_le _
 inv l a r h0 := by
  unfold stO strO at h0;rw [if_pos rfl] at h0;have a1 := congrArg Prod.fst h0;have a2 := congrArg (fun z => z.2.1) h0;have a3 := congrArg (fun z => z.2.2) h0;simp only [strL] at a1 a2 a3
  split at a3
  ·rename_i h; simp only at a3; omega
  ·rename_i h1
   rw [if_neg h1] at a1 a2
   split at a3
   ·simp only at a3; omega
   ·rename_i h2
    rw [if_neg h2] at a1 a2
    split at a3
    ·simp only at a3; omega
    ·rename_i h3
     rw [if_neg h3] at a1 a2;simp only at a1 a2;have e3 : (decL true 0 l).err = 0 := by omega
     obtain ⟨i1, i2⟩ := dec_inv l (decL true 0 l).n (decL true 0 l).rest (got_eta e3);have hs : a.data.toList = (decL true 0 l).rest.take (decL true 0 l).n := by rw [← a1]
     have hz : a.size = (decL true 0 l).n := by rw [Lib.size_eq, hs, List.length_take]; omega
     refine ⟨?_, by omega⟩;unfold stB2;rw [hz, hs, ← a2, List.append_assoc, List.take_append_drop];exact i1
 back a r p := by
  unfold stO strO stB2;rw [if_pos rfl];unfold strL;rw [List.append_assoc, dec_enc a.size _ (by omega)];have hl : a.data.toList.length = a.size := (Lib.size_eq a).symm;rw [if_neg (by simp), if_neg (by simp only []; omega), if_neg (by simp only [List.length_append]; omega)];simp only [];rw [← hl, List.take_left, List.drop_left]
  rfl
def flO : TkF Int := fun l e => ((byteO l e).1, if 3 < (byteO l e).1 then failO 2 (byteO l e).2.1 (byteO l e).2.2 else (byteO l e).2)
theorem byteO_le (l : List UInt8) (e : Int) : (byteO l e).2.1.length ≤ l.length := by
 unfold byteO
 split
 ·split
  ·exact Nat.zero_le _
  ·simp
 ·exact Nat.zero_le _
theorem byteO_stick (l : List UInt8) (e : Int) (he : e ≠ 0) : (byteO l e).2.2 ≠ 0 := by unfold byteO; rw [if_neg he]; exact he
theorem byteO_lo (l : List UInt8) (e : Int) : 0 ≤ (byteO l e).1 ∧ (byteO l e).1 < 256 := by
 unfold byteO
 split
 ·cases l with
  | nil => exact ⟨Int.le_refl 0, (by decide : (0 : Int) < 256)⟩
  | cons c t =>
   have := c.toNat_lt;exact ⟨(by omega : (0 : Int) ≤ (c.toNat : Int)), (by omega : (c.toNat : Int) < 256)⟩
 ·exact ⟨Int.le_refl 0, (by decide : (0 : Int) < 256)⟩
theorem byteO_inv {l : List UInt8} {k : Int} {r : List UInt8} (h : byteO l 0 = (k, r, 0)) : l = UInt8.ofNat k.toNat :: r := by
 unfold byteO at h;rw [if_pos rfl] at h
 split at h
 ·have := congrArg (fun z => z.2.2) h;cases this
 ·rename_i c t _
  have a1 := congrArg Prod.fst h;have a2 := congrArg (fun z => z.2.1) h;simp only at a1 a2;rw [← a1, ← a2]
  simp
theorem byteO_back (k : Int) (r : List UInt8) (h0 : 0 ≤ k) (h1 : k < 256) : byteO (UInt8.ofNat k.toNat :: r) 0 = (k, r, 0) := by
 unfold byteO;rw [if_pos rfl];have : (UInt8.ofNat k.toNat).toNat = k.toNat := ofNat_val (by omega);simp only [this];rw [Int.toNat_of_nonneg h0]
theorem flO_tk : Tk flO (fun k => [UInt8.ofNat k.toNat]) (fun k => 0 ≤ k ∧ k ≤ 3) where
 stick l e he := by
  unfold flO;simp only []
  split
  ·exact failO_ne _ _ _ (by decide)
  ·exact byteO_stick l e he
 le l e := by
  unfold flO;simp only []
  split
  ·exact Nat.le_trans (failO_le _ _ _) (byteO_le l e)
  ·exact byteO_le l e
 inv l a r h0 := by
  unfold flO at h0;have a1 := congrArg Prod.fst h0;have a2 := congrArg (fun z => z.2) h0;simp only at a1 a2
  split at a2
  ·exact absurd (congrArg Prod.snd a2) (failO_ne _ _ _ (by decide))
  ·rename_i h3
   have hb : byteO l 0 = (a, r, 0) := Prod.ext a1 a2;exact ⟨by rw [List.singleton_append]; exact byteO_inv hb, by have := (byteO_lo l 0).1; omega, by omega⟩
 back a r p := by
  unfold flO;rw [List.singleton_append, byteO_back a r p.1 (by omega)];simp only [];rw [if_neg (by omega)]
def flagS (S : SetV) : Int := (if S.absent then 1 else 0) + (if S.co then 2 else 0)
def setI (p : Int × List Rg × List ByteArray) : SetV := ⟨decide (p.1 % 2 = 1), p.2.1, decide (p.1 / 2 % 2 = 1), p.2.2⟩
def setJ (S : SetV) : Int × List Rg × List ByteArray := (flagS S, S.ints, S.strs)
theorem setIJ (S : SetV) : setI (setJ S) = S := by
 obtain ⟨a, i, c, s⟩ := S;cases a <;> cases c <;> rfl
theorem setJI (p : Int × List Rg × List ByteArray) (h : 0 ≤ p.1 ∧ p.1 ≤ 3) : setJ (setI p) = p := by
 obtain ⟨k, i, s⟩ := p;obtain ⟨h0, h1⟩ := h;simp only at h0 h1;have : k = 0 ∨ k = 1 ∨ k = 2 ∨ k = 3 := by omega
 rcases this with rfl | rfl | rfl | rfl <;> rfl
def setO : TkF SetV := mapO setI (twoO flO (twoO (listO 6 rgO) (listO 6 stO)))
def setB (S : SetV) : List UInt8 := UInt8.ofNat (flagS S).toNat :: (enc S.ints.length ++ (S.ints.flatMap rgB2 ++ (enc S.strs.length ++ S.strs.flatMap stB2)))
def okSt (S : SetV) : Prop := (S.ints.length ≤ 6 ∧ ∀ r ∈ S.ints, okI r.1 ∧ okI r.2) ∧ (S.strs.length ≤ 6 ∧ ∀ s ∈ S.strs, s.size ≤ 8)
theorem flag_bd (S : SetV) : 0 ≤ flagS S ∧ flagS S ≤ 3 := by
 unfold flagS;cases S.absent <;> cases S.co <;> decide
theorem Tk.re {α : Type} {f : TkF α} {en en' : α → List UInt8} {P P' : α → Prop} (h : Tk f en P) (he : ∀ a, en a = en' a) (hp : ∀ a, P a ↔ P' a) : Tk f en' P' :=
 ⟨h.stick, h.le, fun l a r h0 => by rw [← he]; exact ⟨(h.inv l a r h0).1, (hp a).1 (h.inv l a r h0).2⟩, fun a r p => by rw [← he]; exact h.back a r ((hp a).2 p)⟩
theorem setO_tk : Tk setO setB okSt := by
 refine Tk.re ((flO_tk.two ((rgO_tk.list 6 (by decide)).two (stO_tk.list 6 (by decide)))).map setI setJ setIJ (fun a h => setJI a h.1)) (fun S => ?_) (fun S => ?_)
 ·simp only [setB, setJ, List.singleton_append, List.append_assoc]
 ·exact ⟨fun h => h.2, fun h => ⟨flag_bd S, h⟩⟩
def boxO : TkF BoxV := mapO (fun p => ⟨p.1, p.2.1, p.2.2.1, p.2.2.2⟩) (twoO setO (twoO setO (twoO setO setO)))
def boxB (b : BoxV) : List UInt8 := setB b.s0 ++ (setB b.s1 ++ (setB b.s2 ++ setB b.s3))
def okBx (b : BoxV) : Prop := okSt b.s0 ∧ okSt b.s1 ∧ okSt b.s2 ∧ okSt b.s3
theorem boxO_tk : Tk boxO boxB okBx := by
 refine Tk.re ((setO_tk.two (setO_tk.two (setO_tk.two setO_tk))).map _ (fun b => (b.s0, b.s1, b.s2, b.s3)) (fun b => rfl) (fun a _ => rfl)) (fun b => rfl) (fun b => Iff.rfl)
def filsO : TkF (List BoxV) := listO 4 boxO
def filB (f : List BoxV) : List UInt8 := enc f.length ++ f.flatMap boxB
theorem filsO_tk : Tk filsO filB (fun f => f.length ≤ 4 ∧ ∀ b ∈ f, okBx b) := boxO_tk.list 4 (by decide)
def filO : TkF (List BoxV) := fun l e => if (filsO l e).2.2 = 0 ∧ rightF (filsO l e).1 = true then filsO l e else ([], if rightF (filsO l e).1 then (filsO l e).2 else failO 2 (filsO l e).2.1 (filsO l e).2.2)
theorem filO_ok {l : List UInt8} {e : Int} (h : (filO l e).2.2 = 0) : (filsO l e).2.2 = 0 ∧ rightF (filsO l e).1 = true ∧ filO l e = filsO l e := by
 unfold filO at h ⊢
 split at h
 ·rename_i hc
  rw [if_pos hc];exact ⟨hc.1, hc.2, rfl⟩
 ·rename_i hc
  simp only at h
  split at h
  ·rename_i hr
   exact absurd ⟨h, hr⟩ hc
  ·exact absurd h (failO_ne _ _ _ (by decide))
theorem filO_yes {l : List UInt8} {e : Int} (h : (filsO l e).2.2 = 0) (hr : rightF (filsO l e).1 = true) : filO l e = filsO l e := by unfold filO; rw [if_pos ⟨h, hr⟩]
theorem filO_tk : Tk filO filB (fun f => rightF f = true ∧ f.length ≤ 4 ∧ ∀ b ∈ f, okBx b) where
 stick l e he h0 := filsO_tk.stick l e he (filO_ok h0).1
 le l e := by
  unfold filO
  split
  ·exact filsO_tk.le l e
  ·simp only []
   split
   ·exact filsO_tk.le l e
   ·exact Nat.le_trans (failO_le _ _ _) (filsO_tk.le l e)
 inv l a r h0 := by
  have z : (filO l 0).2.2 = 0 := by rw [h0]
  obtain ⟨_, hr, e1⟩ := filO_ok z;rw [e1] at h0;obtain ⟨i, p⟩ := filsO_tk.inv l a r h0;rw [h0] at hr;exact ⟨i, hr, p⟩
 back a r p := by
  have := filsO_tk.back a r p.2;rw [filO_yes (by rw [this]) (by rw [this]; exact p.1), this]
def valO : TkF Va := fun l e =>
 if (byteO l e).1 = 1 then ((1, (intO (byteO l e).2.1 (byteO l e).2.2).1, ⟨#[]⟩), (intO (byteO l e).2.1 (byteO l e).2.2).2)
 else if (byteO l e).1 = 2 then ((2, 0, (stO (byteO l e).2.1 (byteO l e).2.2).1), (stO (byteO l e).2.1 (byteO l e).2.2).2)
 else if (byteO l e).1 = 0 then ((0, 0, ⟨#[]⟩), (byteO l e).2)
 else (((byteO l e).1, 0, ⟨#[]⟩), failO 2 (byteO l e).2.1 (byteO l e).2.2)
def valR : TkF Va := fun l e =>
 if (byteO l e).1 = 1 then ((1, (intO (byteO l e).2.1 (byteO l e).2.2).1, ⟨#[]⟩), (intO (byteO l e).2.1 (byteO l e).2.2).2)
 else if (byteO l e).1 = 2 then ((2, 0, (stO (byteO l e).2.1 (byteO l e).2.2).1), (stO (byteO l e).2.1 (byteO l e).2.2).2)
 else (((byteO l e).1, 0, ⟨#[]⟩), (byteO l e).2)
def vaB (v : Va) : List UInt8 := UInt8.ofNat v.1.toNat :: (if v.1 = 1 then enc (zz v.2.1) else if v.1 = 2 then stB2 v.2.2 else [])
def okVa (v : Va) : Prop := rightB v.1 v.2.1 v.2.2 = true ∧ okI v.2.1
theorem noBytes {s : ByteArray} (h : s.toList.isEmpty = true) : s = ⟨#[]⟩ := by
 rw [ByteArray.toList_eq] at h;obtain ⟨⟨l⟩⟩ := s;simp only [List.isEmpty_iff] at h;rw [h]
theorem okVa_cases {v : Va} (h : okVa v) : (v = (0, 0, ⟨#[]⟩)) ∨ (∃ n, v = (1, n, ⟨#[]⟩) ∧ okI n) ∨ (∃ s, v = (2, 0, s) ∧ s.size ≤ 8) := by
 obtain ⟨k, n, s⟩ := v;obtain ⟨h, hi⟩ := h;unfold rightB at h;simp only at h hi
 split at h
 ·rename_i hk
  simp only [Bool.and_eq_true, beq_iff_eq] at h
  left
  rw [hk, h.1, noBytes h.2]
 ·split at h
  ·rename_i hk
   right; left
   exact ⟨n, by rw [hk, noBytes h], hi⟩
  ·split at h
   ·rename_i hk
    simp only [Bool.and_eq_true, beq_iff_eq, decide_eq_true_eq] at h
    right; right
    exact ⟨s, by rw [hk, h.1], by omega⟩
   ·cases h
theorem valO_tk : Tk valO vaB okVa where
 stick l e he := by
  have hb := byteO_stick l e he;unfold valO
  split
  ·exact intO_tk.stick _ _ hb
  ·split
   ·exact stO_tk.stick _ _ hb
   ·split
    ·exact hb
    ·exact failO_ne _ _ _ (by decide)
 le l e := by
  have hb := byteO_le l e;unfold valO
  split
  ·exact Nat.le_trans (intO_tk.le _ _) hb
  ·split
   ·exact Nat.le_trans (stO_tk.le _ _) hb
   ·split
    ·exact hb
    ·exact Nat.le_trans (failO_le _ _ _) hb
 inv l a r h0 := by
  unfold valO at h0;have key : ∀ k : Int, (byteO l 0).1 = k → (byteO l 0).2.2 = 0 → l = UInt8.ofNat k.toNat :: (byteO l 0).2.1 := fun k h1 h2 => byteO_inv (Prod.ext h1 (Prod.ext rfl h2))
  split at h0
  ·rename_i hk
   have a1 := congrArg Prod.fst h0;have a2 := congrArg (fun z => z.2) h0;simp only at a1 a2;have z2 : (intO (byteO l 0).2.1 (byteO l 0).2.2).2.2 = 0 := congrArg Prod.snd a2;have z1 := intO_tk.zero z2;rw [z1] at z2 a1 a2;obtain ⟨i2, p2⟩ := intO_tk.inv' z2;rw [congrArg Prod.fst a2] at i2;subst a1;refine ⟨?_, by simp [rightB, ByteArray.toList_eq], p2⟩;unfold vaB;rw [if_pos rfl, List.cons_append, ← i2];exact key 1 hk z1
  ·split at h0
   ·rename_i hk
    have a1 := congrArg Prod.fst h0;have a2 := congrArg (fun z => z.2) h0;simp only at a1 a2;have z2 : (stO (byteO l 0).2.1 (byteO l 0).2.2).2.2 = 0 := congrArg Prod.snd a2;have z1 := stO_tk.zero z2;rw [z1] at z2 a1 a2;obtain ⟨i2, p2⟩ := stO_tk.inv' z2;rw [congrArg Prod.fst a2] at i2;subst a1;refine ⟨?_, by simp [rightB]; omega, (by decide : (-9223372036854775808 : Int) ≤ 0), (by decide : (0 : Int) ≤ 9223372036854775807)⟩;unfold vaB;rw [if_neg (by simp), if_pos rfl, List.cons_append, ← i2];exact key 2 hk z1
   ·split at h0
    ·rename_i hk
     have a1 := congrArg Prod.fst h0;have a2 := congrArg (fun z => z.2) h0;simp only at a1 a2;subst a1;refine ⟨?_, by simp [rightB, ByteArray.toList_eq], (by decide : (-9223372036854775808 : Int) ≤ 0), (by decide : (0 : Int) ≤ 9223372036854775807)⟩;have := key 0 hk (congrArg Prod.snd a2);rw [congrArg Prod.fst a2] at this;exact this
    ·exact absurd (congrArg (fun z => z.2.2) h0) (failO_ne _ _ _ (by decide))
 back a r p := by
  unfold valO;rcases okVa_cases p with rfl | ⟨n, rfl, hn⟩ | ⟨s, rfl, hs⟩
  ·have : byteO (vaB (0, 0, ⟨#[]⟩) ++ r) 0 = (0, r, 0) := byteO_back 0 r (by decide) (by decide);rw [this]
   rfl
  ·have : byteO (vaB (1, n, ⟨#[]⟩) ++ r) 0 = (1, enc (zz n) ++ r, 0) := byteO_back 1 _ (by decide) (by decide);rw [this];simp only [if_true];rw [intO_tk.back n r hn]
  ·have : byteO (vaB (2, 0, s) ++ r) 0 = (2, stB2 s ++ r, 0) := byteO_back 2 _ (by decide) (by decide);rw [this];simp only [if_true];rw [if_neg (by decide), stO_tk.back s r hs]
theorem valR_or (l : List UInt8) (e : Int) : valR l e = valO l e ∨ (2 < (valR l e).1.1 ∧ (valO l e).2.2 ≠ 0) := by
 have hb := byteO_lo l e;unfold valR valO
 split
 ·left; rfl
 ·split
  ·left; rfl
  ·split
   ·rename_i h; left; rw [h]
   ·right
    exact ⟨by simp only []; omega, failO_ne _ _ _ (by decide)⟩
def evI (p : Va × Va × Va × Va) : EvV := ⟨p.1, p.2.1, p.2.2.1, p.2.2.2⟩
def evsO : TkF EvV := mapO evI (twoO valO (twoO valO (twoO valO valO)))
def evsR : TkF EvV := mapO evI (twoO valR (twoO valR (twoO valR valR)))
def evB (e : EvV) : List UInt8 := vaB e.v0 ++ (vaB e.v1 ++ (vaB e.v2 ++ vaB e.v3))
def okEv (e : EvV) : Prop := okVa e.v0 ∧ okVa e.v1 ∧ okVa e.v2 ∧ okVa e.v3
theorem evsO_tk : Tk evsO evB okEv := by
 refine Tk.re ((valO_tk.two (valO_tk.two (valO_tk.two valO_tk))).map evI (fun b => (b.v0, b.v1, b.v2, b.v3)) (fun b => rfl) (fun a _ => rfl)) (fun b => rfl) (fun b => Iff.rfl)
def ev0 : EvV := ⟨(0, 0, ⟨#[]⟩), (0, 0, ⟨#[]⟩), (0, 0, ⟨#[]⟩), (0, 0, ⟨#[]⟩)⟩
def evO : TkF EvV := fun l e => (if (evsO l e).2.2 = 0 then (evsO l e).1 else ev0, (evsO l e).2)
theorem evO_tk : Tk evO evB okEv where
 stick l e he := evsO_tk.stick l e he
 le l e := evsO_tk.le l e
 inv l a r h0 := by
  have z : (evsO l 0).2.2 = 0 := congrArg (fun z => z.2.2) h0;unfold evO at h0;rw [if_pos z] at h0;exact evsO_tk.inv l a r h0
 back a r p := by
  unfold evO;rw [evsO_tk.back a r p]
  rfl
theorem evs_ref (l : List UInt8) (e : Int) : ((evsR l e).2.2 = 0 → rightE (evsR l e).1 = true → evsR l e = evO l e) ∧ (¬ ((evsR l e).2.2 = 0 ∧ rightE (evsR l e).1 = true) → (evO l e).2.2 ≠ 0) := by
 have bad : ∀ v : Va, 2 < v.1 → rightB v.1 v.2.1 v.2.2 = false := fun v h => by unfold rightB; rw [if_neg (by omega), if_neg (by omega), if_neg (by omega)]
 have no : ∀ i, i < 4 → 2 < ((evsR l e).1.get i).1 → (evO l e).2.2 ≠ 0 → ((evsR l e).2.2 = 0 → rightE (evsR l e).1 = true → evsR l e = evO l e) ∧ (¬ ((evsR l e).2.2 = 0 ∧ rightE (evsR l e).1 = true) → (evO l e).2.2 ≠ 0) := fun i hi hb hn => by
  have hr : rightE (evsR l e).1 = false := all4_no hi (bad _ hb);exact ⟨fun _ h => (by rw [hr] at h; cases h), fun _ => hn⟩
 have u1 : evsR l e = evsO l e → ((evsR l e).2.2 = 0 → rightE (evsR l e).1 = true → evsR l e = evO l e) ∧ (¬ ((evsR l e).2.2 = 0 ∧ rightE (evsR l e).1 = true) → (evO l e).2.2 ≠ 0) := fun h => by
  rw [h];refine ⟨fun h1 _ => by unfold evO; rw [if_pos h1], fun h1 h2 => ?_⟩;have h2 : (evsO l e).2.2 = 0 := h2;have he := evsO_tk.zero h2;subst he;obtain ⟨_, p⟩ := evsO_tk.inv' h2;refine h1 ⟨h2, (all4_iff _).2 fun i hi => ?_⟩
  match i, hi with
  | 0, _ => exact p.1.1
  | 1, _ => exact p.2.1.1
  | 2, _ => exact p.2.2.1.1
  | 3, _ => exact p.2.2.2.1
 rcases valR_or l e with h0 | ⟨h0, n0⟩
 ·rcases valR_or (valO l e).2.1 (valO l e).2.2 with h1 | ⟨h1, n1⟩
  ·rcases valR_or (valO (valO l e).2.1 (valO l e).2.2).2.1 (valO (valO l e).2.1 (valO l e).2.2).2.2 with h2 | ⟨h2, n2⟩
   ·rcases valR_or (valO (valO (valO l e).2.1 (valO l e).2.2).2.1 (valO (valO l e).2.1 (valO l e).2.2).2.2).2.1 (valO (valO (valO l e).2.1 (valO l e).2.2).2.1 (valO (valO l e).2.1 (valO l e).2.2).2.2).2.2 with h3 | ⟨h3, n3⟩
    ·refine u1 ?_;simp only [evsR, evsO, mapO, twoO, h0, h1, h2, h3]
    ·refine no 3 (by decide) ?_ n3;simp only [evsR, mapO, twoO, h0, h1, h2];exact h3
   ·refine no 2 (by decide) ?_ (valO_tk.stick _ _ n2);simp only [evsR, mapO, twoO, h0, h1];exact h2
  ·refine no 1 (by decide) ?_ (valO_tk.stick _ _ (valO_tk.stick _ _ n1));simp only [evsR, mapO, twoO, h0];exact h1
 ·exact no 0 (by decide) h0 (valO_tk.stick _ _ (valO_tk.stick _ _ (valO_tk.stick _ _ n0)))
end Go.Proofs.YtlmdcaemjaldfaaGreat
namespace Go.Proofs.YtlmdcaemjaldfaaGreat
open Go.RowKit
def BW (w : World) (B g : Nat) (l : List UInt8) : Prop := Lib.IsBuilder 96 5 B g (Lib.byteCells l) w
structure PutR (B : Nat) (w W : World) : Prop where
 b : Below B w W
 size : w.heap.size ≤ W.heap.size
 blk : ∀ (i : Nat) (cs : Array Value) (t : TypeId) (fz : Nat × Nat), w.heap[i]? = some (.cells cs t fz) → t ≠ 96 → t ≠ 5 → W.heap[i]? = w.heap[i]?
theorem PutR.refl (B : Nat) (w : World) : PutR B w w := ⟨Below.refl _ _, Nat.le_refl _, fun _ _ _ _ _ _ _ => rfl⟩
theorem PutR.of {B : Nat} {w W : World} (hB : B ≤ w.heap.size) (h : Below w.heap.size w W) : PutR B w W := ⟨h.mono hB, h.size, fun i cs t fz hi _ _ => h.block _ (lt_heap hi)⟩
theorem PutR.trans {B : Nat} {a w W : World} (h : PutR B a w) (k : PutR B w W) : PutR B a W :=
 ⟨h.b.trans k.b, Nat.le_trans h.size k.size, fun i cs t fz hi h1 h2 => (k.blk i cs t fz ((h.blk i cs t fz hi h1 h2).trans hi) h1 h2).trans (h.blk i cs t fz hi h1 h2)⟩
theorem PutR.on {B : Nat} {a w W : World} (hB : B ≤ a.heap.size) (h : PutR B a w) (k : Below w.heap.size w W) : PutR B a W := h.trans (.of (Nat.le_trans hB h.size) k)
theorem PutR.keep {B : Nat} {w W : World} (h : PutR B w W) {g : Nat} {cs : Array Value} {t : TypeId} {fz : Nat × Nat} (hg : w.heap[g]? = some (.cells cs t fz)) (h1 : t ≠ 96) (h2 : t ≠ 5) : W.heap[g]? = some (.cells cs t fz) := (h.blk g cs t fz hg h1 h2).trans hg
theorem PutR.new {B : Nat} {a w W : World} {g : Nat} (hB : B ≤ a.heap.size) (h : PutR B a w) (hg : a.heap.size ≤ g) (k : w.grownBy W (some g)) : PutR B a W :=
 ⟨h.b.trans (below_of_grown k (Nat.le_trans hB hg) (Nat.le_trans hB h.size)), Nat.le_trans h.size k.size, fun i cs t fz hi h1 h2 => (k.block i (Nat.lt_of_lt_of_le (lt_heap hi) h.size) (by intro e; injection e with e; have := lt_heap hi; omega)).trans (h.blk i cs t fz hi h1 h2)⟩
theorem BW.on {w W : World} {B g : Nat} {l : List UInt8} (h : BW w B g l) (k : Below w.heap.size w W) : BW W B g l := by
 rcases h with ⟨h1, v, hb, ho, hn⟩ | ⟨h1, v, hb, ho, hn⟩
 ·exact Or.inl ⟨h1, v, heap_on hb k, ownsRow_on ho k, hn⟩
 ·exact Or.inr ⟨h1, v, heap_on hb k, ownsRow_on ho k, hn⟩
theorem BW.gr {w W : World} {B g k : Nat} {l : List UInt8} {cs : Array Value} {t : TypeId} (h : BW w B g l) (kg : w.grownBy W (some k)) (hk : w.heap[k]? = some (.cells cs t (0, 0))) (h1 : t ≠ 96) (h2 : t ≠ 5) : BW W B g l := by
 rcases h with ⟨h0, v, hb, ho, hn⟩ | ⟨h0, v, hb, ho, hn⟩
 ·refine Or.inl ⟨h0, v, heap_gr hb kg (fun e => ?_), row_gr_heap ho kg hk h2, hn⟩;subst e; rw [hb] at hk; injection hk with hk; injection hk with _ e; exact h1 e.symm
 ·refine Or.inr ⟨h0, v, heap_gr hb kg (fun e => ?_), row_gr_heap ho kg hk h2, hn⟩;subst e; rw [hb] at hk; injection hk with hk; injection hk with _ e; exact h1 e.symm
theorem BW.lt {w : World} {B g : Nat} {l : List UInt8} (h : BW w B g l) : g < w.heap.size := by
 rcases h with h | h
 ·exact h.lt
 ·exact h.lt
theorem copyCheck_any (B g : Nat) (l : List UInt8) (w : World) (h : BW w B g l) :
  Calls Tryz.prog 148 #[.pointer (some ⟨g, 0, none⟩)] w fun e W => e = .returned (.tuple #[]) ∧ Lib.BuilderAt 96 5 B g (.pointer (some ⟨g, 0, none⟩)) (Lib.byteCells l) W ∧ W.heap.size = w.heap.size ∧ PutR B w W := by
 rcases h with h | h
 ·refine (Any.Builder_copyCheck_fresh Tryz.lays240 ⟨by kernel_rfl, by kernel_rfl⟩ g w h.cell0 h.shape h.frozen0).mono ?_;rintro e W ⟨rfl, rfl⟩;have hs : (w.setCell ⟨g, 0, none⟩ (.pointer (some ⟨g, 0, none⟩))).heap.size = w.heap.size := by simp [World.setCell]
  refine ⟨rfl, h.used _, hs, (Below.refl _ _).setCell (p := ⟨g, 0, none⟩) h.1 _, Nat.le_of_eq hs.symm, fun i cs t fz hi h1 h2 => Below.heap_setCell _ _ _ _ (fun e => ?_)⟩;obtain ⟨_, v, hb, _⟩ := h;have e : i = g := e;subst e;rw [hb] at hi
  injection hi with hi
  injection hi with _ hi
  exact h1 hi.symm
 ·refine (Any.Builder_copyCheck_used Tryz.lays240 ⟨by kernel_rfl, by kernel_rfl⟩ g w h.cell0).mono ?_;rintro e W ⟨rfl, rfl⟩;exact ⟨rfl, h, rfl, PutR.refl _ _⟩
theorem info8 : (Tryz.prog.info? 5).map (fun i => (i.zero, i.size, i.bytes)) = some (some (.int .u8 0), 1, 1) := by kernel_rfl
theorem written {B g : Nat} {w w1 w2 : World} {v v' : Value} {cs news : List Value} (D : PutR B w w1) (hB : B ≤ g) (hBw : B ≤ w.heap.size) (hbk : w1.heap[g]? = some (.cells #[.pointer (some ⟨g, 0, none⟩), v] 96 (0, 0))) (hown : w1.ownsRow B 5 1 v cs.length cs)
  (hown' : w2.ownsRow B 5 1 v' (cs.length + news.length) (cs ++ news)) (hgrow : w1.grownBy w2 v.ownBlock) (hne : v.ownBlock ≠ some g) :
  Lib.BuilderAt 96 5 B g (.pointer (some ⟨g, 0, none⟩)) (cs ++ news) (w2.setCell ⟨g, 1, none⟩ v') ∧ PutR B w (w2.setCell ⟨g, 1, none⟩ v') := by
 have hb2 : w2.heap[g]? = some (.cells #[.pointer (some ⟨g, 0, none⟩), v] 96 (0, 0)) := heap_gro hbk hgrow hne;refine ⟨Lib.BuilderAt.put hB hb2 (bs' := cs ++ news) (by rw [List.length_append]; exact hown') (by decide), ?_⟩;refine D.trans ⟨?_, Nat.le_trans hgrow.size (by simp [World.setCell]), fun i cs t fz hi h1 h2 => ?_⟩
 ·exact ((Below.refl _ w1).grown hgrow (Nat.le_trans hBw D.size) (fun k hk => (hown.lt k hk).1)).setCell (p := ⟨g, 1, none⟩) hB _
 ·have n1 : i ≠ g := fun e => by
   subst e;rw [hbk] at hi
   injection hi with hi
   injection hi with _ hi
   exact h1 hi.symm
  exact (Below.heap_setCell _ _ _ _ n1).trans (hgrow.block i (lt_heap hi) (Ne.symm (own_ne hown hi h2)))
end Go.Proofs.YtlmdcaemjaldfaaGreat
namespace Go.Proofs.YtlmdcaemjaldfaaGreat
open Go.RowKit
set_option maxHeartbeats 2000000 in
set_option maxRecDepth 100000 in
theorem writeString_any (B g : Nat) (l : List UInt8) (s : ByteArray) (w : World) (h : BW w B g l) (hl : l.length + s.size ≤ 10000000) (hB : B ≤ w.heap.size) :
  Calls Tryz.prog 112 #[.pointer (some ⟨g, 0, none⟩), .string s] w fun e W => e = .returned (.tuple #[.int .i64 s.size, .nilIface]) ∧ BW W B g (l ++ s.data.toList) ∧ PutR B w W := by
 obtain ⟨i0, hi, hz0, hz1, hz2⟩ := info_parts info8;go_enter Tryz.func112, Tryz.ntmps112
 go_wp2_with (go_at_call 148; refine (copyCheck_any B g l _ h).mono ?_)
 rintro e w1 ⟨rfl, ⟨hBg, v, hbk, hown, hne⟩, -, D⟩;have hB1 : B ≤ w1.heap.size := Nat.le_trans hB D.size;have c0 : w1.cell? ⟨g, 0, none⟩ = some (.pointer (some ⟨g, 0, none⟩)) := by rw [Lib.cell_of_heap hbk]; rfl
 have c1 : w1.cell? ⟨g, 1, none⟩ = some v := by rw [Lib.cell_of_heap hbk]; rfl
 have hlen : (Lib.byteCells l).length = l.length := Lib.byteCells_length l
 go_wp2_with (at_builtin; refine Lib.wpList_append_own_string _ rfl _ _ 94 9 rfl B 5 i0 Tryz.underlying94 Tryz.underlying9 hi hz0 hz1 hz2 _ _ _ rfl hown s rfl ?c3 ?c4 ?c5 ?_)
 case c3 => rw [hlen]; unfold maxLen; omega
 case c4 => rw [hlen]; omega
 case c5 => omega
 intro v' w2 hown' hgrow _;obtain ⟨hA, hP⟩ := written (news := Lib.strCells s) D hBg hB hbk hown (by rw [Lib.strCells_length, hlen]; exact hown') hgrow hne;have hb2 := heap_gro hbk hgrow hne;have d1 : w2.cell? ⟨g, 1, none⟩ = some v := by rw [Lib.cell_of_heap hb2]; rfl
 have f1 : w2.frozen? ⟨g, 1, none⟩ = false := Lib.frozen_of_heap hb2 1;obtain ⟨ao, n', cap, rfl⟩ : ∃ ao n' cap, v' = .slice ao n' cap := by
  rcases hown'.2 with ⟨hv, _⟩ | ⟨g, cap, cur, hv, _⟩
  ·exact ⟨_, _, _, hv⟩
  ·exact ⟨_, _, _, hv⟩
 have HA := hide hA;have HP := hide hP;clear hA hP
 go_wp2
 go_ret2
 refine ⟨rfl, Or.inr ?_, HP.out⟩;have := HA.out;rw [Lib.strCells_eq, show Lib.byteCells l ++ Lib.byteCells s.data.toList = Lib.byteCells (l ++ s.data.toList) by simp [Lib.byteCells]] at this;exact this
set_option maxHeartbeats 2000000 in
set_option maxRecDepth 100000 in
theorem writeByte_any (B g : Nat) (l : List UInt8) (c : Int) (w : World) (h : BW w B g l) (hl : l.length ≤ 10000000) (hB : B ≤ w.heap.size) (c0 : 0 ≤ c) (c1 : c < 256) :
  Calls Tryz.prog 114 #[.pointer (some ⟨g, 0, none⟩), .int .u8 c] w fun e W => e = .returned .nilIface ∧ BW W B g (l ++ [UInt8.ofNat c.toNat]) ∧ PutR B w W := by
 obtain ⟨i0, hi, hz0, hz1, hz2⟩ := info_parts info8;have ec : Value.int .u8 c = .int .u8 ((UInt8.ofNat c.toNat).toNat : Int) := by rw [ofNat_val (by omega), Int.toNat_of_nonneg c0]
 have EC := hide ec;clear ec;go_enter Tryz.func114, Tryz.ntmps114
 go_wp2_with (go_at_call 148; refine (copyCheck_any B g l _ h).mono ?_)
 rintro e w1 ⟨rfl, ⟨hBg, v, hbk, hown, hne⟩, -, D⟩;have hB1 : B ≤ w1.heap.size := Nat.le_trans hB D.size;have c0 : w1.cell? ⟨g, 0, none⟩ = some (.pointer (some ⟨g, 0, none⟩)) := by rw [Lib.cell_of_heap hbk]; rfl
 have c1 : w1.cell? ⟨g, 1, none⟩ = some v := by rw [Lib.cell_of_heap hbk]; rfl
 have hlen : (Lib.byteCells l).length = l.length := Lib.byteCells_length l;have hnew : ∀ w : World, (w.alloc (.cells #[.int .u8 c] 5)).heap[w.heap.size]? = some (.cells #[.int .u8 c] 5 (0, 0)) := fun w => heap_new _ _
 go_wp2_with (at_builtin; go_loud (refine wpList_append_own _ rfl _ _ 94 rfl B 5 i0 (.int .u8 0) 1 1 Tryz.underlying94 hi hz0 hz1 hz2 rfl (by decide) v _ _ rfl (ownsRow_on hown ((Below.refl _ w1).alloc (Nat.le_refl _) _)) ⟨w1.heap.size, 0, none⟩ 1 1 [.int .u8 c] rfl rfl (World.news_of_block (hnew w1)) (by simp [Value.oneCell']) ?c3 ?c4 ?c5 ?_))
 case c3 => rw [hlen]; unfold maxLen; omega
 case c4 => rw [hlen]; omega
 case c5 => simp; omega
 intro v' w2 hown' hgrow _;have D' := D.on hB ((Below.refl _ w1).alloc (Nat.le_refl _) (.cells #[.int .u8 c] 5));have hbk' := heap_on hbk ((Below.refl _ w1).alloc (Nat.le_refl _) (.cells #[.int .u8 c] 5));have hown1 := ownsRow_on hown ((Below.refl _ w1).alloc (Nat.le_refl _) (.cells #[.int .u8 c] 5));obtain ⟨hA, hP⟩ := written (news := [.int .u8 c]) D' hBg hB hbk' hown1 (by rw [hlen]; exact hown') hgrow hne;have hb2 := heap_gro hbk' hgrow hne;have d1 : w2.cell? ⟨g, 1, none⟩ = some v := by rw [Lib.cell_of_heap hb2]; rfl
 have f1 : w2.frozen? ⟨g, 1, none⟩ = false := Lib.frozen_of_heap hb2 1;obtain ⟨ao, n', cap, rfl⟩ : ∃ ao n' cap, v' = .slice ao n' cap := by
  rcases hown'.2 with ⟨hv, _⟩ | ⟨g, cap, cur, hv, _⟩
  ·exact ⟨_, _, _, hv⟩
  ·exact ⟨_, _, _, hv⟩
 have HA := hide hA;have HP := hide hP;clear hA hP
 go_wp2
 go_ret
 refine ⟨rfl, Or.inr ?_, HP.out⟩;have := HA.out;rw [EC.out, show Lib.byteCells l ++ [Value.int .u8 ((UInt8.ofNat c.toNat).toNat : Int)] = Lib.byteCells (l ++ [UInt8.ofNat c.toNat]) by simp [Lib.byteCells]] at this;exact this
theorem builderString_any (B g : Nat) (l : List UInt8) (w : World) (h : BW w B g l) (hB : B ≤ w.heap.size) :
  Calls Tryz.prog 66 #[.pointer (some ⟨g, 0, none⟩)] w fun e W => e = .returned (.string (bs l)) ∧ Below B w W := Tryz.Builder_String_any B g l w h hB
end Go.Proofs.YtlmdcaemjaldfaaGreat
namespace Go.Proofs.YtlmdcaemjaldfaaGreat
open Go.RowKit
set_option maxHeartbeats 4000000 in
set_option maxRecDepth 100000 in
theorem boxSmall_any (c : BxC) (b : BoxV) (w : World) (hv0 : BoxAt w c.val b) :
  Calls Tryz.prog 91 #[c.val] w fun r w' => r = .returned (.bool (smallBx b)) ∧ Below w.heap.size w w' := by
 have hv := hv0;have D := Below.refl w.heap.size w;go_enter Tryz.func91, Tryz.ntmps91;refine wp_seq_k (fun K1 hK1 => ?_);refine wp_region_lit ?_;refine wl_boxBc (o := .mk ..) (by rfl) _ rfl rfl (fun v1 gb1 hggb1 IO1 kb => ?_);simp only [Act.put, lz];replace D := D.trans (kb.mono D.size);replace hv := hv.on kb;clear kb;refine wl_yield (o := .mk ..) (.bool false) (yl_assign (by rfl) _ rfl _ rfl) ?_;simp only [Act.put, lz];refine wpList_nil ?_;refine hK1 _ _ ?_;clear hK1 K1;refine wp_seq_k (fun K2 hK2 => ?_);refine wp_seq_k (fun K3 hK3 => ?_);refine wp_region_lit ?_;refine wl_yield (o := .mk ..) (BxC.val c) (yl_bx (by rfl) _ rfl _ _ rfl _ (fun _ h => by subst h; exact BcIn.at IO1)) ?_;simp only [Act.put, lz];refine wl_yield (o := .mk ..) (.int .i64 0) (yl_move (by rfl) _ rfl _ rfl) ?_;simp only [Act.put, lz];refine wpList_nil ?_;refine hK3 _ _ ?_;clear hK3 K3;refine wp_block ?_;go_loopw [6] (fun i wr => ∃ k : Nat, i = .int .i64 k ∧ k ≤ 4 ∧ (∀ j, j < k → smallB (b.get j) = true) ∧ Below w.heap.size w wr) (fun i _ => 4 - (intOf i).toNat)
 case atStart => exact ⟨0, rfl, by omega, fun j h => by omega, D⟩
 case round =>
  replace hv := hv0;clear D;obtain ⟨k, rfl, hk, hF, D⟩ := hrel;replace hv := hv.on D;by_cases hlt : k < 4
  ·refine wp_seq_k (fun K4 hK4 => ?_);refine wp_region_lit ?_;refine wl_yield (o := .mk ..) (.bool true) (yl_lssI (by rfl) _ _ _ rfl (((k : Nat) : Int)) (4) true rfl rfl (decide_eq_true (by omega))) ?_;simp only [Act.put, lz];refine wpList_nil ?_;refine hK4 _ _ ?_;clear hK4 K4;refine wp_seq_k (fun K5 hK5 => ?_);refine wp_cond_true rfl ?_;refine wp_skip ?_;refine hK5 _ _ ?_;clear hK5 K5;refine wp_seq_k (fun K6 hK6 => ?_);refine wp_block ?_;refine wp_seq_k (fun K7 hK7 => ?_);refine wp_region_lit ?_;refine wl_yield (o := .mk ..) (SC.val (BxC.sc c k)) (yl_bxIdx (by rfl) _ _ rfl c k rfl rfl (hlt)) ?_;simp only [Act.put, lz];refine wl_newS (o := .mk ..) (o2 := ⟨_, _, _, _, _, _⟩) (by rfl) rfl _ _ rfl rfl (fun _ => rfl) (fun _ => rfl) (fun v2 gb2 IO4 kb => ?_);simp only [Act.put, lz];replace D := D.trans (kb.mono D.size);replace hv := hv.on kb;clear kb;refine wpList_nil ?_;refine hK7 _ _ ?_;clear hK7 K7;refine wp_seq_k (fun K8 hK8 => ?_);refine wp_region_lit ?_;refine wl_yield (o := .mk ..) (SC.val (BxC.sc c k)) (yl_set (by rfl) _ rfl _ 0 rfl _ _ _ _ (fun _ h => by subst h; exact stCells IO4)) ?_;simp only [Act.put, lz];refine wl_call (o := .mk ..) (by rfl) 128 _ _ rfl #[SC.val (BxC.sc c k)] rfl (run_call Tryz.func128 (by kernel_rfl) (by kernel_rfl)) ?_;refine (smallB_any _ (b.get k) _ (hv.sc k hlt)).mono ?_;rintro r v3 ⟨rfl, kb⟩;replace D := D.trans (kb.mono D.size);replace hv := hv.on kb;replace IO4 := IO4.on kb;clear kb;cases hq : smallB (b.get k)
   ·refine ⟨.bool false, rfl, ?_⟩;simp only [Act.put, lz];refine wl_yield (o := .mk ..) (.bool true) (yl_not (by rfl) _ _ rfl false rfl) ?_;simp only [Act.put, lz];refine wpList_nil ?_;refine hK8 _ _ ?_;clear hK8 K8;refine wp_cond_true rfl ?_;refine wp_seq_k (fun K9 hK9 => ?_);refine wp_region_lit ?_;refine wl_yield (o := .mk ..) (.bool false) (yl_assign (by rfl) _ rfl _ rfl) ?_;simp only [Act.put, lz];refine wpList_nil ?_;refine hK9 _ _ ?_;clear hK9 K9;refine wp_ret ?_;go_ret
    exact ⟨by rw [show smallBx b = false from all4_no hlt hq]; rfl, D⟩
   ·refine ⟨.bool true, rfl, ?_⟩;simp only [Act.put, lz];refine wl_yield (o := .mk ..) (.bool false) (yl_not (by rfl) _ _ rfl true rfl) ?_;simp only [Act.put, lz];refine wpList_nil ?_;refine hK8 _ _ ?_;clear hK8 K8;refine wp_cond_false rfl ?_;refine wp_skip ?_;refine hK6 _ _ ?_;clear hK6 K6;refine wp_region_lit ?_;refine wl_yield (o := .mk ..) (.int .i64 (k + 1 : Nat)) (yl_addI (by rfl) _ _ _ rfl (((k : Nat) : Int)) (1) (((k + 1 : Nat) : Int)) rfl rfl (by omega) (by omega) (by omega)) ?_;simp only [Act.put, lz];refine wl_yield (o := .mk ..) (.int .i64 (k + 1 : Nat)) (yl_move (by rfl) _ rfl _ rfl) ?_;simp only [Act.put, lz];refine wpList_nil ?_;show _ ∧ _;go_roundw
    case rel => exact ⟨k + 1, rfl, by omega, fun j hj => by
     rcases Nat.lt_succ_iff_lt_or_eq.1 hj with h | rfl
     ·exact hF j h
     ·exact hq, D⟩
    case measure => simp [intOf]; omega
  ·refine wp_seq_k (fun K4 hK4 => ?_);refine wp_region_lit ?_;refine wl_yield (o := .mk ..) (.bool false) (yl_lssI (by rfl) _ _ _ rfl (((k : Nat) : Int)) (4) false rfl rfl (decide_eq_false (by omega))) ?_;simp only [Act.put, lz];refine wpList_nil ?_;refine hK4 _ _ ?_;clear hK4 K4;refine wp_seq_k (fun K5 hK5 => ?_);refine wp_cond_false rfl ?_;refine wp_exit ?_;refine hK2 _ _ ?_;clear hK5 K5 hK2 K2;refine wp_seq_k (fun K6 hK6 => ?_);refine wp_region_lit ?_;refine wl_yield (o := .mk ..) (.bool true) (yl_assign (by rfl) _ rfl _ rfl) ?_;simp only [Act.put, lz];refine wpList_nil ?_;refine hK6 _ _ ?_;clear hK6 K6;refine wp_ret ?_;go_ret
   exact ⟨by rw [show smallBx b = true from (all4_iff _).2 fun i hi => hF i (by omega)]; rfl, D⟩
set_option maxHeartbeats 4000000 in
set_option maxRecDepth 100000 in
theorem boxRight_any (c : BxC) (b : BoxV) (w : World) (hv0 : BoxAt w c.val b) :
  Calls Tryz.prog 92 #[c.val] w fun r w' => r = .returned (.bool (rightBx b)) ∧ Below w.heap.size w w' := by
 have hv := hv0;have D := Below.refl w.heap.size w;go_enter Tryz.func92, Tryz.ntmps92;refine wp_seq_k (fun K1 hK1 => ?_);refine wp_region_lit ?_;refine wl_boxBc (o := .mk ..) (by rfl) _ rfl rfl (fun v1 gb1 hggb1 IO1 kb => ?_);simp only [Act.put, lz];replace D := D.trans (kb.mono D.size);replace hv := hv.on kb;clear kb;refine wl_yield (o := .mk ..) (.bool false) (yl_assign (by rfl) _ rfl _ rfl) ?_;simp only [Act.put, lz];refine wpList_nil ?_;refine hK1 _ _ ?_;clear hK1 K1;refine wp_seq_k (fun K2 hK2 => ?_);refine wp_seq_k (fun K3 hK3 => ?_);refine wp_region_lit ?_;refine wl_yield (o := .mk ..) (BxC.val c) (yl_bx (by rfl) _ rfl _ _ rfl _ (fun _ h => by subst h; exact BcIn.at IO1)) ?_;simp only [Act.put, lz];refine wl_yield (o := .mk ..) (.int .i64 0) (yl_move (by rfl) _ rfl _ rfl) ?_;simp only [Act.put, lz];refine wpList_nil ?_;refine hK3 _ _ ?_;clear hK3 K3;refine wp_block ?_;go_loopw [6] (fun i wr => ∃ k : Nat, i = .int .i64 k ∧ k ≤ 4 ∧ (∀ j, j < k → rightSet (b.get j) = true) ∧ Below w.heap.size w wr) (fun i _ => 4 - (intOf i).toNat)
 case atStart => exact ⟨0, rfl, by omega, fun j h => by omega, D⟩
 case round =>
  replace hv := hv0;clear D;obtain ⟨k, rfl, hk, hF, D⟩ := hrel;replace hv := hv.on D;by_cases hlt : k < 4
  ·refine wp_seq_k (fun K4 hK4 => ?_);refine wp_region_lit ?_;refine wl_yield (o := .mk ..) (.bool true) (yl_lssI (by rfl) _ _ _ rfl (((k : Nat) : Int)) (4) true rfl rfl (decide_eq_true (by omega))) ?_;simp only [Act.put, lz];refine wpList_nil ?_;refine hK4 _ _ ?_;clear hK4 K4;refine wp_seq_k (fun K5 hK5 => ?_);refine wp_cond_true rfl ?_;refine wp_skip ?_;refine hK5 _ _ ?_;clear hK5 K5;refine wp_seq_k (fun K6 hK6 => ?_);refine wp_block ?_;refine wp_seq_k (fun K7 hK7 => ?_);refine wp_region_lit ?_;refine wl_yield (o := .mk ..) (SC.val (BxC.sc c k)) (yl_bxIdx (by rfl) _ _ rfl c k rfl rfl (hlt)) ?_;simp only [Act.put, lz];refine wl_newS (o := .mk ..) (o2 := ⟨_, _, _, _, _, _⟩) (by rfl) rfl _ _ rfl rfl (fun _ => rfl) (fun _ => rfl) (fun v2 gb2 IO4 kb => ?_);simp only [Act.put, lz];replace D := D.trans (kb.mono D.size);replace hv := hv.on kb;clear kb;refine wpList_nil ?_;refine hK7 _ _ ?_;clear hK7 K7;refine wp_seq_k (fun K8 hK8 => ?_);refine wp_region_lit ?_;refine wl_yield (o := .mk ..) (SC.val (BxC.sc c k)) (yl_set (by rfl) _ rfl _ 0 rfl _ _ _ _ (fun _ h => by subst h; exact stCells IO4)) ?_;simp only [Act.put, lz];refine wl_call (o := .mk ..) (by rfl) 129 _ _ rfl #[SC.val (BxC.sc c k)] rfl (run_call Tryz.func129 (by kernel_rfl) (by kernel_rfl)) ?_;refine (setRight_any _ (b.get k) _ (hv.sc k hlt)).mono ?_;rintro r v3 ⟨rfl, kb⟩;replace D := D.trans (kb.mono D.size);replace hv := hv.on kb;replace IO4 := IO4.on kb;clear kb;cases hq : rightSet (b.get k)
   ·refine ⟨.bool false, rfl, ?_⟩;simp only [Act.put, lz];refine wl_yield (o := .mk ..) (.bool true) (yl_not (by rfl) _ _ rfl false rfl) ?_;simp only [Act.put, lz];refine wpList_nil ?_;refine hK8 _ _ ?_;clear hK8 K8;refine wp_cond_true rfl ?_;refine wp_seq_k (fun K9 hK9 => ?_);refine wp_region_lit ?_;refine wl_yield (o := .mk ..) (.bool false) (yl_assign (by rfl) _ rfl _ rfl) ?_;simp only [Act.put, lz];refine wpList_nil ?_;refine hK9 _ _ ?_;clear hK9 K9;refine wp_ret ?_;go_ret
    exact ⟨by rw [show rightBx b = false from all4_no hlt hq]; rfl, D⟩
   ·refine ⟨.bool true, rfl, ?_⟩;simp only [Act.put, lz];refine wl_yield (o := .mk ..) (.bool false) (yl_not (by rfl) _ _ rfl true rfl) ?_;simp only [Act.put, lz];refine wpList_nil ?_;refine hK8 _ _ ?_;clear hK8 K8;refine wp_cond_false rfl ?_;refine wp_skip ?_;refine hK6 _ _ ?_;clear hK6 K6;refine wp_region_lit ?_;refine wl_yield (o := .mk ..) (.int .i64 (k + 1 : Nat)) (yl_addI (by rfl) _ _ _ rfl (((k : Nat) : Int)) (1) (((k + 1 : Nat) : Int)) rfl rfl (by omega) (by omega) (by omega)) ?_;simp only [Act.put, lz];refine wl_yield (o := .mk ..) (.int .i64 (k + 1 : Nat)) (yl_move (by rfl) _ rfl _ rfl) ?_;simp only [Act.put, lz];refine wpList_nil ?_;show _ ∧ _;go_roundw
    case rel => exact ⟨k + 1, rfl, by omega, fun j hj => by
     rcases Nat.lt_succ_iff_lt_or_eq.1 hj with h | rfl
     ·exact hF j h
     ·exact hq, D⟩
    case measure => simp [intOf]; omega
  ·refine wp_seq_k (fun K4 hK4 => ?_);refine wp_region_lit ?_;refine wl_yield (o := .mk ..) (.bool false) (yl_lssI (by rfl) _ _ _ rfl (((k : Nat) : Int)) (4) false rfl rfl (decide_eq_false (by omega))) ?_;simp only [Act.put, lz];refine wpList_nil ?_;refine hK4 _ _ ?_;clear hK4 K4;refine wp_seq_k (fun K5 hK5 => ?_);refine wp_cond_false rfl ?_;refine wp_exit ?_;refine hK2 _ _ ?_;clear hK5 K5 hK2 K2;refine wp_seq_k (fun K6 hK6 => ?_);refine wp_region_lit ?_;refine wl_yield (o := .mk ..) (.bool true) (yl_assign (by rfl) _ rfl _ rfl) ?_;simp only [Act.put, lz];refine wpList_nil ?_;refine hK6 _ _ ?_;clear hK6 K6;refine wp_ret ?_;go_ret
   exact ⟨by rw [show rightBx b = true from (all4_iff _).2 fun i hi => hF i (by omega)]; rfl, D⟩
set_option maxHeartbeats 4000000 in
set_option maxRecDepth 100000 in
theorem dnfRight_any (v : Value) (l : List BoxV) (w : World) (hv : Bxs w v l) :
  Calls Tryz.prog 47 #[v] w fun r w' => r = .returned (.bool (rightF l)) ∧ Below w.heap.size w w' := by
 obtain ⟨cs, hr, ha⟩ := hv;have hbig := hr.1;have hcl := ha.1;obtain ⟨q, cp, rfl⟩ := hr.form;have D := Below.refl w.heap.size w;go_enter Tryz.func47, Tryz.ntmps47;refine wp_seq_k (fun K1 hK1 => ?_);refine wp_region_lit ?_;refine wl_yield (o := .mk ..) (.bool false) (yl_assign (by rfl) _ rfl _ rfl) ?_;simp only [Act.put, lz];refine wpList_nil ?_;refine hK1 _ _ ?_;clear hK1 K1;refine wp_seq_k (fun K2 hK2 => ?_);refine wp_seq_k (fun K3 hK3 => ?_);refine wp_region_lit ?_;refine wl_yield (o := .mk ..) (.slice q cs.length cp) (yl_move (by rfl) _ rfl _ rfl) ?_;simp only [Act.put, lz];refine wl_yield (o := .mk ..) (.int .i64 (cs.length : Nat)) (yl_lenF (by rfl) _ rfl _ _ _ rfl) ?_;simp only [Act.put, lz];refine wl_yield (o := .mk ..) (.bool (decide (4 < cs.length))) (yl_gtrI (by rfl) _ _ _ rfl (((cs.length : Nat) : Int)) (4) (decide (4 < cs.length)) rfl rfl (by rw [decide_eq_decide]; omega)) ?_;simp only [Act.put, lz];refine wpList_nil ?_;refine hK3 _ _ ?_;clear hK3 K3;refine wp_cond_split (t := (decide (4 < cs.length))) rfl (fun hc => ?_) (fun hc => ?_)
 ·have h4 : 4 < cs.length := of_decide_eq_true hc;refine wp_seq_k (fun K4 hK4 => ?_);refine wp_region_lit ?_;refine wl_yield (o := .mk ..) (.bool false) (yl_assign (by rfl) _ rfl _ rfl) ?_;simp only [Act.put, lz];refine wpList_nil ?_;refine hK4 _ _ ?_;clear hK4 K4;refine wp_ret ?_;go_ret
  exact ⟨by unfold rightF; rw [decide_eq_false (show ¬ l.length ≤ 4 by omega), Bool.false_and]; rfl, D⟩
 ·have h4 : ¬ 4 < cs.length := of_decide_eq_false hc;refine wp_skip ?_;refine hK2 _ _ ?_;clear hK2 K2;refine wp_seq_k (fun K4 hK4 => ?_);refine wp_seq_k (fun K5 hK5 => ?_);refine wp_region_lit ?_;refine wl_yield (o := .mk ..) (.slice q cs.length cp) (yl_move (by rfl) _ rfl _ rfl) ?_;simp only [Act.put, lz];refine wl_yield (o := .mk ..) (.int .i64 (cs.length : Nat)) (yl_lenF (by rfl) _ rfl _ _ _ rfl) ?_;simp only [Act.put, lz];refine wl_yield (o := .mk ..) (.int .i64 0) (yl_move (by rfl) _ rfl _ rfl) ?_;simp only [Act.put, lz];refine wpList_nil ?_;refine hK5 _ _ ?_;clear hK5 K5;refine wp_block ?_;go_loopw [10] (fun i wr => ∃ k : Nat, i = .int .i64 k ∧ k ≤ cs.length ∧ (∀ j, j < k → (smallBx (l.getD j zBox) && rightBx (l.getD j zBox)) = true) ∧ Below w.heap.size w wr) (fun i _ => cs.length - (intOf i).toNat)
  case atStart => exact ⟨0, rfl, by omega, fun j h => by omega, D⟩
  case round =>
   clear D;obtain ⟨k, rfl, hk, hF, D⟩ := hrel;by_cases hlt : k < cs.length
   ·have hkl : k < l.length := by rw [← ha.1]; exact hlt
    obtain ⟨g, off, rfl, HC⟩ := (hr.on D).at.2 k hlt;have hb := ha.2 k hkl;refine wp_seq_k (fun K6 hK6 => ?_);refine wp_region_lit ?_;refine wl_yield (o := .mk ..) (.bool true) (yl_lssI (by rfl) _ _ _ rfl (((k : Nat) : Int)) (((cs.length : Nat) : Int)) true rfl rfl (decide_eq_true (by omega))) ?_;simp only [Act.put, lz];refine wpList_nil ?_;refine hK6 _ _ ?_;clear hK6 K6;refine wp_seq_k (fun K7 hK7 => ?_);refine wp_cond_true rfl ?_;refine wp_skip ?_;refine hK7 _ _ ?_;clear hK7 K7;refine wp_seq_k (fun K8 hK8 => ?_);refine wp_block ?_;refine wp_seq_k (fun K9 hK9 => ?_);refine wp_region_lit ?_;refine wl_yield (o := .mk ..) (.pointer (some ⟨g, off + k * 16, none⟩)) (yl_fxAt (by rfl) _ _ rfl g (off) _ _ (k) rfl rfl (hlt)) ?_;simp only [Act.put, lz];refine wl_yield (o := .mk ..) (BxC.val (cs.getD k bc0)) (yl_bx (by rfl) _ rfl _ _ rfl _ (fun _ h => by subst h; exact HC)) ?_;simp only [Act.put, lz];refine wl_newB (o := .mk ..) (o2 := ⟨_, _, _, _, _, _⟩) (by rfl) rfl _ _ rfl rfl (fun _ => rfl) (fun _ => rfl) (fun v1 gb1 hggb1 IO4 kb => ?_);simp only [Act.put, lz];replace D := D.trans (kb.mono D.size);clear kb;refine wpList_nil ?_;refine hK9 _ _ ?_;clear hK9 K9;refine wp_seq_k (fun K10 hK10 => ?_);refine wp_region_lit ?_;refine wl_yield (o := .mk ..) (BxC.val (cs.getD k bc0)) (yl_bx (by rfl) _ rfl _ _ rfl _ (fun _ h => by subst h; exact BcIn.at IO4)) ?_;simp only [Act.put, lz];refine wl_call (o := .mk ..) (by rfl) 91 _ _ rfl #[BxC.val (cs.getD k bc0)] rfl (run_call Tryz.func91 (by kernel_rfl) (by kernel_rfl)) ?_;refine (boxSmall_any (cs.getD k bc0) (l.getD k zBox) _ (hb.on D)).mono ?_;rintro r v2 ⟨rfl, kb⟩;replace D := D.trans (kb.mono D.size);replace IO4 := IO4.on kb;clear kb;cases hq1 : smallBx (l.getD k zBox)
    ·refine ⟨.bool false, rfl, ?_⟩;simp only [Act.put, lz];refine wl_yield (o := .mk ..) (.bool true) (yl_not (by rfl) _ _ rfl false rfl) ?_;simp only [Act.put, lz];refine wl_yield (o := .mk ..) (.bool true) (yl_move (by rfl) _ rfl _ rfl) ?_;simp only [Act.put, lz];with_reducible refine wl_yield (o := .mk ..) undef (yl_undef (by kernel_rfl)) ?_
     simp only [Act.put, lz];with_reducible refine wl_yield (o := .mk ..) undef (yl_undef (by kernel_rfl)) ?_
     simp only [Act.put, lz];with_reducible refine wl_yield (o := .mk ..) undef (yl_undef (by kernel_rfl)) ?_
     simp only [Act.put, lz];refine wl_yield (o := .mk ..) (.bool true) (yl_pickT (by rfl) _ _ _ rfl rfl _ rfl) ?_;simp only [Act.put, lz];refine wpList_nil ?_;refine hK10 _ _ ?_;clear hK10 K10;refine wp_cond_true rfl ?_;refine wp_seq_k (fun K11 hK11 => ?_);refine wp_region_lit ?_;refine wl_yield (o := .mk ..) (.bool false) (yl_assign (by rfl) _ rfl _ rfl) ?_;simp only [Act.put, lz];refine wpList_nil ?_;refine hK11 _ _ ?_;clear hK11 K11;refine wp_ret ?_;go_ret
     exact ⟨by unfold rightF; rw [show l.all (fun b => smallBx b && rightBx b) = false from List.all_eq_false.2 ⟨_, getB_mem hkl, by rw [hq1]; simp⟩, Bool.false_and, Bool.and_false]; rfl, D⟩
    ·refine ⟨.bool true, rfl, ?_⟩;simp only [Act.put, lz];refine wl_yield (o := .mk ..) (.bool false) (yl_not (by rfl) _ _ rfl true rfl) ?_;simp only [Act.put, lz];refine wl_yield (o := .mk ..) (.bool false) (yl_move (by rfl) _ rfl _ rfl) ?_;simp only [Act.put, lz];refine wl_yield (o := .mk ..) (BxC.val (cs.getD k bc0)) (yl_bx (by rfl) _ rfl _ _ rfl _ (fun _ h => by subst h; exact BcIn.at IO4)) ?_;simp only [Act.put, lz];refine wl_call (o := .mk ..) (by rfl) 92 _ _ rfl #[BxC.val (cs.getD k bc0)] rfl (run_call Tryz.func92 (by kernel_rfl) (by kernel_rfl)) ?_;refine (boxRight_any (cs.getD k bc0) (l.getD k zBox) _ (hb.on D)).mono ?_;rintro r v3 ⟨rfl, kb⟩;replace D := D.trans (kb.mono D.size);replace IO4 := IO4.on kb;clear kb;cases hq2 : rightBx (l.getD k zBox)
     ·refine ⟨.bool false, rfl, ?_⟩;simp only [Act.put, lz];refine wl_yield (o := .mk ..) (.bool true) (yl_not (by rfl) _ _ rfl false rfl) ?_;simp only [Act.put, lz];refine wl_yield (o := .mk ..) (.bool true) (yl_pickF (by rfl) _ _ _ rfl rfl _ rfl) ?_;simp only [Act.put, lz];refine wpList_nil ?_;refine hK10 _ _ ?_;clear hK10 K10;refine wp_cond_true rfl ?_;refine wp_seq_k (fun K11 hK11 => ?_);refine wp_region_lit ?_;refine wl_yield (o := .mk ..) (.bool false) (yl_assign (by rfl) _ rfl _ rfl) ?_;simp only [Act.put, lz];refine wpList_nil ?_;refine hK11 _ _ ?_;clear hK11 K11;refine wp_ret ?_;go_ret
      exact ⟨by unfold rightF; rw [show l.all (fun b => smallBx b && rightBx b) = false from List.all_eq_false.2 ⟨_, getB_mem hkl, by rw [hq1, hq2]; simp⟩, Bool.false_and, Bool.and_false]; rfl, D⟩
     ·refine ⟨.bool true, rfl, ?_⟩;simp only [Act.put, lz];refine wl_yield (o := .mk ..) (.bool false) (yl_not (by rfl) _ _ rfl true rfl) ?_;simp only [Act.put, lz];refine wl_yield (o := .mk ..) (.bool false) (yl_pickF (by rfl) _ _ _ rfl rfl _ rfl) ?_;simp only [Act.put, lz];refine wpList_nil ?_;refine hK10 _ _ ?_;clear hK10 K10;refine wp_cond_false rfl ?_;refine wp_skip ?_;refine hK8 _ _ ?_;clear hK8 K8;refine wp_region_lit ?_;refine wl_yield (o := .mk ..) (.int .i64 (k + 1 : Nat)) (yl_addI (by rfl) _ _ _ rfl (((k : Nat) : Int)) (1) (((k + 1 : Nat) : Int)) rfl rfl (by omega) (by omega) (by omega)) ?_;simp only [Act.put, lz];refine wl_yield (o := .mk ..) (.int .i64 (k + 1 : Nat)) (yl_move (by rfl) _ rfl _ rfl) ?_;simp only [Act.put, lz];refine wpList_nil ?_;show _ ∧ _;go_roundw
      case rel => exact ⟨k + 1, rfl, by omega, fun j hj => by
       rcases Nat.lt_succ_iff_lt_or_eq.1 hj with h | rfl
       ·exact hF j h
       ·rw [hq1, hq2]; rfl, D⟩
      case measure => simp [intOf]; omega
   ·have hall : ∀ b ∈ l, (smallBx b && rightBx b) = true := fun b hb => by
     obtain ⟨i, hi, rfl⟩ := List.getElem_of_mem hb;have := hF i (by omega)
     rwa [List.getD_eq_getElem?_getD, List.getElem?_eq_getElem hi] at this
    have fl : FitL l := fun b hb => by
     have h := hall b hb;rw [Bool.and_eq_true] at h;obtain ⟨i, hi, rfl⟩ := List.getElem_of_mem hb;have hbx := ha.2 i hi;rw [List.getD_eq_getElem?_getD, List.getD_eq_getElem?_getD, List.getElem?_eq_getElem hi] at hbx;exact fit_small hbx h.1 h.2
    refine wp_seq_k (fun K6 hK6 => ?_);refine wp_region_lit ?_;refine wl_yield (o := .mk ..) (.bool false) (yl_lssI (by rfl) _ _ _ rfl (((k : Nat) : Int)) (((cs.length : Nat) : Int)) false rfl rfl (decide_eq_false (by omega))) ?_;simp only [Act.put, lz];refine wpList_nil ?_;refine hK6 _ _ ?_;clear hK6 K6;refine wp_seq_k (fun K7 hK7 => ?_);refine wp_cond_false rfl ?_;refine wp_exit ?_;refine hK4 _ _ ?_;clear hK7 K7 hK4 K4;refine wp_seq_k (fun K8 hK8 => ?_);refine wp_region_lit ?_;refine wl_yield (o := .mk ..) (.slice q cs.length cp) (yl_move (by rfl) _ rfl _ rfl) ?_;simp only [Act.put, lz];refine wl_call (o := .mk ..) (by rfl) 85 _ _ rfl #[.slice q cs.length cp] rfl (run_call Tryz.func85 (by kernel_rfl) (by kernel_rfl)) ?_;refine (tidied_any _ l _ (⟨cs, hr.on D, ha.on D⟩) fl (by omega)).mono ?_;rintro r v1 ⟨⟨u1, ks, rfl, hO, hA⟩, kb⟩;replace D := D.trans (kb.mono D.size);clear kb;obtain ⟨q1, c1, rfl⟩ := hO.sl;refine ⟨.slice q1 ks.length c1, rfl, ?_⟩;simp only [Act.put, lz];refine wl_yield (o := .mk ..) (.int .i64 (ks.length : Nat)) (yl_lenB (by rfl) _ rfl _ _ _ rfl) ?_;simp only [Act.put, lz];refine wl_yield (o := .mk ..) (.slice q cs.length cp) (yl_move (by rfl) _ rfl _ rfl) ?_;simp only [Act.put, lz];refine wl_yield (o := .mk ..) (.int .i64 (cs.length : Nat)) (yl_lenF (by rfl) _ rfl _ _ _ rfl) ?_;simp only [Act.put, lz];refine wl_yield (o := .mk ..) (.bool (decide (ks.length = cs.length))) (yl_eqlI (by rfl) _ _ _ rfl (((ks.length : Nat) : Int)) (((cs.length : Nat) : Int)) (decide (ks.length = cs.length)) rfl rfl (by rw [decide_eq_decide]; omega)) ?_;simp only [Act.put, lz];refine wl_yield (o := .mk ..) (.bool (decide (ks.length = cs.length))) (yl_assign (by rfl) _ rfl _ rfl) ?_;simp only [Act.put, lz];refine wpList_nil ?_;refine hK8 _ _ ?_;clear hK8 K8;refine wp_ret ?_;go_ret
    exact ⟨by unfold rightF; rw [decide_eq_true (show l.length ≤ 4 by omega), List.all_eq_true.2 hall, ← hA.1, ← ha.1]; rfl, D⟩
end Go.Proofs.YtlmdcaemjaldfaaGreat
namespace Go.Proofs.YtlmdcaemjaldfaaGreat
open Go.RowKit
attribute [local go_sem ↓] Go.wp_at_zero Go.wp_at_succ
theorem conv_one (W : World) (g : Nat) (c : UInt8) (h : W.cell? ⟨g, 0, none⟩ = some (.int .u8 (c.toNat : Int))) : (convert 94 9 (.slice (some ⟨g, 0, none⟩) 1 1)).run Tryz.prog W = .ok (.string ⟨#[c]⟩) W := by
 refine run_convert_bytes_back (P := Tryz.prog) W 94 9 5 ⟨g, 0, none⟩ 1 [c] Tryz.underlying94 Tryz.underlying5 Tryz.underlying9 (fun j hj => ?_)
 match j, hj with
 | 0, _ => simpa [Addr.add] using h
set_option maxHeartbeats 1000000 in
set_option maxRecDepth 100000 in
theorem digits_any (u : Nat) : ∀ (w : World), u < 18446744073709551616 →
  Calls Tryz.prog 184 #[.int .u64 (u : Int)] w fun e w' => e = .returned (.string ⟨(Lib.decDigits u).toArray⟩) ∧ Below w.heap.size w w' := by
 induction u using Nat.strongRecOn with
 | _ u ih =>
  intro w hu;by_cases h10 : u < 10
  ·have hd := Lib.decDigits_one h10;have h10' : (u : Int) < 10 := by omega
   have hr := one_dig u h10;generalize UInt8.ofNat (48 + u) = c at *;have hcv : ∀ (W : World) (g : Nat), W.cell? ⟨g, 0, none⟩ = some (.int .u8 (48 + (u : Int))) → (convert 94 9 (.slice (some ⟨g, 0, none⟩) 1 1)).run Tryz.prog W = .ok (.string ⟨#[c]⟩) W := fun W g h => conv_one W g c (by rw [h, hr])
   clear hr;have Hd := hide hd;clear ih hd;go_enter Tryz.func184, Tryz.ntmps184
   go_wp2
   go_ret
   exact ⟨ret_str (by rw [Hd.out]), (Below.refl _ _).alloc (Nat.le_refl _) _⟩
  ·have h10' : ¬ (u : Int) < 10 := by omega
   have hd : Lib.decDigits u = Lib.decDigits (u / 10) ++ [UInt8.ofNat (48 + u % 10)] := by rw [Lib.decDigits, dif_neg h10]
   have IH : ∀ W : World, Hid (Calls Tryz.prog 184 #[.int .u64 ((u : Int) / 10)] W fun e w' => e = .returned (.string ⟨(Lib.decDigits (u / 10)).toArray⟩) ∧ Below W.heap.size W w') := fun W => hide (by
    have h := ih (u / 10) (by omega) W (by omega);rw [show ((u / 10 : Nat) : Int) = (u : Int) / 10 by omega] at h;exact h)
   have hq : IntKind.u64.wrap ((u : Int) / 10) = (u : Int) / 10 := by rw [IntKind.wrap_u64]; omega
   have hr := last_dig u hu;have hn := dec_short (u / 10) (by omega);generalize UInt8.ofNat (48 + u % 10) = c at *;generalize Lib.decDigits (u / 10) = D at *;have hcv := fun (W : World) (g : Nat) => conv_one W g c
   have Hd := hide hd;clear ih hd;go_enter Tryz.func184, Tryz.ntmps184
   go_wp2
   go_region_with (go_at_call 184; refine (unhide (IH _)).mono ?_; rintro e w1 ⟨rfl, hb1⟩; obtain ⟨hc, hf⟩ := bcell hb1)
   all_goals
    go_wp2
    go_ret
    refine ⟨ret_str (by rw [Hd.out]; exact mk_append D [c]), ?_⟩
   all_goals first
    | exact (below_undrew hb1).alloc (below_undrew hb1).size _
    | exact below_undrew (below_alloc hb1)
set_option maxHeartbeats 1000000 in
set_option maxRecDepth 100000 in
theorem decimal_any (n : Int) (h0 : -9223372036854775808 ≤ n) (h1 : n ≤ 9223372036854775807) (w : World) :
  Calls Tryz.prog 180 #[.int .i64 n] w fun e w' => e = .returned (.string ⟨(Lib.itoa n).toArray⟩) ∧ Below w.heap.size w w' := by
 by_cases hn : n < 0
 ·obtain ⟨u, rfl⟩ : ∃ u : Nat, n = -(u : Int) := ⟨n.natAbs, by omega⟩
  have Hd := hide (Lib.itoa_neg u (by omega));have hl := dec_short u (by omega);have HD := fun (W : World) => hide (digits_any u W (by omega))
  generalize Lib.decDigits u = D at *;go_enter Tryz.func180, Tryz.ntmps180
  go_wp2_with fail
  rw [show -(-(u : Int) + 1) + 1 = (u : Int) by omega];refine (unhide (HD _)).mono ?_;rintro e w1 ⟨rfl, hb1⟩
  go_wp2
  go_ret
  exact ⟨ret_str (by rw [Hd.out]; exact mk_append [45] D), hb1⟩
 ·obtain ⟨u, rfl⟩ : ∃ u : Nat, n = (u : Int) := ⟨n.toNat, by omega⟩
  have Hd := hide (Lib.itoa_nonneg u);have HD := fun (W : World) => hide (digits_any u W (by omega))
  generalize Lib.decDigits u = D at *;go_enter Tryz.func180, Tryz.ntmps180
  go_wp2_with (go_at_call 184; refine (unhide (HD _)).mono ?_; rintro e w1 ⟨rfl, hb1⟩)
  go_ret
  exact ⟨ret_str (by rw [Hd.out]), hb1⟩
end Go.Proofs.YtlmdcaemjaldfaaGreat
namespace Go.Proofs.YtlmdcaemjaldfaaGreat
open Go.RowKit
set_option maxHeartbeats 2000000 in
set_option maxRecDepth 100000 in
theorem refFresh_any (v : Value) (l : List SetV) (s : ByteArray) (w : World) (hv : SetsAt w v l) (hs : s.size ≤ 1000) :
  Calls Tryz.prog 176 #[v, .string s] w fun r w' => (∃ t, r = .returned (.string t) ∧ FreshOut l s t) ∧ Below w.heap.size w w' := by
 have HV := hide hv;obtain ⟨hlen, a, cap, rfl, hel⟩ := hv;clear hel;obtain ⟨N, hN⟩ : ∃ N : Nat, N = l.length := ⟨_, rfl⟩
 rw [← hN] at hlen HV ⊢;have HN := hide hN;clear hN;go_enter Tryz.func176, Tryz.ntmps176
 go_wp2
 go_loopw [5] (fun i wr => ∃ K : Int, i = .int .i64 K ∧ 0 ≤ K ∧ K ≤ 100000 ∧ Hid (∀ j : Nat, (j : Int) < K → namedB l (tryS s j) = true) ∧ Hid (Below w.heap.size w wr)) (fun i _ => 100000 - (intOf i).toNat)
 case atStart => exact ⟨0, rfl, by omega, by omega, hide (fun j hj => by omega), hide (Below.refl _ _)⟩
 case round =>
  obtain ⟨K, rfl, k0, hk, HG, HB⟩ := hrel;by_cases hkl : K < 100000
  ·have D := hide (decimal_any K (by omega) (by omega) wr);have hd := itoa_short K.toNat (by omega);have HT : Hid (s ++ ⟨(Lib.itoa ((K.toNat : Nat) : Int)).toArray⟩ = tryS s K.toNat) := hide rfl;rw [Int.toNat_of_nonneg k0] at hd HT;generalize (⟨(Lib.itoa K).toArray⟩ : ByteArray) = d at *
   go_wp2_with fail
   refine (unhide D).mono ?_;rintro r w1 ⟨rfl, b1⟩;have B1 := hide (HB.out.trans (b1.mono HB.out.size));clear b1 D HB
   go_wp2
   rw [HT.out];clear HT;generalize hT : tryS s K.toNat = t at *;have HT := hide hT;clear hT;go_loopw [7, 8] (fun f i wr' => ∃ j : Nat, i = .int .i64 j ∧ j ≤ N ∧ wr' = w1 ∧ f = .bool ((l.take j).any fun S => inStrsB S.strs t)) (fun _ i _ => N - (intOf i).toNat)
   case atStart => exact ⟨0, rfl, by omega, rfl, rfl⟩
   case round =>
    obtain ⟨j, rfl, hj, rfl, rfl⟩ := hrel;by_cases hjt : j < N
    ·have hj' : j < l.length := by rw [← HN.out]; exact hjt
     obtain ⟨b, off, vi, vs, rfl, hb, c0, c1, c2, c3, hI, hS⟩ := (HV.out.on B1.out).at.2 j hj';have X := hide (inStrs_any vs _ t _ hS);have G0 : Hid (((l.take (j + 1)).any fun S => inStrsB S.strs t) = (((l.take j).any fun S => inStrsB S.strs t) || inStrsB (l.getD j noSet).strs t)) := hide (by
      rw [List.take_succ_eq_append_getElem hj', List.any_append, List.getD_eq_getElem?_getD, List.getElem?_eq_getElem hj']
      simp)
     generalize l.getD j noSet = S at *;generalize ((l.take j).any fun S => inStrsB S.strs t) = f at *;generalize inStrsB S.strs t = g at *;clear hI hS;cases f
     ·go_wp2_with fail
      refine (unhide X).mono ?_;rintro r w2 ⟨rfl, rfl⟩
      go_wp2
      exact ⟨⟨j + 1, by go_num, by omega, trivial, by rw [G0.out]; rfl⟩, by simp [intOf]; omega⟩
     ·go_wp2
      exact ⟨⟨j + 1, by go_num, by omega, trivial, by rw [G0.out]; rfl⟩, by simp [intOf]; omega⟩
    ·have hge : (N : Int) ≤ (j : Int) := by omega
     have G0 : ((l.take j).any fun S => inStrsB S.strs t) = namedB l t := by rw [List.take_of_length_le (by have := HN.out; omega)]; rfl
     rw [G0];clear G0;cases G1 : namedB l t
     ·have G2 := hide G1;clear G1
      go_wp2
      go_ret
      exact ⟨⟨_, rfl, Or.inl ⟨K.toNat, by omega, HT.out.symm, G2.out⟩⟩, B1.out⟩
     ·have G2 := hide G1;clear G1
      go_wp2
      refine ⟨⟨K + 1, rfl, by omega, by omega, hide (fun i hi => ?_), B1⟩, by simp [intOf]; omega⟩;by_cases hi' : (i : Int) < K
      ·exact HG.out i hi'
      ·rw [show i = K.toNat by omega, HT.out]; exact G2.out
  ·have hge : (100000 : Int) ≤ K := by omega
   have G2 : Hid (∀ j : Nat, j < 100000 → namedB l (tryS s j) = true) := hide (fun j hj => HG.out j (by omega))
   go_wp2
   go_ret
   exact ⟨⟨s, rfl, Or.inr ⟨rfl, G2.out⟩⟩, HB.out⟩
end Go.Proofs.YtlmdcaemjaldfaaGreat
namespace Go.Proofs.YtlmdcaemjaldfaaGreat
open Go.RowKit
theorem wpList_appV {ops : Array Oper} {rest : List Oper} {o : Oper} {a : Act} {Q : Exit → Act → World → Prop} (w : World) (hgd : o.guard = none) (s x : Operand)
  (ho : o.op = .call { callee := .builtin .append, args := #[s, x], argTypes := #[166, 166] })
  (B : Nat) (v : Value) (l : List Va) (hs : a.eval s = v) (hown : OwnV w B v l) (g m c : Nat) (cs : Array Value) (news : List Va) (hm : news.length = m)
  (hx : a.eval x = .slice (some ⟨g, 0, none⟩) m c) (hb : w.heap[g]? = some (.cells cs 42 (0, 0))) (hcs : cs.toList = vaCells news) (hlen : l.length + m ≤ 1000000) (hB : B ≤ w.heap.size)
  (h : ∀ v' w', OwnV w' B v' (l ++ news) → Below B w w' → wpList Tryz.prog ops Q rest (a.put o.dst v') w') : wpList Tryz.prog ops Q (o :: rest) a w := by
 obtain ⟨i0, hi, hz0, hz1, hz2⟩ := info_parts infoVal;refine wpList_append_own w hgd s x 166 ho B 42 i0 _ 3 32 Tryz.underlying166 hi hz0 hz1 hz2 rfl (by decide) v l.length (vaCells l) hs hown ⟨g, 0, none⟩ m c (vaCells news) hx (by rw [vaCells_len, hm]) ?_ (vaCells_one _) (by unfold maxLen; omega) (by omega) hB ?_
 ·rw [← hcs]; exact World.news_of_block hb
 ·intro v' w' h1 h2 _;refine h v' w' ?_ (OwnV.grownB hown hB h2);unfold OwnV;rw [List.length_append, hm, vaCells_append];exact h1
theorem wpList_appI {ops : Array Oper} {rest : List Oper} {o : Oper} {a : Act} {Q : Exit → Act → World → Prop} (w0 w : World) (hgd : o.guard = none) (s x : Operand)
  (ho : o.op = .call { callee := .builtin .append, args := #[s, x], argTypes := #[166, 166] })
  (R : Nat) (r : Rg) (v : Value) (l : List Va) (hs : a.eval s = v) (hin : InR w0 w R r v l) (g m c : Nat) (cs : Array Value) (news : List Va) (hm : news.length = m) (hm0 : 0 < m)
  (hx : a.eval x = .slice (some ⟨g, 0, none⟩) m c) (hb : w.heap[g]? = some (.cells cs 42 (0, 0))) (hcs : cs.toList = vaCells news) (hlen : l.length + m ≤ 1000000)
  (h : ∀ v' w', InR w0 w' R r v' (l ++ news) → wpList Tryz.prog ops Q rest (a.put o.dst v') w') : wpList Tryz.prog ops Q (o :: rest) a w := by
 obtain ⟨i0, hi, hz0, hz1, hz2⟩ := info_parts infoVal;refine wpList_append_lies w hgd s x 166 ho w0.heap.size 42 i0 _ 3 32 Tryz.underlying166 hi hz0 hz1 hz2 rfl (by decide) v l.length (vaCells l) hs hin.own ⟨g, 0, none⟩ m c (vaCells news) hx (by rw [vaCells_len, hm]) ?_ (vaCells_one _) hm0 (by unfold maxLen; omega) (by omega) hin.below.size w.heap.size rfl ?_
 ·rw [← hcs]; exact World.news_of_block hb
 ·intro g' cap' w' h1 h2 h3 _;refine h _ w' ⟨?_, ?_, ?_, hin.below.trans (OwnV.grownB hin.own hin.below.size h2)⟩
  ·unfold OwnV;rw [List.length_append, hm, vaCells_append];exact h1
  ·rcases h3 with h3 | h3
   ·show some g' ≠ some R;rw [← h3]; exact hin.ne
   ·intro e;have e' : g' = R := by simpa [Value.ownBlock] using e
    have := lt_heap hin.rb;omega
  ·exact (h2.block R (lt_heap hin.rb) (fun e => hin.ne e.symm)).trans hin.rb
set_option maxHeartbeats 4000000 in
set_option maxRecDepth 100000 in
theorem refPoints_any (v : Value) (l : List SetV) (w : World) (hv : SetsAt w v l) (hn : l.length ≤ 100) (hfew : ∀ S ∈ l, S.ints.length ≤ 400 ∧ S.strs.length ≤ 400) :
  Calls Tryz.prog 164 #[v] w fun r w' => (∃ u t, r = .returned u ∧ FreshOut l ⟨#[126]⟩ t ∧ OwnV w' w.heap.size u (ptsL l ++ [(2, 0, t)])) ∧ Below w.heap.size w w' := by
 have HV := hide hv;have HF := hide hfew;obtain ⟨hlen, a, cap, rfl, hel⟩ := hv;clear hel hfew;obtain ⟨N, hN⟩ : ∃ N : Nat, N = l.length := ⟨_, rfl⟩
 rw [← hN] at hlen hn HV ⊢;have HN := hide hN;clear hN;go_enter Tryz.func164, Tryz.ntmps164
 go_wp2
 go_loopw [3, 5] (fun o i wr => ∃ k : Nat, i = .int .i64 k ∧ k ≤ N ∧ Hid (OwnV wr w.heap.size o (pts0 ++ (l.take k).flatMap ptsS)) ∧ Hid (((l.take k).flatMap ptsS).length ≤ k * 2000) ∧ Hid (Below w.heap.size w wr)) (fun _ i _ => N - (intOf i).toNat)
 case atStart =>
  refine ⟨0, rfl, by omega, hide ?_, hide (by simp), hide ((Below.refl _ _).alloc (Nat.le_refl _) _)⟩;exact ownV_new w _ (pts0 ++ []) rfl (by simp [pts0])
 case round =>
  obtain ⟨k, rfl, hk, HO, HL, HB⟩ := hrel;by_cases hlt : k < N
  ·have hk' : k < l.length := by rw [← HN.out]; exact hlt
   obtain ⟨b, off, vi, vs, rfl, hb, c0, c1, c2, c3, hI, hS⟩ := (HV.out.on HB.out).at.2 k hk';have hfs := HF.out (l.getD k noSet) (by rw [List.getD_eq_getElem?_getD, List.getElem?_eq_getElem hk']; exact List.getElem_mem _);have NX := hide (take_flat ptsS l k noSet hk');have SK : Hid (l.getD k noSet = l.getD k noSet) := hide rfl;obtain ⟨S, hS0⟩ : ∃ S, S = l.getD k noSet := ⟨_, rfl⟩
   rw [← hS0] at NX hfs;have HSk := hide hS0;clear hS0 SK c0 c1 c2 c3 hI hS vi vs hb;obtain ⟨sa, si, sc, ss⟩ := S;dsimp only at *;obtain ⟨nI, hnI⟩ : ∃ n : Nat, n = si.length := ⟨_, rfl⟩
   obtain ⟨nS, hnS⟩ : ∃ n : Nat, n = ss.length := ⟨_, rfl⟩
   rw [← hnI, ← hnS] at hfs;have HnI := hide hnI;have HnS := hide hnS;clear hnI hnS;obtain ⟨PL0, hPL0⟩ : ∃ p, p = pts0 ++ (l.take k).flatMap ptsS := ⟨_, rfl⟩
   rw [← hPL0] at HO;have PL : Hid (PL0.length ≤ 4 + k * 2000) := hide (by have := HL.out; have h4 : pts0.length = 4 := rfl; rw [hPL0, List.length_append]; omega);have HPL := hide hPL0;clear hPL0
   go_wp2
   go_loopw [3, 6] (fun o i wr' => ∃ j : Nat, i = .int .i64 j ∧ j ≤ nI ∧ Hid (OwnV wr' w.heap.size o (PL0 ++ (si.take j).flatMap ptsR)) ∧ Hid (((si.take j).flatMap ptsR).length ≤ j * 4) ∧ Hid (Below w.heap.size w wr')) (fun _ i _ => nI - (intOf i).toNat)
   case atStart => exact ⟨0, rfl, by omega, hide (by simpa using HO.out), hide (by simp), HB⟩
   case round =>
    clear HO HB;obtain ⟨j, rfl, hj, HO', HL', HB'⟩ := hrel;obtain ⟨b', off', vi, vs, ha, hb, c0, c1, c2, c3, hI, hS⟩ := (HV.out.on HB'.out).at.2 k hk';rw [← HSk.out] at c0 c2 hI hS;dsimp only at c0 c2 hI hS
    simp at ha
    obtain ⟨rfl, rfl⟩ := ha;obtain ⟨ai, ci, rfl⟩ := hI.form;obtain ⟨aq, cq, rfl⟩ := hS.form;have nIle := hI.2.1;rw [← HnI.out] at c1 nIle;rw [← HnS.out] at c3;by_cases hjt : j < nI
    ·have hj' : j < si.length := by rw [← HnI.out]; exact hjt
     obtain ⟨bi, oi, ha2, hbi, y0, y1⟩ := hI.at.2 j hj';subst ha2;obtain ⟨q0, q1, q2, q3⟩ := hI.bound j hj';have NXI := hide (take_flat ptsR si j (0, 0) hj');generalize si.getD j (0, 0) = r at *;clear hI hS;have IN0 := hide (InR.start (r := r) HO'.out HB'.out);clear HO' HB';by_cases hlo : -9223372036854775808 < r.1
     ·by_cases hhi : r.2 < 9223372036854775807
      ·go_wp2_with (at_builtin; (first | (refine wpList_appI w _ rfl _ _ rfl wr.heap.size r _ _ rfl (IN0.out.alloc _) _ 2 2 _ [(1, r.1, noS), (1, r.2, noS)] rfl (by omega) rfl (two_at wr _ _) rfl (by have h1 := PL.out; have h2 := HL'.out; simp only [List.length_append, List.length_cons, List.length_nil]; omega) ?_; intro v1 w1 hw1; obtain ⟨zw10, zw11⟩ := hw1.cells; have IN1 := hide hw1; clear hw1 IN0) | (refine wpList_appI w _ rfl _ _ rfl wr.heap.size r _ _ rfl (IN1.out.alloc _) _ 1 1 _ [(1, r.1 - 1, noS)] rfl (by omega) rfl (heap_top _ _) rfl (by have h1 := PL.out; have h2 := HL'.out; simp only [List.length_append, List.length_cons, List.length_nil]; omega) ?_; intro v2 w2 hw2; obtain ⟨zw20, zw21⟩ := hw2.cells; have IN2 := hide hw2; clear hw2 IN1) | (refine wpList_appI w _ rfl _ _ rfl wr.heap.size r _ _ rfl (IN2.out.alloc _) _ 1 1 _ [(1, r.2 + 1, noS)] rfl (by omega) rfl (heap_top _ _) rfl (by have h1 := PL.out; have h2 := HL'.out; simp only [List.length_append, List.length_cons, List.length_nil]; omega) ?_; intro v3 w3 hw3; obtain ⟨zw30, zw31⟩ := hw3.cells; have IN3 := hide hw3; clear hw3 IN2)))
       refine ⟨⟨j + 1, by go_num, by omega, hide ?_, hide ?_, hide IN3.out.below⟩, by simp [intOf]; omega⟩
       ·rw [NXI.out, ← List.append_assoc];have e : ptsR r = [(1, r.1, noS), (1, r.2, noS)] ++ [(1, r.1 - 1, noS)] ++ [(1, r.2 + 1, noS)] := by unfold ptsR; rw [if_pos hlo, if_pos hhi]
        rw [e];have h := IN3.out.own;simp only [List.append_assoc] at h ⊢;exact h
       ·rw [NXI.out, List.length_append];have h1 := HL'.out;have h2 := ptsR_len r;omega
      ·go_wp2_with (at_builtin; (first | (refine wpList_appI w _ rfl _ _ rfl wr.heap.size r _ _ rfl (IN0.out.alloc _) _ 2 2 _ [(1, r.1, noS), (1, r.2, noS)] rfl (by omega) rfl (two_at wr _ _) rfl (by have h1 := PL.out; have h2 := HL'.out; simp only [List.length_append, List.length_cons, List.length_nil]; omega) ?_; intro v1 w1 hw1; obtain ⟨zw10, zw11⟩ := hw1.cells; have IN1 := hide hw1; clear hw1 IN0) | (refine wpList_appI w _ rfl _ _ rfl wr.heap.size r _ _ rfl (IN1.out.alloc _) _ 1 1 _ [(1, r.1 - 1, noS)] rfl (by omega) rfl (heap_top _ _) rfl (by have h1 := PL.out; have h2 := HL'.out; simp only [List.length_append, List.length_cons, List.length_nil]; omega) ?_; intro v2 w2 hw2; obtain ⟨zw20, zw21⟩ := hw2.cells; have IN2 := hide hw2; clear hw2 IN1)))
       refine ⟨⟨j + 1, by go_num, by omega, hide ?_, hide ?_, hide IN2.out.below⟩, by simp [intOf]; omega⟩
       ·rw [NXI.out, ← List.append_assoc];have e : ptsR r = [(1, r.1, noS), (1, r.2, noS)] ++ [(1, r.1 - 1, noS)] := by unfold ptsR; rw [if_pos hlo, if_neg hhi]; try simp
        rw [e];have h := IN2.out.own;simp only [List.append_assoc] at h ⊢;exact h
       ·rw [NXI.out, List.length_append];have h1 := HL'.out;have h2 := ptsR_len r;omega
     ·by_cases hhi : r.2 < 9223372036854775807
      ·go_wp2_with (at_builtin; (first | (refine wpList_appI w _ rfl _ _ rfl wr.heap.size r _ _ rfl (IN0.out.alloc _) _ 2 2 _ [(1, r.1, noS), (1, r.2, noS)] rfl (by omega) rfl (two_at wr _ _) rfl (by have h1 := PL.out; have h2 := HL'.out; simp only [List.length_append, List.length_cons, List.length_nil]; omega) ?_; intro v1 w1 hw1; obtain ⟨zw10, zw11⟩ := hw1.cells; have IN1 := hide hw1; clear hw1 IN0) | (refine wpList_appI w _ rfl _ _ rfl wr.heap.size r _ _ rfl (IN1.out.alloc _) _ 1 1 _ [(1, r.2 + 1, noS)] rfl (by omega) rfl (heap_top _ _) rfl (by have h1 := PL.out; have h2 := HL'.out; simp only [List.length_append, List.length_cons, List.length_nil]; omega) ?_; intro v3 w3 hw3; obtain ⟨zw30, zw31⟩ := hw3.cells; have IN3 := hide hw3; clear hw3 IN1)))
       refine ⟨⟨j + 1, by go_num, by omega, hide ?_, hide ?_, hide IN3.out.below⟩, by simp [intOf]; omega⟩
       ·rw [NXI.out, ← List.append_assoc];have e : ptsR r = [(1, r.1, noS), (1, r.2, noS)] ++ [(1, r.2 + 1, noS)] := by unfold ptsR; rw [if_neg hlo, if_pos hhi]; try simp
        rw [e];have h := IN3.out.own;simp only [List.append_assoc] at h ⊢;exact h
       ·rw [NXI.out, List.length_append];have h1 := HL'.out;have h2 := ptsR_len r;omega
      ·go_wp2_with (at_builtin; (first | (refine wpList_appI w _ rfl _ _ rfl wr.heap.size r _ _ rfl (IN0.out.alloc _) _ 2 2 _ [(1, r.1, noS), (1, r.2, noS)] rfl (by omega) rfl (two_at wr _ _) rfl (by have h1 := PL.out; have h2 := HL'.out; simp only [List.length_append, List.length_cons, List.length_nil]; omega) ?_; intro v1 w1 hw1; obtain ⟨zw10, zw11⟩ := hw1.cells; have IN1 := hide hw1; clear hw1 IN0)))
       refine ⟨⟨j + 1, by go_num, by omega, hide ?_, hide ?_, hide IN1.out.below⟩, by simp [intOf]; omega⟩
       ·rw [NXI.out, ← List.append_assoc];have e : ptsR r = [(1, r.1, noS), (1, r.2, noS)] := by unfold ptsR; rw [if_neg hlo, if_neg hhi]; try simp
        rw [e];have h := IN1.out.own;simp only [List.append_assoc] at h ⊢;exact h
       ·rw [NXI.out, List.length_append];have h1 := HL'.out;have h2 := ptsR_len r;omega
    ·have hge : (nI : Int) ≤ (j : Int) := by omega
     obtain ⟨PL1, hPL1⟩ : ∃ p, p = PL0 ++ si.flatMap ptsR := ⟨_, rfl⟩
     have OWN1 : Hid (OwnV wr w.heap.size u3 PL1) := hide (by
      have h := HO'.out;rw [List.take_of_length_le (by have := HnI.out; omega), ← hPL1] at h;exact h)
     have PLE : Hid (PL1.length ≤ 4 + k * 2000 + nI * 4) := hide (by
      have h1 := PL.out;have h2 := flat_len ptsR 4 si (fun x _ => ptsR_len x);rw [hPL1, List.length_append, HnI.out]; omega)
     have HPL1 := hide hPL1;clear hPL1 HO' HL' hI
     go_wp2
     go_loopw [3, 8] (fun o i wr' => ∃ j : Nat, i = .int .i64 j ∧ j ≤ nS ∧ Hid (OwnV wr' w.heap.size o (PL1 ++ (ss.take j).map fun s => (2, 0, s))) ∧ Hid (Below w.heap.size w wr')) (fun _ i _ => nS - (intOf i).toNat)
     case atStart => exact ⟨0, rfl, by omega, hide (by simpa using OWN1.out), HB'⟩
     case round =>
      clear OWN1 HB' c0 c1 c2 c3 hS hb;obtain ⟨i, rfl, hi, HO', HB'⟩ := hrel;obtain ⟨b', off', vi, vs, ha, hb, c0, c1, c2, c3, hI, hS⟩ := (HV.out.on HB'.out).at.2 k hk';rw [← HSk.out] at c0 c2 hI hS;dsimp only at c0 c2 hI hS
      simp at ha
      obtain ⟨rfl, rfl⟩ := ha;obtain ⟨ai, ci, rfl⟩ := hI.form;obtain ⟨aq, cq, rfl⟩ := hS.form;have nSle := hS.2.1;rw [← HnI.out] at c1;rw [← HnS.out] at c3 nSle;by_cases hit : i < nS
      ·have hi' : i < ss.length := by rw [← HnS.out]; exact hit
       obtain ⟨bi, oi, ha2, hbi, y0⟩ := hS.at.2 i hi';subst ha2;have NXS := hide (take_map (fun s => ((2, 0, s) : Va)) ss i ⟨#[]⟩ hi');generalize ss.getD i ⟨#[]⟩ = q at *;have LE : Hid ((PL1 ++ (ss.take i).map fun s => ((2, 0, s) : Va)).length + 1 ≤ 1000000) := hide (by
        have h1 := PLE.out;rw [List.length_append, List.length_map, List.length_take];omega)
       have szB := HB'.out.size;clear hI hS
       go_wp2_with (at_builtin; refine wpList_appV _ rfl _ _ rfl w.heap.size _ _ rfl (HO'.out.alloc _) _ 1 1 _ [(2, 0, q)] rfl rfl (heap_top _ _) rfl LE.out (by simp; omega) ?_; intro v1 w1 hO1 hb1; have O1 := hide hO1; have B1 := hide ((HB'.out.alloc szB _).trans hb1); clear hO1 hb1)
       exact ⟨⟨i + 1, by go_num, by omega, hide (by rw [NXS.out, ← List.append_assoc]; exact O1.out), B1⟩, by simp [intOf]; omega⟩
      ·have hge : (nS : Int) ≤ (i : Int) := by omega
       have OWN2 : Hid (OwnV wr w.heap.size u3 (pts0 ++ (l.take (k + 1)).flatMap ptsS)) := hide (by
        have h := HO'.out;rw [List.take_of_length_le (by have := HnS.out; omega), HPL1.out, HPL.out] at h;rw [NX.out];unfold ptsS;simp only [List.append_assoc] at h ⊢;exact h)
       have LE2 : Hid (((l.take (k + 1)).flatMap ptsS).length ≤ (k + 1) * 2000) := hide (by
        rw [NX.out, List.length_append];have h1 := HL.out;have h2 := flat_len ptsR 4 si (fun x _ => ptsR_len x);have h3 := HnI.out;have h4 := HnS.out;have h5 : (ptsS ⟨sa, si, sc, ss⟩).length = (si.flatMap ptsR).length + ss.length := by unfold ptsS; rw [List.length_append, List.length_map]
        rw [h5];omega)
       clear HO' hI hS
       go_wp2
       exact ⟨⟨k + 1, by go_num, by omega, OWN2, LE2, HB'⟩, by simp [intOf]; omega⟩
  ·have hge : (N : Int) ≤ (k : Int) := by omega
   have OWN3 : Hid (OwnV wr w.heap.size u3 (ptsL l)) := hide (by
    have h := HO.out;rw [List.take_of_length_le (by have := HN.out; omega)] at h;exact h)
   have LE3 : Hid ((ptsL l).length + 1 ≤ 1000000) := hide (by
    have h := HL.out;rw [List.take_of_length_le (by have := HN.out; omega)] at h;unfold ptsL;have h4 : pts0.length = 4 := rfl;rw [List.length_append]; omega)
   have X := hide (refFresh_any _ l ⟨#[126]⟩ wr (HV.out.on HB.out) (by decide));have szB := HB.out.size;clear HO HL
   go_wp2_with fail
   refine (unhide X).mono ?_;rintro r w1 ⟨⟨t, rfl, ht⟩, b1⟩;have HT := hide ht;have O1 := hide (OWN3.out.on b1);have B1 := hide (HB.out.trans (b1.mono szB));have szC := B1.out.size;clear ht b1 X OWN3
   go_wp2_with (at_builtin; refine wpList_appV _ rfl _ _ rfl w.heap.size _ _ rfl (O1.out.alloc _) _ 1 1 _ [(2, 0, t)] rfl rfl (heap_top _ _) rfl LE3.out (by simp; omega) ?_; intro v1 w2 hO2 hb2; have O2 := hide hO2; have B2 := hide ((B1.out.alloc szC _).trans hb2); clear hO2 hb2)
   go_ret
   exact ⟨⟨_, t, rfl, HT.out, O2.out⟩, B2.out⟩
end Go.Proofs.YtlmdcaemjaldfaaGreat
namespace Go.Proofs.YtlmdcaemjaldfaaGreat
open Go.RowKit
set_option maxHeartbeats 4000000 in
set_option maxRecDepth 100000 in
theorem refIn_any (v u : Value) (A B : SetV) (w : World) (hv : SetAt w v A) (hu : SetAt w u B) (fA : A.ints.length ≤ 400 ∧ A.strs.length ≤ 400) (fB : B.ints.length ≤ 400 ∧ B.strs.length ≤ 400) :
  Calls Tryz.prog 147 #[v, u] w fun r w' => (∃ t, FreshOut [A, B] ⟨#[126]⟩ t ∧ r = .returned (.bool (inPts A B (ptsL [A, B] ++ [(2, 0, t)])))) ∧ Below w.heap.size w w' := by
 have HV := hide hv;have HU := hide hu;obtain ⟨vi, vs, rfl, hI, hS⟩ := hv;obtain ⟨ui, us, rfl, hJ, hT⟩ := hu;have szA := hide hS.1;have szB := hide hT.1;clear hI hS hJ hT;obtain ⟨e1, e2, b2⟩ := two_bx w (.cells #[.bool A.absent, vi, .bool A.co, vs] 25) (.cells #[.bool B.absent, ui, .bool B.co, us] 25);have s2 : ((w.alloc (.cells #[.bool A.absent, vi, .bool A.co, vs] 25)).alloc (.cells #[.bool B.absent, ui, .bool B.co, us] 25)).heap.size = w.heap.size + 1 + 1 := by
  show ((w.heap.push _).push _).size = _; simp
 have HP := hide (refPoints_any _ [A, B] _ (SetAt.pair (HV.out.on b2) (HU.out.on b2) (w.heap.size + 1 + 1) s2.symm vi vs ui us rfl rfl) (by simp) (by
  intro S hS;rcases List.mem_cons.1 hS with rfl | hS
  ·exact fA
  ·rcases List.mem_cons.1 hS with rfl | hS
   ·exact fB
   ·simp at hS))
 have E1 := hide e1;have E2 := hide e2;have B2 := hide b2;have S2 := hide s2;clear e1 e2 b2 s2;go_enter Tryz.func147, Tryz.ntmps147
 go_wp2_with fail
 refine (unhide HP).mono ?_;rintro r w1 ⟨⟨x, t, rfl, ht, hO⟩, b3⟩;have b4 := below_alloc b3;have f1 := (b4.block _ (lt_heap E1.out)).trans E1.out;have f2 := (b4.block _ (lt_heap E2.out)).trans E2.out;have b5 := B2.out.trans (b4.mono (by have := B2.out.size; omega));have szP : ∀ p ∈ ptsL [A, B] ++ [(2, 0, t)], p.2.2.size ≤ maxLen := fun p hp => by
  rcases List.mem_append.1 hp with hp | hp
  ·refine ptsL_size [A, B] maxLen (fun S hS s hs => ?_) p hp;rcases List.mem_cons.1 hS with rfl | hS
   ·exact szA.out s hs
   ·rcases List.mem_cons.1 hS with rfl | hS
    ·exact szB.out s hs
    ·simp at hS
  ·simp at hp
   rw [hp];have := fresh_size ht;show t.size ≤ maxLen;unfold maxLen; omega
 have npos : 0 < (ptsL [A, B] ++ [(2, 0, t)]).length := by simp
 have nle : (ptsL [A, B] ++ [(2, 0, t)]).length ≤ 1000000 := by
  have := ptsL_len [A, B] (by
   intro S hS;rcases List.mem_cons.1 hS with rfl | hS
   ·exact fA
   ·rcases List.mem_cons.1 hS with rfl | hS
    ·exact fB
    ·simp at hS)
  rw [List.length_append]
  simp at this ⊢
  omega
 have HT := hide ht;generalize hPl : ptsL [A, B] ++ [(2, 0, t)] = pl at *;have HPl := hide hPl;obtain ⟨g, cap, rfl, hg1, hg2⟩ := hO.form npos;have O1 := hide hO;have F1 := hide f1;have F2 := hide f2;have B5 := hide b5;have SZP := hide szP;have V1 := hide (HV.out.on b5);have U1 := hide (HU.out.on b5);generalize hR : inPts A B pl = Rr;have HRr := hide hR;have HR0 : Hid ((pl.drop 0).all (fun p => !(hasP A p && !(hasP B p))) = Rr) := hide (by rw [List.drop_zero]; exact hR);obtain ⟨N, hN⟩ : ∃ N : Nat, N = pl.length := ⟨_, rfl⟩
 rw [← hN] at nle O1 ⊢;have HN := hide hN;clear ht hO b3 b4 f1 f2 b5 szP HV HU HP E1 E2 B2 S2 hR hN npos hPl
 go_wp2
 go_loopw [6] (fun i wr => ∃ k : Nat, i = .int .i64 k ∧ k ≤ N ∧ Hid ((pl.drop k).all (fun p => !(hasP A p && !(hasP B p))) = Rr) ∧ Hid (Below w1.heap.size w1 wr)) (fun i _ => N - (intOf i).toNat)
 case atStart => exact ⟨0, rfl, by omega, HR0, hide (Below.refl _ _)⟩
 case round =>
  obtain ⟨k, rfl, hk, HG, HB⟩ := hrel;by_cases hlt : k < N
  ·have hk' : k < pl.length := by rw [← HN.out]; exact hlt
   obtain ⟨y0, y1, y2⟩ := (O1.out.on HB.out).at k hk';have g1 := (HB.out.block _ (lt_heap F1.out)).trans F1.out;have g2 := (HB.out.block _ (lt_heap F2.out)).trans F2.out;have c0 := cell_heap g1 0;have c1 := cell_heap g1 1;have c2 := cell_heap g1 2;have c3 := cell_heap g1 3;have d0 := cell_heap g2 0;have d1 := cell_heap g2 1;have d2 := cell_heap g2 2;have d3 := cell_heap g2 3;simp only [List.getElem?_toArray, List.getElem?_cons_zero, List.getElem?_cons_succ] at c0 c1 c2 c3 d0 d1 d2 d3;have G0 := HG.out;rw [drop_getD pl k noVa hk'] at G0;have hz := SZP.out (pl.getD k noVa) (by rw [List.getD_eq_getElem?_getD, List.getElem?_eq_getElem hk']; exact List.getElem_mem _);generalize pl.getD k noVa = q at *;rw [List.all_cons] at G0;have X1 := fun (d : Nat) (os : Array Obj) => Calls.regrown_of (refHas_any _ A q.1 q.2.1 q.2.2 (Sort.grow (redrawn wr d) os) ((V1.out.on HB.out).on (below_regrown wr d os)) hz)
   have X2 := fun (d : Nat) (os : Array Obj) => Calls.regrown_of (refHas_any _ B q.1 q.2.1 q.2.2 (Sort.grow (redrawn wr d) os) ((U1.out.on HB.out).on (below_regrown wr d os)) hz)
   have p0 := cell_regrown c0;have p1 := cell_regrown c1;have p2 := cell_regrown c2;have p3 := cell_regrown c3;have p4 := cell_regrown d0;have p5 := cell_regrown d1;have p6 := cell_regrown d2;have p7 := cell_regrown d3;have p8 := cell_regrown y0;have p9 := cell_regrown y1;have pa := cell_regrown y2;have eA : hasB A q.1 q.2.1 q.2.2 = hasP A q := rfl;have eB : hasB B q.1 q.2.1 q.2.2 = hasP B q := rfl;rw [eA] at X1;rw [eB] at X2;clear g1 g2 HG eA eB;cases hA : hasP A q
   ·rw [hA] at X1 G0;have G1 : Hid ((pl.drop (k + 1)).all (fun p => !(hasP A p && !(hasP B p))) = Rr) := hide (by simpa using G0);have Y1 := fun d os => hide (X1 d os)
    clear X1 X2 G0 hA
    go_wp2
    clear c0 c1 c2 c3 d0 d1 d2 d3 y0 y1 y2;refine wp_region_quiet_below mixed (by kernel_rfl) ?_
    repeat (first | go_big_quiet_step (exact unhide (Y1 _ _)) | quiet_step (exact unhide (Y1 _ _)))
    refine wpQuiet_nil ?_;intro _ hw';obtain ⟨⟨dq, osq⟩, hw''⟩ := hw';subst hw''
    go_wp2
    exact ⟨⟨k + 1, by go_num, by omega, G1, hide (HB.out.trans ((below_regrown wr dq osq).mono HB.out.size))⟩, by simp [intOf]; omega⟩
   ·rw [hA] at X1 G0;cases hBq : hasP B q
    ·rw [hBq] at X2 G0;have G1 : Hid (Rr = false) := hide (by rw [← G0]; rfl);have Y1 := fun d os => hide (X1 d os)
     have Y2 := fun d os => hide (X2 d os)
     clear X1 X2 G0 hA hBq
     go_wp2
     clear c0 c1 c2 c3 d0 d1 d2 d3 y0 y1 y2;refine wp_region_quiet_below mixed (by kernel_rfl) ?_
     repeat (first | go_big_quiet_step ((first | with_reducible exact unhide (Y1 _ _) | with_reducible exact unhide (Y2 _ _))) | quiet_step ((first | with_reducible exact unhide (Y1 _ _) | with_reducible exact unhide (Y2 _ _))))
     refine wpQuiet_nil ?_;intro _ hw';obtain ⟨⟨dq, osq⟩, hw''⟩ := hw';subst hw''
     go_wp2
     go_ret
     exact ⟨⟨t, HT.out, ret_bool (by rw [HPl.out, HRr.out, G1.out])⟩, B5.out.trans ((HB.out.trans ((below_regrown wr dq osq).mono HB.out.size)).mono B5.out.size)⟩
    ·rw [hBq] at X2 G0;have G1 : Hid ((pl.drop (k + 1)).all (fun p => !(hasP A p && !(hasP B p))) = Rr) := hide (by simpa using G0);have Y1 := fun d os => hide (X1 d os)
     have Y2 := fun d os => hide (X2 d os)
     clear X1 X2 G0 hA hBq
     go_wp2
     clear c0 c1 c2 c3 d0 d1 d2 d3 y0 y1 y2;refine wp_region_quiet_below mixed (by kernel_rfl) ?_
     repeat (first | go_big_quiet_step ((first | with_reducible exact unhide (Y1 _ _) | with_reducible exact unhide (Y2 _ _))) | quiet_step ((first | with_reducible exact unhide (Y1 _ _) | with_reducible exact unhide (Y2 _ _))))
     refine wpQuiet_nil ?_;intro _ hw';obtain ⟨⟨dq, osq⟩, hw''⟩ := hw';subst hw''
     go_wp2
     exact ⟨⟨k + 1, by go_num, by omega, G1, hide (HB.out.trans ((below_regrown wr dq osq).mono HB.out.size))⟩, by simp [intOf]; omega⟩
  ·have hge : (N : Int) ≤ (k : Int) := by omega
   have G1 : Hid (Rr = true) := hide (by rw [← HG.out, List.drop_eq_nil_of_le (by have := HN.out; omega)]; rfl)
   go_wp2
   go_ret
   exact ⟨⟨t, HT.out, ret_bool (by rw [HPl.out, HRr.out, G1.out])⟩, B5.out.trans (HB.out.mono B5.out.size)⟩
end Go.Proofs.YtlmdcaemjaldfaaGreat
namespace Go.Proofs.YtlmdcaemjaldfaaGreat
open Go.RowKit
set_option maxHeartbeats 4000000 in
set_option maxRecDepth 100000 in
theorem refSame_any (v u : Value) (A B : SetV) (w : World) (hv : SetAt w v A) (hu : SetAt w u B) :
  Calls Tryz.prog 98 #[v, u] w fun r w' => r = .returned (.bool (sameB A B)) ∧ Below w.heap.size w w' := by
 obtain ⟨vi, vs, rfl, hI, hS⟩ := hv;obtain ⟨ui, us, rfl, hJ, hT⟩ := hu;obtain ⟨ai, ci, rfl⟩ := hI.form;obtain ⟨aq, cq, rfl⟩ := hS.form;obtain ⟨bi, di, rfl⟩ := hJ.form;obtain ⟨bq, dq, rfl⟩ := hT.form;obtain ⟨sa, si, sc, ss⟩ := A;obtain ⟨ta, ti, tc, ts⟩ := B;dsimp only at *;have HI := hide hI;have HS := hide hS;have HJ := hide hJ;have HT := hide hT;have nIle := hI.2.1;have nSle := hS.2.1;have nJle := hJ.2.1;have nTle := hT.2.1;clear hI hS hJ hT;unfold sameB;dsimp only;have lI := rngEqB_len si ti;have lS := strEqB_len ss ts;obtain ⟨nI, hnI⟩ : ∃ n : Nat, n = si.length := ⟨_, rfl⟩
 obtain ⟨nS, hnS⟩ : ∃ n : Nat, n = ss.length := ⟨_, rfl⟩
 obtain ⟨nJ, hnJ⟩ : ∃ n : Nat, n = ti.length := ⟨_, rfl⟩
 obtain ⟨nT, hnT⟩ : ∃ n : Nat, n = ts.length := ⟨_, rfl⟩
 rw [← hnI] at nIle lI ⊢;rw [← hnS] at nSle lS ⊢;rw [← hnJ] at nJle lI ⊢;rw [← hnT] at nTle lS ⊢;have HnI := hide hnI;have HnS := hide hnS;have HnJ := hide hnJ;have HnT := hide hnT;have LI := hide lI;have LS := hide lS;clear hnI hnS hnJ hnT lI lS;have ba := fun (o1 o2 : Obj) => hide (two_boxes w o1 o2)
 have hta : ta = sa ∨ ta = !sa := by cases ta <;> cases sa <;> simp
 rcases hta with rfl | rfl
 ·have htc : tc = sc ∨ tc = !sc := by cases tc <;> cases sc <;> simp
  rcases htc with rfl | rfl
  ·by_cases eI : nI = nJ
   ·by_cases eS : nS = nT
    ·subst eI;subst eS;have b1 : ((nI : Int) != (nI : Int)) = false := by simp
     have b2 : ((nS : Int) != (nS : Int)) = false := by simp
     go_enter Tryz.func98, Tryz.ntmps98
     go_wp2
     obtain ⟨e1, e2, e3⟩ := (ba (.cells #[.bool ta, .slice ai nI ci, .bool tc, .slice aq nS cq] 25) (.cells #[.bool ta, .slice bi nI di, .bool tc, .slice bq nS dq] 25)).out;have E1 := hide e1;have E2 := hide e2;have E3 := hide e3;clear e1 e2 e3 ba;go_loopw [5] (fun i wr => ∃ k : Nat, i = .int .i64 k ∧ k ≤ nI ∧ Hid (rngEqB (si.drop k) (ti.drop k) = rngEqB si ti) ∧ Hid (wr.heap[w.heap.size]? = some (.cells #[.bool ta, .slice ai nI ci, .bool tc, .slice aq nS cq] 25 (0, 0))) ∧ Hid (wr.heap[w.heap.size + 1]? = some (.cells #[.bool ta, .slice bi nI di, .bool tc, .slice bq nS dq] 25 (0, 0))) ∧ Hid (Below w.heap.size w wr)) (fun i _ => nI - (intOf i).toNat)
     case atStart => exact ⟨0, rfl, by omega, hide rfl, E1, E2, E3⟩
     case round =>
      clear E1 E2 E3;obtain ⟨k, rfl, hk, HG, H1, H2, HB⟩ := hrel;have c1 := cell_heap H1.out 1;have c3 := cell_heap H1.out 3;have d1 := cell_heap H2.out 1;have d3 := cell_heap H2.out 3;simp only [List.getElem?_toArray, List.getElem?_cons_zero, List.getElem?_cons_succ] at c1 c3 d1 d3;by_cases hlt : k < nI
      ·have hk1 : k < si.length := by rw [← HnI.out]; exact hlt
       have hk2 : k < ti.length := by rw [← HnJ.out]; exact hlt
       obtain ⟨b, off, rfl, hb, x0, x1⟩ := (HI.out.on HB.out).at.2 k hk1;obtain ⟨b', off', rfl, hb', y0, y1⟩ := (HJ.out.on HB.out).at.2 k hk2;have G0 := HG.out;rw [drop_getD si k (0, 0) hk1, drop_getD ti k (0, 0) hk2] at G0;generalize si.getD k (0, 0) = r at *;generalize ti.getD k (0, 0) = q at *;simp only [rngEqB] at G0;have G1 := hide G0;clear G0 HG;cases f1 : (r.1 == q.1)
       ·have G2 : Hid (rngEqB si ti = false) := hide (by rw [← G1.out, f1]; rfl);clear G1
        go_wp2
        go_quiet (fail)
        go_wp2
        go_ret
        exact ⟨ret_bool (by rw [G2.out]; simp), below_drewN HB.out _⟩
       ·cases f2 : (r.2 == q.2)
        ·have G2 : Hid (rngEqB si ti = false) := hide (by rw [← G1.out, f1, f2]; rfl);clear G1
         go_wp2
         go_quiet (fail)
         go_wp2
         go_ret
         exact ⟨ret_bool (by rw [G2.out]; simp), below_drewN HB.out _⟩
        ·have G2 : Hid (rngEqB (si.drop (k + 1)) (ti.drop (k + 1)) = rngEqB si ti) := hide (by rw [← G1.out, f1, f2]; rfl);clear G1
         go_wp2
         go_quiet (fail)
         go_wp2
         exact ⟨⟨k + 1, by go_num, by omega, G2, H1, H2, hide (below_drewN HB.out _)⟩, by simp [intOf]; omega⟩
      ·have hge : (nI : Int) ≤ (k : Int) := by omega
       have G2 : Hid (rngEqB si ti = true) := hide (by
        rw [← HG.out, List.drop_eq_nil_of_le (by have := HnI.out; omega), List.drop_eq_nil_of_le (by have := HnJ.out; omega)]; rfl)
       clear HG
       go_wp2
       go_loopw [6] (fun i wr => ∃ k : Nat, i = .int .i64 k ∧ k ≤ nS ∧ Hid (strEqB (ss.drop k) (ts.drop k) = strEqB ss ts) ∧ Hid (wr.heap[w.heap.size]? = some (.cells #[.bool ta, .slice ai nI ci, .bool tc, .slice aq nS cq] 25 (0, 0))) ∧ Hid (wr.heap[w.heap.size + 1]? = some (.cells #[.bool ta, .slice bi nI di, .bool tc, .slice bq nS dq] 25 (0, 0))) ∧ Hid (Below w.heap.size w wr)) (fun i _ => nS - (intOf i).toNat)
       case atStart => exact ⟨0, rfl, by omega, hide rfl, H1, H2, HB⟩
       case round =>
        clear H1 H2 HB c1 c3 d1 d3 hge hlt hk;obtain ⟨j, rfl, hj, HG, H1, H2, HB⟩ := hrel;have c1 := cell_heap H1.out 1;have c3 := cell_heap H1.out 3;have d1 := cell_heap H2.out 1;have d3 := cell_heap H2.out 3;simp only [List.getElem?_toArray, List.getElem?_cons_zero, List.getElem?_cons_succ] at c1 c3 d1 d3;by_cases hlt : j < nS
        ·have hj1 : j < ss.length := by rw [← HnS.out]; exact hlt
         have hj2 : j < ts.length := by rw [← HnT.out]; exact hlt
         obtain ⟨b, off, rfl, hb, x0⟩ := (HS.out.on HB.out).at.2 j hj1;obtain ⟨b', off', rfl, hb', y0⟩ := (HT.out.on HB.out).at.2 j hj2;have G0 := HG.out;rw [drop_getD ss j ⟨#[]⟩ hj1, drop_getD ts j ⟨#[]⟩ hj2] at G0;generalize ss.getD j ⟨#[]⟩ = r at *;generalize ts.getD j ⟨#[]⟩ = q at *;simp only [strEqB] at G0;have G1 := hide G0;clear G0 HG;cases f1 : (r.toList == q.toList)
         ·have G3 : Hid (strEqB ss ts = false) := hide (by rw [← G1.out, f1]; rfl);clear G1
          go_wp2
          go_quiet (fail)
          go_wp2
          go_ret
          exact ⟨ret_bool (by rw [G3.out]; simp), below_drewN HB.out _⟩
         ·have G3 : Hid (strEqB (ss.drop (j + 1)) (ts.drop (j + 1)) = strEqB ss ts) := hide (by rw [← G1.out, f1]; rfl);clear G1
          go_wp2
          go_quiet (fail)
          go_wp2
          exact ⟨⟨j + 1, by go_num, by omega, G3, H1, H2, hide (below_drewN HB.out _)⟩, by simp [intOf]; omega⟩
        ·have hge : (nS : Int) ≤ (j : Int) := by omega
         have G3 : Hid (strEqB ss ts = true) := hide (by
          rw [← HG.out, List.drop_eq_nil_of_le (by have := HnS.out; omega), List.drop_eq_nil_of_le (by have := HnT.out; omega)]; rfl)
         clear HG
         go_wp2
         go_ret
         exact ⟨ret_bool (by rw [G2.out, G3.out]; simp), HB.out⟩
    ·have b2 : ((nS : Int) != (nT : Int)) = true := by rw [bne_iff_ne]; omega
     have G := hide (LS.out eS);subst eI;go_enter Tryz.func98, Tryz.ntmps98
     go_wp2
     go_ret
     exact ⟨ret_bool (by rw [G.out]; simp), (ba _ _).out.2.2⟩
   ·have b1 : ((nI : Int) != (nJ : Int)) = true := by rw [bne_iff_ne]; omega
    have G := hide (LI.out eI);go_enter Tryz.func98, Tryz.ntmps98
    go_wp2
    go_ret
    exact ⟨ret_bool (by rw [G.out]; simp), (ba _ _).out.2.2⟩
  ·go_enter Tryz.func98, Tryz.ntmps98
   go_wp2
   go_ret
   exact ⟨ret_bool (by cases sc <;> simp), (ba _ _).out.2.2⟩
 ·go_enter Tryz.func98, Tryz.ntmps98
  go_wp2
  go_ret
  exact ⟨ret_bool (by cases sa <;> simp), (ba _ _).out.2.2⟩
end Go.Proofs.YtlmdcaemjaldfaaGreat
namespace Go.Proofs.YtlmdcaemjaldfaaGreat
open Go.RowKit
set_option maxHeartbeats 4000000 in
set_option maxRecDepth 100000 in
theorem refSmall_any (v : Value) (S : SetV) (w : World) (hv : SetAt w v S) :
  Calls Tryz.prog 108 #[v] w fun r w' => r = .returned (.bool (smallB S)) ∧ Below w.heap.size w w' := by
 obtain ⟨vi, vs, rfl, hI, hS⟩ := hv;obtain ⟨ai, ci, rfl⟩ := hI.form;obtain ⟨aq, cq, rfl⟩ := hS.form;have B0 := fun (o : Obj) => hide ((Below.refl _ w).alloc (Nat.le_refl _) o)
 have n1 := hI.2.1;have n2 := hS.2.1;unfold smallB;clear hI hS;generalize S.ints.length = a at *;generalize S.strs.length = b at *;by_cases h1 : a ≤ 6
 ·have e1 : decide ((a : Int) ≤ 6) = true := decide_eq_true (by omega);have e1' : decide (a ≤ 6) = true := decide_eq_true h1;go_enter Tryz.func108, Tryz.ntmps108
  go_wp2
  go_ret
  exact ⟨ret_bool (by rw [e1', Bool.true_and]; exact decide_eq_decide.2 (by omega)), (B0 _).out⟩
 ·have e1 : decide ((a : Int) ≤ 6) = false := decide_eq_false (by omega);have e1' : decide (a ≤ 6) = false := decide_eq_false h1;go_enter Tryz.func108, Tryz.ntmps108
  go_wp2
  go_ret
  exact ⟨ret_bool (by rw [e1', Bool.false_and]), (B0 _).out⟩
end Go.Proofs.YtlmdcaemjaldfaaGreat
namespace Go.Proofs.YtlmdcaemjaldfaaGreat
open Go.RowKit
theorem BcIn.scAt (k : Nat) (hk : k < 4) {w : World} {g : Nat} {c : BxC} (h : BcIn w g c) : w.cell? ⟨g, k * 4, none⟩ = some (.bool (c.sc k).a) ∧ w.cell? ⟨g, k * 4 + 1, none⟩ = some (.slice (c.sc k).p (c.sc k).n (c.sc k).c) ∧ w.cell? ⟨g, k * 4 + 2, none⟩ = some (.bool (c.sc k).d) ∧ w.cell? ⟨g, k * 4 + 3, none⟩ = some (.slice (c.sc k).q (c.sc k).m (c.sc k).e) := by
 match k, hk with
 | 0, _ => exact h.bx.at0
 | 1, _ => exact h.bx.at1
 | 2, _ => exact h.bx.at2
 | 3, _ => exact h.bx.at3
set_option maxHeartbeats 4000000 in
set_option maxRecDepth 100000 in
theorem refEmpty3_any (v : Value) (S : SetV) (w : World) (hv : SetAt w v S) : Calls Tryz.prog 146 #[v] w fun r w' => r = .returned (.bool (emptyB S)) ∧ Below w.heap.size w w' := by
 obtain ⟨vi, vs, rfl, hI, hS⟩ := hv;obtain ⟨ai, ci, rfl⟩ := hI.form;obtain ⟨as', cs', rfl⟩ := hS.form;obtain ⟨A, I, C, T⟩ := S;dsimp only at *;have b1 := hI.room.1;have hIl : I.length ≤ 9223372036854775807 := hI.2.1;have hSl : T.length ≤ 9223372036854775807 := hS.2.1;clear hI hS b1;have hE : emptyB ⟨A, I, C, T⟩ = (!A && (decide ((I.length : Int) = 0) && (!C && decide ((T.length : Int) = 0)))) := by
  rw [Bool.eq_iff_iff, empty_iff];cases A <;> cases C <;> cases I <;> cases T <;> simp [noSet] <;> omega
 rw [hE];clear hE;generalize (I.length : Nat) = m at *;generalize (T.length : Nat) = n at *;cases A
 ·by_cases h1 : (m : Int) = 0
  ·cases C
   ·by_cases h2 : (n : Int) = 0
    ·go_enter Tryz.func146, Tryz.ntmps146
     go_wp2
     go_ret
     refine ⟨?_, (Below.refl _ _).alloc (Nat.le_refl _) _⟩;have e0 : m = 0 := by omega
     have e1 : n = 0 := by omega
     first | rfl | simp [e0, e1]
    ·go_enter Tryz.func146, Tryz.ntmps146
     go_wp2
     go_ret
     refine ⟨?_, (Below.refl _ _).alloc (Nat.le_refl _) _⟩;have e0 : m = 0 := by omega
     have e1 : ¬ n = 0 := by omega
     first | rfl | simp [e0, e1]
   ·go_enter Tryz.func146, Tryz.ntmps146
    go_wp2
    go_ret
    refine ⟨?_, (Below.refl _ _).alloc (Nat.le_refl _) _⟩;have e0 : m = 0 := by omega
    first | rfl | simp [e0]
  ·go_enter Tryz.func146, Tryz.ntmps146
   go_wp2
   go_ret
   refine ⟨?_, (Below.refl _ _).alloc (Nat.le_refl _) _⟩;have e0 : ¬ m = 0 := by omega
   first | rfl | simp [e0]
 ·go_enter Tryz.func146, Tryz.ntmps146
  go_wp2
  go_ret
  refine ⟨?_, (Below.refl _ _).alloc (Nat.le_refl _) _⟩
  first | rfl | simp
structure MidB (b : BoxV) : Prop where
 good : GoodB b
 ni : ∀ i, i < 4 → (b.get i).ints.length ≤ 400
 ns : ∀ i, i < 4 → (b.get i).strs.length ≤ 400
theorem refInB_any (v u : Value) (A B : SetV) (w : World) (hv : SetAt w v A) (hu : SetAt w u B) (gA : Good A) (gB : Good B) (fA : A.ints.length ≤ 400 ∧ A.strs.length ≤ 400) (fB : B.ints.length ≤ 400 ∧ B.strs.length ≤ 400) :
  Calls Tryz.prog 147 #[v, u] w fun r w' => r = .returned (.bool (inB A B)) ∧ Below w.heap.size w w' := by
 refine (refIn_any v u A B w hv hu fA fB).mono ?_;rintro r w' ⟨⟨t, ht, rfl⟩, kb⟩;refine ⟨?_, kb⟩;have e : inPts A B (ptsL [A, B] ++ [(2, 0, t)]) = inB A B := by
  rw [Bool.eq_iff_iff, inPts_inSet A B t ht gA.r gB.r gA.i gB.i fA.2 fB.2, inB_iff gA gB (by omega)]
 rw [e]
theorem keep_next {l : List BoxV} {i k : Nat} {K K' : Bool} (hK : K = (!emptyBx (l.getD i zBox) && (List.range k).all fun j => !betterL l j i)) (h : K' = (K && !betterL l k i)) : K' = (!emptyBx (l.getD i zBox) && (List.range (k + 1)).all fun j => !betterL l j i) := by
 rw [h, hK, List.range_succ, List.all_append, List.all_cons, List.all_nil, Bool.and_true, Bool.and_assoc]
theorem better_same {l : List BoxV} {k i : Nat} (h : k = i) : betterL l k i = false := by rw [h]; exact better_irr l i
theorem better_is {l : List BoxV} {k i : Nat} {p q r : Bool} (h : ¬ k = i) (h1 : inBx (l.getD i zBox) (l.getD k zBox) = p) (h2 : decide (k < i) = q) (h3 : q = true ∨ p = false ∨ inBx (l.getD k zBox) (l.getD i zBox) = r) : betterL l k i = (p && (q || !r)) := by
 unfold betterL;rw [h1, h2, show (k != i) = true by simpa using h, Bool.true_and];rcases h3 with rfl | rfl | h3
 ·cases p <;> rfl
 ·rfl
 ·rw [h3]
def tidyK (l : List BoxV) (m : Nat) : List BoxV := ((List.range m).filter (keepL l)).map fun i => l.getD i zBox
theorem tidyK_yes {l : List BoxV} {m : Nat} (h : keepL l m = true) : tidyK l (m + 1) = tidyK l m ++ [l.getD m zBox] := by
 unfold tidyK;rw [List.range_succ, List.filter_append, List.map_append]
 simp [h]
theorem tidyK_no {l : List BoxV} {m : Nat} (h : keepL l m = false) : tidyK l (m + 1) = tidyK l m := by
 unfold tidyK;rw [List.range_succ, List.filter_append, List.map_append]
 simp [h]
theorem tidyK_len (l : List BoxV) (m : Nat) : (tidyK l m).length ≤ m := by
 unfold tidyK;rw [List.length_map];refine Nat.le_trans (List.length_filter_le _ _) ?_
 simp
end Go.Proofs.YtlmdcaemjaldfaaGreat
