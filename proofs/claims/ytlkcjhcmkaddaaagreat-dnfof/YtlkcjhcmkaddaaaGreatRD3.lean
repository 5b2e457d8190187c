import Derived.Test.YtlkcjhcmkaddaaaGreatRD2
import Derived.Test.YtlkcjhcmkaddaaaGreatRD1
import Derived.Lib.QuietBelow
import Derived.Deep.RegionHeld3
import Derived.Lib.AppendZeros
import Derived.Laws.AppendOwnNone
import Derived.Laws.MakeOwn
import Derived.Laws.AppendOwn
import Derived.Laws.OwnMore
import Derived.BigQuiet
set_option linter.unusedSimpArgs false
set_option linter.unusedVariables false
namespace Go.Proofs.YtlkcjhcmkaddaaaGreat
open Go.RowKit
set_option maxHeartbeats 4000000 in
set_option maxRecDepth 100000 in
theorem refSmall_any (v : Value) (S : SetV) (w : World) (hv : SetAt w v S) :
  Calls Tryz.prog 72 #[v] w fun r w' => r = .returned (.bool (smallB S)) ∧ Below w.heap.size w w' := by
 obtain ⟨vi, vs, rfl, hI, hS⟩ := hv;obtain ⟨ai, ci, rfl⟩ := hI.form;obtain ⟨aq, cq, rfl⟩ := hS.form;have B0 := fun (o : Obj) => hide ((Below.refl _ w).alloc (Nat.le_refl _) o)
 have n1 := hI.2.1;have n2 := hS.2.1;unfold smallB;clear hI hS;generalize S.ints.length = a at *;generalize S.strs.length = b at *;by_cases h1 : a ≤ 6
 ·have e1 : decide ((a : Int) ≤ 6) = true := decide_eq_true (by omega);have e1' : decide (a ≤ 6) = true := decide_eq_true h1;go_enter Tryz.func72, Tryz.ntmps72
  go_wp2
  go_ret
  exact ⟨ret_bool (by rw [e1', Bool.true_and]; exact decide_eq_decide.2 (by omega)), (B0 _).out⟩
 ·have e1 : decide ((a : Int) ≤ 6) = false := decide_eq_false (by omega);have e1' : decide (a ≤ 6) = false := decide_eq_false h1;go_enter Tryz.func72, Tryz.ntmps72
  go_wp2
  go_ret
  exact ⟨ret_bool (by rw [e1', Bool.false_and]), (B0 _).out⟩
theorem eachL_step (n : Nat) (l : List ExV) (k : Nat) (h : k < l.length) : (l.drop k).all (eachX n) = (eachX n (l.getD k noX) && (l.drop (k + 1)).all (eachX n)) := by
 rw [drop_getX l k h, List.all_cons]
structure XAt1 (w W : World) (c : EC) : Prop where
 x : W.heap[w.heap.size]? = some (Obj.cells #[.int .i64 c.k, .int .i64 c.t, .bool c.s.a, .slice c.s.p c.s.n c.s.c, .bool c.s.d, .slice c.s.q c.s.m c.s.e, .slice c.p c.n c.c] 28 (0, 0))
 b : Below w.heap.size w W
theorem XAt1.new (w : World) (c : EC) : XAt1 w (w.alloc (Obj.cells #[.int .i64 c.k, .int .i64 c.t, .bool c.s.a, .slice c.s.p c.s.n c.s.c, .bool c.s.d, .slice c.s.q c.s.m c.s.e, .slice c.p c.n c.c] 28)) c := ⟨heap_new w _, (Below.refl _ w).alloc (Nat.le_refl _) _⟩
theorem XAt1.on {w W W' : World} {c : EC} (h : XAt1 w W c) (hb : Below W.heap.size W W') : XAt1 w W' c := ⟨(hb.block _ (lt_heap h.x)).trans h.x, h.b.trans (hb.mono h.b.size)⟩
theorem nodeX_1 {x : ExV} (hk : x.kind = 1) : nodeX x = (decide (0 ≤ x.attr ∧ x.attr ≤ 3 ∧ x.sub.length = 0) && (rightSet x.set && smallB x.set)) := by unfold nodeX; rw [if_pos hk]
theorem nodeX_2 {x : ExV} (hk : x.kind = 2 ∨ x.kind = 3 ∨ x.kind = 4) : nodeX x = ((decide (x.attr = 0) && sameB x.set noSet) && decide (x.kind = 4 → x.sub.length = 1)) := by unfold nodeX; rw [if_neg (by omega), if_pos hk]
theorem nodeX_3 {x : ExV} (h1 : ¬ x.kind = 1) (hk : ¬ (x.kind = 2 ∨ x.kind = 3 ∨ x.kind = 4)) : nodeX x = false := by unfold nodeX; rw [if_neg h1, if_neg hk]
set_option maxHeartbeats 8000000 in
set_option maxRecDepth 100000 in
theorem refEach_atom (n : Nat) (x : ExV) (c : EC) (w : World) (hx : ExAt (n + 1) w c.val x) (hk : x.kind = 1) :
  Calls Tryz.prog 42 #[c.val] w fun r w' => r = .returned (.bool (eachX (n + 1) x)) ∧ Below w.heap.size w w' := by
 obtain ⟨c', hv, hc, _⟩ := id hx;obtain rfl := ec_inj hv;have ek : (c.k == 1) = true := by rw [hc.k, hk]; rfl
 have HC : Hid (eachX (n + 1) x = ((decide (0 ≤ x.attr ∧ x.attr ≤ 3 ∧ x.sub.length = 0) && (rightSet x.set && smallB x.set)) && x.sub.all (eachX n))) := hide (by rw [← nodeX_1 hk]; rfl);rw [← hc.t, ← hc.n] at HC;have HN := hide hc.n;have HT := hide (XAt1.new w c);have RS := fun (W : World) (hb : Below w.heap.size w W) => hide (refRightSet_any _ _ W (hc.s.on hb))
 have RM := fun (W : World) (hb : Below w.heap.size w W) => hide (refSmall_any _ _ W (hc.s.on hb))
 have big := hc.big;have room := hc.room;generalize eachX (n + 1) x = R at HC ⊢;clear hx hv hc hk;unfold SC.val at RS RM;unfold EC.val;by_cases a0 : c.t < 0
 ·have d0 : decide (c.t < 0) = true := decide_eq_true a0;have E : Hid (R = false) := hide (by rw [HC.out, decide_eq_false (by omega)]; rfl);clear HC RS RM;go_enter Tryz.func42, Tryz.ntmps42
  go_wp2
  go_ret
  exact ⟨ret_bool E.out.symm, HT.out.b⟩
 ·have d0 : decide (c.t < 0) = false := decide_eq_false a0;by_cases a3 : 3 < c.t
  ·have d3 : decide (3 < c.t) = true := decide_eq_true a3;have E : Hid (R = false) := hide (by rw [HC.out, decide_eq_false (by omega)]; rfl);clear HC RS RM;go_enter Tryz.func42, Tryz.ntmps42
   go_wp2
   go_ret
   exact ⟨ret_bool E.out.symm, HT.out.b⟩
  ·have d3 : decide (3 < c.t) = false := decide_eq_false a3;by_cases hl : c.n = 0
   ·have dl : decide ((0 : Int) < (c.n : Int)) = false := decide_eq_false (by omega);have E0 : Hid (R = (rightSet x.set && smallB x.set)) := hide (by
     have : x.sub = [] := List.length_eq_zero_iff.1 (by rw [← HN.out]; exact hl);rw [HC.out, decide_eq_true ⟨by omega, by omega, hl⟩, this]
     simp)
    rw [hl] at HT ⊢;have C6 : Hid (∀ W : World, W.cell? ⟨w.heap.size, 6, none⟩ = some (.slice c.p c.n c.c) → W.cell? ⟨w.heap.size, 6, none⟩ = some (.slice c.p 0 c.c)) := hide (fun W h => by rw [h, hl]);clear HC hl dl;generalize rightSet x.set = q1 at RS E0;generalize smallB x.set = q2 at RM E0;go_enter Tryz.func42, Tryz.ntmps42
    go_wp2_with fail
    refine (unhide (RS _ HT.out.b)).mono ?_;rintro r w1 ⟨rfl, b1⟩;have HT1 := hide (HT.out.on b1);obtain ⟨c0, c1, c2, c3, c4, c5, c6⟩ := ecCells HT1.out.x;replace c6 := C6.out _ c6;clear RS b1 HT;cases q1
    ·have E : Hid (R = false) := hide E0.out;clear E0 RM C6
     go_wp2
     go_ret
     exact ⟨ret_bool E.out.symm, HT1.out.b⟩
    ·have E1 : Hid (R = q2) := hide E0.out;clear E0
     go_wp2_with fail
     refine (unhide (RM _ HT1.out.b)).mono ?_;rintro r w2 ⟨rfl, b2⟩;have HT2 := hide (HT1.out.on b2);clear RM b2 HT1 c0 c1 c2 c3 c4 c5 c6;obtain ⟨c0, c1, c2, c3, c4, c5, c6⟩ := ecCells HT2.out.x;replace c6 := C6.out _ c6;cases q2
     ·go_wp2
      go_ret
      exact ⟨ret_bool E1.out.symm, HT2.out.b⟩
     ·go_wp2
      go_loopw [3] (fun i wr => i = .int .i64 0 ∧ wr = w2) (fun i _ => 0)
      case atStart => exact ⟨rfl, rfl⟩
      case round =>
       obtain ⟨rfl, rfl⟩ := hrel
       go_wp2
       go_ret
       exact ⟨ret_bool E1.out.symm, HT2.out.b⟩
   ·have dl : decide ((0 : Int) < (c.n : Int)) = true := decide_eq_true (by omega);have E : Hid (R = false) := hide (by rw [HC.out, decide_eq_false (by omega)]; rfl);clear HC RS RM;go_enter Tryz.func42, Tryz.ntmps42
    go_wp2
    go_ret
    exact ⟨ret_bool E.out.symm, HT.out.b⟩
set_option maxHeartbeats 8000000 in
set_option maxRecDepth 100000 in
theorem refEach_none (n : Nat) (x : ExV) (c : EC) (w : World) (hx : ExAt (n + 1) w c.val x) (h1 : ¬ x.kind = 1) (hk : ¬ (x.kind = 2 ∨ x.kind = 3 ∨ x.kind = 4)) :
  Calls Tryz.prog 42 #[c.val] w fun r w' => r = .returned (.bool (eachX (n + 1) x)) ∧ Below w.heap.size w w' := by
 obtain ⟨c', hv, hc, _⟩ := id hx;obtain rfl := ec_inj hv;have e1 : (c.k == 1) = false := by rw [hc.k]; simpa using h1
 have e2 : (c.k == 2) = false := by rw [hc.k]; simp; omega
 have e3 : (c.k == 3) = false := by rw [hc.k]; simp; omega
 have e4 : (c.k == 4) = false := by rw [hc.k]; simp; omega
 have E : Hid (eachX (n + 1) x = false) := hide (by show (nodeX x && _) = false; rw [nodeX_3 h1 hk]; rfl);have HT := hide (XAt1.new w c);generalize eachX (n + 1) x = R at E ⊢;clear hx hv hc h1 hk;unfold EC.val;go_enter Tryz.func42, Tryz.ntmps42
 go_wp2
 go_ret
 exact ⟨ret_bool E.out.symm, HT.out.b⟩
set_option maxHeartbeats 8000000 in
set_option maxRecDepth 100000 in
theorem refEach_many (n : Nat) (x : ExV) (c : EC) (w : World) (hx : ExAt (n + 1) w c.val x) (hk : x.kind = 2 ∨ x.kind = 3 ∨ x.kind = 4)
  (IH : ∀ (y : ExV) (d : EC) (W : World), ExAt n W d.val y → Calls Tryz.prog 42 #[d.val] W fun r W' => r = .returned (.bool (eachX n y)) ∧ Below W.heap.size W W') :
  Calls Tryz.prog 42 #[c.val] w fun r w' => r = .returned (.bool (eachX (n + 1) x)) ∧ Below w.heap.size w w' := by
 obtain ⟨c', hv, hc, _⟩ := id hx;obtain rfl := ec_inj hv;have HC : Hid (eachX (n + 1) x = (((decide (x.attr = 0) && sameB x.set noSet) && decide (x.kind = 4 → x.sub.length = 1)) && x.sub.all (eachX n))) := hide (by rw [← nodeX_2 hk]; rfl);rw [← hc.t, ← hc.n, ← hc.k] at HC;rw [← hc.k] at hk;have HX := hide hx;have HI := hide IH;have HN := hide hc.n;have HT := hide (XAt1.new w c);have RS := fun (W : World) (hb : Below w.heap.size w W) => hide (refSame_any _ _ _ _ W (hc.s.on hb) (noSet_at W))
 have big := hc.big;have room := hc.room;generalize eachX (n + 1) x = R at HC ⊢;have e1 : (c.k == 1) = false := by simp; omega
 have hks : ((c.k == 2) = true ∧ (c.k == 4) = false) ∨ ((c.k == 2) = false ∧ (c.k == 3) = true ∧ (c.k == 4) = false) ∨ ((c.k == 2) = false ∧ (c.k == 3) = false ∧ (c.k == 4) = true) := by
  rcases hk with h | h | h
  ·left; simp [h]
  ·right; left; simp [h]
  ·right; right; simp [h]
 clear hx hv hc IH;unfold SC.val at RS;unfold EC.val;by_cases a0 : c.t = 0
 ·have d0 : (c.t != 0) = false := by simp [a0]
  generalize sameB x.set noSet = q at RS HC;cases q
  ·have E : Hid (R = false) := hide (by rw [HC.out, Bool.and_false, Bool.false_and, Bool.false_and]);clear HC a0 hk HX HI;rcases hks with ⟨e2, e4⟩ | ⟨e2, e3, e4⟩ | ⟨e2, e3, e4⟩
   all_goals
    go_enter Tryz.func42, Tryz.ntmps42
    go_wp2_with fail
    refine (unhide (RS _ HT.out.b)).mono ?_;rintro r w1 ⟨rfl, b1⟩;have HT1 := hide (HT.out.on b1);clear RS b1 HT
    go_wp2
    go_ret
    exact ⟨ret_bool E.out.symm, HT1.out.b⟩
  ·by_cases hq : c.k = 4 → c.n = 1
   ·have E1 : Hid (R = x.sub.all (eachX n)) := hide (by rw [HC.out, decide_eq_true hq, decide_eq_true a0]; rfl);have dn : (c.k == 4) = true → ((c.n : Int) != 1) = false := fun h => by
     have := hq (by simpa using h)
     simp [this]
    have DN := hide dn;clear HC a0 hk hq dn;rcases hks with ⟨e2, e4⟩ | ⟨e2, e3, e4⟩ | ⟨e2, e3, e4⟩
    all_goals
     go_enter Tryz.func42, Tryz.ntmps42
     go_wp2_with fail
     refine (unhide (RS _ HT.out.b)).mono ?_;rintro r w1 ⟨rfl, b1⟩;have HT1 := hide (HT.out.on b1);obtain ⟨c0, c1, c2, c3, c4, c5, c6⟩ := ecCells HT1.out.x;clear RS b1 HT
     first
      | (have dn := DN.out e4; clear DN)
      | clear DN
     go_wp2
     go_loopw [3] (fun i wr => ∃ k : Nat, i = .int .i64 k ∧ k ≤ c.n ∧ Hid ((x.sub.drop k).all (eachX n) = x.sub.all (eachX n)) ∧ Hid (XAt1 w wr c)) (fun i _ => c.n - (intOf i).toNat)
     case atStart => exact ⟨0, rfl, by omega, hide rfl, HT1⟩
     case round =>
      clear c0 c1 c2 c3 c4 c5 c6 HT1;obtain ⟨k, rfl, hk, HF, HT⟩ := hrel;obtain ⟨c0, c1, c2, c3, c4, c5, c6⟩ := ecCells HT.out.x;by_cases hlt : k < c.n
      ·have hk' : k < x.sub.length := by rw [← HN.out]; exact hlt
       obtain ⟨g, off, d, hp, hg, hd, hy⟩ := (ExAt.on HT.out.b _ HX.out).part k hk';have F1 := HF.out;rw [eachL_step n _ _ hk'] at F1;have HF1 := hide F1;have X := hide (HI.out _ _ _ hy);generalize eachX n (x.sub.getD k noX) = q at *;clear F1 HF hy HI HX;obtain ⟨d0, d1, d2, d3, d4, d5, d6⟩ := hd;unfold EC.val at X;rw [hp] at c6;clear hp
       go_wp2_with fail
       refine (unhide X).mono ?_;rintro r w2 ⟨rfl, b2⟩;have HT2 := hide (HT.out.on b2);clear X b2 HT c0 c1 c2 c3 c4 c5 c6 d0 d1 d2 d3 d4 d5 d6;cases q
       ·have E : Hid (R = false) := hide (by rw [E1.out, ← HF1.out, Bool.false_and])
        go_wp2
        go_ret
        exact ⟨ret_bool E.out.symm, HT2.out.b⟩
       ·have HF2 := hide ((Bool.true_and _).symm.trans HF1.out)
        go_wp2
        exact ⟨⟨k + 1, by go_num, by omega, HF2, HT2⟩, by simp [intOf]; omega⟩
      ·have E : Hid (R = true) := hide (by
        rw [E1.out, ← HF.out, List.drop_eq_nil_of_le (by have := HN.out; omega)]; rfl)
       have hge : decide ((k : Int) < (c.n : Int)) = false := by simp; omega
       clear HX HI
       go_wp2
       go_ret
       exact ⟨ret_bool E.out.symm, HT.out.b⟩
   ·have hq' : c.k = 4 ∧ ¬ c.n = 1 := by
     rcases Decidable.em (c.k = 4) with h | h
     ·exact ⟨h, fun h1 => hq fun _ => h1⟩
     ·exact absurd (fun h1 => absurd h1 h) hq
    have E : Hid (R = false) := hide (by rw [HC.out, decide_eq_false hq, Bool.and_false, Bool.false_and]);have dn : ((c.n : Int) != 1) = true := by simp; omega
    have e2 : (c.k == 2) = false := by simp; omega
    have e3 : (c.k == 3) = false := by simp; omega
    have e4 : (c.k == 4) = true := by simp; omega
    clear HC a0 hk hq hq' hks HX HI;go_enter Tryz.func42, Tryz.ntmps42
    go_wp2_with fail
    refine (unhide (RS _ HT.out.b)).mono ?_;rintro r w1 ⟨rfl, b1⟩;have HT1 := hide (HT.out.on b1);obtain ⟨c0, c1, c2, c3, c4, c5, c6⟩ := ecCells HT1.out.x;clear RS b1 HT
    go_wp2
    go_ret
    exact ⟨ret_bool E.out.symm, HT1.out.b⟩
 ·have d0 : (c.t != 0) = true := by simp [a0]
  have E : Hid (R = false) := hide (by rw [HC.out, decide_eq_false a0, Bool.false_and, Bool.false_and, Bool.false_and]);clear HC a0 hk HX HI RS;rcases hks with ⟨e2, e4⟩ | ⟨e2, e3, e4⟩ | ⟨e2, e3, e4⟩
  all_goals
   go_enter Tryz.func42, Tryz.ntmps42
   go_wp2
   go_ret
   exact ⟨ret_bool E.out.symm, HT.out.b⟩
theorem refEach_any : ∀ (n : Nat) (x : ExV) (c : EC) (w : World), ExAt n w c.val x →
  Calls Tryz.prog 42 #[c.val] w fun r w' => r = .returned (.bool (eachX n x)) ∧ Below w.heap.size w w' := by
 intro n
 induction n with
 | zero => intro x c w h; cases h
 | succ n ih =>
  intro x c w hx;by_cases k1 : x.kind = 1
  ·exact refEach_atom n x c w hx k1
  ·by_cases k2 : x.kind = 2 ∨ x.kind = 3 ∨ x.kind = 4
   ·exact refEach_many n x c w hx k2 ih
   ·exact refEach_none n x c w hx k1 k2
set_option maxHeartbeats 8000000 in
set_option maxRecDepth 100000 in
theorem refRightX_any (n : Nat) (x : ExV) (c : EC) (w : World) (hx : ExAt n w c.val x) :
  Calls Tryz.prog 20 #[c.val] w fun r w' => r = .returned (.bool (rightX x)) ∧ Below w.heap.size w w' := by
 have HT := hide (XAt1.new w c);have X := hide (refFits_any n x c.val _ (ExAt.on HT.out.b _ hx));have Y := fun (W : World) (hb : Below w.heap.size w W) => hide (refEach_any n x c W (ExAt.on hb _ hx))
 have EQ : Hid (rightX x = (fitsX x && eachX n x)) := hide (by
  unfold rightX;cases hf : fitsX x
  ·rfl
  ·rw [eachX_any (ExAt.low n hx) (fits_low hf)])
 generalize rightX x = R at EQ ⊢;generalize eachX n x = q at EQ Y;generalize fitsX x = p at EQ X;clear hx;unfold EC.val at *;cases p
 ·have E : Hid (R = false) := hide EQ.out;go_enter Tryz.func20, Tryz.ntmps20
  go_wp2_with fail
  refine (unhide X).mono ?_;rintro r w1 ⟨rfl, b1⟩;have HT1 := hide (HT.out.on b1);clear X Y b1 HT
  go_wp2
  go_ret
  exact ⟨ret_bool E.out.symm, HT1.out.b⟩
 ·have E : Hid (R = q) := hide EQ.out;go_enter Tryz.func20, Tryz.ntmps20
  go_wp2_with fail
  refine (unhide X).mono ?_;rintro r w1 ⟨rfl, b1⟩;have HT1 := hide (HT.out.on b1);obtain ⟨c0, c1, c2, c3, c4, c5, c6⟩ := ecCells HT1.out.x;clear X b1 HT
  go_wp2_with fail
  refine (unhide (Y _ HT1.out.b)).mono ?_;rintro r w2 ⟨rfl, b2⟩;have HT2 := hide (HT1.out.on b2);clear Y b2 HT1 c0 c1 c2 c3 c4 c5 c6
  go_wp2
  go_ret
  exact ⟨ret_bool E.out.symm, HT2.out.b⟩
end Go.Proofs.YtlkcjhcmkaddaaaGreat
namespace Go.Proofs.YtlkcjhcmkaddaaaGreat
open Go.RowKit
theorem progRight_any (k : Nat) (c : EC) (x : ExV) (w : World) (hx : ExAt k w c.val x) (hk : k ≤ 2000) :
  Calls Tryz.prog 17 #[c.val] w fun r w' => r = .returned (.bool (rightX x)) ∧ Below w.heap.size w w' := by
 have := right_any k c x w hx hk;rw [right_plain (ExAt.low k hx)] at this;exact this
end Go.Proofs.YtlkcjhcmkaddaaaGreat
namespace Go.Proofs.YtlkcjhcmkaddaaaGreat
open Go.RowKit
def Xp (n : Nat) (w : World) (c : EC) (x : ExV) : Prop := ExAt n w c.val x
theorem Xp.on {n : Nat} {w w' : World} {c : EC} {x : ExV} (h : Xp n w c x) (hb : Below w.heap.size w w') : Xp n w' c x := ExAt.on hb n h
def vaZ : Va := (0, 0, ⟨#[]⟩)
def evZ : EvV := ⟨vaZ, vaZ, vaZ, vaZ⟩
theorem evZ_fit : evFit evZ := ⟨Nat.zero_le _, Nat.zero_le _, Nat.zero_le _, Nat.zero_le _⟩
section
variable {ops : Array Oper} {Q : Exit → Act → World → Prop} {S : World → Prop} {o : Oper} {a : Act}
set_option maxRecDepth 100000 in
theorem wl_boxEx {rest : List Oper} {w : World} (hw : Region.wanted o (yielded ops a.tmps) = true) (x : Operand) (ho : o.op = .box 28 x) {c : EC} (hx : a.eval x = c.val)
  (h : ∀ W g, ExIn W g c → Below w.heap.size w W → wpList Tryz.prog ops Q rest (a.put o.dst (.pointer (some ⟨g, 0, none⟩))) W) : wpList Tryz.prog ops Q (o :: rest) a w := by
 refine wl_run hw (.pointer (some ⟨w.heap.size, 0, none⟩)) (w.alloc (exObj c)) ?_ (h _ _ (heap_new _ _) ((Below.refl _ w).alloc (Nat.le_refl _) _));simp only [execOp, ho, hx, EC.val, exObj];go_simp
set_option maxRecDepth 100000 in
theorem wl_evBox {rest : List Oper} {w : World} (hw : Region.wanted o (yielded ops a.tmps) = true) (x : Operand) (ho : o.op = .box 46 x) {e : EvV} (hx : a.eval x = evVal e)
  (h : ∀ W g, EvIn W g e → Below w.heap.size w W → wpList Tryz.prog ops Q rest (a.put o.dst (.pointer (some ⟨g, 0, none⟩))) W) : wpList Tryz.prog ops Q (o :: rest) a w := by
 refine wl_run hw (.pointer (some ⟨w.heap.size, 0, none⟩)) (w.alloc (evObj e)) ?_ (h _ _ (heap_new _ _) ((Below.refl _ w).alloc (Nat.le_refl _) _));simp only [execOp, ho, hx, evVal, evObj];go_simp
set_option maxRecDepth 100000 in
theorem wl_newEx {o2 : Oper} {rest : List Oper} {w : World} (hw : Region.wanted o (yielded ops a.tmps) = true) (ho : o.op = .alloc 28) (x y : Operand) (ho2 : o2.op = .store 28 x y) (hg2 : o2.guard = none)
  (hx : ∀ v, (a.put o.dst v).eval x = v) {c : EC} (hy : ∀ v, (a.put o.dst v).eval y = c.val)
  (h : ∀ W g, ExIn W g c → Below w.heap.size w W → wpList Tryz.prog ops Q rest ((a.put o.dst (.pointer (some ⟨g, 0, none⟩))).put o2.dst undef) W) : wpList Tryz.prog ops Q (o :: o2 :: rest) a w := by
 refine wl_run hw (.pointer (some ⟨w.heap.size, 0, none⟩)) (w.alloc (exObj ec0)) ?_ ?_
 ·simp only [execOp, ho, exObj, ec0, SC.zero];go_simp
 ·have hz : ExIn (w.alloc (exObj ec0)) w.heap.size ec0 := heap_new _ _;have ht : (w.alloc (exObj ec0)).there w.heap.size 0 7 := fun j hj => by
   refine ⟨?_, soft_heap hz _⟩;rw [hz.ec.range j _ (List.getElem?_eq_getElem (show j < ec0.list.length from hj))]
   rfl
  refine wpList_store_mid hg2 28 x y ho2 w.heap.size 0 c.list.toArray (hx _) (hy _) ht (by rw [infoEx]; rfl) (all_oneCell_toArray c.list_one) ?_;refine h _ _ ?_ (Below.setCells w.heap.size (Nat.le_refl _) c.list 0 _ ((Below.refl _ w).alloc (Nat.le_refl _) _));exact heap_put (heap_put (heap_put (heap_put (heap_put (heap_put (heap_put hz 0 (.int .i64 c.k)) 1 (.int .i64 c.t)) 2 (.bool c.s.a)) 3 (.slice c.s.p c.s.n c.s.c)) 4 (.bool c.s.d)) 5 (.slice c.s.q c.s.m c.s.e)) 6 (.slice c.p c.n c.c)
theorem yl_zeroE (hw : Region.wanted o (yielded ops a.tmps) = true) (ho : o.op = .build 46 #[]) : YieldsIf Tryz.prog ops S o (evVal evZ) a :=
 Or.inl ⟨hw, fun w _ => by
  simp only [execOp, ho, evVal, evZ, vaZ];go_simp⟩
theorem yl_zeroX (hw : Region.wanted o (yielded ops a.tmps) = true) (ho : o.op = .build 28 #[]) : YieldsIf Tryz.prog ops S o ec0.val a :=
 Or.inl ⟨hw, fun w _ => by
  simp only [execOp, ho, EC.val, ec0, SC.zero];go_simp⟩
theorem yl_neqB (hw : Region.wanted o (yielded ops a.tmps) = true) (x y : Operand) (t : TypeId) (ho : o.op = .binOp .neq 4 x y t) (p q : Bool) (hx : a.eval x = .bool p) (hy : a.eval y = .bool q) : YieldsIf Tryz.prog ops S o (.bool (p != q)) a :=
 Or.inl ⟨hw, fun w hS => by
  simp only [execOp, ho, hx, hy];go_simp;cases p <;> cases q <;> rfl⟩
end
theorem count_sub {f : Nat} {x y : ExV} (h : countX (f + 1) x < 100) (hy : y ∈ x.sub) : countX f y < 100 := by
 have hg : ∀ (l : List ExV) (n : Int), l.foldl (fun n y => if n < 100 then n + countX f y else n) n < 100 → 0 ≤ n → y ∈ l → countX f y < 100 := by
  intro l
  induction l with
  | nil => intro n _ _ h; cases h
  | cons z l ih =>
   intro n h h0 hm;rw [List.foldl_cons] at h;have hz := countX_pos f z;have h2 := count_len f l _ h;by_cases hn : n < 100
   ·rw [if_pos hn] at h h2;rcases List.mem_cons.1 hm with rfl | hm
    ·omega
    ·exact ih _ h (by omega) hm
   ·rw [if_neg hn] at h h2;omega
 unfold countX at h;exact hg x.sub 1 (by omega) (by omega) hy
theorem cp_of : ∀ (k f n : Nat) (x : ExV), lowX k x → lowX n x → countX f x < 100 → setsX n x = true → cpX k x
 | 0, _, _, _, h, _, _, _ => by cases h
 | k + 1, 0, _, _, _, _, h, _ => by unfold countX at h; omega
 | k + 1, f + 1, 0, _, _, h, _, _ => by cases h
 | k + 1, f + 1, n + 1, x, hk, hn, hc, hs => by
  unfold setsX at hs;rw [Bool.and_eq_true, List.all_eq_true] at hs;have hf := hs.1;unfold fewB at hf;simp only [Bool.and_eq_true, decide_eq_true_eq] at hf;have hc' := hc;unfold countX at hc';have hl := count_len f x.sub 1 (by omega);exact ⟨by omega, by omega, by omega, fun y hy => cp_of k f n y (hk y hy) (hn y hy) (count_sub hc hy) (hs.2 y hy)⟩
theorem few_low {n : Nat} {x : ExV} (h : fewX n x = true) : lowX 19 x := by
 unfold fewX at h;simp only [Bool.and_eq_true, decide_eq_true_eq] at h;exact deep_low 21 19 x (by omega) (by omega) (by omega) (by omega)
theorem few_cp {n : Nat} {w : World} {c : EC} {x : ExV} (hx : Xp n w c x) (h : fewX n x = true) : Xp 19 w c x ∧ cpX 19 x := by
 have l19 := few_low h;unfold fewX at h;simp only [Bool.and_eq_true, decide_eq_true_eq] at h;exact ⟨ExAt.shrink n 19 hx l19, cp_of 19 21 n x l19 (ExAt.low n hx) h.1.1 h.2⟩
theorem cp_nil (n : Nat) : ∀ y ∈ ([] : List ExV), cpX n y := fun y h => by cases h
theorem c_refFew {n : Nat} {w : World} {c : EC} {x : ExV} (h : Xp n w c x) : Calls Tryz.prog 5 #[c.val] w fun r w' => r = .returned (.bool (fewX n x)) ∧ Below w.heap.size w w' := refFewX_any n x c.val w h
theorem c_and {n : Nat} {w : World} {v : Value} {l : List ExV} (h : RowsX n w v l) (hl : l.length ≤ 1000) (hcp : ∀ y ∈ l, cpX n y) : Calls Tryz.prog 9 #[v] w fun r w' => (∃ d : EC, r = .returned d.val ∧ Xp (n + 1) w' d (andX l)) ∧ Below w.heap.size w w' := progAnd_any n v l w h hl hcp
theorem c_and0 (w : World) : Calls Tryz.prog 9 #[.slice none 0 0] w fun r w' => (∃ d : EC, r = .returned d.val ∧ Xp 1 w' d (andX [])) ∧ Below w.heap.size w w' := progAnd_any 0 _ [] w (RowsX.nil 0 w) (by simp) (cp_nil 0)
theorem c_or0 (w : World) : Calls Tryz.prog 10 #[.slice none 0 0] w fun r w' => (∃ d : EC, r = .returned d.val ∧ Xp 1 w' d (orX [])) ∧ Below w.heap.size w w' := progOr_any 0 _ [] w (RowsX.nil 0 w) (by simp) (cp_nil 0)
theorem c_not {n : Nat} {w : World} {c : EC} {x : ExV} (h : Xp n w c x) (hcp : cpX n x) : Calls Tryz.prog 11 #[c.val] w fun r w' => (∃ d : EC, r = .returned d.val ∧ Xp (n + 1) w' d (notX x)) ∧ Below w.heap.size w w' := progNot_any n c x w h hcp
theorem c_right {n : Nat} {w : World} {c : EC} {x : ExV} (h : Xp n w c x) (hn : n ≤ 2000) : Calls Tryz.prog 17 #[c.val] w fun r w' => r = .returned (.bool (rightX x)) ∧ Below w.heap.size w w' := progRight_any n c x w h hn
theorem c_refRight {n : Nat} {w : World} {c : EC} {x : ExV} (h : Xp n w c x) : Calls Tryz.prog 20 #[c.val] w fun r w' => r = .returned (.bool (rightX x)) ∧ Below w.heap.size w w' := refRightX_any n x c w h
end Go.Proofs.YtlkcjhcmkaddaaaGreat
namespace Go.Proofs.YtlkcjhcmkaddaaaGreat
open Go.RowKit
def bs (l : List UInt8) : ByteArray := ⟨l.toArray⟩
theorem grown_put (w : World) (b i : Nat) (v : Value) : w.grownBy (w.setCell ⟨b, i, none⟩ v) (some b) := grown_setCell (grown_refl _ _) i v
theorem below_none {w w' : World} (h : w.grownBy w' none) : Below w.heap.size w w' := ⟨h.os, h.tape, h.output, h.size, fun i hi => h.block i hi (by simp)⟩
end Go.Proofs.YtlkcjhcmkaddaaaGreat
namespace Go.Proofs.YtlkcjhcmkaddaaaGreat
open Go.RowKit
theorem heap_on {w w' : World} {g : Nat} {x : Obj} (h : w.heap[g]? = some x) (hb : Below w.heap.size w w') : w'.heap[g]? = some x := (hb.block _ (lt_heap h)).trans h
theorem heap_gr {w w' : World} {g b : Nat} {x : Obj} (h : w.heap[g]? = some x) (hg : w.grownBy w' (some b)) (hn : g ≠ b) : w'.heap[g]? = some x := (hg.block _ (lt_heap h) (by intro e; injection e with e; exact hn e)).trans h
theorem gr_new {a w w' : World} {r : Option Nat} {g : Nat} (h : a.grownBy w r) (hg : a.heap.size ≤ g) (k : w.grownBy w' (some g)) : a.grownBy w' r :=
 ⟨k.os.trans h.os, k.tape.trans h.tape, k.output.trans h.output, Nat.le_trans h.size k.size, fun i hi hr => (k.block i (Nat.lt_of_lt_of_le hi h.size) (by intro e; injection e with e; omega)).trans (h.block i hi hr)⟩
theorem put_cells (g : Nat) (t : TypeId) : ∀ (ds cs pre : List Value) (w : World), w.heap[g]? = some (.cells (pre ++ cs).toArray t (0, 0)) → cs.length = ds.length → (w.setCells g pre.length ds).heap[g]? = some (.cells (pre ++ ds).toArray t (0, 0)) ∧ w.grownBy (w.setCells g pre.length ds) (some g)
 | [], [], pre, w, h, _ => ⟨h, grown_refl _ _⟩
 | d :: ds, c :: cs, pre, w, h, hl => by
  have h1 := heap_setCell (i := pre.length) d h;have e : ((pre ++ c :: cs).toArray).setIfInBounds pre.length d = ((pre ++ [d]) ++ cs).toArray := by simp
  rw [e] at h1;obtain ⟨h2, h3⟩ := put_cells g t ds cs (pre ++ [d]) _ h1 (by simpa using hl);rw [List.length_append, List.length_cons, List.length_nil] at h2 h3;rw [List.append_assoc, List.cons_append, List.nil_append] at h2;exact ⟨h2, grown_trans (grown_put _ _ _ _) h3⟩
theorem put_wholeU {w : World} {g : Nat} {t : TypeId} {cs : Array Value} (ds : List Value) (h : w.heap[g]? = some (.cells cs t (0, 0))) (hl : cs.size = ds.length) : (w.setCells g 0 ds).heap[g]? = some (.cells ds.toArray t (0, 0)) ∧ w.grownBy (w.setCells g 0 ds) (some g) :=
 put_cells g t ds cs.toList [] w (by simpa using h) (by simpa using hl)
section
variable {ops : Array Oper} {Q : Exit → Act → World → Prop} {S : World → Prop} {o : Oper} {a : Act}
theorem wt_call {rest : List Oper} {w : World} (hw : Region.wanted o (yielded ops a.tmps) = true)
  (f : Nat) (xs : Array Operand) (ts : Array TypeId) (ho : o.op = .call { callee := .value (.func f), args := xs, argTypes := ts }) (vs : Array Value) (hv : xs.toList.map a.eval = vs.toList)
  (hrun : ∀ (W : World) (A : Array Value), (callFunc f A).run Tryz.prog W = .ok (.enter f A) W)
  (hc : Calls Tryz.prog f vs w fun r w' => (∃ v, r = .returned v ∧ wpList Tryz.prog ops Q rest (a.put o.dst v) w') ∨ (∃ ch, r = .panicked ch ∧ Q (.panic ch) a w')) : wpList Tryz.prog ops Q (o :: rest) a w := by
 unfold wpList;rw [if_pos hw]
 left
 have hv : xs.map a.eval = vs := by
  rw [← Array.toList_inj, Array.toList_map];exact hv
 have he : a.eval (.func f) = .func (.func f) #[] #[] := rfl;have hx : (execOp a.eval o).run Tryz.prog w = .ok (.enter f vs) w := by
  have := hrun w vs
  simp [execOp, ho, resolve, he, hv, Deferred.ofValue, invoke, this]
 unfold Oper.wp;rw [hx, Oper.upon_enter];refine hc.mono ?_;rintro e w' (⟨v, rfl, h1⟩ | ⟨ch, rfl, h1⟩)
 ·exact h1
 ·exact h1
theorem yt_addI (hw : Region.wanted o (yielded ops a.tmps) = true) (x y : Operand) (t : TypeId) (ho : o.op = .binOp .add 3 x y t) (p q r : Int) (hx : a.eval x = .int .i64 p) (hy : a.eval y = .int .i64 q) (hr : p + q = r) (h0 : -9223372036854775808 ≤ r) (h1 : r ≤ 9223372036854775807) : YieldsIf Tryz.prog ops S o (.int .i64 r) a :=
 Or.inl ⟨hw, fun w hS => by
  subst hr;simp only [execOp, ho, hx, hy];go_simp;rw [IntKind.wrap_i64]; omega⟩
theorem yt_subI (hw : Region.wanted o (yielded ops a.tmps) = true) (x y : Operand) (t : TypeId) (ho : o.op = .binOp .sub 3 x y t) (p q r : Int) (hx : a.eval x = .int .i64 p) (hy : a.eval y = .int .i64 q) (hr : p - q = r) (h0 : -9223372036854775808 ≤ r) (h1 : r ≤ 9223372036854775807) : YieldsIf Tryz.prog ops S o (.int .i64 r) a :=
 Or.inl ⟨hw, fun w hS => by
  subst hr;simp only [execOp, ho, hx, hy];go_simp;rw [IntKind.wrap_i64]; omega⟩
theorem yt_eqlI (hw : Region.wanted o (yielded ops a.tmps) = true) (x y : Operand) (t : TypeId) (ho : o.op = .binOp .eql 3 x y t) (p q : Int) (r : Bool) (hx : a.eval x = .int .i64 p) (hy : a.eval y = .int .i64 q) (hr : decide (p = q) = r) : YieldsIf Tryz.prog ops S o (.bool r) a :=
 Or.inl ⟨hw, fun w hS => by
  subst hr;simp only [execOp, ho, hx, hy];go_simp
  all_goals (by_cases h : p = q <;> simp [h] <;> (try omega))⟩
theorem yt_lssI (hw : Region.wanted o (yielded ops a.tmps) = true) (x y : Operand) (t : TypeId) (ho : o.op = .binOp .lss 3 x y t) (p q : Int) (r : Bool) (hx : a.eval x = .int .i64 p) (hy : a.eval y = .int .i64 q) (hr : decide (p < q) = r) : YieldsIf Tryz.prog ops S o (.bool r) a :=
 Or.inl ⟨hw, fun w hS => by
  subst hr;simp only [execOp, ho, hx, hy];go_simp
  all_goals (by_cases h : p < q <;> simp [h] <;> (try omega))⟩
theorem yt_gtrI (hw : Region.wanted o (yielded ops a.tmps) = true) (x y : Operand) (t : TypeId) (ho : o.op = .binOp .gtr 3 x y t) (p q : Int) (r : Bool) (hx : a.eval x = .int .i64 p) (hy : a.eval y = .int .i64 q) (hr : decide (q < p) = r) : YieldsIf Tryz.prog ops S o (.bool r) a :=
 Or.inl ⟨hw, fun w hS => by
  subst hr;simp only [execOp, ho, hx, hy];go_simp
  all_goals (by_cases h : q < p <;> simp [h] <;> (try omega))⟩
theorem yt_leqI (hw : Region.wanted o (yielded ops a.tmps) = true) (x y : Operand) (t : TypeId) (ho : o.op = .binOp .leq 3 x y t) (p q : Int) (r : Bool) (hx : a.eval x = .int .i64 p) (hy : a.eval y = .int .i64 q) (hr : decide (p ≤ q) = r) : YieldsIf Tryz.prog ops S o (.bool r) a :=
 Or.inl ⟨hw, fun w hS => by
  subst hr;simp only [execOp, ho, hx, hy];go_simp
  all_goals (by_cases h : p ≤ q <;> simp [h] <;> (try omega))⟩
set_option maxRecDepth 100000 in
theorem yt_fSt0 (hw : Region.wanted o (yielded ops a.tmps) = true) (x : Operand) (ho : o.op = .fieldAddr 25 x 0) (g k : Nat) (hx : a.eval x = .pointer (some ⟨g, k, none⟩)) : YieldsIf Tryz.prog ops S o (.pointer (some ⟨g, k + 0, none⟩)) a :=
 Or.inl ⟨hw, fun w hS => by
  simp only [execOp, ho, hx];go_simp⟩
set_option maxRecDepth 100000 in
theorem yt_fSt1 (hw : Region.wanted o (yielded ops a.tmps) = true) (x : Operand) (ho : o.op = .fieldAddr 25 x 1) (g k : Nat) (hx : a.eval x = .pointer (some ⟨g, k, none⟩)) : YieldsIf Tryz.prog ops S o (.pointer (some ⟨g, k + 1, none⟩)) a :=
 Or.inl ⟨hw, fun w hS => by
  simp only [execOp, ho, hx];go_simp⟩
set_option maxRecDepth 100000 in
theorem yt_fSt2 (hw : Region.wanted o (yielded ops a.tmps) = true) (x : Operand) (ho : o.op = .fieldAddr 25 x 2) (g k : Nat) (hx : a.eval x = .pointer (some ⟨g, k, none⟩)) : YieldsIf Tryz.prog ops S o (.pointer (some ⟨g, k + 2, none⟩)) a :=
 Or.inl ⟨hw, fun w hS => by
  simp only [execOp, ho, hx];go_simp⟩
set_option maxRecDepth 100000 in
theorem yt_fSt3 (hw : Region.wanted o (yielded ops a.tmps) = true) (x : Operand) (ho : o.op = .fieldAddr 25 x 3) (g k : Nat) (hx : a.eval x = .pointer (some ⟨g, k, none⟩)) : YieldsIf Tryz.prog ops S o (.pointer (some ⟨g, k + 3, none⟩)) a :=
 Or.inl ⟨hw, fun w hS => by
  simp only [execOp, ho, hx];go_simp⟩
set_option maxRecDepth 100000 in
theorem yt_fRg0 (hw : Region.wanted o (yielded ops a.tmps) = true) (x : Operand) (ho : o.op = .fieldAddr 58 x 0) (g k : Nat) (hx : a.eval x = .pointer (some ⟨g, k, none⟩)) : YieldsIf Tryz.prog ops S o (.pointer (some ⟨g, k + 0, none⟩)) a :=
 Or.inl ⟨hw, fun w hS => by
  simp only [execOp, ho, hx];go_simp⟩
set_option maxRecDepth 100000 in
theorem yt_fRg1 (hw : Region.wanted o (yielded ops a.tmps) = true) (x : Operand) (ho : o.op = .fieldAddr 58 x 1) (g k : Nat) (hx : a.eval x = .pointer (some ⟨g, k, none⟩)) : YieldsIf Tryz.prog ops S o (.pointer (some ⟨g, k + 1, none⟩)) a :=
 Or.inl ⟨hw, fun w hS => by
  simp only [execOp, ho, hx];go_simp⟩
theorem yt_ldS (hw : Region.wanted o (yielded ops a.tmps) = true) (x : Operand) (ho : o.op = .load 9 x) (g k : Nat) (hx : a.eval x = .pointer (some ⟨g, k, none⟩)) (s : ByteArray) (h : ∀ w, S w → w.cell? ⟨g, k, none⟩ = some (.string s)) : YieldsIf Tryz.prog ops S o (.string s) a :=
 Or.inl ⟨hw, fun w hS => by
  have := h w hS;simp only [execOp, ho, hx];go_simp⟩
theorem yt_ldI (hw : Region.wanted o (yielded ops a.tmps) = true) (x : Operand) (ho : o.op = .load 3 x) (g k : Nat) (hx : a.eval x = .pointer (some ⟨g, k, none⟩)) (z : Int) (h : ∀ w, S w → w.cell? ⟨g, k, none⟩ = some (.int .i64 z)) : YieldsIf Tryz.prog ops S o (.int .i64 z) a :=
 Or.inl ⟨hw, fun w hS => by
  have := h w hS;simp only [execOp, ho, hx];go_simp⟩
theorem yt_ldB (hw : Region.wanted o (yielded ops a.tmps) = true) (x : Operand) (ho : o.op = .load 4 x) (g k : Nat) (hx : a.eval x = .pointer (some ⟨g, k, none⟩)) (z : Bool) (h : ∀ w, S w → w.cell? ⟨g, k, none⟩ = some (.bool z)) : YieldsIf Tryz.prog ops S o (.bool z) a :=
 Or.inl ⟨hw, fun w hS => by
  have := h w hS;simp only [execOp, ho, hx];go_simp⟩
theorem yt_ldLr (hw : Region.wanted o (yielded ops a.tmps) = true) (x : Operand) (ho : o.op = .load 22 x) (g k : Nat) (hx : a.eval x = .pointer (some ⟨g, k, none⟩)) (p : Option Addr) (n c : Nat) (h : ∀ w, S w → w.cell? ⟨g, k, none⟩ = some (.slice p n c)) : YieldsIf Tryz.prog ops S o (.slice p n c) a :=
 Or.inl ⟨hw, fun w hS => by
  have := h w hS;simp only [execOp, ho, hx];go_simp⟩
theorem wt_putLr {rest : List Oper} {w : World} (hw : Region.wanted o (yielded ops a.tmps) = true) (x y : Operand) (ho : o.op = .store 22 x y) (g k : Nat) (hx : a.eval x = .pointer (some ⟨g, k, none⟩)) (p : Option Addr) (n c : Nat) (hy : a.eval y = .slice p n c) {cs : Array Value} {t : TypeId} (hc : w.heap[g]? = some (.cells cs t (0, 0))) (hk : k < cs.size)
  (h : ∀ W, W.heap[g]? = some (.cells (cs.setIfInBounds k (.slice p n c)) t (0, 0)) → w.grownBy W (some g) → wpList Tryz.prog ops Q rest (a.put o.dst undef) W) : wpList Tryz.prog ops Q (o :: rest) a w := by
 have c0 : w.cell? ⟨g, k, none⟩ = some cs[k] := by rw [cell_heap hc, Array.getElem?_eq_getElem hk]
 have f0 := frozen_heap hc k;refine wl_skip hw (w.setCell ⟨g, k, none⟩ (.slice p n c)) ?_ (h _ (heap_setCell _ hc) (grown_put _ _ _ _));simp only [execOp, ho, hx, hy];go_simp
theorem yt_ldLs (hw : Region.wanted o (yielded ops a.tmps) = true) (x : Operand) (ho : o.op = .load 23 x) (g k : Nat) (hx : a.eval x = .pointer (some ⟨g, k, none⟩)) (p : Option Addr) (n c : Nat) (h : ∀ w, S w → w.cell? ⟨g, k, none⟩ = some (.slice p n c)) : YieldsIf Tryz.prog ops S o (.slice p n c) a :=
 Or.inl ⟨hw, fun w hS => by
  have := h w hS;simp only [execOp, ho, hx];go_simp⟩
set_option maxHeartbeats 1000000 in
set_option maxRecDepth 100000 in
theorem wt_putSt {rest : List Oper} {w : World} (hw : o.guard = none) (x y : Operand) (ho : o.op = .store 25 x y) (g : Nat) (hx : a.eval x = .pointer (some ⟨g, 0, none⟩)) (s : SC) (hy : a.eval y = s.val) {cs : Array Value} (hc : w.heap[g]? = some (.cells cs 25 (0, 0))) (hk : cs.size = 4)
  (h : ∀ W, W.heap[g]? = some (stObj s) → w.grownBy W (some g) → wpList Tryz.prog ops Q rest (a.put o.dst undef) W) : wpList Tryz.prog ops Q (o :: rest) a w := by
 have ht : w.there g 0 4 := fun j hj => ⟨by rw [cell_heap hc, Nat.zero_add, Array.getElem?_eq_getElem (by omega)]; rfl, frozen_heap hc _⟩
 refine wpList_store_mid hw 25 x y ho g 0 #[Value.bool s.a, .slice s.p s.n s.c, .bool s.d, .slice s.q s.m s.e] hx hy ht (by rw [infoSet4]; rfl) (by simp [Value.oneCell']) ?_;obtain ⟨h1, h2⟩ := put_wholeU [Value.bool s.a, .slice s.p s.n s.c, .bool s.d, .slice s.q s.m s.e] hc (by rw [hk]; rfl);exact h _ h1 h2
theorem wt_boxSt {rest : List Oper} {w : World} (hw : Region.wanted o (yielded ops a.tmps) = true) (x : Operand) (ho : o.op = .box 25 x) (s : SC) (hx : a.eval x = s.val)
  (h : ∀ W g, w.heap.size ≤ g → W.heap[g]? = some (stObj s) → Below w.heap.size w W → wpList Tryz.prog ops Q rest (a.put o.dst (.pointer (some ⟨g, 0, none⟩))) W) : wpList Tryz.prog ops Q (o :: rest) a w := by
 refine wl_run hw (.pointer (some ⟨w.heap.size, 0, none⟩)) (w.alloc (stObj s)) ?_ (h _ _ (Nat.le_refl _) (heap_new _ _) ((Below.refl _ w).alloc (Nat.le_refl _) _));simp only [execOp, ho, hx, SC.val, stObj];go_simp
theorem wt_allocSt {rest : List Oper} {w : World} (hw : Region.wanted o (yielded ops a.tmps) = true) (ho : o.op = .alloc 25)
  (h : ∀ W g, w.heap.size ≤ g → W.heap[g]? = some (stObj SC.zero) → Below w.heap.size w W → wpList Tryz.prog ops Q rest (a.put o.dst (.pointer (some ⟨g, 0, none⟩))) W) : wpList Tryz.prog ops Q (o :: rest) a w := by
 refine wl_run hw (.pointer (some ⟨w.heap.size, 0, none⟩)) (w.alloc (stObj SC.zero)) ?_ (h _ _ (Nat.le_refl _) (heap_new _ _) ((Below.refl _ w).alloc (Nat.le_refl _) _));simp only [execOp, ho, stObj, SC.zero];go_simp
end
end Go.Proofs.YtlkcjhcmkaddaaaGreat
namespace Go.Proofs.YtlkcjhcmkaddaaaGreat
open Go.RowKit
theorem getD_flip {l : Array Bool} {i : Nat} (h : i < l.size) (d d' : Bool) : l.getD i d = l.getD i d' := by
 rw [Array.getD_eq_getD_getElem?, Array.getD_eq_getD_getElem?, Array.getElem?_eq_getElem h]
 rfl
end Go.Proofs.YtlkcjhcmkaddaaaGreat
namespace Go.Proofs.YtlkcjhcmkaddaaaGreat
open Go.RowKit
def wpAnyL (P : Program) (ops : Array Oper) (Q : Exit → Act → World → Prop) (S : World → Prop) (late : Nat → Bool) : Nat → Array Bool → Act → World → Prop
 | 0, l, a, w => Region.ready .any ops l = [] ∧ Q .normal a w
 | n + 1, l, a, w => (Region.ready .any ops l = [] → Q .normal a w) ∧ ∀ i ∈ Region.ready .any ops l, wpOp P ops Q i (fun a' w' => (late i = false → S w → S w') ∧ wpAnyL P ops Q S late n (l.setIfInBounds i true) a' w') a w
section
variable {P : Program} {ops : Array Oper} {Q : Exit → Act → World → Prop} {S : World → Prop} {late : Nat → Bool}
theorem wpAny_of_late : ∀ (n : Nat) (l : Array Bool) (a : Act) (w : World), wpAnyL P ops Q S late n l a w → wpAny P .any ops Q n l a w
 | 0, _, _, _, h => h
 | n + 1, l, a, w, h => ⟨h.1, fun i hi => wpOp_mono (fun a' w' k => wpAny_of_late n _ a' w' k.2) (h.2 i hi)⟩
theorem wp_region_late {id : Nat} {a : Act} {w : World} (hm : P.follows .mixedOrders = true) (h : wpAnyL P ops Q S late ops.size (Array.replicate ops.size false) a w.drew) : (Code.region id ops true).wp P Q a w :=
 wp_region_any hm (wpAny_of_late _ _ _ _ h)
theorem wpAnyL_done {l : Array Bool} {a : Act} {w : World} (hr : Region.ready .any ops l = []) (h : Q .normal a w) : ∀ n, wpAnyL P ops Q S late n l a w
 | 0 => ⟨hr, h⟩
 | n + 1 => ⟨fun _ => h, fun i hi => by rw [hr] at hi; cases hi⟩
theorem wpAnyL_all {rs : List Nat} {n : Nat} {l : Array Bool} {a : Act} {w : World} (hr : Region.ready .any ops l = rs) (hne : rs ≠ [])
  (h : ∀ i ∈ rs, wpOp P ops Q i (fun a' w' => (late i = false → S w → S w') ∧ wpAnyL P ops Q S late n (l.setIfInBounds i true) a' w') a w) : wpAnyL P ops Q S late (n + 1) l a w :=
 ⟨fun e => absurd (hr.symm.trans e) hne, fun i hi => h i (hr ▸ hi)⟩
def lateOn (ops : Array Oper) (late : Nat → Bool) (i : Nat) : Bool := (List.range ops.size).all fun j => !late j || ((ops[j]?).map fun o => o.after.any fun e => Region.binds .any e && (e.on == i)).getD true
theorem lateOn_spec {i j : Nat} {o : Oper} (h : lateOn ops late i = true) (ho : ops[j]? = some o) (hl : late j = true) : ∃ e ∈ o.after, Region.binds .any e = true ∧ e.on = i := by
 unfold lateOn at h;rw [List.all_eq_true] at h;have hj := h j (List.mem_range.2 (Array.getElem?_eq_some_iff.1 ho).1);rw [hl, ho] at hj;simp only [Bool.not_true, Bool.false_or, Option.map_some, Option.getD_some] at hj;rw [Array.any_eq_true'] at hj;obtain ⟨e, he, hb⟩ := hj;rw [Bool.and_eq_true, beq_iff_eq] at hb;exact ⟨e, he, hb.1, hb.2⟩
theorem wpAnyL_swap {T : World → Prop} {i : Nat} {oi : Oper} {v : Value} (hi : ops[i]? = some oi) (hs : Region.noSelect ops = true) (hQ : ∀ c a w, Q (.panic c) (a.put oi.dst v) w → Q (.panic c) a w)
  (hT : ∀ (j : Nat) (o : Oper) (w w' : World), ops[j]? = some o → (∀ e ∈ o.after, Region.binds .any e = true → e.on ≠ i) → T w → (late j = false → S w → S w') → T w') :
  ∀ (n : Nat) (l : Array Bool) (a : Act) (w : World), (∀ j o, ops[j]? = some o → j ≠ i → l.getD j true = false → (∀ e ∈ o.after, Region.binds .any e = true → e.on ≠ i) → oi.apart ops o = true) →
   i ∈ Region.ready .any ops l → YieldsIf P ops T oi v a → T w → wpAnyL P ops Q S late n (l.setIfInBounds i true) (a.put oi.dst v) w → wpAnyL P ops Q S late (n + 1) l a w := by
 intro n
 induction n with
 | zero =>
  intro l a w _ hr hy hw H;refine And.intro (fun e => by rw [e] at hr; cases hr) (fun j hj => ?_);by_cases e : j = i
  ·subst e;exact hy.wpOp hi hw (And.intro (fun _ h => h) H)
  ·have hm := ready_mono hj e;rw [H.1] at hm;cases hm
 | succ n ih =>
  intro l a w hf hr hy hw H;refine And.intro (fun e => by rw [e] at hr; cases hr) (fun j hj => ?_);by_cases e : j = i
  ·subst e;exact hy.wpOp hi hw (And.intro (fun _ h => h) H)
  ·obtain ⟨hun, oj, hoj, hall⟩ := mem_ready.1 hj;have hno : ∀ x ∈ oj.after, Region.binds .any x = true → x.on ≠ i := by
    intro x hx hb hxi;have h1 := hall x hx hb;rw [hxi] at h1;have h0 := (mem_ready.1 hr).1;by_cases hlt : i < l.size
    ·rw [getD_flip hlt true false] at h0;rw [h0] at h1;cases h1
    ·have : l.getD i false = false := by rw [Array.getD_eq_getD_getElem?, Array.getElem?_eq_none (by omega)]; rfl
     rw [this] at h1;cases h1
   have hput := wpOp_putIf hoj (hf j oj hoj e hun hno) (fun cs b => Region.noSelect_spec hs i oi cs b hi) (fun cs b => Region.noSelect_spec hs j oj cs b hoj) hQ hy (H.2 j (ready_mono hj e));refine wpOp_mono ?_ hput;rintro a' w' ⟨hy', hS', hH⟩;refine ⟨hS', ih (l.setIfInBounds j true) a' w' ?_ (ready_mono hr (Ne.symm e)) hy' (hT j oj w w' hoj hno hw hS') ?_⟩
   ·intro k ok hk hki hku hkn;refine hf k ok hk hki ?_ hkn;by_cases hjk : j = k
    ·subst hjk; exact hun
    ·rwa [getD_set_ne true hjk] at hku
   ·rw [Array.setIfInBounds_comm _ _ e];exact hH
theorem wpAnyL_load {i : Nat} {oi : Oper} {v : Value} {n : Nat} {l : Array Bool} {a : Act} {w : World} (hi : ops[i]? = some oi) (hs : Region.noSelect ops = true) (hf : Region.free .any ops l i = true) (hr : (Region.ready .any ops l).contains i = true)
  (hl : lateOn ops late i = true) (hQ : ∀ c a w, Q (.panic c) (a.put oi.dst v) w → Q (.panic c) a w) (hy : YieldsIf P ops S oi v a) (hS : S w)
  (h : wpAnyL P ops Q S late n (l.setIfInBounds i true) (a.put oi.dst v) w) : wpAnyL P ops Q S late (n + 1) l a w :=
 wpAnyL_swap hi hs hQ (fun j o w w' ho hno hw hk => by
  cases e : late j
  ·exact hk e hw
  ·obtain ⟨x, hx, hb, hxi⟩ := lateOn_spec hl ho e;exact absurd hxi (hno x hx hb)) n l a w (Region.free_spec hi hf) (by simpa using hr) hy hS h
theorem wpAnyL_pure {i : Nat} {oi : Oper} {v : Value} {n : Nat} {l : Array Bool} {a : Act} {w : World} (hi : ops[i]? = some oi) (hs : Region.noSelect ops = true) (hf : Region.free .any ops l i = true) (hr : (Region.ready .any ops l).contains i = true)
  (hQ : ∀ c a w, Q (.panic c) (a.put oi.dst v) w → Q (.panic c) a w) (hy : YieldsIf P ops (fun _ => True) oi v a)
  (h : wpAnyL P ops Q S late n (l.setIfInBounds i true) (a.put oi.dst v) w) : wpAnyL P ops Q S late (n + 1) l a w :=
 wpAnyL_swap (T := fun _ => True) hi hs hQ (fun _ _ _ _ _ _ _ _ => trivial) n l a w (Region.free_spec hi hf) (by simpa using hr) hy trivial h
end
end Go.Proofs.YtlkcjhcmkaddaaaGreat
namespace Go.Proofs.YtlkcjhcmkaddaaaGreat
open Go.RowKit
theorem app_where (w : World) (base t ty e : TypeId) (i : TypeInfo) (z : Value) (size bytes : Nat) (ht : Tryz.prog.underlying t = some (.slice e)) (hi : Tryz.prog.info? e = some i) (hz : i.zero = some z)
  (hsize : i.size = size) (hby : i.bytes = bytes) (hzs : z.cells.size = size) (hsz : 0 < size) (hb : bytes ≤ 1000) (v : Value) (n : Nat) (xs : List Value) (hown : w.ownsRow base e size v n xs)
  (a : Addr) (c : Nat) (news : List Value) (hl : news.length = size) (hnews : ∀ j u, news[j]? = some u → w.cell? (a.add j) = some u) (h1 : ∀ u ∈ news, u.oneCell' = true) (hn : n ≤ 1000000) (hbase : base ≤ w.heap.size) :
  ∃ v' w', (Builtin.append_ #[t, t] ty #[v, .slice (some a) 1 c]).run Tryz.prog w = .ok v' w' ∧ w'.ownsRow base e size v' (n + 1) (xs ++ news) ∧ w.grownBy w' v.ownBlock ∧ (∀ g, v'.ownBlock = some g → some g = v.ownBlock ∨ w.heap.size ≤ g) := by
 have hb2 : (n + 1) * bytes ≤ 140737488355328 := Nat.le_trans (Nat.mul_le_mul (show n + 1 ≤ 1000001 by omega) hb) (by decide);obtain ⟨v', w', hr, ho, hg, _⟩ := run_append_own (P := Tryz.prog) w base t ty e i z size bytes ht hi hz hsize hby hzs hsz v n xs hown a 1 c news (by rw [hl]; omega) hnews h1 (by unfold maxLen; omega) hb2 hbase;refine ⟨v', w', hr, ho, hg, ?_⟩;subst hsize;rcases hown.2 with ⟨rfl, rfl⟩ | ⟨g, cap, cur, rfl, hbg, hgc, hnc, hcm, hcs, htake⟩
 ·have hr2 := run_append_nil (P := Tryz.prog) w t ty e i z ht hi hz a 1 c news (by rw [hl]; omega) hnews (by omega) (by omega) (by rw [hby]; omega);rw [hr] at hr2
  injection hr2 with e1 e2
  intro g hg';rw [e1] at hg';simp only [Value.ownBlock, Option.some.injEq] at hg'
  right
  omega
 ·by_cases hroom : n + 1 ≤ cap
  ·have hr2 := run_append_room (P := Tryz.prog) w t ty e i ht hi g n cap cur hgc a 1 c news (by rw [hl]; omega) hnews h1 hroom (by rw [hl, hcs]; have := Nat.mul_le_mul_right i.size hroom; rw [Nat.add_mul] at this; omega);rw [hr] at hr2
   injection hr2 with e1 e2
   intro k hk;rw [e1] at hk
   left
   simp only [Value.ownBlock] at hk ⊢;exact hk.symm
  ·have hr2 := run_append_grow (P := Tryz.prog) w t ty e i z ht hi hz ⟨g, 0, none⟩ n cap xs hown.1 (hown.cells (g := g) rfl) a 1 c news (by rw [hl]; omega) hnews (by omega) (by omega) (by rw [hby]; exact growslice_fits (by omega) hb2);rw [hr] at hr2
   injection hr2 with e1 e2
   intro k hk;rw [e1] at hk;simp only [Value.ownBlock, Option.some.injEq] at hk
   right
   omega
def rgCells1 (l : List Rg) : List Value := l.flatMap fun r => [.int .i64 r.1, .int .i64 r.2]
def stCells1 (l : List ByteArray) : List Value := l.flatMap fun s => [.string s]
def RowS (w : World) (B : Nat) (v : Value) (l : List ByteArray) : Prop := w.ownsRow B 9 1 v l.length (stCells1 l)
def RowR (w : World) (B : Nat) (v : Value) (l : List Rg) : Prop := w.ownsRow B 58 2 v l.length (rgCells1 l)
theorem own_ne {w : World} {B : Nat} {e t : TypeId} {size n g : Nat} {v : Value} {xs : List Value} {cs : Array Value} {fz : Nat × Nat} (h : w.ownsRow B e size v n xs) (hg : w.heap[g]? = some (.cells cs t fz)) (hne : t ≠ e) : v.ownBlock ≠ some g := by
 rcases h.2 with ⟨rfl, _⟩ | ⟨k, cap, cur, rfl, _, hk, _⟩
 ·simp [Value.ownBlock]
 ·intro e1;simp only [Value.ownBlock, Option.some.injEq] at e1;rw [e1, hg] at hk
  injection hk with hk
  injection hk with _ hk
  exact hne hk
theorem heap_gro {w w' : World} {g : Nat} {x : Obj} {r : Option Nat} (h : w.heap[g]? = some x) (hg : w.grownBy w' r) (hn : r ≠ some g) : w'.heap[g]? = some x := (hg.block _ (lt_heap h) (Ne.symm hn)).trans h
theorem gr_own {a w w' : World} {r r' : Option Nat} (h : a.grownBy w r) (hg : ∀ g, r' = some g → a.heap.size ≤ g) (k : w.grownBy w' r') : a.grownBy w' r :=
 ⟨k.os.trans h.os, k.tape.trans h.tape, k.output.trans h.output, Nat.le_trans h.size k.size, fun i hi hr => (k.block i (Nat.lt_of_lt_of_le hi h.size) (by intro e; have := hg i e.symm; omega)).trans (h.block i hi hr)⟩
theorem row_gr_heap {w w' : World} {B : Nat} {e t : TypeId} {size n g : Nat} {v : Value} {xs : List Value} {cs : Array Value} {fz : Nat × Nat} (h : w.ownsRow B e size v n xs) (k : w.grownBy w' (some g)) (hg : w.heap[g]? = some (.cells cs t fz)) (hne : t ≠ e) : w'.ownsRow B e size v n xs := by
 refine ⟨h.1, ?_⟩;have hn := own_ne h hg hne;rcases h.2 with h2 | ⟨g', cap, cur, e1, hgb, hc, hr⟩
 ·exact Or.inl h2
 ·refine Or.inr ⟨g', cap, cur, e1, hgb, heap_gr hc k ?_, hr⟩;intro e2;subst e2;exact hn (by rw [e1]; rfl)
theorem row_row {w w' : World} {B B' : Nat} {e e' : TypeId} {size size' n n' : Nat} {v u : Value} {xs ys : List Value} (h : w.ownsRow B e size v n xs) (h' : w.ownsRow B' e' size' u n' ys) (k : w.grownBy w' u.ownBlock) (hne : e ≠ e') : w'.ownsRow B e size v n xs := by
 refine ⟨h.1, ?_⟩;rcases h.2 with h2 | ⟨g', cap, cur, e1, hgb, hc, hr⟩
 ·exact Or.inl h2
 ·exact Or.inr ⟨g', cap, cur, e1, hgb, heap_gro hc k (own_ne h' hc hne), hr⟩
theorem ownsRow_on {w w' : World} {B : Nat} {e : TypeId} {size n : Nat} {v : Value} {xs : List Value} (h : w.ownsRow B e size v n xs) (hb : Below w.heap.size w w') : w'.ownsRow B e size v n xs := by
 refine ⟨h.1, ?_⟩;rcases h.2 with h2 | ⟨g, cap, cur, e1, hg, hc, hr⟩
 ·exact Or.inl h2
 ·exact Or.inr ⟨g, cap, cur, e1, hg, heap_on hc hb, hr⟩
theorem ownsRow_gr {w w' : World} {B : Nat} {e : TypeId} {size n : Nat} {v : Value} {xs : List Value} {r : Option Nat} (h : w.ownsRow B e size v n xs) (hg : w.grownBy w' r) (hne : ∀ g, v.ownBlock = some g → r ≠ some g) : w'.ownsRow B e size v n xs := by
 refine ⟨h.1, ?_⟩;rcases h.2 with h2 | ⟨g, cap, cur, e1, hgb, hc, hr⟩
 ·exact Or.inl h2
 ·exact Or.inr ⟨g, cap, cur, e1, hgb, heap_gro hc hg (hne g (by rw [e1]; rfl)), hr⟩
theorem RowS.nil (w : World) (B : Nat) : RowS w B (.slice none 0 0) [] := World.ownsRow_nil w B _ _
theorem stCells1_one (d : ByteArray) : stCells1 [d] = [.string d] := by simp [stCells1]
theorem stCells1_app (l : List ByteArray) (d : ByteArray) : stCells1 (l ++ [d]) = stCells1 l ++ [.string d] := by
 rw [← stCells1_one d];unfold stCells1;rw [List.flatMap_append]
theorem rn_appS {o : Oper} {w : World} (a : Act) (s x : Operand) (ho : o.op = .call { callee := .builtin .append, args := #[s, x], argTypes := #[23, 23] }) (B : Nat) (v : Value) (l : List ByteArray) (hs : a.eval s = v) (hown : RowS w B v l)
  (g : Nat) (d : ByteArray) (hx : a.eval x = .slice (some ⟨g, 0, none⟩) 1 1) (hd : w.heap[g]? = some (.cells #[.string d] 9 (0, 0))) (hn : l.length ≤ 1000000) (hB : B ≤ w.heap.size) :
  ∃ v' w', (execOp a.eval o).run Tryz.prog w = .ok (.value v') w' ∧ RowS w' B v' (l ++ [d]) ∧ w.grownBy w' v.ownBlock ∧ (∀ g, v'.ownBlock = some g → some g = v.ownBlock ∨ w.heap.size ≤ g) := by
 obtain ⟨i0, hi, hz0, hz1, hz2⟩ := info_parts cInfoS;obtain ⟨v', w', hr, h2, h3, h4⟩ := app_where w B 23 o.type 9 i0 _ 1 16 Tryz.underlying23 hi hz0 hz1 hz2 rfl (by decide) (by decide) v l.length _ hown ⟨g, 0, none⟩ 1 [.string d] (by rfl) (fun j u hu => by
  rw [Addr.add_mid, Nat.zero_add, cell_heap hd];exact List.getElem?_toArray.trans hu) (fun u hu => by
  first
   | exact d.list_one u hu
   | (simp only [List.mem_cons, List.not_mem_nil, or_false] at hu; rcases hu with rfl | rfl <;> rfl)
   | (simp only [List.mem_cons, List.not_mem_nil, or_false] at hu; rw [hu]; rfl)) hn hB
 refine ⟨v', w', ?_, ?_, h3, h4⟩
 ·unfold execOp;simp only [ho, resolve, invoke, builtin, Sem.run_bind, Sem.run_pure, Result.andThen_ok, List.map_toArray, List.map_cons, List.map_nil, hs, hx, hr]
 ·show w'.ownsRow B 9 1 v' (l ++ [d]).length (stCells1 (l ++ [d]));rw [stCells1_app, List.length_append];exact h2
theorem RowR.nil (w : World) (B : Nat) : RowR w B (.slice none 0 0) [] := World.ownsRow_nil w B _ _
theorem rgCells1_one (d : Rg) : rgCells1 [d] = [.int .i64 d.1, .int .i64 d.2] := by simp [rgCells1]
theorem rgCells1_app (l : List Rg) (d : Rg) : rgCells1 (l ++ [d]) = rgCells1 l ++ [.int .i64 d.1, .int .i64 d.2] := by
 rw [← rgCells1_one d];unfold rgCells1;rw [List.flatMap_append]
theorem rn_appR {o : Oper} {w : World} (a : Act) (s x : Operand) (ho : o.op = .call { callee := .builtin .append, args := #[s, x], argTypes := #[22, 22] }) (B : Nat) (v : Value) (l : List Rg) (hs : a.eval s = v) (hown : RowR w B v l)
  (g : Nat) (d : Rg) (hx : a.eval x = .slice (some ⟨g, 0, none⟩) 1 1) (hd : w.heap[g]? = some (.cells #[.int .i64 d.1, .int .i64 d.2] 58 (0, 0))) (hn : l.length ≤ 1000000) (hB : B ≤ w.heap.size) :
  ∃ v' w', (execOp a.eval o).run Tryz.prog w = .ok (.value v') w' ∧ RowR w' B v' (l ++ [d]) ∧ w.grownBy w' v.ownBlock ∧ (∀ g, v'.ownBlock = some g → some g = v.ownBlock ∨ w.heap.size ≤ g) := by
 obtain ⟨i0, hi, hz0, hz1, hz2⟩ := info_parts cInfoR;obtain ⟨v', w', hr, h2, h3, h4⟩ := app_where w B 22 o.type 58 i0 _ 2 16 Tryz.underlying22 hi hz0 hz1 hz2 rfl (by decide) (by decide) v l.length _ hown ⟨g, 0, none⟩ 1 [.int .i64 d.1, .int .i64 d.2] (by rfl) (fun j u hu => by
  rw [Addr.add_mid, Nat.zero_add, cell_heap hd];exact List.getElem?_toArray.trans hu) (fun u hu => by
  first
   | exact d.list_one u hu
   | (simp only [List.mem_cons, List.not_mem_nil, or_false] at hu; rcases hu with rfl | rfl <;> rfl)
   | (simp only [List.mem_cons, List.not_mem_nil, or_false] at hu; rw [hu]; rfl)) hn hB
 refine ⟨v', w', ?_, ?_, h3, h4⟩
 ·unfold execOp;simp only [ho, resolve, invoke, builtin, Sem.run_bind, Sem.run_pure, Result.andThen_ok, List.map_toArray, List.map_cons, List.map_nil, hs, hx, hr]
 ·show w'.ownsRow B 58 2 v' (l ++ [d]).length (rgCells1 (l ++ [d]));rw [rgCells1_app, List.length_append];exact h2
theorem rn_row1S {o : Oper} {w : World} (a : Act) (x : Operand) (ho : o.op = .buildSlice 23 1 #[(0, x)]) (d : ByteArray) (hx : a.eval x = .string d) : (execOp a.eval o).run Tryz.prog w = .ok (.value (.slice (some ⟨w.heap.size, 0, none⟩) 1 1)) (w.alloc (.cells #[.string d] 9 (0, 0))) := by
 simp only [execOp, ho, List.map_toArray, List.map_cons, List.map_nil, hx];go_simp
theorem rn_row1R {o : Oper} {w : World} (a : Act) (x : Operand) (ho : o.op = .buildSlice 22 1 #[(0, x)]) (d : Rg) (hx : a.eval x = .agg #[.int .i64 d.1, .int .i64 d.2]) : (execOp a.eval o).run Tryz.prog w = .ok (.value (.slice (some ⟨w.heap.size, 0, none⟩) 1 1)) (w.alloc (.cells #[.int .i64 d.1, .int .i64 d.2] 58 (0, 0))) := by
 simp only [execOp, ho, List.map_toArray, List.map_cons, List.map_nil, hx];go_simp
theorem yt_buildR {ops : Array Oper} {S : World → Prop} {o : Oper} {a : Act} (hw : Region.wanted o (yielded ops a.tmps) = true) (x y : Operand) (ho : o.op = .build 58 #[(0, x), (1, y)]) (p q : Int) (hx : a.eval x = .int .i64 p) (hy : a.eval y = .int .i64 q) : YieldsIf Tryz.prog ops S o (.agg #[.int .i64 p, .int .i64 q]) a :=
 Or.inl ⟨hw, fun w _ => by
  simp only [execOp, ho, List.map_toArray, List.map_cons, List.map_nil, hx, hy];go_simp⟩
section
variable {ops : Array Oper} {Q : Exit → Act → World → Prop} {o : Oper} {a : Act} {i : Nat} {w : World} {K : Act → World → Prop}
theorem ot_run (hi : ops[i]? = some o) (hw : Region.wanted o (yielded ops a.tmps) = true) (v : Value) (w' : World) (hr : (execOp a.eval o).run Tryz.prog w = .ok (.value v) w') (h : K (a.put o.dst v) w') : wpOp Tryz.prog ops Q i K a w := by
 unfold wpOp;simp only [hi];rw [if_pos hw];refine Or.inl ?_;unfold Oper.wp;rw [hr];exact h
theorem ot_skip (hi : ops[i]? = some o) (hw : Region.wanted o (yielded ops a.tmps) = true) (w' : World) (hr : (execOp a.eval o).run Tryz.prog w = .ok .skip w') (h : K (a.put o.dst undef) w') : wpOp Tryz.prog ops Q i K a w := by
 unfold wpOp;simp only [hi];rw [if_pos hw];refine Or.inl ?_;unfold Oper.wp;rw [hr];exact h
theorem ot_call (hi : ops[i]? = some o) (hw : Region.wanted o (yielded ops a.tmps) = true)
  (f : Nat) (xs : Array Operand) (ts : Array TypeId) (ho : o.op = .call { callee := .value (.func f), args := xs, argTypes := ts }) (vs : Array Value) (hv : xs.toList.map a.eval = vs.toList)
  (hrun : ∀ (W : World) (A : Array Value), (callFunc f A).run Tryz.prog W = .ok (.enter f A) W)
  (hc : Calls Tryz.prog f vs w fun r w' => (∃ v, r = .returned v ∧ K (a.put o.dst v) w') ∨ (∃ ch, r = .panicked ch ∧ Q (.panic ch) a w')) : wpOp Tryz.prog ops Q i K a w := by
 unfold wpOp;simp only [hi];rw [if_pos hw];refine Or.inl ?_;have hv : xs.map a.eval = vs := by
  rw [← Array.toList_inj, Array.toList_map];exact hv
 have he : a.eval (.func f) = .func (.func f) #[] #[] := rfl;have hx : (execOp a.eval o).run Tryz.prog w = .ok (.enter f vs) w := by
  have := hrun w vs
  simp [execOp, ho, resolve, he, hv, Deferred.ofValue, invoke, this]
 unfold Oper.wp;rw [hx, Oper.upon_enter];refine hc.mono ?_;rintro e w' (⟨v, rfl, h1⟩ | ⟨ch, rfl, h1⟩)
 ·exact h1
 ·exact h1
theorem rn_putL (T : TypeId) (hT : T = 22 ∨ T = 23 ∨ T = 26) (x y : Operand) (ho : o.op = .store T x y) (g k : Nat) (hx : a.eval x = .pointer (some ⟨g, k, none⟩)) (p : Option Addr) (n c : Nat) (hy : a.eval y = .slice p n c)
  {cs : Array Value} {t : TypeId} (hc : w.heap[g]? = some (.cells cs t (0, 0))) (hk : k < cs.size) : (execOp a.eval o).run Tryz.prog w = .ok .skip (w.setCell ⟨g, k, none⟩ (.slice p n c)) := by
 have c0 : w.cell? ⟨g, k, none⟩ = some cs[k] := by rw [cell_heap hc, Array.getElem?_eq_getElem hk]
 have f0 := frozen_heap hc k;rcases hT with rfl | rfl | rfl
 ·simp only [execOp, ho, hx, hy];go_simp
 ·simp only [execOp, ho, hx, hy];go_simp
 ·simp only [execOp, ho, hx, hy];go_simp
theorem ot_row1S (hi : ops[i]? = some o) (hw : Region.wanted o (yielded ops a.tmps) = true) (x : Operand) (ho : o.op = .buildSlice 23 1 #[(0, x)]) (d : ByteArray) (hx : a.eval x = .string d)
  (h : ∀ W g, w.heap.size ≤ g → W.heap[g]? = some (.cells #[.string d] 9 (0, 0)) → Below w.heap.size w W → K (a.put o.dst (.slice (some ⟨g, 0, none⟩) 1 1)) W) : wpOp Tryz.prog ops Q i K a w :=
 ot_run hi hw _ _ (rn_row1S a x ho d hx) (h _ _ (Nat.le_refl _) (heap_new _ _) ((Below.refl _ w).alloc (Nat.le_refl _) _))
theorem ot_appS (hi : ops[i]? = some o) (hw : Region.wanted o (yielded ops a.tmps) = true) (s x : Operand) (ho : o.op = .call { callee := .builtin .append, args := #[s, x], argTypes := #[23, 23] }) (B : Nat) (v : Value) (l : List ByteArray) (hs : a.eval s = v) (hown : RowS w B v l)
  (g : Nat) (d : ByteArray) (hx : a.eval x = .slice (some ⟨g, 0, none⟩) 1 1) (hd : w.heap[g]? = some (.cells #[.string d] 9 (0, 0))) (hn : l.length ≤ 1000000) (hB : B ≤ w.heap.size)
  (h : ∀ v' W, RowS W B v' (l ++ [d]) → w.grownBy W v.ownBlock → (∀ g, v'.ownBlock = some g → some g = v.ownBlock ∨ w.heap.size ≤ g) → K (a.put o.dst v') W) : wpOp Tryz.prog ops Q i K a w := by
 obtain ⟨v', w', hr, h2, h3, h4⟩ := rn_appS a s x ho B v l hs hown g d hx hd hn hB;exact ot_run hi hw v' w' hr (h v' w' h2 h3 h4)
theorem ot_row1R (hi : ops[i]? = some o) (hw : Region.wanted o (yielded ops a.tmps) = true) (x : Operand) (ho : o.op = .buildSlice 22 1 #[(0, x)]) (d : Rg) (hx : a.eval x = .agg #[.int .i64 d.1, .int .i64 d.2])
  (h : ∀ W g, w.heap.size ≤ g → W.heap[g]? = some (.cells #[.int .i64 d.1, .int .i64 d.2] 58 (0, 0)) → Below w.heap.size w W → K (a.put o.dst (.slice (some ⟨g, 0, none⟩) 1 1)) W) : wpOp Tryz.prog ops Q i K a w :=
 ot_run hi hw _ _ (rn_row1R a x ho d hx) (h _ _ (Nat.le_refl _) (heap_new _ _) ((Below.refl _ w).alloc (Nat.le_refl _) _))
theorem ot_appR (hi : ops[i]? = some o) (hw : Region.wanted o (yielded ops a.tmps) = true) (s x : Operand) (ho : o.op = .call { callee := .builtin .append, args := #[s, x], argTypes := #[22, 22] }) (B : Nat) (v : Value) (l : List Rg) (hs : a.eval s = v) (hown : RowR w B v l)
  (g : Nat) (d : Rg) (hx : a.eval x = .slice (some ⟨g, 0, none⟩) 1 1) (hd : w.heap[g]? = some (.cells #[.int .i64 d.1, .int .i64 d.2] 58 (0, 0))) (hn : l.length ≤ 1000000) (hB : B ≤ w.heap.size)
  (h : ∀ v' W, RowR W B v' (l ++ [d]) → w.grownBy W v.ownBlock → (∀ g, v'.ownBlock = some g → some g = v.ownBlock ∨ w.heap.size ≤ g) → K (a.put o.dst v') W) : wpOp Tryz.prog ops Q i K a w := by
 obtain ⟨v', w', hr, h2, h3, h4⟩ := rn_appR a s x ho B v l hs hown g d hx hd hn hB;exact ot_run hi hw v' w' hr (h v' w' h2 h3 h4)
theorem wt_row1R {rest : List Oper} (hw : Region.wanted o (yielded ops a.tmps) = true) (x : Operand) (ho : o.op = .buildSlice 22 1 #[(0, x)]) (d : Rg) (hx : a.eval x = .agg #[.int .i64 d.1, .int .i64 d.2])
  (h : ∀ W g, w.heap.size ≤ g → W.heap[g]? = some (.cells #[.int .i64 d.1, .int .i64 d.2] 58 (0, 0)) → Below w.heap.size w W → wpList Tryz.prog ops Q rest (a.put o.dst (.slice (some ⟨g, 0, none⟩) 1 1)) W) : wpList Tryz.prog ops Q (o :: rest) a w :=
 wl_run hw _ _ (rn_row1R a x ho d hx) (h _ _ (Nat.le_refl _) (heap_new _ _) ((Below.refl _ w).alloc (Nat.le_refl _) _))
theorem wt_appR {rest : List Oper} (hw : Region.wanted o (yielded ops a.tmps) = true) (s x : Operand) (ho : o.op = .call { callee := .builtin .append, args := #[s, x], argTypes := #[22, 22] }) (B : Nat) (v : Value) (l : List Rg) (hs : a.eval s = v) (hown : RowR w B v l)
  (g : Nat) (d : Rg) (hx : a.eval x = .slice (some ⟨g, 0, none⟩) 1 1) (hd : w.heap[g]? = some (.cells #[.int .i64 d.1, .int .i64 d.2] 58 (0, 0))) (hn : l.length ≤ 1000000) (hB : B ≤ w.heap.size)
  (h : ∀ v' W, RowR W B v' (l ++ [d]) → w.grownBy W v.ownBlock → (∀ g, v'.ownBlock = some g → some g = v.ownBlock ∨ w.heap.size ≤ g) → wpList Tryz.prog ops Q rest (a.put o.dst v') W) : wpList Tryz.prog ops Q (o :: rest) a w := by
 obtain ⟨v', w', hr, h2, h3, h4⟩ := rn_appR a s x ho B v l hs hown g d hx hd hn hB;exact wl_run hw v' w' hr (h v' w' h2 h3 h4)
theorem ot_putL (hi : ops[i]? = some o) (hw : Region.wanted o (yielded ops a.tmps) = true) (T : TypeId) (hT : T = 22 ∨ T = 23 ∨ T = 26) (x y : Operand) (ho : o.op = .store T x y) (g k : Nat) (hx : a.eval x = .pointer (some ⟨g, k, none⟩)) (p : Option Addr) (n c : Nat) (hy : a.eval y = .slice p n c)
  {cs : Array Value} {t : TypeId} (hc : w.heap[g]? = some (.cells cs t (0, 0))) (hk : k < cs.size)
  (h : ∀ W, W.heap[g]? = some (.cells (cs.setIfInBounds k (.slice p n c)) t (0, 0)) → w.grownBy W (some g) → K (a.put o.dst undef) W) : wpOp Tryz.prog ops Q i K a w :=
 ot_skip hi hw _ (rn_putL T hT x y ho g k hx p n c hy hc hk) (h _ (heap_setCell _ hc) (grown_put _ _ _ _))
end
end Go.Proofs.YtlkcjhcmkaddaaaGreat
namespace Go.Proofs.YtlkcjhcmkaddaaaGreat
open Go.RowKit
theorem notR_big (l : List Rg) (f : Int) (hf : 9223372036854775807 < f) (h : rightFrom (f - 1) l) (hi : inI64 l) : notR f l = [] := by
 cases l with
 | nil => unfold notR; rw [if_neg (by omega)]
 | cons r l => have := h.1; have := hi r (by simp); omega
theorem wpList_appR2 {ops : Array Oper} {rest : List Oper} {o : Oper} {a : Act} {Q : Exit → Act → World → Prop} (w : World) (hgd : o.guard = none) (s x : Operand)
  (ho : o.op = .call { callee := .builtin .append, args := #[s, x], argTypes := #[22, 22] })
  (B : Nat) (v : Value) (l : List Rg) (hs : a.eval s = v) (hown : OwnR w B v l) (g m c : Nat) (cs : Array Value) (news : List Rg) (hm : news.length = m)
  (hx : a.eval x = .slice (some ⟨g, 0, none⟩) m c) (hb : w.heap[g]? = some (.cells cs 58 (0, 0))) (hcs : cs.toList = rgCells news) (hlen : l.length + m ≤ 1000000) (hB : B ≤ w.heap.size)
  (h : ∀ v' w', OwnR w' B v' (l ++ news) → Below B w w' → (∀ k ob, w.heap[k]? = some ob → (∀ j, v.ownBlock = some j → j ≠ k) → w'.heap[k]? = some ob) → wpList Tryz.prog ops Q rest (a.put o.dst v') w') : wpList Tryz.prog ops Q (o :: rest) a w := by
 obtain ⟨i0, hi, hz0, hz1, hz2⟩ := info_parts infoRg;refine wpList_append_own w hgd s x 22 ho B 58 i0 _ 2 16 Tryz.underlying22 hi hz0 hz1 hz2 rfl (by decide) v l.length (rgCells l) hs hown ⟨g, 0, none⟩ m c (rgCells news) hx (by rw [rgCells_len, hm]) ?_ (rgCells_one _) (by unfold maxLen; omega) (by omega) hB ?_
 ·rw [← hcs]; exact World.news_of_block hb
 ·intro v' w' h1 h2 _;refine h v' w' ?_ (OwnR.grownB hown hB h2) (fun k ob hk hne => (h2.block k (lt_heap hk) (fun e => hne k e.symm rfl)).trans hk);unfold OwnR;rw [List.length_append, hm, rgCells_append];exact h1
theorem OwnR.lt {w : World} {B : Nat} {v : Value} {l : List Rg} (h : OwnR w B v l) : ∀ j, v.ownBlock = some j → j ≠ w.heap.size := fun j hj => Nat.ne_of_lt (World.ownsRow.lt h j hj).2
set_option maxHeartbeats 4000000 in
set_option maxRecDepth 100000 in
theorem otherRanges_any (v : Value) (l : List Rg) (w : World) (hv : RngsAt w v l) (hr : rightR l) (hn : l.length ≤ 10000) :
  Calls Tryz.prog 90 #[v] w fun r w' => (∃ u, r = .returned u ∧ OwnR w' w.heap.size u (notR (-9223372036854775808) l)) ∧ Below w.heap.size w w' := by
 have HV := hide hv;have HI := hide hv.1;obtain ⟨_, hlen, a, cap, rfl, hel⟩ := hv;clear hel;have HR0 := hide (rightR_low hr HI.out);clear hr;obtain ⟨N, hN⟩ : ∃ N : Nat, N = l.length := ⟨_, rfl⟩
 rw [← hN] at hlen hn HV ⊢;have HN := hide hN;clear hN;go_enter Tryz.func90, Tryz.ntmps90
 go_wp2
 go_loopw [3, 4, 9] (fun o f i wr => ∃ (k : Nat) (x : Int) (acc : List Rg), i = .int .i64 k ∧ f = .int .i64 x ∧ k ≤ N ∧ -9223372036854775808 ≤ x ∧ x ≤ 9223372036854775807 ∧ Hid (OwnR wr w.heap.size o acc) ∧ Hid (acc.length ≤ k) ∧ Hid (rightFrom (x - 1) (l.drop k)) ∧ Hid (acc ++ notR x (l.drop k) = notR (-9223372036854775808) l) ∧ Hid (Below w.heap.size w wr)) (fun _ _ i _ => N - (intOf i).toNat)
 case atStart => exact ⟨0, -9223372036854775808, [], rfl, rfl, by omega, by omega, by omega, hide (ownR_none _ _), hide (Nat.le_refl _), HR0, hide rfl, hide (Below.refl _ _)⟩
 case round =>
  obtain ⟨k, x, acc, rfl, rfl, hk, hx0, hx1, HO, HL, HR, HE, HB⟩ := hrel;by_cases hlt : k < N
  ·have hk' : k < l.length := by rw [← HN.out]; exact hlt
   have IW := HV.out.on HB.out;obtain ⟨b, off, ha, hb, c0, c1⟩ := IW.at.2 k hk';subst ha;obtain ⟨q0, q1, q2, q3⟩ := IW.bound k hk';have R0 := HR.out;have E0 := HE.out;rw [drop_getD l k (0, 0) hk'] at R0 E0;have HI1 : Hid (inI64 (l.drop (k + 1))) := hide (fun y hy => HI.out y (List.mem_of_mem_drop hy));generalize l.getD k (0, 0) = q at *;obtain ⟨r1, r2, r3⟩ := R0;have HR1 : Hid (rightFrom (q.2 + 1 - 1) (l.drop (k + 1))) := hide (rightFrom_mono r3 (by omega));simp only [notR] at E0;have E1 := hide E0;clear r3 E0 HE HR IW;have szB := HB.out.size;have LE : Hid (acc.length + 1 ≤ 1000000) := hide (by have := HL.out; omega);obtain ⟨e1, e2, _⟩ := two_boxes wr (Obj.cells #[Value.int IntKind.i64 q.1, Value.int IntKind.i64 q.2] 58) (Obj.cells #[Value.int IntKind.i64 x, Value.int IntKind.i64 (q.1 - 1)] 58);have E1' := hide e1;clear e1 e2;have hw2 : q.2 ≠ 9223372036854775807 → IntKind.i64.wrap (q.2 + 1) = q.2 + 1 := fun h => by rw [IntKind.wrap_i64]; omega
   by_cases h1 : x < q.1
   ·have d1 : decide (x < q.1) = true := decide_eq_true h1;have E2 := E1.out;rw [if_pos h1] at E2;have hw1 : IntKind.i64.wrap (q.1 - 1) = q.1 - 1 := by rw [IntKind.wrap_i64]; omega
    have HE2 := hide E2;clear E2 E1;by_cases h2 : q.2 = 9223372036854775807
    ·have d2 : (q.2 == 9223372036854775807) = true := beq_iff_eq.2 h2;have HZ : Hid (notR (q.2 + 1) (l.drop (k + 1)) = []) := hide (notR_big _ _ (by omega) HR1.out HI1.out);clear h2 hw2
     go_wp2_with (at_builtin; refine wpList_appR2 _ rfl _ _ rfl w.heap.size _ _ rfl ((HO.out.alloc _).alloc _) _ 1 1 _ [(x, q.1 - 1)] rfl rfl (heap_at (by simp)) rfl LE.out (by simp; omega) ?_; intro v8 w8 hO8 hb8 hx8; have O8 := hide hO8; have B8 := hide (((HB.out.alloc szB _).alloc (by simp; omega) _).trans hb8); have f1 := cell_heap (hx8 _ _ E1'.out HO.out.lt) 1; simp only [List.getElem?_toArray, List.getElem?_cons_zero, List.getElem?_cons_succ] at f1; clear hO8 hb8 hx8)
     go_ret
     refine ⟨⟨_, rfl, ?_⟩, B8.out⟩;have := O8.out;rw [← HE2.out, HZ.out]; exact this
    ·have d2 : (q.2 == 9223372036854775807) = false := beq_eq_false_iff_ne.2 h2;have hw3 := hw2 h2;clear hw2
     go_wp2_with (at_builtin; refine wpList_appR2 _ rfl _ _ rfl w.heap.size _ _ rfl ((HO.out.alloc _).alloc _) _ 1 1 _ [(x, q.1 - 1)] rfl rfl (heap_at (by simp)) rfl LE.out (by simp; omega) ?_; intro v8 w8 hO8 hb8 hx8; have O8 := hide hO8; have B8 := hide (((HB.out.alloc szB _).alloc (by simp; omega) _).trans hb8); have f1 := cell_heap (hx8 _ _ E1'.out HO.out.lt) 1; simp only [List.getElem?_toArray, List.getElem?_cons_zero, List.getElem?_cons_succ] at f1; clear hO8 hb8 hx8)
     refine ⟨⟨k + 1, q.2 + 1, acc ++ [(x, q.1 - 1)], by go_num, rfl, by omega, by omega, by omega, O8, hide (by have := HL.out; simp; omega), HR1, hide (by rw [← HE2.out, List.append_assoc]; rfl), B8⟩, by simp [intOf]; omega⟩
   ·have d1 : decide (x < q.1) = false := decide_eq_false h1;have E2 := E1.out;rw [if_neg h1] at E2;have HE2 := hide E2;clear E2 E1 E1';by_cases h2 : q.2 = 9223372036854775807
    ·have d2 : (q.2 == 9223372036854775807) = true := beq_iff_eq.2 h2;have HZ : Hid (notR (q.2 + 1) (l.drop (k + 1)) = []) := hide (notR_big _ _ (by omega) HR1.out HI1.out);clear h2 hw2
     go_wp2
     go_ret
     refine ⟨⟨_, rfl, ?_⟩, HB.out.alloc szB _⟩;rw [← HE2.out, HZ.out, List.append_nil];exact HO.out.alloc _
    ·have d2 : (q.2 == 9223372036854775807) = false := beq_eq_false_iff_ne.2 h2;have hw3 := hw2 h2;clear hw2
     go_wp2
     refine ⟨⟨k + 1, q.2 + 1, acc, by go_num, rfl, by omega, by omega, by omega, hide (HO.out.alloc _), hide (by have := HL.out; omega), HR1, HE2, hide (HB.out.alloc szB _)⟩, by simp [intOf]; omega⟩
  ·have hge : (N : Int) ≤ (k : Int) := by omega
   have E2 := HE.out;rw [List.drop_eq_nil_of_le (by have := HN.out; omega)] at E2;simp only [notR] at E2;rw [if_pos hx1] at E2;have HE2 := hide E2;clear E2 HE;have szB := HB.out.size;have LE : Hid (acc.length + 1 ≤ 1000000) := hide (by have := HL.out; omega)
   go_wp2_with (at_builtin; refine wpList_appR _ rfl _ _ rfl w.heap.size _ _ rfl (HO.out.alloc _) _ 1 1 _ [(x, 9223372036854775807)] rfl rfl (heap_top _ _) rfl LE.out (by simp; omega) ?_; intro v8 w8 hO8 hb8; have O8 := hide hO8; have B8 := hide ((HB.out.alloc szB _).trans hb8); clear hO8 hb8)
   go_ret
   refine ⟨⟨_, rfl, ?_⟩, B8.out⟩;have := O8.out;rw [← HE2.out]; exact this
end Go.Proofs.YtlkcjhcmkaddaaaGreat
namespace Go.Proofs.YtlkcjhcmkaddaaaGreat
open Go.RowKit
theorem strCells_one (l : List ByteArray) : ∀ u ∈ l.map Value.string, u.oneCell' = true := by
 intro u hu;obtain ⟨s, _, rfl⟩ := List.mem_map.1 hu
 rfl
theorem infoSt : (Tryz.prog.info? 9).map (fun i => (i.zero, i.size, i.bytes)) = some (some (.string ⟨#[]⟩), 1, 16) := by kernel_rfl
def OwnS (w : World) (B : Nat) (v : Value) (l : List ByteArray) : Prop := w.ownsRow B 9 1 v l.length (l.map Value.string)
theorem OwnS.alloc {w : World} {B : Nat} {v : Value} {l : List ByteArray} (h : OwnS w B v l) (o : Obj) : OwnS (w.alloc o) B v l := World.ownsRow.alloc h o
theorem OwnS.drewN {w : World} {B : Nat} {v : Value} {l : List ByteArray} (h : OwnS w B v l) (n : Nat) : OwnS (w.drewN n) B v l := h
theorem OwnS.grownB {w w' : World} {B : Nat} {v : Value} {l : List ByteArray} (h : OwnS w B v l) (hB : B ≤ w.heap.size) (hg : w.grownBy w' v.ownBlock) : Below B w w' :=
 (Below.refl _ _).grown hg hB (fun k hk => (World.ownsRow.lt h k hk).1)
theorem OwnS.on {w w' : World} {B : Nat} {v : Value} {l : List ByteArray} (h : OwnS w B v l) (hb : Below w.heap.size w w') : OwnS w' B v l :=
 World.ownsRow.kept (row := none) h ⟨hb.os, hb.tape, hb.output, hb.size, fun k hk _ => hb.block k hk⟩ (by cases v.ownBlock <;> simp)
theorem ownS_none (w : World) (B : Nat) : OwnS w B (.slice none 0 0) [] := ⟨rfl, Or.inl ⟨rfl, rfl⟩⟩
theorem wpList_appS {ops : Array Oper} {rest : List Oper} {o : Oper} {a : Act} {Q : Exit → Act → World → Prop} (w : World) (hgd : o.guard = none) (s x : Operand)
  (ho : o.op = .call { callee := .builtin .append, args := #[s, x], argTypes := #[23, 23] })
  (B : Nat) (v : Value) (l : List ByteArray) (hs : a.eval s = v) (hown : OwnS w B v l) (g m c : Nat) (cs : Array Value) (news : List ByteArray) (hm : news.length = m)
  (hx : a.eval x = .slice (some ⟨g, 0, none⟩) m c) (hb : w.heap[g]? = some (.cells cs 9 (0, 0))) (hcs : cs.toList = news.map Value.string) (hlen : l.length + m ≤ 1000000) (hB : B ≤ w.heap.size)
  (h : ∀ v' w', OwnS w' B v' (l ++ news) → Below B w w' → wpList Tryz.prog ops Q rest (a.put o.dst v') w') : wpList Tryz.prog ops Q (o :: rest) a w := by
 obtain ⟨i0, hi, hz0, hz1, hz2⟩ := info_parts infoSt;refine wpList_append_own w hgd s x 23 ho B 9 i0 _ 1 16 Tryz.underlying23 hi hz0 hz1 hz2 rfl (by decide) v l.length (l.map Value.string) hs hown ⟨g, 0, none⟩ m c (news.map Value.string) hx (by simp [hm]) ?_ (strCells_one _) (by unfold maxLen; omega) (by omega) hB ?_
 ·rw [← hcs]; exact World.news_of_block hb
 ·intro v' w' h1 h2 _;refine h v' w' ?_ (OwnS.grownB hown hB h2);unfold OwnS;rw [List.length_append, hm, List.map_append];exact h1
theorem wpList_appRowS {ops : Array Oper} {rest : List Oper} {o : Oper} {a : Act} {Q : Exit → Act → World → Prop} (w : World) (hgd : o.guard = none) (s x : Operand)
  (ho : o.op = .call { callee := .builtin .append, args := #[s, x], argTypes := #[23, 23] })
  (B : Nat) (v u : Value) (l m : List ByteArray) (hs : a.eval s = v) (hown : OwnS w B v l) (hu : a.eval x = u) (hx : StrsAt w u m) (hlen : l.length + m.length ≤ 1000000) (hB : B ≤ w.heap.size)
  (h : ∀ v' w', OwnS w' B v' (l ++ m) → Below B w w' → wpList Tryz.prog ops Q rest (a.put o.dst v') w') : wpList Tryz.prog ops Q (o :: rest) a w := by
 obtain ⟨i0, hi, hz0, hz1, hz2⟩ := info_parts infoSt;obtain ⟨_, _, ad, cap, rfl, hel⟩ := hx;cases ad with
 | none =>
  have hm : m = [] := by
   cases m with
   | nil => rfl
   | cons r m =>
    obtain ⟨b, off, e, _⟩ := hel 0 (by simp);cases e
  subst hm;refine wpList_append_own_none hgd s x 23 ho B 9 i0 1 Tryz.underlying23 hi v l.length (l.map Value.string) hs hown hu ?_;refine h v w ?_ (Below.refl _ _);rw [List.append_nil]; exact hown
 | some ad =>
  refine wpList_append_own w hgd s x 23 ho B 9 i0 _ 1 16 Tryz.underlying23 hi hz0 hz1 hz2 rfl (by decide) v l.length (l.map Value.string) hs hown ad m.length _ (m.map Value.string) hu (by simp) ?_ (strCells_one _) (by unfold maxLen; omega) (by omega) hB ?_
  ·intro j u hj;have hjl : j < m.length := by
    have := (List.getElem?_eq_some_iff.1 hj).1
    simpa using this
   obtain ⟨b, off, e, _, c0⟩ := hel j hjl
   simp at e
   subst e;rw [Go.WideShapes.add_plain, c0, ← hj, List.getElem?_map, List.getElem?_eq_getElem hjl, List.getD_eq_getElem?_getD, List.getElem?_eq_getElem hjl]
   rfl
  ·intro v' w' h1 h2 _;refine h v' w' ?_ (OwnS.grownB hown hB h2);unfold OwnS;rw [List.length_append, List.map_append];exact h1
theorem OwnS.cellAt {w : World} {B g n cap : Nat} {l : List ByteArray} (h : OwnS w B (.slice (some ⟨g, 0, none⟩) n cap) l) (i : Nat) (hi : i < l.length) : w.cell? ⟨g, i, none⟩ = some (.string (l.getD i ⟨#[]⟩)) := by
 obtain ⟨hl, hr⟩ := h;rcases hr with ⟨h0, _⟩ | ⟨g', cap', cur, h1, h2, h3, h4, h5, h6, h7⟩
 ·cases h0
 ·injection h1 with e1 e2 e3
  injection e1 with e1
  injection e1 with e1
  subst e1;have hc : w.cell? ⟨g, i, none⟩ = (l.map Value.string)[i]? := by
   rw [cell_heap h3, ← h7, List.getElem?_take, if_pos (by omega)]
   simp
  rw [hc, List.getElem?_map, List.getElem?_eq_getElem hi, List.getD_eq_getElem?_getD, List.getElem?_eq_getElem hi]
  rfl
theorem OwnS.strs {w : World} {B : Nat} {v : Value} {l : List ByteArray} (h : OwnS w B v l) (hi : ∀ s ∈ l, s.size ≤ 9223372036854775807) (hl : l.length ≤ 9223372036854775807) : StrsAt w v l := by
 refine ⟨hi, hl, ?_⟩;rcases h.2 with ⟨e, h0⟩ | ⟨g, cap, cur, e, _, hg, hc, _⟩
 ·exact ⟨none, 0, by rw [e, h0]; rfl, fun i hi' => by omega⟩
 ·obtain ⟨sp, hsp⟩ := capOf_of (a := some ⟨g, 0, none⟩) hc (fun e => by cases e);subst e;refine ⟨_, sp, by rw [← hsp], fun i hi' => ⟨g, 0, rfl, lt_heap hg, ?_⟩⟩;rw [Nat.zero_add]; exact h.cellAt i hi'
theorem rngs_nil {w : World} {u : Value} {m : List Rg} (h : RngsAt w u m) : ∀ n c, u = .slice none n c → u = .slice none 0 0 := by
 rintro n c rfl;obtain ⟨h1, h2⟩ := h.room.2 rfl;rw [h1, h2]
theorem ownS_grown {w : World} {c : Nat} {cs : Array Value} (hc : c ≤ maxLen) (hs : cs.size = c * 1) : OwnS (w.drew.alloc (.cells cs 9)) w.heap.size (.slice (some ⟨w.heap.size, 0, none⟩) 0 c) [] := by
 refine ⟨rfl, Or.inr ⟨w.heap.size, c, cs, rfl, Nat.le_refl _, ?_, Nat.zero_le _, hc, hs, ?_⟩⟩
 ·show (w.heap.push _)[w.heap.size]? = _
  simp
 ·show List.take (0 * 1) _ = [];rw [Nat.zero_mul]; rfl
set_option maxHeartbeats 2000000 in
set_option maxRecDepth 100000 in
theorem growS_any (n : Nat) (w : World) (hn : n ≤ 100000) :
  Calls Tryz.prog 119 #[.slice none 0 0, .int .i64 n] w fun r w' => (∃ u, r = .returned u ∧ OwnS w' w.heap.size u []) ∧ Below w.heap.size w w' := by
 rcases Nat.eq_zero_or_pos n with h0 | h0
 ·subst h0;go_enter Tryz.func119, Tryz.ntmps119
  go_wp2
  go_ret
  exact ⟨⟨_, rfl, ownS_none _ _⟩, Below.refl _ _⟩
 ·obtain ⟨i0, hi, hz0, hz1, hz2⟩ := info_parts infoSt;have A := hide (fun ty => Lib.run_append_nil_zeros (P := Tryz.prog) w 23 3 ty 9 i0 _ .i64 .i64 Tryz.underlying23 Tryz.underlying3 hi hz0 n h0 (by rw [hz1]; omega) (by omega) (by rw [hz2]; omega));have hc1 := grownCap_ge w n 0 9;have hc2 := grownCap_le_maxLen w n 0 9 (by unfold maxLen; omega);generalize grownCap w n 0 9 = c at *;have HC2 := hide hc2;clear hi hz0 hz1 hz2 hc2;go_enter Tryz.func119, Tryz.ntmps119
  go_wp2_with (at_builtin; refine Lib.wpList_append_run _ rfl _ _ _ _ rfl _ _ rfl rfl _ _ (A.out _) ?_)
  go_ret
  refine ⟨⟨_, rfl, ownS_grown HC2.out ?_⟩, ((Below.refl _ _).drew).alloc (Nat.le_refl _) _⟩;rw [Array.size_append, size_zeroCells, size_zeroCells, ← Nat.add_mul, show n + (c - n) = c by omega]
  rfl
set_option maxHeartbeats 4000000 in
set_option maxRecDepth 100000 in
theorem concatS_any (g : Nat) (va vb : Value) (la lb : List ByteArray) (w : World) (hg : w.heap[g]? = some (.cells #[va, vb] 23 (0, 0))) (ha : StrsAt w va la) (hb : StrsAt w vb lb) (hl : la.length + lb.length ≤ 100000) :
  Calls Tryz.prog 115 #[.slice (some ⟨g, 0, none⟩) 2 2] w fun r w' => (∃ u, r = .returned u ∧ OwnS w' w.heap.size u (la ++ lb)) ∧ Below w.heap.size w w' := by
 have HA := hide ha;have HB := hide hb;have hlt := lt_heap hg;have c0 := cell_heap hg 0;have c1 := cell_heap hg 1;simp only [List.getElem?_toArray, List.getElem?_cons_zero, List.getElem?_cons_succ] at c0 c1;obtain ⟨pa, ca, rfl⟩ := ha.form;obtain ⟨pb, cb, rfl⟩ := hb.form;have HL := hide hl;clear ha hb hg;have GR := hide (growS_any (la.length + lb.length) w hl);obtain ⟨x, hx⟩ : ∃ x : Nat, x = la.length := ⟨_, rfl⟩
 obtain ⟨y, hy⟩ : ∃ y : Nat, y = lb.length := ⟨_, rfl⟩
 rw [← hx] at hl HL c0 HA GR;rw [← hy] at hl HL c1 HB GR;have HX := hide hx;have HY := hide hy;clear hx hy;go_enter Tryz.func115, Tryz.ntmps115
 go_wp2
 go_loopw [3, 11] (fun s i wr => wr = w ∧ ((i = .int .i64 0 ∧ s = .int .i64 0) ∨ (i = .int .i64 1 ∧ s = .int .i64 (x : Int)) ∨ (i = .int .i64 2 ∧ s = .int .i64 ((x : Int) + (y : Int))))) (fun _ i _ => 2 - (intOf i).toNat)
 case atStart => exact ⟨rfl, Or.inl ⟨rfl, rfl⟩⟩
 case round =>
  obtain ⟨rfl, ⟨rfl, rfl⟩ | ⟨rfl, rfl⟩ | ⟨rfl, rfl⟩⟩ := hrel
  ·go_wp2
   exact ⟨⟨trivial, Or.inr (Or.inl ⟨rfl, by first | rfl | simp⟩)⟩, by simp [intOf]⟩
  ·go_wp2
   exact ⟨⟨trivial, Or.inr (Or.inr ⟨rfl, rfl⟩)⟩, by simp [intOf]⟩
  ·rw [Int.natCast_add] at GR
   go_wp2_with fail
   refine (unhide GR).mono ?_;rintro r w1 ⟨⟨u1, rfl, o1⟩, b1⟩;have c0' := (b1.cell (p := ⟨g, 0, none⟩) hlt).trans c0;have c1' := (b1.cell (p := ⟨g, 1, none⟩) hlt).trans c1;have O1 := hide o1;have B1 := hide b1;clear GR o1 b1
   go_wp2
   go_loopw [6, 27] (fun o i wr' => Hid (Below wr.heap.size wr wr') ∧ ((i = .int .i64 0 ∧ Hid (OwnS wr' wr.heap.size o [])) ∨ (i = .int .i64 1 ∧ Hid (OwnS wr' wr.heap.size o la)) ∨ (i = .int .i64 2 ∧ Hid (OwnS wr' wr.heap.size o (la ++ lb))))) (fun _ i _ => 2 - (intOf i).toNat)
   case atStart => exact ⟨B1, Or.inl ⟨rfl, O1⟩⟩
   case round =>
    clear c0' c1' B1 O1;obtain ⟨HW, ⟨rfl, HO⟩ | ⟨rfl, HO⟩ | ⟨rfl, HO⟩⟩ := hrel
    ·have d0 := (HW.out.cell (p := ⟨g, 0, none⟩) hlt).trans c0;have szW := HW.out.size;have LE : Hid (([] : List ByteArray).length + la.length ≤ 1000000) := hide (by have := HX.out; have := HL.out; simp; omega);have VA := hide (HA.out.on HW.out)
     go_wp2_with (at_builtin; refine wpList_appRowS _ rfl _ _ rfl _ _ _ _ la rfl HO.out rfl VA.out LE.out szW ?_; intro v8 w8 hO8 hb8; have O8 := hide hO8; have B8 := hide (HW.out.trans hb8); clear hO8 hb8)
     rw [List.nil_append] at O8;exact ⟨⟨B8, Or.inr (Or.inl ⟨rfl, O8⟩)⟩, by simp [intOf]⟩
    ·have d0 := (HW.out.cell (p := ⟨g, 1, none⟩) hlt).trans c1;have szW := HW.out.size;have LE : Hid (la.length + lb.length ≤ 1000000) := hide (by have := HX.out; have := HY.out; have := HL.out; omega);have VB := hide (HB.out.on HW.out)
     go_wp2_with (at_builtin; refine wpList_appRowS _ rfl _ _ rfl _ _ _ _ lb rfl HO.out rfl VB.out LE.out szW ?_; intro v8 w8 hO8 hb8; have O8 := hide hO8; have B8 := hide (HW.out.trans hb8); clear hO8 hb8)
     exact ⟨⟨B8, Or.inr (Or.inr ⟨rfl, O8⟩)⟩, by simp [intOf]⟩
    ·go_wp2
     go_ret
     exact ⟨⟨_, rfl, HO.out⟩, HW.out⟩
end Go.Proofs.YtlkcjhcmkaddaaaGreat
namespace Go.Proofs.YtlkcjhcmkaddaaaGreat
open Go.RowKit
section
variable {ops : Array Oper} {S : World → Prop} {o : Oper} {a : Act}
theorem yt_lenR (hw : Region.wanted o (yielded ops a.tmps) = true) (x : Operand) (ho : o.op = .call { callee := .builtin .len, args := #[x], argTypes := #[22] }) (p : Option Addr) (n c : Nat) (hx : a.eval x = .slice p n c) : YieldsIf Tryz.prog ops S o (.int .i64 n) a :=
 Or.inl ⟨hw, fun w hS => by
  unfold execOp;simp only [ho, resolve, invoke, builtin, Sem.run_bind, Sem.run_pure, Result.andThen_ok, List.map_toArray, List.map_cons, List.map_nil, hx];go_simp⟩
theorem yt_lenT (hw : Region.wanted o (yielded ops a.tmps) = true) (x : Operand) (ho : o.op = .call { callee := .builtin .len, args := #[x], argTypes := #[23] }) (p : Option Addr) (n c : Nat) (hx : a.eval x = .slice p n c) : YieldsIf Tryz.prog ops S o (.int .i64 n) a :=
 Or.inl ⟨hw, fun w hS => by
  unfold execOp;simp only [ho, resolve, invoke, builtin, Sem.run_bind, Sem.run_pure, Result.andThen_ok, List.map_toArray, List.map_cons, List.map_nil, hx];go_simp⟩
set_option maxRecDepth 100000 in
theorem yt_atR (hw : Region.wanted o (yielded ops a.tmps) = true) (x y : Operand) (ho : o.op = .indexAddr 22 x y) (b off n c i : Nat) (hx : a.eval x = .slice (some ⟨b, off, none⟩) n c) (hy : a.eval y = .int .i64 i) (hi : i < n) : YieldsIf Tryz.prog ops S o (.pointer (some ⟨b, off + i * 2, none⟩)) a :=
 Or.inl ⟨hw, fun w hS => by
  simp only [execOp, ho, hx, hy];go_simp⟩
set_option maxRecDepth 100000 in
theorem yt_atT (hw : Region.wanted o (yielded ops a.tmps) = true) (x y : Operand) (ho : o.op = .indexAddr 23 x y) (b off n c i : Nat) (hx : a.eval x = .slice (some ⟨b, off, none⟩) n c) (hy : a.eval y = .int .i64 i) (hi : i < n) : YieldsIf Tryz.prog ops S o (.pointer (some ⟨b, off + i * 1, none⟩)) a :=
 Or.inl ⟨hw, fun w hS => by
  simp only [execOp, ho, hx, hy];go_simp⟩
end
theorem rn_appRowS {o : Oper} {w : World} (a : Act) (s x : Operand) (ho : o.op = .call { callee := .builtin .append, args := #[s, x], argTypes := #[23, 23] }) (B : Nat) (v u : Value) (l m : List ByteArray) (hs : a.eval s = v) (hown : OwnS w B v l)
  (hx : a.eval x = u) (hm : StrsAt w u m) (hn : l.length + m.length ≤ 1000000) (hB : B ≤ w.heap.size) :
  ∃ v' w', (execOp a.eval o).run Tryz.prog w = .ok (.value v') w' ∧ OwnS w' B v' (l ++ m) ∧ w.grownBy w' v.ownBlock := by
 obtain ⟨i0, hi, hz0, hz1, hz2⟩ := info_parts cInfoS;have hrm := hm;obtain ⟨_, _, ad, cap, rfl, hel⟩ := hm;cases ad with
 | none =>
  obtain ⟨e1, e2⟩ := hrm.room.2 rfl;have hm0 : m = [] := List.length_eq_zero_iff.1 e1;subst hm0;have hr := run_append_owned_none (P := Tryz.prog) (w := w) B 23 o.type 9 i0 1 Tryz.underlying23 hi v l.length (l.map Value.string) hown;refine ⟨v, w, ?_, by rw [List.append_nil]; exact hown, grown_refl _ _⟩;unfold execOp;simp only [ho, resolve, invoke, builtin, Sem.run_bind, Sem.run_pure, Result.andThen_ok, List.map_toArray, List.map_cons, List.map_nil, hs, hx, List.length_nil, capOf];rw [hr]
  rfl
 | some ad =>
  obtain ⟨v', w', hr, h2, h3, _⟩ := run_append_own (P := Tryz.prog) w B 23 o.type 9 i0 _ 1 16 Tryz.underlying23 hi hz0 hz1 hz2 rfl (by decide) v l.length (l.map Value.string) hown ad m.length (capOf (some ad) m.length cap) (m.map Value.string) (by simp) (fun j u hj => by
   have hjl : j < m.length := by
    have := (List.getElem?_eq_some_iff.1 hj).1
    simpa using this
   obtain ⟨b, off, e, _, c0⟩ := hel j hjl
   simp at e
   subst e;rw [Go.WideShapes.add_plain, c0, ← hj, List.getElem?_map, List.getElem?_eq_getElem hjl, List.getD_eq_getElem?_getD, List.getElem?_eq_getElem hjl]
   rfl) (fun u hu => by
   obtain ⟨s, _, rfl⟩ := List.mem_map.1 hu
   rfl) (by unfold maxLen; omega) (by omega) hB
  refine ⟨v', w', ?_, ?_, h3⟩
  ·unfold execOp;simp only [ho, resolve, invoke, builtin, Sem.run_bind, Sem.run_pure, Result.andThen_ok, List.map_toArray, List.map_cons, List.map_nil, hs, hx, hr]
  ·show w'.ownsRow B 9 1 v' (l ++ m).length ((l ++ m).map Value.string);rw [List.map_append, List.length_append];exact h2
end Go.Proofs.YtlkcjhcmkaddaaaGreat
namespace Go.Proofs.YtlkcjhcmkaddaaaGreat
def cutRg (r s : Rg) : List Rg := if max r.1 s.1 ≤ min r.2 s.2 then [(max r.1 s.1, min r.2 s.2)] else []
def andR1 (r : Rg) (b : List Rg) : List Rg := b.flatMap (cutRg r)
def andRg (a b : List Rg) : List Rg := a.flatMap fun r => andR1 r b
theorem memR_flat {α : Type} (f : α → List Rg) (l : List α) (n : Int) : memR (l.flatMap f) n ↔ ∃ x ∈ l, memR (f x) n := by
 unfold memR
 constructor
 ·rintro ⟨r, hr, h⟩;obtain ⟨x, hx, hr⟩ := List.mem_flatMap.1 hr;exact ⟨x, hx, r, hr, h⟩
 ·rintro ⟨x, hx, r, hr, h⟩;exact ⟨r, List.mem_flatMap.2 ⟨x, hx, hr⟩, h⟩
theorem cutRg_mem (r s : Rg) (n : Int) : memR (cutRg r s) n ↔ (r.1 ≤ n ∧ n ≤ r.2) ∧ (s.1 ≤ n ∧ n ≤ s.2) := by
 unfold cutRg
 split
 ·rw [memR_cons];simp only [memR_nil, or_false];omega
 ·simp only [memR_nil, false_iff];omega
theorem andRg_mem (a b : List Rg) (n : Int) : memR (andRg a b) n ↔ memR a n ∧ memR b n := by
 unfold andRg andR1;rw [memR_flat]
 constructor
 ·rintro ⟨r, hr, h⟩;rw [memR_flat] at h;obtain ⟨s, hs, h⟩ := h;rw [cutRg_mem] at h;exact ⟨⟨r, hr, h.1⟩, s, hs, h.2⟩
 ·rintro ⟨⟨r, hr, h1⟩, s, hs, h2⟩;refine ⟨r, hr, ?_⟩;rw [memR_flat];exact ⟨s, hs, (cutRg_mem r s n).2 ⟨h1, h2⟩⟩
theorem andR1_right (r : Rg) (hr : r.1 ≤ r.2) : ∀ (b : List Rg) (c : Int), rightFrom c b → rightFrom (max c (r.1 - 1)) (andR1 r b)
 | [], _, _ => trivial
 | s :: b, c, ⟨h1, h2, h3⟩ => by
  have ih := andR1_right r hr b _ h3;unfold andR1 at ih ⊢;rw [List.flatMap_cons];unfold cutRg
  split
  ·refine ⟨by dsimp only; omega, by dsimp only; omega, rightFrom_mono ih (by dsimp only; omega)⟩
  ·rw [List.nil_append];exact rightFrom_mono ih (by omega)
theorem andR1_hi (r : Rg) (b : List Rg) : ∀ q ∈ andR1 r b, q.2 ≤ r.2 := by
 intro q hq;unfold andR1 at hq;obtain ⟨s, _, hq⟩ := List.mem_flatMap.1 hq;unfold cutRg at hq
 split at hq
 ·rw [List.mem_singleton] at hq;subst hq;dsimp only;omega
 ·cases hq
theorem rightFrom_app {M : Int} {y : List Rg} (hy : rightFrom (M + 1) y) : ∀ (x : List Rg) (c : Int), rightFrom c x → (∀ q ∈ x, q.2 ≤ M) → c ≤ M + 1 → rightFrom c (x ++ y)
 | [], c, _, _, hc => rightFrom_mono hy hc
 | q :: x, c, ⟨h1, h2, h3⟩, hq, hc => ⟨h1, h2, rightFrom_app hy x _ h3 (fun z hz => hq z (by simp [hz])) (by have := hq q (by simp); omega)⟩
theorem andRg_from (b : List Rg) (hb : rightR b) : ∀ (a : List Rg) (c : Int), rightFrom c a → rightFrom c (andRg a b)
 | [], _, _ => trivial
 | r :: a, c, ⟨h1, h2, h3⟩ => by
  have ih := andRg_from b hb a _ h3;unfold andRg at ih ⊢;rw [List.flatMap_cons];obtain ⟨c0, hc0⟩ := rightR_lt hb;exact rightFrom_app (M := r.2) ih _ c (rightFrom_mono (andR1_right r h2 b c0 hc0) (by omega)) (andR1_hi r b) (by omega)
theorem andRg_right {a b : List Rg} (ha : rightR a) (hb : rightR b) : rightR (andRg a b) := by
 obtain ⟨c, hc⟩ := rightR_lt ha;exact rightFrom_right (andRg_from b hb a c hc)
theorem andRg_i64 {a b : List Rg} (ha : inI64 a) (hb : inI64 b) : inI64 (andRg a b) := by
 intro q hq;unfold andRg andR1 at hq;obtain ⟨r, hr, hq⟩ := List.mem_flatMap.1 hq;obtain ⟨s, hs, hq⟩ := List.mem_flatMap.1 hq;have h1 := ha r hr;have h2 := hb s hs;unfold cutRg at hq
 split at hq
 ·rw [List.mem_singleton] at hq;subst hq;dsimp only;omega
 ·cases hq
def mergeF : Nat → List ByteArray → List ByteArray → List ByteArray
 | 0, _, _ => []
 | _ + 1, [], b => b
 | _ + 1, x :: a, [] => x :: a
 | n + 1, x :: a, y :: b => if Op.bytesLess x.toList y.toList = true then x :: mergeF n a (y :: b) else if Op.bytesLess y.toList x.toList = true then y :: mergeF n (x :: a) b else x :: mergeF n a b
theorem mergeF_mem : ∀ (n : Nat) (a b : List ByteArray), a.length + b.length ≤ n → ∀ s, s ∈ mergeF n a b ↔ s ∈ a ∨ s ∈ b
 | 0, a, b, h, s => by
  have e1 : a = [] := List.eq_nil_of_length_eq_zero (by omega);have e2 : b = [] := List.eq_nil_of_length_eq_zero (by omega);subst e1 e2
  simp [mergeF]
 | n + 1, [], b, _, s => by simp [mergeF]
 | n + 1, x :: a, [], _, s => by simp [mergeF]
 | n + 1, x :: a, y :: b, h, s => by
  have hl : a.length + b.length + 1 ≤ n := by simp at h; omega
  unfold mergeF
  split
  ·rw [List.mem_cons, mergeF_mem n a (y :: b) (by simp; omega)];simp only [List.mem_cons, or_assoc]
  ·split
   ·rw [List.mem_cons, mergeF_mem n (x :: a) b (by simp; omega), List.mem_cons];simp only [List.mem_cons]
    constructor
    ·rintro (h | h | h)
     ·exact Or.inr (Or.inl h)
     ·exact Or.inl h
     ·exact Or.inr (Or.inr h)
    ·rintro (h | h | h)
     ·exact Or.inr (Or.inl h)
     ·exact Or.inl h
     ·exact Or.inr (Or.inr h)
   ·rename_i h1 h2
    have e : x = y := by
     rcases lessB_tri x.toList y.toList with h | h | h
     ·exact absurd h h1
     ·exact toList_inj h
     ·exact absurd h h2
    subst e;rw [List.mem_cons, mergeF_mem n a b (by omega)];simp only [List.mem_cons]
    constructor
    ·rintro (h | h | h)
     ·exact Or.inl (Or.inl h)
     ·exact Or.inl (Or.inr h)
     ·exact Or.inr (Or.inr h)
    ·rintro ((h | h) | (h | h))
     ·exact Or.inl h
     ·exact Or.inr (Or.inl h)
     ·exact Or.inl h
     ·exact Or.inr (Or.inr h)
theorem rises_ltm {x : ByteArray} {a : List ByteArray} (h : risesS ((x :: a).map fun b => b.toList)) : ∀ s ∈ a, Op.bytesLess x.toList s.toList = true := fun s hs => h.1 _ (List.mem_map.2 ⟨s, hs, rfl⟩)
theorem mergeF_rises : ∀ (n : Nat) (a b : List ByteArray), a.length + b.length ≤ n → risesS (a.map fun b => b.toList) → risesS (b.map fun b => b.toList) → risesS ((mergeF n a b).map fun b => b.toList)
 | 0, a, b, _, _, _ => by simp [mergeF, risesS]
 | n + 1, [], b, _, _, hb => by simpa [mergeF] using hb
 | n + 1, x :: a, [], _, ha, _ => by simpa [mergeF] using ha
 | n + 1, x :: a, y :: b, h, ha, hb => by
  have hl : a.length + b.length + 1 ≤ n := by simp at h; omega
  unfold mergeF
  split
  ·rename_i hxy
   refine ⟨fun z hz => ?_, mergeF_rises n a (y :: b) (by simp; omega) ha.2 hb⟩;obtain ⟨s, hs, rfl⟩ := List.mem_map.1 hz;rw [mergeF_mem n a (y :: b) (by simp; omega), List.mem_cons] at hs;rcases hs with hs | rfl | hs
   ·exact rises_ltm ha s hs
   ·exact hxy
   ·exact lessB_trans _ _ _ hxy (rises_ltm hb s hs)
  ·split
   ·rename_i hyx
    refine ⟨fun z hz => ?_, mergeF_rises n (x :: a) b (by simp; omega) ha hb.2⟩;obtain ⟨s, hs, rfl⟩ := List.mem_map.1 hz;rw [mergeF_mem n (x :: a) b (by simp; omega), List.mem_cons] at hs;rcases hs with (rfl | hs) | hs
    ·exact hyx
    ·exact lessB_trans _ _ _ hyx (rises_ltm ha s hs)
    ·exact rises_ltm hb s hs
   ·rename_i h1 h2
    have e : x = y := by
     rcases lessB_tri x.toList y.toList with h | h | h
     ·exact absurd h h1
     ·exact toList_inj h
     ·exact absurd h h2
    subst e;refine ⟨fun z hz => ?_, mergeF_rises n a b (by omega) ha.2 hb.2⟩;obtain ⟨s, hs, rfl⟩ := List.mem_map.1 hz;rw [mergeF_mem n a b (by omega)] at hs;rcases hs with hs | hs
    ·exact rises_ltm ha s hs
    ·exact rises_ltm hb s hs
def refAndV (A B : SetV) : SetV := ⟨A.absent && B.absent, andRg A.ints B.ints, A.co && B.co, (mergeF (A.strs.length + B.strs.length) A.strs B.strs).filter fun s => ((inStrsB A.strs s != A.co) && (inStrsB B.strs s != B.co)) != (A.co && B.co)⟩
theorem merge_right {a b : List ByteArray} (ha : rightS a) (hb : rightS b) : rightS (mergeF (a.length + b.length) a b) := ⟨fun s hs => by
 rcases (mergeF_mem _ a b (Nat.le_refl _) s).1 hs with h | h
 ·exact ha.1 s h
 ·exact hb.1 s h, mergeF_rises _ a b (Nat.le_refl _) ha.2 hb.2⟩
theorem refAndV_good {A B : SetV} (hA : Good A) (hB : Good B) : Good (refAndV A B) :=
 ⟨(rightSet_iff _).2 ⟨andRg_right hA.ri hB.ri, filter_right _ _ (merge_right hA.rs hB.rs)⟩, andRg_i64 hA.i hB.i⟩
theorem refAndV_has {A B : SetV} (hA : Good A) (hB : Good B) (p : Va) : hasP (refAndV A B) p = (hasP A p && hasP B p) := by
 by_cases hp : rightV p
 ·rcases rightV_cases hp with rfl | ⟨n, rfl⟩ | ⟨s, hs, rfl⟩
  ·rw [has_abs, has_abs, has_abs]; rfl
  ·rw [has_num, has_num, has_num];refine bool_of_iff ?_;rw [inInts_iff, Bool.and_eq_true, inInts_iff, inInts_iff];exact andRg_mem A.ints B.ints n
  ·rw [has_str _ hs, has_str _ hs, has_str _ hs];show (inStrsB ((mergeF (A.strs.length + B.strs.length) A.strs B.strs).filter _) s != (A.co && B.co)) = _;have hor : inStrsB (mergeF (A.strs.length + B.strs.length) A.strs B.strs) s = (inStrsB A.strs s || inStrsB B.strs s) := by
    refine bool_of_iff ?_;rw [inStrs_iff, Bool.or_eq_true, inStrs_iff, inStrs_iff];exact mergeF_mem _ _ _ (Nat.le_refl _) s
   rw [inStrs_filter, hor];cases A.co <;> cases B.co <;> cases inStrsB A.strs s <;> cases inStrsB B.strs s <;> rfl
 ·rw [has_wrong _ hp, has_wrong _ hp, has_wrong _ hp]; rfl
theorem mergeF_len : ∀ (n : Nat) (a b : List ByteArray), (mergeF n a b).length ≤ a.length + b.length
 | 0, a, b => by simp [mergeF]
 | n + 1, [], b => by simp [mergeF]
 | n + 1, x :: a, [] => by simp [mergeF]
 | n + 1, x :: a, y :: b => by
  unfold mergeF
  split
  ·have := mergeF_len n a (y :: b); simp at this ⊢; omega
  ·split
   ·have := mergeF_len n (x :: a) b; simp at this ⊢; omega
   ·have := mergeF_len n a b; simp at this ⊢; omega
theorem refAnd_eq {A B : SetV} (hA : Good A) (hB : Good B) (lA : A.strs.length ≤ 1000) (lB : B.strs.length ≤ 1000) : refAndV A B = andV A B := by
 refine good_ext (refAndV_good hA hB) (andV_good hA hB) ?_ (fun p b0 b1 => by rw [refAndV_has hA hB, andV_has hA hB p b0 b1]);have h1 : (refAndV A B).strs.length ≤ A.strs.length + B.strs.length := Nat.le_trans (List.length_filter_le _ _) (mergeF_len _ _ _);have h2 := (andV_len hA hB).2;omega
end Go.Proofs.YtlkcjhcmkaddaaaGreat
namespace Go.Proofs.YtlkcjhcmkaddaaaGreat
open Go.RowKit
theorem mergeF_nil_l : ∀ (n : Nat) (b : List ByteArray), b.length ≤ n → mergeF n [] b = b
 | 0, b, h => by rw [List.eq_nil_of_length_eq_zero (Nat.le_zero.1 h)]; rfl
 | _ + 1, _, _ => rfl
theorem mergeF_nil_r : ∀ (n : Nat) (a : List ByteArray), a.length ≤ n → mergeF n a [] = a
 | 0, a, h => by rw [List.eq_nil_of_length_eq_zero (Nat.le_zero.1 h)]; rfl
 | _ + 1, [], _ => rfl
 | _ + 1, _ :: _, _ => rfl
def MergeS (a b acc : List ByteArray) (i k : Nat) : Prop := ∃ n, (a.length - i) + (b.length - k) ≤ n ∧ acc ++ mergeF n (a.drop i) (b.drop k) = mergeF (a.length + b.length) a b
theorem merge_first (a b : List ByteArray) : MergeS a b [] 0 0 := ⟨_, Nat.le_refl _, rfl⟩
theorem merge_last {a b acc : List ByteArray} {i k : Nat} (h : MergeS a b acc i k) (hi : a.length ≤ i) (hk : b.length ≤ k) : acc = mergeF (a.length + b.length) a b := by
 obtain ⟨n, _, e⟩ := h;rw [List.drop_eq_nil_of_le hi, List.drop_eq_nil_of_le hk, mergeF_nil_l n [] (Nat.zero_le _), List.append_nil] at e;exact e
theorem drop_at {a : List ByteArray} {i : Nat} (h : i < a.length) : a.drop i = a.getD i ⟨#[]⟩ :: a.drop (i + 1) := by
 rw [List.drop_eq_getElem_cons h, List.getD_eq_getElem?_getD, List.getElem?_eq_getElem h]; rfl
theorem merge_left {a b acc : List ByteArray} {i k : Nat} (h : MergeS a b acc i k) (hi : i < a.length) (hc : b.length ≤ k ∨ (k < b.length ∧ Op.bytesLess (a.getD i ⟨#[]⟩).toList (b.getD k ⟨#[]⟩).toList = true)) : MergeS a b (acc ++ [a.getD i ⟨#[]⟩]) (i + 1) k := by
 obtain ⟨n, hn, e⟩ := h;cases n with
 | zero => omega
 | succ n =>
  refine ⟨n, by omega, ?_⟩;rw [← e, drop_at hi, List.append_assoc]
  congr 1
  rcases hc with hc | ⟨hk, hc⟩
  ·rw [List.drop_eq_nil_of_le hc, mergeF_nil_r n _ (by rw [List.length_drop]; omega)]; rfl
  ·rw [drop_at hk];show _ = if _ then _ else _
   rw [if_pos hc]; rfl
theorem merge_right' {a b acc : List ByteArray} {i k : Nat} (h : MergeS a b acc i k) (hk : k < b.length) (hc : a.length ≤ i ∨ (i < a.length ∧ Op.bytesLess (a.getD i ⟨#[]⟩).toList (b.getD k ⟨#[]⟩).toList = false ∧ Op.bytesLess (b.getD k ⟨#[]⟩).toList (a.getD i ⟨#[]⟩).toList = true)) : MergeS a b (acc ++ [b.getD k ⟨#[]⟩]) i (k + 1) := by
 obtain ⟨n, hn, e⟩ := h;cases n with
 | zero => omega
 | succ n =>
  refine ⟨n, by omega, ?_⟩;rw [← e, drop_at hk, List.append_assoc]
  congr 1
  rcases hc with hc | ⟨hi, h1, h2⟩
  ·rw [List.drop_eq_nil_of_le hc, mergeF_nil_l n _ (by rw [List.length_drop]; omega)]; rfl
  ·rw [drop_at hi];show _ = if _ then _ else if _ then _ else _
   rw [if_neg (by rw [h1]; simp), if_pos h2]; rfl
theorem merge_both {a b acc : List ByteArray} {i k : Nat} (h : MergeS a b acc i k) (hi : i < a.length) (hk : k < b.length) (h1 : Op.bytesLess (a.getD i ⟨#[]⟩).toList (b.getD k ⟨#[]⟩).toList = false) (h2 : Op.bytesLess (b.getD k ⟨#[]⟩).toList (a.getD i ⟨#[]⟩).toList = false) : MergeS a b (acc ++ [a.getD i ⟨#[]⟩]) (i + 1) (k + 1) := by
 obtain ⟨n, hn, e⟩ := h;cases n with
 | zero => omega
 | succ n =>
  refine ⟨n, by omega, ?_⟩;rw [← e, drop_at hi, drop_at hk, List.append_assoc]
  congr 1
  show _ = if _ then _ else if _ then _ else _
  rw [if_neg (by rw [h1]; simp), if_neg (by rw [h2]; simp)]; rfl
set_option maxHeartbeats 4000000 in
set_option maxRecDepth 100000 in
theorem refMerge_any (v u : Value) (a b : List ByteArray) (w : World) (hv : StrsAt w v a) (hu : StrsAt w u b) (la : a.length ≤ 1000) (lb : b.length ≤ 1000) :
  Calls Tryz.prog 95 #[v, u] w fun r w' => (∃ x, r = .returned x ∧ OwnS w' w.heap.size x (mergeF (a.length + b.length) a b)) ∧ Below w.heap.size w w' := by
 have HV := hide hv;have HU := hide hu;obtain ⟨pa, ca, rfl⟩ := hv.form;obtain ⟨pb, cb, rfl⟩ := hu.form;clear hv hu;have M0 := hide (merge_first a b);obtain ⟨A, hA⟩ : ∃ n : Nat, n = a.length := ⟨_, rfl⟩
 obtain ⟨B, hB⟩ : ∃ n : Nat, n = b.length := ⟨_, rfl⟩
 rw [← hA] at la HV ⊢;rw [← hB] at lb HU ⊢;have HA := hide hA;have HB := hide hB;clear hA hB;go_enter Tryz.func95, Tryz.ntmps95
 go_wp2
 go_loopw [5, 6, 7] (fun o i j wr => ∃ (m k : Nat) (acc : List ByteArray), i = .int .i64 m ∧ j = .int .i64 k ∧ m ≤ A ∧ k ≤ B ∧ Hid (OwnS wr w.heap.size o acc) ∧ Hid (MergeS a b acc m k) ∧ Hid (acc.length ≤ m + k) ∧ Hid (Below w.heap.size w wr)) (fun _ i j _ => A + B - (intOf i).toNat - (intOf j).toNat)
 case atStart => exact ⟨0, 0, [], rfl, rfl, by omega, by omega, hide (ownS_none _ _), M0, hide (by simp), hide (Below.refl _ _)⟩
 case round =>
  clear M0;obtain ⟨m, k, acc, rfl, rfl, hm, hk, HO, HM, HL, HW⟩ := hrel;have szW := HW.out.size;by_cases hma : m < A
  ·by_cases hkb : k < B
   ·skip
    have ha : m < a.length := by rw [← HA.out]; exact hma
    obtain ⟨ba, oa, rfl, hba, x0⟩ := (HV.out.on HW.out).at.2 m ha;have hb : k < b.length := by rw [← HB.out]; exact hkb
    obtain ⟨bb, ob, rfl, hbb, y0⟩ := (HU.out.on HW.out).at.2 k hb;have d1 : decide ((m : Int) < (A : Int)) = true := by first | exact decide_eq_true (by omega) | exact decide_eq_false (by omega)
    have d2 : decide ((k : Int) < (B : Int)) = true := by first | exact decide_eq_true (by omega) | exact decide_eq_false (by omega)
    have d3 : ((k : Int) == (B : Int)) = false := by first | exact beq_iff_eq.2 (by omega) | exact beq_eq_false_iff_ne.2 (by omega)
    have d4 : ((m : Int) == (A : Int)) = false := by first | exact beq_iff_eq.2 (by omega) | exact beq_eq_false_iff_ne.2 (by omega)
    cases h1 : Op.bytesLess (a.getD m ⟨#[]⟩).toList (b.getD k ⟨#[]⟩).toList
    ·cases h2 : Op.bytesLess (b.getD k ⟨#[]⟩).toList (a.getD m ⟨#[]⟩).toList
     ·have MS0 := hide (merge_both HM.out ha hb h1 h2);generalize a.getD m ⟨#[]⟩ = ra at *;generalize b.getD k ⟨#[]⟩ = rb at *;have MS : Hid (MergeS a b (acc ++ [ra]) (m + 1) (k + 1)) := hide (MS0.out);have LE : Hid (acc.length + 1 ≤ 1000000) := hide (by have := HL.out; omega);clear HM
      go_wp2
      go_quiet (fail)
      skip
      go_wp2
      go_quiet (fail)
      skip
      go_wp2_with (at_builtin; refine wpList_appS _ rfl _ _ rfl w.heap.size _ _ rfl (OwnS.alloc (OwnS.drewN HO.out _) _) _ 1 1 _ [ra] rfl rfl (heap_top _ _) rfl LE.out (by simp; show _ ≤ wr.heap.size + 1; omega) ?_; intro v8 w8 hO8 hb8; have O8 := hide hO8; have B8 := hide (((below_drewN HW.out _).alloc szW _).trans hb8); clear hO8 hb8)
      exact ⟨⟨m + 1, k + 1, _, by go_num, by go_num, by omega, by omega, O8, MS, hide (by have := HL.out; simp; omega), B8⟩, by simp [intOf]; omega⟩
     ·have MS0 := hide (merge_right' HM.out hb (Or.inr ⟨ha, h1, h2⟩));generalize a.getD m ⟨#[]⟩ = ra at *;generalize b.getD k ⟨#[]⟩ = rb at *;have MS : Hid (MergeS a b (acc ++ [rb]) m (k + 1)) := hide (MS0.out);have LE : Hid (acc.length + 1 ≤ 1000000) := hide (by have := HL.out; omega);clear HM
      go_wp2
      go_quiet (fail)
      skip
      go_wp2
      go_quiet (fail)
      skip
      go_wp2_with (at_builtin; refine wpList_appS _ rfl _ _ rfl w.heap.size _ _ rfl (OwnS.alloc (OwnS.drewN HO.out _) _) _ 1 1 _ [rb] rfl rfl (heap_top _ _) rfl LE.out (by simp; show _ ≤ wr.heap.size + 1; omega) ?_; intro v8 w8 hO8 hb8; have O8 := hide hO8; have B8 := hide (((below_drewN HW.out _).alloc szW _).trans hb8); clear hO8 hb8)
      exact ⟨⟨m, k + 1, _, by first | rfl | (rw [hmA]) | (rw [← hmA]), by go_num, by omega, by omega, O8, MS, hide (by have := HL.out; simp; omega), B8⟩, by simp [intOf]; omega⟩
    ·have MS0 := hide (merge_left HM.out ha (Or.inr ⟨hb, h1⟩));generalize a.getD m ⟨#[]⟩ = ra at *;generalize b.getD k ⟨#[]⟩ = rb at *;have MS : Hid (MergeS a b (acc ++ [ra]) (m + 1) k) := hide (MS0.out);have LE : Hid (acc.length + 1 ≤ 1000000) := hide (by have := HL.out; omega);clear HM
     go_wp2
     go_quiet (fail)
     skip
     go_wp2_with (at_builtin; refine wpList_appS _ rfl _ _ rfl w.heap.size _ _ rfl (OwnS.alloc (OwnS.drewN HO.out _) _) _ 1 1 _ [ra] rfl rfl (heap_top _ _) rfl LE.out (by simp; show _ ≤ wr.heap.size + 1; omega) ?_; intro v8 w8 hO8 hb8; have O8 := hide hO8; have B8 := hide (((below_drewN HW.out _).alloc szW _).trans hb8); clear hO8 hb8)
     exact ⟨⟨m + 1, k, _, by go_num, by first | rfl | (rw [hkB]) | (rw [← hkB]), by omega, by omega, O8, MS, hide (by have := HL.out; simp; omega), B8⟩, by simp [intOf]; omega⟩
   ·have hkB : k = B := by omega
    have ha : m < a.length := by rw [← HA.out]; exact hma
    obtain ⟨ba, oa, rfl, hba, x0⟩ := (HV.out.on HW.out).at.2 m ha;have d1 : decide ((m : Int) < (A : Int)) = true := by first | exact decide_eq_true (by omega) | exact decide_eq_false (by omega)
    have d2 : decide ((k : Int) < (B : Int)) = false := by first | exact decide_eq_true (by omega) | exact decide_eq_false (by omega)
    have d3 : ((k : Int) == (B : Int)) = true := by first | exact beq_iff_eq.2 (by omega) | exact beq_eq_false_iff_ne.2 (by omega)
    have d4 : ((m : Int) == (A : Int)) = false := by first | exact beq_iff_eq.2 (by omega) | exact beq_eq_false_iff_ne.2 (by omega)
    have MS0 := hide (merge_left HM.out ha (Or.inl (by rw [← HB.out]; omega)));generalize a.getD m ⟨#[]⟩ = ra at *;have MS : Hid (MergeS a b (acc ++ [ra]) (m + 1) k) := hide (MS0.out);have LE : Hid (acc.length + 1 ≤ 1000000) := hide (by have := HL.out; omega);clear HM
    go_wp2
    go_quiet (fail)
    skip
    go_wp2_with (at_builtin; refine wpList_appS _ rfl _ _ rfl w.heap.size _ _ rfl (OwnS.alloc (OwnS.drewN HO.out _) _) _ 1 1 _ [ra] rfl rfl (heap_top _ _) rfl LE.out (by simp; show _ ≤ wr.heap.size + 1; omega) ?_; intro v8 w8 hO8 hb8; have O8 := hide hO8; have B8 := hide (((below_drewN HW.out _).alloc szW _).trans hb8); clear hO8 hb8)
    exact ⟨⟨m + 1, k, _, by go_num, by first | rfl | (rw [hkB]) | (rw [← hkB]), by omega, by omega, O8, MS, hide (by have := HL.out; simp; omega), B8⟩, by simp [intOf]; omega⟩
  ·by_cases hkb : k < B
   ·have hmA : m = A := by omega
    have hb : k < b.length := by rw [← HB.out]; exact hkb
    obtain ⟨bb, ob, rfl, hbb, y0⟩ := (HU.out.on HW.out).at.2 k hb;have d1 : decide ((m : Int) < (A : Int)) = false := by first | exact decide_eq_true (by omega) | exact decide_eq_false (by omega)
    have d2 : decide ((k : Int) < (B : Int)) = true := by first | exact decide_eq_true (by omega) | exact decide_eq_false (by omega)
    have d3 : ((k : Int) == (B : Int)) = false := by first | exact beq_iff_eq.2 (by omega) | exact beq_eq_false_iff_ne.2 (by omega)
    have d4 : ((m : Int) == (A : Int)) = true := by first | exact beq_iff_eq.2 (by omega) | exact beq_eq_false_iff_ne.2 (by omega)
    have MS0 := hide (merge_right' HM.out hb (Or.inl (by rw [← HA.out]; omega)));generalize b.getD k ⟨#[]⟩ = rb at *;have MS : Hid (MergeS a b (acc ++ [rb]) m (k + 1)) := hide (MS0.out);have LE : Hid (acc.length + 1 ≤ 1000000) := hide (by have := HL.out; omega);clear HM
    go_wp2
    go_quiet (fail)
    skip
    go_wp2
    go_quiet (fail)
    skip
    go_wp2_with (at_builtin; refine wpList_appS _ rfl _ _ rfl w.heap.size _ _ rfl (OwnS.alloc (OwnS.drewN HO.out _) _) _ 1 1 _ [rb] rfl rfl (heap_top _ _) rfl LE.out (by simp; show _ ≤ wr.heap.size + 1; omega) ?_; intro v8 w8 hO8 hb8; have O8 := hide hO8; have B8 := hide (((below_drewN HW.out _).alloc szW _).trans hb8); clear hO8 hb8)
    exact ⟨⟨m, k + 1, _, by first | rfl | (rw [hmA]) | (rw [← hmA]), by go_num, by omega, by omega, O8, MS, hide (by have := HL.out; simp; omega), B8⟩, by simp [intOf]; omega⟩
   ·have hmA : m = A := by omega
    have hkB : k = B := by omega
    have d1 : decide ((m : Int) < (A : Int)) = false := by first | exact decide_eq_true (by omega) | exact decide_eq_false (by omega)
    have d2 : decide ((k : Int) < (B : Int)) = false := by first | exact decide_eq_true (by omega) | exact decide_eq_false (by omega)
    have d3 : ((k : Int) == (B : Int)) = true := by first | exact beq_iff_eq.2 (by omega) | exact beq_eq_false_iff_ne.2 (by omega)
    have d4 : ((m : Int) == (A : Int)) = true := by first | exact beq_iff_eq.2 (by omega) | exact beq_eq_false_iff_ne.2 (by omega)
    have E := hide (merge_last HM.out (by rw [← HA.out]; omega) (by rw [← HB.out]; omega))
    go_wp2
    go_ret
    exact ⟨⟨_, rfl, by have h := HO.out; rw [E.out, ← HA.out, ← HB.out] at h; exact h⟩, HW.out⟩
end Go.Proofs.YtlkcjhcmkaddaaaGreat
namespace Go.Proofs.YtlkcjhcmkaddaaaGreat
open Go.RowKit
section
variable {ops : Array Oper} {S : World → Prop} {o : Oper} {a : Act}
set_option maxRecDepth 100000 in
theorem yp_bS023 (hw : Region.wanted o (yielded ops a.tmps) = true) (x y z : Operand) (ho : o.op = .build 25 #[(0, x), (2, y), (3, z)]) (b d : Bool) (p : Option Addr) (n c : Nat) (hx : a.eval x = .bool b) (hy : a.eval y = .bool d) (hz : a.eval z = .slice p n c) : YieldsIf Tryz.prog ops S o (SC.val ⟨b, none, 0, 0, d, p, n, c⟩) a :=
 Or.inl ⟨hw, fun w _ => by
  simp only [execOp, ho, List.map_toArray, List.map_cons, List.map_nil, hx, hy, hz, SC.val];go_simp⟩
set_option maxRecDepth 100000 in
theorem yp_bS02 (hw : Region.wanted o (yielded ops a.tmps) = true) (x y : Operand) (ho : o.op = .build 25 #[(0, x), (2, y)]) (b d : Bool) (hx : a.eval x = .bool b) (hy : a.eval y = .bool d) : YieldsIf Tryz.prog ops S o (SC.val ⟨b, none, 0, 0, d, none, 0, 0⟩) a :=
 Or.inl ⟨hw, fun w _ => by
  simp only [execOp, ho, List.map_toArray, List.map_cons, List.map_nil, hx, hy, SC.val];go_simp⟩
theorem yp_minI (hw : Region.wanted o (yielded ops a.tmps) = true) (x y : Operand) (ho : o.op = .call { callee := .builtin .min, args := #[x, y], argTypes := #[3, 3] }) (p q : Int) (hx : a.eval x = .int .i64 p) (hy : a.eval y = .int .i64 q) : YieldsIf Tryz.prog ops S o (.int .i64 (min p q)) a :=
 Or.inl ⟨hw, fun w hS => by
  unfold execOp;simp only [ho, resolve, invoke, builtin, Sem.run_bind, Sem.run_pure, Result.andThen_ok, List.map_toArray, List.map_cons, List.map_nil, hx, hy];go_simp
  all_goals (rw [Int.min_def]; split <;> first | rfl | omega)⟩
theorem yp_maxI (hw : Region.wanted o (yielded ops a.tmps) = true) (x y : Operand) (ho : o.op = .call { callee := .builtin .max, args := #[x, y], argTypes := #[3, 3] }) (p q : Int) (hx : a.eval x = .int .i64 p) (hy : a.eval y = .int .i64 q) : YieldsIf Tryz.prog ops S o (.int .i64 (max p q)) a :=
 Or.inl ⟨hw, fun w hS => by
  unfold execOp;simp only [ho, resolve, invoke, builtin, Sem.run_bind, Sem.run_pure, Result.andThen_ok, List.map_toArray, List.map_cons, List.map_nil, hx, hy];go_simp
  all_goals (rw [Int.max_def]; split <;> first | rfl | omega)⟩
end
theorem rp_row0S {o : Oper} {w : World} (a : Act) (ho : o.op = .buildSlice 23 0 #[]) : (execOp a.eval o).run Tryz.prog w = .ok (.value (.slice (some ⟨w.heap.size, 0, none⟩) 0 0)) (w.alloc (.cells #[] 9 (0, 0))) := by
 simp only [execOp, ho, List.map_toArray, List.map_cons, List.map_nil];go_simp
theorem ownS_row0 {w : World} {B : Nat} (hB : B ≤ w.heap.size) : OwnS (w.alloc (.cells #[] 9 (0, 0))) B (.slice (some ⟨w.heap.size, 0, none⟩) 0 0) [] :=
 ⟨rfl, Or.inr ⟨_, 0, _, rfl, hB, heap_new _ _, Nat.le_refl _, by unfold maxLen; omega, rfl, rfl⟩⟩
theorem stC_map (l : List ByteArray) : stCells1 l = l.map Value.string := by
 unfold stCells1
 induction l with
 | nil => rfl
 | cons s l ih => rw [List.flatMap_cons, ih]; rfl
theorem ownS_of {w : World} {B : Nat} {v : Value} {l : List ByteArray} (h : RowS w B v l) : OwnS w B v l := by
 unfold RowS at h;rw [stC_map] at h;exact h
theorem rgC_eq (l : List Rg) : rgCells1 l = rgCells l := by
 unfold rgCells1 rgCells
 first | rfl | (induction l with
  | nil => rfl
  | cons r l ih => simp)
theorem ownR_of {w : World} {B : Nat} {v : Value} {l : List Rg} (h : RowR w B v l) : OwnR w B v l := by
 unfold RowR at h;rw [rgC_eq] at h;exact h
section
variable {ops : Array Oper} {Q : Exit → Act → World → Prop} {o : Oper} {a : Act} {i : Nat} {K : Act → World → Prop} {w : World}
theorem op_row0S (hi : ops[i]? = some o) (hw : Region.wanted o (yielded ops a.tmps) = true) (ho : o.op = .buildSlice 23 0 #[]) (B : Nat) (hB : B ≤ w.heap.size)
  (h : ∀ W g, w.heap.size ≤ g → OwnS W B (.slice (some ⟨g, 0, none⟩) 0 0) [] → Below w.heap.size w W → K (a.put o.dst (.slice (some ⟨g, 0, none⟩) 0 0)) W) : wpOp Tryz.prog ops Q i K a w :=
 ot_run hi hw _ _ (rp_row0S a ho) (h _ _ (Nat.le_refl _) (ownS_row0 hB) ((Below.refl _ w).alloc (Nat.le_refl _) _))
theorem op_appRow0S (hi : ops[i]? = some o) (hw : Region.wanted o (yielded ops a.tmps) = true) (s x : Operand) (ho : o.op = .call { callee := .builtin .append, args := #[s, x], argTypes := #[23, 23] }) (B : Nat) (v u : Value) (m : List ByteArray) (hs : a.eval s = v) (hown : OwnS w B v [])
  (hx : a.eval x = u) (hm : StrsAt w u m) (hn : m.length ≤ 1000000) (hB : B ≤ w.heap.size)
  (h : ∀ v' W, OwnS W B v' m → w.grownBy W v.ownBlock → K (a.put o.dst v') W) : wpOp Tryz.prog ops Q i K a w := by
 obtain ⟨v', w', hr, h1, h2⟩ := rn_appRowS a s x ho B v u [] m hs hown hx hm (by simpa using hn) hB;exact ot_run hi hw v' w' hr (h v' w' h1 h2)
theorem op_allocSt (hi : ops[i]? = some o) (hw : Region.wanted o (yielded ops a.tmps) = true) (ho : o.op = .alloc 25)
  (h : ∀ W g, w.heap.size ≤ g → W.heap[g]? = some (stObj SC.zero) → Below w.heap.size w W → K (a.put o.dst (.pointer (some ⟨g, 0, none⟩))) W) : wpOp Tryz.prog ops Q i K a w := by
 refine ot_run hi hw (.pointer (some ⟨w.heap.size, 0, none⟩)) (w.alloc (stObj SC.zero)) ?_ (h _ _ (Nat.le_refl _) (heap_new _ _) ((Below.refl _ w).alloc (Nat.le_refl _) _));simp only [execOp, ho, stObj, SC.zero];go_simp
theorem op_putSt (hi : ops[i]? = some o) (hw : Region.wanted o (yielded ops a.tmps) = true) (x y : Operand) (ho : o.op = .store 25 x y) (g : Nat) (hx : a.eval x = .pointer (some ⟨g, 0, none⟩)) (s : SC) (hy : a.eval y = s.val) {cs : Array Value} (hc : w.heap[g]? = some (.cells cs 25 (0, 0))) (hk : cs.size = 4)
  (h : ∀ W, W.heap[g]? = some (stObj s) → w.grownBy W (some g) → K (a.put o.dst undef) W) : wpOp Tryz.prog ops Q i K a w := by
 have ht : w.there g 0 4 := fun j hj => ⟨by rw [cell_heap hc, Nat.zero_add, Array.getElem?_eq_getElem (by omega)]; rfl, frozen_heap hc _⟩
 obtain ⟨h1, h2⟩ := put_wholeU [Value.bool s.a, .slice s.p s.n s.c, .bool s.d, .slice s.q s.m s.e] hc (by rw [hk]; rfl);refine ot_skip hi hw _ ?_ (h _ h1 h2);have hr := run_storeVar_mid (P := Tryz.prog) w g 0 25 #[Value.bool s.a, .slice s.p s.n s.c, .bool s.d, .slice s.q s.m s.e] ht (by rw [infoSet4]; rfl) (by simp [Value.oneCell']);have hy' : a.eval y = .agg #[Value.bool s.a, .slice s.p s.n s.c, .bool s.d, .slice s.q s.m s.e] := hy;unfold execOp;simp only [ho, hx, hy', Instr.storeAt, Instr.sureAddr, Sem.run_bind, Sem.run_pure, Result.andThen_ok, hr]
end
def notLo : Int → List Rg → Int
 | lo, [] => lo
 | lo, r :: l => notLo (if r.2 = 9223372036854775807 then lo else r.2 + 1) l
def notRow : Int → List Rg → List Rg
 | _, [] => []
 | lo, r :: l => (if r.1 > lo then [(lo, r.1 - 1)] else []) ++ notRow (if r.2 = 9223372036854775807 then lo else r.2 + 1) l
def notOpen : List Rg → Bool
 | [] => true
 | r :: l => (!decide (r.2 = 9223372036854775807)) && notOpen l
theorem notLo_snoc : ∀ (l : List Rg) (lo : Int) (r : Rg), notLo lo (l ++ [r]) = if r.2 = 9223372036854775807 then notLo lo l else r.2 + 1
 | [], lo, r => rfl
 | q :: l, lo, r => notLo_snoc l _ r
theorem notRow_snoc : ∀ (l : List Rg) (lo : Int) (r : Rg), notRow lo (l ++ [r]) = notRow lo l ++ (if r.1 > notLo lo l then [(notLo lo l, r.1 - 1)] else [])
 | [], lo, r => by simp [notRow, notLo]
 | q :: l, lo, r => by
  show (if q.1 > lo then [(lo, q.1 - 1)] else []) ++ notRow _ (l ++ [r]) = _;rw [notRow_snoc l _ r, ← List.append_assoc]
  rfl
theorem notOpen_snoc : ∀ (l : List Rg) (r : Rg), notOpen (l ++ [r]) = (notOpen l && !decide (r.2 = 9223372036854775807))
 | [], r => by simp [notOpen]
 | q :: l, r => by
  show ((!decide (q.2 = 9223372036854775807)) && notOpen (l ++ [r])) = _;rw [notOpen_snoc l r, ← Bool.and_assoc]
  rfl
theorem take_snoc {l : List Rg} {k : Nat} (h : k < l.length) : l.take (k + 1) = l.take k ++ [l.getD k (0, 0)] := by
 rw [List.take_add_one, List.getElem?_eq_getElem h, List.getD_eq_getElem?_getD, List.getElem?_eq_getElem h]
 rfl
theorem getD_memR {l : List Rg} {k : Nat} (h : k < l.length) : l.getD k (0, 0) ∈ l := by
 rw [List.getD_eq_getElem?_getD, List.getElem?_eq_getElem h];exact List.getElem_mem h
theorem notRow_len : ∀ (l : List Rg) (lo : Int), (notRow lo l).length ≤ l.length
 | [], _ => by simp [notRow]
 | r :: l, lo => by
  have := notRow_len l (if r.2 = 9223372036854775807 then lo else r.2 + 1);unfold notRow;rw [List.length_append, List.length_cons]
  split <;> simp <;> omega
theorem notLo_in : ∀ (l : List Rg) (lo : Int), inI64 l → -9223372036854775808 ≤ lo → lo ≤ 9223372036854775807 → -9223372036854775808 ≤ notLo lo l ∧ notLo lo l ≤ 9223372036854775807
 | [], _, _, h0, h1 => ⟨h0, h1⟩
 | r :: l, lo, hi, h0, h1 => by
  have hr := hi r (by simp);unfold notLo;exact notLo_in l _ (fun q hq => hi q (by simp [hq])) (by split <;> omega) (by split <;> omega)
theorem inI64_take {l : List Rg} (h : inI64 l) (k : Nat) : inI64 (l.take k) := fun q hq => h q (List.mem_of_mem_take hq)
theorem right_low {l : List Rg} (h : rightR l) (hi : inI64 l) : rightFrom (-9223372036854775808 - 1) l := by
 obtain ⟨c, hc⟩ := rightR_lt h;cases l with
 | nil => trivial
 | cons r l => exact ⟨by have := hi r (by simp); omega, hc.2.1, hc.2.2⟩
theorem notRow_all : ∀ (l : List Rg) (lo : Int), rightFrom (lo - 1) l → inI64 l → lo ≤ 9223372036854775807 → notRow lo l ++ (if notOpen l = true then [(notLo lo l, 9223372036854775807)] else []) = notR lo l
 | [], lo, _, _, h => by
  unfold notR;rw [if_pos h]
  rfl
 | r :: l, lo, ⟨h1, h2, h3⟩, hi, h => by
  have hr := hi r (by simp);have hl : inI64 l := fun q hq => hi q (by simp [hq])
  unfold notRow notOpen notLo;by_cases hm : r.2 = 9223372036854775807
  ·have e : l = [] := by
    cases l with
    | nil => rfl
    | cons s l =>
     have h4 := h3.1;have := hl s (by simp);omega
   subst e;rw [if_pos hm, decide_eq_true hm];simp only [Bool.not_true, Bool.false_and, Bool.false_eq_true, if_false, List.append_nil, notRow];unfold notR notR;rw [if_neg (by omega : ¬ r.2 + 1 ≤ 9223372036854775807)]
  ·rw [if_neg hm, decide_eq_false hm];simp only [Bool.not_false, Bool.true_and];rw [List.append_assoc, notRow_all l (r.2 + 1) (by rw [show r.2 + 1 - 1 = r.2 from by omega]; exact rightFrom_mono h3 (by omega)) hl (by omega)];rw [show notR lo (r :: l) = _ from rfl];by_cases hlo : lo < r.1
   ·rw [if_pos (by omega)]
    simp [notR, hlo]
   ·rw [if_neg (by omega)]
    simp [notR, hlo]
end Go.Proofs.YtlkcjhcmkaddaaaGreat
namespace Go.Proofs.YtlkcjhcmkaddaaaGreat
open Go.RowKit
theorem andR1_snoc (r : Rg) {b : List Rg} {k : Nat} (h : k < b.length) : andR1 r (b.take (k + 1)) = andR1 r (b.take k) ++ cutRg r (b.getD k (0, 0)) := by
 unfold andR1;rw [take_snoc h, List.flatMap_append, List.flatMap_cons, List.flatMap_nil, List.append_nil]
theorem andRg_snoc (b : List Rg) {a : List Rg} {i : Nat} (h : i < a.length) : andRg (a.take (i + 1)) b = andRg (a.take i) b ++ andR1 (a.getD i (0, 0)) b := by
 unfold andRg;rw [take_snoc h, List.flatMap_append, List.flatMap_cons, List.flatMap_nil, List.append_nil]
theorem andR1_len (r : Rg) : ∀ (b : List Rg), (andR1 r b).length ≤ b.length
 | [] => by simp [andR1]
 | s :: b => by
  have := andR1_len r b;unfold andR1 at this ⊢;rw [List.flatMap_cons, List.length_append, List.length_cons];have : (cutRg r s).length ≤ 1 := by unfold cutRg; split <;> simp
  omega
theorem andRg_len (b : List Rg) : ∀ (a : List Rg), (andRg a b).length ≤ a.length * b.length
 | [] => by simp [andRg]
 | r :: a => by
  have h1 := andRg_len b a;have h2 := andR1_len r b;unfold andRg at h1 ⊢;rw [List.flatMap_cons, List.length_append, List.length_cons, Nat.succ_mul];omega
theorem and_small {a b : List Rg} (r : Rg) (ha : a.length ≤ 400) (hb : b.length ≤ 400) (i k : Nat) : (andRg (a.take i) b ++ andR1 r (b.take k)).length ≤ 1000000 := by
 rw [List.length_append];have h1 := andRg_len b (a.take i);have h2 := andR1_len r (b.take k);rw [List.length_take] at h1 h2;have h3 : min i a.length * b.length ≤ 400 * 400 := Nat.mul_le_mul (by omega) hb;omega
def andIn (A B : SetV) (s : ByteArray) : Bool := (inStrsB A.strs s != A.co) && (inStrsB B.strs s != B.co)
def andStrs (A B : SetV) (l : List ByteArray) : List ByteArray := l.filter fun s => andIn A B s != (A.co && B.co)
theorem take_snocS {l : List ByteArray} {k : Nat} (h : k < l.length) : l.take (k + 1) = l.take k ++ [l.getD k ⟨#[]⟩] := by
 rw [List.take_add_one, List.getElem?_eq_getElem h, List.getD_eq_getElem?_getD, List.getElem?_eq_getElem h]
 rfl
theorem andStrs_snoc (A B : SetV) {l : List ByteArray} {k : Nat} (h : k < l.length) : andStrs A B (l.take (k + 1)) = andStrs A B (l.take k) ++ (if (andIn A B (l.getD k ⟨#[]⟩) != (A.co && B.co)) = true then [l.getD k ⟨#[]⟩] else []) := by
 unfold andStrs;rw [take_snocS h, List.filter_append, List.filter_cons]
 split <;> rfl
theorem andStrs_len (A B : SetV) (l : List ByteArray) : (andStrs A B l).length ≤ l.length := List.length_filter_le _ _
theorem refAndV_eq (A B : SetV) : refAndV A B = ⟨A.absent && B.absent, andRg A.ints B.ints, A.co && B.co, andStrs A B (mergeF (A.strs.length + B.strs.length) A.strs B.strs)⟩ := rfl
theorem refInStrs6 (v : Value) (l : List ByteArray) (s : ByteArray) (w : World) (hv : StrsAt w v l) : Calls Tryz.prog 96 #[v, .string s] w fun r w' => r = .returned (.bool (inStrsB l s)) ∧ Below w.heap.size w w' :=
 (inStrs_any v l s w hv).mono fun r w' ⟨h1, h2⟩ => ⟨h1, by rw [h2]; exact Below.refl _ _⟩
theorem row_cell {w : World} {B g c : Nat} {l : List ByteArray} (h : OwnS w B (.slice (some ⟨g, 0, none⟩) l.length c) l) {j : Nat} (hj : j < l.length) : w.cell? ⟨g, 0 + j * 1, none⟩ = some (.string (l.getD j ⟨#[]⟩)) := by
 obtain ⟨g', cur, e, _, hg⟩ := ownsRow_at h;have e : g = g' := by injection e
 subst e;refine ownsRow_cell h (0 + j * 1) _ ?_;rw [Nat.zero_add, Nat.mul_one, List.getElem?_map, List.getElem?_eq_getElem hj, List.getD_eq_getElem?_getD, List.getElem?_eq_getElem hj]
 rfl
theorem ownS_mono {w : World} {B C : Nat} {v : Value} {l : List ByteArray} (h : OwnS w C v l) (hB : B ≤ C) : OwnS w B v l :=
 ⟨h.1, h.2.imp id fun ⟨g, cap, cur, e, hb, r⟩ => ⟨g, cap, cur, e, Nat.le_trans hB hb, r⟩⟩
theorem ownS_besides {w W : World} {B C : Nat} {p : Option Addr} {n c : Nat} {v : Value} {M l : List ByteArray} (h : OwnS w B (.slice p n c) M) (hlt : ∀ g, p = some ⟨g, 0, none⟩ → g < C) (hT : RowS w C v l) (kg : w.grownBy W v.ownBlock) : OwnS W B (.slice p n c) M :=
 ownsRow_gr h kg fun g hg e => by
  have h1 := (World.ownsRow.lt hT g e).1;have h2 : p = some ⟨g, 0, none⟩ := by
   rcases h.2 with ⟨h3, _⟩ | ⟨g', cap, cur, e1, _⟩
   ·rw [h3] at hg; cases hg
   ·rw [e1] at hg;cases e1
    cases hg
    rfl
  have := hlt g h2;omega
theorem own_lt {w : World} {B : Nat} {p : Option Addr} {n c : Nat} {M : List ByteArray} (h : OwnS w B (.slice p n c) M) : ∀ g, p = some ⟨g, 0, none⟩ → g < w.heap.size := fun g e => by
 subst e;exact (World.ownsRow.lt h g rfl).2
theorem row_some {w : World} {B : Nat} {p : Option Addr} {c : Nat} {l : List ByteArray} (h : OwnS w B (.slice p l.length c) l) (hl : 0 < l.length) : ∃ g, p = some ⟨g, 0, none⟩ := by
 obtain ⟨p', c', e, _, _, h3⟩ := ownsRow_form h
 injection e with e1 _ e2
 subst e1;cases p with
 | none => have := (h3 rfl).1; omega
 | some a =>
  obtain ⟨g, cur, e, _, hg⟩ := ownsRow_at h;exact ⟨g, by rw [e]⟩
section
variable {ops : Array Oper} {Q : Exit → Act → World → Prop} {S : World → Prop} {o o1 o2 o3 : Oper} {a : Act}
theorem wl_band {rest : List Oper} {w : World} (b d : Bool) (u1 u2 : Value)
  (H1 : b = true → YieldsIf Tryz.prog ops (fun x => x = w) o1 u1 a ∧ YieldsIf Tryz.prog ops (fun x => x = w) o2 u2 (a.put o1.dst u1) ∧ YieldsIf Tryz.prog ops (fun x => x = w) o3 (.bool d) ((a.put o1.dst u1).put o2.dst u2))
  (H2 : b = false → YieldsIf Tryz.prog ops (fun x => x = w) o1 undef a ∧ YieldsIf Tryz.prog ops (fun x => x = w) o2 undef (a.put o1.dst undef) ∧ YieldsIf Tryz.prog ops (fun x => x = w) o3 (.bool false) ((a.put o1.dst undef).put o2.dst undef))
  (h : ∀ v1 v2, wpList Tryz.prog ops Q rest (((a.put o1.dst v1).put o2.dst v2).put o3.dst (.bool (b && d))) w) : wpList Tryz.prog ops Q (o1 :: o2 :: o3 :: rest) a w := by
 cases b with
 | true =>
  obtain ⟨h1, h2, h3⟩ := H1 rfl;exact wl_yield _ h1 (wl_yield _ h2 (wl_yield _ h3 (h u1 u2)))
 | false =>
  obtain ⟨h1, h2, h3⟩ := H2 rfl;exact wl_yield _ h1 (wl_yield _ h2 (wl_yield _ h3 (h undef undef)))
theorem yp_neqB (hw : Region.wanted o (yielded ops a.tmps) = true) (x y : Operand) (t : TypeId) (ho : o.op = .binOp .neq 4 x y t) (p q r : Bool) (hx : a.eval x = .bool p) (hy : a.eval y = .bool q) (hr : (p != q) = r) : YieldsIf Tryz.prog ops S o (.bool r) a :=
 Or.inl ⟨hw, fun w hS => by
  subst hr;simp only [execOp, ho, hx, hy];go_simp
  try (cases p <;> cases q <;> rfl)⟩
end
end Go.Proofs.YtlkcjhcmkaddaaaGreat
