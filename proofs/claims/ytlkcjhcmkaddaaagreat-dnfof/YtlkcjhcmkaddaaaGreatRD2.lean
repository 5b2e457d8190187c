import Derived.Test.YtlkcjhcmkaddaaaGreatRD1
import Derived.Lib.QuietBelow
import Derived.Deep.MidRow
import Derived.Laws.AppendOwnNone
import Derived.Deep.CutRange
import Derived.Deep.RegionHeld3
import Derived.Deep.Upon
import Derived.Laws.OwnMore
import Derived.Test.YtlkcjhcmkaddaaaGreatRows
import Derived.WalkKit
import Derived.WalkSpells
import Derived.WalkLawsBesides
import Derived.WalkSmall
import Derived.Lib.SmallJoins
import Derived.Lib.Bytealg
import Derived.Lib.UnsafeStr
import Derived.Lib.ItoaLen
import Derived.Lib.Slices
import Derived.Laws.IdiomStrings
import Derived.OwnWalk
import Derived.BigCall
import Derived.Deep.AppendLies
import Derived.Deep.DrawnRows
import Derived.Lib.AppendIntMem
import Derived.Deep.QuietTactic
import Derived.BigQuiet
import Derived.Lib.MinMax
set_option linter.unusedSimpArgs false
set_option linter.unusedVariables false
namespace Go.Proofs.YtlkcjhcmkaddaaaGreat
open Go.RowKit
set_option maxHeartbeats 4000000 in
set_option maxRecDepth 100000 in
theorem rightRanges_any (v : Value) (l : List Rg) (w : World) (hv : RngsAt w v l) :
  Calls Tryz.prog 81 #[v] w fun r w' => r = .returned (.bool (rgB none l)) ∧ Below w.heap.size w w' := by
 obtain ⟨a, c, rfl⟩ := hv.form;have HV := hide hv;have nle := hv.2.1;obtain ⟨N, hN⟩ : ∃ n : Nat, n = l.length := ⟨_, rfl⟩
 rw [← hN] at nle ⊢;have HN := hide hN;clear hv hN;go_enter Tryz.func81, Tryz.ntmps81
 go_wp2
 go_loopw [7] (fun i wr => ∃ k : Nat, i = .int .i64 k ∧ k ≤ N ∧ Hid (rgB (prevR l k) (l.drop k) = rgB none l) ∧ Hid (Below w.heap.size w wr)) (fun i _ => N - (intOf i).toNat)
 case atStart => exact ⟨0, rfl, by omega, hide rfl, hide (Below.refl _ _)⟩
 case round =>
  obtain ⟨k, rfl, hk, HG, HB⟩ := hrel;by_cases hlt : k < N
  ·have hk' : k < l.length := by rw [← HN.out]; exact hlt
   have IW := HV.out.on HB.out;obtain ⟨b, off, rfl, hb, d0, d1⟩ := IW.at.2 k hk';have bd := IW.bound k hk';have G0 := HG.out;rw [drop_getD l k (0, 0) hk'] at G0;have prv : k ≠ 0 → ∃ q : Rg, prevR l k = some q.2 ∧ wr.cell? ⟨b, off + (k - 1) * 2, none⟩ = some (.int .i64 q.1) ∧ wr.cell? ⟨b, off + (k - 1) * 2 + 1, none⟩ = some (.int .i64 q.2) ∧ -9223372036854775808 ≤ q.2 ∧ q.2 ≤ 9223372036854775807 := fun h0 => by
    obtain ⟨b', off', ha, _, e0, e1⟩ := IW.at.2 (k - 1) (by omega);obtain ⟨_, _, r2, r3⟩ := IW.bound (k - 1) (by omega)
    simp at ha
    obtain ⟨rfl, rfl⟩ := ha;exact ⟨_, by unfold prevR; rw [if_neg h0], e0, e1, r2, r3⟩
   have PRV := hide prv;have NXT : Hid (prevR l (k + 1) = some (l.getD k (0, 0)).2) := hide (by unfold prevR; rw [if_neg (by omega)]; rfl);generalize l.getD k (0, 0) = r at *;have G1 := hide G0;clear IW prv G0 HG;have n0 := cell_heap (heap_new wr (Obj.cells #[Value.int IntKind.i64 r.1, Value.int IntKind.i64 r.2] 58)) 0;have n1 := cell_heap (heap_new wr (Obj.cells #[Value.int IntKind.i64 r.1, Value.int IntKind.i64 r.2] 58)) 1;simp only [List.getElem?_toArray, List.getElem?_cons_zero, List.getElem?_cons_succ] at n0 n1;have B5 := hide (HB.out.alloc HB.out.size (Obj.cells #[Value.int IntKind.i64 r.1, Value.int IntKind.i64 r.2] 58));have C5 := fun {o : Nat} => ((Below.refl _ wr).alloc (Nat.le_refl _) (Obj.cells #[Value.int IntKind.i64 r.1, Value.int IntKind.i64 r.2] 58)).cell (p := ⟨b, o, none⟩) hb
   by_cases h1 : r.1 ≤ r.2
   ·have e1 : decide (r.2 < r.1) = false := decide_eq_false (by omega);by_cases k0 : k = 0
    ·have dk : decide (0 < k) = false := decide_eq_false (by omega);have G2 : Hid (rgB (prevR l (k + 1)) (l.drop (k + 1)) = rgB none l) := hide (by
      have := G1.out;rw [show prevR l k = none by unfold prevR; rw [if_pos k0]] at this;rw [← this, NXT.out]
      simp [rgB, h1])
     clear G1 PRV NXT C5 k0
     go_wp2
     clear d0 d1
     go_quiet (fail)
     go_wp2
     exact ⟨⟨k + 1, by go_num, by omega, G2, hide (below_drewN B5.out _)⟩, by simp [intOf]; omega⟩
    ·obtain ⟨q, hp, pc0, pc1, p0, p1⟩ := PRV.out k0;have x0 := C5.trans pc0;have x1 := C5.trans pc1;have HX := fun (W : World) => hide (apart_any q r W bd.1 bd.2.1 p0)
     have dk : decide (0 < k) = true := decide_eq_true (by omega);have k1 : 1 ≤ k := by omega
     have G1' := G1.out;rw [hp] at G1';have HG1 := hide G1';clear PRV hp k0 G1 G1' C5 pc0 pc1
     go_wp2
     generalize wr.alloc (Obj.cells #[Value.int IntKind.i64 r.1, Value.int IntKind.i64 r.2] 58) = w5 at *;clear d0 d1;have X := fun (d : Nat) (os : Array Obj) => hide (Calls.regrown_of (HX (Sort.grow (redrawn w5 d) os)).out)
     have p0' := cell_regrown n0;have p1' := cell_regrown n1;have p2' := cell_regrown x0;have p3' := cell_regrown x1;clear HX;refine wp_region_quiet_below mixed (by kernel_rfl) ?_
     repeat (first | go_big_quiet_step (exact unhide (X _ _)) | quiet_step (exact unhide (X _ _)))
     refine wpQuiet_nil ?_;intro _ hw';obtain ⟨⟨dq, osq⟩, hw''⟩ := hw';subst hw'';have bq := below_regrown w5 dq osq;have B6 := hide (B5.out.trans (bq.mono B5.out.size));clear p0' p1' p2' p3' X x0 x1 n0 n1 B5 bq bd;dsimp only;generalize Sort.grow (redrawn w5 dq) osq = w6 at B6 ⊢;by_cases hap : q.2 + 1 < r.1
     ·have da : decide (q.2 + 1 < r.1) = true := decide_eq_true hap;have G2 : Hid (rgB (prevR l (k + 1)) (l.drop (k + 1)) = rgB none l) := hide (by
       rw [← HG1.out, NXT.out]
       simp [rgB, h1, hap])
      simp only [da, Bool.not_true]
      go_wp2
      exact ⟨⟨k + 1, by go_num, by omega, G2, B6⟩, by simp [intOf]; omega⟩
     ·have da : decide (q.2 + 1 < r.1) = false := decide_eq_false hap;have G2 : Hid (rgB none l = false) := hide (by
       rw [← HG1.out]
       simp [rgB]
       intro _ h;exact absurd h hap)
      simp only [da, Bool.not_false]
      go_wp2
      go_ret
      exact ⟨ret_bool G2.out.symm, B6.out⟩
   ·have e1 : decide (r.2 < r.1) = true := decide_eq_true (by omega);have G2 : Hid (rgB none l = false) := hide (by
     rw [← G1.out];cases prevR l k <;> simp [rgB] <;> intro h <;> omega)
    clear G1 PRV NXT C5
    go_wp2
    clear d0 d1
    go_quiet (fail)
    go_wp2
    go_ret
    exact ⟨ret_bool G2.out.symm, below_drewN B5.out _⟩
  ·have hge : decide ((k : Int) < (N : Int)) = false := by simp; omega
   have G2 : Hid (rgB none l = true) := hide (by
    rw [← HG.out, List.drop_eq_nil_of_le (by have := HN.out; omega)];cases prevR l k <;> rfl)
   go_wp2
   go_ret
   exact ⟨ret_bool G2.out.symm, HB.out⟩
set_option maxHeartbeats 4000000 in
set_option maxRecDepth 100000 in
theorem rightStrings_any (v : Value) (ss : List ByteArray) (w : World) (hv : StrsAt w v ss) :
  Calls Tryz.prog 82 #[v] w fun r w' => r = .returned (.bool (stB none ss)) ∧ Below w.heap.size w w' := by
 obtain ⟨a, c, rfl⟩ := hv.form;have HS := hide hv;have nle := hv.2.1;obtain ⟨nS, hnS⟩ : ∃ n : Nat, n = ss.length := ⟨_, rfl⟩
 rw [← hnS] at nle ⊢;have HnS := hide hnS;clear hv hnS;go_enter Tryz.func82, Tryz.ntmps82
 go_wp2
 go_loopw [7] (fun i wr => ∃ k : Nat, i = .int .i64 k ∧ k ≤ nS ∧ Hid (stB (prevS ss k) (ss.drop k) = stB none ss) ∧ Hid (Below w.heap.size w wr)) (fun i _ => nS - (intOf i).toNat)
 case atStart => exact ⟨0, rfl, by omega, hide rfl, hide (Below.refl _ _)⟩
 case round =>
  obtain ⟨j, rfl, hj, HG, HB⟩ := hrel;by_cases hlt : j < nS
  ·have IW := HS.out.on HB.out;have hj' : j < ss.length := by rw [← HnS.out]; exact hlt
   obtain ⟨b, off, rfl, hb, d0⟩ := IW.at.2 j hj';have q0 := IW.bound j hj';have G0 := HG.out;rw [drop_getD ss j ⟨#[]⟩ hj'] at G0;have prv : j ≠ 0 → ∃ h : ByteArray, prevS ss j = some h ∧ wr.cell? ⟨b, off + (j - 1), none⟩ = some (.string h) := fun h0 => by
    obtain ⟨b', off', ha, _, e1⟩ := IW.at.2 (j - 1) (by omega)
    simp at ha
    obtain ⟨rfl, rfl⟩ := ha;exact ⟨_, by unfold prevS; rw [if_neg h0], e1⟩
   have PRV := hide prv;have nxt : prevS ss (j + 1) = some (ss.getD j ⟨#[]⟩) := by unfold prevS; rw [if_neg (by omega)]; rfl
   have NXT := hide nxt;generalize ss.getD j ⟨#[]⟩ = r at *;clear IW prv nxt;have G1 := hide G0;clear G0 HG;by_cases h1 : r.size ≤ 8
   ·have e1 : decide (8 < r.size) = false := decide_eq_false (by omega);have e1' : decide ((8 : Int) < (r.size : Int)) = false := decide_eq_false (by omega);by_cases j0 : j = 0
    ·have dj : decide (0 < j) = false := decide_eq_false (by omega);have G3 : Hid (stB (prevS ss (j + 1)) (ss.drop (j + 1)) = stB none ss) := hide (by
      have := G1.out;rw [show prevS ss j = none by unfold prevS; rw [if_pos j0]] at this;rw [← this, NXT.out]
      simp [stB, h1])
     clear G1 j0 PRV NXT
     go_wp2
     exact ⟨⟨j + 1, by go_num, by omega, G3, HB⟩, by simp [intOf]; omega⟩
    ·obtain ⟨h, hp, pc⟩ := PRV.out j0;have dj : decide (0 < j) = true := decide_eq_true (by omega);have j1 : 1 ≤ j := by omega
     have G1' := G1.out;rw [hp] at G1';clear PRV hp j0 G1;cases h2 : Op.bytesLess h.toList r.toList
     ·have G3 : Hid (stB none ss = false) := hide (by rw [← G1']; simp [stB, h2]);clear G1' NXT
      go_wp2
      go_ret
      exact ⟨ret_bool G3.out.symm, HB.out⟩
     ·have G3 : Hid (stB (prevS ss (j + 1)) (ss.drop (j + 1)) = stB none ss) := hide (by rw [← G1', NXT.out]; simp [stB, h1, h2]);clear G1' NXT
      go_wp2
      exact ⟨⟨j + 1, by go_num, by omega, G3, HB⟩, by simp [intOf]; omega⟩
   ·have e1 : decide (8 < r.size) = true := decide_eq_true (by omega);have e1' : decide ((8 : Int) < (r.size : Int)) = true := decide_eq_true (by omega);have G3 : Hid (stB none ss = false) := hide (by
     rw [← G1.out];cases prevS ss j <;> simp [stB, h1])
    clear G1 PRV NXT
    go_wp2
    go_ret
    exact ⟨ret_bool G3.out.symm, HB.out⟩
  ·have hge : (nS : Int) ≤ (j : Int) := by omega
   have G3 : Hid (stB none ss = true) := hide (by
    rw [← HG.out, List.drop_eq_nil_of_le (by have := HnS.out; omega)];cases prevS ss j <;> rfl)
   clear HG
   go_wp2
   go_ret
   exact ⟨ret_bool G3.out.symm, HB.out⟩
set_option maxHeartbeats 4000000 in
set_option maxRecDepth 100000 in
theorem setRight_any (v : Value) (S : SetV) (w : World) (hv : SetAt w v S) :
  Calls Tryz.prog 59 #[v] w fun r w' => r = .returned (.bool (rightSet S)) ∧ Below w.heap.size w w' := by
 obtain ⟨vi, vs, rfl, hI, hS⟩ := hv;have HI := hide hI;have HS := hide hS;obtain ⟨ai, ci, rfl⟩ := hI.form;obtain ⟨aq, cq, rfl⟩ := hS.form;have B0 := fun (o : Obj) => hide ((Below.refl _ w).alloc (Nat.le_refl _) o)
 unfold rightSet;cases e1 : rgB none S.ints
 ·have X := fun (o : Obj) => hide (rightRanges_any _ _ _ (HI.out.on (B0 o).out))
  clear HI HS hI hS;go_enter Tryz.func59, Tryz.ntmps59
  go_wp2_with fail
  refine (unhide (X _)).mono ?_;rintro r w1 ⟨rfl, b1⟩;have B1 := hide ((B0 _).out.trans (b1.mono (B0 _).out.size));rw [e1];clear X B0 b1
  go_wp2
  go_ret
  exact ⟨rfl, B1.out⟩
 ·have X := fun (o : Obj) => hide (rightRanges_any _ _ _ (HI.out.on (B0 o).out))
  have Y := fun (W : World) (b : Below w.heap.size w W) => hide (rightStrings_any _ _ _ (HS.out.on b))
  clear HI HS hI hS;go_enter Tryz.func59, Tryz.ntmps59
  go_wp2_with fail
  refine (unhide (X _)).mono ?_;rintro r w1 ⟨rfl, b1⟩;have B1 := hide ((B0 _).out.trans (b1.mono (B0 _).out.size));have hE1 := (b1.block w.heap.size (by simp)).trans (heap_new w _);have c3 := cell_heap hE1 3;simp only [List.getElem?_toArray, List.getElem?_cons_zero, List.getElem?_cons_succ] at c3;rw [e1];clear X B0 b1 hE1
  go_wp2_with fail
  refine (unhide (Y _ B1.out)).mono ?_;rintro r w2 ⟨rfl, b2⟩;have B2 := hide (B1.out.trans (b2.mono B1.out.size));clear Y b2 B1 c3
  go_wp2
  go_ret
  exact ⟨rfl, B2.out⟩
set_option maxHeartbeats 4000000 in
set_option maxRecDepth 100000 in
theorem small_any (v : Value) (S : SetV) (w : World) (hv : SetAt w v S) :
  Calls Tryz.prog 58 #[v] w fun r w' => r = .returned (.bool (decide (S.ints.length ≤ 6) && decide (S.strs.length ≤ 6))) ∧ Below w.heap.size w w' := by
 obtain ⟨vi, vs, rfl, hI, hS⟩ := hv;obtain ⟨ai, ci, rfl⟩ := hI.form;obtain ⟨aq, cq, rfl⟩ := hS.form;have B0 := fun (o : Obj) => hide ((Below.refl _ w).alloc (Nat.le_refl _) o)
 have n1 := hI.2.1;have n2 := hS.2.1;clear hI hS;generalize S.ints.length = a at *;generalize S.strs.length = b at *;by_cases h1 : a ≤ 6
 ·have e1 : decide ((a : Int) ≤ 6) = true := decide_eq_true (by omega);have e1' : decide (a ≤ 6) = true := decide_eq_true h1;go_enter Tryz.func58, Tryz.ntmps58
  go_wp2
  go_ret
  exact ⟨ret_bool (by rw [e1', Bool.true_and]; exact decide_eq_decide.2 (by omega)), (B0 _).out⟩
 ·have e1 : decide ((a : Int) ≤ 6) = false := decide_eq_false (by omega);have e1' : decide (a ≤ 6) = false := decide_eq_false h1;go_enter Tryz.func58, Tryz.ntmps58
  go_wp2
  go_ret
  exact ⟨ret_bool (by rw [e1', Bool.false_and]), (B0 _).out⟩
end Go.Proofs.YtlkcjhcmkaddaaaGreat
namespace Go.Proofs.YtlkcjhcmkaddaaaGreat
open Go.RowKit
theorem ecCells1 {w : World} {g : Nat} {t : TypeId} {x0 x1 x2 x3 x4 x5 x6 : Value} (h : w.heap[g]? = some (.cells #[x0, x1, x2, x3, x4, x5, x6] t (0, 0))) : w.cell? ⟨g, 0, none⟩ = some x0 ∧ w.cell? ⟨g, 1, none⟩ = some x1 ∧ w.cell? ⟨g, 2, none⟩ = some x2 ∧ w.cell? ⟨g, 3, none⟩ = some x3 ∧ w.cell? ⟨g, 4, none⟩ = some x4 ∧ w.cell? ⟨g, 5, none⟩ = some x5 ∧ w.cell? ⟨g, 6, none⟩ = some x6 :=
 ⟨cell_heap h 0, cell_heap h 1, cell_heap h 2, cell_heap h 3, cell_heap h 4, cell_heap h 5, cell_heap h 6⟩
set_option maxHeartbeats 4000000 in
set_option maxRecDepth 100000 in
theorem asksNothing_any (c : EC) (x : ExV) (w : World) (hc : EcFor w c x) :
  Calls Tryz.prog 60 #[c.val] w fun r w' => r = .returned (.bool (decide (x.attr = 0) && sameB x.set noSet)) ∧ Below w.heap.size w w' := by
 have B0 := fun (o : Obj) => hide ((Below.refl _ w).alloc (Nat.le_refl _) o)
 have X := fun (o : Obj) => hide (same_any _ _ _ _ _ (hc.s.on (B0 o).out) (noSet_at (w.alloc o)))
 have HT := hide hc.t;clear hc;unfold SC.val at X;by_cases h : c.t = 0
 ·have E : Hid ((decide (x.attr = 0) && sameB x.set noSet) = sameB x.set noSet) := hide (by rw [← HT.out, h]; simp);have h' : (c.t == 0) = true := by rw [h]; rfl
  clear h HT;unfold EC.val;go_enter Tryz.func60, Tryz.ntmps60
  go_wp2_with fail
  refine (unhide (X _)).mono ?_;rintro r w1 ⟨rfl, b1⟩;have B1 := hide ((B0 _).out.trans (b1.mono (B0 _).out.size));clear X B0 b1
  go_wp2
  go_ret
  exact ⟨ret_bool E.out.symm, B1.out⟩
 ·have E : Hid ((decide (x.attr = 0) && sameB x.set noSet) = false) := hide (by rw [← HT.out]; simp [h]);have h' : (c.t == 0) = false := by simpa using h
  clear h HT X;unfold EC.val;go_enter Tryz.func60, Tryz.ntmps60
  go_wp2
  go_ret
  exact ⟨ret_bool E.out.symm, (B0 _).out⟩
set_option maxHeartbeats 4000000 in
set_option maxRecDepth 100000 in
theorem rightPart_atom (c : EC) (x : ExV) (w : World) (hc : EcFor w c x) (hk : c.k = 1) :
  Calls Tryz.prog 32 #[c.val] w fun r w' => r = .returned (.bool (nodeX x)) ∧ Below w.heap.size w w' := by
 have B0 := fun (o : Obj) => hide ((Below.refl _ w).alloc (Nat.le_refl _) o)
 have N0 := fun (o : Obj) => hide (heap_new w o)
 have X := fun (o : Obj) => hide (small_any _ _ _ (hc.s.on (B0 o).out))
 have Y := fun (W : World) (b : Below w.heap.size w W) => hide (setRight_any _ _ _ (hc.s.on b))
 have E : Hid (nodeX x = (decide (0 ≤ c.t ∧ c.t ≤ 3 ∧ c.n = 0) && (rightSet x.set && smallB x.set))) := hide (by
  unfold nodeX;rw [if_pos (by rw [← hc.k, hk]), hc.t, hc.n])
 have big := hc.big;have room := hc.room;generalize nodeX x = R at E ⊢;obtain ⟨ck, ct, cs, cp, cn, cc⟩ := c;dsimp only at hk E big room;subst hk;clear hc;unfold SC.val at X Y;unfold EC.val;dsimp only at X Y ⊢;by_cases h0 : 0 ≤ ct
 ·by_cases h3 : ct ≤ 3
  ·have h4 : decide (ct < 4) = true := decide_eq_true (by omega);cases hs : smallB x.set
   ·have E2 : Hid (R = false) := hide (by rw [E.out, hs]; simp);have hs' : (decide (x.set.ints.length ≤ 6) && decide (x.set.strs.length ≤ 6)) = false := hs;rw [hs'] at X;clear Y E;go_enter Tryz.func32, Tryz.ntmps32
    go_wp2_with fail
    refine (unhide (X _)).mono ?_;rintro r w1 ⟨rfl, b1⟩;have B1 := hide ((B0 _).out.trans (b1.mono (B0 _).out.size));clear X B0 b1 N0
    go_wp2
    go_ret
    exact ⟨ret_bool E2.out.symm, B1.out⟩
   ·have hs' : (decide (x.set.ints.length ≤ 6) && decide (x.set.strs.length ≤ 6)) = true := hs;rw [hs'] at X;cases hr : rightSet x.set
    ·have E2 : Hid (R = false) := hide (by rw [E.out, hr]; simp);rw [hr] at Y;clear E;go_enter Tryz.func32, Tryz.ntmps32
     go_wp2_with fail
     refine (unhide (X _)).mono ?_;rintro r w1 ⟨rfl, b1⟩;have B1 := hide ((B0 _).out.trans (b1.mono (B0 _).out.size));obtain ⟨c0, c1, c2, c3, c4, c5, c6⟩ := ecCells1 ((b1.block w.heap.size (by simp)).trans (N0 _).out);have Y1 := Y _ B1.out;clear X B0 b1 N0 Y
     go_wp2_with fail
     refine (unhide Y1).mono ?_;rintro r w2 ⟨rfl, b2⟩;have B2 := hide (B1.out.trans (b2.mono B1.out.size));clear Y1 b2 B1 c0 c1 c2 c3 c4 c5 c6
     go_wp2
     go_ret
     exact ⟨ret_bool E2.out.symm, B2.out⟩
    ·have E2 : Hid (R = decide (cn = 0)) := hide (by rw [E.out, hr, hs]; simp [h0, h3]);rw [hr] at Y;clear E;go_enter Tryz.func32, Tryz.ntmps32
     go_wp2_with fail
     refine (unhide (X _)).mono ?_;rintro r w1 ⟨rfl, b1⟩;have B1 := hide ((B0 _).out.trans (b1.mono (B0 _).out.size));have E1 := hide ((b1.block w.heap.size (by simp)).trans (N0 _).out);obtain ⟨c0, c1, c2, c3, c4, c5, c6⟩ := ecCells1 E1.out;have Y1 := Y _ B1.out;clear X B0 b1 N0 Y
     go_wp2_with fail
     refine (unhide Y1).mono ?_;rintro r w2 ⟨rfl, b2⟩;have B2 := hide (B1.out.trans (b2.mono B1.out.size));clear c0 c1 c2 c3 c4 c5 c6;obtain ⟨c0, c1, c2, c3, c4, c5, c6⟩ := ecCells1 ((b2.block w.heap.size (lt_heap E1.out)).trans E1.out);clear Y1 b2 B1
     go_wp2
     go_ret
     exact ⟨ret_bool (by rw [E2.out]; by_cases hz : cn = 0 <;> simp [hz]), B2.out⟩
  ·have h4 : decide (ct < 4) = false := decide_eq_false (by omega);have E2 : Hid (R = false) := hide (by rw [E.out]; simp; intro _ h; omega);clear X Y E;go_enter Tryz.func32, Tryz.ntmps32
   go_wp2
   go_ret
   exact ⟨ret_bool E2.out.symm, (B0 _).out⟩
 ·have h4 : decide (0 ≤ ct) = false := decide_eq_false h0;have E2 : Hid (R = false) := hide (by rw [E.out]; simp; intro h; omega);clear X Y E;go_enter Tryz.func32, Tryz.ntmps32
  go_wp2
  go_ret
  exact ⟨ret_bool E2.out.symm, (B0 _).out⟩
set_option maxHeartbeats 4000000 in
set_option maxRecDepth 100000 in
theorem rightPart_any (c : EC) (x : ExV) (w : World) (hc : EcFor w c x) :
  Calls Tryz.prog 32 #[c.val] w fun r w' => r = .returned (.bool (nodeX x)) ∧ Below w.heap.size w w' := by
 by_cases k1 : c.k = 1
 ·exact rightPart_atom c x w hc k1
 have B0 := fun (o : Obj) => hide ((Below.refl _ w).alloc (Nat.le_refl _) o)
 have N0 := fun (o : Obj) => hide (heap_new w o)
 have X := fun (o : Obj) => hide (asksNothing_any c x _ (hc.on (B0 o).out))
 have big := hc.big;have room := hc.room;have hn := hc.n;have hkk := hc.k;have e1 : (c.k == 1) = false := by simpa using k1
 unfold EC.val at X;by_cases k23 : c.k = 2 ∨ c.k = 3
 ·have E : Hid (nodeX x = (decide (x.attr = 0) && sameB x.set noSet)) := hide (by
   unfold nodeX;rw [if_neg (by rw [← hkk]; exact k1), if_pos (by rw [← hkk]; omega), show decide (x.kind = 4 → x.sub.length = 1) = true from decide_eq_true (fun h => absurd h (by rw [← hkk]; omega)), Bool.and_true])
  generalize nodeX x = R at E ⊢;generalize (decide (x.attr = 0) && sameB x.set noSet) = Q at E X;rcases k23 with k2 | k3
  ·have e2 : (c.k == 2) = true := by rw [k2]; rfl
   clear k1 k2 hkk hn hc;unfold EC.val;go_enter Tryz.func32, Tryz.ntmps32
   go_wp2_with fail
   refine (unhide (X _)).mono ?_;rintro r w1 ⟨rfl, b1⟩;have B1 := hide ((B0 _).out.trans (b1.mono (B0 _).out.size));clear X B0 b1 N0
   go_wp2
   go_ret
   exact ⟨ret_bool E.out.symm, B1.out⟩
  ·have e2 : (c.k == 2) = false := by rw [k3]; rfl
   have e3 : (c.k == 3) = true := by rw [k3]; rfl
   clear k1 k3 hkk hn hc;unfold EC.val;go_enter Tryz.func32, Tryz.ntmps32
   go_wp2_with fail
   refine (unhide (X _)).mono ?_;rintro r w1 ⟨rfl, b1⟩;have B1 := hide ((B0 _).out.trans (b1.mono (B0 _).out.size));clear X B0 b1 N0
   go_wp2
   go_ret
   exact ⟨ret_bool E.out.symm, B1.out⟩
 ·have e2 : (c.k == 2) = false := by simp; omega
  have e3 : (c.k == 3) = false := by simp; omega
  by_cases k4 : c.k = 4
  ·have e4 : (c.k == 4) = true := by rw [k4]; rfl
   have E : Hid (nodeX x = ((decide (x.attr = 0) && sameB x.set noSet) && decide (c.n = 1))) := hide (by
    unfold nodeX;rw [if_neg (by rw [← hkk]; exact k1), if_pos (by rw [← hkk]; omega), hn]
    congr 1
    exact decide_eq_decide.2 ⟨fun h => h (by rw [← hkk]; exact k4), fun h _ => h⟩)
   generalize nodeX x = R at E ⊢;cases hq : (decide (x.attr = 0) && sameB x.set noSet)
   ·rw [hq] at X;have E2 : Hid (R = false) := hide (by rw [E.out, hq]; rfl);clear k1 k4 k23 hkk hn hc E;unfold EC.val;go_enter Tryz.func32, Tryz.ntmps32
    go_wp2_with fail
    refine (unhide (X _)).mono ?_;rintro r w1 ⟨rfl, b1⟩;have B1 := hide ((B0 _).out.trans (b1.mono (B0 _).out.size));clear X B0 b1 N0
    go_wp2
    go_ret
    exact ⟨ret_bool E2.out.symm, B1.out⟩
   ·rw [hq] at X;have E2 : Hid (R = decide (c.n = 1)) := hide (by rw [E.out, hq]; rfl);clear k1 k4 k23 hkk hn hc E;unfold EC.val;go_enter Tryz.func32, Tryz.ntmps32
    go_wp2_with fail
    refine (unhide (X _)).mono ?_;rintro r w1 ⟨rfl, b1⟩;have B1 := hide ((B0 _).out.trans (b1.mono (B0 _).out.size));obtain ⟨c0, c1, c2, c3, c4, c5, c6⟩ := ecCells1 ((b1.block w.heap.size (by simp)).trans (N0 _).out);clear X B0 b1 N0
    go_wp2
    go_ret
    exact ⟨ret_bool (by rw [E2.out]; by_cases hz : c.n = 1 <;> simp [hz] <;> omega), B1.out⟩
  ·have e4 : (c.k == 4) = false := by simpa using k4
   have E2 : Hid (nodeX x = false) := hide (by
    unfold nodeX;rw [if_neg (by rw [← hkk]; exact k1), if_neg (by rw [← hkk]; omega)])
   generalize nodeX x = R at E2 ⊢;clear k1 k4 k23 hkk hn hc X;unfold EC.val;go_enter Tryz.func32, Tryz.ntmps32
   go_wp2
   go_ret
   exact ⟨ret_bool E2.out.symm, (B0 _).out⟩
end Go.Proofs.YtlkcjhcmkaddaaaGreat
namespace Go.Proofs.YtlkcjhcmkaddaaaGreat
open Go.RowKit Go.Shelf
attribute [local go_sem] Oper.semAt_some
def cellsOf (c : EC) : Obj := Obj.cells #[.int .i64 c.k, .int .i64 c.t, .bool c.s.a, .slice c.s.p c.s.n c.s.c, .bool c.s.d, .slice c.s.q c.s.m c.s.e, .slice c.p c.n c.c] 28 (0, 0)
def rightP (l : List (Int × ExV)) : Bool := !(decide ((sizeP l).1 = 0)) && l.all fun y => nodeX y.2
theorem size_any (k : Nat) (c : EC) (x : ExV) (w : World) (hx : ExAt k w c.val x) (hk : k ≤ 2000) :
  Calls Tryz.prog 30 #[c.val] w fun e w' => e = .returned (.tuple #[.int .i64 (sizeP (partsX k 0 x)).1, .int .i64 (sizeP (partsX k 0 x)).2]) ∧ Below w.heap.size w w' :=
 (callsIn_wide (n := 3)).1 (size_in Fence.wide rfl 3 trivial trivial trivial trivial rfl (by omega) k c x w hx hk)
set_option maxRecDepth 100000 in
set_option maxHeartbeats 4000000 in
theorem right_any (k : Nat) (c : EC) (x : ExV) (w : World) (hx : ExAt k w c.val x) (hk : k ≤ 2000) :
  Calls Tryz.prog 17 #[c.val] w fun e w' => e = .returned (.bool (rightP (partsX k 0 x))) ∧ Below w.heap.size w w' := by
 refine (callsIn_wide (n := 5)).1 ?_;have HX := hide hx;obtain ⟨R, hR⟩ : ∃ R, R = rightP (partsX k 0 x) := ⟨_, rfl⟩
 rw [← hR];have HR := hide hR;have B0 := fun (o : Obj) => hide ((Below.refl _ w).alloc (Nat.le_refl _) o)
 have X := fun (W : World) (b : Below w.heap.size w W) => hide (callsIn_wide (n := 5 - 1).2 (size_any k c x W (ExAt.on b _ hx) hk))
 clear hx hR;refine callsIn_of_wp_marks Tryz.func17 rfl trivial ?_ rfl;simp only [Tryz.ntmps17, List.size_toArray, List.length_cons, List.length_nil, Nat.reduceAdd, Nat.reduceSub, Array.replicate_succ, Array.replicate_zero, List.push_toArray, List.append_toArray, List.nil_append, List.cons_append];unfold EC.val at X ⊢
 gi_wp2
 have o1 := Own1.new (w.alloc (Obj.cells #[.int .i64 c.k, .int .i64 c.t, .bool c.s.a, .slice c.s.p c.s.n c.s.c, .bool c.s.d, .slice c.s.q c.s.m c.s.e, .slice c.p c.n c.c] 28 (0, 0))) (.bool false) 4;have hE := (Below.heap_alloc (w.alloc (Obj.cells #[.int .i64 c.k, .int .i64 c.t, .bool c.s.a, .slice c.s.p c.s.n c.s.c, .bool c.s.d, .slice c.s.q c.s.m c.s.e, .slice c.p c.n c.c] 28 (0, 0))) (Obj.cells #[.bool false] 4) w.heap.size (by simp)).trans (heap_new w _);have hBA := ((Below.refl _ w).alloc (Nat.le_refl _) (Obj.cells #[.int .i64 c.k, .int .i64 c.t, .bool c.s.a, .slice c.s.p c.s.n c.s.c, .bool c.s.d, .slice c.s.q c.s.m c.s.e, .slice c.p c.n c.c] 28 (0, 0))).alloc (by simp) (Obj.cells #[.bool false] 4);simp only [World.size_alloc] at o1;have hzA : ((w.alloc (Obj.cells #[.int .i64 c.k, .int .i64 c.t, .bool c.s.a, .slice c.s.p c.s.n c.s.c, .bool c.s.d, .slice c.s.q c.s.m c.s.e, .slice c.p c.n c.c] 28 (0, 0))).alloc (Obj.cells #[.bool false] 4)).heap.size = w.heap.size + 1 + 1 := by simp
 generalize (w.alloc (Obj.cells #[.int .i64 c.k, .int .i64 c.t, .bool c.s.a, .slice c.s.p c.s.n c.s.c, .bool c.s.d, .slice c.s.q c.s.m c.s.e, .slice c.p c.n c.c] 28 (0, 0))).alloc (Obj.cells #[.bool false] 4) = wA at *;refine ⟨trivial, ?_⟩;refine (unhide (X _ hBA)).mono ?_;rintro e wB ⟨rfl, bB⟩;have oB : Own1 wB (w.heap.size + 1) (.bool false) := ⟨(bB.cell (p := ⟨_, _, none⟩) (by rw [hzA]; simp)).trans o1.cell, (bB.frozen (p := ⟨_, _, none⟩) (by rw [hzA]; simp)).trans o1.soft⟩
 have hEB := (bB.block w.heap.size (by omega)).trans hE;have hBB := hBA.trans (bB.mono hBA.size);have hzB : w.heap.size + 1 + 1 ≤ wB.heap.size := by have := bB.size; omega
 obtain ⟨c0, c1, c2, c3, c4, c5, c6⟩ := ecCells1 hEB;clear X B0 bB hE hBA o1 hzA hEB;obtain ⟨P, hP⟩ : ∃ P, P = partsX k 0 x := ⟨_, rfl⟩
 have HP := hide hP;rw [← hP] at HR ⊢;clear hP;obtain ⟨oc, of⟩ := id oB;have HOB := hide oB;have HBB := hide hBB;clear oB hBB;by_cases hz : (sizeP P).1 = 0
 ·have hz' : ((sizeP P).1 == 0) = true := by rw [hz]; rfl
  have E : Hid (R = false) := hide (by rw [HR.out]; unfold rightP; rw [decide_eq_true hz]; rfl);have q1 := hide (HOB.out.set (.bool false));have b1 := hide (HBB.out.setCell (p := ⟨w.heap.size + 1, 0, none⟩) (by simp) (.bool false));generalize (sizeP P).1 = s1 at *;generalize (sizeP P).2 = s2 at *;clear hz HR HP
  gi_wp2
  refine ⟨.bool false, ?_, by rw [E.out], b1.out⟩
  simp [results, Tryz.f17, go_sem, q1.out.cell]
 ·have hz' : ((sizeP P).1 == 0) = false := by simpa using hz
  have E : Hid (R = P.all fun y => nodeX y.2) := hide (by rw [HR.out]; unfold rightP; rw [decide_eq_false hz]; rfl);generalize (sizeP P).1 = s1 at *;generalize (sizeP P).2 = s2 at *;clear hz HR;have Y := fun (W : World) => hide (each_in Fence.wide (5 - 1) trivial rfl c W)
  unfold EC.val at Y
  gi_wp2
  refine ⟨trivial, ?_⟩;refine (unhide (Y wB)).mono ?_;rintro e wC ⟨rfl, hwC⟩;have hEC := heap_new wB (cellsOf c);have oC := HOB.out.alloc (cellsOf c);have hBC := HBB.out.alloc HBB.out.size (cellsOf c);have hzC : (wB.alloc (cellsOf c)).heap.size = wB.heap.size + 1 := by simp
  rw [show wB.alloc (cellsOf c) = wC from hwC.symm] at hEC oC hBC hzC;have hfor := fun (m : Nat) (d : EC) (y : ExV) (W : World) (b : Below w.heap.size w W) (h : ExAt m w d.val y) => (show EcFor W d y by
   obtain ⟨m', rfl⟩ := h.pos;obtain ⟨d', hv, hd, _⟩ := h;obtain rfl := ec_inj hv;exact hd.on b)
  have HFOR := hide hfor;clear hwC Y HOB c0 c1 c2 c3 c4 c5 c6 oc of hfor
  gi_wp2
  refine wpIn_rangeFunc_ownH (α := PartOf w) (w := wC) rfl (by omega) (gf := 56) (lb := #[.pointer (some ⟨wB.heap.size, 0, none⟩)]) rfl trivial (enters_of Tryz.func56 (by kernel_rfl) rfl)
   (each_stops Fence.wide rfl (5 - 1) trivial trivial rfl wB.heap.size w wC k c x HX.out hk hBC (by omega) hEC) Kp2.trans (Kp2.turn hBC.size) (Below.refl _ _) (fun _ => rfl)
   (fun pre W => (Own1 W (w.heap.size + 1) (.bool false) ∧ ∀ y ∈ pre, nodeX (plainOf y).2 = true) ∧ Below w.heap.size w W)
   (fun c pre W => (c = .ret ∧ Own1 W (w.heap.size + 1) (.bool false) ∧ ∃ y ∈ pre, nodeX (plainOf y).2 = false) ∧ Below w.heap.size w W)
   (OwnFrom.and (Own.from (fun s A B row hs hg hr => ⟨hs.1.kept hg hr, hs.2⟩) _) (ownFrom_below (Nat.le_refl _) hBC.size))
   (fun c => OwnFrom.and (Own.from (fun s A B row hs hg hr => ⟨hs.1, hs.2.1.kept hg hr, hs.2.2⟩) _) (ownFrom_below (Nat.le_refl _) hBC.size))
   ⟨⟨oC, fun y hy => by cases hy⟩, hBC⟩
   (fun y a' W => ∃ bx, W.heap[bx]? = some (cellsOf y.1.2.1) ∧ a' = { tmps := #[.agg #[.int .i64 c.k, .int .i64 c.t, .bool c.s.a, .slice c.s.p c.s.n c.s.c, .bool c.s.d, .slice c.s.q c.s.m c.s.e, .slice c.p c.n c.c], .pointer (some ⟨w.heap.size, 0, none⟩), .pointer (some ⟨w.heap.size + 1, 0, none⟩), .int .i64 s1, .int .i64 s2, undef, .pointer (some ⟨bx, 0, none⟩), .tuple #[.int .i64 s1, .int .i64 s2], .agg #[.int .i64 c.k, .int .i64 c.t, .bool c.s.a, .slice c.s.p c.s.n c.s.c, .bool c.s.d, .slice c.s.q c.s.m c.s.e, .slice c.p c.n c.c], .tuple #[.int .i64 s1, .int .i64 s2], .int .i64 s1, .int .i64 s2, .int .i64 s1, .bool false, .agg #[.int .i64 c.k, .int .i64 c.t, .bool c.s.a, .slice c.s.p c.s.n c.s.c, .bool c.s.d, .slice c.s.q c.s.m c.s.e, .slice c.p c.n c.c], .func (.func 56) #[] #[.pointer (some ⟨wB.heap.size, 0, none⟩)], .int .i64 y.1.1, y.1.2.1.val, undef, undef, undef], defers := [] })
   (fun y a' => fun s A B row hs hg hr => by
    obtain ⟨bx, hbx, ha⟩ := hs;refine ⟨bx, (hg.block bx (Array.getElem?_eq_some_iff.1 hbx).1 (fun e => ?_)).trans hbx, ha⟩;obtain ⟨_, o, ho, hc⟩ := hr bx e.symm;rw [hbx] at ho;cases ho
    cases hc) ?assign ?body ?done ?stop
  case assign =>
   rintro l pre ⟨⟨yd, yc, yx⟩, hy⟩ W K ⟨⟨p1, hall⟩, hB⟩ hK;have hK1 := fun a' => hK a' (W.alloc (cellsOf yc)) ((KeepsOthers.alloc _ _).from _) (Kp2.ofBelow hB.size ((Below.refl _ W).alloc (Nat.le_refl _) _)) ⟨⟨p1.alloc _, hall⟩, hB.alloc hB.size _⟩
   have hN := heap_new W (cellsOf yc);have hK2 := hide (hK1 _ ⟨W.heap.size, hN, rfl⟩);clear hK hK1 hN;unfold cellsOf at hK2;dsimp only at hK2;unfold encOf EC.val at *;dsimp only
   gi_wp2
   exact hK2.out
  case body =>
   rintro l pre ⟨⟨yd, yc, yx⟩, hy⟩ a' W hl hr ⟨⟨p1, hall⟩, hB⟩ ⟨bx, hbx, rfl⟩ hlt;have hall' : ∀ y ∈ pre ++ [(⟨(yd, yc, yx), hy⟩ : PartOf w)], nodeX (plainOf y).2 = true ∨ (plainOf y).2 = yx := fun y hy' => by
    rcases List.mem_append.1 hy' with h | h
    ·exact .inl (hall y h)
    ·simp only [List.mem_singleton] at h;subst h;exact .inr rfl
   have hin : ∃ y ∈ pre ++ [(⟨(yd, yc, yx), hy⟩ : PartOf w)], (plainOf y).2 = yx := ⟨⟨(yd, yc, yx), hy⟩, List.mem_append.2 (.inr (List.mem_singleton.2 rfl)), rfl⟩
   obtain ⟨m, hm, hex⟩ := hy.2.2;have Z := hide (CallsIn.inRound l (callsIn_wide (n := 5 - 1 - 1 - 1).2 (rightPart_any yc yx W (HFOR.out m yc yx W hB hex))));obtain ⟨d0, d1, d2, d3, d4, d5, d6⟩ := ecCells1 hbx;have HB := hide hB;have P1 := hide p1;have HA := hide hall';have HI := hide hin;generalize pre ++ [(⟨(yd, yc, yx), hy⟩ : PartOf w)] = pre1 at *;clear hex hB p1 hall hall' hin HFOR hbx hlt hr hEC oC HX;unfold EC.val at Z ⊢;dsimp only;cases hq : nodeX yx
   ·rw [hq] at Z
    gi_wp2
    refine ⟨trivial, ?_⟩;refine (unhide Z).mono ?_;rintro e W1 ⟨rfl, bW⟩;have ko : KeepsOthers W W1 := ⟨bW.size, fun j o h _ => (bW.block j (Array.getElem?_eq_some_iff.1 h).1).trans h⟩
    have kp : Kp2 w.heap.size wC.heap.size W W1 := Kp2.ofBelow HB.out.size bW;have hl1 : w.heap.size + 1 < W.heap.size := lt_cell (a := ⟨w.heap.size + 1, 0, none⟩) P1.out.cell;have p2 : Own1 W1 (w.heap.size + 1) (.bool false) := ⟨(bW.cell (p := ⟨_, _, none⟩) hl1).trans P1.out.cell, (bW.frozen (p := ⟨_, _, none⟩) hl1).trans P1.out.soft⟩
    have B1 := hide (HB.out.trans (bW.mono HB.out.size));have KO := hide ko;have KP := hide kp;have P2 := hide p2;obtain ⟨pc, pf⟩ := p2;clear Z d0 d1 d2 d3 d4 d5 d6 ko kp bW P1 HB
    gi_wp2
    obtain ⟨y, hy1, hy2⟩ := HI.out;exact ⟨(KO.out.trans (KeepsOthers.setCell _ _ _)).from _, ⟨rfl, P2.out.set _, y, hy1, by rw [hy2]; exact hq⟩, B1.out.setCell (p := ⟨w.heap.size + 1, 0, none⟩) (by simp) _⟩
   ·rw [hq] at Z
    gi_wp2
    refine ⟨trivial, ?_⟩;refine (unhide Z).mono ?_;rintro e W1 ⟨rfl, bW⟩;have ko : KeepsOthers W W1 := ⟨bW.size, fun j o h _ => (bW.block j (Array.getElem?_eq_some_iff.1 h).1).trans h⟩
    have kp : Kp2 w.heap.size wC.heap.size W W1 := Kp2.ofBelow HB.out.size bW;have hl1 : w.heap.size + 1 < W.heap.size := lt_cell (a := ⟨w.heap.size + 1, 0, none⟩) P1.out.cell;have p2 : Own1 W1 (w.heap.size + 1) (.bool false) := ⟨(bW.cell (p := ⟨_, _, none⟩) hl1).trans P1.out.cell, (bW.frozen (p := ⟨_, _, none⟩) hl1).trans P1.out.soft⟩
    have B1 := hide (HB.out.trans (bW.mono HB.out.size));have KO := hide ko;have KP := hide kp;have P2 := hide p2;obtain ⟨pc, pf⟩ := p2;clear Z d0 d1 d2 d3 d4 d5 d6 ko kp bW P1 HB
    gi_wp2
    exact ⟨KO.out.from _, KP.out, ⟨P2.out, fun y hy => (HA.out y hy).elim id (fun e => by rw [e]; exact hq)⟩, B1.out⟩
  case done =>
   rintro D ys W hD hS ⟨⟨p1, hall⟩, hB⟩ hK;have E2 : Hid (R = true) := hide (by
    rw [E.out, HP.out, ← hS, List.all_eq_true];intro z hz;obtain ⟨y, hy, rfl⟩ := List.mem_map.1 hz;exact hall y hy)
   have q1 := p1.set (.bool true);have hK2 := (KeepsOthers.setCell W ⟨w.heap.size + 1, 0, none⟩ (.bool true)).same D _ hK rfl;have hB2 := hB.setCell (p := ⟨w.heap.size + 1, 0, none⟩) (by simp) (.bool true);have Q1 := hide q1;have K2 := hide hK2;have B2 := hide hB2;obtain ⟨pc, pf⟩ := p1;clear q1 hK2 hB2 hK hB hall hS hEC oC HX HFOR
   gi_wp2
   refine ⟨by simp, .inl ⟨_, _, rfl, run_takeDeferred K2.out, ?_⟩⟩;have y1 := Q1.out.kept (grownBy_putObj' _ D (.deferred none)) (fun r e => by cases e; exact ⟨_, K2.out, rfl⟩);refine ⟨.bool true, ?_, by rw [E2.out], B2.out.trans (belowK_b (w := w) (Nat.le_refl _) _ D _ _ (by have := hBC.size; omega) K2.out rfl rfl)⟩
   simp [results, Tryz.f17, go_sem, y1.cell]
  case stop =>
   rintro D c' pre W hD hS ⟨⟨rfl, p1, y, hy, hq⟩, hB⟩ hK;have E2 : Hid (R = false) := hide (by
    rw [E.out, HP.out, List.all_eq_false];exact ⟨_, hS.subset (List.mem_map_of_mem hy), by rw [hq]; simp⟩)
   clear hS hEC oC HX HFOR hy hq
   gi_wp2
   refine ⟨by simp, .inl ⟨_, _, rfl, run_takeDeferred hK, ?_⟩⟩;have y1 := p1.kept (grownBy_putObj' _ D (.deferred none)) (fun r e => by cases e; exact ⟨_, hK, rfl⟩);refine ⟨.bool false, ?_, by rw [E2.out], hB.trans (belowK_b (w := w) (Nat.le_refl _) W D _ _ (by have := hBC.size; omega) hK rfl rfl)⟩
   simp [results, Tryz.f17, go_sem, y1.cell]
end Go.Proofs.YtlkcjhcmkaddaaaGreat
namespace Go.Proofs.YtlkcjhcmkaddaaaGreat
def sizeX : Nat → ExV → Nat
 | 0, _ => 0
 | k + 1, x => 1 + (x.sub.map (sizeX k)).sum
def depthX : Nat → ExV → Int
 | 0, _ => 0
 | k + 1, x => x.sub.foldl (fun m y => max m (depthX k y)) 0 + 1
theorem parts_len : ∀ (k : Nat) (D : Int) (x : ExV), (partsX k D x).length = sizeX k x
 | 0, _, _ => rfl
 | k + 1, D, x => by
  unfold partsX sizeX;rw [List.length_cons, List.length_flatMap, show (List.map (fun a => (partsX k (D + 1) a).length) x.sub) = x.sub.map (sizeX k) from List.map_congr_left fun y _ => parts_len k (D + 1) y];omega
theorem foldl_max_init {α : Type} (h : α → Int) : ∀ (l : List α) (a b : Int), max a (l.foldl (fun m y => max m (h y)) b) = l.foldl (fun m y => max m (h y)) (max a b)
 | [], a, b => rfl
 | y :: l, a, b => by
  rw [List.foldl_cons, List.foldl_cons, foldl_max_init h l]
  congr 1
  omega
theorem foldl_max_shift {α : Type} (g : α → Int) (c : Int) : ∀ (l : List α) (m : Int), l.foldl (fun m y => max m (c + g y)) (c + m) = c + l.foldl (fun m y => max m (g y)) m
 | [], m => rfl
 | y :: l, m => by
  rw [List.foldl_cons, List.foldl_cons, show max (c + m) (c + g y) = c + max m (g y) by omega, foldl_max_shift g c l]
theorem foldl_max_congr {α : Type} (g h : α → Int) : ∀ (l : List α) (m : Int), (∀ y ∈ l, g y = h y) → l.foldl (fun m y => max m (g y)) m = l.foldl (fun m y => max m (h y)) m
 | [], m, _ => rfl
 | y :: l, m, H => by
  rw [List.foldl_cons, List.foldl_cons, H y (by simp), foldl_max_congr g h l _ fun z hz => H z (by simp [hz])]
theorem tallD_append (a b : List (Int × ExV)) : tallD (a ++ b) = max (tallD a) (tallD b) := by
 unfold tallD;rw [List.foldl_append, foldl_max_init (fun y : Int × ExV => y.1 + 1)]
 congr 1
 have := tallD_nonneg a;unfold tallD at this;omega
theorem tallD_flat (g : ExV → List (Int × ExV)) : ∀ (l : List ExV), tallD (l.flatMap g) = l.foldl (fun m y => max m (tallD (g y))) 0
 | [] => rfl
 | y :: l => by
  rw [List.flatMap_cons, tallD_append, tallD_flat g l, List.foldl_cons, foldl_max_init (fun y => tallD (g y))]
  congr 1
  have := tallD_nonneg (g y);omega
theorem depthX_nonneg : ∀ (k : Nat) (x : ExV), 0 ≤ depthX k x
 | 0, _ => by unfold depthX; omega
 | k + 1, x => by
  have := foldl_max_ge (depthX k) x.sub 0;unfold depthX;omega
theorem parts_tall : ∀ (k : Nat) (D : Int) (x : ExV), 0 ≤ D → tallD (partsX (k + 1) D x) = D + depthX (k + 1) x
 | 0, D, x, hD => by
  unfold partsX depthX;have : ∀ l : List ExV, l.foldl (fun (m : Int) (y : ExV) => max m (depthX 0 y)) 0 = 0 := by
   intro l
   induction l with
   | nil => rfl
   | cons y l ih => exact ih
  rw [show (x.sub.flatMap (partsX 0 (D + 1))) = [] by simp [partsX], this]
  simp [tallD]
  omega
 | k + 1, D, x, hD => by
  rw [show partsX (k + 1 + 1) D x = [(D, x)] ++ x.sub.flatMap (partsX (k + 1) (D + 1)) from rfl, tallD_append, tallD_flat, foldl_max_congr _ (fun y => (D + 1) + depthX (k + 1) y) x.sub 0 (fun y _ => parts_tall k (D + 1) y (by omega)), foldl_max_init,
   show max (tallD [(D, x)]) 0 = (D + 1) + 0 by simp [tallD]; omega, foldl_max_shift]
  rw [show depthX (k + 1 + 1) x = x.sub.foldl (fun m y => max m (depthX (k + 1) y)) 0 + 1 from rfl];omega
theorem sizeX_fuel : ∀ (n m : Nat) (x : ExV), lowX n x → n ≤ m → sizeX m x = sizeX n x
 | 0, _, _, h, _ => by cases h
 | n + 1, m, x, h, hm => by
  obtain ⟨k, rfl⟩ : ∃ k, m = k + 1 := ⟨m - 1, by omega⟩
  unfold sizeX;rw [List.map_congr_left fun y hy => sizeX_fuel n k y (h y hy) (by omega)]
theorem depthX_fuel : ∀ (n m : Nat) (x : ExV), lowX n x → n ≤ m → depthX m x = depthX n x
 | 0, _, _, h, _ => by cases h
 | n + 1, m, x, h, hm => by
  obtain ⟨k, rfl⟩ : ∃ k, m = k + 1 := ⟨m - 1, by omega⟩
  unfold depthX;rw [foldl_max_congr _ _ _ _ fun y hy => depthX_fuel n k y (h y hy) (by omega)]
theorem eachX_fuel : ∀ (n m : Nat) (x : ExV), lowX n x → n ≤ m → eachX m x = eachX n x
 | 0, _, _, h, _ => by cases h
 | n + 1, m, x, h, hm => by
  obtain ⟨k, rfl⟩ : ∃ k, m = k + 1 := ⟨m - 1, by omega⟩
  unfold eachX;rw [all_congr_mem _ _ _ fun y hy => eachX_fuel n k y (h y hy) (by omega)]
theorem eachX_any {n m : Nat} {x : ExV} (hn : lowX n x) (hm : lowX m x) : eachX m x = eachX n x := by
 rcases Nat.le_total n m with h | h
 ·exact eachX_fuel n m x hn h
 ·exact (eachX_fuel m n x hm h).symm
theorem depth_low : ∀ (k m : Nat) (x : ExV), lowX k x → depthX k x ≤ (m : Int) → lowX m x
 | 0, _, _, h, _ => by cases h
 | k + 1, 0, x, _, h => by
  have := foldl_max_ge (depthX k) x.sub 0;unfold depthX at h;omega
 | k + 1, m + 1, x, hl, h => fun y hy => by
  have h1 := foldl_max_mem (depthX k) x.sub 0 y hy;unfold depthX at h;exact depth_low k m y (hl y hy) (by omega)
theorem count_size : ∀ (f : Nat) (x : ExV), lowX f x → countX f x = min (sizeX f x : Int) 100
 | 0, _, h => by cases h
 | f + 1, x, h => by
  have H : ∀ (l : List ExV), (∀ y ∈ l, lowX f y) → ∀ n : Int, 0 ≤ n → min (l.foldl (fun n y => if n < 100 then n + countX f y else n) n) 100 = min (n + ((l.map (sizeX f)).sum : Int)) 100 := by
   intro l
   induction l with
   | nil => intro _ n _; simp
   | cons y l ih =>
    intro hy n hn;have h1 := count_size f y (hy y (by simp));have h2 := countX_pos f y;rw [List.foldl_cons, ih (fun z hz => hy z (by simp [hz])) _ (by split <;> omega), List.map_cons, List.sum_cons]
    split
    ·rw [h1];omega
    ·omega
  have := H x.sub h 1 (by omega);unfold countX sizeX;rw [this];omega
theorem sub_size {f : Nat} {y : ExV} : ∀ {l : List ExV}, y ∈ l → sizeX f y ≤ (l.map (sizeX f)).sum
 | z :: l, h => by
  rw [List.map_cons, List.sum_cons];rcases List.mem_cons.1 h with rfl | h
  ·omega
  ·have := sub_size (f := f) h;omega
theorem sizeX_pos {f : Nat} {x : ExV} (h : lowX f x) : 1 ≤ sizeX f x := by
 cases f with
 | zero => cases h
 | succ f => unfold sizeX; omega
theorem sum_len {f : Nat} : ∀ {l : List ExV}, (∀ y ∈ l, lowX f y) → l.length ≤ (l.map (sizeX f)).sum
 | [], _ => by simp
 | z :: l, h => by
  have h1 := sizeX_pos (h z (by simp));have h2 := sum_len (f := f) (l := l) fun y hy => h y (by simp [hy])
  rw [List.map_cons, List.sum_cons, List.length_cons];omega
theorem deep_depth : ∀ (f : Nat) (x : ExV), lowX f x → sizeX f x < 100 → deepX f x = min (depthX f x) 20
 | 0, _, h, _ => by cases h
 | f + 1, x, h, hs => by
  unfold sizeX at hs;have hl := sum_len h;unfold deepX depthX;rw [List.take_of_length_le (by omega), foldl_max_congr _ (fun y => min (depthX f y) 20) x.sub 0 fun y hy => deep_depth f y (h y hy) (by have := sub_size (f := f) hy; omega)];have H : ∀ (l : List ExV) (a b : Int), min a 20 = min b 20 → min (l.foldl (fun m y => max m (min (depthX f y) 20)) a) 20 = min (l.foldl (fun m y => max m (depthX f y)) b) 20 := by
   intro l
   induction l with
   | nil => intro a b h; exact h
   | cons y l ih =>
    intro a b h;rw [List.foldl_cons, List.foldl_cons];exact ih _ _ (by omega)
  have := H x.sub 0 0 rfl;omega
theorem fits_plain {k : Nat} {x : ExV} (hl : lowX k x) : fitsX x = decide (sizeX k x ≤ 40 ∧ depthX k x ≤ 8) := by
 by_cases h : sizeX k x ≤ 40 ∧ depthX k x ≤ 8
 ·rw [decide_eq_true h];have l8 : lowX 8 x := depth_low k 8 x hl (by omega);have l21 := lowX_mono 8 21 x (by omega) l8;have e1 : sizeX 21 x = sizeX k x := by
   rcases Nat.le_total k 21 with g | g
   ·exact sizeX_fuel k 21 x hl g
   ·exact (sizeX_fuel 21 k x l21 g).symm
  have e2 : depthX 21 x = depthX k x := by
   rcases Nat.le_total k 21 with g | g
   ·exact depthX_fuel k 21 x hl g
   ·exact (depthX_fuel 21 k x l21 g).symm
  unfold fitsX;rw [count_size 21 x l21, deep_depth 21 x l21 (by omega), e1, e2, Bool.and_eq_true, decide_eq_true_eq, decide_eq_true_eq];omega
 ·rw [decide_eq_false h];cases hf : fitsX x
  ·rfl
  ·exfalso
   apply h
   have l8 := fits_low hf;have l21 := lowX_mono 8 21 x (by omega) l8;unfold fitsX at hf;rw [Bool.and_eq_true, decide_eq_true_eq, decide_eq_true_eq, count_size 21 x l21] at hf;have hs : sizeX 21 x ≤ 40 := by omega
   rw [deep_depth 21 x l21 (by omega)] at hf;have e1 : sizeX 21 x = sizeX k x := by
    rcases Nat.le_total k 21 with g | g
    ·exact sizeX_fuel k 21 x hl g
    ·exact (sizeX_fuel 21 k x l21 g).symm
   have e2 : depthX 21 x = depthX k x := by
    rcases Nat.le_total k 21 with g | g
    ·exact depthX_fuel k 21 x hl g
    ·exact (depthX_fuel 21 k x l21 g).symm
   omega
theorem fits_nums {k : Nat} {x : ExV} (hl : lowX k x) (hf : fitsX x = true) : countX 21 x = (sizeX k x : Int) ∧ deepX 21 x = depthX k x := by
 have l8 := fits_low hf;have l21 := lowX_mono 8 21 x (by omega) l8;have h := hf;rw [fits_plain hl, decide_eq_true_eq] at h;have e1 : sizeX 21 x = sizeX k x := by
  rcases Nat.le_total k 21 with g | g
  ·exact sizeX_fuel k 21 x hl g
  ·exact (sizeX_fuel 21 k x l21 g).symm
 have e2 : depthX 21 x = depthX k x := by
  rcases Nat.le_total k 21 with g | g
  ·exact depthX_fuel k 21 x hl g
  ·exact (depthX_fuel 21 k x l21 g).symm
 rw [count_size 21 x l21, deep_depth 21 x l21 (by omega), e1, e2];omega
theorem size_plain {k : Nat} {x : ExV} (hl : lowX k x) : sizeP (partsX k 0 x) = if fitsX x then (countX 21 x, deepX 21 x) else (0, 0) := by
 obtain ⟨m, rfl⟩ : ∃ m, k = m + 1 := by
  cases k with
  | zero => cases hl
  | succ m => exact ⟨m, rfl⟩
 unfold sizeP;rw [parts_len, parts_tall m 0 x (by omega), Int.zero_add];have hf := fits_plain hl;by_cases h : sizeX (m + 1) x ≤ 40 ∧ depthX (m + 1) x ≤ 8
 ·rw [decide_eq_true h] at hf;obtain ⟨e1, e2⟩ := fits_nums hl hf;rw [if_pos h, hf, if_pos rfl, e1, e2]
 ·rw [decide_eq_false h] at hf;rw [if_neg h, hf, if_neg (by simp)]
theorem parts_each : ∀ (k : Nat) (D : Int) (x : ExV), lowX k x → ((partsX k D x).all fun y => nodeX y.2) = eachX k x
 | 0, _, _, h => by cases h
 | k + 1, D, x, h => by
  unfold partsX eachX;rw [List.all_cons, List.all_flatMap]
  congr 1
  exact all_congr_mem _ _ _ fun y hy => parts_each k (D + 1) y (h y hy)
theorem right_plain {k : Nat} {x : ExV} (hl : lowX k x) : rightP (partsX k 0 x) = rightX x := by
 unfold rightP rightX;rw [size_plain hl, parts_each k 0 x hl];cases hf : fitsX x
 ·rfl
 ·have := countX_pos 21 x;rw [if_pos rfl, decide_eq_false (by dsimp only; omega), eachX_any (fits_low hf) hl]
  rfl
theorem ExAt.shrink {w : World} : ∀ (n m : Nat) {v : Value} {x : ExV}, ExAt n w v x → lowX m x → ExAt m w v x
 | 0, _, _, _, h, _ => by cases h
 | n + 1, 0, v, x, _, h => by cases h
 | n + 1, m + 1, v, x, ⟨c, hv, hc, hs⟩, hl => by
  refine ⟨c, hv, hc, fun i hi => ?_⟩;obtain ⟨g, off, d, hp, hg, hd, hx⟩ := hs i hi;exact ⟨g, off, d, hp, hg, hd, ExAt.shrink n m hx (hl _ (getD_mem hi))⟩
end Go.Proofs.YtlkcjhcmkaddaaaGreat
namespace Go.Proofs.YtlkcjhcmkaddaaaGreat
open Go.RowKit
def exObj (c : EC) : Obj := Obj.cells #[.int .i64 c.k, .int .i64 c.t, .bool c.s.a, .slice c.s.p c.s.n c.s.c, .bool c.s.d, .slice c.s.q c.s.m c.s.e, .slice c.p c.n c.c] 28
def evObj (e : EvV) : Obj := Obj.cells #[.int .i64 e.v0.1, .int .i64 e.v0.2.1, .string e.v0.2.2, .int .i64 e.v1.1, .int .i64 e.v1.2.1, .string e.v1.2.2, .int .i64 e.v2.1, .int .i64 e.v2.2.1, .string e.v2.2.2, .int .i64 e.v3.1, .int .i64 e.v3.2.1, .string e.v3.2.2] 46
end Go.Proofs.YtlkcjhcmkaddaaaGreat
namespace Go.Proofs.YtlkcjhcmkaddaaaGreat
open Go.Deep Go.ChangeShapes Go.WideShapes Go.ChangeAt Go.WideMaps Go.WideElems Go.RowKit Go.Joins
theorem cellsEx : Tryz.prog.cellsOf 28 = 7 := by kernel_rfl
theorem cellsExs : Tryz.prog.cellsOf 26 = 1 := by kernel_rfl
def EC.list (c : EC) : List Value := [.int .i64 c.k, .int .i64 c.t, .bool c.s.a, .slice c.s.p c.s.n c.s.c, .bool c.s.d, .slice c.s.q c.s.m c.s.e, .slice c.p c.n c.c]
theorem seven {α : Type} {l : List α} (h : l.length = 7) : ∃ a0 a1 a2 a3 a4 a5 a6, l = [a0, a1, a2, a3, a4, a5, a6] := by
 match l, h with
 | [a0, a1, a2, a3, a4, a5, a6], _ => exact ⟨a0, a1, a2, a3, a4, a5, a6, rfl⟩
section
variable {H : Type} {enc : TypeId × Value → H} {W : World}
set_option maxHeartbeats 1000000 in
set_option maxRecDepth 100000 in
theorem open_exprc : ∀ (fuel : Nat) (cs : List Value) (y : DataW H × List MemPlace), DataW.trod enc Tryz.prog W 0 (fun _ => true) true fuel 28 cs = some y → ∃ (c : EC) (x : ExV), cs = c.list ∧ ExAt fuel W c.val x := by
 intro fuel
 induction fuel using Nat.strongRecOn with
 | ind fuel ih =>
 intro cs y h;obtain ⟨xs, n, rfl, _, hlen, hl, hf⟩ := DataW.trod_struct Tryz.underlying28 h;rw [cellsEx] at hlen;obtain ⟨a0, a1, a2, a3, a4, a5, a6, rfl⟩ := seven hlen
 match xs, hl with
 | [y0, y1, y2, y3], _ =>
  have g0 := hf 0 _ rfl;have g1 := hf 1 _ rfl;have g2 := hf 2 _ rfl;have g3 := hf 3 _ rfl;simp only [cellsI, cellsSet, cellsExs, List.drop_zero, List.drop_succ_cons, List.take_succ_cons, List.take_zero, List.getElem?_cons_zero, List.getElem?_cons_succ] at g0 g1 g2 g3;obtain ⟨k, e0, _, wk⟩ := DataW.trod_int Tryz.underlying3 g0;obtain ⟨t, e1, _, wt⟩ := DataW.trod_int Tryz.underlying3 g1;obtain ⟨S, hS⟩ := open_setc g2;obtain ⟨s, es⟩ := hS.sc;have hS' := hS;rw [es] at hS';unfold SC.val at es
  simp [cellsI] at e0 e1 es
  obtain ⟨rfl, rfl, rfl, rfl⟩ := es;subst e0 e1;obtain ⟨k0, k1⟩ := bounds_i64 wk;obtain ⟨t0, t1⟩ := bounds_i64 wt;rcases DataW.trod_slice Tryz.underlying26 g3 with ⟨h0, _⟩ | ⟨a, len, cap, elems, rest, n', rfl, h0, _, hb, hlc, hm, hel, he, _, _⟩
  ·simp [cellsExs] at h0
   subst h0;exact ⟨⟨k, t, s, none, 0, 0⟩, ⟨k, t, S, []⟩, rfl, ⟨k, t, s, none, 0, 0⟩, rfl, ⟨rfl, rfl, rfl, k0, k1, t0, t1, hS', Nat.le_refl _, by simp, fun _ => ⟨rfl, rfl⟩⟩, fun i hi => by simp at hi⟩
  ·simp [cellsExs] at h0
   subst h0;have hone : ∀ i, i < len → ∃ cs' z, W.cells? 0 (a.add (i * 7)) 7 = some cs' ∧ DataW.trod enc Tryz.prog W 0 (fun _ => true) true n' 28 cs' = some z := fun i hi => by
    have h1 := he i hi;rw [cellsEx, List.getElem?_eq_getElem (by omega), Option.bind_eq_some_iff] at h1;obtain ⟨cs', h2, h3⟩ := h1;exact ⟨cs', _, h2, h3⟩
   have hspot : 0 < len → a.spot = none := fun hpos => by
    obtain ⟨cs0, _, z1, _⟩ := hone 0 hpos;obtain ⟨_, zl, zc⟩ := World.cells?_some z1;have z0 := zc 0 (by omega);rw [List.getElem?_eq_getElem (by omega)] at z0
    simpa [Addr.add] using World.cell?_spot z0
   have hall : ∀ i, i < len → ∃ q : EC × ExV, EcAt W a.block (a.off + i * 7) q.1 ∧ ExAt n' W q.1.val q.2 := fun i hi => by
    obtain ⟨cs', z, h1, h2⟩ := hone i hi;obtain ⟨d, x, hd, hx⟩ := ih n' (by omega) cs' z h2;obtain ⟨_, zl, zc⟩ := World.cells?_some h1;obtain ⟨bk, off, spot⟩ := a;have hs : spot = none := hspot (by omega);subst hs hd;have fj : ∀ j, ((Addr.mk bk off none).add (i * 7)).add j = ⟨bk, off + i * 7 + j, none⟩ := fun j => by rw [Go.Deep.add_add, Go.WideShapes.add_plain]; congr 1; omega
    have q0 := zc 0 (by omega);have q1 := zc 1 (by omega);have q2 := zc 2 (by omega);have q3 := zc 3 (by omega);have q4 := zc 4 (by omega);have q5 := zc 5 (by omega);have q6 := zc 6 (by omega);rw [fj] at q0 q1 q2 q3 q4 q5 q6;exact ⟨(d, x), ⟨q0, q1, q2, q3, q4, q5, q6⟩, hx⟩
   have : Inhabited (EC × ExV) := ⟨(⟨0, 0, SC.zero, none, 0, 0⟩, noX)⟩
   obtain ⟨f, hf'⟩ := choose_lt hall;refine ⟨⟨k, t, s, some a, len, cap⟩, ⟨k, t, S, (List.range len).map fun i => (f i).2⟩, rfl, ⟨k, t, s, some a, len, cap⟩, rfl, ⟨rfl, rfl, by simp, k0, k1, t0, t1, hS', hlc, by unfold maxLen at hm; dsimp only; omega, fun e => by cases e⟩, fun i hi => ?_⟩
   simp at hi
   obtain ⟨q1, q2⟩ := hf' i hi;have hsp := hspot (by omega);refine ⟨a.block, a.off, (f i).1, by rw [← hsp], lt_cell (a := ⟨a.block, _, none⟩) q1.c0, q1, ?_⟩;have hg : ((List.range len).map fun i => (f i).2).getD i noX = (f i).2 := by
    rw [List.getD_eq_getElem?_getD, List.getElem?_map, List.getElem?_range hi]
    rfl
   dsimp only;rw [hg];exact ExAt.more n' (n' + 1) (by omega) q2
set_option maxRecDepth 100000 in
theorem open_exprA {r : Reach} {b0 : Nat} {v : Value} {d : DataW H} {p : List MemPlace} (hv : Value.okWide Tryz.prog W r b0 28 v) (h : DataW.Trod enc Tryz.prog W 0 (fun _ => true) true 28 v d p) :
  ∃ (n : Nat) (x : ExV), ExAt n W v x := by
 obtain ⟨cs, rfl, hsz⟩ := okWide_struct Tryz.underlying28 hv;obtain ⟨l⟩ := cs;obtain ⟨fuel, hf⟩ := h;obtain ⟨c, x, hc, hx⟩ := open_exprc fuel _ _ hf;refine ⟨fuel, x, ?_⟩;have : l = c.list := by simpa [Value.cells] using hc
 subst this;exact hx
end
end Go.Proofs.YtlkcjhcmkaddaaaGreat
namespace Go.Proofs.YtlkcjhcmkaddaaaGreat
open Go.RowKit
structure Kept (m : Nat) (w w' : World) : Prop where
 size : w.heap.size ≤ w'.heap.size
 block : ∀ g, m ≤ g → g < w.heap.size → w'.heap[g]? = w.heap[g]?
theorem Kept.refl (m : Nat) (w : World) : Kept m w w := ⟨Nat.le_refl _, fun _ _ _ => rfl⟩
theorem Kept.ofBelow {m : Nat} {w w' : World} (h : Below w.heap.size w w') : Kept m w w' := ⟨h.size, fun g _ hg => h.block g hg⟩
theorem Kept.trans {m : Nat} {w w' w'' : World} (h : Kept m w w') (k : Kept m w' w'') : Kept m w w'' := ⟨Nat.le_trans h.size k.size, fun g hm hg => (k.block g hm (Nat.lt_of_lt_of_le hg h.size)).trans (h.block g hm hg)⟩
theorem Kept.mono {m m' : Nat} {w w' : World} (h : Kept m w w') (hm : m ≤ m') : Kept m' w w' := ⟨h.size, fun g hg => h.block g (Nat.le_trans hm hg)⟩
theorem Kept.setCell {m : Nat} (w : World) (g i : Nat) (v : Value) (h : g < m) : Kept m w (w.setCell ⟨g, i, none⟩ v) := ⟨by simp, fun k hk _ => Below.heap_setCell _ _ _ k (fun e => by dsimp only at e; omega)⟩
theorem ownsRow_kept {w w' : World} {B : Nat} {e : TypeId} {size : Nat} {v : Value} {n : Nat} {xs : List Value} (h : w.ownsRow B e size v n xs) (hk : Kept B w w') : w'.ownsRow B e size v n xs := by
 refine ⟨h.1, ?_⟩;rcases h.2 with h2 | ⟨g, cap, cur, e1, hg, hc, hr⟩
 ·exact Or.inl h2
 ·exact Or.inr ⟨g, cap, cur, e1, hg, (hk.block g hg (Array.getElem?_eq_some_iff.1 hc).1).trans hc, hr⟩
theorem soft_heap {w : World} {g : Nat} {cs : Array Value} {t : TypeId} (h : w.heap[g]? = some (.cells cs t (0, 0))) (i : Nat) : w.frozen? ⟨g, i, none⟩ = false := by
 unfold World.frozen?;rw [h]
 simp
theorem ownsRow_form {w : World} {B : Nat} {e : TypeId} {size : Nat} {v : Value} {n : Nat} {xs : List Value} (h : w.ownsRow B e size v n xs) : ∃ p c, v = .slice p n c ∧ n ≤ c ∧ c ≤ maxLen ∧ (p = none → n = 0 ∧ c = 0) := by
 rcases h.2 with ⟨rfl, rfl⟩ | ⟨g, cap, cur, rfl, _, _, h1, h2, _⟩
 ·exact ⟨none, 0, rfl, Nat.le_refl _, by unfold maxLen; omega, fun _ => ⟨rfl, rfl⟩⟩
 ·exact ⟨_, cap, rfl, h1, h2, fun e => by cases e⟩
theorem ownsRow_cell {w : World} {B : Nat} {e : TypeId} {size : Nat} {g n c : Nat} {xs : List Value} (h : w.ownsRow B e size (.slice (some ⟨g, 0, none⟩) n c) n xs) (i : Nat) (u : Value) (hi : xs[i]? = some u) : w.cell? ⟨g, i, none⟩ = some u := by
 rcases h.2 with ⟨h0, _⟩ | ⟨g', cap, cur, e1, _, hc, _, _, _, ht⟩
 ·cases h0
 ·injection e1 with e1 _ _
  injection e1 with e1
  injection e1 with e1 _ _
  subst e1;have hl : i < n * size := by rw [← h.1]; exact (List.getElem?_eq_some_iff.1 hi).1
  rw [cell_heap hc, ← hi, ← ht, List.getElem?_take, if_pos hl]
  simp
theorem ownsRow_at {w : World} {B : Nat} {e : TypeId} {size : Nat} {a : Addr} {n c : Nat} {xs : List Value} (h : w.ownsRow B e size (.slice (some a) n c) n xs) : ∃ g cur, a = ⟨g, 0, none⟩ ∧ B ≤ g ∧ w.heap[g]? = some (.cells cur e (0, 0)) := by
 rcases h.2 with ⟨h0, _⟩ | ⟨g', cap, cur, e1, hb, hc, _⟩
 ·cases h0
 ·injection e1 with e1 _ _
  injection e1 with e1
  exact ⟨g', cur, e1, hb, hc⟩
theorem cInfoR : (Tryz.prog.info? 58).map (fun i => (i.zero, i.size, i.bytes)) = some (some (.agg #[.int .i64 0, .int .i64 0]), 2, 16) := by kernel_rfl
set_option maxHeartbeats 1000000 in
set_option maxRecDepth 100000 in
theorem cloneR_nil (w : World) : Calls Tryz.prog 76 #[.slice none 0 0] w fun r w' => r = .returned (.slice none 0 0) ∧ w' = w := by
 have QN := fun (W : World) => Lib.run_eql_slice_nil W _ _ none 0 0 0 0 Tryz.underlying22
 simp only [Option.isNone_none] at QN;go_enter Tryz.func76, Tryz.ntmps76
 go_wp2
 go_ret
 exact ⟨rfl, rfl⟩
set_option maxHeartbeats 1000000 in
set_option maxRecDepth 100000 in
theorem cloneR_some (ad : Addr) (m c : Nat) (news : List Value) (w : World) (hl : news.length = m * 2) (hnews : ∀ j u, news[j]? = some u → w.cell? (ad.add j) = some u) (h1 : ∀ u ∈ news, u.oneCell' = true) (hb : m * 16 ≤ 140737488355328) :
  Calls Tryz.prog 76 #[.slice (some ad) m c] w fun r w' => (∃ v, r = .returned v ∧ w'.ownsRow w.heap.size 58 2 v m news) ∧ Below w.heap.size w w' := by
 obtain ⟨i0, hi, hz0, hz1, hz2⟩ := info_parts cInfoR;have HI := hide hi;have HZ0 := hide hz0;have HZ1 := hide hz1;have HZ2 := hide hz2;have HL := hide hl;have H1 := hide h1;have HB := hide hb;have HN : Hid (∀ j u, news[j]? = some u → (w.alloc (Obj.cells #[] 58)).cell? (ad.add j) = some u) := hide (fun j u hj => (World.grownBy_alloc w (Obj.cells #[] 58) none).cell (hnews j u hj) (by simp));have HO : Hid ((w.alloc (Obj.cells #[] 58)).ownsRow w.heap.size 58 2 (.slice (some ⟨w.heap.size, 0, none⟩) 0 0) 0 []) := hide ⟨rfl, Or.inr ⟨w.heap.size, 0, #[], rfl, Nat.le_refl _, heap_top _ _, Nat.le_refl _, by unfold maxLen; omega, rfl, rfl⟩⟩;have b0 := (Below.refl _ w).alloc (Nat.le_refl _) (Obj.cells #[] 58);have B0 := hide b0;have QN := fun (W : World) => Lib.run_eql_slice_nil W _ _ (some ad) m c 0 0 Tryz.underlying22
 simp only [Option.isNone_some] at QN;clear hi hz0 hz1 hz2 hl h1 hb hnews b0;go_enter Tryz.func76, Tryz.ntmps76
 go_wp2_with (at_builtin; refine wpList_append_own _ rfl _ _ 22 rfl w.heap.size 58 i0 _ 2 16 Tryz.underlying22 HI.out HZ0.out HZ1.out HZ2.out rfl (by decide) _ 0 [] rfl HO.out ad m c news rfl HL.out HN.out H1.out (by have := HB.out; unfold maxLen; omega) (by have := HB.out; omega) B0.out.size ?_; intro v8 w8 h8 g8 _; have O8 := hide h8; have B8 := hide (B0.out.grown g8 B0.out.size (fun k hk => by cases hk; exact Nat.le_refl _)); clear h8 g8)
 go_ret
 have := O8.out;rw [Nat.zero_add, List.nil_append] at this;exact ⟨⟨_, rfl, this⟩, B8.out⟩
theorem cInfoS : (Tryz.prog.info? 9).map (fun i => (i.zero, i.size, i.bytes)) = some (some (.string ⟨#[]⟩), 1, 16) := by kernel_rfl
set_option maxHeartbeats 1000000 in
set_option maxRecDepth 100000 in
theorem cloneS_nil (w : World) : Calls Tryz.prog 77 #[.slice none 0 0] w fun r w' => r = .returned (.slice none 0 0) ∧ w' = w := by
 have QN := fun (W : World) => Lib.run_eql_slice_nil W _ _ none 0 0 0 0 Tryz.underlying23
 simp only [Option.isNone_none] at QN;go_enter Tryz.func77, Tryz.ntmps77
 go_wp2
 go_ret
 exact ⟨rfl, rfl⟩
set_option maxHeartbeats 1000000 in
set_option maxRecDepth 100000 in
theorem cloneS_some (ad : Addr) (m c : Nat) (news : List Value) (w : World) (hl : news.length = m * 1) (hnews : ∀ j u, news[j]? = some u → w.cell? (ad.add j) = some u) (h1 : ∀ u ∈ news, u.oneCell' = true) (hb : m * 16 ≤ 140737488355328) :
  Calls Tryz.prog 77 #[.slice (some ad) m c] w fun r w' => (∃ v, r = .returned v ∧ w'.ownsRow w.heap.size 9 1 v m news) ∧ Below w.heap.size w w' := by
 obtain ⟨i0, hi, hz0, hz1, hz2⟩ := info_parts cInfoS;have HI := hide hi;have HZ0 := hide hz0;have HZ1 := hide hz1;have HZ2 := hide hz2;have HL := hide hl;have H1 := hide h1;have HB := hide hb;have HN : Hid (∀ j u, news[j]? = some u → (w.alloc (Obj.cells #[] 9)).cell? (ad.add j) = some u) := hide (fun j u hj => (World.grownBy_alloc w (Obj.cells #[] 9) none).cell (hnews j u hj) (by simp));have HO : Hid ((w.alloc (Obj.cells #[] 9)).ownsRow w.heap.size 9 1 (.slice (some ⟨w.heap.size, 0, none⟩) 0 0) 0 []) := hide ⟨rfl, Or.inr ⟨w.heap.size, 0, #[], rfl, Nat.le_refl _, heap_top _ _, Nat.le_refl _, by unfold maxLen; omega, rfl, rfl⟩⟩;have b0 := (Below.refl _ w).alloc (Nat.le_refl _) (Obj.cells #[] 9);have B0 := hide b0;have QN := fun (W : World) => Lib.run_eql_slice_nil W _ _ (some ad) m c 0 0 Tryz.underlying23
 simp only [Option.isNone_some] at QN;clear hi hz0 hz1 hz2 hl h1 hb hnews b0;go_enter Tryz.func77, Tryz.ntmps77
 go_wp2_with (at_builtin; refine wpList_append_own _ rfl _ _ 23 rfl w.heap.size 9 i0 _ 1 16 Tryz.underlying23 HI.out HZ0.out HZ1.out HZ2.out rfl (by decide) _ 0 [] rfl HO.out ad m c news rfl HL.out HN.out H1.out (by have := HB.out; unfold maxLen; omega) (by have := HB.out; omega) B0.out.size ?_; intro v8 w8 h8 g8 _; have O8 := hide h8; have B8 := hide (B0.out.grown g8 B0.out.size (fun k hk => by cases hk; exact Nat.le_refl _)); clear h8 g8)
 go_ret
 have := O8.out;rw [Nat.zero_add, List.nil_append] at this;exact ⟨⟨_, rfl, this⟩, B8.out⟩
theorem cInfoX : (Tryz.prog.info? 28).map (fun i => (i.zero, i.size, i.bytes)) = some (some (.agg #[.int .i64 0, .int .i64 0, .bool false, .slice none 0 0, .bool false, .slice none 0 0, .slice none 0 0]), 7, 104) := by kernel_rfl
set_option maxHeartbeats 1000000 in
set_option maxRecDepth 100000 in
theorem cloneX_nil (w : World) : Calls Tryz.prog 50 #[.slice none 0 0] w fun r w' => r = .returned (.slice none 0 0) ∧ w' = w := by
 have QN := fun (W : World) => Lib.run_eql_slice_nil W _ _ none 0 0 0 0 Tryz.underlying26
 simp only [Option.isNone_none] at QN;go_enter Tryz.func50, Tryz.ntmps50
 go_wp2
 go_ret
 exact ⟨rfl, rfl⟩
set_option maxHeartbeats 1000000 in
set_option maxRecDepth 100000 in
theorem cloneX_some (ad : Addr) (m c : Nat) (news : List Value) (w : World) (hl : news.length = m * 7) (hnews : ∀ j u, news[j]? = some u → w.cell? (ad.add j) = some u) (h1 : ∀ u ∈ news, u.oneCell' = true) (hb : m * 104 ≤ 140737488355328) :
  Calls Tryz.prog 50 #[.slice (some ad) m c] w fun r w' => (∃ v, r = .returned v ∧ w'.ownsRow w.heap.size 28 7 v m news) ∧ Below w.heap.size w w' := by
 obtain ⟨i0, hi, hz0, hz1, hz2⟩ := info_parts cInfoX;have HI := hide hi;have HZ0 := hide hz0;have HZ1 := hide hz1;have HZ2 := hide hz2;have HL := hide hl;have H1 := hide h1;have HB := hide hb;have HN : Hid (∀ j u, news[j]? = some u → (w.alloc (Obj.cells #[] 28)).cell? (ad.add j) = some u) := hide (fun j u hj => (World.grownBy_alloc w (Obj.cells #[] 28) none).cell (hnews j u hj) (by simp));have HO : Hid ((w.alloc (Obj.cells #[] 28)).ownsRow w.heap.size 28 7 (.slice (some ⟨w.heap.size, 0, none⟩) 0 0) 0 []) := hide ⟨rfl, Or.inr ⟨w.heap.size, 0, #[], rfl, Nat.le_refl _, heap_top _ _, Nat.le_refl _, by unfold maxLen; omega, rfl, rfl⟩⟩;have b0 := (Below.refl _ w).alloc (Nat.le_refl _) (Obj.cells #[] 28);have B0 := hide b0;have QN := fun (W : World) => Lib.run_eql_slice_nil W _ _ (some ad) m c 0 0 Tryz.underlying26
 simp only [Option.isNone_some] at QN;clear hi hz0 hz1 hz2 hl h1 hb hnews b0;go_enter Tryz.func50, Tryz.ntmps50
 go_wp2_with (at_builtin; refine wpList_append_own _ rfl _ _ 26 rfl w.heap.size 28 i0 _ 7 104 Tryz.underlying26 HI.out HZ0.out HZ1.out HZ2.out rfl (by decide) _ 0 [] rfl HO.out ad m c news rfl HL.out HN.out H1.out (by have := HB.out; unfold maxLen; omega) (by have := HB.out; omega) B0.out.size ?_; intro v8 w8 h8 g8 _; have O8 := hide h8; have B8 := hide (B0.out.grown g8 B0.out.size (fun k hk => by cases hk; exact Nat.le_refl _)); clear h8 g8)
 go_ret
 have := O8.out;rw [Nat.zero_add, List.nil_append] at this;exact ⟨⟨_, rfl, this⟩, B8.out⟩
theorem cloneR_new (v : Value) (l : List Rg) (w : World) (hv : RngsAt w v l) (hl : l.length * 16 ≤ 140737488355328) :
  Calls Tryz.prog 76 #[v] w fun r w' => (∃ p n c, r = .returned (.slice p n c) ∧ ∀ w'', Kept w.heap.size w' w'' → RngsAt w'' (.slice p n c) l) ∧ Below w.heap.size w w' := by
 have hi := hv.1;obtain ⟨a, cap, rfl⟩ := hv.form;have hr := hv.room;cases a with
 | none =>
  obtain ⟨e1, e2⟩ := hr.2 rfl;have e3 : l = [] := List.length_eq_zero_iff.1 e1;subst e3;simp only [List.length_nil] at *;subst e2;refine (cloneR_nil w).mono ?_;rintro r w' ⟨rfl, rfl⟩;exact ⟨⟨none, 0, 0, rfl, fun w'' _ => (ownR_none w'' 0).rngs (by intro r h; cases h) (by simp)⟩, Below.refl _ _⟩
 | some ad =>
  obtain ⟨_, _, ad', cap', e0, hel⟩ := hv
  simp at e0
  obtain ⟨e0, rfl⟩ := e0;subst e0;refine (cloneR_some ad l.length _ (rgCells l) w (rgCells_len l) ?_ (rgCells_one l) hl).mono ?_
  ·intro j u hj;have hjl : j < l.length * 2 := by
    have := (List.getElem?_eq_some_iff.1 hj).1
    rwa [rgCells_len] at this
   obtain ⟨b, off, e, _, c0, c1⟩ := hel (j / 2) (by omega);obtain ⟨a0, a1⟩ := rgCells_at l (j / 2) (by omega)
   simp at e
   subst e;rw [Go.WideShapes.add_plain];rcases Nat.mod_two_eq_zero_or_one j with h | h
   ·rw [show j = j / 2 * 2 by omega] at hj ⊢;rw [← hj, a0];exact c0
   ·rw [show j = j / 2 * 2 + 1 by omega] at hj ⊢;rw [← hj, a1, ← Nat.add_assoc];exact c1
  ·rintro r w' ⟨⟨v, rfl, ho⟩, hb⟩;obtain ⟨p, c, rfl, _⟩ := ownsRow_form ho;exact ⟨⟨p, l.length, c, rfl, fun w'' hk => OwnR.rngs (B := w.heap.size) (ownsRow_kept ho hk) hi (by omega)⟩, hb⟩
theorem strs_cells_at (l : List ByteArray) (i : Nat) (h : i < l.length) : (l.map Value.string)[i]? = some (.string (l.getD i ⟨#[]⟩)) := by
 rw [List.getElem?_map, List.getElem?_eq_getElem h, List.getD_eq_getElem?_getD, List.getElem?_eq_getElem h]
 rfl
theorem cloneS_new (v : Value) (l : List ByteArray) (w : World) (hv : StrsAt w v l) (hl : l.length * 16 ≤ 140737488355328) :
  Calls Tryz.prog 77 #[v] w fun r w' => (∃ p n c, r = .returned (.slice p n c) ∧ ∀ w'', Kept w.heap.size w' w'' → StrsAt w'' (.slice p n c) l) ∧ Below w.heap.size w w' := by
 have hi := hv.1;obtain ⟨a, cap, rfl⟩ := hv.form;have hr := hv.room;cases a with
 | none =>
  obtain ⟨e1, e2⟩ := hr.2 rfl;have e3 : l = [] := List.length_eq_zero_iff.1 e1;subst e3;simp only [List.length_nil] at *;subst e2;refine (cloneS_nil w).mono ?_;rintro r w' ⟨rfl, rfl⟩;exact ⟨⟨none, 0, 0, rfl, fun w'' _ => ⟨hi, hv.2.1, none, 0, rfl, fun i h => by simp at h⟩⟩, Below.refl _ _⟩
 | some ad =>
  have h2 := hv.2.1;obtain ⟨_, _, ad', cap', e0, hel⟩ := hv
  simp at e0
  obtain ⟨e0, rfl⟩ := e0;subst e0;refine (cloneS_some ad l.length _ (l.map Value.string) w (by simp) ?_ (fun u hu => by obtain ⟨s, _, rfl⟩ := List.mem_map.1 hu; rfl) hl).mono ?_
  ·intro j u hj;have hjl : j < l.length := by
    have := (List.getElem?_eq_some_iff.1 hj).1
    simpa using this
   obtain ⟨b, off, e, _, c0⟩ := hel j hjl
   simp at e
   subst e;rw [Go.WideShapes.add_plain, c0, ← hj, strs_cells_at l j hjl]
  ·rintro r w' ⟨⟨v, rfl, ho⟩, hb⟩;obtain ⟨p, c, rfl, _, _⟩ := ownsRow_form ho;refine ⟨⟨p, l.length, c, rfl, fun w'' hk => ?_⟩, hb⟩;have ho' := ownsRow_kept ho hk;refine ⟨hi, h2, ?_⟩;rcases ho'.2 with ⟨e, h0⟩ | ⟨g, cap, cur, e, _, hg, hc, _⟩
   ·exact ⟨none, 0, by rw [e, h0]; rfl, fun i hi' => by omega⟩
   ·obtain ⟨sp, hsp⟩ := capOf_of (a := some ⟨g, 0, none⟩) hc (fun e => by cases e);rw [e] at ho' ⊢;refine ⟨_, sp, by rw [← hsp], fun i hi' => ⟨g, 0, rfl, lt_heap hg, ?_⟩⟩;rw [Nat.zero_add];exact ownsRow_cell ho' i _ (strs_cells_at l i hi')
end Go.Proofs.YtlkcjhcmkaddaaaGreat
namespace Go.Proofs.YtlkcjhcmkaddaaaGreat
open Go.RowKit
theorem heap_put {w : World} {g : Nat} {cs : Array Value} {t : TypeId} (h : w.heap[g]? = some (.cells cs t (0, 0))) (i : Nat) (v : Value) : (w.setCell ⟨g, i, none⟩ v).heap[g]? = some (.cells (cs.setIfInBounds i v) t (0, 0)) := heap_setCell (i := i) v h
theorem setAt_ints {w : World} {s : SC} {S : SetV} (h : SetAt w s.val S) : RngsAt w (.slice s.p s.n s.c) S.ints := by
 obtain ⟨vi, vs, e, hI, hS⟩ := h;unfold SC.val at e
 simp at e
 obtain ⟨e1, e2, e3, e4⟩ := e;rw [e2]; exact hI
theorem setAt_strs {w : World} {s : SC} {S : SetV} (h : SetAt w s.val S) : StrsAt w (.slice s.q s.m s.e) S.strs := by
 obtain ⟨vi, vs, e, hI, hS⟩ := h;unfold SC.val at e
 simp at e
 obtain ⟨e1, e2, e3, e4⟩ := e;rw [e4]; exact hS
theorem setAt_mk {w : World} {s : SC} {S : SetV} (h : SetAt w s.val S) {w' : World} {p q : Option Addr} {n c m e : Nat} (hr : RngsAt w' (.slice p n c) S.ints) (hs : StrsAt w' (.slice q m e) S.strs) : SetAt w' (SC.mk s.a p n c s.d q m e).val S := by
 obtain ⟨vi, vs, ee, hI, hS⟩ := h;unfold SC.val at ee
 simp at ee
 obtain ⟨e1, e2, e3, e4⟩ := ee;refine ⟨_, _, ?_, hr, hs⟩;unfold SC.val;rw [← e1, ← e3]
def stObj (s : SC) : Obj := Obj.cells #[.bool s.a, .slice s.p s.n s.c, .bool s.d, .slice s.q s.m s.e] 25
theorem stCells {w : World} {g : Nat} {t : TypeId} {x0 x1 x2 x3 : Value} (h : w.heap[g]? = some (.cells #[x0, x1, x2, x3] t (0, 0))) : w.cell? ⟨g, 0, none⟩ = some x0 ∧ w.cell? ⟨g, 1, none⟩ = some x1 ∧ w.cell? ⟨g, 2, none⟩ = some x2 ∧ w.cell? ⟨g, 3, none⟩ = some x3 :=
 ⟨cell_heap h 0, cell_heap h 1, cell_heap h 2, cell_heap h 3⟩
theorem infoSet4 : (Tryz.prog.info? 25).map (·.size) = some 4 := by kernel_rfl
structure Pair (w W : World) (o1 o2 : Obj) : Prop where
 e1 : W.heap[w.heap.size]? = some o1
 e2 : W.heap[w.heap.size + 1]? = some o2
 b : Below w.heap.size w W
theorem Pair.new (w : World) (o1 o2 : Obj) : Pair w ((w.alloc o1).alloc o2) o1 o2 := by
 refine ⟨(Below.heap_alloc (w.alloc o1) o2 w.heap.size (by simp)).trans (heap_new w _), ?_, ((Below.refl _ w).alloc (Nat.le_refl _) _).alloc (by simp) _⟩;have := heap_new (w.alloc o1) o2;rw [World.size_alloc] at this;exact this
theorem Pair.on {w W W' : World} {o1 o2 : Obj} (h : Pair w W o1 o2) (hb : Below W.heap.size W W') : Pair w W' o1 o2 := ⟨(hb.block _ (lt_heap h.e1)).trans h.e1, (hb.block _ (lt_heap h.e2)).trans h.e2, h.b.trans (hb.mono h.b.size)⟩
theorem Pair.put1 {w W : World} {cs : Array Value} {t : TypeId} {o2 : Obj} (h : Pair w W (.cells cs t (0, 0)) o2) (i : Nat) (v : Value) : Pair w (W.setCell ⟨w.heap.size, i, none⟩ v) (.cells (cs.setIfInBounds i v) t (0, 0)) o2 :=
 ⟨heap_setCell (i := i) v h.e1, (Below.heap_setCell _ _ _ _ (by simp)).trans h.e2, h.b.setCell (p := ⟨w.heap.size, i, none⟩) (Nat.le_refl _) v⟩
theorem Pair.put2 {w W : World} {cs : Array Value} {t : TypeId} {o1 : Obj} (h : Pair w W o1 (.cells cs t (0, 0))) (i : Nat) (v : Value) : Pair w (W.setCell ⟨w.heap.size + 1, i, none⟩ v) o1 (.cells (cs.setIfInBounds i v) t (0, 0)) :=
 ⟨(Below.heap_setCell _ _ _ _ (by simp)).trans h.e1, heap_setCell (i := i) v h.e2, h.b.setCell (p := ⟨w.heap.size + 1, i, none⟩) (by simp) v⟩
theorem Pair.size {w W : World} {o1 o2 : Obj} (h : Pair w W o1 o2) : w.heap.size + 1 < W.heap.size := lt_heap h.e2
set_option maxHeartbeats 4000000 in
set_option maxRecDepth 100000 in
theorem copiedSet_any (s : SC) (S : SetV) (w : World) (hv : SetAt w s.val S) (h1 : S.ints.length * 16 ≤ 140737488355328) (h2 : S.strs.length * 16 ≤ 140737488355328) :
  Calls Tryz.prog 53 #[s.val] w fun r w' => (∃ y : SC, r = .returned y.val ∧ ∀ w'', Kept w.heap.size w' w'' → SetAt w'' y.val S) ∧ Below w.heap.size w w' := by
 have HV := hide hv;have H1 := hide h1;have H2 := hide h2;have T0 := hide (Pair.new w (stObj s) (stObj SC.zero));clear hv h1 h2;unfold stObj SC.zero at T0;unfold SC.val;go_enter Tryz.func53, Tryz.ntmps53
 go_wp2_with fail
 generalize (w.alloc (Obj.cells #[.bool s.a, .slice s.p s.n s.c, .bool s.d, .slice s.q s.m s.e] 25)).alloc (Obj.cells #[.bool false, .slice none 0 0, .bool false, .slice none 0 0] 25) = W0 at T0 ⊢;refine (cloneR_new _ S.ints W0 (setAt_ints (HV.out.on T0.out.b)) H1.out).mono ?_;rintro r w1 ⟨⟨p, n, c, rfl, hR⟩, b1⟩;have T1 := hide (T0.out.on b1);have HR := hide hR;have K1 := hide T0.out.size;have K0 := hide b1.size;obtain ⟨c0, c1, c2, c3⟩ := stCells T1.out.e1;have z1 := soft_heap T1.out.e1 1;have T2 := hide (T1.out.put1 1 (.slice p n c));clear hR b1 T0
 go_wp2_with fail
 refine (cloneS_new _ S.strs _ (setAt_strs (HV.out.on T2.out.b)) H2.out).mono ?_;rintro r w2 ⟨⟨q, m, e, rfl, hS⟩, b2⟩;have T3 := hide (T2.out.on b2);have K2 := hide (Kept.trans (Kept.setCell w1 w.heap.size 1 (.slice p n c) (m := W0.heap.size) (by have := K1.out; omega)) (Kept.ofBelow b2));have L2 := hide (show W0.heap.size ≤ (w1.setCell ⟨w.heap.size, 1, none⟩ (.slice p n c)).heap.size by have := K0.out; simp; omega);have HS := hide hS;have e1 : w2.heap[w.heap.size]? = some (.cells #[.bool s.a, .slice p n c, .bool s.d, .slice s.q s.m s.e] 25 (0, 0)) := T3.out.e1;obtain ⟨d0, d1, d2, d3⟩ := stCells e1;have y3 := soft_heap e1 3;have T4 : Hid (Pair w (w2.setCell ⟨w.heap.size, 3, none⟩ (.slice q m e)) (.cells #[.bool s.a, .slice p n c, .bool s.d, .slice q m e] 25 (0, 0)) (.cells #[.bool false, .slice none 0 0, .bool false, .slice none 0 0] 25 (0, 0))) := hide (T3.out.put1 3 (.slice q m e));have K3 := hide (Kept.setCell w2 w.heap.size 3 (.slice q m e) (m := W0.heap.size) (by have := K1.out; omega));clear hS b2 T2 c0 c1 c2 c3 z1 e1 T3 T1
 go_upto_region 3 with fail
 generalize w2.setCell ⟨w.heap.size, 3, none⟩ (.slice q m e) = w3 at T4 K3 ⊢;clear d0 d1 d2 d3 y3;obtain ⟨c0, c1, c2, c3⟩ := stCells T4.out.e1;obtain ⟨d0, d1, d2, d3⟩ := stCells T4.out.e2;have z0 := soft_heap T4.out.e2 0;have z1 := soft_heap T4.out.e2 1;have z2 := soft_heap T4.out.e2 2;have z3 := soft_heap T4.out.e2 3;have T5 : Hid (Pair w ((((w3.setCell ⟨w.heap.size + 1, 0, none⟩ (.bool s.a)).setCell ⟨w.heap.size + 1, 1, none⟩ (.slice p n c)).setCell ⟨w.heap.size + 1, 2, none⟩ (.bool s.d)).setCell ⟨w.heap.size + 1, 3, none⟩ (.slice q m e)) (.cells #[.bool s.a, .slice p n c, .bool s.d, .slice q m e] 25 (0, 0)) (.cells #[.bool s.a, .slice p n c, .bool s.d, .slice q m e] 25 (0, 0))) := hide ((((T4.out.put2 0 (.bool s.a)).put2 1 (.slice p n c)).put2 2 (.bool s.d)).put2 3 (.slice q m e));have K4 := hide ((((Kept.setCell w3 (w.heap.size + 1) 0 (.bool s.a) (m := W0.heap.size) K1.out).trans (Kept.setCell _ (w.heap.size + 1) 1 (.slice p n c) K1.out)).trans (Kept.setCell _ (w.heap.size + 1) 2 (.bool s.d) K1.out)).trans (Kept.setCell _ (w.heap.size + 1) 3 (.slice q m e) K1.out))
 go_wp2
 refine bodyPost_ret (results_cell_row rfl _ _ (w.heap.size + 1) 25 _ (0, 0) _ rfl T5.out.e2 Tryz.underlying25 rfl infoSet4) rfl ⟨⟨⟨s.a, p, n, c, s.d, q, m, e⟩, rfl, fun w'' hk => ?_⟩, T5.out.b⟩;have hk' := hk.mono (m' := W0.heap.size) (by have := K1.out; omega);have k3 := (K3.out.trans K4.out).trans hk';exact setAt_mk HV.out (HR.out w'' (K2.out.trans k3)) (HS.out w'' (k3.mono L2.out))
end Go.Proofs.YtlkcjhcmkaddaaaGreat
namespace Go.Proofs.YtlkcjhcmkaddaaaGreat
open Go.RowKit
section
variable {ops : Array Oper} {Q : Exit → Act → World → Prop} {S : World → Prop} {o : Oper} {a : Act}
theorem yl_move (hw : Region.wanted o (yielded ops a.tmps) = true) (x : Operand) (ho : o.op = .move x) (v : Value) (hx : a.eval x = v) : YieldsIf Tryz.prog ops S o v a :=
 Or.inl ⟨hw, fun w _ => by simp [execOp, ho, hx]⟩
theorem yl_assign (hw : Region.wanted o (yielded ops a.tmps) = true) (x : Operand) (ho : o.op = .assign x) (v : Value) (hx : a.eval x = v) : YieldsIf Tryz.prog ops S o v a :=
 Or.inl ⟨hw, fun w _ => by simp [execOp, ho, hx]⟩
theorem yl_not (hw : Region.wanted o (yielded ops a.tmps) = true) (t : TypeId) (x : Operand) (ho : o.op = .unOp .not t x) (b : Bool) (hx : a.eval x = .bool b) : YieldsIf Tryz.prog ops S o (.bool (!b)) a :=
 Or.inl ⟨hw, fun w _ => by simp [execOp, ho, hx]; go_simp⟩
theorem yl_pickT (hw : Region.wanted o (yielded ops a.tmps) = true) (c x y : Operand) (ho : o.op = .pick c x y) (hc : a.eval c = .bool true) (v : Value) (hx : a.eval x = v) : YieldsIf Tryz.prog ops S o v a :=
 Or.inl ⟨hw, fun w _ => by simp [execOp, ho, hc, hx]; go_simp⟩
theorem yl_pickF (hw : Region.wanted o (yielded ops a.tmps) = true) (c x y : Operand) (ho : o.op = .pick c x y) (hc : a.eval c = .bool false) (v : Value) (hx : a.eval y = v) : YieldsIf Tryz.prog ops S o v a :=
 Or.inl ⟨hw, fun w _ => by simp [execOp, ho, hc, hx]; go_simp⟩
theorem yl_undef (hw : Region.wanted o (yielded ops a.tmps) = false) : YieldsIf Tryz.prog ops S o undef a := Or.inr ⟨hw, rfl⟩
theorem run_call {f : Nat} {fn : Func} (hf : Tryz.prog.funcs[f]? = some fn) (hn : (fn.name == "runtime.NumGoroutine") = false) (hb : fn.body.isNone = false) (W : World) (A : Array Value) : (callFunc f A).run Tryz.prog W = .ok (.enter f A) W := by
 simp [callFunc, go_sem, hf, -beq_iff_eq, -Option.isNone_iff_eq_none, hn, hb]
theorem held_call {md : Region.Mode} {fuel : Nat} {listed : Array Bool} {w : World} (i : Nat) (hr : Region.ready md ops listed = [i]) (hi : ops[i]? = some o) (hw : Region.wanted o (yielded ops a.tmps) = true)
  (f : Nat) (xs : Array Operand) (ts : Array TypeId) (ho : o.op = .call { callee := .value (.func f), args := xs, argTypes := ts }) (vs : Array Value) (hv : xs.toList.map a.eval = vs.toList)
  (hrun : ∀ (W : World) (A : Array Value), (callFunc f A).run Tryz.prog W = .ok (.enter f A) W)
  (hc : Calls Tryz.prog f vs w fun r w' => ∃ v, r = .returned v ∧ S w' ∧ (S w' → wpAnyH Tryz.prog md ops Q S fuel (listed.setIfInBounds i true) (a.put o.dst v) w')) :
  wpAnyH Tryz.prog md ops Q S (fuel + 1) listed a w := by
 refine wpAnyH_all hr (by simp) ?_;intro j hj
 simp at hj
 subst hj;unfold wpOp;simp only [hi];rw [if_pos hw];refine Or.inl ?_;have hv : xs.map a.eval = vs := by
  rw [← Array.toList_inj, Array.toList_map];exact hv
 have he : a.eval (.func f) = .func (.func f) #[] #[] := rfl;have hx : (execOp a.eval o).run Tryz.prog w = .ok (.enter f vs) w := by
  have := hrun w vs
  simp [execOp, ho, resolve, he, hv, Deferred.ofValue, invoke, this]
 unfold Oper.wp;rw [hx, Oper.upon_enter];refine hc.mono ?_;rintro e w' ⟨v, rfl, h1, h2⟩;exact ⟨h1, h2 h1⟩
theorem wl_yield {rest : List Oper} {w : World} (v : Value) (hy : YieldsIf Tryz.prog ops (fun x => x = w) o v a) (h : wpList Tryz.prog ops Q rest (a.put o.dst v) w) : wpList Tryz.prog ops Q (o :: rest) a w := by
 unfold wpList;rcases hy with ⟨hw, hv⟩ | ⟨hw, rfl⟩
 ·rw [if_pos hw]
  left
  unfold Oper.wp;rw [hv w rfl];exact h
 ·rw [if_neg (by rw [hw]; simp)];exact h
theorem wl_run {rest : List Oper} {w : World} (hw : Region.wanted o (yielded ops a.tmps) = true) (v : Value) (w' : World) (hr : (execOp a.eval o).run Tryz.prog w = .ok (.value v) w') (h : wpList Tryz.prog ops Q rest (a.put o.dst v) w') : wpList Tryz.prog ops Q (o :: rest) a w := by
 unfold wpList;rw [if_pos hw]
 left
 unfold Oper.wp;rw [hr];exact h
theorem wl_skip {rest : List Oper} {w : World} (hw : Region.wanted o (yielded ops a.tmps) = true) (w' : World) (hr : (execOp a.eval o).run Tryz.prog w = .ok .skip w') (h : wpList Tryz.prog ops Q rest (a.put o.dst undef) w') : wpList Tryz.prog ops Q (o :: rest) a w := by
 unfold wpList;rw [if_pos hw]
 left
 unfold Oper.wp;rw [hr];exact h
theorem wl_call {rest : List Oper} {w : World} (hw : Region.wanted o (yielded ops a.tmps) = true)
  (f : Nat) (xs : Array Operand) (ts : Array TypeId) (ho : o.op = .call { callee := .value (.func f), args := xs, argTypes := ts }) (vs : Array Value) (hv : xs.toList.map a.eval = vs.toList)
  (hrun : ∀ (W : World) (A : Array Value), (callFunc f A).run Tryz.prog W = .ok (.enter f A) W)
  (hc : Calls Tryz.prog f vs w fun r w' => ∃ v, r = .returned v ∧ wpList Tryz.prog ops Q rest (a.put o.dst v) w') : wpList Tryz.prog ops Q (o :: rest) a w := by
 unfold wpList;rw [if_pos hw]
 left
 have hv : xs.map a.eval = vs := by
  rw [← Array.toList_inj, Array.toList_map];exact hv
 have he : a.eval (.func f) = .func (.func f) #[] #[] := rfl;have hx : (execOp a.eval o).run Tryz.prog w = .ok (.enter f vs) w := by
  have := hrun w vs
  simp [execOp, ho, resolve, he, hv, Deferred.ofValue, invoke, this]
 unfold Oper.wp;rw [hx, Oper.upon_enter];refine hc.mono ?_;rintro e w' ⟨v, rfl, h1⟩;exact h1
end
end Go.Proofs.YtlkcjhcmkaddaaaGreat
namespace Go.Proofs.YtlkcjhcmkaddaaaGreat
open Go.RowKit
section
variable {ops : Array Oper} {Q : Exit → Act → World → Prop} {S : World → Prop} {o : Oper} {a : Act}
set_option maxHeartbeats 1000000 in
set_option maxRecDepth 100000 in
theorem yl_set (hw : Region.wanted o (yielded ops a.tmps) = true) (x : Operand) (ho : o.op = .load 25 x) (g : Nat) (k : Nat) (hx : a.eval x = .pointer (some ⟨g, k, none⟩)) (x0 x1 x2 x3 : Value)
  (h : ∀ w, S w → w.cell? ⟨g, k, none⟩ = some x0 ∧ w.cell? ⟨g, k + 1, none⟩ = some x1 ∧ w.cell? ⟨g, k + 2, none⟩ = some x2 ∧ w.cell? ⟨g, k + 3, none⟩ = some x3) : YieldsIf Tryz.prog ops S o (.agg #[x0, x1, x2, x3]) a :=
 Or.inl ⟨hw, fun w hS => by
  obtain ⟨c0, c1, c2, c3⟩ := h w hS;simp only [execOp, ho, hx];go_simp⟩
set_option maxHeartbeats 1000000 in
set_option maxRecDepth 100000 in
theorem yl_val (hw : Region.wanted o (yielded ops a.tmps) = true) (x : Operand) (ho : o.op = .load 44 x) (g : Nat) (k : Nat) (hx : a.eval x = .pointer (some ⟨g, k, none⟩)) (x0 x1 x2 : Value)
  (h : ∀ w, S w → w.cell? ⟨g, k, none⟩ = some x0 ∧ w.cell? ⟨g, k + 1, none⟩ = some x1 ∧ w.cell? ⟨g, k + 2, none⟩ = some x2) : YieldsIf Tryz.prog ops S o (.agg #[x0, x1, x2]) a :=
 Or.inl ⟨hw, fun w hS => by
  obtain ⟨c0, c1, c2⟩ := h w hS;simp only [execOp, ho, hx];go_simp⟩
set_option maxHeartbeats 1000000 in
set_option maxRecDepth 100000 in
theorem yl_ev (hw : Region.wanted o (yielded ops a.tmps) = true) (x : Operand) (ho : o.op = .load 46 x) (g : Nat) (k : Nat) (hx : a.eval x = .pointer (some ⟨g, k, none⟩)) (x0 x1 x2 x3 x4 x5 x6 x7 x8 x9 x10 x11 : Value)
  (h : ∀ w, S w → w.cell? ⟨g, k, none⟩ = some x0 ∧ w.cell? ⟨g, k + 1, none⟩ = some x1 ∧ w.cell? ⟨g, k + 2, none⟩ = some x2 ∧ w.cell? ⟨g, k + 3, none⟩ = some x3 ∧ w.cell? ⟨g, k + 4, none⟩ = some x4 ∧ w.cell? ⟨g, k + 5, none⟩ = some x5 ∧ w.cell? ⟨g, k + 6, none⟩ = some x6 ∧ w.cell? ⟨g, k + 7, none⟩ = some x7 ∧ w.cell? ⟨g, k + 8, none⟩ = some x8 ∧ w.cell? ⟨g, k + 9, none⟩ = some x9 ∧ w.cell? ⟨g, k + 10, none⟩ = some x10 ∧ w.cell? ⟨g, k + 11, none⟩ = some x11) : YieldsIf Tryz.prog ops S o (.agg #[x0, x1, x2, x3, x4, x5, x6, x7, x8, x9, x10, x11]) a :=
 Or.inl ⟨hw, fun w hS => by
  obtain ⟨c0, c1, c2, c3, c4, c5, c6, c7, c8, c9, c10, c11⟩ := h w hS;simp only [execOp, ho, hx];go_simp⟩
set_option maxHeartbeats 1000000 in
set_option maxRecDepth 100000 in
theorem yl_atEv (hw : Region.wanted o (yielded ops a.tmps) = true) (x y : Operand) (ho : o.op = .indexAddr 46 x y) (g : Nat) (i : Nat) (hx : a.eval x = .pointer (some ⟨g, 0, none⟩)) (hy : a.eval y = .int .i64 i) (hi : i < 4) : YieldsIf Tryz.prog ops S o (.pointer (some ⟨g, i * 3, none⟩)) a :=
 Or.inl ⟨hw, fun w hS => by
  simp only [execOp, ho, hx, hy]
  match i, hi with
  | 0, _ => go_simp
  | 1, _ => go_simp
  | 2, _ => go_simp
  | 3, _ => go_simp⟩
theorem yl_eqI (hw : Region.wanted o (yielded ops a.tmps) = true) (x y : Operand) (t : TypeId) (ho : o.op = .binOp .eql 3 x y t) (p q : Int) (hx : a.eval x = .int .i64 p) (hy : a.eval y = .int .i64 q) : YieldsIf Tryz.prog ops S o (.bool (p == q)) a :=
 Or.inl ⟨hw, fun w hS => by
  simp only [execOp, ho, hx, hy];go_simp⟩
end
end Go.Proofs.YtlkcjhcmkaddaaaGreat
namespace Go.Proofs.YtlkcjhcmkaddaaaGreat
open Go.RowKit
section
variable {ops : Array Oper} {Q : Exit → Act → World → Prop} {S : World → Prop} {o : Oper} {a : Act}
theorem yl_lssI (hw : Region.wanted o (yielded ops a.tmps) = true) (x y : Operand) (t : TypeId) (ho : o.op = .binOp .lss 3 x y t) (p q : Int) (r : Bool) (hx : a.eval x = .int .i64 p) (hy : a.eval y = .int .i64 q) (hr : decide (p < q) = r) : YieldsIf Tryz.prog ops S o (.bool r) a :=
 Or.inl ⟨hw, fun w hS => by
  subst hr;simp only [execOp, ho, hx, hy];go_simp⟩
theorem yl_gtrI (hw : Region.wanted o (yielded ops a.tmps) = true) (x y : Operand) (t : TypeId) (ho : o.op = .binOp .gtr 3 x y t) (p q : Int) (r : Bool) (hx : a.eval x = .int .i64 p) (hy : a.eval y = .int .i64 q) (hr : decide (q < p) = r) : YieldsIf Tryz.prog ops S o (.bool r) a :=
 Or.inl ⟨hw, fun w hS => by
  subst hr;simp only [execOp, ho, hx, hy];go_simp⟩
theorem yl_leqI (hw : Region.wanted o (yielded ops a.tmps) = true) (x y : Operand) (t : TypeId) (ho : o.op = .binOp .leq 3 x y t) (p q : Int) (r : Bool) (hx : a.eval x = .int .i64 p) (hy : a.eval y = .int .i64 q) (hr : decide (p ≤ q) = r) : YieldsIf Tryz.prog ops S o (.bool r) a :=
 Or.inl ⟨hw, fun w hS => by
  subst hr;simp only [execOp, ho, hx, hy];go_simp⟩
theorem yl_extract0 (hw : Region.wanted o (yielded ops a.tmps) = true) (x : Operand) (ho : o.op = .extract x 0) (p q : Value) (hx : a.eval x = .tuple #[p, q]) : YieldsIf Tryz.prog ops S o p a :=
 Or.inl ⟨hw, fun w hS => by
  simp only [execOp, ho, hx];go_simp⟩
theorem yl_extract1 (hw : Region.wanted o (yielded ops a.tmps) = true) (x : Operand) (ho : o.op = .extract x 1) (p q : Value) (hx : a.eval x = .tuple #[p, q]) : YieldsIf Tryz.prog ops S o q a :=
 Or.inl ⟨hw, fun w hS => by
  simp only [execOp, ho, hx];go_simp⟩
end
end Go.Proofs.YtlkcjhcmkaddaaaGreat
namespace Go.Proofs.YtlkcjhcmkaddaaaGreat
open Go.RowKit
def ec0 : EC := ⟨0, 0, SC.zero, none, 0, 0⟩
theorem EC.val_list (c : EC) : c.val = .agg c.list.toArray := rfl
theorem EC.list_len (c : EC) : c.list.length = 7 := rfl
theorem EC.list_one (c : EC) : ∀ v ∈ c.list, v.oneCell' = true := by
 intro v hv;unfold EC.list at hv;simp only [List.mem_cons, List.not_mem_nil, or_false] at hv;rcases hv with rfl | rfl | rfl | rfl | rfl | rfl | rfl <;> rfl
theorem infoEx : (Tryz.prog.info? 28).map (·.size) = some 7 := by kernel_rfl
theorem EcAt.range {w : World} {g o : Nat} {c : EC} (h : EcAt w g o c) : w.rangeAt g o c.list := by
 intro j v hv
 match j, hv with
 | 0, hv => simp [EC.list] at hv; subst hv; exact h.c0
 | 1, hv => simp [EC.list] at hv; subst hv; exact h.c1
 | 2, hv => simp [EC.list] at hv; subst hv; exact h.c2
 | 3, hv => simp [EC.list] at hv; subst hv; exact h.c3
 | 4, hv => simp [EC.list] at hv; subst hv; exact h.c4
 | 5, hv => simp [EC.list] at hv; subst hv; exact h.c5
 | 6, hv => simp [EC.list] at hv; subst hv; exact h.c6
 | n + 7, hv => simp [EC.list] at hv
theorem EcAt.ofRange {w : World} {g o : Nat} {c : EC} (h : w.rangeAt g o c.list) : EcAt w g o c :=
 ⟨h 0 _ rfl, h 1 _ rfl, h 2 _ rfl, h 3 _ rfl, h 4 _ rfl, h 5 _ rfl, h 6 _ rfl⟩
def ExIn (w : World) (g : Nat) (c : EC) : Prop := w.heap[g]? = some (exObj c)
theorem ExIn.on {w w' : World} {g : Nat} {c : EC} (h : ExIn w g c) (hb : Below w.heap.size w w') : ExIn w' g c := (hb.block _ (lt_heap h)).trans h
theorem ExIn.ec {w : World} {g : Nat} {c : EC} (h : ExIn w g c) : EcAt w g 0 c := by
 obtain ⟨c0, c1, c2, c3, c4, c5, c6⟩ := ecCells1 h;exact ⟨c0, c1, c2, c3, c4, c5, c6⟩
structure RowX (w : World) (b n : Nat) (es : Nat → EC) : Prop where
 els : ∀ j, j < n → EcAt w b (j * 7) (es j)
 soft : ∀ i, w.frozen? ⟨b, i, none⟩ = false
theorem EcAt.ofBlock {w w' : World} {g o : Nat} {c : EC} (h : EcAt w g o c) (hb : w'.heap[g]? = w.heap[g]?) : EcAt w' g o c :=
 ⟨(World.cell?_of_block (a := ⟨g, _, none⟩) hb).trans h.c0, (World.cell?_of_block (a := ⟨g, _, none⟩) hb).trans h.c1, (World.cell?_of_block (a := ⟨g, _, none⟩) hb).trans h.c2, (World.cell?_of_block (a := ⟨g, _, none⟩) hb).trans h.c3, (World.cell?_of_block (a := ⟨g, _, none⟩) hb).trans h.c4, (World.cell?_of_block (a := ⟨g, _, none⟩) hb).trans h.c5, (World.cell?_of_block (a := ⟨g, _, none⟩) hb).trans h.c6⟩
theorem RowX.ofBlock {w w' : World} {b n : Nat} {es : Nat → EC} (h : RowX w b n es) (hb : w'.heap[b]? = w.heap[b]?) : RowX w' b n es :=
 ⟨fun j hj => (h.els j hj).ofBlock hb, fun i => (World.frozen?_of_block (a := ⟨b, i, none⟩) hb).trans (h.soft i)⟩
theorem RowX.there {w : World} {b n : Nat} {es : Nat → EC} (h : RowX w b n es) (k : Nat) (hk : k < n) : w.there b (k * 7) 7 := fun j hj => by
 refine ⟨?_, h.soft _⟩;have := (h.els k hk).range j;have hl : j < (es k).list.length := hj;rw [this _ (List.getElem?_eq_getElem hl)]
 rfl
theorem RowX.put {w : World} {b n : Nat} {es : Nat → EC} (h : RowX w b n es) (k : Nat) (hk : k < n) (d : EC) : RowX (w.setCells b (k * 7) d.list) b n (fun j => if j = k then d else es j) := by
 refine ⟨fun j hj => ?_, fun i => ?_⟩
 ·by_cases e : j = k
  ·subst e;rw [if_pos rfl];exact EcAt.ofRange (World.rangeAt_setCells_same w b (j * 7) d.list (h.there j hk))
  ·rw [if_neg e];refine EcAt.ofRange (World.rangeAt_setCells_apart (h.els j hj).range b (k * 7) d.list ?_);rw [EC.list_len, EC.list_len]
   right
   omega
 ·rw [World.frozen?_setCells]; exact h.soft i
theorem size_setCells (b : Nat) : ∀ (vs : List Value) (o : Nat) (w : World), (w.setCells b o vs).heap.size = w.heap.size
 | [], _, _ => rfl
 | v :: r, o, w => by
  rw [World.setCells, size_setCells b r (o + 1)]
  simp
theorem Below.setCells {B : Nat} {w0 : World} (b : Nat) (hb : B ≤ b) : ∀ (vs : List Value) (o : Nat) (w : World), Below B w0 w → Below B w0 (w.setCells b o vs)
 | [], _, _, h => h
 | v :: r, o, w, h => by
  rw [World.setCells];exact Below.setCells b hb r (o + 1) _ (h.setCell (p := ⟨b, o, none⟩) hb v)
theorem Kept.setCells {m b : Nat} (w : World) (o : Nat) (vs : List Value) (h : b < m) : Kept m w (w.setCells b o vs) :=
 ⟨Nat.le_of_eq (size_setCells b vs o w).symm, fun g hg hs => World.heap_setCells_other w b o vs hs (by omega)⟩
section
variable {ops : Array Oper} {Q : Exit → Act → World → Prop} {S : World → Prop} {o : Oper} {a : Act}
theorem yl_ex (hw : Region.wanted o (yielded ops a.tmps) = true) (x : Operand) (ho : o.op = .load 28 x) (g k : Nat) (hx : a.eval x = .pointer (some ⟨g, k, none⟩)) (c : EC)
  (h : ∀ w, S w → EcAt w g k c) : YieldsIf Tryz.prog ops S o c.val a := by
 rw [EC.val_list];exact yieldsIf_load_mid hw 28 x ho g k hx c.list _ (fun w hS => (h w hS).range) Tryz.underlying28 rfl (by rw [infoEx]; rfl)
theorem yl_exSub (hw : Region.wanted o (yielded ops a.tmps) = true) (x : Operand) (ho : o.op = .fieldAddr 28 x 3) (g : Nat) (hx : a.eval x = .pointer (some ⟨g, 0, none⟩)) : YieldsIf Tryz.prog ops S o (.pointer (some ⟨g, 6, none⟩)) a :=
 Or.inl ⟨hw, fun w hS => by
  simp only [execOp, ho, hx];go_simp⟩
theorem yl_exRow (hw : Region.wanted o (yielded ops a.tmps) = true) (x : Operand) (ho : o.op = .load 26 x) (g k : Nat) (hx : a.eval x = .pointer (some ⟨g, k, none⟩)) (p : Option Addr) (n c : Nat) (h : ∀ w, S w → w.cell? ⟨g, k, none⟩ = some (.slice p n c)) : YieldsIf Tryz.prog ops S o (.slice p n c) a :=
 Or.inl ⟨hw, fun w hS => by
  have := h w hS;simp only [execOp, ho, hx];go_simp⟩
set_option maxRecDepth 100000 in
theorem yl_exAt (hw : Region.wanted o (yielded ops a.tmps) = true) (x y : Operand) (ho : o.op = .indexAddr 26 x y) (b n c i : Nat) (hx : a.eval x = .slice (some ⟨b, 0, none⟩) n c) (hy : a.eval y = .int .i64 i) (hi : i < n) : YieldsIf Tryz.prog ops S o (.pointer (some ⟨b, i * 7, none⟩)) a :=
 Or.inl ⟨hw, fun w hS => by
  simp only [execOp, ho, hx, hy];go_simp⟩
theorem op_storeEx {i : Nat} {w : World} {K : Act → World → Prop} (hi : ops[i]? = some o) (hw : Region.wanted o (yielded ops a.tmps) = true) (x y : Operand) (ho : o.op = .store 28 x y) (b k : Nat) (d : EC) (hx : a.eval x = .pointer (some ⟨b, k, none⟩)) (hy : a.eval y = d.val) (ht : w.there b k 7)
  (h : K (a.put o.dst undef) (w.setCells b k d.list)) : wpOp Tryz.prog ops Q i K a w := by
 unfold wpOp;simp only [hi];rw [if_pos hw];refine Or.inl ?_;refine wp_store_mid 28 x y ho b k d.list.toArray hx hy ht (by rw [infoEx]; rfl) (all_oneCell_toArray d.list_one) ?_;exact h
end
end Go.Proofs.YtlkcjhcmkaddaaaGreat
namespace Go.Proofs.YtlkcjhcmkaddaaaGreat
def zBox : BoxV := ⟨noSet, noSet, noSet, noSet⟩
def betterL (l : List BoxV) (k i : Nat) : Bool := (k != i) && (inBx (l.getD i zBox) (l.getD k zBox) && (decide (k < i) || !inBx (l.getD k zBox) (l.getD i zBox)))
def keepL (l : List BoxV) (i : Nat) : Bool := !emptyBx (l.getD i zBox) && (List.range l.length).all fun k => !betterL l k i
def tidyL (l : List BoxV) : List BoxV := ((List.range l.length).filter (keepL l)).map fun i => l.getD i zBox
def hasL (l : List BoxV) (e : EvV) : Bool := l.any fun b => hasE b e
theorem getB_mem {l : List BoxV} {i : Nat} (h : i < l.length) : l.getD i zBox ∈ l := by
 rw [List.getD_eq_getElem?_getD, List.getElem?_eq_getElem h];exact List.getElem_mem _
theorem tidy_sub {l : List BoxV} {b : BoxV} (h : b ∈ tidyL l) : b ∈ l := by
 obtain ⟨i, hi, rfl⟩ := List.mem_map.1 h;exact getB_mem (List.mem_range.1 (List.mem_filter.1 hi).1)
theorem better_trans {l : List BoxV} (hg : ∀ b ∈ l, GoodB b) {i j k : Nat} (hi : i < l.length) (hj : j < l.length) (hk : k < l.length) (h1 : betterL l j i = true) (h2 : betterL l k j = true) : betterL l k i = true := by
 unfold betterL at *;simp only [Bool.and_eq_true, Bool.or_eq_true, bne_iff_ne, decide_eq_true_eq, Bool.not_eq_true'] at *;obtain ⟨n1, a1, b1⟩ := h1;obtain ⟨n2, a2, b2⟩ := h2;have gi := hg _ (getB_mem hi);have gj := hg _ (getB_mem hj);have gk := hg _ (getB_mem hk);have h3 := inBx_trans gi gj gk a1 a2;by_cases hc : inBx (l.getD k zBox) (l.getD i zBox) = true
 ·have hkj := inBx_trans gk gi gj hc a1;have hji := inBx_trans gj gk gi a2 hc;have c1 : j < i := by
   rcases b1 with h | h
   ·exact h
   ·rw [hji] at h; cases h
  have c2 : k < j := by
   rcases b2 with h | h
   ·exact h
   ·rw [hkj] at h; cases h
  exact ⟨by omega, h3, Or.inl (by omega)⟩
 ·have hc' : inBx (l.getD k zBox) (l.getD i zBox) = false := by simpa using hc
  exact ⟨fun e => (by subst e; rw [inBx_refl gk] at hc'; cases hc'), h3, Or.inr hc'⟩
theorem better_irr (l : List BoxV) (i : Nat) : betterL l i i = false := by unfold betterL; simp
theorem best_exists {l : List BoxV} (hg : ∀ b ∈ l, GoodB b) : ∀ (n i : Nat), i < l.length → ((List.range l.length).countP fun k => betterL l k i) ≤ n → ∃ j, j < l.length ∧ ((List.range l.length).all fun k => !betterL l k j) = true ∧ inBx (l.getD i zBox) (l.getD j zBox) = true := by
 intro n
 induction n with
 | zero =>
  intro i hi hc;refine ⟨i, hi, ?_, inBx_refl (hg _ (getB_mem hi))⟩;rw [List.all_eq_true];intro k hk;have := List.countP_eq_zero.1 (Nat.le_zero.1 hc) k hk
  simpa using this
 | succ n ih =>
  intro i hi hc;by_cases hb : ∃ k, k < l.length ∧ betterL l k i = true
  ·obtain ⟨k, hk, hbk⟩ := hb;have hlt : ((List.range l.length).countP fun j => betterL l j k) < (List.range l.length).countP fun j => betterL l j i := by
    have H : ∀ (m : List Nat), (∀ j ∈ m, j < l.length) → (m.countP fun j => betterL l j k) ≤ (m.countP fun j => betterL l j i) ∧ (k ∈ m → (m.countP fun j => betterL l j k) < m.countP fun j => betterL l j i) := by
     intro m
     induction m with
     | nil => intro _; exact ⟨Nat.le_refl _, fun h => by cases h⟩
     | cons j m ihm =>
      intro hm;obtain ⟨q1, q2⟩ := ihm (fun z hz => hm z (by simp [hz]));have himp : betterL l j k = true → betterL l j i = true := fun h => better_trans hg hi hk (hm j (by simp)) hbk h
      rw [List.countP_cons, List.countP_cons];refine ⟨?_, fun hmem => ?_⟩
      ·by_cases hjk : betterL l j k = true
       ·rw [if_pos hjk, if_pos (himp hjk)]; omega
       ·rw [if_neg hjk]; split <;> omega
      ·rcases List.mem_cons.1 hmem with rfl | hmem
       ·rw [if_neg (by rw [better_irr]; simp), if_pos hbk]; omega
       ·have := q2 hmem;by_cases hjk : betterL l j k = true
        ·rw [if_pos hjk, if_pos (himp hjk)]; omega
        ·rw [if_neg hjk]; split <;> omega
    exact (H (List.range l.length) (fun j hj => List.mem_range.1 hj)).2 (List.mem_range.2 hk)
   obtain ⟨j, hj, h1, h2⟩ := ih k hk (by omega);refine ⟨j, hj, h1, inBx_trans (hg _ (getB_mem hi)) (hg _ (getB_mem hk)) (hg _ (getB_mem hj)) ?_ h2⟩;unfold betterL at hbk;simp only [Bool.and_eq_true] at hbk;exact hbk.2.1
  ·refine ⟨i, hi, ?_, inBx_refl (hg _ (getB_mem hi))⟩;rw [List.all_eq_true];intro k hk;cases hq : betterL l k i
   ·rfl
   ·exact absurd ⟨k, List.mem_range.1 hk, hq⟩ hb
def prodL (out l : List BoxV) : List BoxV := out.flatMap fun a => l.map fun b => andBx a b
def foldX (f : ExV → Option (List BoxV)) (prod : Bool) : List ExV → List BoxV → Option (List BoxV)
 | [], out => some out
 | y :: ys, out => match f y with
  | none => none
  | some l => if (tidyL (if prod then prodL out l else out ++ l)).length ≤ 16 then foldX f prod ys (tidyL (if prod then prodL out l else out ++ l)) else none
def boxesX : Nat → ExV → Bool → Option (List BoxV)
 | 0, _, _ => none
 | n + 1, x, neg =>
  if x.kind = 1 then some (tidyL [allBx.put x.attr.toNat (if neg then notV x.set else x.set)])
  else if x.kind = 4 then boxesX n (x.sub.headD ⟨0, 0, noSet, []⟩) !neg
  else foldX (fun y => boxesX n y neg) ((decide (x.kind = 2) && !neg) || (decide (x.kind = 3) && neg)) x.sub (if (decide (x.kind = 2) && !neg) || (decide (x.kind = 3) && neg) then [allBx] else [])
def FineL (M : Nat) (l : List BoxV) : Prop := ∀ b ∈ l, GoodB b ∧ ∀ i, i < 4 → (b.get i).strs.length ≤ M
theorem FineL.good {M : Nat} {l : List BoxV} (h : FineL M l) : ∀ b ∈ l, GoodB b := fun b hb => (h b hb).1
theorem FineL.mono {M M' : Nat} {l : List BoxV} (h : FineL M l) (hm : M ≤ M') : FineL M' l := fun b hb => ⟨(h b hb).1, fun i hi => Nat.le_trans ((h b hb).2 i hi) hm⟩
theorem FineL.tidy {M : Nat} {l : List BoxV} (h : FineL M l) : FineL M (tidyL l) := fun b hb => h b (tidy_sub hb)
theorem fine_prod {A B : Nat} {out l : List BoxV} (ho : FineL A out) (hl : FineL B l) (hA : A ≤ 400) (hB : B ≤ 400) : FineL (A + B) (prodL out l) := by
 intro b hb;unfold prodL at hb;obtain ⟨a, ha, hb⟩ := List.mem_flatMap.1 hb;obtain ⟨c, hc, rfl⟩ := List.mem_map.1 hb;have ga := ho a ha;have gc := hl c hc;refine ⟨andBx_good ga.1 gc.1 (fun i hi => Nat.le_trans (ga.2 i hi) hA) (fun i hi => Nat.le_trans (gc.2 i hi) hB), fun i hi => ?_⟩;rw [andBx_get a c i hi];have h1 := (andV_len (ga.1.g i hi) (gc.1.g i hi)).2;have h2 := ga.2 i hi;have h3 := gc.2 i hi;omega
theorem fine_sum {A B : Nat} {out l : List BoxV} (ho : FineL A out) (hl : FineL B l) : FineL (A + B) (out ++ l) := fun b hb => by
 rcases List.mem_append.1 hb with h | h
 ·exact ho.mono (by omega) b h
 ·exact hl.mono (by omega) b h
def wX : Nat → ExV → Nat
 | 0, _ => 0
 | n + 1, x => 1 + (x.sub.map (wX n)).sum
def i64X : Nat → ExV → Prop
 | 0, _ => True
 | n + 1, x => inI64 x.set.ints ∧ ∀ y ∈ x.sub, i64X n y
end Go.Proofs.YtlkcjhcmkaddaaaGreat
namespace Go.Proofs.YtlkcjhcmkaddaaaGreat
theorem wX_size : ∀ (n : Nat) (x : ExV), wX n x = sizeX n x
 | 0, _ => rfl
 | n + 1, x => by
  unfold wX sizeX;rw [List.map_congr_left fun y _ => wX_size n y]
theorem right_parts {x : ExV} (h : rightX x = true) : wX 8 x ≤ 40 ∧ eachX 8 x = true := by
 have h8 := rightX_low h;unfold rightX at h;rw [Bool.and_eq_true] at h;have hf := h.1;rw [fits_plain h8, decide_eq_true_eq] at hf;exact ⟨by rw [wX_size]; exact hf.1, h.2⟩
theorem tidy_len (l : List BoxV) : (tidyL l).length ≤ l.length := by
 unfold tidyL;rw [List.length_map];refine Nat.le_trans (List.length_filter_le _ _) ?_
 simp
end Go.Proofs.YtlkcjhcmkaddaaaGreat
namespace Go.Proofs.YtlkcjhcmkaddaaaGreat
def stepT (kept : List BoxV) (b : BoxV) : List BoxV := if (emptyBx b || kept.any fun k => inBx b k) = true then kept else (kept.filter fun k => !inBx k b) ++ [b]
def tidP (l : List BoxV) : List BoxV := l.foldl stepT []
theorem getB_lt {l : List BoxV} {b : BoxV} {i : Nat} (h : i < l.length) : (l ++ [b]).getD i zBox = l.getD i zBox := by
 rw [List.getD_eq_getElem?_getD, List.getD_eq_getElem?_getD, List.getElem?_append_left h]
theorem getB_end (l : List BoxV) (b : BoxV) : (l ++ [b]).getD l.length zBox = b := by
 rw [List.getD_eq_getElem?_getD, List.getElem?_append_right (Nat.le_refl _)]
 simp
theorem range_anyB (f : BoxV → Bool) (l : List BoxV) : (List.range l.length).any (fun i => f (l.getD i zBox)) = l.any f := by
 rw [Bool.eq_iff_iff, List.any_eq_true, List.any_eq_true]
 constructor
 ·rintro ⟨i, hi, h⟩;exact ⟨_, getB_mem (List.mem_range.1 hi), h⟩
 ·rintro ⟨y, hy, h⟩;obtain ⟨i, hi, rfl⟩ := List.getElem_of_mem hy;refine ⟨i, List.mem_range.2 hi, ?_⟩
  rwa [List.getD_eq_getElem?_getD, List.getElem?_eq_getElem hi, Option.getD_some]
theorem better_lt {l : List BoxV} {b : BoxV} {i k : Nat} (hi : i < l.length) (hk : k < l.length) : betterL (l ++ [b]) k i = betterL l k i := by
 unfold betterL;rw [getB_lt hi, getB_lt hk]
theorem better_end {l : List BoxV} {b : BoxV} {i : Nat} (hi : i < l.length) : betterL (l ++ [b]) l.length i = (inBx (l.getD i zBox) b && !inBx b (l.getD i zBox)) := by
 unfold betterL;rw [getB_lt hi, getB_end, show (l.length != i) = true by simp; omega, decide_eq_false (by omega : ¬ l.length < i), Bool.true_and, Bool.false_or]
theorem better_of {l : List BoxV} {b : BoxV} {k : Nat} (hk : k < l.length) : betterL (l ++ [b]) k l.length = inBx b (l.getD k zBox) := by
 unfold betterL;rw [getB_lt hk, getB_end, show (k != l.length) = true by simp; omega, decide_eq_true hk, Bool.true_and, Bool.true_or, Bool.and_true]
theorem keep_lt {l : List BoxV} {b : BoxV} {i : Nat} (hi : i < l.length) : keepL (l ++ [b]) i = (keepL l i && !(inBx (l.getD i zBox) b && !inBx b (l.getD i zBox))) := by
 unfold keepL;rw [getB_lt hi, List.length_append, List.length_singleton, List.range_succ, List.all_append, List.all_cons, List.all_nil, Bool.and_true, better_end hi, ← Bool.and_assoc]
 congr 2
 rw [Bool.eq_iff_iff, List.all_eq_true, List.all_eq_true];exact ⟨fun h k hk => by rw [← better_lt hi (List.mem_range.1 hk)]; exact h k hk, fun h k hk => by rw [better_lt hi (List.mem_range.1 hk)]; exact h k hk⟩
theorem keep_end (l : List BoxV) (b : BoxV) : keepL (l ++ [b]) l.length = !(emptyBx b || l.any fun k => inBx b k) := by
 unfold keepL;rw [getB_end, List.length_append, List.length_singleton, List.range_succ, List.all_append, List.all_cons, List.all_nil, Bool.and_true, better_irr, Bool.not_false, Bool.and_true, Bool.not_or]
 congr 1
 rw [← range_anyB (fun k => inBx b k) l, Bool.eq_iff_iff, List.all_eq_true]
 constructor
 ·intro h;rw [Bool.not_eq_true', List.any_eq_false];intro k hk;have := h k hk;rw [better_of (List.mem_range.1 hk)] at this
  simpa using this
 ·intro h k hk;rw [Bool.not_eq_true', List.any_eq_false] at h;have := h k hk;rw [better_of (List.mem_range.1 hk)]
  simpa using this
theorem tidy_snoc (l : List BoxV) (b : BoxV) : tidyL (l ++ [b]) = ((tidyL l).filter fun k => !(inBx k b && !inBx b k)) ++ (if (emptyBx b || l.any fun k => inBx b k) = true then [] else [b]) := by
 unfold tidyL;rw [List.length_append, List.length_singleton, List.range_succ, List.filter_append, List.map_append]
 congr 1
 ·rw [List.filter_map];have h1 : (List.range l.length).filter (keepL (l ++ [b])) = ((List.range l.length).filter (keepL l)).filter ((fun k => !(inBx k b && !inBx b k)) ∘ fun i => l.getD i zBox) := by
   rw [List.filter_filter];refine List.filter_congr fun i hi => ?_
   rw [keep_lt (List.mem_range.1 hi), Bool.and_comm]
   rfl
  rw [h1];refine List.map_congr_left fun i hi => ?_
  exact getB_lt (List.mem_range.1 (List.mem_filter.1 (List.mem_filter.1 hi).1).1)
 ·rw [List.filter_cons, List.filter_nil, keep_end];cases hq : (emptyBx b || l.any fun k => inBx b k)
  ·simp only [Bool.not_false, if_true, List.map_cons, List.map_nil, Bool.false_eq_true, if_false];rw [getB_end]
  ·simp
theorem tidy_get {l : List BoxV} {t : BoxV} (h : t ∈ tidyL l) : ∃ i, i < l.length ∧ keepL l i = true ∧ l.getD i zBox = t := by
 unfold tidyL at h;obtain ⟨i, hi, rfl⟩ := List.mem_map.1 h;obtain ⟨h1, h2⟩ := List.mem_filter.1 hi;exact ⟨i, List.mem_range.1 h1, h2, rfl⟩
theorem tidy_live {l : List BoxV} {t : BoxV} (h : t ∈ tidyL l) : emptyBx t = false := by
 obtain ⟨i, hi, hk, rfl⟩ := tidy_get h;unfold keepL at hk;rw [Bool.and_eq_true, Bool.not_eq_true'] at hk;exact hk.1
theorem tidy_apart {l : List BoxV} {k t : BoxV} (hk : k ∈ tidyL l) (ht : t ∈ tidyL l) (h1 : inBx k t = true) (h2 : inBx t k = false) : False := by
 obtain ⟨i, hi, ki, rfl⟩ := tidy_get hk;obtain ⟨j, hj, kj, rfl⟩ := tidy_get ht;unfold keepL at ki;rw [Bool.and_eq_true, List.all_eq_true] at ki;have := ki.2 j (List.mem_range.2 hj);unfold betterL at this;have hne : j ≠ i := fun e => by subst e; rw [h1] at h2; cases h2
 rw [h1, h2, show (j != i) = true by simpa using hne] at this
 simp at this
theorem inBx_empty {a b : BoxV} (hb : GoodB b) (ha : GoodB a) (h : inBx a b = true) (he : emptyBx b = true) : emptyBx a = true := by
 unfold inBx at h;rw [Bool.or_eq_true] at h;rcases h with h | h
 ·exact h
 ·cases hq : emptyBx a
  ·exfalso
   have h4 := (emptyBx_iff a).1 hq;have hall : emptyBx b = false := (emptyBx_iff b).2 fun i hi => by
    cases hz : emptyB (b.get i)
    ·rfl
    ·exfalso
     obtain ⟨p, p0, p1, hp⟩ := some_has (ha.g i hi) (ha.l i hi) (h4 i hi);have := (inB_has (ha.g i hi) (hb.g i hi) (ha.l i hi) (hb.l i hi)).1 ((all4_iff _).1 h i hi) p p0 p1 hp;rw [(empty_iff _).1 hz, noSet_has] at this;cases this
   rw [he] at hall;cases hall
  ·rfl
theorem tidy_step {l : List BoxV} {b : BoxV} (hg : ∀ c ∈ l, GoodB c) (hb : GoodB b) : tidyL (l ++ [b]) = stepT (tidyL l) b := by
 have hgt : ∀ c ∈ tidyL l, GoodB c := fun c hc => hg c (tidy_sub hc)
 rw [tidy_snoc];unfold stepT;by_cases hc : (emptyBx b || (tidyL l).any fun k => inBx b k) = true
 ·rw [if_pos hc];have hl : (emptyBx b || l.any fun k => inBx b k) = true := by
   rw [Bool.or_eq_true] at hc ⊢;rcases hc with h | h
   ·exact Or.inl h
   ·right
    rw [List.any_eq_true] at h ⊢;obtain ⟨t, ht, h⟩ := h;exact ⟨t, tidy_sub ht, h⟩
  rw [if_pos hl, List.append_nil, List.filter_eq_self];intro k hk;rw [Bool.not_eq_true'];cases hq : (inBx k b && !inBx b k)
  ·rfl
  ·exfalso
   rw [Bool.and_eq_true, Bool.not_eq_true'] at hq;rw [Bool.or_eq_true] at hc;rcases hc with h | h
   ·have := inBx_empty hb (hgt k hk) hq.1 h;rw [tidy_live hk] at this;cases this
   ·rw [List.any_eq_true] at h;obtain ⟨t, ht, h⟩ := h;have h1 := inBx_trans (hgt k hk) hb (hgt t ht) hq.1 h;refine tidy_apart hk ht h1 ?_;cases hz : inBx t k
    ·rfl
    ·have := inBx_trans hb (hgt t ht) (hgt k hk) h hz;rw [hq.2] at this;cases this
 ·rw [if_neg hc];rw [Bool.or_eq_true, not_or] at hc;obtain ⟨he, hn⟩ := hc;have hn' : ∀ k ∈ tidyL l, inBx b k = false := fun k hk => by
   cases hq : inBx b k
   ·rfl
   ·exact absurd (List.any_eq_true.2 ⟨k, hk, hq⟩) hn
  have hl : ¬ (emptyBx b || l.any fun k => inBx b k) = true := by
   rw [Bool.or_eq_true, not_or];refine ⟨he, fun h => ?_⟩;rw [List.any_eq_true] at h;obtain ⟨k, hk, h⟩ := h;obtain ⟨i, hi, rfl⟩ := List.getElem_of_mem hk;have e1 : l.getD i zBox = l[i] := by rw [List.getD_eq_getElem?_getD, List.getElem?_eq_getElem hi]; rfl
   obtain ⟨j, hj, h1, h2⟩ := best_exists hg _ i hi (Nat.le_refl _);rw [e1] at h2;have h3 := inBx_trans hb (hg _ hk) (hg _ (getB_mem hj)) h h2;have h4 : emptyBx (l.getD j zBox) = false := by
    cases hz : emptyBx (l.getD j zBox)
    ·rfl
    ·exact absurd (inBx_empty (hg _ (getB_mem hj)) hb h3 hz) he
   have hmem : l.getD j zBox ∈ tidyL l := List.mem_map.2 ⟨j, List.mem_filter.2 ⟨List.mem_range.2 hj, by unfold keepL; rw [h1, h4]; rfl⟩, rfl⟩;rw [hn' _ hmem] at h3;cases h3
  rw [if_neg hl]
  congr 1
  refine List.filter_congr fun k hk => ?_
  rw [hn' k hk]
  simp
theorem tidP_eq {l : List BoxV} (hg : ∀ c ∈ l, GoodB c) : tidP l = tidyL l := by
 have H : ∀ (m k : List BoxV), (∀ c ∈ k ++ m, GoodB c) → m.foldl stepT (tidyL k) = tidyL (k ++ m) := by
  intro m
  induction m with
  | nil => intro k _; rw [List.append_nil]; rfl
  | cons b m ih =>
   intro k h;rw [List.foldl_cons, ← tidy_step (fun c hc => h c (by simp [hc])) (h b (by simp)), ih (k ++ [b]) (fun c hc => h c (by simpa using hc)), List.append_assoc]
   rfl
 exact H l [] (by simpa using hg)
def IntsL (M : Nat) (l : List BoxV) : Prop := ∀ b ∈ l, ∀ i, i < 4 → (b.get i).ints.length ≤ M
theorem IntsL.mono {M M' : Nat} {l : List BoxV} (h : IntsL M l) (hm : M ≤ M') : IntsL M' l := fun b hb i hi => Nat.le_trans (h b hb i hi) hm
theorem IntsL.tidy {M : Nat} {l : List BoxV} (h : IntsL M l) : IntsL M (tidyL l) := fun b hb => h b (tidy_sub hb)
theorem ints_prod {A B : Nat} {out l : List BoxV} (ho : IntsL A out) (hl : IntsL B l) (go : ∀ b ∈ out, GoodB b) (gl : ∀ b ∈ l, GoodB b) : IntsL (A + B + 3) (prodL out l) := by
 intro b hb i hi;unfold prodL at hb;obtain ⟨a, ha, hb⟩ := List.mem_flatMap.1 hb;obtain ⟨c, hc, rfl⟩ := List.mem_map.1 hb;rw [andBx_get a c i hi];have h1 := (andV_len ((go a ha).g i hi) ((gl c hc).g i hi)).1;have h2 := ho a ha i hi;have h3 := hl c hc i hi;omega
theorem ints_sum {A B : Nat} {out l : List BoxV} (ho : IntsL A out) (hl : IntsL B l) : IntsL (A + B + 3) (out ++ l) := fun b hb => by
 rcases List.mem_append.1 hb with h | h
 ·exact ho.mono (by omega) b h
 ·exact hl.mono (by omega) b h
structure Fits (A : Nat) (l : List BoxV) : Prop where
 f : FineL (6 * A) l
 i : IntsL (1 + 10 * A) l
structure Res (w : Nat) (l : List BoxV) : Prop where
 f : FineL (6 * w) l
 i : IntsL (10 * w - 3) l
theorem Fits.res {A w : Nat} {l : List BoxV} (h : Fits A l) (hw : A + 1 ≤ w) : Res w l := ⟨h.f.mono (by omega), h.i.mono (by omega)⟩
theorem Fits.tidy {A : Nat} {l : List BoxV} (h : Fits A l) : Fits A (tidyL l) := ⟨h.f.tidy, h.i.tidy⟩
theorem Res.tidy {A : Nat} {l : List BoxV} (h : Res A l) : Res A (tidyL l) := ⟨h.f.tidy, h.i.tidy⟩
def joinL (prod : Bool) (out l : List BoxV) : List BoxV := if prod then prodL out l else out ++ l
theorem fits_join {A w : Nat} {prod : Bool} {out l : List BoxV} (ho : Fits A out) (hl : Res w l) (hw : 1 ≤ w) (h : A + w ≤ 60) : Fits (A + w) (joinL prod out l) := by
 unfold joinL;cases prod
 ·exact ⟨(fine_sum ho.f hl.f).mono (by omega), (ints_sum ho.i hl.i).mono (by omega)⟩
 ·exact ⟨(fine_prod ho.f hl.f (by omega) (by omega)).mono (by omega), (ints_prod ho.i hl.i ho.f.good hl.f.good).mono (by omega)⟩
theorem fits_all : Fits 0 [allBx] := by
 refine ⟨fun b hb => ?_, fun b hb i hi => ?_⟩
 ·rw [List.mem_singleton] at hb;subst hb;exact ⟨all_good, fun i _ => by rw [allBx_get]; simp [allV]⟩
 ·rw [List.mem_singleton] at hb;subst hb;rw [allBx_get]; simp [allV]
theorem fits_nil : Fits 0 [] := ⟨fun b hb => (by cases hb), fun b hb => (by cases hb)⟩
theorem fold_fits (f : ExV → Option (List BoxV)) (prod : Bool) (wt : ExV → Nat) : ∀ (ys : List ExV) (out l : List BoxV) (A : Nat),
  (∀ y ∈ ys, ∀ ly, f y = some ly → Res (wt y) ly ∧ 1 ≤ wt y) → Fits A out → A + (ys.map wt).sum ≤ 60 → foldX f prod ys out = some l → Fits (A + (ys.map wt).sum) l
 | [], out, l, A, _, ho, _, h => by
  unfold foldX at h;cases h
  simpa using ho
 | y :: ys, out, l, A, hf, ho, hA, h => by
  unfold foldX at h;rw [List.map_cons, List.sum_cons] at hA ⊢;cases hy : f y with
  | none => rw [hy] at h; cases h
  | some ly =>
   rw [hy] at h;dsimp only at h;obtain ⟨h1, h2⟩ := hf y (by simp) ly hy;obtain ⟨nx, hnx⟩ : ∃ nx, nx = if prod = true then prodL out ly else out ++ ly := ⟨_, rfl⟩
   rw [← hnx] at h;have hj : joinL prod out ly = nx := by rw [hnx]; rfl
   have hF := fits_join (prod := prod) ho h1 h2 (by omega);rw [hj] at hF
   split at h
   ·have := fold_fits f prod wt ys _ l (A + wt y) (fun z hz => hf z (by simp [hz])) hF.tidy (by omega) h
    rwa [Nat.add_assoc] at this
   ·cases h
theorem atom_res {x : ExV} {neg : Bool} (hn : nodeX x = true) (hk : x.kind = 1) (hi : inI64 x.set.ints) : Res 1 [allBx.put x.attr.toNat (if neg then notV x.set else x.set)] ∧ x.attr.toNat < 4 ∧ 0 ≤ x.attr ∧ x.attr ≤ 3 ∧ Good x.set ∧ x.set.ints.length ≤ 6 ∧ x.set.strs.length ≤ 6 := by
 unfold nodeX at hn;rw [if_pos hk, Bool.and_eq_true, decide_eq_true_eq, Bool.and_eq_true] at hn;obtain ⟨⟨a0, a3, _⟩, hr, hs⟩ := hn;unfold smallB at hs;rw [Bool.and_eq_true, decide_eq_true_eq, decide_eq_true_eq] at hs;have hgood : Good x.set := ⟨hr, hi⟩
 have ha : x.attr.toNat < 4 := by omega
 have hG : Good (if neg then notV x.set else x.set) ∧ (if neg then notV x.set else x.set).strs.length ≤ 6 ∧ (if neg then notV x.set else x.set).ints.length ≤ 7 := by
  cases neg
  ·exact ⟨hgood, hs.2, Nat.le_trans hs.1 (by omega)⟩
  ·have := notV_len x.set hgood;refine ⟨notV_good hgood, ?_, ?_⟩
   ·simp only [if_true]; omega
   ·simp only [if_true]; omega
 refine ⟨⟨fun b hb => ?_, fun b hb i hi => ?_⟩, ha, a0, a3, hgood, hs.1, hs.2⟩
 ·rw [List.mem_singleton] at hb;subst hb;refine ⟨put_good all_good ha hG.1 (Nat.le_trans hG.2.1 (by omega)), fun i hi => ?_⟩;rw [BoxV.get_put _ _ _ _ ha hi]
  split
  ·exact hG.2.1
  ·rw [allBx_get]; simp [allV]
 ·rw [List.mem_singleton] at hb;subst hb;rw [BoxV.get_put _ _ _ _ ha hi]
  split
  ·exact hG.2.2
  ·rw [allBx_get]; simp [allV]
def prodX (x : ExV) (neg : Bool) : Bool := (decide (x.kind = 2) && !neg) || (decide (x.kind = 3) && neg)
theorem wX_pos (n : Nat) (x : ExV) : 1 ≤ wX (n + 1) x := by
 show 1 ≤ 1 + _;omega
theorem wX_sub {n : Nat} {x y : ExV} (hy : y ∈ x.sub) : wX n y + 1 ≤ wX (n + 1) x := by
 show wX n y + 1 ≤ 1 + (x.sub.map (wX n)).sum;have H : ∀ (m : List ExV), y ∈ m → wX n y ≤ (m.map (wX n)).sum := by
  intro m
  induction m with
  | nil => intro h; cases h
  | cons z m ihm =>
   intro h;rw [List.map_cons, List.sum_cons];rcases List.mem_cons.1 h with rfl | h
   ·omega
   ·have := ihm h;omega
 have := H x.sub hy;omega
theorem boxes_pos {n : Nat} {x : ExV} {neg : Bool} {l : List BoxV} (h : boxesX n x neg = some l) : 1 ≤ wX n x := by
 cases n with
 | zero => cases h
 | succ n => exact wX_pos n x
theorem boxes_res : ∀ (n : Nat) (x : ExV) (neg : Bool) (l : List BoxV), eachX n x = true → i64X n x → wX n x ≤ 60 → boxesX n x neg = some l → Res (wX n x) l
 | 0, _, _, _, h, _, _, _ => by cases h
 | n + 1, x, neg, l, he, hi, hw, h => by
  have hnode : nodeX x = true ∧ ∀ y ∈ x.sub, eachX n y = true := by
   unfold eachX at he;rw [Bool.and_eq_true, List.all_eq_true] at he;exact he
  unfold boxesX at h;by_cases k1 : x.kind = 1
  ·rw [if_pos k1] at h;cases h
   have := (atom_res (neg := neg) hnode.1 k1 hi.1).1.tidy;have hp := wX_pos n x;exact ⟨this.f.mono (by omega), this.i.mono (by omega)⟩
  ·rw [if_neg k1] at h;by_cases k4 : x.kind = 4
   ·rw [if_pos k4] at h;have hn := hnode.1;unfold nodeX at hn;rw [if_neg k1, if_pos (by omega), Bool.and_eq_true, decide_eq_true_eq] at hn;have hlen := hn.2 k4
    match hx : x.sub, hlen with
    | [y], _ =>
     have hy : y ∈ x.sub := by rw [hx]; simp
     rw [hx] at h;have hs := wX_sub (n := n) hy;have := boxes_res n y (!neg) l (hnode.2 y hy) (hi.2 y hy) (by omega) h;exact ⟨this.f.mono (by omega), this.i.mono (by omega)⟩
   ·rw [if_neg k4] at h;have hfs : ∀ y ∈ x.sub, ∀ ly, boxesX n y neg = some ly → Res (wX n y) ly ∧ 1 ≤ wX n y := fun y hy ly hl => ⟨boxes_res n y neg ly (hnode.2 y hy) (hi.2 y hy) (by have := wX_sub (n := n) hy; omega) hl, boxes_pos hl⟩
    have hwd : wX (n + 1) x = 1 + (x.sub.map (wX n)).sum := rfl;have h0 : Fits 0 (if prodX x neg then [allBx] else []) := by
     split
     ·exact fits_all
     ·exact fits_nil
    exact (fold_fits (fun y => boxesX n y neg) (prodX x neg) (wX n) x.sub _ l 0 hfs h0 (by omega) h).res (by omega)
end Go.Proofs.YtlkcjhcmkaddaaaGreat
namespace Go.Proofs.YtlkcjhcmkaddaaaGreat
open Go.RowKit
structure BxC where
 s0 : SC
 s1 : SC
 s2 : SC
 s3 : SC
def BxC.val (c : BxC) : Value := bxVal c.s0 c.s1 c.s2 c.s3
def BxC.list (c : BxC) : List Value := [.bool c.s0.a, .slice c.s0.p c.s0.n c.s0.c, .bool c.s0.d, .slice c.s0.q c.s0.m c.s0.e, .bool c.s1.a, .slice c.s1.p c.s1.n c.s1.c, .bool c.s1.d, .slice c.s1.q c.s1.m c.s1.e, .bool c.s2.a, .slice c.s2.p c.s2.n c.s2.c, .bool c.s2.d, .slice c.s2.q c.s2.m c.s2.e, .bool c.s3.a, .slice c.s3.p c.s3.n c.s3.c, .bool c.s3.d, .slice c.s3.q c.s3.m c.s3.e]
def bc0 : BxC := ⟨SC.zero, SC.zero, SC.zero, SC.zero⟩
theorem BxC.val_list (c : BxC) : c.val = .agg c.list.toArray := rfl
theorem BxC.list_len (c : BxC) : c.list.length = 16 := rfl
theorem BxC.list_one (c : BxC) : ∀ v ∈ c.list, v.oneCell' = true := by
 intro v hv;unfold BxC.list at hv;simp only [List.mem_cons, List.not_mem_nil, or_false] at hv;rcases hv with rfl | rfl | rfl | rfl | rfl | rfl | rfl | rfl | rfl | rfl | rfl | rfl | rfl | rfl | rfl | rfl <;> rfl
def bcObj (c : BxC) : Obj := .cells c.list.toArray 54
def BcIn (w : World) (g : Nat) (c : BxC) : Prop := w.heap[g]? = some (bcObj c)
theorem BcIn.on {w w' : World} {g : Nat} {c : BxC} (h : BcIn w g c) (hb : Below w.heap.size w w') : BcIn w' g c := (hb.block _ (lt_heap h)).trans h
theorem BcIn.bx {w : World} {g : Nat} {c : BxC} (h : BcIn w g c) : BxIn w g c.s0 c.s1 c.s2 c.s3 := h
theorem BcIn.range {w : World} {g : Nat} {c : BxC} (h : BcIn w g c) : w.rangeAt g 0 c.list := fun j v hv => by
 rw [cell_heap h, Nat.zero_add, List.getElem?_toArray];exact hv
theorem BoxAt.bc {w : World} {v : Value} {b : BoxV} (h : BoxAt w v b) : ∃ c : BxC, v = c.val := by
 obtain ⟨s0, s1, s2, s3, rfl, _⟩ := h.scs;exact ⟨⟨s0, s1, s2, s3⟩, rfl⟩
theorem infoB16 : (Tryz.prog.info? 54).map (·.size) = some 16 := by kernel_rfl
theorem cInfoB : (Tryz.prog.info? 54).map (fun i => (i.zero, i.size, i.bytes)) = some (some bc0.val, 16, 256) := by kernel_rfl
def BxRow (w : World) (v : Value) (cs : List BxC) : Prop :=
 cs.length ≤ 9223372036854775807 ∧ ∃ (a : Option Addr) (cap : Nat), v = .slice a cs.length cap ∧ ∀ i, i < cs.length → ∃ g off, a = some ⟨g, off, none⟩ ∧ g < w.heap.size ∧ w.rangeAt g (off + i * 16) (cs.getD i bc0).list
theorem rangeAt_on {w w' : World} {g o : Nat} {l : List Value} (h : w.rangeAt g o l) (hb : w'.heap[g]? = w.heap[g]?) : w'.rangeAt g o l := fun j v hv => (World.cell?_of_block (a := ⟨g, _, none⟩) hb).trans (h j v hv)
theorem BxRow.on {w w' : World} {v : Value} {cs : List BxC} (h : BxRow w v cs) (hb : Below w.heap.size w w') : BxRow w' v cs := by
 obtain ⟨h1, a, cap, rfl, h⟩ := h;refine ⟨h1, a, cap, rfl, fun i hi => ?_⟩;obtain ⟨g, off, e, hg, hr⟩ := h i hi;exact ⟨g, off, e, Nat.lt_of_lt_of_le hg hb.size, rangeAt_on hr (hb.block _ hg)⟩
def AllBx (w : World) (cs : List BxC) (l : List BoxV) : Prop := cs.length = l.length ∧ ∀ i, i < l.length → BoxAt w (cs.getD i bc0).val (l.getD i zBox)
theorem AllBx.on {w w' : World} {cs : List BxC} {l : List BoxV} (h : AllBx w cs l) (hb : Below w.heap.size w w') : AllBx w' cs l := ⟨h.1, fun i hi => (h.2 i hi).on hb⟩
def Bxs (w : World) (v : Value) (l : List BoxV) : Prop := ∃ cs, BxRow w v cs ∧ AllBx w cs l
theorem Bxs.on {w w' : World} {v : Value} {l : List BoxV} (h : Bxs w v l) (hb : Below w.heap.size w w') : Bxs w' v l := by
 obtain ⟨cs, h1, h2⟩ := h;exact ⟨cs, h1.on hb, h2.on hb⟩
theorem bxs_nil (w : World) : Bxs w (.slice none 0 0) [] := ⟨[], ⟨by simp, none, 0, rfl, fun i h => by simp at h⟩, rfl, fun i h => by simp at h⟩
def bcCells (cs : List BxC) : List Value := cs.flatMap BxC.list
theorem bcCells_append (a b : List BxC) : bcCells (a ++ b) = bcCells a ++ bcCells b := by unfold bcCells; rw [List.flatMap_append]
theorem bcCells_len : ∀ cs : List BxC, (bcCells cs).length = cs.length * 16
 | [] => rfl
 | c :: cs => by
  have := bcCells_len cs;unfold bcCells at this ⊢;rw [List.flatMap_cons, List.length_append, this, BxC.list_len, List.length_cons];omega
theorem bcCells_one (cs : List BxC) : ∀ u ∈ bcCells cs, u.oneCell' = true := by
 intro u hu;unfold bcCells at hu;obtain ⟨c, _, hu⟩ := List.mem_flatMap.1 hu;exact c.list_one u hu
theorem bcCells_at : ∀ (cs : List BxC) (i r : Nat), i < cs.length → r < 16 → (bcCells cs)[i * 16 + r]? = (cs.getD i bc0).list[r]?
 | [], i, r, h, _ => by simp at h
 | c :: cs, 0, r, _, hr => by
  unfold bcCells;rw [List.flatMap_cons, Nat.zero_mul, Nat.zero_add, List.getElem?_append_left (by rw [BxC.list_len]; exact hr)]
  rfl
 | c :: cs, i + 1, r, h, hr => by
  have := bcCells_at cs i r (by simpa using h) hr;unfold bcCells at this ⊢;rw [List.flatMap_cons, List.getElem?_append_right (by rw [BxC.list_len]; omega), BxC.list_len, show (i + 1) * 16 + r - 16 = i * 16 + r by omega, this]
  rfl
def OwnB (w : World) (B : Nat) (v : Value) (cs : List BxC) : Prop := w.ownsRow B 54 16 v cs.length (bcCells cs)
theorem OwnB.on {w w' : World} {B : Nat} {v : Value} {cs : List BxC} (h : OwnB w B v cs) (hb : Below w.heap.size w w') : OwnB w' B v cs := by
 refine ⟨h.1, ?_⟩;rcases h.2 with h | ⟨g, cap, cur, e, hB, hg, r⟩
 ·exact Or.inl h
 ·exact Or.inr ⟨g, cap, cur, e, hB, (hb.block _ (lt_heap hg)).trans hg, r⟩
theorem ownB_nil (w : World) (B : Nat) : OwnB w B (.slice none 0 0) [] := ⟨rfl, Or.inl ⟨rfl, rfl⟩⟩
theorem take_at {α : Type} {l m : List α} {n j : Nat} {v : α} (h : l.take n = m) (hj : m[j]? = some v) : l[j]? = some v := by
 rw [← h, List.getElem?_take] at hj
 split at hj
 ·exact hj
 ·cases hj
theorem OwnB.range {w : World} {B g n cap : Nat} {cs : List BxC} (h : OwnB w B (.slice (some ⟨g, 0, none⟩) n cap) cs) (i : Nat) (hi : i < cs.length) : w.rangeAt g (i * 16) (cs.getD i bc0).list := by
 rcases h.2 with ⟨h, _⟩ | ⟨g', cap', cur, e, hB, hg, hn, hm, hs, ht⟩
 ·cases h
 ·cases e
  intro j v hv;have hj : j < 16 := by
   have := (List.getElem?_eq_some_iff.1 hv).1
   rwa [BxC.list_len] at this
  rw [cell_heap hg];have := take_at ht ((bcCells_at cs i j hi hj).trans hv);rw [← Array.getElem?_toList];exact this
theorem OwnB.form {w : World} {B : Nat} {v : Value} {cs : List BxC} (h : OwnB w B v cs) : (v = .slice none 0 0 ∧ cs = []) ∨ ∃ g cap cur, v = .slice (some ⟨g, 0, none⟩) cs.length cap ∧ B ≤ g ∧ w.heap[g]? = some (.cells cur 54 (0, 0)) ∧ cs.length ≤ cap ∧ cap ≤ maxLen ∧ cur.size = cap * 16 := by
 rcases h.2 with ⟨h, h'⟩ | ⟨g, cap, cur, e, hB, hg, hn, hm, hs, ht⟩
 ·exact Or.inl ⟨h, List.eq_nil_of_length_eq_zero h'⟩
 ·exact Or.inr ⟨g, cap, cur, e, hB, hg, hn, hm, hs⟩
theorem ownB_of {w : World} {B g cap : Nat} {cur : Array Value} {cs : List BxC} (hg : w.heap[g]? = some (.cells cur 54 (0, 0))) (hB : B ≤ g) (hn : cs.length ≤ cap) (hm : cap ≤ maxLen) (hs : cur.size = cap * 16) (h : ∀ i, i < cs.length → w.rangeAt g (i * 16) (cs.getD i bc0).list) : OwnB w B (.slice (some ⟨g, 0, none⟩) cs.length cap) cs := by
 refine ⟨bcCells_len cs, Or.inr ⟨g, cap, cur, rfl, hB, hg, hn, hm, hs, ?_⟩⟩
 apply List.ext_getElem?
 intro j;rw [List.getElem?_take]
 split
 ·rename_i hj
  have hi : j / 16 < cs.length := by omega
  have hr : j % 16 < 16 := by omega
  have e : j = j / 16 * 16 + j % 16 := by omega
  have h1 := bcCells_at cs (j / 16) (j % 16) hi hr;rw [← e] at h1;rw [h1];have hl : j % 16 < (cs.getD (j / 16) bc0).list.length := hr;have h2 := h (j / 16) hi (j % 16) _ (List.getElem?_eq_getElem hl);rw [← e, cell_heap hg] at h2;rw [Array.getElem?_toList, h2, List.getElem?_eq_getElem hl]
 ·rename_i hj
  rw [List.getElem?_eq_none (by rw [bcCells_len]; omega)]
theorem OwnB.row {w : World} {B : Nat} {v : Value} {cs : List BxC} (h : OwnB w B v cs) (hl : cs.length ≤ 1000000) : BxRow w v cs := by
 refine ⟨by omega, ?_⟩;rcases h.form with ⟨rfl, rfl⟩ | ⟨g, cap, cur, rfl, hB, hg, _⟩
 ·exact ⟨none, 0, rfl, fun i hi => by simp at hi⟩
 ·exact ⟨_, cap, rfl, fun i hi => ⟨g, 0, rfl, lt_heap hg, by rw [Nat.zero_add]; exact h.range i hi⟩⟩
structure Asd (o : Option Nat) (B : Nat) (w W : World) : Prop where
 b : Below B w W
 s : w.heap.size ≤ W.heap.size
 k : ∀ k, k < w.heap.size → some k ≠ o → W.heap[k]? = w.heap[k]?
theorem Asd.refl (o : Option Nat) (B : Nat) (w : World) : Asd o B w w := ⟨Below.refl B w, Nat.le_refl _, fun _ _ _ => rfl⟩
theorem Asd.trans {o : Option Nat} {B : Nat} {w W V : World} (h : Asd o B w W) (h' : Asd o B W V) : Asd o B w V :=
 ⟨h.b.trans h'.b, Nat.le_trans h.s h'.s, fun k hk hne => (h'.k k (Nat.lt_of_lt_of_le hk h.s) hne).trans (h.k k hk hne)⟩
theorem Asd.grow {o : Option Nat} {B : Nat} {w W V : World} (h : Asd o B w W) (hB : B ≤ W.heap.size) (hb : Below W.heap.size W V) : Asd o B w V :=
 ⟨h.b.trans (hb.mono hB), Nat.le_trans h.s hb.size, fun k hk hne => (hb.block k (Nat.lt_of_lt_of_le hk h.s)).trans (h.k k hk hne)⟩
theorem setCells_cur (g : Nat) {t : TypeId} {fz : Nat × Nat} : ∀ (vs : List Value) (o : Nat) (w : World) (cur : Array Value), w.heap[g]? = some (.cells cur t fz) → ∃ cur', (w.setCells g o vs).heap[g]? = some (.cells cur' t fz) ∧ cur'.size = cur.size
 | [], _, w, cur, h => ⟨cur, h, rfl⟩
 | v :: vs, o, w, cur, h => by
  obtain ⟨cur', h1, h2⟩ := setCells_cur g vs (o + 1) _ _ (heap_setCell (i := o) v h);exact ⟨cur', h1, by rw [h2]; simp⟩
theorem there_of {w : World} {g o n : Nat} {cur : Array Value} {t : TypeId} (h : w.heap[g]? = some (.cells cur t (0, 0))) (hn : o + n ≤ cur.size) : w.there g o n := fun j hj => by
 refine ⟨?_, soft_heap h _⟩;rw [cell_heap h, Array.getElem?_eq_getElem (by omega)]
 rfl
theorem asd_put {g B : Nat} (w : World) (o : Nat) (vs : List Value) (hB : B ≤ g) : Asd (some g) B w (w.setCells g o vs) :=
 ⟨Below.setCells g hB vs o w (Below.refl B w), Nat.le_of_eq (size_setCells g vs o w).symm, fun k hk hne => World.heap_setCells_other w g o vs hk (fun e => hne (by rw [e]))⟩
end Go.Proofs.YtlkcjhcmkaddaaaGreat
namespace Go.Proofs.YtlkcjhcmkaddaaaGreat
open Go.RowKit
def Own (w : World) (B : Nat) (v : Value) (l : List UInt8) : Prop := w.ownsRow B 5 1 v l.length (Lib.byteCells l)
end Go.Proofs.YtlkcjhcmkaddaaaGreat
namespace Go.Proofs.YtlkcjhcmkaddaaaGreat
open Go.RowKit
theorem grown_refl (w : World) (r : Option Nat) : w.grownBy w r := ⟨rfl, rfl, rfl, Nat.le_refl _, fun _ _ _ => rfl⟩
theorem grown_trans {a b c : World} {r : Option Nat} (h : a.grownBy b r) (k : b.grownBy c r) : a.grownBy c r :=
 ⟨k.os.trans h.os, k.tape.trans h.tape, k.output.trans h.output, Nat.le_trans h.size k.size, fun i hi hr => (k.block i (Nat.lt_of_lt_of_le hi h.size) hr).trans (h.block i hi hr)⟩
theorem grown_setCell {a w : World} {b : Nat} (h : a.grownBy w (some b)) (i : Nat) (v : Value) : a.grownBy (w.setCell ⟨b, i, none⟩ v) (some b) :=
 grown_trans h ⟨rfl, rfl, rfl, by simp [World.setCell], fun k hk hr => Below.heap_setCell _ _ _ _ (fun e => hr (by simp [e]))⟩
theorem grown_below {a w w' : World} {r : Option Nat} (h : a.grownBy w r) (hb : Below w.heap.size w w') : a.grownBy w' r :=
 grown_trans h ⟨hb.os, hb.tape, hb.output, hb.size, fun k hk _ => hb.block k hk⟩
end Go.Proofs.YtlkcjhcmkaddaaaGreat
namespace Go.Proofs.YtlkcjhcmkaddaaaGreat
open Go.RowKit
def cpX : Nat → ExV → Prop
 | 0, _ => True
 | n + 1, x => x.set.ints.length ≤ 1000 ∧ x.set.strs.length ≤ 1000 ∧ x.sub.length ≤ 1000 ∧ ∀ y ∈ x.sub, cpX n y
def exCells (es : Nat → EC) (n : Nat) : List Value := (List.range n).flatMap fun i => (es i).list
theorem exCells_succ (es : Nat → EC) (n : Nat) : exCells es (n + 1) = exCells es n ++ (es n).list := by
 unfold exCells;rw [List.range_succ, List.flatMap_append]
 simp
theorem exCells_len (es : Nat → EC) : ∀ n, (exCells es n).length = n * 7
 | 0 => rfl
 | n + 1 => by rw [exCells_succ, List.length_append, exCells_len es n, EC.list_len]; omega
theorem exCells_at (es : Nat → EC) (j r : Nat) (hr : r < 7) : ∀ n, j < n → (exCells es n)[j * 7 + r]? = (es j).list[r]?
 | n + 1, h => by
  rw [exCells_succ];by_cases e : j = n
  ·subst e;rw [List.getElem?_append_right (by rw [exCells_len]; omega), exCells_len]
   congr 1
   omega
  ·rw [List.getElem?_append_left (by rw [exCells_len]; omega)];exact exCells_at es j r hr n (by omega)
theorem exCells_one (es : Nat → EC) (n : Nat) : ∀ u ∈ exCells es n, u.oneCell' = true := by
 intro u hu;obtain ⟨i, _, hi⟩ := List.mem_flatMap.1 hu;exact (es i).list_one u hi
theorem cloneX_new (p : Option Addr) (n c : Nat) (es : Nat → EC) (w : World) (hn : n ≤ 1000) (hp : p = none → n = 0 ∧ c = 0) (hel : ∀ j, j < n → ∃ g off, p = some ⟨g, off, none⟩ ∧ EcAt w g (off + j * 7) (es j)) :
  Calls Tryz.prog 50 #[.slice p n c] w fun r w' => (∃ q k, r = .returned (.slice q n k) ∧ n ≤ k ∧ k ≤ 9223372036854775807 ∧ (q = none → n = 0 ∧ k = 0) ∧ (0 < n → ∃ b, q = some ⟨b, 0, none⟩ ∧ w.heap.size ≤ b ∧ b < w'.heap.size ∧ RowX w' b n es)) ∧ Below w.heap.size w w' := by
 cases p with
 | none =>
  obtain ⟨rfl, rfl⟩ := hp rfl;refine (cloneX_nil w).mono ?_;rintro r w' ⟨rfl, rfl⟩;exact ⟨⟨none, 0, rfl, by omega, by omega, fun _ => ⟨rfl, rfl⟩, fun h => by omega⟩, Below.refl _ _⟩
 | some ad =>
  refine (cloneX_some ad n c (exCells es n) w (exCells_len es n) ?_ (exCells_one es n) (by omega)).mono ?_
  ·intro j u hj;have hjl : j < n * 7 := by
    have := (List.getElem?_eq_some_iff.1 hj).1
    rwa [exCells_len] at this
   obtain ⟨g, off, e, hat⟩ := hel (j / 7) (by omega)
   simp at e
   subst e;have hr := exCells_at es (j / 7) (j % 7) (by omega) n (by omega);rw [show j / 7 * 7 + j % 7 = j by omega, hj] at hr;have := hat.range (j % 7) u hr.symm;rw [Go.WideShapes.add_plain]
   rwa [show off + j / 7 * 7 + j % 7 = off + j by omega] at this
  ·rintro r w' ⟨⟨v, rfl, ho⟩, hb⟩;obtain ⟨q, k, rfl, h1, h2, h3⟩ := ownsRow_form ho;refine ⟨⟨q, k, rfl, h1, by unfold maxLen at h2; omega, h3, fun hpos => ?_⟩, hb⟩;cases q with
   | none => exact absurd (h3 rfl).1 (by omega)
   | some a =>
    obtain ⟨b, cur, rfl, hb1, hc⟩ := ownsRow_at ho;refine ⟨b, rfl, hb1, lt_heap hc, fun j hj => EcAt.ofRange fun r v hv => ?_, soft_heap hc⟩;have hr : r < 7 := (List.getElem?_eq_some_iff.1 hv).1;exact ownsRow_cell ho _ _ ((exCells_at es j r hr n hj).trans hv)
end Go.Proofs.YtlkcjhcmkaddaaaGreat
namespace Go.Proofs.YtlkcjhcmkaddaaaGreat
open Go.RowKit
set_option maxHeartbeats 8000000 in
set_option maxRecDepth 100000 in
theorem copied_any : ∀ (n : Nat) (x : ExV) (c : EC) (w : World), ExAt n w c.val x → cpX n x →
  Calls Tryz.prog 52 #[c.val] w fun r w' => (∃ d : EC, r = .returned d.val ∧ ∀ w'', Kept w.heap.size w' w'' → ExAt n w'' d.val x) ∧ Below w.heap.size w w' := by
 intro n
 induction n with
 | zero => intro x c w h; cases h
 | succ n ih =>
  intro x c w hx hcp;obtain ⟨c', hv, hc, hs⟩ := id hx;obtain rfl := ec_inj hv;have : Inhabited EC := ⟨ec0⟩
  obtain ⟨es, hes⟩ := Go.Deep.choose_lt (p := fun i d => (∃ g off, c.p = some ⟨g, off, none⟩ ∧ g < w.heap.size ∧ EcAt w g (off + i * 7) d) ∧ ExAt n w d.val (x.sub.getD i noX)) (fun i hi => by
   obtain ⟨g, off, d, hp, hg, hd, hy⟩ := hs i hi;exact ⟨d, ⟨g, off, hp, hg, hd⟩, hy⟩)
  have HC := hide hc;have HES := hide hes;have HN := hide hc.n;have HCP := hide hcp;have IH := hide ih;have T0 := hide (Pair.new w (exObj c) (exObj ec0));have nle : c.n ≤ 1000 := by rw [hc.n]; exact hcp.2.2.1
  clear hx hv hc hs hes hcp ih;unfold exObj ec0 SC.zero at T0;unfold EC.val;go_enter Tryz.func52, Tryz.ntmps52
  go_wp2_with fail
  generalize (w.alloc (Obj.cells #[.int .i64 c.k, .int .i64 c.t, .bool c.s.a, .slice c.s.p c.s.n c.s.c, .bool c.s.d, .slice c.s.q c.s.m c.s.e, .slice c.p c.n c.c] 28)).alloc (Obj.cells #[.int .i64 0, .int .i64 0, .bool false, .slice none 0 0, .bool false, .slice none 0 0, .slice none 0 0] 28) = W0 at T0 ⊢;refine (copiedSet_any c.s x.set W0 (HC.out.s.on T0.out.b) (by have := HCP.out.1; omega) (by have := HCP.out.2.1; omega)).mono ?_;rintro r w1 ⟨⟨y, rfl, hY⟩, b1⟩;have T1 := hide (T0.out.on b1);have HY := hide hY;have K1 := hide T0.out.size;have K0 := hide b1.size;obtain ⟨c0, c1, c2, c3, c4, c5, c6⟩ := ecCells1 T1.out.e1;have z2 := soft_heap T1.out.e1 2;have z3 := soft_heap T1.out.e1 3;have z4 := soft_heap T1.out.e1 4;have z5 := soft_heap T1.out.e1 5;have T2 : Hid (Pair w ((((w1.setCell ⟨w.heap.size, 2, none⟩ (.bool y.a)).setCell ⟨w.heap.size, 3, none⟩ (.slice y.p y.n y.c)).setCell ⟨w.heap.size, 4, none⟩ (.bool y.d)).setCell ⟨w.heap.size, 5, none⟩ (.slice y.q y.m y.e)) (.cells #[.int .i64 c.k, .int .i64 c.t, .bool y.a, .slice y.p y.n y.c, .bool y.d, .slice y.q y.m y.e, .slice c.p c.n c.c] 28 (0, 0)) (.cells #[.int .i64 0, .int .i64 0, .bool false, .slice none 0 0, .bool false, .slice none 0 0, .slice none 0 0] 28 (0, 0))) := hide ((((T1.out.put1 2 (.bool y.a)).put1 3 (.slice y.p y.n y.c)).put1 4 (.bool y.d)).put1 5 (.slice y.q y.m y.e));have K2 := hide ((((Kept.setCell w1 w.heap.size 2 (.bool y.a) (m := W0.heap.size) (by have := K1.out; omega)).trans (Kept.setCell _ w.heap.size 3 (.slice y.p y.n y.c) (by have := K1.out; omega))).trans (Kept.setCell _ w.heap.size 4 (.bool y.d) (by have := K1.out; omega))).trans (Kept.setCell _ w.heap.size 5 (.slice y.q y.m y.e) (by have := K1.out; omega)));have L2 := hide (show w1.heap.size = ((((w1.setCell ⟨w.heap.size, 2, none⟩ (.bool y.a)).setCell ⟨w.heap.size, 3, none⟩ (.slice y.p y.n y.c)).setCell ⟨w.heap.size, 4, none⟩ (.bool y.d)).setCell ⟨w.heap.size, 5, none⟩ (.slice y.q y.m y.e)).heap.size by simp);clear hY b1 T0;unfold SC.val
  go_upto_region 2 with fail
  generalize (((w1.setCell ⟨w.heap.size, 2, none⟩ (.bool y.a)).setCell ⟨w.heap.size, 3, none⟩ (.slice y.p y.n y.c)).setCell ⟨w.heap.size, 4, none⟩ (.bool y.d)).setCell ⟨w.heap.size, 5, none⟩ (.slice y.q y.m y.e) = w2 at T2 K2 L2 ⊢;clear c0 c1 c2 c3 c4 c5 c6 z2 z3 z4 z5 T1;obtain ⟨c0, c1, c2, c3, c4, c5, c6⟩ := ecCells1 T2.out.e1
  go_wp2_with fail
  refine (cloneX_new c.p c.n c.c es w2 nle HC.out.none (fun j hj => ?_)).mono ?_
  ·obtain ⟨⟨g, off, hp, hg, hd⟩, _⟩ := HES.out j (by rw [← HN.out]; exact hj);exact ⟨g, off, hp, hd.on hg T2.out.b⟩
  rintro r w3 ⟨⟨p, k, rfl, hk1, hk2, hk3, hrow⟩, b3⟩;have T3 := hide (T2.out.on b3);have e1 : w3.heap[w.heap.size]? = some (.cells #[.int .i64 c.k, .int .i64 c.t, .bool y.a, .slice y.p y.n y.c, .bool y.d, .slice y.q y.m y.e, .slice c.p c.n c.c] 28 (0, 0)) := T3.out.e1;clear c0 c1 c2 c3 c4 c5 c6;obtain ⟨c0, c1, c2, c3, c4, c5, c6⟩ := ecCells1 e1;have z6 := soft_heap e1 6;have T4 : Hid (Pair w (w3.setCell ⟨w.heap.size, 6, none⟩ (.slice p c.n k)) (.cells #[.int .i64 c.k, .int .i64 c.t, .bool y.a, .slice y.p y.n y.c, .bool y.d, .slice y.q y.m y.e, .slice (p) c.n k] 28 (0, 0)) (.cells #[.int .i64 0, .int .i64 0, .bool false, .slice none 0 0, .bool false, .slice none 0 0, .slice none 0 0] 28 (0, 0))) := hide (T3.out.put1 6 (.slice p c.n k));have KW := hide ((K2.out.trans (Kept.ofBelow b3)).trans (Kept.setCell w3 w.heap.size 6 (.slice p c.n k) (m := W0.heap.size) (by have := K1.out; omega)));have HROW : Hid (0 < c.n → ∃ b, p = some ⟨b, 0, none⟩ ∧ w1.heap.size ≤ b ∧ b < (w3.setCell ⟨w.heap.size, 6, none⟩ (.slice p c.n k)).heap.size ∧ RowX (w3.setCell ⟨w.heap.size, 6, none⟩ (.slice p c.n k)) b c.n es) := hide (fun h => by
   obtain ⟨b, e, hb1, hb2, hb3⟩ := hrow h;refine ⟨b, e, by rw [L2.out]; exact hb1, by simpa using hb2, hb3.ofBlock (Below.heap_setCell _ _ _ b (fun e => ?_))⟩;have := T2.out.size;dsimp only at e;omega)
  have HK3 := hide hk3;clear hrow b3 T2 T3 e1 hk3 L2 K2
  go_upto_region 3 with fail
  generalize w3.setCell ⟨w.heap.size, 6, none⟩ (.slice p c.n k) = w4 at T4 KW HROW ⊢;clear c0 c1 c2 c3 c4 c5 c6 z6;obtain ⟨c0, c1, c2, c3, c4, c5, c6⟩ := ecCells1 T4.out.e1;rcases Nat.eq_zero_or_pos c.n with hz | hpos
  ·have HZ := hide hz;clear hz
   go_wp2
   go_loopw [16] (fun i wr => ∃ j : Nat, i = .int .i64 j ∧ wr = w4) (fun i _ => 0)
   case atStart => exact ⟨0, rfl, rfl⟩
   case round =>
    obtain ⟨j, rfl, rfl⟩ := hrel;have hlt : ¬ j < c.n := by have := HZ.out; omega
    have hge : decide ((j : Int) < (c.n : Int)) = false := by simp; omega
    clear c0 c1 c2 c3 c4 c5 c6;obtain ⟨c0, c1, c2, c3, c4, c5, c6⟩ := ecCells1 T4.out.e1;obtain ⟨d0, d1, d2, d3, d4, d5, d6⟩ := ecCells1 T4.out.e2;have z0 := soft_heap T4.out.e2 0;have z1 := soft_heap T4.out.e2 1;have z2 := soft_heap T4.out.e2 2;have z3 := soft_heap T4.out.e2 3;have z4 := soft_heap T4.out.e2 4;have z5 := soft_heap T4.out.e2 5;have z6 := soft_heap T4.out.e2 6;have T5 : Hid (Pair w (((((((wr.setCell ⟨w.heap.size + 1, 0, none⟩ (.int .i64 c.k)).setCell ⟨w.heap.size + 1, 1, none⟩ (.int .i64 c.t)).setCell ⟨w.heap.size + 1, 2, none⟩ (.bool y.a)).setCell ⟨w.heap.size + 1, 3, none⟩ (.slice y.p y.n y.c)).setCell ⟨w.heap.size + 1, 4, none⟩ (.bool y.d)).setCell ⟨w.heap.size + 1, 5, none⟩ (.slice y.q y.m y.e)).setCell ⟨w.heap.size + 1, 6, none⟩ (.slice (p) c.n k)) (.cells #[.int .i64 c.k, .int .i64 c.t, .bool y.a, .slice y.p y.n y.c, .bool y.d, .slice y.q y.m y.e, .slice (p) c.n k] 28 (0, 0)) (.cells #[.int .i64 c.k, .int .i64 c.t, .bool y.a, .slice y.p y.n y.c, .bool y.d, .slice y.q y.m y.e, .slice (p) c.n k] 28 (0, 0))) := hide (((((((T4.out.put2 0 (.int .i64 c.k)).put2 1 (.int .i64 c.t)).put2 2 (.bool y.a)).put2 3 (.slice y.p y.n y.c)).put2 4 (.bool y.d)).put2 5 (.slice y.q y.m y.e)).put2 6 (.slice (p) c.n k));have K5 := hide (((((((Kept.setCell wr (w.heap.size + 1) 0 (.int .i64 c.k) (m := W0.heap.size) K1.out).trans (Kept.setCell _ (w.heap.size + 1) 1 (.int .i64 c.t) K1.out)).trans (Kept.setCell _ (w.heap.size + 1) 2 (.bool y.a) K1.out)).trans (Kept.setCell _ (w.heap.size + 1) 3 (.slice y.p y.n y.c) K1.out)).trans (Kept.setCell _ (w.heap.size + 1) 4 (.bool y.d) K1.out)).trans (Kept.setCell _ (w.heap.size + 1) 5 (.slice y.q y.m y.e) K1.out)).trans (Kept.setCell _ (w.heap.size + 1) 6 (.slice (p) c.n k) K1.out))
    go_wp2
    refine bodyPost_ret (results_cell_row rfl _ _ (w.heap.size + 1) 28 _ (0, 0) _ rfl T5.out.e2 Tryz.underlying28 rfl infoEx) rfl ⟨⟨⟨c.k, c.t, y, p, c.n, k⟩, rfl, fun w'' hk => ?_⟩, T5.out.b⟩;have hk' := K5.out.trans (hk.mono (m' := W0.heap.size) (by have := K1.out; omega));refine ⟨⟨c.k, c.t, y, p, c.n, k⟩, rfl, ⟨HC.out.k, HC.out.t, HC.out.n, HC.out.k0, HC.out.k1, HC.out.t0, HC.out.t1, HY.out w'' (KW.out.trans hk'), hk1, hk2, HK3.out⟩, fun i hi => ?_⟩;have := HZ.out;have h2 := HN.out;omega
  ·obtain ⟨b, rfl, hb1, hb2, hb3⟩ := HROW.out hpos;have HB1 := hide hb1;have R4 : Hid (b < w4.heap.size ∧ RowX w4 b c.n es) := hide ⟨hb2, hb3⟩;clear HROW hb1 hb2 hb3
   go_wp2
   go_loopw [16] (fun i wr => ∃ (j : Nat) (fs : Nat → EC), i = .int .i64 j ∧ j ≤ c.n ∧ Hid (Pair w wr (.cells #[.int .i64 c.k, .int .i64 c.t, .bool y.a, .slice y.p y.n y.c, .bool y.d, .slice y.q y.m y.e, .slice (some ⟨b, 0, none⟩) c.n k] 28 (0, 0)) (.cells #[.int .i64 0, .int .i64 0, .bool false, .slice none 0 0, .bool false, .slice none 0 0, .slice none 0 0] 28 (0, 0))) ∧ Hid (Kept W0.heap.size w1 wr) ∧ Hid (b < wr.heap.size ∧ RowX wr b c.n fs) ∧ Hid (∀ m, m < j → ∀ w'', Kept (b + 1) wr w'' → ExAt n w'' (fs m).val (x.sub.getD m noX)) ∧ Hid (∀ m, j ≤ m → m < c.n → fs m = es m)) (fun i _ => c.n - (intOf i).toNat)
   case atStart => exact ⟨0, es, rfl, by omega, T4, KW, R4, hide (fun m h => by omega), hide (fun _ _ _ => rfl)⟩
   case round =>
    clear c0 c1 c2 c3 c4 c5 c6 T4 KW R4;obtain ⟨j, fs, rfl, hj, T4, KW, R4, HD, HO⟩ := hrel;by_cases hlt : j < c.n
    ·obtain ⟨d0, d1, d2, d3, d4, d5, d6⟩ := R4.out.2.els j hlt;have HEX : Hid (ExAt n w (fs j).val (x.sub.getD j noX)) := hide (by
      rw [HO.out j (Nat.le_refl _) hlt];exact (HES.out j (by rw [← HN.out]; exact hlt)).2)
     have HCJ : Hid (cpX n (x.sub.getD j noX)) := hide (HCP.out.2.2.2 _ (getD_mem (by rw [← HN.out]; exact hlt)));obtain ⟨d, hd⟩ : ∃ d, d = fs j := ⟨_, rfl⟩
     rw [← hd] at d0 d1 d2 d3 d4 d5 d6 HEX;clear hd;have bA := (Below.refl _ wr).alloc (Nat.le_refl _) (exObj d);have TA := hide (T4.out.on bA);have XA := hide (show ExIn (wr.alloc (exObj d)) wr.heap.size d from heap_new wr _);have RA := hide (R4.out.2.ofBlock (bA.block b R4.out.1));have sA := hide (show (wr.alloc (exObj d)).heap.size = wr.heap.size + 1 by simp);have BA := hide bA;clear bA;unfold exObj at TA XA RA sA BA
     go_upto_region 6 with fail
     generalize wr.alloc (Obj.cells #[.int .i64 d.k, .int .i64 d.t, .bool d.s.a, .slice d.s.p d.s.n d.s.c, .bool d.s.d, .slice d.s.q d.s.m d.s.e, .slice d.p d.n d.c] 28) = wa at TA XA RA sA BA ⊢;clear d0 d1 d2 d3 d4 d5 d6;obtain ⟨c0, c1, c2, c3, c4, c5, c6⟩ := ecCells1 TA.out.e1;refine wp_region_held_drew (S := fun w' => w'.cell? ⟨w.heap.size, 6, none⟩ = some (.slice (some ⟨b, 0, none⟩) c.n k) ∧ ExIn w' wr.heap.size d) (by kernel_rfl) ⟨c6, XA.out⟩ (fun hHeld => ?_);have BD := hide (show Below wa.heap.size wa wa.drew from (Below.refl _ wa).drew);generalize wa.drew = wd at BD hHeld ⊢;refine wpAnyH_take (i := 0) (oi := .mk ..) (v := .pointer (some ⟨w.heap.size, 6, none⟩)) rfl (by kernel_rfl) (by kernel_rfl) (by kernel_rfl) (fun _ _ _ h => h) (yl_exSub (by rfl) _ rfl _ rfl) (by assumption) ?_;simp only [lp, lz];refine wpAnyH_take (i := 1) (oi := .mk ..) (v := .slice (some ⟨b, 0, none⟩) c.n k) rfl (by kernel_rfl) (by kernel_rfl) (by kernel_rfl) (fun _ _ _ h => h) (yl_exRow (by rfl) _ rfl _ 6 rfl _ _ _ (fun _ h => h.1)) (by assumption) ?_;simp only [lp, lz];refine wpAnyH_take (i := 2) (oi := .mk ..) (v := .int .i64 j) rfl (by kernel_rfl) (by kernel_rfl) (by kernel_rfl) (fun _ _ _ h => h) (yl_move (by rfl) _ rfl _ rfl) (by assumption) ?_;simp only [lp, lz];refine wpAnyH_take (i := 3) (oi := .mk ..) (v := d.val) rfl (by kernel_rfl) (by kernel_rfl) (by kernel_rfl) (fun _ _ _ h => h) (yl_ex (by rfl) _ rfl _ 0 rfl d (fun _ h => h.2.ec)) (by assumption) ?_;simp only [lp, lz];refine held_call (o := .mk ..) 4 (by kernel_rfl) rfl (by rfl) 52 _ _ rfl #[d.val] rfl (run_call Tryz.func52 (by kernel_rfl) (by kernel_rfl)) ?_;have TD := hide (TA.out.on BD.out);refine (IH.out (x.sub.getD j noX) d wd (ExAt.on TD.out.b _ HEX.out) HCJ.out).mono ?_;rintro r w5 ⟨⟨d', rfl, hN⟩, b5⟩;have s5 : wr.heap.size + 1 ≤ wd.heap.size := by have h1 := BD.out.size; have h2 := sA.out; omega
     refine ⟨d'.val, rfl, ⟨(b5.cell (p := ⟨w.heap.size, 6, none⟩) (by have := TD.out.size; dsimp only; omega)).trans hHeld.1, hHeld.2.on b5⟩, fun hHeld => ?_⟩;simp only [lp, lz];have T5 := hide (TD.out.on b5);have bw : b < wd.heap.size := by have h1 := R4.out.1; omega
     have R5 := RA.out.ofBlock (BD.out.block b (by have h1 := R4.out.1; have h2 := sA.out; omega));replace R5 := R5.ofBlock (b5.block b bw);refine wpAnyH_take (i := 5) (oi := .mk ..) (v := .pointer (some ⟨b, j * 7, none⟩)) rfl (by kernel_rfl) (by kernel_rfl) (by kernel_rfl) (fun _ _ _ h => h) (yl_exAt (by rfl) _ _ rfl b c.n k j rfl rfl hlt) (by assumption) ?_;simp only [lp, lz];refine wpAnyH_all (rs := [6]) (by kernel_rfl) (by simp) ?_;intro jj hj';have hj' := List.mem_singleton.1 hj';subst hj';refine op_storeEx (o := .mk ..) rfl (by rfl) _ _ rfl b (j * 7) d' rfl rfl (R5.there j hlt) ?_;have R6 := R5.put j hlt d';have h0 := HB1.out;have hK0 := K0.out;have hK1 := K1.out;have b6 := Below.setCells (B := w.heap.size) (w0 := w) b (by omega) d'.list (j * 7) w5 T5.out.b;have T6 : Hid (Pair w (w5.setCells b (j * 7) d'.list) _ _) := hide ⟨(World.heap_setCells_other w5 b (j * 7) d'.list (by have := T5.out.size; omega) (by omega)).trans T5.out.e1, (World.heap_setCells_other w5 b (j * 7) d'.list T5.out.size (by omega)).trans T5.out.e2, b6⟩;have k5 : Kept W0.heap.size wr w5 := ((Kept.ofBelow BA.out).trans (Kept.ofBelow BD.out)).trans (Kept.ofBelow b5);have kb6 : Kept (b + 1) w5 (w5.setCells b (j * 7) d'.list) := Kept.setCells w5 (j * 7) d'.list (by omega);have KW6 : Hid (Kept W0.heap.size w1 (w5.setCells b (j * 7) d'.list)) := hide ⟨by rw [size_setCells]; exact Nat.le_trans KW.out.size k5.size, fun g hg hs => by
      rw [World.heap_setCells_other w5 b (j * 7) d'.list (Nat.lt_of_lt_of_le hs (Nat.le_trans KW.out.size k5.size)) (by omega), k5.block g hg (Nat.lt_of_lt_of_le hs KW.out.size)];exact KW.out.block g hg hs⟩
     have HD6 : Hid (∀ m, m < j + 1 → ∀ w'', Kept (b + 1) (w5.setCells b (j * 7) d'.list) w'' → ExAt n w'' ((fun i => if i = j then d' else fs i) m).val (x.sub.getD m noX)) := hide (fun m hm w'' hk => by
      have hk2 := kb6.trans hk;by_cases e : m = j
      ·subst e;simp only [if_pos];exact hN w'' (hk2.mono (by have := R4.out.1; omega))
      ·simp only [if_neg e];exact HD.out m (by omega) w'' ((k5.mono (by omega)).trans hk2))
     have HO6 : Hid (∀ m, j + 1 ≤ m → m < c.n → (fun i => if i = j then d' else fs i) m = es m) := hide (fun m hm hl => by
      dsimp only;rw [if_neg (by omega)];exact HO.out m (by omega) hl)
     have s6 : b < (w5.setCells b (j * 7) d'.list).heap.size := by rw [size_setCells]; have := b5.size; omega
     have R7 := hide (And.intro s6 R6);have hS6 : (w5.setCells b (j * 7) d'.list).cell? ⟨w.heap.size, 6, none⟩ = some (.slice (some ⟨b, 0, none⟩) c.n k) ∧ ExIn (w5.setCells b (j * 7) d'.list) wr.heap.size d := ⟨(ecCells1 T6.out.e1).2.2.2.2.2.2, (World.heap_setCells_other w5 b (j * 7) d'.list (lt_heap hHeld.2) (by have h1 := R4.out.1; omega)).trans hHeld.2⟩
     refine ⟨hS6, ?_⟩;simp only [lp, lz];refine wpAnyH_done (by kernel_rfl) ?_ _;clear hHeld hS6 R6 R5 b6 k5 kb6 s6 bw s5 h0 hK0 hK1 TD T5 b5 hN BD TA XA RA sA BA c0 c1 c2 c3 c4 c5 c6 HEX HCJ HD HO R4 KW T4;generalize w5.setCells b (j * 7) d'.list = w6 at T6 KW6 HD6 R7 ⊢
     go_wp2
     exact ⟨⟨j + 1, _, by go_num, by omega, T6, KW6, R7, HD6, HO6⟩, by simp [intOf]; omega⟩
    ·have hge : decide ((j : Int) < (c.n : Int)) = false := by simp; omega
     obtain ⟨c0, c1, c2, c3, c4, c5, c6⟩ := ecCells1 T4.out.e1;obtain ⟨d0, d1, d2, d3, d4, d5, d6⟩ := ecCells1 T4.out.e2;have z0 := soft_heap T4.out.e2 0;have z1 := soft_heap T4.out.e2 1;have z2 := soft_heap T4.out.e2 2;have z3 := soft_heap T4.out.e2 3;have z4 := soft_heap T4.out.e2 4;have z5 := soft_heap T4.out.e2 5;have z6 := soft_heap T4.out.e2 6;have T5 : Hid (Pair w (((((((wr.setCell ⟨w.heap.size + 1, 0, none⟩ (.int .i64 c.k)).setCell ⟨w.heap.size + 1, 1, none⟩ (.int .i64 c.t)).setCell ⟨w.heap.size + 1, 2, none⟩ (.bool y.a)).setCell ⟨w.heap.size + 1, 3, none⟩ (.slice y.p y.n y.c)).setCell ⟨w.heap.size + 1, 4, none⟩ (.bool y.d)).setCell ⟨w.heap.size + 1, 5, none⟩ (.slice y.q y.m y.e)).setCell ⟨w.heap.size + 1, 6, none⟩ (.slice (some ⟨b, 0, none⟩) c.n k)) (.cells #[.int .i64 c.k, .int .i64 c.t, .bool y.a, .slice y.p y.n y.c, .bool y.d, .slice y.q y.m y.e, .slice (some ⟨b, 0, none⟩) c.n k] 28 (0, 0)) (.cells #[.int .i64 c.k, .int .i64 c.t, .bool y.a, .slice y.p y.n y.c, .bool y.d, .slice y.q y.m y.e, .slice (some ⟨b, 0, none⟩) c.n k] 28 (0, 0))) := hide (((((((T4.out.put2 0 (.int .i64 c.k)).put2 1 (.int .i64 c.t)).put2 2 (.bool y.a)).put2 3 (.slice y.p y.n y.c)).put2 4 (.bool y.d)).put2 5 (.slice y.q y.m y.e)).put2 6 (.slice (some ⟨b, 0, none⟩) c.n k));have K5 := hide (((((((Kept.setCell wr (w.heap.size + 1) 0 (.int .i64 c.k) (m := W0.heap.size) K1.out).trans (Kept.setCell _ (w.heap.size + 1) 1 (.int .i64 c.t) K1.out)).trans (Kept.setCell _ (w.heap.size + 1) 2 (.bool y.a) K1.out)).trans (Kept.setCell _ (w.heap.size + 1) 3 (.slice y.p y.n y.c) K1.out)).trans (Kept.setCell _ (w.heap.size + 1) 4 (.bool y.d) K1.out)).trans (Kept.setCell _ (w.heap.size + 1) 5 (.slice y.q y.m y.e) K1.out)).trans (Kept.setCell _ (w.heap.size + 1) 6 (.slice (some ⟨b, 0, none⟩) c.n k) K1.out))
     go_wp2
     refine bodyPost_ret (results_cell_row rfl _ _ (w.heap.size + 1) 28 _ (0, 0) _ rfl T5.out.e2 Tryz.underlying28 rfl infoEx) rfl ⟨⟨⟨c.k, c.t, y, some ⟨b, 0, none⟩, c.n, k⟩, rfl, fun w'' hk => ?_⟩, T5.out.b⟩;have hk' := K5.out.trans (hk.mono (m' := W0.heap.size) (by have := K1.out; omega));refine ⟨⟨c.k, c.t, y, some ⟨b, 0, none⟩, c.n, k⟩, rfl, ⟨HC.out.k, HC.out.t, HC.out.n, HC.out.k0, HC.out.k1, HC.out.t0, HC.out.t1, HY.out w'' (KW.out.trans hk'), hk1, hk2, HK3.out⟩, fun i hi => ?_⟩;have hi' : i < c.n := by rw [HN.out]; exact hi
     have kb : b < w''.heap.size := by have h1 := hk'.size; have h2 := R4.out.1; omega
     have blk : w''.heap[b]? = wr.heap[b]? := hk'.block b (by have h1 := HB1.out; have h2 := K0.out; omega) R4.out.1;refine ⟨b, 0, fs i, rfl, kb, ?_, HD.out i (by omega) w'' (hk'.mono (by have h1 := HB1.out; have h2 := K0.out; omega))⟩;rw [Nat.zero_add];exact (R4.out.2.els i hi').ofBlock blk
end Go.Proofs.YtlkcjhcmkaddaaaGreat
namespace Go.Proofs.YtlkcjhcmkaddaaaGreat
open Go.RowKit
def RowsX (n : Nat) (w : World) (v : Value) (l : List ExV) : Prop :=
 ∃ (p : Option Addr) (k : Nat), v = .slice p l.length k ∧ l.length ≤ k ∧ k ≤ 9223372036854775807 ∧ (p = none → l.length = 0 ∧ k = 0) ∧
  ∀ i, i < l.length → ∃ (g off : Nat) (d : EC), p = some ⟨g, off, none⟩ ∧ g < w.heap.size ∧ EcAt w g (off + i * 7) d ∧ ExAt n w d.val (l.getD i noX)
theorem RowsX.on {n : Nat} {w w' : World} {v : Value} {l : List ExV} (h : RowsX n w v l) (hb : Below w.heap.size w w') : RowsX n w' v l := by
 obtain ⟨p, k, e, h1, h2, h3, h4⟩ := h;refine ⟨p, k, e, h1, h2, h3, fun i hi => ?_⟩;obtain ⟨g, off, d, hp, hg, hd, hx⟩ := h4 i hi;exact ⟨g, off, d, hp, Nat.lt_of_lt_of_le hg hb.size, hd.on hg hb, ExAt.on hb n hx⟩
theorem RowsX.nil (n : Nat) (w : World) : RowsX n w (.slice none 0 0) [] := ⟨none, 0, rfl, by simp, by omega, fun _ => ⟨rfl, rfl⟩, fun i h => by simp at h⟩
set_option maxHeartbeats 4000000 in
set_option maxRecDepth 100000 in
theorem roomLeft_any : ∀ (n : Nat) (x : ExV) (c : EC) (w : World) (z : Int), ExAt n w c.val x → cpX n x → 0 ≤ z → z ≤ 1024 →
  Calls Tryz.prog 51 #[.int .i64 z, .slice c.p c.n c.c] w fun r w' => (∃ y : Int, r = .returned (.int .i64 y) ∧ -1000 ≤ y ∧ y ≤ 1024) ∧ Below w.heap.size w w' := by
 intro n
 induction n with
 | zero => intro x c w z h; cases h
 | succ n ih =>
  intro x c w z hx hcp z0 z1;obtain ⟨c', hv, hc, hs⟩ := id hx;obtain rfl := ec_inj hv;have HX := hide hx;have HI := hide ih;have HN := hide hc.n;have HCP := hide hcp;have nle : c.n ≤ 1000 := by rw [hc.n]; exact hcp.2.2.1
  clear hx hv hc hs hcp ih;go_enter Tryz.func51, Tryz.ntmps51
  go_wp2
  go_loopw [0, 12] (fun a i wr => ∃ (k : Nat) (y : Int), a = .int .i64 y ∧ i = .int .i64 k ∧ k ≤ c.n ∧ -1000 ≤ y ∧ y ≤ 1024 ∧ Hid (Below w.heap.size w wr)) (fun _ i _ => c.n - (intOf i).toNat)
  case atStart => exact ⟨0, z - c.n, rfl, rfl, by omega, by omega, by omega, hide (Below.refl _ _)⟩
  case round =>
   obtain ⟨k, y, rfl, rfl, hk, y0, y1, HB⟩ := hrel;by_cases hlt : k < c.n
   ·by_cases hy : y < 0
    ·have dy : decide (y < 0) = true := decide_eq_true hy
     go_wp2
     go_ret
     exact ⟨⟨y, rfl, y0, y1⟩, HB.out⟩
    ·have dy : decide (y < 0) = false := decide_eq_false hy;have hk' : k < x.sub.length := by rw [← HN.out]; exact hlt
     obtain ⟨g, off, d, hp, hg, hd, hyy⟩ := (ExAt.on HB.out _ HX.out).part k hk';have X := hide (HI.out _ d wr y hyy (HCP.out.2.2.2 _ (getD_mem hk')) (by omega) y1);have d6 := hd.c6;clear hyy HX HI hd;rw [hp]
     go_wp2_with fail
     refine (unhide X).mono ?_;rintro r w2 ⟨⟨y', rfl, q0, q1⟩, b2⟩;have HB2 := hide (HB.out.trans (b2.mono HB.out.size));clear X b2 HB d6
     go_wp2
     exact ⟨⟨k + 1, y', rfl, by go_num, by omega, q0, q1, HB2⟩, by simp [intOf]; omega⟩
   ·have hge : decide ((k : Int) < (c.n : Int)) = false := by simp; omega
    go_wp2
    go_ret
    exact ⟨⟨y, rfl, y0, y1⟩, HB.out⟩
def RowsY (n : Nat) (w0 w : World) (v : Value) (l : List ExV) : Prop :=
 ∃ (p : Option Addr) (k : Nat), v = .slice p l.length k ∧ (p = none → l.length = 0 ∧ k = 0) ∧
  ∀ i, i < l.length → ∃ (g off : Nat) (d : EC), p = some ⟨g, off, none⟩ ∧ EcAt w g (off + i * 7) d ∧ ExAt n w0 d.val (l.getD i noX)
theorem RowsX.y {n : Nat} {w w' : World} {v : Value} {l : List ExV} (h : RowsX n w v l) (hb : Below w.heap.size w w') : RowsY n w w' v l := by
 obtain ⟨p, k, e, h1, h2, h3, h4⟩ := h;refine ⟨p, k, e, h3, fun i hi => ?_⟩;obtain ⟨g, off, d, hp, hg, hd, hx⟩ := h4 i hi;exact ⟨g, off, d, hp, hd.on hg hb, hx⟩
theorem RowsY.grow {n : Nat} {w0 w w' : World} {v : Value} {l : List ExV} (h : RowsY n w0 w v l) (hb : Below w.heap.size w w') : RowsY n w0 w' v l := by
 obtain ⟨p, k, e, h3, h4⟩ := h;refine ⟨p, k, e, h3, fun i hi => ?_⟩;obtain ⟨g, off, d, hp, hd, hx⟩ := h4 i hi;exact ⟨g, off, d, hp, hd.on (lt_cell (a := ⟨g, _, none⟩) hd.c0) hb, hx⟩
set_option maxHeartbeats 8000000 in
set_option maxRecDepth 100000 in
theorem copiedList_any (n : Nat) (v : Value) (l : List ExV) (w0 w : World) (hv : RowsY n w0 w v l) (hb0 : Below w0.heap.size w0 w) (hl : l.length ≤ 1000) (hcp : ∀ y ∈ l, cpX n y) :
  Calls Tryz.prog 24 #[v] w fun r w' => (∃ u, r = .returned u ∧ ∀ w'', Kept w.heap.size w' w'' → Below w0.heap.size w0 w'' → RowsX n w'' u l) ∧ Below w.heap.size w w' := by
 have HB0 : Hid (∀ W, Below w.heap.size w W → Below w0.heap.size w0 W) := hide (fun W h => hb0.trans (h.mono hb0.size));obtain ⟨p, cc, rfl, h3, h4⟩ := hv;have : Inhabited EC := ⟨ec0⟩
 obtain ⟨es, hes⟩ := Go.Deep.choose_lt (p := fun i d => (∃ g off, p = some ⟨g, off, none⟩ ∧ EcAt w g (off + i * 7) d) ∧ ExAt n w0 d.val (l.getD i noX)) (fun i hi => by
  obtain ⟨g, off, d, hp, hd, hy⟩ := h4 i hi;exact ⟨d, ⟨g, off, hp, hd⟩, hy⟩)
 have HES := hide hes;have HCP := hide hcp;obtain ⟨N, hN⟩ : ∃ N, N = l.length := ⟨_, rfl⟩
 have X := hide (cloneX_new p N cc es w (by omega) (by rw [hN]; exact h3) (fun j hj => by
  obtain ⟨⟨g, off, hp, hd⟩, _⟩ := hes j (by omega);exact ⟨g, off, hp, hd⟩))
 rw [← hN] at hl ⊢;have HN := hide hN;clear h3 h4 hes hcp hN hb0;go_enter Tryz.func24, Tryz.ntmps24
 go_wp2_with fail
 refine (unhide X).mono ?_;rintro r w3 ⟨⟨q, k, rfl, hk1, hk2, hk3, hrow⟩, b3⟩;have B3 := hide b3;have HK3 := hide hk3;have HROW := hide hrow;clear X b3 hk3 hrow;rcases Nat.eq_zero_or_pos N with hz | hpos
 ·have HZ := hide hz;clear hz HROW
  go_wp2
  go_loopw [10] (fun i wr => ∃ j : Nat, i = .int .i64 j ∧ wr = w3) (fun i _ => 0)
  case atStart => exact ⟨0, rfl, rfl⟩
  case round =>
   obtain ⟨j, rfl, rfl⟩ := hrel;have hlt : ¬ j < N := by have := HZ.out; omega
   have hge : decide ((j : Int) < (N : Int)) = false := by simp; omega
   go_wp2
   go_ret
   refine ⟨⟨.slice q N k, rfl, fun w'' hkk hBB => ⟨q, k, by rw [← HN.out], by rw [← HN.out]; exact hk1, hk2, by rw [← HN.out]; exact HK3.out, fun i hi => ?_⟩⟩, B3.out⟩;have h1 := HZ.out;have h2 := HN.out;omega
 ·obtain ⟨b, rfl, hb1, hb2, hb3⟩ := HROW.out hpos;have HB1 := hide hb1;have R3 : Hid (b < w3.heap.size ∧ RowX w3 b N es) := hide ⟨hb2, hb3⟩;clear HROW hb1 hb2 hb3
  go_wp2
  go_loopw [10] (fun i wr => ∃ (j : Nat) (fs : Nat → EC), i = .int .i64 j ∧ j ≤ N ∧ Hid (Below w.heap.size w wr) ∧ Hid (b < wr.heap.size ∧ RowX wr b N fs) ∧ Hid (∀ m, m < j → ∀ w'', Kept (b + 1) wr w'' → Below w0.heap.size w0 w'' → ExAt n w'' (fs m).val (l.getD m noX)) ∧ Hid (∀ m, j ≤ m → m < N → fs m = es m)) (fun i _ => N - (intOf i).toNat)
  case atStart => exact ⟨0, es, rfl, by omega, B3, R3, hide (fun m h => by omega), hide (fun _ _ _ => rfl)⟩
  case round =>
   clear B3 R3;obtain ⟨j, fs, rfl, hj, B4, R4, HD, HO⟩ := hrel;by_cases hlt : j < N
   ·obtain ⟨d0, d1, d2, d3, d4, d5, d6⟩ := R4.out.2.els j hlt;have HEX : Hid (ExAt n w0 (fs j).val (l.getD j noX)) := hide (by
     rw [HO.out j (Nat.le_refl _) hlt];exact (HES.out j (by rw [← HN.out]; exact hlt)).2)
    have HCJ : Hid (cpX n (l.getD j noX)) := hide (HCP.out _ (getD_mem (by rw [← HN.out]; exact hlt)));obtain ⟨d, hd⟩ : ∃ d, d = fs j := ⟨_, rfl⟩
    rw [← hd] at d0 d1 d2 d3 d4 d5 d6 HEX;have HDD := hide hd;clear hd;have bA := (Below.refl _ wr).alloc (Nat.le_refl _) (exObj d);have DA := hide (B4.out.trans (bA.mono B4.out.size));have XA := hide (show ExIn (wr.alloc (exObj d)) wr.heap.size d from heap_new wr _);have RA := hide (R4.out.2.ofBlock (bA.block b R4.out.1));have sA := hide (show (wr.alloc (exObj d)).heap.size = wr.heap.size + 1 by simp);have BA := hide bA;clear bA;unfold exObj at DA XA RA sA BA
    go_upto_region 5 with fail
    generalize wr.alloc (Obj.cells #[.int .i64 d.k, .int .i64 d.t, .bool d.s.a, .slice d.s.p d.s.n d.s.c, .bool d.s.d, .slice d.s.q d.s.m d.s.e, .slice d.p d.n d.c] 28) = wa at DA XA RA sA BA ⊢;clear d0 d1 d2 d3 d4 d5 d6;obtain ⟨c0, c1, c2, c3, c4, c5, c6⟩ := ecCells1 XA.out
    go_wp2_with fail
    refine (roomLeft_any n (l.getD j noX) d wa 1024 (ExAt.on (HB0.out _ DA.out) _ HEX.out) HCJ.out (by omega) (by omega)).mono ?_;rintro r wd ⟨⟨y, rfl, y0, y1⟩, bD⟩;have BD := hide bD;have TD := hide (DA.out.trans (bD.mono DA.out.size));have XD := hide (XA.out.on bD);have sD : wr.heap.size + 1 ≤ wd.heap.size := by have h1 := bD.size; have h2 := sA.out; omega
    have RD := hide (RA.out.ofBlock (bD.block b (by have h1 := R4.out.1; have h2 := sA.out; omega)));have kd : Hid (Kept (b + 1) wr wd) := hide ((Kept.ofBelow BA.out).trans (Kept.ofBelow bD));clear bD c0 c1 c2 c3 c4 c5 c6 DA RA BA BD;by_cases hy : 0 ≤ y
    ·have dy : decide (0 ≤ y) = true := decide_eq_true hy
     go_upto_region 6 with fail
     refine wp_region_lit ?_;refine wl_yield (o := .mk ..) (.slice (some ⟨b, 0, none⟩) N k) (yl_move (by rfl) _ rfl _ rfl) ?_;simp only [lp, lz];refine wl_yield (o := .mk ..) (.int .i64 j) (yl_move (by rfl) _ rfl _ rfl) ?_;simp only [lp, lz];refine wl_yield (o := .mk ..) d.val (yl_ex (by rfl) _ rfl _ 0 rfl d (fun _ h => by subst h; exact XD.out.ec)) ?_;simp only [lp, lz];refine wl_call (o := .mk ..) (by rfl) 52 _ _ rfl #[d.val] rfl (run_call Tryz.func52 (by kernel_rfl) (by kernel_rfl)) ?_;refine (copied_any n (l.getD j noX) d wd (ExAt.on (HB0.out _ TD.out) _ HEX.out) HCJ.out).mono ?_;rintro r w5 ⟨⟨d', rfl, hN⟩, b5⟩;refine ⟨d'.val, rfl, ?_⟩;simp only [lp, lz];refine wl_yield (o := .mk ..) (.pointer (some ⟨b, j * 7, none⟩)) (yl_exAt (by rfl) _ _ rfl b N k j rfl rfl hlt) ?_;simp only [lp, lz];have T5 := hide (TD.out.trans (b5.mono TD.out.size));have bw : b < wd.heap.size := by have h1 := R4.out.1; omega
     have R5 := RD.out.ofBlock (b5.block b bw);refine wpList_store_mid (op := ⟨_, _, _, _, _, _⟩) rfl 28 _ _ rfl b (j * 7) d'.list.toArray rfl rfl (R5.there j hlt) (by rw [infoEx]; rfl) (all_oneCell_toArray d'.list_one) ?_;simp only [lp, lz];refine wpList_nil ?_;have R6 := R5.put j hlt d';have h0 := HB1.out;have T6 := hide (Below.setCells (B := w.heap.size) (w0 := w) b h0 d'.list (j * 7) w5 T5.out);have kb6 : Kept (b + 1) w5 (w5.setCells b (j * 7) d'.list) := Kept.setCells w5 (j * 7) d'.list (by omega);have k5 : Kept (b + 1) wr w5 := kd.out.trans (Kept.ofBelow b5);have HD6 : Hid (∀ m, m < j + 1 → ∀ w'', Kept (b + 1) (w5.setCells b (j * 7) d'.list) w'' → Below w0.heap.size w0 w'' → ExAt n w'' ((fun i => if i = j then d' else fs i) m).val (l.getD m noX)) := hide (fun m hm w'' hk hB => by
      have hk2 := kb6.trans hk;by_cases e : m = j
      ·subst e;simp only [if_pos];exact hN w'' (hk2.mono (by have := R4.out.1; omega))
      ·simp only [if_neg e];exact HD.out m (by omega) w'' (k5.trans hk2) hB)
     have HO6 : Hid (∀ m, j + 1 ≤ m → m < N → (fun i => if i = j then d' else fs i) m = es m) := hide (fun m hm hl => by
      dsimp only;rw [if_neg (by omega)];exact HO.out m (by omega) hl)
     have s6 : b < (w5.setCells b (j * 7) d'.list).heap.size := by rw [size_setCells]; have := b5.size; omega
     have R7 := hide (And.intro s6 R6);clear R6 R5 k5 kb6 s6 bw sD h0 TD T5 b5 hN RD kd XA XD sA HEX HCJ HD HO R4 B4 HDD;generalize w5.setCells b (j * 7) d'.list = w6 at T6 HD6 R7 ⊢
     go_wp2
     exact ⟨⟨j + 1, _, by go_num, by omega, T6, R7, HD6, HO6⟩, by simp [intOf]; omega⟩
    ·have dy : decide (0 ≤ y) = false := decide_eq_false hy;have HD6 : Hid (∀ m, m < j + 1 → ∀ w'', Kept (b + 1) wd w'' → Below w0.heap.size w0 w'' → ExAt n w'' (fs m).val (l.getD m noX)) := hide (fun m hm w'' hk hB => by
      by_cases e : m = j
      ·subst e;rw [← HDD.out];exact ExAt.on hB _ HEX.out
      ·exact HD.out m (by omega) w'' (kd.out.trans hk) hB)
     have HO6 : Hid (∀ m, j + 1 ≤ m → m < N → fs m = es m) := hide (fun m hm hl => HO.out m (by omega) hl);have R7 : Hid (b < wd.heap.size ∧ RowX wd b N fs) := hide ⟨by have h1 := R4.out.1; omega, RD.out⟩;clear RD kd XA XD sA HEX HCJ HD HO R4 B4 HDD sD
     go_wp2
     exact ⟨⟨j + 1, fs, by go_num, by omega, TD, R7, HD6, HO6⟩, by simp [intOf]; omega⟩
   ·have hge : decide ((j : Int) < (N : Int)) = false := by simp; omega
    go_wp2
    go_ret
    refine ⟨⟨.slice (some ⟨b, 0, none⟩) N k, rfl, fun w'' hkk hBB => ⟨some ⟨b, 0, none⟩, k, by rw [← HN.out], by rw [← HN.out]; exact hk1, hk2, by rw [← HN.out]; exact HK3.out, fun i hi => ?_⟩⟩, B4.out⟩;have hi' : i < N := by rw [HN.out]; exact hi
    refine ⟨b, 0, fs i, rfl, Nat.lt_of_lt_of_le R4.out.1 hkk.size, ?_, HD.out i (by omega) w'' (hkk.mono (by have := HB1.out; omega)) hBB⟩;rw [Nat.zero_add];exact (R4.out.2.els i hi').ofBlock (hkk.block b HB1.out R4.out.1)
end Go.Proofs.YtlkcjhcmkaddaaaGreat
namespace Go.Proofs.YtlkcjhcmkaddaaaGreat
open Go.RowKit
theorem xp_put {w : World} {g : Nat} {cs : Array Value} {t : TypeId} (h : w.heap[g]? = some (.cells cs t (0, 0))) (i : Nat) (v : Value) : (w.setCell ⟨g, i, none⟩ v).heap[g]? = some (.cells (cs.setIfInBounds i v) t (0, 0)) := heap_setCell (i := i) v h
theorem rows_ex {n : Nat} {w : World} {v : Value} {l : List ExV} (kind : Int) (k0 : -9223372036854775808 ≤ kind) (k1 : kind ≤ 9223372036854775807) (h : RowsX n w v l) : ∃ p c, v = .slice p l.length c ∧ ExAt (n + 1) w (EC.val ⟨kind, 0, SC.zero, p, l.length, c⟩) ⟨kind, 0, noSet, l⟩ := by
 obtain ⟨p, c, e, h1, h2, h3, h4⟩ := h;exact ⟨p, c, e, ⟨kind, 0, SC.zero, p, l.length, c⟩, rfl, ⟨rfl, rfl, rfl, k0, k1, by simp, by simp, noSet_at w, h1, h2, h3⟩, h4⟩
set_option maxHeartbeats 4000000 in
set_option maxRecDepth 100000 in
theorem progAnd_new (n : Nat) (v : Value) (l : List ExV) (w0 w : World) (hv : RowsY n w0 w v l) (hb0 : Below w0.heap.size w0 w) (hl : l.length ≤ 1000) (hcp : ∀ y ∈ l, cpX n y) :
  Calls Tryz.prog 9 #[v] w fun r w' => (∃ d : EC, r = .returned d.val ∧ ∀ w'', Kept w.heap.size w' w'' → Below w0.heap.size w0 w'' → ExAt (n + 1) w'' d.val (andX l)) ∧ Below w.heap.size w w' := by
 have HB0 : Hid (∀ W, Below w.heap.size w W → Below w0.heap.size w0 W) := hide (fun W h => hb0.trans (h.mono hb0.size));have b0 := (Below.refl _ w).alloc (Nat.le_refl _) (Obj.cells #[.int .i64 0, .int .i64 0, .bool false, .slice none 0 0, .bool false, .slice none 0 0, .slice none 0 0] 28);have X := hide (copiedList_any n v l w0 (w.alloc (Obj.cells #[.int .i64 0, .int .i64 0, .bool false, .slice none 0 0, .bool false, .slice none 0 0, .slice none 0 0] 28)) (hv.grow b0) (HB0.out _ b0) hl hcp);have E0 := hide (heap_new w (Obj.cells #[.int .i64 0, .int .i64 0, .bool false, .slice none 0 0, .bool false, .slice none 0 0, .slice none 0 0] 28));have S0 := hide (show (w.alloc (Obj.cells #[.int .i64 0, .int .i64 0, .bool false, .slice none 0 0, .bool false, .slice none 0 0, .slice none 0 0] 28)).heap.size = w.heap.size + 1 by simp);have B0 := hide b0;obtain ⟨p, cc, rfl, _⟩ := hv;clear b0 hl hcp hb0;go_enter Tryz.func9, Tryz.ntmps9
 go_wp2_with fail
 generalize w.alloc (Obj.cells #[.int .i64 0, .int .i64 0, .bool false, .slice none 0 0, .bool false, .slice none 0 0, .slice none 0 0] 28) = W0 at X E0 S0 B0 ⊢;refine (unhide X).mono ?_;rintro r w1 ⟨⟨u, rfl, hR⟩, b1⟩;have D1 := hide (B0.out.trans (b1.mono B0.out.size));have E1 := hide ((b1.block _ (by have := S0.out; omega)).trans E0.out);have LT : Hid (w.heap.size < W0.heap.size) := hide (by have := S0.out; omega);have GE : Hid (w.heap.size ≤ w.heap.size) := hide (Nat.le_refl _);clear X b1 E0 S0 B0;obtain ⟨q, kk, len, rfl, hlen⟩ : ∃ q kk len, u = .slice q len kk ∧ len = l.length := by
  obtain ⟨q, kk, e, _⟩ := hR w1 (Kept.refl _ _) (HB0.out _ D1.out);exact ⟨q, kk, _, e, rfl⟩
 have HR := hide hR;have HLEN := hide hlen;clear hR hlen;obtain ⟨d0, d1, d2, d3, d4, d5, d6⟩ := ecCells1 E1.out;have z0 := soft_heap E1.out 0;have z1 := soft_heap E1.out 1;have z2 := soft_heap E1.out 2;have z3 := soft_heap E1.out 3;have z4 := soft_heap E1.out 4;have z5 := soft_heap E1.out 5;have z6 := soft_heap E1.out 6;have E2 : Hid ((((((((w1.setCell ⟨w.heap.size, 0, none⟩ (.int .i64 2)).setCell ⟨w.heap.size, 1, none⟩ (.int .i64 0)).setCell ⟨w.heap.size, 2, none⟩ (.bool false)).setCell ⟨w.heap.size, 3, none⟩ (.slice none 0 0)).setCell ⟨w.heap.size, 4, none⟩ (.bool false)).setCell ⟨w.heap.size, 5, none⟩ (.slice none 0 0)).setCell ⟨w.heap.size, 6, none⟩ (.slice q len kk)).heap[w.heap.size]? = some (.cells #[.int .i64 2, .int .i64 0, .bool false, .slice none 0 0, .bool false, .slice none 0 0, .slice q len kk] 28 (0, 0))) := hide (xp_put (xp_put (xp_put (xp_put (xp_put (xp_put (xp_put E1.out 0 (.int .i64 2)) 1 (.int .i64 0)) 2 (.bool false)) 3 (.slice none 0 0)) 4 (.bool false)) 5 (.slice none 0 0)) 6 (.slice q len kk));have K2 := hide (((((((Kept.setCell w1 (w.heap.size) 0 (.int .i64 2) (m := W0.heap.size) LT.out).trans (Kept.setCell _ (w.heap.size) 1 (.int .i64 0) LT.out)).trans (Kept.setCell _ (w.heap.size) 2 (.bool false) LT.out)).trans (Kept.setCell _ (w.heap.size) 3 (.slice none 0 0) LT.out)).trans (Kept.setCell _ (w.heap.size) 4 (.bool false) LT.out)).trans (Kept.setCell _ (w.heap.size) 5 (.slice none 0 0) LT.out)).trans (Kept.setCell _ (w.heap.size) 6 (.slice q len kk) LT.out));have D2 := hide (((((((D1.out.setCell (p := ⟨w.heap.size, 0, none⟩) GE.out (.int .i64 2)).setCell (p := ⟨w.heap.size, 1, none⟩) GE.out (.int .i64 0)).setCell (p := ⟨w.heap.size, 2, none⟩) GE.out (.bool false)).setCell (p := ⟨w.heap.size, 3, none⟩) GE.out (.slice none 0 0)).setCell (p := ⟨w.heap.size, 4, none⟩) GE.out (.bool false)).setCell (p := ⟨w.heap.size, 5, none⟩) GE.out (.slice none 0 0)).setCell (p := ⟨w.heap.size, 6, none⟩) GE.out (.slice q len kk));clear D1 E1
 go_wp2
 refine bodyPost_ret (results_cell_row rfl _ _ (w.heap.size) 28 _ (0, 0) _ rfl E2.out Tryz.underlying28 rfl infoEx) rfl ⟨⟨⟨2, 0, SC.zero, q, len, kk⟩, rfl, fun w'' hk hB => ?_⟩, D2.out⟩;obtain ⟨q', c', e', hX⟩ := rows_ex 2 (by omega) (by omega) (HR.out w'' (K2.out.trans (hk.mono (by have := LT.out; omega))) hB)
 injection e' with e1 e2 e3
 subst e1 e3;rw [← HLEN.out] at hX;exact hX
theorem progAnd_any (n : Nat) (v : Value) (l : List ExV) (w : World) (hv : RowsX n w v l) (hl : l.length ≤ 1000) (hcp : ∀ y ∈ l, cpX n y) :
  Calls Tryz.prog 9 #[v] w fun r w' => (∃ d : EC, r = .returned d.val ∧ ExAt (n + 1) w' d.val (andX l)) ∧ Below w.heap.size w w' := by
 refine (progAnd_new n v l w w (hv.y (Below.refl _ _)) (Below.refl _ _) hl hcp).mono ?_;rintro r w' ⟨⟨d, rfl, h⟩, hb⟩;exact ⟨⟨d, rfl, h w' (Kept.refl _ _) hb⟩, hb⟩
set_option maxHeartbeats 4000000 in
set_option maxRecDepth 100000 in
theorem progOr_new (n : Nat) (v : Value) (l : List ExV) (w0 w : World) (hv : RowsY n w0 w v l) (hb0 : Below w0.heap.size w0 w) (hl : l.length ≤ 1000) (hcp : ∀ y ∈ l, cpX n y) :
  Calls Tryz.prog 10 #[v] w fun r w' => (∃ d : EC, r = .returned d.val ∧ ∀ w'', Kept w.heap.size w' w'' → Below w0.heap.size w0 w'' → ExAt (n + 1) w'' d.val (orX l)) ∧ Below w.heap.size w w' := by
 have HB0 : Hid (∀ W, Below w.heap.size w W → Below w0.heap.size w0 W) := hide (fun W h => hb0.trans (h.mono hb0.size));have b0 := (Below.refl _ w).alloc (Nat.le_refl _) (Obj.cells #[.int .i64 0, .int .i64 0, .bool false, .slice none 0 0, .bool false, .slice none 0 0, .slice none 0 0] 28);have X := hide (copiedList_any n v l w0 (w.alloc (Obj.cells #[.int .i64 0, .int .i64 0, .bool false, .slice none 0 0, .bool false, .slice none 0 0, .slice none 0 0] 28)) (hv.grow b0) (HB0.out _ b0) hl hcp);have E0 := hide (heap_new w (Obj.cells #[.int .i64 0, .int .i64 0, .bool false, .slice none 0 0, .bool false, .slice none 0 0, .slice none 0 0] 28));have S0 := hide (show (w.alloc (Obj.cells #[.int .i64 0, .int .i64 0, .bool false, .slice none 0 0, .bool false, .slice none 0 0, .slice none 0 0] 28)).heap.size = w.heap.size + 1 by simp);have B0 := hide b0;obtain ⟨p, cc, rfl, _⟩ := hv;clear b0 hl hcp hb0;go_enter Tryz.func10, Tryz.ntmps10
 go_wp2_with fail
 generalize w.alloc (Obj.cells #[.int .i64 0, .int .i64 0, .bool false, .slice none 0 0, .bool false, .slice none 0 0, .slice none 0 0] 28) = W0 at X E0 S0 B0 ⊢;refine (unhide X).mono ?_;rintro r w1 ⟨⟨u, rfl, hR⟩, b1⟩;have D1 := hide (B0.out.trans (b1.mono B0.out.size));have E1 := hide ((b1.block _ (by have := S0.out; omega)).trans E0.out);have LT : Hid (w.heap.size < W0.heap.size) := hide (by have := S0.out; omega);have GE : Hid (w.heap.size ≤ w.heap.size) := hide (Nat.le_refl _);clear X b1 E0 S0 B0;obtain ⟨q, kk, len, rfl, hlen⟩ : ∃ q kk len, u = .slice q len kk ∧ len = l.length := by
  obtain ⟨q, kk, e, _⟩ := hR w1 (Kept.refl _ _) (HB0.out _ D1.out);exact ⟨q, kk, _, e, rfl⟩
 have HR := hide hR;have HLEN := hide hlen;clear hR hlen;obtain ⟨d0, d1, d2, d3, d4, d5, d6⟩ := ecCells1 E1.out;have z0 := soft_heap E1.out 0;have z1 := soft_heap E1.out 1;have z2 := soft_heap E1.out 2;have z3 := soft_heap E1.out 3;have z4 := soft_heap E1.out 4;have z5 := soft_heap E1.out 5;have z6 := soft_heap E1.out 6;have E2 : Hid ((((((((w1.setCell ⟨w.heap.size, 0, none⟩ (.int .i64 3)).setCell ⟨w.heap.size, 1, none⟩ (.int .i64 0)).setCell ⟨w.heap.size, 2, none⟩ (.bool false)).setCell ⟨w.heap.size, 3, none⟩ (.slice none 0 0)).setCell ⟨w.heap.size, 4, none⟩ (.bool false)).setCell ⟨w.heap.size, 5, none⟩ (.slice none 0 0)).setCell ⟨w.heap.size, 6, none⟩ (.slice q len kk)).heap[w.heap.size]? = some (.cells #[.int .i64 3, .int .i64 0, .bool false, .slice none 0 0, .bool false, .slice none 0 0, .slice q len kk] 28 (0, 0))) := hide (xp_put (xp_put (xp_put (xp_put (xp_put (xp_put (xp_put E1.out 0 (.int .i64 3)) 1 (.int .i64 0)) 2 (.bool false)) 3 (.slice none 0 0)) 4 (.bool false)) 5 (.slice none 0 0)) 6 (.slice q len kk));have K2 := hide (((((((Kept.setCell w1 (w.heap.size) 0 (.int .i64 3) (m := W0.heap.size) LT.out).trans (Kept.setCell _ (w.heap.size) 1 (.int .i64 0) LT.out)).trans (Kept.setCell _ (w.heap.size) 2 (.bool false) LT.out)).trans (Kept.setCell _ (w.heap.size) 3 (.slice none 0 0) LT.out)).trans (Kept.setCell _ (w.heap.size) 4 (.bool false) LT.out)).trans (Kept.setCell _ (w.heap.size) 5 (.slice none 0 0) LT.out)).trans (Kept.setCell _ (w.heap.size) 6 (.slice q len kk) LT.out));have D2 := hide (((((((D1.out.setCell (p := ⟨w.heap.size, 0, none⟩) GE.out (.int .i64 3)).setCell (p := ⟨w.heap.size, 1, none⟩) GE.out (.int .i64 0)).setCell (p := ⟨w.heap.size, 2, none⟩) GE.out (.bool false)).setCell (p := ⟨w.heap.size, 3, none⟩) GE.out (.slice none 0 0)).setCell (p := ⟨w.heap.size, 4, none⟩) GE.out (.bool false)).setCell (p := ⟨w.heap.size, 5, none⟩) GE.out (.slice none 0 0)).setCell (p := ⟨w.heap.size, 6, none⟩) GE.out (.slice q len kk));clear D1 E1
 go_wp2
 refine bodyPost_ret (results_cell_row rfl _ _ (w.heap.size) 28 _ (0, 0) _ rfl E2.out Tryz.underlying28 rfl infoEx) rfl ⟨⟨⟨3, 0, SC.zero, q, len, kk⟩, rfl, fun w'' hk hB => ?_⟩, D2.out⟩;obtain ⟨q', c', e', hX⟩ := rows_ex 3 (by omega) (by omega) (HR.out w'' (K2.out.trans (hk.mono (by have := LT.out; omega))) hB)
 injection e' with e1 e2 e3
 subst e1 e3;rw [← HLEN.out] at hX;exact hX
theorem progOr_any (n : Nat) (v : Value) (l : List ExV) (w : World) (hv : RowsX n w v l) (hl : l.length ≤ 1000) (hcp : ∀ y ∈ l, cpX n y) :
  Calls Tryz.prog 10 #[v] w fun r w' => (∃ d : EC, r = .returned d.val ∧ ExAt (n + 1) w' d.val (orX l)) ∧ Below w.heap.size w w' := by
 refine (progOr_new n v l w w (hv.y (Below.refl _ _)) (Below.refl _ _) hl hcp).mono ?_;rintro r w' ⟨⟨d, rfl, h⟩, hb⟩;exact ⟨⟨d, rfl, h w' (Kept.refl _ _) hb⟩, hb⟩
set_option maxHeartbeats 4000000 in
set_option maxRecDepth 100000 in
theorem progNot_new (n : Nat) (c : EC) (x : ExV) (w0 w : World) (hx : ExAt n w0 c.val x) (hb0 : Below w0.heap.size w0 w) (hcp : cpX n x) :
  Calls Tryz.prog 11 #[c.val] w fun r w' => (∃ d : EC, r = .returned d.val ∧ ∀ w'', Kept w.heap.size w' w'' → Below w0.heap.size w0 w'' → ExAt (n + 1) w'' d.val (notX x)) ∧ Below w.heap.size w w' := by
 have HB0 : Hid (∀ W, Below w.heap.size w W → Below w0.heap.size w0 W) := hide (fun W h => hb0.trans (h.mono hb0.size));obtain ⟨l, hlx⟩ : ∃ l, l = [x] := ⟨_, rfl⟩
 have T0 := Pair.new w (exObj c) (exObj ec0);have b2 := (Below.refl _ ((w.alloc (exObj c)).alloc (exObj ec0))).alloc (Nat.le_refl _) (exObj c);have T2 := T0.on b2;have hv : RowsY n w0 (((w.alloc (exObj c)).alloc (exObj ec0)).alloc (exObj c)) (.slice (some ⟨w.heap.size + 1 + 1, 0, none⟩) 1 1) l := by
  subst hlx;refine ⟨_, 1, rfl, fun e => by simp at e, fun i hi => ?_⟩;have hi0 : i = 0 := by simpa using hi
  subst hi0;have hn := heap_new ((w.alloc (exObj c)).alloc (exObj ec0)) (exObj c);simp only [World.size_alloc] at hn;refine ⟨w.heap.size + 1 + 1, 0, c, rfl, ?_, hx⟩;obtain ⟨c0, c1, c2, c3, c4, c5, c6⟩ := ecCells1 hn;exact ⟨c0, c1, c2, c3, c4, c5, c6⟩
 have X := hide (copiedList_any n _ l w0 _ hv (HB0.out _ T2.b) (by subst hlx; simp) (fun y hy => by subst hlx; simp at hy; subst hy; exact hcp));have HLX := hide hlx;rw [show notX x = ⟨4, 0, noSet, l⟩ by rw [HLX.out]; rfl];have TT := hide T2;clear hx hcp T0 b2 T2 hlx hv hb0;unfold exObj ec0 SC.zero at X TT;unfold EC.val;go_enter Tryz.func11, Tryz.ntmps11
 go_wp2_with fail
 generalize ((w.alloc (Obj.cells #[.int .i64 c.k, .int .i64 c.t, .bool c.s.a, .slice c.s.p c.s.n c.s.c, .bool c.s.d, .slice c.s.q c.s.m c.s.e, .slice c.p c.n c.c] 28)).alloc (Obj.cells #[.int .i64 0, .int .i64 0, .bool false, .slice none 0 0, .bool false, .slice none 0 0, .slice none 0 0] 28)).alloc (Obj.cells #[.int .i64 c.k, .int .i64 c.t, .bool c.s.a, .slice c.s.p c.s.n c.s.c, .bool c.s.d, .slice c.s.q c.s.m c.s.e, .slice c.p c.n c.c] 28) = W0 at X TT ⊢;refine (unhide X).mono ?_;rintro r w1 ⟨⟨u, rfl, hR⟩, b1⟩;have TD := hide (TT.out.on b1);have LT : Hid (w.heap.size + 1 < W0.heap.size) := hide TT.out.size;have GE : Hid (w.heap.size ≤ w.heap.size + 1) := hide (by omega);have D1 := hide TD.out.b;have E1 := hide TD.out.e2;clear X b1 TT TD HLX;obtain ⟨q, kk, len, rfl, hlen⟩ : ∃ q kk len, u = .slice q len kk ∧ len = l.length := by
  obtain ⟨q, kk, e, _⟩ := hR w1 (Kept.refl _ _) (HB0.out _ D1.out);exact ⟨q, kk, _, e, rfl⟩
 have HR := hide hR;have HLEN := hide hlen;clear hR hlen;obtain ⟨d0, d1, d2, d3, d4, d5, d6⟩ := ecCells1 E1.out;have z0 := soft_heap E1.out 0;have z1 := soft_heap E1.out 1;have z2 := soft_heap E1.out 2;have z3 := soft_heap E1.out 3;have z4 := soft_heap E1.out 4;have z5 := soft_heap E1.out 5;have z6 := soft_heap E1.out 6;have E2 : Hid ((((((((w1.setCell ⟨w.heap.size + 1, 0, none⟩ (.int .i64 4)).setCell ⟨w.heap.size + 1, 1, none⟩ (.int .i64 0)).setCell ⟨w.heap.size + 1, 2, none⟩ (.bool false)).setCell ⟨w.heap.size + 1, 3, none⟩ (.slice none 0 0)).setCell ⟨w.heap.size + 1, 4, none⟩ (.bool false)).setCell ⟨w.heap.size + 1, 5, none⟩ (.slice none 0 0)).setCell ⟨w.heap.size + 1, 6, none⟩ (.slice q len kk)).heap[w.heap.size + 1]? = some (.cells #[.int .i64 4, .int .i64 0, .bool false, .slice none 0 0, .bool false, .slice none 0 0, .slice q len kk] 28 (0, 0))) := hide (xp_put (xp_put (xp_put (xp_put (xp_put (xp_put (xp_put E1.out 0 (.int .i64 4)) 1 (.int .i64 0)) 2 (.bool false)) 3 (.slice none 0 0)) 4 (.bool false)) 5 (.slice none 0 0)) 6 (.slice q len kk));have K2 := hide (((((((Kept.setCell w1 (w.heap.size + 1) 0 (.int .i64 4) (m := W0.heap.size) LT.out).trans (Kept.setCell _ (w.heap.size + 1) 1 (.int .i64 0) LT.out)).trans (Kept.setCell _ (w.heap.size + 1) 2 (.bool false) LT.out)).trans (Kept.setCell _ (w.heap.size + 1) 3 (.slice none 0 0) LT.out)).trans (Kept.setCell _ (w.heap.size + 1) 4 (.bool false) LT.out)).trans (Kept.setCell _ (w.heap.size + 1) 5 (.slice none 0 0) LT.out)).trans (Kept.setCell _ (w.heap.size + 1) 6 (.slice q len kk) LT.out));have D2 := hide (((((((D1.out.setCell (p := ⟨w.heap.size + 1, 0, none⟩) GE.out (.int .i64 4)).setCell (p := ⟨w.heap.size + 1, 1, none⟩) GE.out (.int .i64 0)).setCell (p := ⟨w.heap.size + 1, 2, none⟩) GE.out (.bool false)).setCell (p := ⟨w.heap.size + 1, 3, none⟩) GE.out (.slice none 0 0)).setCell (p := ⟨w.heap.size + 1, 4, none⟩) GE.out (.bool false)).setCell (p := ⟨w.heap.size + 1, 5, none⟩) GE.out (.slice none 0 0)).setCell (p := ⟨w.heap.size + 1, 6, none⟩) GE.out (.slice q len kk));clear D1 E1
 go_wp2
 refine bodyPost_ret (results_cell_row rfl _ _ (w.heap.size + 1) 28 _ (0, 0) _ rfl E2.out Tryz.underlying28 rfl infoEx) rfl ⟨⟨⟨4, 0, SC.zero, q, len, kk⟩, rfl, fun w'' hk hB => ?_⟩, D2.out⟩;obtain ⟨q', c', e', hX⟩ := rows_ex 4 (by omega) (by omega) (HR.out w'' (K2.out.trans (hk.mono (by have := LT.out; omega))) hB)
 injection e' with e1 e2 e3
 subst e1 e3;rw [← HLEN.out] at hX;exact hX
theorem progNot_any (n : Nat) (c : EC) (x : ExV) (w : World) (hx : ExAt n w c.val x) (hcp : cpX n x) :
  Calls Tryz.prog 11 #[c.val] w fun r w' => (∃ d : EC, r = .returned d.val ∧ ExAt (n + 1) w' d.val (notX x)) ∧ Below w.heap.size w w' := by
 refine (progNot_new n c x w w hx (Below.refl _ _) hcp).mono ?_;rintro r w' ⟨⟨d, rfl, h⟩, hb⟩;exact ⟨⟨d, rfl, h w' (Kept.refl _ _) hb⟩, hb⟩
set_option maxHeartbeats 4000000 in
set_option maxRecDepth 100000 in
theorem progAtom_new (attr : Int) (a0 : -9223372036854775808 ≤ attr) (a1 : attr ≤ 9223372036854775807) (s : SC) (S : SetV) (w : World) (hv : SetAt w s.val S) (h1 : S.ints.length * 16 ≤ 140737488355328) (h2 : S.strs.length * 16 ≤ 140737488355328) :
  Calls Tryz.prog 25 #[.int .i64 attr, s.val] w fun r w' => (∃ d : EC, r = .returned d.val ∧ ∀ w'', Kept w.heap.size w' w'' → ExAt 1 w'' d.val (atomX attr S)) ∧ Below w.heap.size w w' := by
 have T0 := Pair.new w (stObj s) (exObj ec0);have X := hide (copiedSet_any s S _ (hv.on T0.b) h1 h2);have TT := hide T0;clear hv h1 h2 T0;unfold stObj exObj ec0 SC.zero at X TT;unfold SC.val at X ⊢;go_enter Tryz.func25, Tryz.ntmps25
 go_wp2_with fail
 generalize (w.alloc (Obj.cells #[.bool s.a, .slice s.p s.n s.c, .bool s.d, .slice s.q s.m s.e] 25)).alloc (Obj.cells #[.int .i64 0, .int .i64 0, .bool false, .slice none 0 0, .bool false, .slice none 0 0, .slice none 0 0] 28) = W0 at X TT ⊢;refine (unhide X).mono ?_;rintro r w1 ⟨⟨y, rfl, hY⟩, b1⟩;have TD := hide (TT.out.on b1);have LT : Hid (w.heap.size + 1 < W0.heap.size) := hide TT.out.size;have E1 := hide TD.out.e2;have HY := hide hY;clear X b1 TT hY;obtain ⟨d0, d1, d2, d3, d4, d5, d6⟩ := ecCells1 E1.out;have z0 := soft_heap E1.out 0;have z1 := soft_heap E1.out 1;have z2 := soft_heap E1.out 2;have z3 := soft_heap E1.out 3;have z4 := soft_heap E1.out 4;have z5 := soft_heap E1.out 5;have z6 := soft_heap E1.out 6;have E2 : Hid ((((((((w1.setCell ⟨w.heap.size + 1, 0, none⟩ (.int .i64 1)).setCell ⟨w.heap.size + 1, 1, none⟩ (.int .i64 attr)).setCell ⟨w.heap.size + 1, 2, none⟩ (.bool y.a)).setCell ⟨w.heap.size + 1, 3, none⟩ (.slice y.p y.n y.c)).setCell ⟨w.heap.size + 1, 4, none⟩ (.bool y.d)).setCell ⟨w.heap.size + 1, 5, none⟩ (.slice y.q y.m y.e)).setCell ⟨w.heap.size + 1, 6, none⟩ (.slice none 0 0)).heap[w.heap.size + 1]? = some (.cells #[.int .i64 1, .int .i64 attr, .bool y.a, .slice y.p y.n y.c, .bool y.d, .slice y.q y.m y.e, .slice none 0 0] 28 (0, 0))) := hide (xp_put (xp_put (xp_put (xp_put (xp_put (xp_put (xp_put E1.out 0 (.int .i64 1)) 1 (.int .i64 attr)) 2 (.bool y.a)) 3 (.slice y.p y.n y.c)) 4 (.bool y.d)) 5 (.slice y.q y.m y.e)) 6 (.slice none 0 0));have K2 := hide (((((((Kept.setCell w1 (w.heap.size + 1) 0 (.int .i64 1) (m := W0.heap.size) LT.out).trans (Kept.setCell _ (w.heap.size + 1) 1 (.int .i64 attr) LT.out)).trans (Kept.setCell _ (w.heap.size + 1) 2 (.bool y.a) LT.out)).trans (Kept.setCell _ (w.heap.size + 1) 3 (.slice y.p y.n y.c) LT.out)).trans (Kept.setCell _ (w.heap.size + 1) 4 (.bool y.d) LT.out)).trans (Kept.setCell _ (w.heap.size + 1) 5 (.slice y.q y.m y.e) LT.out)).trans (Kept.setCell _ (w.heap.size + 1) 6 (.slice none 0 0) LT.out));have D2 := hide (((((((TD.out.b.setCell (p := ⟨w.heap.size + 1, 0, none⟩) (by simp) (.int .i64 1)).setCell (p := ⟨w.heap.size + 1, 1, none⟩) (by simp) (.int .i64 attr)).setCell (p := ⟨w.heap.size + 1, 2, none⟩) (by simp) (.bool y.a)).setCell (p := ⟨w.heap.size + 1, 3, none⟩) (by simp) (.slice y.p y.n y.c)).setCell (p := ⟨w.heap.size + 1, 4, none⟩) (by simp) (.bool y.d)).setCell (p := ⟨w.heap.size + 1, 5, none⟩) (by simp) (.slice y.q y.m y.e)).setCell (p := ⟨w.heap.size + 1, 6, none⟩) (by simp) (.slice none 0 0));clear E1 TD
 go_wp2
 exact bodyPost_ret (results_cell_row rfl _ _ (w.heap.size + 1) 28 _ (0, 0) _ rfl E2.out Tryz.underlying28 rfl infoEx) rfl ⟨⟨⟨1, attr, y, none, 0, 0⟩, rfl, fun w'' hk => ⟨⟨1, attr, y, none, 0, 0⟩, rfl, ⟨rfl, rfl, rfl, by simp, by simp, a0, a1, HY.out _ (K2.out.trans (hk.mono (by have := LT.out; omega))), Nat.le_refl _, by simp, fun _ => ⟨rfl, rfl⟩⟩, fun i hi => by simp [atomX] at hi⟩⟩, D2.out⟩
theorem progAtom_any (attr : Int) (a0 : -9223372036854775808 ≤ attr) (a1 : attr ≤ 9223372036854775807) (s : SC) (S : SetV) (w : World) (hv : SetAt w s.val S) (h1 : S.ints.length * 16 ≤ 140737488355328) (h2 : S.strs.length * 16 ≤ 140737488355328) :
  Calls Tryz.prog 25 #[.int .i64 attr, s.val] w fun r w' => (∃ d : EC, r = .returned d.val ∧ ExAt 1 w' d.val (atomX attr S)) ∧ Below w.heap.size w w' :=
 (progAtom_new attr a0 a1 s S w hv h1 h2).mono fun r w' h => ⟨by obtain ⟨⟨d, e, hk⟩, _⟩ := h; exact ⟨d, e, hk _ (Kept.refl _ _)⟩, h.2⟩
end Go.Proofs.YtlkcjhcmkaddaaaGreat
namespace Go.Proofs.YtlkcjhcmkaddaaaGreat
open Go.RowKit
def cntF (f : Nat) (n : Int) (y : ExV) : Int := if n < 100 then n + countX f y else n
theorem cnt_stop (f : Nat) : ∀ (l : List ExV) (n : Int), 100 ≤ n → l.foldl (cntF f) n = n
 | [], _, _ => rfl
 | y :: l, n, h => by
  rw [List.foldl_cons, show cntF f n y = n from by unfold cntF; rw [if_neg (by omega)]];exact cnt_stop f l n h
theorem countX_le : ∀ (f : Nat) (x : ExV), countX f x ≤ 100
 | 0, _ => by unfold countX; omega
 | f + 1, x => by unfold countX; omega
theorem countX_step (f : Nat) (x : ExV) : countX (f + 1) x = min (x.sub.foldl (cntF f) 1) 100 := rfl
theorem drop_getX (l : List ExV) (k : Nat) (h : k < l.length) : l.drop k = l.getD k noX :: l.drop (k + 1) := by
 rw [List.drop_eq_getElem_cons h, List.getD_eq_getElem?_getD, List.getElem?_eq_getElem h]
 rfl
theorem ecCells {w : World} {g : Nat} {t : TypeId} {x0 x1 x2 x3 x4 x5 x6 : Value} (h : w.heap[g]? = some (.cells #[x0, x1, x2, x3, x4, x5, x6] t (0, 0))) : w.cell? ⟨g, 0, none⟩ = some x0 ∧ w.cell? ⟨g, 1, none⟩ = some x1 ∧ w.cell? ⟨g, 2, none⟩ = some x2 ∧ w.cell? ⟨g, 3, none⟩ = some x3 ∧ w.cell? ⟨g, 4, none⟩ = some x4 ∧ w.cell? ⟨g, 5, none⟩ = some x5 ∧ w.cell? ⟨g, 6, none⟩ = some x6 :=
 ⟨cell_heap h 0, cell_heap h 1, cell_heap h 2, cell_heap h 3, cell_heap h 4, cell_heap h 5, cell_heap h 6⟩
set_option maxHeartbeats 4000000 in
set_option maxRecDepth 100000 in
theorem refCount_any : ∀ (f : Nat) (n : Nat) (x : ExV) (v : Value) (D : Int) (w : World), f ≤ 21 → D = 21 - (f : Int) → ExAt n w v x →
  Calls Tryz.prog 14 #[v, .int .i64 D] w fun r w' => r = .returned (.int .i64 (countX f x)) ∧ Below w.heap.size w w' := by
 intro f
 induction f with
 | zero =>
  intro n x v D w hf hD hx;obtain ⟨c, rfl, hc⟩ := hx.ec;have hD' : D = 21 := by omega
  subst hD';have B0 := hide ((Below.refl _ w).alloc (Nat.le_refl _) (Obj.cells #[.int .i64 c.k, .int .i64 c.t, .bool c.s.a, .slice c.s.p c.s.n c.s.c, .bool c.s.d, .slice c.s.q c.s.m c.s.e, .slice c.p c.n c.c] 28));clear hx hc hD;unfold EC.val;go_enter Tryz.func14, Tryz.ntmps14
  go_wp2
  go_ret
  exact ⟨rfl, B0.out⟩
 | succ f ih =>
  intro n x v D w hf hD hx;obtain ⟨m, rfl⟩ : ∃ m, n = m + 1 := by
   cases n with
   | zero => cases hx
   | succ m => exact ⟨m, rfl⟩
  obtain ⟨c, rfl, hc⟩ := hx.ec;have hD0 : 0 ≤ D := by omega
  have hD1 : D ≤ 20 := by omega
  have HX := hide hx;have HD := hide (show D + 1 = 21 - (f : Int) by omega);have IH := fun (y : ExV) (u : Value) (W : World) (h : ExAt m W u y) => hide (ih m y u (D + 1) W (by omega) HD.out h)
  have HN := hide hc.n;have big := hc.big;have room := hc.room;have B0 := hide ((Below.refl _ w).alloc (Nat.le_refl _) (Obj.cells #[.int .i64 c.k, .int .i64 c.t, .bool c.s.a, .slice c.s.p c.s.n c.s.c, .bool c.s.d, .slice c.s.q c.s.m c.s.e, .slice c.p c.n c.c] 28));have E0 := hide (heap_new w (Obj.cells #[.int .i64 c.k, .int .i64 c.t, .bool c.s.a, .slice c.s.p c.s.n c.s.c, .bool c.s.d, .slice c.s.q c.s.m c.s.e, .slice c.p c.n c.c] 28));have HC := hide (countX_step f x);generalize countX (f + 1) x = R at HC ⊢;clear hx hc ih hD hf;unfold EC.val at *;go_enter Tryz.func14, Tryz.ntmps14
  go_wp2
  go_loopw [5, 6] (fun a i wr => ∃ (k : Nat) (N : Int), a = .int .i64 N ∧ i = .int .i64 k ∧ k ≤ c.n ∧ 1 ≤ N ∧ N ≤ 200 ∧ Hid ((x.sub.drop k).foldl (cntF f) N = x.sub.foldl (cntF f) 1) ∧ Hid (Below w.heap.size w wr) ∧ Hid (wr.heap[w.heap.size]? = some (Obj.cells #[.int .i64 c.k, .int .i64 c.t, .bool c.s.a, .slice c.s.p c.s.n c.s.c, .bool c.s.d, .slice c.s.q c.s.m c.s.e, .slice c.p c.n c.c] 28 (0, 0)))) (fun _ i _ => c.n - (intOf i).toNat)
  case atStart => exact ⟨0, 1, rfl, rfl, by omega, by omega, by omega, hide rfl, B0, E0⟩
  case round =>
   clear B0 E0;obtain ⟨k, N, rfl, rfl, hk, hN0, hN1, HF, HB, HE⟩ := hrel;obtain ⟨c0, c1, c2, c3, c4, c5, c6⟩ := ecCells HE.out;by_cases hlt : k < c.n
   ·by_cases hN : N < 100
    ·have hk' : k < x.sub.length := by rw [← HN.out]; exact hlt
     obtain ⟨g, off, d, hp, hg, hd, hy⟩ := (ExAt.on HB.out _ HX.out).part k hk';have F1 := HF.out;rw [drop_getX _ _ hk', List.foldl_cons, show cntF f N (x.sub.getD k noX) = N + countX f (x.sub.getD k noX) from by unfold cntF; rw [if_pos hN]] at F1;have HF1 := hide F1;have X := IH _ _ _ hy;have q0 := countX_pos f (x.sub.getD k noX);have q1 := countX_le f (x.sub.getD k noX);generalize countX f (x.sub.getD k noX) = q at *;clear F1 HF hy IH HX;obtain ⟨d0, d1, d2, d3, d4, d5, d6⟩ := hd;unfold EC.val at X;rw [hp] at c6 HE ⊢
     go_wp2_with fail
     refine (unhide X).mono ?_;rintro r w2 ⟨rfl, b2⟩;have HB2 := hide (HB.out.trans (b2.mono HB.out.size));have HE2 := hide ((b2.block _ (lt_heap HE.out)).trans HE.out);clear X b2 HB HE c0 c1 c2 c3 c4 c5 c6 d0 d1 d2 d3 d4 d5 d6
     go_wp2
     refine ⟨⟨k + 1, N + q, rfl, by go_num, by omega, by omega, by omega, HF1, HB2, HE2⟩, by simp [intOf]; omega⟩
    ·have hN' : ¬ N < 100 := hN;have E : Hid (R = min N 100) := hide (by rw [HC.out, ← HF.out, cnt_stop f _ N (by omega)]);have hd' : decide (N < 100) = false := by simp; omega
     go_wp2
     go_ret
     exact ⟨ret_int E.out.symm, HB.out⟩
   ·have E : Hid (R = min N 100) := hide (by
     rw [HC.out, ← HF.out, List.drop_eq_nil_of_le (by have := HN.out; omega)]; rfl)
    have hge : decide ((k : Int) < (c.n : Int)) = false := by simp; omega
    go_wp2
    go_ret
    exact ⟨ret_int E.out.symm, HB.out⟩
def maxF (f : Nat) (n : Int) (y : ExV) : Int := max n (deepX f y)
theorem deepX_le : ∀ (f : Nat) (x : ExV), deepX f x ≤ 20
 | 0, _ => by unfold deepX; omega
 | f + 1, x => by unfold deepX; omega
theorem deepX_step (f : Nat) (x : ExV) : deepX (f + 1) x = min ((x.sub.take 100).foldl (maxF f) 0 + 1) 20 := rfl
theorem take_getD (l : List ExV) (k : Nat) (h : k < 100) : (l.take 100).getD k noX = l.getD k noX := by
 rw [List.getD_eq_getElem?_getD, List.getD_eq_getElem?_getD, List.getElem?_take, if_pos h]
set_option maxHeartbeats 4000000 in
set_option maxRecDepth 100000 in
theorem refDeep_any : ∀ (f : Nat) (n : Nat) (x : ExV) (v : Value) (D : Int) (w : World), f ≤ 21 → D = 21 - (f : Int) → ExAt n w v x →
  Calls Tryz.prog 15 #[v, .int .i64 D] w fun r w' => r = .returned (.int .i64 (deepX f x)) ∧ Below w.heap.size w w' := by
 intro f
 induction f with
 | zero =>
  intro n x v D w hf hD hx;obtain ⟨c, rfl, hc⟩ := hx.ec;have hD' : D = 21 := by omega
  subst hD';have B0 := hide ((Below.refl _ w).alloc (Nat.le_refl _) (Obj.cells #[.int .i64 c.k, .int .i64 c.t, .bool c.s.a, .slice c.s.p c.s.n c.s.c, .bool c.s.d, .slice c.s.q c.s.m c.s.e, .slice c.p c.n c.c] 28));clear hx hc hD;unfold EC.val;go_enter Tryz.func15, Tryz.ntmps15
  go_wp2
  go_ret
  exact ⟨rfl, B0.out⟩
 | succ f ih =>
  intro n x v D w hf hD hx;obtain ⟨m, rfl⟩ : ∃ m, n = m + 1 := by
   cases n with
   | zero => cases hx
   | succ m => exact ⟨m, rfl⟩
  obtain ⟨c, rfl, hc⟩ := hx.ec;have hD0 : 0 ≤ D := by omega
  have hD1 : D ≤ 20 := by omega
  have HX := hide hx;have HD := hide (show D + 1 = 21 - (f : Int) by omega);have IH := fun (y : ExV) (u : Value) (W : World) (h : ExAt m W u y) => hide (ih m y u (D + 1) W (by omega) HD.out h)
  have HN := hide hc.n;have big := hc.big;have room := hc.room;have B0 := hide ((Below.refl _ w).alloc (Nat.le_refl _) (Obj.cells #[.int .i64 c.k, .int .i64 c.t, .bool c.s.a, .slice c.s.p c.s.n c.s.c, .bool c.s.d, .slice c.s.q c.s.m c.s.e, .slice c.p c.n c.c] 28));have E0 := hide (heap_new w (Obj.cells #[.int .i64 c.k, .int .i64 c.t, .bool c.s.a, .slice c.s.p c.s.n c.s.c, .bool c.s.d, .slice c.s.q c.s.m c.s.e, .slice c.p c.n c.c] 28));have HC := hide (deepX_step f x);generalize deepX (f + 1) x = R at HC ⊢;clear hx hc ih hD hf;unfold EC.val at *;go_enter Tryz.func15, Tryz.ntmps15
  go_wp2
  go_loopw [5, 6] (fun a i wr => ∃ (k : Nat) (N : Int), a = .int .i64 N ∧ i = .int .i64 k ∧ k ≤ c.n ∧ 0 ≤ N ∧ N ≤ 20 ∧ Hid (((x.sub.take 100).drop k).foldl (maxF f) N = (x.sub.take 100).foldl (maxF f) 0) ∧ Hid (Below w.heap.size w wr) ∧ Hid (wr.heap[w.heap.size]? = some (Obj.cells #[.int .i64 c.k, .int .i64 c.t, .bool c.s.a, .slice c.s.p c.s.n c.s.c, .bool c.s.d, .slice c.s.q c.s.m c.s.e, .slice c.p c.n c.c] 28 (0, 0)))) (fun _ i _ => c.n - (intOf i).toNat)
  case atStart => exact ⟨0, 0, rfl, rfl, by omega, by omega, by omega, hide rfl, B0, E0⟩
  case round =>
   clear B0 E0;obtain ⟨k, N, rfl, rfl, hk, hN0, hN1, HF, HB, HE⟩ := hrel;obtain ⟨c0, c1, c2, c3, c4, c5, c6⟩ := ecCells HE.out;by_cases hlt : k < c.n
   ·by_cases hN : (k : Int) < 100
    ·have hk' : k < x.sub.length := by rw [← HN.out]; exact hlt
     obtain ⟨g, off, d, hp, hg, hd, hy⟩ := (ExAt.on HB.out _ HX.out).part k hk';have F1 := HF.out;rw [drop_getX _ _ (by rw [List.length_take]; omega), List.foldl_cons, take_getD _ _ (by omega), show maxF f N (x.sub.getD k noX) = max N (deepX f (x.sub.getD k noX)) from rfl] at F1;have HF1 := hide F1;have X := IH _ _ _ hy;have q0 := deepX_pos f (x.sub.getD k noX);have q1 := deepX_le f (x.sub.getD k noX);generalize deepX f (x.sub.getD k noX) = q at *;clear F1 HF hy IH HX;obtain ⟨d0, d1, d2, d3, d4, d5, d6⟩ := hd;unfold EC.val at X;rw [hp] at c6 HE ⊢
     go_wp2_with fail
     refine (unhide X).mono ?_;rintro r w2 ⟨rfl, b2⟩;have HB2 := hide (HB.out.trans (b2.mono HB.out.size));have HE2 := hide ((b2.block _ (lt_heap HE.out)).trans HE.out);clear X b2 HB HE c0 c1 c2 c3 c4 c5 c6 d0 d1 d2 d3 d4 d5 d6
     go_wp2
     refine ⟨⟨k + 1, max N q, rfl, by go_num, by omega, by omega, by omega, HF1, HB2, HE2⟩, by simp [intOf]; omega⟩
    ·have E : Hid (R = min (N + 1) 20) := hide (by
      rw [HC.out, ← HF.out, List.drop_eq_nil_of_le (by rw [List.length_take]; omega)]; rfl)
     have hd' : decide ((k : Int) < 100) = false := by simp; omega
     go_wp2
     go_ret
     exact ⟨ret_int E.out.symm, HB.out⟩
   ·have E : Hid (R = min (N + 1) 20) := hide (by
     rw [HC.out, ← HF.out, List.drop_eq_nil_of_le (by rw [List.length_take]; have := HN.out; omega)]; rfl)
    have hge : decide ((k : Int) < (c.n : Int)) = false := by simp; omega
    go_wp2
    go_ret
    exact ⟨ret_int E.out.symm, HB.out⟩
end Go.Proofs.YtlkcjhcmkaddaaaGreat
namespace Go.Proofs.YtlkcjhcmkaddaaaGreat
open Go.RowKit
def setsX : Nat → ExV → Bool
 | 0, _ => true
 | n + 1, x => fewB x.set && x.sub.all (setsX n)
def fewX (n : Nat) (x : ExV) : Bool := (decide (countX 21 x < 100) && decide (deepX 21 x < 20)) && setsX n x
theorem set_rowE {w : World} {s : SC} {A : SetV} (h : SetAt w s.val A) (n : Nat) (hn : n = w.heap.size) : SetsAt (w.alloc (.cells #[.bool s.a, .slice s.p s.n s.c, .bool s.d, .slice s.q s.m s.e] 25)) (.slice (some ⟨n, 0, none⟩) 1 1) [A] := by
 subst hn;obtain ⟨x, y, z, t⟩ := h.scForm;have := sets_one (vi := .slice s.p s.n s.c) (vs := .slice s.q s.m s.e) (A := A) (w := w) (by rw [← x, ← z]; exact h) _ rfl;rw [x, z];exact this
theorem allX_step (n : Nat) (l : List ExV) (k : Nat) (h : k < l.length) : (l.drop k).all (setsX n) = (setsX n (l.getD k noX) && (l.drop (k + 1)).all (setsX n)) := by
 rw [drop_getX l k h, List.all_cons]
set_option maxHeartbeats 4000000 in
set_option maxRecDepth 100000 in
theorem refSets_any : ∀ (n : Nat) (x : ExV) (v : Value) (w : World), ExAt n w v x →
  Calls Tryz.prog 16 #[v] w fun r w' => r = .returned (.bool (setsX n x)) ∧ Below w.heap.size w w' := by
 intro n
 induction n with
 | zero => intro x v w h; cases h
 | succ n ih =>
  intro x v w hx;obtain ⟨c, rfl, hc⟩ := hx.ec;have HX := hide hx;have IH := fun (y : ExV) (u : Value) (W : World) (h : ExAt n W u y) => hide (ih y u W h)
  have HN := hide hc.n;have big := hc.big;have room := hc.room;have b0 := (Below.refl _ w).alloc (Nat.le_refl _) (Obj.cells #[.int .i64 c.k, .int .i64 c.t, .bool c.s.a, .slice c.s.p c.s.n c.s.c, .bool c.s.d, .slice c.s.q c.s.m c.s.e, .slice c.p c.n c.c] 28);have FW := hide (refFew_any _ _ _ (set_rowE (hc.s.on b0) (w.heap.size + 1) (by simp)));have b1 := b0.alloc b0.size (Obj.cells #[.bool c.s.a, .slice c.s.p c.s.n c.s.c, .bool c.s.d, .slice c.s.q c.s.m c.s.e] 25);have E1 := hide (((Below.refl _ _).alloc (Nat.le_refl _) (Obj.cells #[.bool c.s.a, .slice c.s.p c.s.n c.s.c, .bool c.s.d, .slice c.s.q c.s.m c.s.e] 25)).block _ (lt_heap (heap_new w (Obj.cells #[.int .i64 c.k, .int .i64 c.t, .bool c.s.a, .slice c.s.p c.s.n c.s.c, .bool c.s.d, .slice c.s.q c.s.m c.s.e, .slice c.p c.n c.c] 28)) ) |>.trans (heap_new w (Obj.cells #[.int .i64 c.k, .int .i64 c.t, .bool c.s.a, .slice c.s.p c.s.n c.s.c, .bool c.s.d, .slice c.s.q c.s.m c.s.e, .slice c.p c.n c.c] 28)));have B1 := hide b1;have HC : Hid (setsX (n + 1) x = (fewB x.set && x.sub.all (setsX n))) := hide rfl;rw [show ([x.set] : List SetV).all fewB = fewB x.set by simp] at FW;generalize setsX (n + 1) x = R at HC ⊢;generalize fewB x.set = q at HC FW;clear hx hc ih b0 b1;unfold EC.val at *;go_enter Tryz.func16, Tryz.ntmps16
  go_wp2_with fail
  refine (unhide FW).mono ?_;rintro r w2 ⟨rfl, rfl⟩;cases q
  ·have E : Hid (R = false) := hide (by rw [HC.out, Bool.false_and]);clear FW
   go_wp2
   go_ret
   exact ⟨ret_bool E.out.symm, B1.out⟩
  ·have HC1 := hide (HC.out.trans (Bool.true_and _));clear FW HC;generalize (w.alloc (Obj.cells #[.int .i64 c.k, .int .i64 c.t, .bool c.s.a, .slice c.s.p c.s.n c.s.c, .bool c.s.d, .slice c.s.q c.s.m c.s.e, .slice c.p c.n c.c] 28)).alloc (Obj.cells #[.bool c.s.a, .slice c.s.p c.s.n c.s.c, .bool c.s.d, .slice c.s.q c.s.m c.s.e] 25) = w1 at E1 B1 ⊢
   go_wp2
   go_loopw [3] (fun i wr => ∃ k : Nat, i = .int .i64 k ∧ k ≤ c.n ∧ Hid ((x.sub.drop k).all (setsX n) = x.sub.all (setsX n)) ∧ Hid (Below w.heap.size w wr) ∧ Hid (wr.heap[w.heap.size]? = some (Obj.cells #[.int .i64 c.k, .int .i64 c.t, .bool c.s.a, .slice c.s.p c.s.n c.s.c, .bool c.s.d, .slice c.s.q c.s.m c.s.e, .slice c.p c.n c.c] 28 (0, 0)))) (fun i _ => c.n - (intOf i).toNat)
   case atStart => exact ⟨0, rfl, by omega, hide rfl, B1, E1⟩
   case round =>
    clear B1 E1;obtain ⟨k, rfl, hk, HF, HB, HE⟩ := hrel;obtain ⟨c0, c1, c2, c3, c4, c5, c6⟩ := ecCells HE.out;by_cases hlt : k < c.n
    ·have hk' : k < x.sub.length := by rw [← HN.out]; exact hlt
     obtain ⟨g, off, d, hp, hg, hd, hy⟩ := (ExAt.on HB.out _ HX.out).part k hk';have F1 := HF.out;rw [allX_step n _ k hk'] at F1;have HF1 := hide F1;have X := IH _ _ _ hy;generalize setsX n (x.sub.getD k noX) = q at *;clear F1 HF hy IH HX;obtain ⟨d0, d1, d2, d3, d4, d5, d6⟩ := hd;unfold EC.val at X;rw [hp] at c6 HE ⊢
     go_wp2_with fail
     refine (unhide X).mono ?_;rintro r w2 ⟨rfl, b2⟩;have HB2 := hide (HB.out.trans (b2.mono HB.out.size));have HE2 := hide ((b2.block _ (lt_heap HE.out)).trans HE.out);clear X b2 HB HE c0 c1 c2 c3 c4 c5 c6 d0 d1 d2 d3 d4 d5 d6;cases q
     ·have E : Hid (R = false) := hide (by rw [HC1.out, ← HF1.out, Bool.false_and])
      go_wp2
      go_ret
      exact ⟨ret_bool E.out.symm, HB2.out⟩
     ·have HF2 := hide ((Bool.true_and _).symm.trans HF1.out)
      go_wp2
      exact ⟨⟨k + 1, by go_num, by omega, HF2, HB2, HE2⟩, by simp [intOf]; omega⟩
    ·have E : Hid (R = true) := hide (by
      rw [HC1.out, ← HF.out, List.drop_eq_nil_of_le (by have := HN.out; omega)]; rfl)
     have hge : decide ((k : Int) < (c.n : Int)) = false := by simp; omega
     go_wp2
     go_ret
     exact ⟨ret_bool E.out.symm, HB.out⟩
set_option maxHeartbeats 4000000 in
set_option maxRecDepth 100000 in
theorem refFewX_any (n : Nat) (x : ExV) (v : Value) (w : World) (hx : ExAt n w v x) :
  Calls Tryz.prog 5 #[v] w fun r w' => r = .returned (.bool (fewX n x)) ∧ Below w.heap.size w w' := by
 have CC := fun (W : World) (hb : Below w.heap.size w W) => hide (refCount_any 21 n x v 0 W (by omega) (by omega) (ExAt.on hb _ hx))
 have CD := fun (W : World) (hb : Below w.heap.size w W) => hide (refDeep_any 21 n x v 0 W (by omega) (by omega) (ExAt.on hb _ hx))
 have CS := fun (W : World) (hb : Below w.heap.size w W) => hide (refSets_any n x v W (ExAt.on hb _ hx))
 have HC : Hid (fewX n x = ((decide (countX 21 x < 100) && decide (deepX 21 x < 20)) && setsX n x)) := hide rfl;generalize fewX n x = R at HC ⊢;generalize countX 21 x = p at HC CC;generalize deepX 21 x = q at HC CD;generalize setsX n x = s at HC CS;obtain ⟨c, rfl, hc⟩ := hx.ec;have b0 := (Below.refl _ w).alloc (Nat.le_refl _) (Obj.cells #[.int .i64 c.k, .int .i64 c.t, .bool c.s.a, .slice c.s.p c.s.n c.s.c, .bool c.s.d, .slice c.s.q c.s.m c.s.e, .slice c.p c.n c.c] 28);have E0 := heap_new w (Obj.cells #[.int .i64 c.k, .int .i64 c.t, .bool c.s.a, .slice c.s.p c.s.n c.s.c, .bool c.s.d, .slice c.s.q c.s.m c.s.e, .slice c.p c.n c.c] 28);have HB0 := hide b0;have HE0 := hide E0;have X := CC _ b0;clear hx hc b0 E0;unfold EC.val at *;go_enter Tryz.func5, Tryz.ntmps5
 go_wp2_with fail
 refine (unhide X).mono ?_;rintro r w1 ⟨rfl, b1⟩;have HB1 := hide (HB0.out.trans (b1.mono HB0.out.size));have HE1 := hide ((b1.block _ (lt_heap HE0.out)).trans HE0.out);clear X b1 HB0 HE0 CC;by_cases hp : p < 100
 ·have hp' : decide (100 ≤ p) = false := by simp; omega
  obtain ⟨c0, c1, c2, c3, c4, c5, c6⟩ := ecCells HE1.out;have Y := CD _ HB1.out
  go_wp2_with fail
  refine (unhide Y).mono ?_;rintro r w2 ⟨rfl, b2⟩;have HB2 := hide (HB1.out.trans (b2.mono HB1.out.size));have HE2 := hide ((b2.block _ (lt_heap HE1.out)).trans HE1.out);clear Y b2 HB1 HE1 CD c0 c1 c2 c3 c4 c5 c6;by_cases hq : q < 20
  ·have hq' : decide (20 ≤ q) = false := by simp; omega
   obtain ⟨c0, c1, c2, c3, c4, c5, c6⟩ := ecCells HE2.out;have Z := CS _ HB2.out;have E : Hid (R = s) := hide (by rw [HC.out, decide_eq_true hp, decide_eq_true hq]; rfl)
   go_wp2_with fail
   refine (unhide Z).mono ?_;rintro r w3 ⟨rfl, b3⟩;have HB3 := hide (HB2.out.trans (b3.mono HB2.out.size));clear Z b3
   go_wp2
   go_ret
   exact ⟨ret_bool E.out.symm, HB3.out⟩
  ·have hq' : decide (20 ≤ q) = true := by simp; omega
   have E : Hid (R = false) := hide (by rw [HC.out, decide_eq_false hq, Bool.and_false, Bool.false_and])
   go_wp2
   go_ret
   exact ⟨ret_bool E.out.symm, HB2.out⟩
 ·have hp' : decide (100 ≤ p) = true := by simp; omega
  have E : Hid (R = false) := hide (by rw [HC.out, decide_eq_false hp, Bool.false_and, Bool.false_and])
  go_wp2
  go_ret
  exact ⟨ret_bool E.out.symm, HB1.out⟩
set_option maxHeartbeats 4000000 in
set_option maxRecDepth 100000 in
theorem refFits_any (n : Nat) (x : ExV) (v : Value) (w : World) (hx : ExAt n w v x) :
  Calls Tryz.prog 41 #[v] w fun r w' => r = .returned (.bool (fitsX x)) ∧ Below w.heap.size w w' := by
 have CC := fun (W : World) (hb : Below w.heap.size w W) => hide (refCount_any 21 n x v 0 W (by omega) (by omega) (ExAt.on hb _ hx))
 have CD := fun (W : World) (hb : Below w.heap.size w W) => hide (refDeep_any 21 n x v 0 W (by omega) (by omega) (ExAt.on hb _ hx))
 have HC : Hid (fitsX x = (decide (countX 21 x ≤ 40) && decide (deepX 21 x ≤ 8))) := hide rfl;generalize fitsX x = R at HC ⊢;generalize countX 21 x = p at HC CC;generalize deepX 21 x = q at HC CD;obtain ⟨c, rfl, hc⟩ := hx.ec;have b0 := (Below.refl _ w).alloc (Nat.le_refl _) (Obj.cells #[.int .i64 c.k, .int .i64 c.t, .bool c.s.a, .slice c.s.p c.s.n c.s.c, .bool c.s.d, .slice c.s.q c.s.m c.s.e, .slice c.p c.n c.c] 28);have E0 := heap_new w (Obj.cells #[.int .i64 c.k, .int .i64 c.t, .bool c.s.a, .slice c.s.p c.s.n c.s.c, .bool c.s.d, .slice c.s.q c.s.m c.s.e, .slice c.p c.n c.c] 28);have HB0 := hide b0;have HE0 := hide E0;have X := CC _ b0;clear hx hc b0 E0;unfold EC.val at *;go_enter Tryz.func41, Tryz.ntmps41
 go_wp2_with fail
 refine (unhide X).mono ?_;rintro r w1 ⟨rfl, b1⟩;have HB1 := hide (HB0.out.trans (b1.mono HB0.out.size));have HE1 := hide ((b1.block _ (lt_heap HE0.out)).trans HE0.out);clear X b1 HB0 HE0 CC;by_cases hp : p ≤ 40
 ·have hp' : decide (p ≤ 40) = true := by simp; omega
  obtain ⟨c0, c1, c2, c3, c4, c5, c6⟩ := ecCells HE1.out;have Y := CD _ HB1.out;have E : Hid (R = decide (q ≤ 8)) := hide (by rw [HC.out, decide_eq_true hp]; rfl)
  go_wp2_with fail
  refine (unhide Y).mono ?_;rintro r w2 ⟨rfl, b2⟩;have HB2 := hide (HB1.out.trans (b2.mono HB1.out.size));clear Y b2
  go_wp2
  go_ret
  exact ⟨ret_bool E.out.symm, HB2.out⟩
 ·have hp' : decide (p ≤ 40) = false := by simp; omega
  have E : Hid (R = false) := hide (by rw [HC.out, decide_eq_false hp, Bool.false_and])
  go_wp2
  go_ret
  exact ⟨ret_bool E.out.symm, HB1.out⟩
end Go.Proofs.YtlkcjhcmkaddaaaGreat
namespace Go.Proofs.YtlkcjhcmkaddaaaGreat
open Go.RowKit
set_option maxHeartbeats 4000000 in
set_option maxRecDepth 100000 in
theorem refSame_any (v u : Value) (A B : SetV) (w : World) (hv : SetAt w v A) (hu : SetAt w u B) :
  Calls Tryz.prog 49 #[v, u] w fun r w' => r = .returned (.bool (sameB A B)) ∧ Below w.heap.size w w' := by
 obtain ⟨vi, vs, rfl, hI, hS⟩ := hv;obtain ⟨ui, us, rfl, hJ, hT⟩ := hu;obtain ⟨ai, ci, rfl⟩ := hI.form;obtain ⟨aq, cq, rfl⟩ := hS.form;obtain ⟨bi, di, rfl⟩ := hJ.form;obtain ⟨bq, dq, rfl⟩ := hT.form;obtain ⟨sa, si, sc, ss⟩ := A;obtain ⟨ta, ti, tc, ts⟩ := B;dsimp only at *;have HI := hide hI;have HS := hide hS;have HJ := hide hJ;have HT := hide hT;have nIle := hI.2.1;have nSle := hS.2.1;have nJle := hJ.2.1;have nTle := hT.2.1;clear hI hS hJ hT;unfold sameB;dsimp only;have lI := rngEqB_len si ti;have lS := strEqB_len ss ts;obtain ⟨nI, hnI⟩ : ∃ n : Nat, n = si.length := ⟨_, rfl⟩
 obtain ⟨nS, hnS⟩ : ∃ n : Nat, n = ss.length := ⟨_, rfl⟩
 obtain ⟨nJ, hnJ⟩ : ∃ n : Nat, n = ti.length := ⟨_, rfl⟩
 obtain ⟨nT, hnT⟩ : ∃ n : Nat, n = ts.length := ⟨_, rfl⟩
 rw [← hnI] at nIle lI ⊢;rw [← hnS] at nSle lS ⊢;rw [← hnJ] at nJle lI ⊢;rw [← hnT] at nTle lS ⊢;have HnI := hide hnI;have HnS := hide hnS;have HnJ := hide hnJ;have HnT := hide hnT;have LI := hide lI;have LS := hide lS;clear hnI hnS hnJ hnT lI lS;have ba := fun (o1 o2 : Obj) => hide (two_boxes w o1 o2)
 have hta : ta = sa ∨ ta = !sa := by cases ta <;> cases sa <;> simp
 rcases hta with rfl | rfl
 ·have htc : tc = sc ∨ tc = !sc := by cases tc <;> cases sc <;> simp
  rcases htc with rfl | rfl
  ·by_cases eI : nI = nJ
   ·by_cases eS : nS = nT
    ·subst eI;subst eS;have b1 : ((nI : Int) != (nI : Int)) = false := by simp
     have b2 : ((nS : Int) != (nS : Int)) = false := by simp
     go_enter Tryz.func49, Tryz.ntmps49
     go_wp2
     obtain ⟨e1, e2, e3⟩ := (ba (.cells #[.bool ta, .slice ai nI ci, .bool tc, .slice aq nS cq] 25) (.cells #[.bool ta, .slice bi nI di, .bool tc, .slice bq nS dq] 25)).out;have E1 := hide e1;have E2 := hide e2;have E3 := hide e3;clear e1 e2 e3 ba;go_loopw [5] (fun i wr => ∃ k : Nat, i = .int .i64 k ∧ k ≤ nI ∧ Hid (rngEqB (si.drop k) (ti.drop k) = rngEqB si ti) ∧ Hid (wr.heap[w.heap.size]? = some (.cells #[.bool ta, .slice ai nI ci, .bool tc, .slice aq nS cq] 25 (0, 0))) ∧ Hid (wr.heap[w.heap.size + 1]? = some (.cells #[.bool ta, .slice bi nI di, .bool tc, .slice bq nS dq] 25 (0, 0))) ∧ Hid (Below w.heap.size w wr)) (fun i _ => nI - (intOf i).toNat)
     case atStart => exact ⟨0, rfl, by omega, hide rfl, E1, E2, E3⟩
     case round =>
      clear E1 E2 E3;obtain ⟨k, rfl, hk, HG, H1, H2, HB⟩ := hrel;have c1 := cell_heap H1.out 1;have c3 := cell_heap H1.out 3;have d1 := cell_heap H2.out 1;have d3 := cell_heap H2.out 3;simp only [List.getElem?_toArray, List.getElem?_cons_zero, List.getElem?_cons_succ] at c1 c3 d1 d3;by_cases hlt : k < nI
      ·have hk1 : k < si.length := by rw [← HnI.out]; exact hlt
       have hk2 : k < ti.length := by rw [← HnJ.out]; exact hlt
       obtain ⟨b, off, rfl, hb, x0, x1⟩ := (HI.out.on HB.out).at.2 k hk1;obtain ⟨b', off', rfl, hb', y0, y1⟩ := (HJ.out.on HB.out).at.2 k hk2;have G0 := HG.out;rw [drop_getD si k (0, 0) hk1, drop_getD ti k (0, 0) hk2] at G0;generalize si.getD k (0, 0) = r at *;generalize ti.getD k (0, 0) = q at *;simp only [rngEqB] at G0;have G1 := hide G0;clear G0 HG;cases f1 : (r.1 == q.1)
       ·have G2 : Hid (rngEqB si ti = false) := hide (by rw [← G1.out, f1]; rfl);clear G1
        go_wp2
        go_quiet (fail)
        go_wp2
        go_ret
        exact ⟨ret_bool (by rw [G2.out]; simp), below_drewN HB.out _⟩
       ·cases f2 : (r.2 == q.2)
        ·have G2 : Hid (rngEqB si ti = false) := hide (by rw [← G1.out, f1, f2]; rfl);clear G1
         go_wp2
         go_quiet (fail)
         go_wp2
         go_ret
         exact ⟨ret_bool (by rw [G2.out]; simp), below_drewN HB.out _⟩
        ·have G2 : Hid (rngEqB (si.drop (k + 1)) (ti.drop (k + 1)) = rngEqB si ti) := hide (by rw [← G1.out, f1, f2]; rfl);clear G1
         go_wp2
         go_quiet (fail)
         go_wp2
         exact ⟨⟨k + 1, by go_num, by omega, G2, H1, H2, hide (below_drewN HB.out _)⟩, by simp [intOf]; omega⟩
      ·have hge : (nI : Int) ≤ (k : Int) := by omega
       have G2 : Hid (rngEqB si ti = true) := hide (by
        rw [← HG.out, List.drop_eq_nil_of_le (by have := HnI.out; omega), List.drop_eq_nil_of_le (by have := HnJ.out; omega)]; rfl)
       clear HG
       go_wp2
       go_loopw [6] (fun i wr => ∃ k : Nat, i = .int .i64 k ∧ k ≤ nS ∧ Hid (strEqB (ss.drop k) (ts.drop k) = strEqB ss ts) ∧ Hid (wr.heap[w.heap.size]? = some (.cells #[.bool ta, .slice ai nI ci, .bool tc, .slice aq nS cq] 25 (0, 0))) ∧ Hid (wr.heap[w.heap.size + 1]? = some (.cells #[.bool ta, .slice bi nI di, .bool tc, .slice bq nS dq] 25 (0, 0))) ∧ Hid (Below w.heap.size w wr)) (fun i _ => nS - (intOf i).toNat)
       case atStart => exact ⟨0, rfl, by omega, hide rfl, H1, H2, HB⟩
       case round =>
        clear H1 H2 HB c1 c3 d1 d3 hge hlt hk;obtain ⟨j, rfl, hj, HG, H1, H2, HB⟩ := hrel;have c1 := cell_heap H1.out 1;have c3 := cell_heap H1.out 3;have d1 := cell_heap H2.out 1;have d3 := cell_heap H2.out 3;simp only [List.getElem?_toArray, List.getElem?_cons_zero, List.getElem?_cons_succ] at c1 c3 d1 d3;by_cases hlt : j < nS
        ·have hj1 : j < ss.length := by rw [← HnS.out]; exact hlt
         have hj2 : j < ts.length := by rw [← HnT.out]; exact hlt
         obtain ⟨b, off, rfl, hb, x0⟩ := (HS.out.on HB.out).at.2 j hj1;obtain ⟨b', off', rfl, hb', y0⟩ := (HT.out.on HB.out).at.2 j hj2;have G0 := HG.out;rw [drop_getD ss j ⟨#[]⟩ hj1, drop_getD ts j ⟨#[]⟩ hj2] at G0;generalize ss.getD j ⟨#[]⟩ = r at *;generalize ts.getD j ⟨#[]⟩ = q at *;simp only [strEqB] at G0;have G1 := hide G0;clear G0 HG;cases f1 : (r.toList == q.toList)
         ·have G3 : Hid (strEqB ss ts = false) := hide (by rw [← G1.out, f1]; rfl);clear G1
          go_wp2
          go_quiet (fail)
          go_wp2
          go_ret
          exact ⟨ret_bool (by rw [G3.out]; simp), below_drewN HB.out _⟩
         ·have G3 : Hid (strEqB (ss.drop (j + 1)) (ts.drop (j + 1)) = strEqB ss ts) := hide (by rw [← G1.out, f1]; rfl);clear G1
          go_wp2
          go_quiet (fail)
          go_wp2
          exact ⟨⟨j + 1, by go_num, by omega, G3, H1, H2, hide (below_drewN HB.out _)⟩, by simp [intOf]; omega⟩
        ·have hge : (nS : Int) ≤ (j : Int) := by omega
         have G3 : Hid (strEqB ss ts = true) := hide (by
          rw [← HG.out, List.drop_eq_nil_of_le (by have := HnS.out; omega), List.drop_eq_nil_of_le (by have := HnT.out; omega)]; rfl)
         clear HG
         go_wp2
         go_ret
         exact ⟨ret_bool (by rw [G2.out, G3.out]; simp), HB.out⟩
    ·have b2 : ((nS : Int) != (nT : Int)) = true := by rw [bne_iff_ne]; omega
     have G := hide (LS.out eS);subst eI;go_enter Tryz.func49, Tryz.ntmps49
     go_wp2
     go_ret
     exact ⟨ret_bool (by rw [G.out]; simp), (ba _ _).out.2.2⟩
   ·have b1 : ((nI : Int) != (nJ : Int)) = true := by rw [bne_iff_ne]; omega
    have G := hide (LI.out eI);go_enter Tryz.func49, Tryz.ntmps49
    go_wp2
    go_ret
    exact ⟨ret_bool (by rw [G.out]; simp), (ba _ _).out.2.2⟩
  ·go_enter Tryz.func49, Tryz.ntmps49
   go_wp2
   go_ret
   exact ⟨ret_bool (by cases sc <;> simp), (ba _ _).out.2.2⟩
 ·go_enter Tryz.func49, Tryz.ntmps49
  go_wp2
  go_ret
  exact ⟨ret_bool (by cases sa <;> simp), (ba _ _).out.2.2⟩
end Go.Proofs.YtlkcjhcmkaddaaaGreat
