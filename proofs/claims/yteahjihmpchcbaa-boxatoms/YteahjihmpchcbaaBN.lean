/-
  'awake' of the fourth layer, out of the program's contracts.
-/
import Derived.Test.YteahjihmpchcbaaGD
set_option linter.unusedSimpArgs false
set_option linter.unusedVariables false
namespace Go.Proofs.Yteahjihmpchcbaa
open Go.RowKit

theorem setA_of {w : World} {y : Value} (h : RngsAt w y [(1, 5)]) : SetAt w (.agg #[.bool false, y, .bool false, .slice none 0 0]) sA := ⟨_, _, rfl, h, strs_none _⟩
theorem setB_of {w : World} {y : Value} (h : StrsAt w y [xS]) : SetAt w (.agg #[.bool false, .slice none 0 0, .bool false, y]) sB := ⟨_, _, rfl, rngs_none _, h⟩
section
variable {ops : Array Oper} {Q : Exit → Act → World → Prop} {S : World → Prop} {o : Oper} {a : Act}
theorem yl_zeroEv (hw : Region.wanted o (yielded ops a.tmps) = true) (ho : o.op = .build 31 #[]) : YieldsIf Try.prog ops S o (evVal e0) a :=
  Or.inl ⟨hw, fun w _ => by
    simp only [execOp, ho, evVal, e0]
    go_simp⟩
theorem yl_zeroBx (hw : Region.wanted o (yielded ops a.tmps) = true) (ho : o.op = .build 27 #[]) : YieldsIf Try.prog ops S o (bxVal SC.zero SC.zero SC.zero SC.zero) a :=
  Or.inl ⟨hw, fun w _ => by
    simp only [execOp, ho, bxVal, SC.zero]
    go_simp⟩
theorem wl_rowA {rest : List Oper} {w : World} (hw : Region.wanted o (yielded ops a.tmps) = true) (x : Operand) (ho : o.op = .buildSlice 22 1 #[(0, x)]) (hx : a.eval x = .agg #[.int .i64 1, .int .i64 5])
    (h : ∀ W p c, RngsAt W (.slice p 1 c) [(1, 5)] → Below w.heap.size w W → wpList Try.prog ops Q rest (a.put o.dst (.slice p 1 c)) W) : wpList Try.prog ops Q (o :: rest) a w := by
  refine wl_run hw (.slice (some ⟨w.heap.size, 0, none⟩) 1 1) (w.alloc (.cells #[.int .i64 1, .int .i64 5] 55)) ?_ (h _ _ _ (rngs_new w _ [(1, 5)] rfl (fun r hr => by simp at hr; rw [hr]; dsimp only; omega) (by simp) _ rfl 1 1 rfl) ((Below.refl _ w).alloc (Nat.le_refl _) _))
  simp only [execOp, ho, List.map_toArray, List.map_cons, List.map_nil, hx]
  go_simp
theorem wl_rowB {rest : List Oper} {w : World} (hw : Region.wanted o (yielded ops a.tmps) = true) (ho : o.op = .buildSlice 23 1 #[(0, .const (.string ⟨#[120]⟩))])
    (h : ∀ W p c, StrsAt W (.slice p 1 c) [xS] → Below w.heap.size w W → wpList Try.prog ops Q rest (a.put o.dst (.slice p 1 c)) W) : wpList Try.prog ops Q (o :: rest) a w := by
  refine wl_run hw (.slice (some ⟨w.heap.size, 0, none⟩) 1 1) (w.alloc (.cells #[.string xS] 9)) ?_ (h _ _ _ (strs_new w _ rfl) ((Below.refl _ w).alloc (Nat.le_refl _) _))
  have he : a.eval (.const (.string ⟨#[120]⟩)) = .string xS := rfl
  simp only [execOp, ho, List.map_toArray, List.map_cons, List.map_nil, he]
  go_simp
set_option maxHeartbeats 1000000 in
set_option maxRecDepth 100000 in
theorem rn_storeEv {w : World} (x y : Operand) (ho : o.op = .store 31 x y) {q : Nat} {e z : EvV} (hx : a.eval x = .pointer (some ⟨q, 0, none⟩)) (hy : a.eval y = evVal e) (hq : EvIn w q z) :
    (execOp a.eval o).run Try.prog w = .ok .skip (((((((((((((w).setCell ⟨q, 0, none⟩ (.int .i64 e.v0.1)).setCell ⟨q, 1, none⟩ (.int .i64 e.v0.2.1)).setCell ⟨q, 2, none⟩ (.string e.v0.2.2)).setCell ⟨q, 3, none⟩ (.int .i64 e.v1.1)).setCell ⟨q, 4, none⟩ (.int .i64 e.v1.2.1)).setCell ⟨q, 5, none⟩ (.string e.v1.2.2)).setCell ⟨q, 6, none⟩ (.int .i64 e.v2.1)).setCell ⟨q, 7, none⟩ (.int .i64 e.v2.2.1)).setCell ⟨q, 8, none⟩ (.string e.v2.2.2)).setCell ⟨q, 9, none⟩ (.int .i64 e.v3.1)).setCell ⟨q, 10, none⟩ (.int .i64 e.v3.2.1)).setCell ⟨q, 11, none⟩ (.string e.v3.2.2)) := by
  obtain ⟨c0, c1, c2, c3, c4, c5, c6, c7, c8, c9, c10, c11⟩ := hq.cells
  have z0 := frozen_heap hq 0
  have z1 := frozen_heap hq 1
  have z2 := frozen_heap hq 2
  have z3 := frozen_heap hq 3
  have z4 := frozen_heap hq 4
  have z5 := frozen_heap hq 5
  have z6 := frozen_heap hq 6
  have z7 := frozen_heap hq 7
  have z8 := frozen_heap hq 8
  have z9 := frozen_heap hq 9
  have z10 := frozen_heap hq 10
  have z11 := frozen_heap hq 11
  simp only [execOp, ho, hx, hy, evVal]
  go_simp
theorem put_ev0 {w : World} {q : Nat} {v0 v1 v2 v3 : Va} (x : Va) (h : EvIn w q ⟨v0, v1, v2, v3⟩) : EvIn ((((w).setCell ⟨q, 0, none⟩ (.int .i64 x.1)).setCell ⟨q, 1, none⟩ (.int .i64 x.2.1)).setCell ⟨q, 2, none⟩ (.string x.2.2)) q ⟨x, v1, v2, v3⟩ ∧ In1 w ((((w).setCell ⟨q, 0, none⟩ (.int .i64 x.1)).setCell ⟨q, 1, none⟩ (.int .i64 x.2.1)).setCell ⟨q, 2, none⟩ (.string x.2.2)) q := by
  refine ⟨?_, ((in1_setCell _ _ _ _).trans (in1_setCell _ _ _ _)).trans (in1_setCell _ _ _ _)⟩
  unfold EvIn at h
  have h0 := heap_setCell (i := 0) (.int .i64 x.1) h
  have h1 := heap_setCell (i := 1) (.int .i64 x.2.1) h0
  have h2 := heap_setCell (i := 2) (.string x.2.2) h1
  exact h2
theorem put_ev1 {w : World} {q : Nat} {v0 v1 v2 v3 : Va} (x : Va) (h : EvIn w q ⟨v0, v1, v2, v3⟩) : EvIn ((((w).setCell ⟨q, 3, none⟩ (.int .i64 x.1)).setCell ⟨q, 4, none⟩ (.int .i64 x.2.1)).setCell ⟨q, 5, none⟩ (.string x.2.2)) q ⟨v0, x, v2, v3⟩ ∧ In1 w ((((w).setCell ⟨q, 3, none⟩ (.int .i64 x.1)).setCell ⟨q, 4, none⟩ (.int .i64 x.2.1)).setCell ⟨q, 5, none⟩ (.string x.2.2)) q := by
  refine ⟨?_, ((in1_setCell _ _ _ _).trans (in1_setCell _ _ _ _)).trans (in1_setCell _ _ _ _)⟩
  unfold EvIn at h
  have h0 := heap_setCell (i := 3) (.int .i64 x.1) h
  have h1 := heap_setCell (i := 4) (.int .i64 x.2.1) h0
  have h2 := heap_setCell (i := 5) (.string x.2.2) h1
  exact h2
theorem put_ev2 {w : World} {q : Nat} {v0 v1 v2 v3 : Va} (x : Va) (h : EvIn w q ⟨v0, v1, v2, v3⟩) : EvIn ((((w).setCell ⟨q, 6, none⟩ (.int .i64 x.1)).setCell ⟨q, 7, none⟩ (.int .i64 x.2.1)).setCell ⟨q, 8, none⟩ (.string x.2.2)) q ⟨v0, v1, x, v3⟩ ∧ In1 w ((((w).setCell ⟨q, 6, none⟩ (.int .i64 x.1)).setCell ⟨q, 7, none⟩ (.int .i64 x.2.1)).setCell ⟨q, 8, none⟩ (.string x.2.2)) q := by
  refine ⟨?_, ((in1_setCell _ _ _ _).trans (in1_setCell _ _ _ _)).trans (in1_setCell _ _ _ _)⟩
  unfold EvIn at h
  have h0 := heap_setCell (i := 6) (.int .i64 x.1) h
  have h1 := heap_setCell (i := 7) (.int .i64 x.2.1) h0
  have h2 := heap_setCell (i := 8) (.string x.2.2) h1
  exact h2
theorem put_ev3 {w : World} {q : Nat} {v0 v1 v2 v3 : Va} (x : Va) (h : EvIn w q ⟨v0, v1, v2, v3⟩) : EvIn ((((w).setCell ⟨q, 9, none⟩ (.int .i64 x.1)).setCell ⟨q, 10, none⟩ (.int .i64 x.2.1)).setCell ⟨q, 11, none⟩ (.string x.2.2)) q ⟨v0, v1, v2, x⟩ ∧ In1 w ((((w).setCell ⟨q, 9, none⟩ (.int .i64 x.1)).setCell ⟨q, 10, none⟩ (.int .i64 x.2.1)).setCell ⟨q, 11, none⟩ (.string x.2.2)) q := by
  refine ⟨?_, ((in1_setCell _ _ _ _).trans (in1_setCell _ _ _ _)).trans (in1_setCell _ _ _ _)⟩
  unfold EvIn at h
  have h0 := heap_setCell (i := 9) (.int .i64 x.1) h
  have h1 := heap_setCell (i := 10) (.int .i64 x.2.1) h0
  have h2 := heap_setCell (i := 11) (.string x.2.2) h1
  exact h2
theorem put_ev {w : World} {q : Nat} {z : EvV} (e : EvV) (h : EvIn w q z) : EvIn (((((((((((((w).setCell ⟨q, 0, none⟩ (.int .i64 e.v0.1)).setCell ⟨q, 1, none⟩ (.int .i64 e.v0.2.1)).setCell ⟨q, 2, none⟩ (.string e.v0.2.2)).setCell ⟨q, 3, none⟩ (.int .i64 e.v1.1)).setCell ⟨q, 4, none⟩ (.int .i64 e.v1.2.1)).setCell ⟨q, 5, none⟩ (.string e.v1.2.2)).setCell ⟨q, 6, none⟩ (.int .i64 e.v2.1)).setCell ⟨q, 7, none⟩ (.int .i64 e.v2.2.1)).setCell ⟨q, 8, none⟩ (.string e.v2.2.2)).setCell ⟨q, 9, none⟩ (.int .i64 e.v3.1)).setCell ⟨q, 10, none⟩ (.int .i64 e.v3.2.1)).setCell ⟨q, 11, none⟩ (.string e.v3.2.2)) q e ∧ In1 w (((((((((((((w).setCell ⟨q, 0, none⟩ (.int .i64 e.v0.1)).setCell ⟨q, 1, none⟩ (.int .i64 e.v0.2.1)).setCell ⟨q, 2, none⟩ (.string e.v0.2.2)).setCell ⟨q, 3, none⟩ (.int .i64 e.v1.1)).setCell ⟨q, 4, none⟩ (.int .i64 e.v1.2.1)).setCell ⟨q, 5, none⟩ (.string e.v1.2.2)).setCell ⟨q, 6, none⟩ (.int .i64 e.v2.1)).setCell ⟨q, 7, none⟩ (.int .i64 e.v2.2.1)).setCell ⟨q, 8, none⟩ (.string e.v2.2.2)).setCell ⟨q, 9, none⟩ (.int .i64 e.v3.1)).setCell ⟨q, 10, none⟩ (.int .i64 e.v3.2.1)).setCell ⟨q, 11, none⟩ (.string e.v3.2.2)) q := by
  obtain ⟨a0, b0⟩ := put_ev0 e.v0 (show EvIn w q ⟨z.v0, z.v1, z.v2, z.v3⟩ from h)
  obtain ⟨a1, b1⟩ := put_ev1 e.v1 a0
  obtain ⟨a2, b2⟩ := put_ev2 e.v2 a1
  obtain ⟨a3, b3⟩ := put_ev3 e.v3 a2
  exact ⟨a3, ((b0.trans b1).trans b2).trans b3⟩
theorem wl_newEv {o2 : Oper} {rest : List Oper} {w : World} (hw : Region.wanted o (yielded ops a.tmps) = true) (ho : o.op = .alloc 31) (x y : Operand) (ho2 : o2.op = .store 31 x y)
    (hx : ∀ v, (a.put o.dst v).eval x = v) {e : EvV} (hy : ∀ v, (a.put o.dst v).eval y = evVal e) (hw2 : ∀ v, Region.wanted o2 (yielded ops (a.put o.dst v).tmps) = true)
    (h : ∀ W g, EvIn W g e → Below w.heap.size w W → wpList Try.prog ops Q rest ((a.put o.dst (.pointer (some ⟨g, 0, none⟩))).put o2.dst undef) W) : wpList Try.prog ops Q (o :: o2 :: rest) a w := by
  refine wl_run hw (.pointer (some ⟨w.heap.size, 0, none⟩)) (w.alloc (.cells #[.int .i64 0, .int .i64 0, .string ⟨#[]⟩, .int .i64 0, .int .i64 0, .string ⟨#[]⟩, .int .i64 0, .int .i64 0, .string ⟨#[]⟩, .int .i64 0, .int .i64 0, .string ⟨#[]⟩] 31)) ?_ ?_
  · simp only [execOp, ho]
    go_simp
  · have hz : EvIn (w.alloc (.cells #[.int .i64 0, .int .i64 0, .string ⟨#[]⟩, .int .i64 0, .int .i64 0, .string ⟨#[]⟩, .int .i64 0, .int .i64 0, .string ⟨#[]⟩, .int .i64 0, .int .i64 0, .string ⟨#[]⟩] 31)) w.heap.size e0 := heap_new w _
    obtain ⟨q1, q2⟩ := put_ev e hz
    exact wl_skip (hw2 _) _ (rn_storeEv x y ho2 (hx _) (hy _) hz) (h _ _ q1 (q2.below _ _ (Nat.le_refl _) ((Below.refl _ w).alloc (Nat.le_refl _) _)))
end
set_option maxHeartbeats 8000000 in
set_option maxRecDepth 100000 in
theorem awake4_any (P : BoxProg) (w : World) :
    Calls Try.prog 7 #[] w fun r w' => r = .returned (.bool true) ∧ Below w.heap.size w w' := by
  have D := Below.refl w.heap.size w
  go_enter Try.func7, Try.ntmps7
  refine wp_seq_k (fun K1 hK1 => ?_)
  refine wp_region_lit ?_
  refine wl_yield (o := ⟨_, _, _, _, _, _⟩) (.bool false) (yl_assign (by rfl) _ rfl _ rfl) ?_
  simp only [Act.put, List.setIfInBounds_toArray, List.set_cons_zero, List.set_cons_succ]
  refine wpList_nil ?_
  refine hK1 _ _ ?_
  clear hK1 K1
  refine wp_seq_k (fun K2 hK2 => ?_)
  refine wp_region_lit ?_
  refine wl_run (o := ⟨_, _, _, _, _, _⟩) (by rfl) (.agg #[.int .i64 1, .int .i64 5]) w (by go_simp) ?_
  simp only [Act.put, List.setIfInBounds_toArray, List.set_cons_zero, List.set_cons_succ]
  refine wl_rowA (o := ⟨_, _, _, _, _, _⟩) (by rfl) _ rfl rfl (fun v1 p1 r1 HY kb => ?_)
  simp only [Act.put, List.setIfInBounds_toArray, List.set_cons_zero, List.set_cons_succ]
  replace D := D.trans (kb.mono D.size)
  clear kb
  have HSA := setA_of HY
  refine wl_run (o := ⟨_, _, _, _, _, _⟩) (by rfl) (.agg #[.bool false, .slice p1 1 r1, .bool false, .slice none 0 0]) v1 (by go_simp) ?_
  simp only [Act.put, List.setIfInBounds_toArray, List.set_cons_zero, List.set_cons_succ]
  refine wl_call (o := ⟨_, _, _, _, _, _⟩) (by rfl) 18 _ _ rfl #[.int .i64 0, .agg #[.bool false, .slice p1 1 r1, .bool false, .slice none 0 0]] rfl (run_call Try.func18 (by kernel_rfl) (by kernel_rfl)) ?_
  refine (P.atom 0 _ sA _ (by omega) (by omega) HSA sA_fit).mono ?_
  rintro r v2 ⟨⟨u1, rfl, HA⟩, kb⟩
  replace D := D.trans (kb.mono D.size)
  clear kb
  replace HA : BoxAt _ _ bA := HA
  obtain ⟨a0, a1, a2, a3, rfl, -⟩ := HA.scs
  refine ⟨bxVal a0 a1 a2 a3, rfl, ?_⟩
  simp only [Act.put, List.setIfInBounds_toArray, List.set_cons_zero, List.set_cons_succ]
  refine wl_newBx (o := ⟨_, _, _, _, _, _⟩) (o2 := ⟨_, _, _, _, _, _⟩) (by rfl) rfl _ _ rfl (fun _ => rfl) (fun _ => rfl) (fun _ => by rfl) (fun v3 g3 IA kb => ?_)
  simp only [Act.put, List.setIfInBounds_toArray, List.set_cons_zero, List.set_cons_succ]
  replace D := D.trans (kb.mono D.size)
  replace HA := HA.on kb
  clear kb
  refine wpList_nil ?_
  refine hK2 _ _ ?_
  clear hK2 K2
  refine wp_seq_k (fun K3 hK3 => ?_)
  refine wp_region_lit ?_
  refine wl_rowB (o := ⟨_, _, _, _, _, _⟩) (by rfl) rfl (fun v4 p2 r2 HY kb => ?_)
  simp only [Act.put, List.setIfInBounds_toArray, List.set_cons_zero, List.set_cons_succ]
  replace D := D.trans (kb.mono D.size)
  replace HA := HA.on kb
  replace IA := IA.on kb
  clear kb
  have HSB := setB_of HY
  refine wl_run (o := ⟨_, _, _, _, _, _⟩) (by rfl) (.agg #[.bool false, .slice none 0 0, .bool false, .slice p2 1 r2]) v4 (by go_simp) ?_
  simp only [Act.put, List.setIfInBounds_toArray, List.set_cons_zero, List.set_cons_succ]
  refine wl_call (o := ⟨_, _, _, _, _, _⟩) (by rfl) 18 _ _ rfl #[.int .i64 1, .agg #[.bool false, .slice none 0 0, .bool false, .slice p2 1 r2]] rfl (run_call Try.func18 (by kernel_rfl) (by kernel_rfl)) ?_
  refine (P.atom 1 _ sB _ (by omega) (by omega) HSB sB_fit).mono ?_
  rintro r v5 ⟨⟨u1, rfl, HB⟩, kb⟩
  replace D := D.trans (kb.mono D.size)
  replace HA := HA.on kb
  replace IA := IA.on kb
  clear kb
  replace HB : BoxAt _ _ bB := HB
  obtain ⟨b0, b1, b2, b3, rfl, -⟩ := HB.scs
  refine ⟨bxVal b0 b1 b2 b3, rfl, ?_⟩
  simp only [Act.put, List.setIfInBounds_toArray, List.set_cons_zero, List.set_cons_succ]
  refine wl_newBx (o := ⟨_, _, _, _, _, _⟩) (o2 := ⟨_, _, _, _, _, _⟩) (by rfl) rfl _ _ rfl (fun _ => rfl) (fun _ => rfl) (fun _ => by rfl) (fun v6 g6 IB kb => ?_)
  simp only [Act.put, List.setIfInBounds_toArray, List.set_cons_zero, List.set_cons_succ]
  replace D := D.trans (kb.mono D.size)
  replace HA := HA.on kb
  replace IA := IA.on kb
  replace HB := HB.on kb
  clear kb
  refine wpList_nil ?_
  refine hK3 _ _ ?_
  clear hK3 K3
  refine wp_seq_k (fun K4 hK4 => ?_)
  refine wp_region_lit ?_
  refine wl_yield (o := ⟨_, _, _, _, _, _⟩) (bxVal a0 a1 a2 a3) (yl_box (by rfl) _ rfl _ 0 rfl _ _ _ _ _ _ _ _ _ _ _ _ _ _ _ _ (fun _ h => by subst h; exact BxIn.cells IA)) ?_
  simp only [Act.put, List.setIfInBounds_toArray, List.set_cons_zero, List.set_cons_succ]
  refine wl_yield (o := ⟨_, _, _, _, _, _⟩) (bxVal b0 b1 b2 b3) (yl_box (by rfl) _ rfl _ 0 rfl _ _ _ _ _ _ _ _ _ _ _ _ _ _ _ _ (fun _ h => by subst h; exact BxIn.cells IB)) ?_
  simp only [Act.put, List.setIfInBounds_toArray, List.set_cons_zero, List.set_cons_succ]
  refine wl_call (o := ⟨_, _, _, _, _, _⟩) (by rfl) 17 _ _ rfl #[bxVal a0 a1 a2 a3, bxVal b0 b1 b2 b3] rfl (run_call Try.func17 (by kernel_rfl) (by kernel_rfl)) ?_
  refine (P.differ _ _ bA bB _ HA HB bA_few.fit bB_few.fit).mono ?_
  rintro r v7 ⟨rfl, kb⟩
  replace D := D.trans (kb.mono D.size)
  replace HA := HA.on kb
  replace IA := IA.on kb
  replace HB := HB.on kb
  replace IB := IB.on kb
  clear kb
  refine ⟨.tuple #[.int .i64 2, .int .i64 0], by rw [aw_diff], ?_⟩
  simp only [Act.put, List.setIfInBounds_toArray, List.set_cons_zero, List.set_cons_succ]
  refine wl_yield (o := ⟨_, _, _, _, _, _⟩) (.tuple #[.int .i64 2, .int .i64 0]) (yl_move (by rfl) _ rfl _ rfl) ?_
  simp only [Act.put, List.setIfInBounds_toArray, List.set_cons_zero, List.set_cons_succ]
  refine wl_yield (o := ⟨_, _, _, _, _, _⟩) (.int .i64 2) (yl_extract0 (by rfl) _ rfl _ _ rfl) ?_
  simp only [Act.put, List.setIfInBounds_toArray, List.set_cons_zero, List.set_cons_succ]
  refine wl_yield (o := ⟨_, _, _, _, _, _⟩) (.int .i64 0) (yl_extract1 (by rfl) _ rfl _ _ rfl) ?_
  simp only [Act.put, List.setIfInBounds_toArray, List.set_cons_zero, List.set_cons_succ]
  refine wl_yield (o := ⟨_, _, _, _, _, _⟩) (.int .i64 2) (yl_assign (by rfl) _ rfl _ rfl) ?_
  simp only [Act.put, List.setIfInBounds_toArray, List.set_cons_zero, List.set_cons_succ]
  refine wl_yield (o := ⟨_, _, _, _, _, _⟩) (.int .i64 0) (yl_assign (by rfl) _ rfl _ rfl) ?_
  simp only [Act.put, List.setIfInBounds_toArray, List.set_cons_zero, List.set_cons_succ]
  refine wpList_nil ?_
  refine hK4 _ _ ?_
  clear hK4 K4
  refine wp_seq_k (fun K5 hK5 => ?_)
  refine wp_region_lit ?_
  refine wl_run (o := ⟨_, _, _, _, _, _⟩) (by rfl) (.agg #[.int .i64 1, .int .i64 3, .string ⟨#[]⟩]) v7 (by go_simp) ?_
  simp only [Act.put, List.setIfInBounds_toArray, List.set_cons_zero, List.set_cons_succ]
  refine wl_run (o := ⟨_, _, _, _, _, _⟩) (by rfl) (.agg #[.int .i64 2, .int .i64 0, .string ⟨#[120]⟩]) v7 (by go_simp) ?_
  simp only [Act.put, List.setIfInBounds_toArray, List.set_cons_zero, List.set_cons_succ]
  refine wl_run (o := ⟨_, _, _, _, _, _⟩) (by rfl) (evVal eX) v7 (by unfold evVal eX xS; go_simp) ?_
  simp only [Act.put, List.setIfInBounds_toArray, List.set_cons_zero, List.set_cons_succ]
  refine wl_newEv (o := ⟨_, _, _, _, _, _⟩) (o2 := ⟨_, _, _, _, _, _⟩) (by rfl) rfl _ _ rfl (fun _ => rfl) (fun _ => rfl) (fun _ => by rfl) (fun v8 gE IE kb => ?_)
  simp only [Act.put, List.setIfInBounds_toArray, List.set_cons_zero, List.set_cons_succ]
  replace D := D.trans (kb.mono D.size)
  replace HA := HA.on kb
  replace IA := IA.on kb
  replace HB := HB.on kb
  replace IB := IB.on kb
  clear kb
  refine wpList_nil ?_
  refine hK5 _ _ ?_
  clear hK5 K5
  refine wp_seq_k (fun K6 hK6 => ?_)
  refine wp_region_held_drew (S := fun w' => BxIn w' g3 a0 a1 a2 a3 ∧ BxIn w' g6 b0 b1 b2 b3 ∧ EvIn w' gE eX) (by kernel_rfl) ⟨IA, IB, IE⟩ (fun hHeld => ?_)
  have kb : Below v8.heap.size v8 v8.drew := (Below.refl _ v8).drew
  replace D := D.trans (kb.mono D.size)
  replace HA := HA.on kb
  replace IA := IA.on kb
  replace HB := HB.on kb
  replace IB := IB.on kb
  replace IE := IE.on kb
  clear kb
  generalize v8.drew = v9 at D hHeld HA IA HB IB IE ⊢
  refine wpAnyH_take (i := 0) (oi := ⟨_, _, _, _, _, _⟩) (v := .int .i64 2) rfl (by kernel_rfl) (by kernel_rfl) (by kernel_rfl) (fun _ _ _ h => h) (yl_move (by rfl) _ rfl _ rfl) (by assumption) ?_
  simp only [Act.put, List.setIfInBounds_toArray, List.set_cons_zero, List.set_cons_succ]
  refine wpAnyH_take (i := 1) (oi := ⟨_, _, _, _, _, _⟩) (v := .bool true) rfl (by kernel_rfl) (by kernel_rfl) (by kernel_rfl) (fun _ _ _ h => h) (yl_eqI (by rfl) _ _ _ rfl (2) (2) rfl rfl) (by assumption) ?_
  simp only [Act.put, List.setIfInBounds_toArray, List.set_cons_zero, List.set_cons_succ]
  refine wpAnyH_take (i := 2) (oi := ⟨_, _, _, _, _, _⟩) (v := .bool true) rfl (by kernel_rfl) (by kernel_rfl) (by kernel_rfl) (fun _ _ _ h => h) (yl_move (by rfl) _ rfl _ rfl) (by assumption) ?_
  simp only [Act.put, List.setIfInBounds_toArray, List.set_cons_zero, List.set_cons_succ]
  refine wpAnyH_take (i := 3) (oi := ⟨_, _, _, _, _, _⟩) (v := .int .i64 0) rfl (by kernel_rfl) (by kernel_rfl) (by kernel_rfl) (fun _ _ _ h => h) (yl_move (by rfl) _ rfl _ rfl) (by assumption) ?_
  simp only [Act.put, List.setIfInBounds_toArray, List.set_cons_zero, List.set_cons_succ]
  refine wpAnyH_take (i := 4) (oi := ⟨_, _, _, _, _, _⟩) (v := .bool true) rfl (by kernel_rfl) (by kernel_rfl) (by kernel_rfl) (fun _ _ _ h => h) (yl_eqI (by rfl) _ _ _ rfl (0) (0) rfl rfl) (by assumption) ?_
  simp only [Act.put, List.setIfInBounds_toArray, List.set_cons_zero, List.set_cons_succ]
  refine wpAnyH_take (i := 5) (oi := ⟨_, _, _, _, _, _⟩) (v := .bool true) rfl (by kernel_rfl) (by kernel_rfl) (by kernel_rfl) (fun _ _ _ h => h) (yl_pickT (by rfl) _ _ _ rfl rfl _ rfl) (by assumption) ?_
  simp only [Act.put, List.setIfInBounds_toArray, List.set_cons_zero, List.set_cons_succ]
  refine wpAnyH_take (i := 6) (oi := ⟨_, _, _, _, _, _⟩) (v := .bool true) rfl (by kernel_rfl) (by kernel_rfl) (by kernel_rfl) (fun _ _ _ h => h) (yl_move (by rfl) _ rfl _ rfl) (by assumption) ?_
  simp only [Act.put, List.setIfInBounds_toArray, List.set_cons_zero, List.set_cons_succ]
  refine wpAnyH_take (i := 7) (oi := ⟨_, _, _, _, _, _⟩) (v := bxVal a0 a1 a2 a3) rfl (by kernel_rfl) (by kernel_rfl) (by kernel_rfl) (fun _ _ _ h => h) (yl_box (by rfl) _ rfl _ 0 rfl _ _ _ _ _ _ _ _ _ _ _ _ _ _ _ _ (fun _ h => BxIn.cells h.1)) (by assumption) ?_
  simp only [Act.put, List.setIfInBounds_toArray, List.set_cons_zero, List.set_cons_succ]
  refine wpAnyH_take (i := 8) (oi := ⟨_, _, _, _, _, _⟩) (v := bxVal b0 b1 b2 b3) rfl (by kernel_rfl) (by kernel_rfl) (by kernel_rfl) (fun _ _ _ h => h) (yl_box (by rfl) _ rfl _ 0 rfl _ _ _ _ _ _ _ _ _ _ _ _ _ _ _ _ (fun _ h => BxIn.cells h.2.1)) (by assumption) ?_
  simp only [Act.put, List.setIfInBounds_toArray, List.set_cons_zero, List.set_cons_succ]
  refine wpAnyH_take (i := 10) (oi := ⟨_, _, _, _, _, _⟩) (v := evVal eX) rfl (by kernel_rfl) (by kernel_rfl) (by kernel_rfl) (fun _ _ _ h => h) (yl_ev (by rfl) _ rfl _ 0 rfl _ _ _ _ _ _ _ _ _ _ _ _ (fun _ h => EvIn.cells h.2.2)) (by assumption) ?_
  simp only [Act.put, List.setIfInBounds_toArray, List.set_cons_zero, List.set_cons_succ]
  refine held_call (o := ⟨_, _, _, _, _, _⟩) 9 (by kernel_rfl) rfl (by rfl) 10 _ _ rfl #[bxVal a0 a1 a2 a3, bxVal b0 b1 b2 b3] rfl (run_call Try.func10 (by kernel_rfl) (by kernel_rfl)) ?_
  refine (P.and _ _ bA bB _ HA HB bA_few.fit bB_few.fit).mono ?_
  rintro r v10 ⟨⟨u1, rfl, HC⟩, kb⟩
  replace D := D.trans (kb.mono D.size)
  replace HA := HA.on kb
  replace IA := IA.on kb
  replace HB := HB.on kb
  replace IB := IB.on kb
  replace IE := IE.on kb
  clear kb
  clear hHeld
  obtain ⟨c0, c1, c2, c3, rfl, -⟩ := HC.scs
  refine ⟨bxVal c0 c1 c2 c3, rfl, ⟨IA, IB, IE⟩, fun hHeld => ?_⟩
  simp only [Act.put, List.setIfInBounds_toArray, List.set_cons_zero, List.set_cons_succ]
  refine held_call (o := ⟨_, _, _, _, _, _⟩) 11 (by kernel_rfl) rfl (by rfl) 21 _ _ rfl #[bxVal c0 c1 c2 c3, evVal eX] rfl (run_call Try.func21 (by kernel_rfl) (by kernel_rfl)) ?_
  refine (P.has _ _ eX _ HC (bA_few.and bB_few) eX_fit eX_in).mono ?_
  rintro r v11 ⟨rfl, kb⟩
  replace D := D.trans (kb.mono D.size)
  replace HA := HA.on kb
  replace IA := IA.on kb
  replace HB := HB.on kb
  replace IB := IB.on kb
  replace IE := IE.on kb
  replace HC := HC.on kb
  clear kb
  clear hHeld
  clear HC
  refine ⟨.bool true, ret_bool aw_and, ⟨IA, IB, IE⟩, fun hHeld => ?_⟩
  simp only [Act.put, List.setIfInBounds_toArray, List.set_cons_zero, List.set_cons_succ]
  refine wpAnyH_take (i := 12) (oi := ⟨_, _, _, _, _, _⟩) (v := .bool true) rfl (by kernel_rfl) (by kernel_rfl) (by kernel_rfl) (fun _ _ _ h => h) (yl_pickT (by rfl) _ _ _ rfl rfl _ rfl) (by assumption) ?_
  simp only [Act.put, List.setIfInBounds_toArray, List.set_cons_zero, List.set_cons_succ]
  refine wpAnyH_take (i := 13) (oi := ⟨_, _, _, _, _, _⟩) (v := .bool true) rfl (by kernel_rfl) (by kernel_rfl) (by kernel_rfl) (fun _ _ _ h => h) (yl_move (by rfl) _ rfl _ rfl) (by assumption) ?_
  simp only [Act.put, List.setIfInBounds_toArray, List.set_cons_zero, List.set_cons_succ]
  refine wpAnyH_take (i := 14) (oi := ⟨_, _, _, _, _, _⟩) (v := bxVal a0 a1 a2 a3) rfl (by kernel_rfl) (by kernel_rfl) (by kernel_rfl) (fun _ _ _ h => h) (yl_box (by rfl) _ rfl _ 0 rfl _ _ _ _ _ _ _ _ _ _ _ _ _ _ _ _ (fun _ h => BxIn.cells h.1)) (by assumption) ?_
  simp only [Act.put, List.setIfInBounds_toArray, List.set_cons_zero, List.set_cons_succ]
  refine wpAnyH_take (i := 15) (oi := ⟨_, _, _, _, _, _⟩) (v := evVal e0) rfl (by kernel_rfl) (by kernel_rfl) (by kernel_rfl) (fun _ _ _ h => h) (yl_zeroEv (by rfl) rfl) (by assumption) ?_
  simp only [Act.put, List.setIfInBounds_toArray, List.set_cons_zero, List.set_cons_succ]
  refine held_call (o := ⟨_, _, _, _, _, _⟩) 16 (by kernel_rfl) rfl (by rfl) 21 _ _ rfl #[bxVal a0 a1 a2 a3, evVal e0] rfl (run_call Try.func21 (by kernel_rfl) (by kernel_rfl)) ?_
  refine (P.has _ bA e0 _ HA bA_few.fit e0_fit e0_in).mono ?_
  rintro r v12 ⟨rfl, kb⟩
  replace D := D.trans (kb.mono D.size)
  replace HA := HA.on kb
  replace IA := IA.on kb
  replace HB := HB.on kb
  replace IB := IB.on kb
  replace IE := IE.on kb
  clear kb
  clear hHeld
  refine ⟨.bool false, ret_bool aw_zero, ⟨IA, IB, IE⟩, fun hHeld => ?_⟩
  simp only [Act.put, List.setIfInBounds_toArray, List.set_cons_zero, List.set_cons_succ]
  refine wpAnyH_take (i := 17) (oi := ⟨_, _, _, _, _, _⟩) (v := .bool true) rfl (by kernel_rfl) (by kernel_rfl) (by kernel_rfl) (fun _ _ _ h => h) (yl_not (by rfl) _ _ rfl false rfl) (by assumption) ?_
  simp only [Act.put, List.setIfInBounds_toArray, List.set_cons_zero, List.set_cons_succ]
  refine wpAnyH_take (i := 18) (oi := ⟨_, _, _, _, _, _⟩) (v := .bool true) rfl (by kernel_rfl) (by kernel_rfl) (by kernel_rfl) (fun _ _ _ h => h) (yl_pickT (by rfl) _ _ _ rfl rfl _ rfl) (by assumption) ?_
  simp only [Act.put, List.setIfInBounds_toArray, List.set_cons_zero, List.set_cons_succ]
  refine wpAnyH_take (i := 19) (oi := ⟨_, _, _, _, _, _⟩) (v := .bool true) rfl (by kernel_rfl) (by kernel_rfl) (by kernel_rfl) (fun _ _ _ h => h) (yl_move (by rfl) _ rfl _ rfl) (by assumption) ?_
  simp only [Act.put, List.setIfInBounds_toArray, List.set_cons_zero, List.set_cons_succ]
  refine wpAnyH_take (i := 20) (oi := ⟨_, _, _, _, _, _⟩) (v := bxVal a0 a1 a2 a3) rfl (by kernel_rfl) (by kernel_rfl) (by kernel_rfl) (fun _ _ _ h => h) (yl_box (by rfl) _ rfl _ 0 rfl _ _ _ _ _ _ _ _ _ _ _ _ _ _ _ _ (fun _ h => BxIn.cells h.1)) (by assumption) ?_
  simp only [Act.put, List.setIfInBounds_toArray, List.set_cons_zero, List.set_cons_succ]
  refine wpAnyH_take (i := 21) (oi := ⟨_, _, _, _, _, _⟩) (v := bxVal b0 b1 b2 b3) rfl (by kernel_rfl) (by kernel_rfl) (by kernel_rfl) (fun _ _ _ h => h) (yl_box (by rfl) _ rfl _ 0 rfl _ _ _ _ _ _ _ _ _ _ _ _ _ _ _ _ (fun _ h => BxIn.cells h.2.1)) (by assumption) ?_
  simp only [Act.put, List.setIfInBounds_toArray, List.set_cons_zero, List.set_cons_succ]
  refine wpAnyH_take (i := 23) (oi := ⟨_, _, _, _, _, _⟩) (v := bxVal a0 a1 a2 a3) rfl (by kernel_rfl) (by kernel_rfl) (by kernel_rfl) (fun _ _ _ h => h) (yl_box (by rfl) _ rfl _ 0 rfl _ _ _ _ _ _ _ _ _ _ _ _ _ _ _ _ (fun _ h => BxIn.cells h.1)) (by assumption) ?_
  simp only [Act.put, List.setIfInBounds_toArray, List.set_cons_zero, List.set_cons_succ]
  refine held_call (o := ⟨_, _, _, _, _, _⟩) 22 (by kernel_rfl) rfl (by rfl) 10 _ _ rfl #[bxVal a0 a1 a2 a3, bxVal b0 b1 b2 b3] rfl (run_call Try.func10 (by kernel_rfl) (by kernel_rfl)) ?_
  refine (P.and _ _ bA bB _ HA HB bA_few.fit bB_few.fit).mono ?_
  rintro r v13 ⟨⟨u1, rfl, HD⟩, kb⟩
  replace D := D.trans (kb.mono D.size)
  replace HA := HA.on kb
  replace IA := IA.on kb
  replace HB := HB.on kb
  replace IB := IB.on kb
  replace IE := IE.on kb
  clear kb
  clear hHeld
  obtain ⟨d0, d1, d2, d3, rfl, -⟩ := HD.scs
  refine ⟨bxVal d0 d1 d2 d3, rfl, ⟨IA, IB, IE⟩, fun hHeld => ?_⟩
  simp only [Act.put, List.setIfInBounds_toArray, List.set_cons_zero, List.set_cons_succ]
  refine held_call (o := ⟨_, _, _, _, _, _⟩) 24 (by kernel_rfl) rfl (by rfl) 12 _ _ rfl #[bxVal d0 d1 d2 d3, bxVal a0 a1 a2 a3] rfl (run_call Try.func12 (by kernel_rfl) (by kernel_rfl)) ?_
  refine (P.in_ _ _ _ bA _ HD HA (bA_few.and bB_few) bA_few.fit).mono ?_
  rintro r v14 ⟨rfl, kb⟩
  replace D := D.trans (kb.mono D.size)
  replace HA := HA.on kb
  replace IA := IA.on kb
  replace HB := HB.on kb
  replace IB := IB.on kb
  replace IE := IE.on kb
  replace HD := HD.on kb
  clear kb
  clear hHeld
  clear HD
  refine ⟨.bool true, ret_bool aw_in, ⟨IA, IB, IE⟩, fun hHeld => ?_⟩
  simp only [Act.put, List.setIfInBounds_toArray, List.set_cons_zero, List.set_cons_succ]
  refine wpAnyH_take (i := 25) (oi := ⟨_, _, _, _, _, _⟩) (v := .bool true) rfl (by kernel_rfl) (by kernel_rfl) (by kernel_rfl) (fun _ _ _ h => h) (yl_pickT (by rfl) _ _ _ rfl rfl _ rfl) (by assumption) ?_
  simp only [Act.put, List.setIfInBounds_toArray, List.set_cons_zero, List.set_cons_succ]
  refine wpAnyH_take (i := 26) (oi := ⟨_, _, _, _, _, _⟩) (v := .bool true) rfl (by kernel_rfl) (by kernel_rfl) (by kernel_rfl) (fun _ _ _ h => h) (yl_move (by rfl) _ rfl _ rfl) (by assumption) ?_
  simp only [Act.put, List.setIfInBounds_toArray, List.set_cons_zero, List.set_cons_succ]
  refine wpAnyH_take (i := 27) (oi := ⟨_, _, _, _, _, _⟩) (v := bxVal a0 a1 a2 a3) rfl (by kernel_rfl) (by kernel_rfl) (by kernel_rfl) (fun _ _ _ h => h) (yl_box (by rfl) _ rfl _ 0 rfl _ _ _ _ _ _ _ _ _ _ _ _ _ _ _ _ (fun _ h => BxIn.cells h.1)) (by assumption) ?_
  simp only [Act.put, List.setIfInBounds_toArray, List.set_cons_zero, List.set_cons_succ]
  refine wpAnyH_take (i := 28) (oi := ⟨_, _, _, _, _, _⟩) (v := bxVal b0 b1 b2 b3) rfl (by kernel_rfl) (by kernel_rfl) (by kernel_rfl) (fun _ _ _ h => h) (yl_box (by rfl) _ rfl _ 0 rfl _ _ _ _ _ _ _ _ _ _ _ _ _ _ _ _ (fun _ h => BxIn.cells h.2.1)) (by assumption) ?_
  simp only [Act.put, List.setIfInBounds_toArray, List.set_cons_zero, List.set_cons_succ]
  refine held_call (o := ⟨_, _, _, _, _, _⟩) 29 (by kernel_rfl) rfl (by rfl) 12 _ _ rfl #[bxVal a0 a1 a2 a3, bxVal b0 b1 b2 b3] rfl (run_call Try.func12 (by kernel_rfl) (by kernel_rfl)) ?_
  refine (P.in_ _ _ bA bB _ HA HB bA_few.fit bB_few.fit).mono ?_
  rintro r v15 ⟨rfl, kb⟩
  replace D := D.trans (kb.mono D.size)
  replace HA := HA.on kb
  replace IA := IA.on kb
  replace HB := HB.on kb
  replace IB := IB.on kb
  replace IE := IE.on kb
  clear kb
  clear hHeld
  refine ⟨.bool false, ret_bool aw_not, ⟨IA, IB, IE⟩, fun hHeld => ?_⟩
  simp only [Act.put, List.setIfInBounds_toArray, List.set_cons_zero, List.set_cons_succ]
  refine wpAnyH_take (i := 30) (oi := ⟨_, _, _, _, _, _⟩) (v := .bool true) rfl (by kernel_rfl) (by kernel_rfl) (by kernel_rfl) (fun _ _ _ h => h) (yl_not (by rfl) _ _ rfl false rfl) (by assumption) ?_
  simp only [Act.put, List.setIfInBounds_toArray, List.set_cons_zero, List.set_cons_succ]
  refine wpAnyH_take (i := 31) (oi := ⟨_, _, _, _, _, _⟩) (v := .bool true) rfl (by kernel_rfl) (by kernel_rfl) (by kernel_rfl) (fun _ _ _ h => h) (yl_pickT (by rfl) _ _ _ rfl rfl _ rfl) (by assumption) ?_
  simp only [Act.put, List.setIfInBounds_toArray, List.set_cons_zero, List.set_cons_succ]
  refine wpAnyH_take (i := 32) (oi := ⟨_, _, _, _, _, _⟩) (v := .bool true) rfl (by kernel_rfl) (by kernel_rfl) (by kernel_rfl) (fun _ _ _ h => h) (yl_move (by rfl) _ rfl _ rfl) (by assumption) ?_
  simp only [Act.put, List.setIfInBounds_toArray, List.set_cons_zero, List.set_cons_succ]
  refine wpAnyH_take (i := 34) (oi := ⟨_, _, _, _, _, _⟩) (v := evVal eX) rfl (by kernel_rfl) (by kernel_rfl) (by kernel_rfl) (fun _ _ _ h => h) (yl_ev (by rfl) _ rfl _ 0 rfl _ _ _ _ _ _ _ _ _ _ _ _ (fun _ h => EvIn.cells h.2.2)) (by assumption) ?_
  simp only [Act.put, List.setIfInBounds_toArray, List.set_cons_zero, List.set_cons_succ]
  refine held_call (o := ⟨_, _, _, _, _, _⟩) 33 (by kernel_rfl) rfl (by rfl) 19 _ _ rfl #[] rfl (run_call Try.func19 (by kernel_rfl) (by kernel_rfl)) ?_
  refine (P.all _).mono ?_
  rintro r v16 ⟨⟨u1, rfl, HG⟩, kb⟩
  replace D := D.trans (kb.mono D.size)
  replace HA := HA.on kb
  replace IA := IA.on kb
  replace HB := HB.on kb
  replace IB := IB.on kb
  replace IE := IE.on kb
  clear kb
  clear hHeld
  obtain ⟨g0, g1, g2, g3, rfl, -⟩ := HG.scs
  refine ⟨bxVal g0 g1 g2 g3, rfl, ⟨IA, IB, IE⟩, fun hHeld => ?_⟩
  simp only [Act.put, List.setIfInBounds_toArray, List.set_cons_zero, List.set_cons_succ]
  refine held_call (o := ⟨_, _, _, _, _, _⟩) 35 (by kernel_rfl) rfl (by rfl) 21 _ _ rfl #[bxVal g0 g1 g2 g3, evVal eX] rfl (run_call Try.func21 (by kernel_rfl) (by kernel_rfl)) ?_
  refine (P.has _ allBx eX _ HG allFew.fit eX_fit eX_in).mono ?_
  rintro r v17 ⟨rfl, kb⟩
  replace D := D.trans (kb.mono D.size)
  replace HA := HA.on kb
  replace IA := IA.on kb
  replace HB := HB.on kb
  replace IB := IB.on kb
  replace IE := IE.on kb
  replace HG := HG.on kb
  clear kb
  clear hHeld
  clear HG
  refine ⟨.bool true, ret_bool aw_all, ⟨IA, IB, IE⟩, fun hHeld => ?_⟩
  simp only [Act.put, List.setIfInBounds_toArray, List.set_cons_zero, List.set_cons_succ]
  refine wpAnyH_take (i := 36) (oi := ⟨_, _, _, _, _, _⟩) (v := .bool true) rfl (by kernel_rfl) (by kernel_rfl) (by kernel_rfl) (fun _ _ _ h => h) (yl_pickT (by rfl) _ _ _ rfl rfl _ rfl) (by assumption) ?_
  simp only [Act.put, List.setIfInBounds_toArray, List.set_cons_zero, List.set_cons_succ]
  refine wpAnyH_take (i := 37) (oi := ⟨_, _, _, _, _, _⟩) (v := .bool true) rfl (by kernel_rfl) (by kernel_rfl) (by kernel_rfl) (fun _ _ _ h => h) (yl_move (by rfl) _ rfl _ rfl) (by assumption) ?_
  simp only [Act.put, List.setIfInBounds_toArray, List.set_cons_zero, List.set_cons_succ]
  refine wpAnyH_take (i := 38) (oi := ⟨_, _, _, _, _, _⟩) (v := bxVal a0 a1 a2 a3) rfl (by kernel_rfl) (by kernel_rfl) (by kernel_rfl) (fun _ _ _ h => h) (yl_box (by rfl) _ rfl _ 0 rfl _ _ _ _ _ _ _ _ _ _ _ _ _ _ _ _ (fun _ h => BxIn.cells h.1)) (by assumption) ?_
  simp only [Act.put, List.setIfInBounds_toArray, List.set_cons_zero, List.set_cons_succ]
  refine held_call (o := ⟨_, _, _, _, _, _⟩) 39 (by kernel_rfl) rfl (by rfl) 23 _ _ rfl #[bxVal a0 a1 a2 a3] rfl (run_call Try.func23 (by kernel_rfl) (by kernel_rfl)) ?_
  refine (P.empty _ bA _ HA bA_few.fit).mono ?_
  rintro r v18 ⟨rfl, kb⟩
  replace D := D.trans (kb.mono D.size)
  replace HA := HA.on kb
  replace IA := IA.on kb
  replace HB := HB.on kb
  replace IB := IB.on kb
  replace IE := IE.on kb
  clear kb
  clear hHeld
  refine ⟨.bool false, ret_bool aw_empty, ⟨IA, IB, IE⟩, fun hHeld => ?_⟩
  simp only [Act.put, List.setIfInBounds_toArray, List.set_cons_zero, List.set_cons_succ]
  refine wpAnyH_take (i := 40) (oi := ⟨_, _, _, _, _, _⟩) (v := .bool true) rfl (by kernel_rfl) (by kernel_rfl) (by kernel_rfl) (fun _ _ _ h => h) (yl_not (by rfl) _ _ rfl false rfl) (by assumption) ?_
  simp only [Act.put, List.setIfInBounds_toArray, List.set_cons_zero, List.set_cons_succ]
  refine wpAnyH_take (i := 41) (oi := ⟨_, _, _, _, _, _⟩) (v := .bool true) rfl (by kernel_rfl) (by kernel_rfl) (by kernel_rfl) (fun _ _ _ h => h) (yl_pickT (by rfl) _ _ _ rfl rfl _ rfl) (by assumption) ?_
  simp only [Act.put, List.setIfInBounds_toArray, List.set_cons_zero, List.set_cons_succ]
  refine wpAnyH_take (i := 42) (oi := ⟨_, _, _, _, _, _⟩) (v := .bool true) rfl (by kernel_rfl) (by kernel_rfl) (by kernel_rfl) (fun _ _ _ h => h) (yl_move (by rfl) _ rfl _ rfl) (by assumption) ?_
  simp only [Act.put, List.setIfInBounds_toArray, List.set_cons_zero, List.set_cons_succ]
  refine wpAnyH_take (i := 43) (oi := ⟨_, _, _, _, _, _⟩) (v := bxVal SC.zero SC.zero SC.zero SC.zero) rfl (by kernel_rfl) (by kernel_rfl) (by kernel_rfl) (fun _ _ _ h => h) (yl_zeroBx (by rfl) rfl) (by assumption) ?_
  simp only [Act.put, List.setIfInBounds_toArray, List.set_cons_zero, List.set_cons_succ]
  refine held_call (o := ⟨_, _, _, _, _, _⟩) 44 (by kernel_rfl) rfl (by rfl) 23 _ _ rfl #[bxVal SC.zero SC.zero SC.zero SC.zero] rfl (run_call Try.func23 (by kernel_rfl) (by kernel_rfl)) ?_
  refine (P.empty _ noBox _ (noBox_at _) noBox_fit).mono ?_
  rintro r v19 ⟨rfl, kb⟩
  replace D := D.trans (kb.mono D.size)
  replace HA := HA.on kb
  replace IA := IA.on kb
  replace HB := HB.on kb
  replace IB := IB.on kb
  replace IE := IE.on kb
  clear kb
  clear hHeld
  refine ⟨.bool true, ret_bool aw_none, ⟨IA, IB, IE⟩, fun hHeld => ?_⟩
  simp only [Act.put, List.setIfInBounds_toArray, List.set_cons_zero, List.set_cons_succ]
  refine wpAnyH_take (i := 45) (oi := ⟨_, _, _, _, _, _⟩) (v := .bool true) rfl (by kernel_rfl) (by kernel_rfl) (by kernel_rfl) (fun _ _ _ h => h) (yl_pickT (by rfl) _ _ _ rfl rfl _ rfl) (by assumption) ?_
  simp only [Act.put, List.setIfInBounds_toArray, List.set_cons_zero, List.set_cons_succ]
  refine wpAnyH_take (i := 46) (oi := ⟨_, _, _, _, _, _⟩) (v := .bool true) rfl (by kernel_rfl) (by kernel_rfl) (by kernel_rfl) (fun _ _ _ h => h) (yl_assign (by rfl) _ rfl _ rfl) (by assumption) ?_
  simp only [Act.put, List.setIfInBounds_toArray, List.set_cons_zero, List.set_cons_succ]
  refine wpAnyH_done (by kernel_rfl) ?_ _
  clear hHeld
  refine hK6 _ _ ?_
  clear hK6 K6
  refine wp_ret ?_
  go_ret
  exact ⟨rfl, D⟩
end Go.Proofs.Yteahjihmpchcbaa
