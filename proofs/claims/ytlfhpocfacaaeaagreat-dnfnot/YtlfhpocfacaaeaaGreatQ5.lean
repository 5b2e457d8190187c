/-
  Steps of regions, of the sixth layer: a set out of a box by its place; a set in a new block; boxes as they lie in rows that are made.
-/
import Derived.Test.YtlfhpocfacaaeaaGreatQ4
import Derived.Test.YtlfhpocfacaaeaaGreatQ3
import Derived.Test.YtlfhpocfacaaeaaGreatQ1
import Derived.Test.YtlfhpocfacaaeaaGreatQ2
import Derived.Lib.SmallJoins
import Derived.Deep.Strs
set_option linter.unusedSimpArgs false
set_option linter.unusedVariables false
namespace Go.Proofs.YtlfhpocfacaaeaaGreat
open Go.RowKit

def BxC.sc (c : BxC) : Nat → SC
  | 0 => c.s0
  | 1 => c.s1
  | 2 => c.s2
  | _ => c.s3
theorem BoxAt.sc {w : World} {c : BxC} {b : BoxV} (h : BoxAt w c.val b) (i : Nat) (hi : i < 4) : SetAt w (c.sc i).val (b.get i) := by
  obtain ⟨⟨h0, h1, h2, h3⟩, _⟩ := sc_forms (s0 := c.s0) (s1 := c.s1) (s2 := c.s2) (s3 := c.s3) h
  match i, hi with
  | 0, _ => exact h0
  | 1, _ => exact h1
  | 2, _ => exact h2
  | 3, _ => exact h3
section
variable {ops : Array Oper} {Q : Exit → Act → World → Prop} {S : World → Prop} {o : Oper} {a : Act}
theorem yl_bxIdx (hw : Region.wanted o (yielded ops a.tmps) = true) (x y : Operand) (ho : o.op = .index 47 x y) (c : BxC) (i : Nat) (hx : a.eval x = c.val) (hy : a.eval y = .int .i64 i) (hi : i < 4) : YieldsIf Tryz.prog ops S o (c.sc i).val a :=
  Or.inl ⟨hw, fun w hS => by
    simp only [execOp, ho, hx, hy]
    match i, hi with
    | 0, _ =>
      have := run_at0 w c.s0 c.s1 c.s2 c.s3
      simp only [Sem.run_bind, BxC.val, bxVal] at this ⊢
      rw [show ((0 : Nat) : Int) = 0 from rfl, this]; rfl
    | 1, _ =>
      have := run_at1 w c.s0 c.s1 c.s2 c.s3
      simp only [Sem.run_bind, BxC.val, bxVal] at this ⊢
      rw [show ((1 : Nat) : Int) = 1 from rfl, this]; rfl
    | 2, _ =>
      have := run_at2 w c.s0 c.s1 c.s2 c.s3
      simp only [Sem.run_bind, BxC.val, bxVal] at this ⊢
      rw [show ((2 : Nat) : Int) = 2 from rfl, this]; rfl
    | 3, _ =>
      have := run_at3 w c.s0 c.s1 c.s2 c.s3
      simp only [Sem.run_bind, BxC.val, bxVal] at this ⊢
      rw [show ((3 : Nat) : Int) = 3 from rfl, this]; rfl⟩
theorem infoSt4 : (Tryz.prog.info? 25).map (·.size) = some 4 := by kernel_rfl
def SC.list (s : SC) : List Value := [.bool s.a, .slice s.p s.n s.c, .bool s.d, .slice s.q s.m s.e]
theorem SC.list_one (s : SC) : ∀ v ∈ s.list, v.oneCell' = true := by
  intro v hv
  unfold SC.list at hv
  simp only [List.mem_cons, List.not_mem_nil, or_false] at hv
  rcases hv with rfl | rfl | rfl | rfl <;> rfl
set_option maxRecDepth 100000 in
/-- A new block, and a set stored there. -/
theorem wl_newS {o2 : Oper} {rest : List Oper} {w : World} (hw : Region.wanted o (yielded ops a.tmps) = true) (ho : o.op = .alloc 25) (x y : Operand) (ho2 : o2.op = .store 25 x y) (hg2 : o2.guard = none)
    (hx : ∀ v, (a.put o.dst v).eval x = v) {s : SC} (hy : ∀ v, (a.put o.dst v).eval y = s.val)
    (h : ∀ W g, StIn W g s → Below w.heap.size w W → wpList Tryz.prog ops Q rest ((a.put o.dst (.pointer (some ⟨g, 0, none⟩))).put o2.dst undef) W) : wpList Tryz.prog ops Q (o :: o2 :: rest) a w := by
  refine wl_run hw (.pointer (some ⟨w.heap.size, 0, none⟩)) (w.alloc (.cells #[.bool false, .slice none 0 0, .bool false, .slice none 0 0] 25)) ?_ ?_
  · simp only [execOp, ho]
    go_simp
  · have hz : StIn (w.alloc (.cells #[.bool false, .slice none 0 0, .bool false, .slice none 0 0] 25)) w.heap.size SC.zero := heap_new _ _
    have ht : (w.alloc (.cells #[.bool false, .slice none 0 0, .bool false, .slice none 0 0] 25)).there w.heap.size 0 4 := there_of hz (by decide)
    refine wpList_store_mid hg2 25 x y ho2 w.heap.size 0 s.list.toArray (hx _) (hy _) ht (by rw [infoSt4]; rfl) (all_oneCell_toArray s.list_one) ?_
    refine h _ _ ?_ (Below.setCells w.heap.size (Nat.le_refl _) s.list 0 _ ((Below.refl _ w).alloc (Nat.le_refl _) _))
    exact heap_setCell (i := 3) (.slice s.q s.m s.e) (heap_setCell (i := 2) (.bool s.d) (heap_setCell (i := 1) (.slice s.p s.n s.c) (heap_setCell (i := 0) (.bool s.a) hz)))
end
theorem OwnB.sl {w : World} {B : Nat} {v : Value} {cs : List BxC} (h : OwnB w B v cs) : ∃ p c, v = .slice p cs.length c := by
  rcases h.form with ⟨rfl, rfl⟩ | ⟨g, cap, cur, rfl, _⟩
  · exact ⟨none, 0, rfl⟩
  · exact ⟨_, cap, rfl⟩
/-- Small: few ranges, few strings. -/
def smallBx (b : BoxV) : Bool := all4 fun i => smallB (b.get i)
theorem smallB_any (v : Value) (S : SetV) (w : World) (hv : SetAt w v S) : Calls Tryz.prog 89 #[v] w fun r w' => r = .returned (.bool (smallB S)) ∧ Below w.heap.size w w' := small_any v S w hv
theorem all4_no {f : Nat → Bool} {i : Nat} (hi : i < 4) (h : f i = false) : all4 f = false := by
  cases hq : all4 f
  · rfl
  · rw [(all4_iff f).1 hq i hi] at h; cases h
theorem fit_small {w : World} {v : Value} {b : BoxV} (h : BoxAt w v b) (hs : smallBx b = true) (hr : rightBx b = true) : FitBx b := by
  have hS : ∀ i, i < 4 → (b.get i).ints.length ≤ 6 ∧ (b.get i).strs.length ≤ 6 := fun i hi => by
    have := (all4_iff _).1 hs i hi
    unfold smallB at this
    rw [Bool.and_eq_true, decide_eq_true_eq, decide_eq_true_eq] at this
    exact this
  exact ⟨⟨fun i hi => ⟨(all4_iff _).1 hr i hi, h.i64 i hi⟩, fun i hi => by have := (hS i hi).2; omega⟩, fun i hi => by have := (hS i hi).1; omega, fun i hi => by have := (hS i hi).2; omega⟩
/-- May the boxes be a filter? -/
def rightF (l : List BoxV) : Bool := decide (l.length ≤ 4) && (l.all (fun b => smallBx b && rightBx b) && decide ((tidP l).length = l.length))
end Go.Proofs.YtlfhpocfacaaeaaGreat
/-
  The program's box.Small, box.Right, dnf.Right, dnf.Same.
-/
set_option linter.unusedSimpArgs false
set_option linter.unusedVariables false
namespace Go.Proofs.YtlfhpocfacaaeaaGreat
open Go.RowKit

set_option maxHeartbeats 4000000 in
set_option maxRecDepth 100000 in
theorem boxSmall_any (c : BxC) (b : BoxV) (w : World) (hv0 : BoxAt w c.val b) :
    Calls Tryz.prog 52 #[c.val] w fun r w' => r = .returned (.bool (smallBx b)) ∧ Below w.heap.size w w' := by
  have hv := hv0
  have D := Below.refl w.heap.size w
  go_enter Tryz.func52, Tryz.ntmps52
  refine wp_seq_k (fun K1 hK1 => ?_)
  refine wp_region_lit ?_
  refine wl_boxBc (o := ⟨_, _, _, _, _, _⟩) (by rfl) _ rfl rfl (fun v1 gb1 hggb1 IO1 kb => ?_)
  simp only [Act.put, List.setIfInBounds_toArray, List.set_cons_zero, List.set_cons_succ]
  replace D := D.trans (kb.mono D.size)
  replace hv := hv.on kb
  clear kb
  refine wl_yield (o := ⟨_, _, _, _, _, _⟩) (.bool false) (yl_assign (by rfl) _ rfl _ rfl) ?_
  simp only [Act.put, List.setIfInBounds_toArray, List.set_cons_zero, List.set_cons_succ]
  refine wpList_nil ?_
  refine hK1 _ _ ?_
  clear hK1 K1
  refine wp_seq_k (fun K2 hK2 => ?_)
  refine wp_seq_k (fun K3 hK3 => ?_)
  refine wp_region_lit ?_
  refine wl_yield (o := ⟨_, _, _, _, _, _⟩) (BxC.val c) (yl_bx (by rfl) _ rfl _ _ rfl _ (fun _ h => by subst h; exact BcIn.at IO1)) ?_
  simp only [Act.put, List.setIfInBounds_toArray, List.set_cons_zero, List.set_cons_succ]
  refine wl_yield (o := ⟨_, _, _, _, _, _⟩) (.int .i64 0) (yl_move (by rfl) _ rfl _ rfl) ?_
  simp only [Act.put, List.setIfInBounds_toArray, List.set_cons_zero, List.set_cons_succ]
  refine wpList_nil ?_
  refine hK3 _ _ ?_
  clear hK3 K3
  refine wp_block ?_
  go_loopw [6] (fun i wr => ∃ k : Nat, i = .int .i64 k ∧ k ≤ 4 ∧ (∀ j, j < k → smallB (b.get j) = true) ∧ Below w.heap.size w wr) (fun i _ => 4 - (intOf i).toNat)
  case atStart => exact ⟨0, rfl, by omega, fun j h => by omega, D⟩
  case round =>
    replace hv := hv0
    clear D
    obtain ⟨k, rfl, hk, hF, D⟩ := hrel
    replace hv := hv.on D
    by_cases hlt : k < 4
    · refine wp_seq_k (fun K4 hK4 => ?_)
      refine wp_region_lit ?_
      refine wl_yield (o := ⟨_, _, _, _, _, _⟩) (.bool true) (yl_lssI (by rfl) _ _ _ rfl (((k : Nat) : Int)) (4) true rfl rfl (decide_eq_true (by omega))) ?_
      simp only [Act.put, List.setIfInBounds_toArray, List.set_cons_zero, List.set_cons_succ]
      refine wpList_nil ?_
      refine hK4 _ _ ?_
      clear hK4 K4
      refine wp_seq_k (fun K5 hK5 => ?_)
      refine wp_cond_true rfl ?_
      refine wp_skip ?_
      refine hK5 _ _ ?_
      clear hK5 K5
      refine wp_seq_k (fun K6 hK6 => ?_)
      refine wp_block ?_
      refine wp_seq_k (fun K7 hK7 => ?_)
      refine wp_region_lit ?_
      refine wl_yield (o := ⟨_, _, _, _, _, _⟩) (SC.val (BxC.sc c k)) (yl_bxIdx (by rfl) _ _ rfl c k rfl rfl (hlt)) ?_
      simp only [Act.put, List.setIfInBounds_toArray, List.set_cons_zero, List.set_cons_succ]
      refine wl_newS (o := ⟨_, _, _, _, _, _⟩) (o2 := ⟨_, _, _, _, _, _⟩) (by rfl) rfl _ _ rfl rfl (fun _ => rfl) (fun _ => rfl) (fun v2 gb2 IO4 kb => ?_)
      simp only [Act.put, List.setIfInBounds_toArray, List.set_cons_zero, List.set_cons_succ]
      replace D := D.trans (kb.mono D.size)
      replace hv := hv.on kb
      clear kb
      refine wpList_nil ?_
      refine hK7 _ _ ?_
      clear hK7 K7
      refine wp_seq_k (fun K8 hK8 => ?_)
      refine wp_region_lit ?_
      refine wl_yield (o := ⟨_, _, _, _, _, _⟩) (SC.val (BxC.sc c k)) (yl_set (by rfl) _ rfl _ 0 rfl _ _ _ _ (fun _ h => by subst h; exact stCells IO4)) ?_
      simp only [Act.put, List.setIfInBounds_toArray, List.set_cons_zero, List.set_cons_succ]
      refine wl_call (o := ⟨_, _, _, _, _, _⟩) (by rfl) 89 _ _ rfl #[SC.val (BxC.sc c k)] rfl (run_call Tryz.func89 (by kernel_rfl) (by kernel_rfl)) ?_
      refine (smallB_any _ (b.get k) _ (hv.sc k hlt)).mono ?_
      rintro r v3 ⟨rfl, kb⟩
      replace D := D.trans (kb.mono D.size)
      replace hv := hv.on kb
      replace IO4 := IO4.on kb
      clear kb
      cases hq : smallB (b.get k)
      · refine ⟨.bool false, rfl, ?_⟩
        simp only [Act.put, List.setIfInBounds_toArray, List.set_cons_zero, List.set_cons_succ]
        refine wl_yield (o := ⟨_, _, _, _, _, _⟩) (.bool true) (yl_not (by rfl) _ _ rfl false rfl) ?_
        simp only [Act.put, List.setIfInBounds_toArray, List.set_cons_zero, List.set_cons_succ]
        refine wpList_nil ?_
        refine hK8 _ _ ?_
        clear hK8 K8
        refine wp_cond_true rfl ?_
        refine wp_seq_k (fun K9 hK9 => ?_)
        refine wp_region_lit ?_
        refine wl_yield (o := ⟨_, _, _, _, _, _⟩) (.bool false) (yl_assign (by rfl) _ rfl _ rfl) ?_
        simp only [Act.put, List.setIfInBounds_toArray, List.set_cons_zero, List.set_cons_succ]
        refine wpList_nil ?_
        refine hK9 _ _ ?_
        clear hK9 K9
        refine wp_ret ?_
        go_ret
        exact ⟨by rw [show smallBx b = false from all4_no hlt hq]; rfl, D⟩
      · refine ⟨.bool true, rfl, ?_⟩
        simp only [Act.put, List.setIfInBounds_toArray, List.set_cons_zero, List.set_cons_succ]
        refine wl_yield (o := ⟨_, _, _, _, _, _⟩) (.bool false) (yl_not (by rfl) _ _ rfl true rfl) ?_
        simp only [Act.put, List.setIfInBounds_toArray, List.set_cons_zero, List.set_cons_succ]
        refine wpList_nil ?_
        refine hK8 _ _ ?_
        clear hK8 K8
        refine wp_cond_false rfl ?_
        refine wp_skip ?_
        refine hK6 _ _ ?_
        clear hK6 K6
        refine wp_region_lit ?_
        refine wl_yield (o := ⟨_, _, _, _, _, _⟩) (.int .i64 (k + 1 : Nat)) (yl_addI (by rfl) _ _ _ rfl (((k : Nat) : Int)) (1) (((k + 1 : Nat) : Int)) rfl rfl (by omega) (by omega) (by omega)) ?_
        simp only [Act.put, List.setIfInBounds_toArray, List.set_cons_zero, List.set_cons_succ]
        refine wl_yield (o := ⟨_, _, _, _, _, _⟩) (.int .i64 (k + 1 : Nat)) (yl_move (by rfl) _ rfl _ rfl) ?_
        simp only [Act.put, List.setIfInBounds_toArray, List.set_cons_zero, List.set_cons_succ]
        refine wpList_nil ?_
        show _ ∧ _
        go_roundw
        case rel => exact ⟨k + 1, rfl, by omega, fun j hj => by
          rcases Nat.lt_succ_iff_lt_or_eq.1 hj with h | rfl
          · exact hF j h
          · exact hq, D⟩
        case measure => simp [intOf]; omega
    · refine wp_seq_k (fun K4 hK4 => ?_)
      refine wp_region_lit ?_
      refine wl_yield (o := ⟨_, _, _, _, _, _⟩) (.bool false) (yl_lssI (by rfl) _ _ _ rfl (((k : Nat) : Int)) (4) false rfl rfl (decide_eq_false (by omega))) ?_
      simp only [Act.put, List.setIfInBounds_toArray, List.set_cons_zero, List.set_cons_succ]
      refine wpList_nil ?_
      refine hK4 _ _ ?_
      clear hK4 K4
      refine wp_seq_k (fun K5 hK5 => ?_)
      refine wp_cond_false rfl ?_
      refine wp_exit ?_
      refine hK2 _ _ ?_
      clear hK5 K5 hK2 K2
      refine wp_seq_k (fun K6 hK6 => ?_)
      refine wp_region_lit ?_
      refine wl_yield (o := ⟨_, _, _, _, _, _⟩) (.bool true) (yl_assign (by rfl) _ rfl _ rfl) ?_
      simp only [Act.put, List.setIfInBounds_toArray, List.set_cons_zero, List.set_cons_succ]
      refine wpList_nil ?_
      refine hK6 _ _ ?_
      clear hK6 K6
      refine wp_ret ?_
      go_ret
      exact ⟨by rw [show smallBx b = true from (all4_iff _).2 fun i hi => hF i (by omega)]; rfl, D⟩
set_option maxHeartbeats 4000000 in
set_option maxRecDepth 100000 in
theorem boxRight_any (c : BxC) (b : BoxV) (w : World) (hv0 : BoxAt w c.val b) :
    Calls Tryz.prog 53 #[c.val] w fun r w' => r = .returned (.bool (rightBx b)) ∧ Below w.heap.size w w' := by
  have hv := hv0
  have D := Below.refl w.heap.size w
  go_enter Tryz.func53, Tryz.ntmps53
  refine wp_seq_k (fun K1 hK1 => ?_)
  refine wp_region_lit ?_
  refine wl_boxBc (o := ⟨_, _, _, _, _, _⟩) (by rfl) _ rfl rfl (fun v1 gb1 hggb1 IO1 kb => ?_)
  simp only [Act.put, List.setIfInBounds_toArray, List.set_cons_zero, List.set_cons_succ]
  replace D := D.trans (kb.mono D.size)
  replace hv := hv.on kb
  clear kb
  refine wl_yield (o := ⟨_, _, _, _, _, _⟩) (.bool false) (yl_assign (by rfl) _ rfl _ rfl) ?_
  simp only [Act.put, List.setIfInBounds_toArray, List.set_cons_zero, List.set_cons_succ]
  refine wpList_nil ?_
  refine hK1 _ _ ?_
  clear hK1 K1
  refine wp_seq_k (fun K2 hK2 => ?_)
  refine wp_seq_k (fun K3 hK3 => ?_)
  refine wp_region_lit ?_
  refine wl_yield (o := ⟨_, _, _, _, _, _⟩) (BxC.val c) (yl_bx (by rfl) _ rfl _ _ rfl _ (fun _ h => by subst h; exact BcIn.at IO1)) ?_
  simp only [Act.put, List.setIfInBounds_toArray, List.set_cons_zero, List.set_cons_succ]
  refine wl_yield (o := ⟨_, _, _, _, _, _⟩) (.int .i64 0) (yl_move (by rfl) _ rfl _ rfl) ?_
  simp only [Act.put, List.setIfInBounds_toArray, List.set_cons_zero, List.set_cons_succ]
  refine wpList_nil ?_
  refine hK3 _ _ ?_
  clear hK3 K3
  refine wp_block ?_
  go_loopw [6] (fun i wr => ∃ k : Nat, i = .int .i64 k ∧ k ≤ 4 ∧ (∀ j, j < k → rightSet (b.get j) = true) ∧ Below w.heap.size w wr) (fun i _ => 4 - (intOf i).toNat)
  case atStart => exact ⟨0, rfl, by omega, fun j h => by omega, D⟩
  case round =>
    replace hv := hv0
    clear D
    obtain ⟨k, rfl, hk, hF, D⟩ := hrel
    replace hv := hv.on D
    by_cases hlt : k < 4
    · refine wp_seq_k (fun K4 hK4 => ?_)
      refine wp_region_lit ?_
      refine wl_yield (o := ⟨_, _, _, _, _, _⟩) (.bool true) (yl_lssI (by rfl) _ _ _ rfl (((k : Nat) : Int)) (4) true rfl rfl (decide_eq_true (by omega))) ?_
      simp only [Act.put, List.setIfInBounds_toArray, List.set_cons_zero, List.set_cons_succ]
      refine wpList_nil ?_
      refine hK4 _ _ ?_
      clear hK4 K4
      refine wp_seq_k (fun K5 hK5 => ?_)
      refine wp_cond_true rfl ?_
      refine wp_skip ?_
      refine hK5 _ _ ?_
      clear hK5 K5
      refine wp_seq_k (fun K6 hK6 => ?_)
      refine wp_block ?_
      refine wp_seq_k (fun K7 hK7 => ?_)
      refine wp_region_lit ?_
      refine wl_yield (o := ⟨_, _, _, _, _, _⟩) (SC.val (BxC.sc c k)) (yl_bxIdx (by rfl) _ _ rfl c k rfl rfl (hlt)) ?_
      simp only [Act.put, List.setIfInBounds_toArray, List.set_cons_zero, List.set_cons_succ]
      refine wl_newS (o := ⟨_, _, _, _, _, _⟩) (o2 := ⟨_, _, _, _, _, _⟩) (by rfl) rfl _ _ rfl rfl (fun _ => rfl) (fun _ => rfl) (fun v2 gb2 IO4 kb => ?_)
      simp only [Act.put, List.setIfInBounds_toArray, List.set_cons_zero, List.set_cons_succ]
      replace D := D.trans (kb.mono D.size)
      replace hv := hv.on kb
      clear kb
      refine wpList_nil ?_
      refine hK7 _ _ ?_
      clear hK7 K7
      refine wp_seq_k (fun K8 hK8 => ?_)
      refine wp_region_lit ?_
      refine wl_yield (o := ⟨_, _, _, _, _, _⟩) (SC.val (BxC.sc c k)) (yl_set (by rfl) _ rfl _ 0 rfl _ _ _ _ (fun _ h => by subst h; exact stCells IO4)) ?_
      simp only [Act.put, List.setIfInBounds_toArray, List.set_cons_zero, List.set_cons_succ]
      refine wl_call (o := ⟨_, _, _, _, _, _⟩) (by rfl) 90 _ _ rfl #[SC.val (BxC.sc c k)] rfl (run_call Tryz.func90 (by kernel_rfl) (by kernel_rfl)) ?_
      refine (setRight_any _ (b.get k) _ (hv.sc k hlt)).mono ?_
      rintro r v3 ⟨rfl, kb⟩
      replace D := D.trans (kb.mono D.size)
      replace hv := hv.on kb
      replace IO4 := IO4.on kb
      clear kb
      cases hq : rightSet (b.get k)
      · refine ⟨.bool false, rfl, ?_⟩
        simp only [Act.put, List.setIfInBounds_toArray, List.set_cons_zero, List.set_cons_succ]
        refine wl_yield (o := ⟨_, _, _, _, _, _⟩) (.bool true) (yl_not (by rfl) _ _ rfl false rfl) ?_
        simp only [Act.put, List.setIfInBounds_toArray, List.set_cons_zero, List.set_cons_succ]
        refine wpList_nil ?_
        refine hK8 _ _ ?_
        clear hK8 K8
        refine wp_cond_true rfl ?_
        refine wp_seq_k (fun K9 hK9 => ?_)
        refine wp_region_lit ?_
        refine wl_yield (o := ⟨_, _, _, _, _, _⟩) (.bool false) (yl_assign (by rfl) _ rfl _ rfl) ?_
        simp only [Act.put, List.setIfInBounds_toArray, List.set_cons_zero, List.set_cons_succ]
        refine wpList_nil ?_
        refine hK9 _ _ ?_
        clear hK9 K9
        refine wp_ret ?_
        go_ret
        exact ⟨by rw [show rightBx b = false from all4_no hlt hq]; rfl, D⟩
      · refine ⟨.bool true, rfl, ?_⟩
        simp only [Act.put, List.setIfInBounds_toArray, List.set_cons_zero, List.set_cons_succ]
        refine wl_yield (o := ⟨_, _, _, _, _, _⟩) (.bool false) (yl_not (by rfl) _ _ rfl true rfl) ?_
        simp only [Act.put, List.setIfInBounds_toArray, List.set_cons_zero, List.set_cons_succ]
        refine wpList_nil ?_
        refine hK8 _ _ ?_
        clear hK8 K8
        refine wp_cond_false rfl ?_
        refine wp_skip ?_
        refine hK6 _ _ ?_
        clear hK6 K6
        refine wp_region_lit ?_
        refine wl_yield (o := ⟨_, _, _, _, _, _⟩) (.int .i64 (k + 1 : Nat)) (yl_addI (by rfl) _ _ _ rfl (((k : Nat) : Int)) (1) (((k + 1 : Nat) : Int)) rfl rfl (by omega) (by omega) (by omega)) ?_
        simp only [Act.put, List.setIfInBounds_toArray, List.set_cons_zero, List.set_cons_succ]
        refine wl_yield (o := ⟨_, _, _, _, _, _⟩) (.int .i64 (k + 1 : Nat)) (yl_move (by rfl) _ rfl _ rfl) ?_
        simp only [Act.put, List.setIfInBounds_toArray, List.set_cons_zero, List.set_cons_succ]
        refine wpList_nil ?_
        show _ ∧ _
        go_roundw
        case rel => exact ⟨k + 1, rfl, by omega, fun j hj => by
          rcases Nat.lt_succ_iff_lt_or_eq.1 hj with h | rfl
          · exact hF j h
          · exact hq, D⟩
        case measure => simp [intOf]; omega
    · refine wp_seq_k (fun K4 hK4 => ?_)
      refine wp_region_lit ?_
      refine wl_yield (o := ⟨_, _, _, _, _, _⟩) (.bool false) (yl_lssI (by rfl) _ _ _ rfl (((k : Nat) : Int)) (4) false rfl rfl (decide_eq_false (by omega))) ?_
      simp only [Act.put, List.setIfInBounds_toArray, List.set_cons_zero, List.set_cons_succ]
      refine wpList_nil ?_
      refine hK4 _ _ ?_
      clear hK4 K4
      refine wp_seq_k (fun K5 hK5 => ?_)
      refine wp_cond_false rfl ?_
      refine wp_exit ?_
      refine hK2 _ _ ?_
      clear hK5 K5 hK2 K2
      refine wp_seq_k (fun K6 hK6 => ?_)
      refine wp_region_lit ?_
      refine wl_yield (o := ⟨_, _, _, _, _, _⟩) (.bool true) (yl_assign (by rfl) _ rfl _ rfl) ?_
      simp only [Act.put, List.setIfInBounds_toArray, List.set_cons_zero, List.set_cons_succ]
      refine wpList_nil ?_
      refine hK6 _ _ ?_
      clear hK6 K6
      refine wp_ret ?_
      go_ret
      exact ⟨by rw [show rightBx b = true from (all4_iff _).2 fun i hi => hF i (by omega)]; rfl, D⟩
set_option maxHeartbeats 4000000 in
set_option maxRecDepth 100000 in
theorem dnfRight_any (v : Value) (l : List BoxV) (w : World) (hv : Bxs w v l) :
    Calls Tryz.prog 23 #[v] w fun r w' => r = .returned (.bool (rightF l)) ∧ Below w.heap.size w w' := by
  obtain ⟨cs, hr, ha⟩ := hv
  have hbig := hr.1
  have hcl := ha.1
  obtain ⟨q, cp, rfl⟩ := hr.form
  have D := Below.refl w.heap.size w
  go_enter Tryz.func23, Tryz.ntmps23
  refine wp_seq_k (fun K1 hK1 => ?_)
  refine wp_region_lit ?_
  refine wl_yield (o := ⟨_, _, _, _, _, _⟩) (.bool false) (yl_assign (by rfl) _ rfl _ rfl) ?_
  simp only [Act.put, List.setIfInBounds_toArray, List.set_cons_zero, List.set_cons_succ]
  refine wpList_nil ?_
  refine hK1 _ _ ?_
  clear hK1 K1
  refine wp_seq_k (fun K2 hK2 => ?_)
  refine wp_seq_k (fun K3 hK3 => ?_)
  refine wp_region_lit ?_
  refine wl_yield (o := ⟨_, _, _, _, _, _⟩) (.slice q cs.length cp) (yl_move (by rfl) _ rfl _ rfl) ?_
  simp only [Act.put, List.setIfInBounds_toArray, List.set_cons_zero, List.set_cons_succ]
  refine wl_yield (o := ⟨_, _, _, _, _, _⟩) (.int .i64 (cs.length : Nat)) (yl_lenF (by rfl) _ rfl _ _ _ rfl) ?_
  simp only [Act.put, List.setIfInBounds_toArray, List.set_cons_zero, List.set_cons_succ]
  refine wl_yield (o := ⟨_, _, _, _, _, _⟩) (.bool (decide (4 < cs.length))) (yl_gtrI (by rfl) _ _ _ rfl (((cs.length : Nat) : Int)) (4) (decide (4 < cs.length)) rfl rfl (by rw [decide_eq_decide]; omega)) ?_
  simp only [Act.put, List.setIfInBounds_toArray, List.set_cons_zero, List.set_cons_succ]
  refine wpList_nil ?_
  refine hK3 _ _ ?_
  clear hK3 K3
  refine wp_cond_split (t := (decide (4 < cs.length))) rfl (fun hc => ?_) (fun hc => ?_)
  · have h4 : 4 < cs.length := of_decide_eq_true hc
    refine wp_seq_k (fun K4 hK4 => ?_)
    refine wp_region_lit ?_
    refine wl_yield (o := ⟨_, _, _, _, _, _⟩) (.bool false) (yl_assign (by rfl) _ rfl _ rfl) ?_
    simp only [Act.put, List.setIfInBounds_toArray, List.set_cons_zero, List.set_cons_succ]
    refine wpList_nil ?_
    refine hK4 _ _ ?_
    clear hK4 K4
    refine wp_ret ?_
    go_ret
    exact ⟨by unfold rightF; rw [decide_eq_false (show ¬ l.length ≤ 4 by omega), Bool.false_and]; rfl, D⟩
  · have h4 : ¬ 4 < cs.length := of_decide_eq_false hc
    refine wp_skip ?_
    refine hK2 _ _ ?_
    clear hK2 K2
    refine wp_seq_k (fun K4 hK4 => ?_)
    refine wp_seq_k (fun K5 hK5 => ?_)
    refine wp_region_lit ?_
    refine wl_yield (o := ⟨_, _, _, _, _, _⟩) (.slice q cs.length cp) (yl_move (by rfl) _ rfl _ rfl) ?_
    simp only [Act.put, List.setIfInBounds_toArray, List.set_cons_zero, List.set_cons_succ]
    refine wl_yield (o := ⟨_, _, _, _, _, _⟩) (.int .i64 (cs.length : Nat)) (yl_lenF (by rfl) _ rfl _ _ _ rfl) ?_
    simp only [Act.put, List.setIfInBounds_toArray, List.set_cons_zero, List.set_cons_succ]
    refine wl_yield (o := ⟨_, _, _, _, _, _⟩) (.int .i64 0) (yl_move (by rfl) _ rfl _ rfl) ?_
    simp only [Act.put, List.setIfInBounds_toArray, List.set_cons_zero, List.set_cons_succ]
    refine wpList_nil ?_
    refine hK5 _ _ ?_
    clear hK5 K5
    refine wp_block ?_
    go_loopw [10] (fun i wr => ∃ k : Nat, i = .int .i64 k ∧ k ≤ cs.length ∧ (∀ j, j < k → (smallBx (l.getD j zBox) && rightBx (l.getD j zBox)) = true) ∧ Below w.heap.size w wr) (fun i _ => cs.length - (intOf i).toNat)
    case atStart => exact ⟨0, rfl, by omega, fun j h => by omega, D⟩
    case round =>
      clear D
      obtain ⟨k, rfl, hk, hF, D⟩ := hrel
      by_cases hlt : k < cs.length
      · have hkl : k < l.length := by rw [← ha.1]; exact hlt
        obtain ⟨g, off, rfl, HC⟩ := (hr.on D).at.2 k hlt
        have hb := ha.2 k hkl
        refine wp_seq_k (fun K6 hK6 => ?_)
        refine wp_region_lit ?_
        refine wl_yield (o := ⟨_, _, _, _, _, _⟩) (.bool true) (yl_lssI (by rfl) _ _ _ rfl (((k : Nat) : Int)) (((cs.length : Nat) : Int)) true rfl rfl (decide_eq_true (by omega))) ?_
        simp only [Act.put, List.setIfInBounds_toArray, List.set_cons_zero, List.set_cons_succ]
        refine wpList_nil ?_
        refine hK6 _ _ ?_
        clear hK6 K6
        refine wp_seq_k (fun K7 hK7 => ?_)
        refine wp_cond_true rfl ?_
        refine wp_skip ?_
        refine hK7 _ _ ?_
        clear hK7 K7
        refine wp_seq_k (fun K8 hK8 => ?_)
        refine wp_block ?_
        refine wp_seq_k (fun K9 hK9 => ?_)
        refine wp_region_lit ?_
        refine wl_yield (o := ⟨_, _, _, _, _, _⟩) (.pointer (some ⟨g, off + k * 16, none⟩)) (yl_fxAt (by rfl) _ _ rfl g (off) _ _ (k) rfl rfl (hlt)) ?_
        simp only [Act.put, List.setIfInBounds_toArray, List.set_cons_zero, List.set_cons_succ]
        refine wl_yield (o := ⟨_, _, _, _, _, _⟩) (BxC.val (cs.getD k bc0)) (yl_bx (by rfl) _ rfl _ _ rfl _ (fun _ h => by subst h; exact HC)) ?_
        simp only [Act.put, List.setIfInBounds_toArray, List.set_cons_zero, List.set_cons_succ]
        refine wl_newB (o := ⟨_, _, _, _, _, _⟩) (o2 := ⟨_, _, _, _, _, _⟩) (by rfl) rfl _ _ rfl rfl (fun _ => rfl) (fun _ => rfl) (fun v1 gb1 hggb1 IO4 kb => ?_)
        simp only [Act.put, List.setIfInBounds_toArray, List.set_cons_zero, List.set_cons_succ]
        replace D := D.trans (kb.mono D.size)
        clear kb
        refine wpList_nil ?_
        refine hK9 _ _ ?_
        clear hK9 K9
        refine wp_seq_k (fun K10 hK10 => ?_)
        refine wp_region_lit ?_
        refine wl_yield (o := ⟨_, _, _, _, _, _⟩) (BxC.val (cs.getD k bc0)) (yl_bx (by rfl) _ rfl _ _ rfl _ (fun _ h => by subst h; exact BcIn.at IO4)) ?_
        simp only [Act.put, List.setIfInBounds_toArray, List.set_cons_zero, List.set_cons_succ]
        refine wl_call (o := ⟨_, _, _, _, _, _⟩) (by rfl) 52 _ _ rfl #[BxC.val (cs.getD k bc0)] rfl (run_call Tryz.func52 (by kernel_rfl) (by kernel_rfl)) ?_
        refine (boxSmall_any (cs.getD k bc0) (l.getD k zBox) _ (hb.on D)).mono ?_
        rintro r v2 ⟨rfl, kb⟩
        replace D := D.trans (kb.mono D.size)
        replace IO4 := IO4.on kb
        clear kb
        cases hq1 : smallBx (l.getD k zBox)
        · refine ⟨.bool false, rfl, ?_⟩
          simp only [Act.put, List.setIfInBounds_toArray, List.set_cons_zero, List.set_cons_succ]
          refine wl_yield (o := ⟨_, _, _, _, _, _⟩) (.bool true) (yl_not (by rfl) _ _ rfl false rfl) ?_
          simp only [Act.put, List.setIfInBounds_toArray, List.set_cons_zero, List.set_cons_succ]
          refine wl_yield (o := ⟨_, _, _, _, _, _⟩) (.bool true) (yl_move (by rfl) _ rfl _ rfl) ?_
          simp only [Act.put, List.setIfInBounds_toArray, List.set_cons_zero, List.set_cons_succ]
          refine wl_yield (o := ⟨_, _, _, _, _, _⟩) undef (yl_undef (by rfl)) ?_
          simp only [Act.put, List.setIfInBounds_toArray, List.set_cons_zero, List.set_cons_succ]
          refine wl_yield (o := ⟨_, _, _, _, _, _⟩) undef (yl_undef (by rfl)) ?_
          simp only [Act.put, List.setIfInBounds_toArray, List.set_cons_zero, List.set_cons_succ]
          refine wl_yield (o := ⟨_, _, _, _, _, _⟩) undef (yl_undef (by rfl)) ?_
          simp only [Act.put, List.setIfInBounds_toArray, List.set_cons_zero, List.set_cons_succ]
          refine wl_yield (o := ⟨_, _, _, _, _, _⟩) (.bool true) (yl_pickT (by rfl) _ _ _ rfl rfl _ rfl) ?_
          simp only [Act.put, List.setIfInBounds_toArray, List.set_cons_zero, List.set_cons_succ]
          refine wpList_nil ?_
          refine hK10 _ _ ?_
          clear hK10 K10
          refine wp_cond_true rfl ?_
          refine wp_seq_k (fun K11 hK11 => ?_)
          refine wp_region_lit ?_
          refine wl_yield (o := ⟨_, _, _, _, _, _⟩) (.bool false) (yl_assign (by rfl) _ rfl _ rfl) ?_
          simp only [Act.put, List.setIfInBounds_toArray, List.set_cons_zero, List.set_cons_succ]
          refine wpList_nil ?_
          refine hK11 _ _ ?_
          clear hK11 K11
          refine wp_ret ?_
          go_ret
          exact ⟨by unfold rightF; rw [show l.all (fun b => smallBx b && rightBx b) = false from List.all_eq_false.2 ⟨_, getB_mem hkl, by rw [hq1]; simp⟩, Bool.false_and, Bool.and_false]; rfl, D⟩
        · refine ⟨.bool true, rfl, ?_⟩
          simp only [Act.put, List.setIfInBounds_toArray, List.set_cons_zero, List.set_cons_succ]
          refine wl_yield (o := ⟨_, _, _, _, _, _⟩) (.bool false) (yl_not (by rfl) _ _ rfl true rfl) ?_
          simp only [Act.put, List.setIfInBounds_toArray, List.set_cons_zero, List.set_cons_succ]
          refine wl_yield (o := ⟨_, _, _, _, _, _⟩) (.bool false) (yl_move (by rfl) _ rfl _ rfl) ?_
          simp only [Act.put, List.setIfInBounds_toArray, List.set_cons_zero, List.set_cons_succ]
          refine wl_yield (o := ⟨_, _, _, _, _, _⟩) (BxC.val (cs.getD k bc0)) (yl_bx (by rfl) _ rfl _ _ rfl _ (fun _ h => by subst h; exact BcIn.at IO4)) ?_
          simp only [Act.put, List.setIfInBounds_toArray, List.set_cons_zero, List.set_cons_succ]
          refine wl_call (o := ⟨_, _, _, _, _, _⟩) (by rfl) 53 _ _ rfl #[BxC.val (cs.getD k bc0)] rfl (run_call Tryz.func53 (by kernel_rfl) (by kernel_rfl)) ?_
          refine (boxRight_any (cs.getD k bc0) (l.getD k zBox) _ (hb.on D)).mono ?_
          rintro r v3 ⟨rfl, kb⟩
          replace D := D.trans (kb.mono D.size)
          replace IO4 := IO4.on kb
          clear kb
          cases hq2 : rightBx (l.getD k zBox)
          · refine ⟨.bool false, rfl, ?_⟩
            simp only [Act.put, List.setIfInBounds_toArray, List.set_cons_zero, List.set_cons_succ]
            refine wl_yield (o := ⟨_, _, _, _, _, _⟩) (.bool true) (yl_not (by rfl) _ _ rfl false rfl) ?_
            simp only [Act.put, List.setIfInBounds_toArray, List.set_cons_zero, List.set_cons_succ]
            refine wl_yield (o := ⟨_, _, _, _, _, _⟩) (.bool true) (yl_pickF (by rfl) _ _ _ rfl rfl _ rfl) ?_
            simp only [Act.put, List.setIfInBounds_toArray, List.set_cons_zero, List.set_cons_succ]
            refine wpList_nil ?_
            refine hK10 _ _ ?_
            clear hK10 K10
            refine wp_cond_true rfl ?_
            refine wp_seq_k (fun K11 hK11 => ?_)
            refine wp_region_lit ?_
            refine wl_yield (o := ⟨_, _, _, _, _, _⟩) (.bool false) (yl_assign (by rfl) _ rfl _ rfl) ?_
            simp only [Act.put, List.setIfInBounds_toArray, List.set_cons_zero, List.set_cons_succ]
            refine wpList_nil ?_
            refine hK11 _ _ ?_
            clear hK11 K11
            refine wp_ret ?_
            go_ret
            exact ⟨by unfold rightF; rw [show l.all (fun b => smallBx b && rightBx b) = false from List.all_eq_false.2 ⟨_, getB_mem hkl, by rw [hq1, hq2]; simp⟩, Bool.false_and, Bool.and_false]; rfl, D⟩
          · refine ⟨.bool true, rfl, ?_⟩
            simp only [Act.put, List.setIfInBounds_toArray, List.set_cons_zero, List.set_cons_succ]
            refine wl_yield (o := ⟨_, _, _, _, _, _⟩) (.bool false) (yl_not (by rfl) _ _ rfl true rfl) ?_
            simp only [Act.put, List.setIfInBounds_toArray, List.set_cons_zero, List.set_cons_succ]
            refine wl_yield (o := ⟨_, _, _, _, _, _⟩) (.bool false) (yl_pickF (by rfl) _ _ _ rfl rfl _ rfl) ?_
            simp only [Act.put, List.setIfInBounds_toArray, List.set_cons_zero, List.set_cons_succ]
            refine wpList_nil ?_
            refine hK10 _ _ ?_
            clear hK10 K10
            refine wp_cond_false rfl ?_
            refine wp_skip ?_
            refine hK8 _ _ ?_
            clear hK8 K8
            refine wp_region_lit ?_
            refine wl_yield (o := ⟨_, _, _, _, _, _⟩) (.int .i64 (k + 1 : Nat)) (yl_addI (by rfl) _ _ _ rfl (((k : Nat) : Int)) (1) (((k + 1 : Nat) : Int)) rfl rfl (by omega) (by omega) (by omega)) ?_
            simp only [Act.put, List.setIfInBounds_toArray, List.set_cons_zero, List.set_cons_succ]
            refine wl_yield (o := ⟨_, _, _, _, _, _⟩) (.int .i64 (k + 1 : Nat)) (yl_move (by rfl) _ rfl _ rfl) ?_
            simp only [Act.put, List.setIfInBounds_toArray, List.set_cons_zero, List.set_cons_succ]
            refine wpList_nil ?_
            show _ ∧ _
            go_roundw
            case rel => exact ⟨k + 1, rfl, by omega, fun j hj => by
              rcases Nat.lt_succ_iff_lt_or_eq.1 hj with h | rfl
              · exact hF j h
              · rw [hq1, hq2]; rfl, D⟩
            case measure => simp [intOf]; omega
      · have hall : ∀ b ∈ l, (smallBx b && rightBx b) = true := fun b hb => by
          obtain ⟨i, hi, rfl⟩ := List.getElem_of_mem hb
          have := hF i (by omega)
          rwa [List.getD_eq_getElem?_getD, List.getElem?_eq_getElem hi] at this
        have fl : FitL l := fun b hb => by
          have h := hall b hb
          rw [Bool.and_eq_true] at h
          obtain ⟨i, hi, rfl⟩ := List.getElem_of_mem hb
          have hbx := ha.2 i hi
          rw [List.getD_eq_getElem?_getD, List.getD_eq_getElem?_getD, List.getElem?_eq_getElem hi] at hbx
          exact fit_small hbx h.1 h.2
        refine wp_seq_k (fun K6 hK6 => ?_)
        refine wp_region_lit ?_
        refine wl_yield (o := ⟨_, _, _, _, _, _⟩) (.bool false) (yl_lssI (by rfl) _ _ _ rfl (((k : Nat) : Int)) (((cs.length : Nat) : Int)) false rfl rfl (decide_eq_false (by omega))) ?_
        simp only [Act.put, List.setIfInBounds_toArray, List.set_cons_zero, List.set_cons_succ]
        refine wpList_nil ?_
        refine hK6 _ _ ?_
        clear hK6 K6
        refine wp_seq_k (fun K7 hK7 => ?_)
        refine wp_cond_false rfl ?_
        refine wp_exit ?_
        refine hK4 _ _ ?_
        clear hK7 K7 hK4 K4
        refine wp_seq_k (fun K8 hK8 => ?_)
        refine wp_region_lit ?_
        refine wl_yield (o := ⟨_, _, _, _, _, _⟩) (.slice q cs.length cp) (yl_move (by rfl) _ rfl _ rfl) ?_
        simp only [Act.put, List.setIfInBounds_toArray, List.set_cons_zero, List.set_cons_succ]
        refine wl_call (o := ⟨_, _, _, _, _, _⟩) (by rfl) 47 _ _ rfl #[.slice q cs.length cp] rfl (run_call Tryz.func47 (by kernel_rfl) (by kernel_rfl)) ?_
        refine (tidied_any _ l _ (⟨cs, hr.on D, ha.on D⟩) fl (by omega)).mono ?_
        rintro r v1 ⟨⟨u1, ks, rfl, hO, hA⟩, kb⟩
        replace D := D.trans (kb.mono D.size)
        clear kb
        obtain ⟨q1, c1, rfl⟩ := hO.sl
        refine ⟨.slice q1 ks.length c1, rfl, ?_⟩
        simp only [Act.put, List.setIfInBounds_toArray, List.set_cons_zero, List.set_cons_succ]
        refine wl_yield (o := ⟨_, _, _, _, _, _⟩) (.int .i64 (ks.length : Nat)) (yl_lenB (by rfl) _ rfl _ _ _ rfl) ?_
        simp only [Act.put, List.setIfInBounds_toArray, List.set_cons_zero, List.set_cons_succ]
        refine wl_yield (o := ⟨_, _, _, _, _, _⟩) (.slice q cs.length cp) (yl_move (by rfl) _ rfl _ rfl) ?_
        simp only [Act.put, List.setIfInBounds_toArray, List.set_cons_zero, List.set_cons_succ]
        refine wl_yield (o := ⟨_, _, _, _, _, _⟩) (.int .i64 (cs.length : Nat)) (yl_lenF (by rfl) _ rfl _ _ _ rfl) ?_
        simp only [Act.put, List.setIfInBounds_toArray, List.set_cons_zero, List.set_cons_succ]
        refine wl_yield (o := ⟨_, _, _, _, _, _⟩) (.bool (decide (ks.length = cs.length))) (yl_eqlI (by rfl) _ _ _ rfl (((ks.length : Nat) : Int)) (((cs.length : Nat) : Int)) (decide (ks.length = cs.length)) rfl rfl (by rw [decide_eq_decide]; omega)) ?_
        simp only [Act.put, List.setIfInBounds_toArray, List.set_cons_zero, List.set_cons_succ]
        refine wl_yield (o := ⟨_, _, _, _, _, _⟩) (.bool (decide (ks.length = cs.length))) (yl_assign (by rfl) _ rfl _ rfl) ?_
        simp only [Act.put, List.setIfInBounds_toArray, List.set_cons_zero, List.set_cons_succ]
        refine wpList_nil ?_
        refine hK8 _ _ ?_
        clear hK8 K8
        refine wp_ret ?_
        go_ret
        exact ⟨by unfold rightF; rw [decide_eq_true (show l.length ≤ 4 by omega), List.all_eq_true.2 hall, ← hA.1, ← ha.1]; rfl, D⟩
end Go.Proofs.YtlfhpocfacaaeaaGreat
/-
  The program's product and sum.
-/
set_option linter.unusedSimpArgs false
set_option linter.unusedVariables false
namespace Go.Proofs.YtlfhpocfacaaeaaGreat
open Go.RowKit

set_option maxHeartbeats 4000000 in
set_option maxRecDepth 100000 in
theorem product_any (v u0 : Value) (l m : List BoxV) (w : World) (hv : Bxs w v l) (hu : Bxs w u0 m) (fl : FitL l) (fm : FitL m) (hlm : l.length * m.length ≤ 1000) :
    Calls Tryz.prog 67 #[v, u0] w fun r w' => (∃ u ks B, r = .returned u ∧ OwnB w' B u ks ∧ AllBx w' ks (prodL l m)) ∧ Below w.heap.size w w' := by
  obtain ⟨cs, h1, ha⟩ := hv
  obtain ⟨ds, h2, hb⟩ := hu
  have hbig := h1.1
  have hbig2 := h2.1
  have hcl := ha.1
  have hdl := hb.1
  obtain ⟨N, hN⟩ : ∃ N, cs.length * ds.length = N := ⟨_, rfl⟩
  have hN1 : N ≤ 1000 := by rw [← hN, hcl, hdl]; exact hlm
  obtain ⟨q1, p1, rfl⟩ := h1.form
  obtain ⟨q2, p2, rfl⟩ := h2.form
  have D := Below.refl w.heap.size w
  go_enter Tryz.func67, Tryz.ntmps67
  refine wp_seq_k (fun K1 hK1 => ?_)
  refine wp_region_lit ?_
  refine wl_yield (o := ⟨_, _, _, _, _, _⟩) (.slice none 0 0) (yl_assign (by rfl) _ rfl _ rfl) ?_
  simp only [Act.put, List.setIfInBounds_toArray, List.set_cons_zero, List.set_cons_succ]
  refine wpList_nil ?_
  refine hK1 _ _ ?_
  clear hK1 K1
  refine wp_seq_k (fun K2 hK2 => ?_)
  refine wp_region_lit ?_
  refine wl_yield (o := ⟨_, _, _, _, _, _⟩) (.slice q1 cs.length p1) (yl_move (by rfl) _ rfl _ rfl) ?_
  simp only [Act.put, List.setIfInBounds_toArray, List.set_cons_zero, List.set_cons_succ]
  refine wl_yield (o := ⟨_, _, _, _, _, _⟩) (.int .i64 (cs.length : Nat)) (yl_lenB (by rfl) _ rfl _ _ _ rfl) ?_
  simp only [Act.put, List.setIfInBounds_toArray, List.set_cons_zero, List.set_cons_succ]
  refine wl_yield (o := ⟨_, _, _, _, _, _⟩) (.slice q2 ds.length p2) (yl_move (by rfl) _ rfl _ rfl) ?_
  simp only [Act.put, List.setIfInBounds_toArray, List.set_cons_zero, List.set_cons_succ]
  refine wl_yield (o := ⟨_, _, _, _, _, _⟩) (.int .i64 (ds.length : Nat)) (yl_lenB (by rfl) _ rfl _ _ _ rfl) ?_
  simp only [Act.put, List.setIfInBounds_toArray, List.set_cons_zero, List.set_cons_succ]
  refine wl_yield (o := ⟨_, _, _, _, _, _⟩) (.int .i64 (N : Nat)) (yl_mulI (by rfl) _ _ _ rfl (((cs.length : Nat) : Int)) (((ds.length : Nat) : Int)) ((N : Nat) : Int) rfl rfl (by rw [← hN]; exact (Int.natCast_mul _ _).symm) (by omega) (by omega)) ?_
  simp only [Act.put, List.setIfInBounds_toArray, List.set_cons_zero, List.set_cons_succ]
  refine wl_makeC (o := ⟨_, _, _, _, _, _⟩) (by rfl) _ _ rfl rfl N rfl (by omega) (fun u v1 hown kb => ?_)
  simp only [Act.put, List.setIfInBounds_toArray, List.set_cons_zero, List.set_cons_succ]
  replace D := D.trans (kb.mono D.size)
  clear kb
  refine wl_yield (o := ⟨_, _, _, _, _, _⟩) (u) (yl_assign (by rfl) _ rfl _ rfl) ?_
  simp only [Act.put, List.setIfInBounds_toArray, List.set_cons_zero, List.set_cons_succ]
  refine wpList_nil ?_
  refine hK2 _ _ ?_
  clear hK2 K2
  refine wp_seq_k (fun K3 hK3 => ?_)
  refine wp_seq_k (fun K4 hK4 => ?_)
  refine wp_region_lit ?_
  refine wl_yield (o := ⟨_, _, _, _, _, _⟩) (.slice q1 cs.length p1) (yl_move (by rfl) _ rfl _ rfl) ?_
  simp only [Act.put, List.setIfInBounds_toArray, List.set_cons_zero, List.set_cons_succ]
  refine wl_yield (o := ⟨_, _, _, _, _, _⟩) (.int .i64 (cs.length : Nat)) (yl_lenB (by rfl) _ rfl _ _ _ rfl) ?_
  simp only [Act.put, List.setIfInBounds_toArray, List.set_cons_zero, List.set_cons_succ]
  refine wl_yield (o := ⟨_, _, _, _, _, _⟩) (.int .i64 0) (yl_move (by rfl) _ rfl _ rfl) ?_
  simp only [Act.put, List.setIfInBounds_toArray, List.set_cons_zero, List.set_cons_succ]
  refine wpList_nil ?_
  refine hK4 _ _ ?_
  clear hK4 K4
  refine wp_block ?_
  go_loopw [5, 18] (fun u i wr => ∃ (k : Nat) (ks : List BxC), i = .int .i64 k ∧ k ≤ cs.length ∧ OwnC wr w.heap.size u ks ∧ ks.length = k * ds.length ∧ AllBx wr ks (prodL (l.take k) m) ∧ Below w.heap.size w wr) (fun _ i _ => cs.length - (intOf i).toNat)
  case atStart => exact ⟨0, [], rfl, by omega, hown, by simp, ⟨by simp [prodL], fun i h => by simp [prodL] at h⟩, D⟩
  case round =>
    clear D hown
    obtain ⟨k, ks, rfl, hk, hown, hkl, hA, D⟩ := hrel
    by_cases hlt : k < cs.length
    · have hkL : k < l.length := by rw [← ha.1]; exact hlt
      obtain ⟨g1, o1, rfl, HC⟩ := (h1.on D).at.2 k hlt
      have hb1 := ha.2 k hkL
      have hownR := hown
      refine wp_seq_k (fun K5 hK5 => ?_)
      refine wp_region_lit ?_
      refine wl_yield (o := ⟨_, _, _, _, _, _⟩) (.bool true) (yl_lssI (by rfl) _ _ _ rfl (((k : Nat) : Int)) (((cs.length : Nat) : Int)) true rfl rfl (decide_eq_true (by omega))) ?_
      simp only [Act.put, List.setIfInBounds_toArray, List.set_cons_zero, List.set_cons_succ]
      refine wpList_nil ?_
      refine hK5 _ _ ?_
      clear hK5 K5
      refine wp_seq_k (fun K6 hK6 => ?_)
      refine wp_cond_true rfl ?_
      refine wp_skip ?_
      refine hK6 _ _ ?_
      clear hK6 K6
      refine wp_seq_k (fun K7 hK7 => ?_)
      refine wp_block ?_
      refine wp_seq_k (fun K8 hK8 => ?_)
      refine wp_region_lit ?_
      refine wl_yield (o := ⟨_, _, _, _, _, _⟩) (.pointer (some ⟨g1, o1 + k * 16, none⟩)) (yl_bxAt (by rfl) _ _ rfl g1 (o1) _ _ (k) rfl rfl (hlt)) ?_
      simp only [Act.put, List.setIfInBounds_toArray, List.set_cons_zero, List.set_cons_succ]
      refine wl_yield (o := ⟨_, _, _, _, _, _⟩) (BxC.val (cs.getD k bc0)) (yl_bx (by rfl) _ rfl _ _ rfl _ (fun _ h => by subst h; exact HC)) ?_
      simp only [Act.put, List.setIfInBounds_toArray, List.set_cons_zero, List.set_cons_succ]
      refine wl_newB (o := ⟨_, _, _, _, _, _⟩) (o2 := ⟨_, _, _, _, _, _⟩) (by rfl) rfl _ _ rfl rfl (fun _ => rfl) (fun _ => rfl) (fun v2 gb2 hggb2 H7 kb => ?_)
      simp only [Act.put, List.setIfInBounds_toArray, List.set_cons_zero, List.set_cons_succ]
      replace D := D.trans (kb.mono D.size)
      replace hown := hown.on kb
      replace hA := hA.on kb
      clear kb
      refine wpList_nil ?_
      refine hK8 _ _ ?_
      clear hK8 K8
      refine wp_seq_k (fun K9 hK9 => ?_)
      refine wp_region_lit ?_
      refine wl_yield (o := ⟨_, _, _, _, _, _⟩) (.slice q2 ds.length p2) (yl_move (by rfl) _ rfl _ rfl) ?_
      simp only [Act.put, List.setIfInBounds_toArray, List.set_cons_zero, List.set_cons_succ]
      refine wl_yield (o := ⟨_, _, _, _, _, _⟩) (.int .i64 (ds.length : Nat)) (yl_lenB (by rfl) _ rfl _ _ _ rfl) ?_
      simp only [Act.put, List.setIfInBounds_toArray, List.set_cons_zero, List.set_cons_succ]
      refine wl_yield (o := ⟨_, _, _, _, _, _⟩) (.int .i64 0) (yl_move (by rfl) _ rfl _ rfl) ?_
      simp only [Act.put, List.setIfInBounds_toArray, List.set_cons_zero, List.set_cons_succ]
      refine wpList_nil ?_
      refine hK9 _ _ ?_
      clear hK9 K9
      refine wp_block ?_
      have hne := hownR.own.ne hggb2
      go_loopw [5, 24] (fun u i wr => ∃ (j : Nat) (ks' : List BxC), i = .int .i64 j ∧ j ≤ ds.length ∧ OwnC wr w.heap.size u ks' ∧ ks'.length = k * ds.length + j ∧ AllBx wr ks' (prodL (l.take k) m ++ (m.take j).map fun b => andBx (l.getD k zBox) b) ∧ BcIn wr gb2 (cs.getD k bc0) ∧ some gb2 ≠ u.ownBlock ∧ Below w.heap.size w wr) (fun _ i _ => ds.length - (intOf i).toNat)
      case atStart => exact ⟨0, ks, rfl, by omega, hown, by omega, by rw [List.take_zero, List.map_nil, List.append_nil]; exact hA, H7, hne, D⟩
      case round =>
        clear D hown hA H7 hne
        obtain ⟨j, ks', rfl, hj, hown, hkl', hA, H7, hne, D⟩ := hrel
        by_cases hlt2 : j < ds.length
        · have hjM : j < m.length := by rw [← hb.1]; exact hlt2
          obtain ⟨g2, o2, rfl, HC2⟩ := (h2.on D).at.2 j hlt2
          have hb2 := hb.2 j hjM
          have hixN := idx_lt hlt hlt2 hN
          refine wp_seq_k (fun K10 hK10 => ?_)
          refine wp_region_lit ?_
          refine wl_yield (o := ⟨_, _, _, _, _, _⟩) (.bool true) (yl_lssI (by rfl) _ _ _ rfl (((j : Nat) : Int)) (((ds.length : Nat) : Int)) true rfl rfl (decide_eq_true (by omega))) ?_
          simp only [Act.put, List.setIfInBounds_toArray, List.set_cons_zero, List.set_cons_succ]
          refine wpList_nil ?_
          refine hK10 _ _ ?_
          clear hK10 K10
          refine wp_seq_k (fun K11 hK11 => ?_)
          refine wp_cond_true rfl ?_
          refine wp_skip ?_
          refine hK11 _ _ ?_
          clear hK11 K11
          refine wp_seq_k (fun K12 hK12 => ?_)
          refine wp_block ?_
          refine wp_seq_k (fun K13 hK13 => ?_)
          refine wp_region_lit ?_
          refine wl_yield (o := ⟨_, _, _, _, _, _⟩) (.pointer (some ⟨g2, o2 + j * 16, none⟩)) (yl_bxAt (by rfl) _ _ rfl g2 (o2) _ _ (j) rfl rfl (hlt2)) ?_
          simp only [Act.put, List.setIfInBounds_toArray, List.set_cons_zero, List.set_cons_succ]
          refine wl_yield (o := ⟨_, _, _, _, _, _⟩) (BxC.val (ds.getD j bc0)) (yl_bx (by rfl) _ rfl _ _ rfl _ (fun _ h => by subst h; exact HC2)) ?_
          simp only [Act.put, List.setIfInBounds_toArray, List.set_cons_zero, List.set_cons_succ]
          refine wl_newB (o := ⟨_, _, _, _, _, _⟩) (o2 := ⟨_, _, _, _, _, _⟩) (by rfl) rfl _ _ rfl rfl (fun _ => rfl) (fun _ => rfl) (fun v3 gb3 hggb3 H9 kb => ?_)
          simp only [Act.put, List.setIfInBounds_toArray, List.set_cons_zero, List.set_cons_succ]
          replace D := D.trans (kb.mono D.size)
          replace hown := hown.on kb
          replace hA := hA.on kb
          replace H7 := H7.on kb
          clear kb
          refine wpList_nil ?_
          refine hK13 _ _ ?_
          clear hK13 K13
          refine wp_region_lit ?_
          refine wl_yield (o := ⟨_, _, _, _, _, _⟩) (u5) (yl_move (by rfl) _ rfl _ rfl) ?_
          simp only [Act.put, List.setIfInBounds_toArray, List.set_cons_zero, List.set_cons_succ]
          refine wl_yield (o := ⟨_, _, _, _, _, _⟩) (BxC.val (cs.getD k bc0)) (yl_bx (by rfl) _ rfl _ _ rfl _ (fun _ h => by subst h; exact BcIn.at H7)) ?_
          simp only [Act.put, List.setIfInBounds_toArray, List.set_cons_zero, List.set_cons_succ]
          refine wl_yield (o := ⟨_, _, _, _, _, _⟩) (BxC.val (ds.getD j bc0)) (yl_bx (by rfl) _ rfl _ _ rfl _ (fun _ h => by subst h; exact BcIn.at H9)) ?_
          simp only [Act.put, List.setIfInBounds_toArray, List.set_cons_zero, List.set_cons_succ]
          refine wl_call (o := ⟨_, _, _, _, _, _⟩) (by rfl) 105 _ _ rfl #[BxC.val (cs.getD k bc0), BxC.val (ds.getD j bc0)] rfl (run_call Tryz.func105 (by kernel_rfl) (by kernel_rfl)) ?_
          refine (boxProg0.and _ _ _ _ _ (hb1.on D) (hb2.on D) (fl _ (getB_mem hkL)) (fm _ (getB_mem hjM))).mono ?_
          rintro r v4 ⟨⟨y1, rfl, hy⟩, kb⟩
          replace D := D.trans (kb.mono D.size)
          replace hown := hown.on kb
          replace hA := hA.on kb
          replace H7 := H7.on kb
          replace H9 := H9.on kb
          clear kb
          obtain ⟨cy, rfl⟩ := hy.bc
          refine ⟨BxC.val cy, rfl, ?_⟩
          simp only [Act.put, List.setIfInBounds_toArray, List.set_cons_zero, List.set_cons_succ]
          refine wl_rowB1 (o := ⟨_, _, _, _, _, _⟩) (by rfl) _ rfl rfl (fun v5 gb5 hggb5 IO32 kb => ?_)
          simp only [Act.put, List.setIfInBounds_toArray, List.set_cons_zero, List.set_cons_succ]
          replace D := D.trans (kb.mono D.size)
          replace hown := hown.on kb
          replace hA := hA.on kb
          replace H7 := H7.on kb
          replace H9 := H9.on kb
          replace hy := hy.on kb
          clear kb
          refine wl_appC (o := ⟨_, _, _, _, _, _⟩) (by rfl) _ _ rfl w.heap.size u5 ks' rfl hown gb5 cy rfl IO32 (by omega) D.size (fun u9 v6 hown9 hA9 hw9 hc9 => ?_)
          simp only [Act.put, List.setIfInBounds_toArray, List.set_cons_zero, List.set_cons_succ]
          have hlt9 := lt_heap H7
          replace H7 : BcIn v6 gb2 (cs.getD k bc0) := (hA9.k _ (lt_heap H7) hne).trans H7
          replace hA := allBx_snoc (hA.carry hc9) (hc9 hy)
          rw [List.append_assoc, ← take_map _ m j zBox hjM] at hA
          replace hne : some gb2 ≠ u9.ownBlock := fun e => by
            rcases hw9 _ e.symm with h | h
            · exact hne h
            · omega
          replace D := D.trans hA9.b
          replace hown := hown9
          clear hown9 hA9 hw9 hc9 hy
          refine wl_yield (o := ⟨_, _, _, _, _, _⟩) (u9) (yl_assign (by rfl) _ rfl _ rfl) ?_
          simp only [Act.put, List.setIfInBounds_toArray, List.set_cons_zero, List.set_cons_succ]
          refine wpList_nil ?_
          refine hK12 _ _ ?_
          clear hK12 K12
          refine wp_region_lit ?_
          refine wl_yield (o := ⟨_, _, _, _, _, _⟩) (.int .i64 (j + 1 : Nat)) (yl_addI (by rfl) _ _ _ rfl (((j : Nat) : Int)) (1) (((j + 1 : Nat) : Int)) rfl rfl (by omega) (by omega) (by omega)) ?_
          simp only [Act.put, List.setIfInBounds_toArray, List.set_cons_zero, List.set_cons_succ]
          refine wl_yield (o := ⟨_, _, _, _, _, _⟩) (.int .i64 (j + 1 : Nat)) (yl_move (by rfl) _ rfl _ rfl) ?_
          simp only [Act.put, List.setIfInBounds_toArray, List.set_cons_zero, List.set_cons_succ]
          refine wpList_nil ?_
          show _ ∧ _
          go_roundw
          case rel => exact ⟨j + 1, _, rfl, by omega, hown, by rw [List.length_append, List.length_singleton, hkl']; omega, hA, H7, hne, D⟩
          case measure => simp [intOf]; omega
        · refine wp_seq_k (fun K10 hK10 => ?_)
          refine wp_region_lit ?_
          refine wl_yield (o := ⟨_, _, _, _, _, _⟩) (.bool false) (yl_lssI (by rfl) _ _ _ rfl (((j : Nat) : Int)) (((ds.length : Nat) : Int)) false rfl rfl (decide_eq_false (by omega))) ?_
          simp only [Act.put, List.setIfInBounds_toArray, List.set_cons_zero, List.set_cons_succ]
          refine wpList_nil ?_
          refine hK10 _ _ ?_
          clear hK10 K10
          refine wp_seq_k (fun K11 hK11 => ?_)
          refine wp_cond_false rfl ?_
          refine wp_exit ?_
          refine hK7 _ _ ?_
          clear hK11 K11 hK7 K7
          refine wp_region_lit ?_
          refine wl_yield (o := ⟨_, _, _, _, _, _⟩) (.int .i64 (k + 1 : Nat)) (yl_addI (by rfl) _ _ _ rfl (((k : Nat) : Int)) (1) (((k + 1 : Nat) : Int)) rfl rfl (by omega) (by omega) (by omega)) ?_
          simp only [Act.put, List.setIfInBounds_toArray, List.set_cons_zero, List.set_cons_succ]
          refine wl_yield (o := ⟨_, _, _, _, _, _⟩) (.int .i64 (k + 1 : Nat)) (yl_move (by rfl) _ rfl _ rfl) ?_
          simp only [Act.put, List.setIfInBounds_toArray, List.set_cons_zero, List.set_cons_succ]
          refine wpList_nil ?_
          show _ ∧ _
          go_roundw
          case rel => exact ⟨k + 1, ks', rfl, by omega, hown, by rw [hkl', Nat.succ_mul]; omega, by rw [prod_take l m k hkL]; rw [show j = m.length by omega, List.take_length] at hA; exact hA, D⟩
          case measure => simp [intOf]; omega
    · refine wp_seq_k (fun K5 hK5 => ?_)
      refine wp_region_lit ?_
      refine wl_yield (o := ⟨_, _, _, _, _, _⟩) (.bool false) (yl_lssI (by rfl) _ _ _ rfl (((k : Nat) : Int)) (((cs.length : Nat) : Int)) false rfl rfl (decide_eq_false (by omega))) ?_
      simp only [Act.put, List.setIfInBounds_toArray, List.set_cons_zero, List.set_cons_succ]
      refine wpList_nil ?_
      refine hK5 _ _ ?_
      clear hK5 K5
      refine wp_seq_k (fun K6 hK6 => ?_)
      refine wp_cond_false rfl ?_
      refine wp_exit ?_
      refine hK3 _ _ ?_
      clear hK6 K6 hK3 K3
      refine wp_seq_k (fun K7 hK7 => ?_)
      refine wp_region_lit ?_
      refine wl_yield (o := ⟨_, _, _, _, _, _⟩) (u5) (yl_move (by rfl) _ rfl _ rfl) ?_
      simp only [Act.put, List.setIfInBounds_toArray, List.set_cons_zero, List.set_cons_succ]
      refine wl_yield (o := ⟨_, _, _, _, _, _⟩) (u5) (yl_assign (by rfl) _ rfl _ rfl) ?_
      simp only [Act.put, List.setIfInBounds_toArray, List.set_cons_zero, List.set_cons_succ]
      refine wpList_nil ?_
      refine hK7 _ _ ?_
      clear hK7 K7
      refine wp_ret ?_
      go_ret
      exact ⟨⟨_, ks, _, rfl, hown.own, by rw [show k = l.length by have := ha.1; omega, List.take_length] at hA; exact hA⟩, D⟩
set_option maxHeartbeats 4000000 in
set_option maxRecDepth 100000 in
theorem sum_any (v u0 : Value) (l m : List BoxV) (w : World) (hv : Bxs w v l) (hu : Bxs w u0 m) (n1 : nilOk v) (n2 : nilOk u0) (hlm : l.length + m.length ≤ 1000) :
    Calls Tryz.prog 68 #[v, u0] w fun r w' => (∃ u ks B, r = .returned u ∧ OwnB w' B u ks ∧ AllBx w' ks (l ++ m)) ∧ Below w.heap.size w w' := by
  obtain ⟨cs, h1, ha⟩ := hv
  obtain ⟨ds, h2, hb⟩ := hu
  have hbig := h1.1
  have hbig2 := h2.1
  have hcl := ha.1
  have hdl := hb.1
  obtain ⟨q1, p1, rfl⟩ := h1.form
  obtain ⟨q2, p2, rfl⟩ := h2.form
  have D := Below.refl w.heap.size w
  go_enter Tryz.func68, Tryz.ntmps68
  refine wp_seq_k (fun K1 hK1 => ?_)
  refine wp_region_lit ?_
  refine wl_yield (o := ⟨_, _, _, _, _, _⟩) (.slice none 0 0) (yl_assign (by rfl) _ rfl _ rfl) ?_
  simp only [Act.put, List.setIfInBounds_toArray, List.set_cons_zero, List.set_cons_succ]
  refine wpList_nil ?_
  refine hK1 _ _ ?_
  clear hK1 K1
  refine wp_seq_k (fun K2 hK2 => ?_)
  refine wp_region_lit ?_
  refine wl_yield (o := ⟨_, _, _, _, _, _⟩) (.slice q1 cs.length p1) (yl_move (by rfl) _ rfl _ rfl) ?_
  simp only [Act.put, List.setIfInBounds_toArray, List.set_cons_zero, List.set_cons_succ]
  refine wl_yield (o := ⟨_, _, _, _, _, _⟩) (.slice q2 ds.length p2) (yl_move (by rfl) _ rfl _ rfl) ?_
  simp only [Act.put, List.setIfInBounds_toArray, List.set_cons_zero, List.set_cons_succ]
  refine wl_rows2 (o := ⟨_, _, _, _, _, _⟩) (by rfl) _ _ rfl rfl rfl (fun v1 gr HR kb => ?_)
  simp only [Act.put, List.setIfInBounds_toArray, List.set_cons_zero, List.set_cons_succ]
  replace D := D.trans (kb.mono D.size)
  clear kb
  refine wl_call (o := ⟨_, _, _, _, _, _⟩) (by rfl) 106 _ _ rfl #[.slice (some ⟨gr, 0, none⟩) 2 2] rfl (run_call Tryz.func106 (by kernel_rfl) (by kernel_rfl)) ?_
  refine (concatB_any gr _ _ cs ds _ HR (h1.on D) (h2.on D) n1 n2 (by omega)).mono ?_
  rintro r v2 ⟨⟨u1, rfl, hO⟩, kb⟩
  replace D := D.trans (kb.mono D.size)
  clear kb
  refine ⟨u1, rfl, ?_⟩
  simp only [Act.put, List.setIfInBounds_toArray, List.set_cons_zero, List.set_cons_succ]
  refine wl_yield (o := ⟨_, _, _, _, _, _⟩) (u1) (yl_assign (by rfl) _ rfl _ rfl) ?_
  simp only [Act.put, List.setIfInBounds_toArray, List.set_cons_zero, List.set_cons_succ]
  refine wpList_nil ?_
  refine hK2 _ _ ?_
  clear hK2 K2
  refine wp_ret ?_
  go_ret
  exact ⟨⟨_, _, _, rfl, hO, (allBx_append ha hb).on D⟩, D⟩
end Go.Proofs.YtlfhpocfacaaeaaGreat
/-
  Steps of regions, of the sixth layer: fields of an expression, rows of expressions, rows of one box made in a region that draws; bounds of what is put together.
-/
set_option linter.unusedSimpArgs false
set_option linter.unusedVariables false
namespace Go.Proofs.YtlfhpocfacaaeaaGreat
open Go.RowKit

section
variable {ops : Array Oper} {Q : Exit → Act → World → Prop} {S : World → Prop} {o : Oper} {a : Act}
theorem yl_exField0 (hw : Region.wanted o (yielded ops a.tmps) = true) (x : Operand) (ho : o.op = .fieldAddr 28 x 0) (g : Nat) (hx : a.eval x = .pointer (some ⟨g, 0, none⟩)) : YieldsIf Tryz.prog ops S o (.pointer (some ⟨g, 0, none⟩)) a :=
  Or.inl ⟨hw, fun w hS => by
    simp only [execOp, ho, hx]
    go_simp⟩
theorem yl_exField1 (hw : Region.wanted o (yielded ops a.tmps) = true) (x : Operand) (ho : o.op = .fieldAddr 28 x 1) (g : Nat) (hx : a.eval x = .pointer (some ⟨g, 0, none⟩)) : YieldsIf Tryz.prog ops S o (.pointer (some ⟨g, 1, none⟩)) a :=
  Or.inl ⟨hw, fun w hS => by
    simp only [execOp, ho, hx]
    go_simp⟩
theorem yl_exField2 (hw : Region.wanted o (yielded ops a.tmps) = true) (x : Operand) (ho : o.op = .fieldAddr 28 x 2) (g : Nat) (hx : a.eval x = .pointer (some ⟨g, 0, none⟩)) : YieldsIf Tryz.prog ops S o (.pointer (some ⟨g, 2, none⟩)) a :=
  Or.inl ⟨hw, fun w hS => by
    simp only [execOp, ho, hx]
    go_simp⟩
theorem yl_intX (hw : Region.wanted o (yielded ops a.tmps) = true) (x : Operand) (ho : o.op = .load 3 x) (g k : Nat) (hx : a.eval x = .pointer (some ⟨g, k, none⟩)) (z : Int) (h : ∀ w, S w → w.cell? ⟨g, k, none⟩ = some (.int .i64 z)) : YieldsIf Tryz.prog ops S o (.int .i64 z) a :=
  Or.inl ⟨hw, fun w hS => by
    have := h w hS
    simp only [execOp, ho, hx]
    go_simp⟩
set_option maxRecDepth 100000 in
theorem yl_exAtO (hw : Region.wanted o (yielded ops a.tmps) = true) (x y : Operand) (ho : o.op = .indexAddr 26 x y) (b off n c i : Nat) (hx : a.eval x = .slice (some ⟨b, off, none⟩) n c) (hy : a.eval y = .int .i64 i) (hi : i < n) : YieldsIf Tryz.prog ops S o (.pointer (some ⟨b, off + i * 7, none⟩)) a :=
  Or.inl ⟨hw, fun w hS => by
    simp only [execOp, ho, hx, hy]
    go_simp⟩
theorem yl_lenE (hw : Region.wanted o (yielded ops a.tmps) = true) (x : Operand) (ho : o.op = .call { callee := .builtin .len, args := #[x], argTypes := #[26] }) (p : Option Addr) (n c : Nat) (hx : a.eval x = .slice p n c) : YieldsIf Tryz.prog ops S o (.int .i64 n) a :=
  Or.inl ⟨hw, fun w hS => by
    unfold execOp
    simp only [ho, resolve, invoke, builtin, Sem.run_bind, Sem.run_pure, Result.andThen_ok, List.map_toArray, List.map_cons, List.map_nil, hx]
    go_simp⟩
theorem op_rowB1 {i : Nat} {w : World} {K : Act → World → Prop} (hi : ops[i]? = some o) (hw : Region.wanted o (yielded ops a.tmps) = true) (x : Operand) (ho : o.op = .buildSlice 31 1 #[(0, x)]) {c : BxC} (hx : a.eval x = c.val)
    (h : ∀ W g, w.heap.size ≤ g → BcIn W g c → Below w.heap.size w W → K (a.put o.dst (.slice (some ⟨g, 0, none⟩) 1 1)) W) : wpOp Tryz.prog ops Q i K a w := by
  unfold wpOp
  simp only [hi]
  rw [if_pos hw]
  refine Or.inl ?_
  unfold Oper.wp
  rw [rn_rowBx1 x ho hx]
  exact h _ _ (Nat.le_refl _) (heap_new _ _) ((Below.refl _ w).alloc (Nat.le_refl _) _)
end
theorem ExIn.c0 {w : World} {g : Nat} {c : EC} (h : ExIn w g c) : w.cell? ⟨g, 0, none⟩ = some (.int .i64 c.k) := h.ec.c0
theorem ExIn.c1 {w : World} {g : Nat} {c : EC} (h : ExIn w g c) : w.cell? ⟨g, 1, none⟩ = some (.int .i64 c.t) := h.ec.c1
theorem ExIn.cs {w : World} {g : Nat} {c : EC} (h : ExIn w g c) : w.cell? ⟨g, 2, none⟩ = some (.bool c.s.a) ∧ w.cell? ⟨g, 2 + 1, none⟩ = some (.slice c.s.p c.s.n c.s.c) ∧ w.cell? ⟨g, 2 + 2, none⟩ = some (.bool c.s.d) ∧ w.cell? ⟨g, 2 + 3, none⟩ = some (.slice c.s.q c.s.m c.s.e) := ⟨h.ec.c2, h.ec.c3, h.ec.c4, h.ec.c5⟩
theorem ExIn.c6 {w : World} {g : Nat} {c : EC} (h : ExIn w g c) : w.cell? ⟨g, 6, none⟩ = some (.slice c.p c.n c.c) := h.ec.c6
theorem ExAt.i64 {w : World} : ∀ (n : Nat) {v : Value} {x : ExV}, ExAt n w v x → i64X n x
  | 0, _, _, _ => trivial
  | n + 1, v, x, ⟨c, hv, hc, hs⟩ => ⟨hc.s.i64, fun y hy => by
    obtain ⟨i, hi, rfl⟩ := List.getElem_of_mem hy
    obtain ⟨g, off, d, hp, hg, hd, hx⟩ := hs i hi
    have := ExAt.i64 n hx
    rwa [List.getD_eq_getElem?_getD, List.getElem?_eq_getElem hi, Option.getD_some] at this⟩
theorem ExAt.rows {w : World} {n : Nat} {c : EC} {x : ExV} (h : ExAt (n + 1) w c.val x) : RowsX n w (.slice c.p c.n c.c) x.sub := by
  obtain ⟨c', hv, hc, hs⟩ := h
  have := ec_inj hv
  subst this
  exact ⟨c.p, c.c, by rw [hc.n], by rw [← hc.n]; exact hc.room, hc.big, fun e => by have := hc.none e; rw [← hc.n]; exact this, hs⟩
theorem ExAt.for {w : World} {n : Nat} {c : EC} {x : ExV} (h : ExAt (n + 1) w c.val x) : EcFor w c x := by
  obtain ⟨c', hv, hc, hs⟩ := h
  have := ec_inj hv
  subst this
  exact hc
theorem Fits.fitL {A : Nat} {l : List BoxV} (h : Fits A l) (hA : A ≤ 39) : FitL l := fun b hb => ⟨(h.f b hb).1, fun i hi => by have := h.i b hb i hi; omega, fun i hi => by have := (h.f b hb).2 i hi; omega⟩
theorem Res.fitL {A : Nat} {l : List BoxV} (h : Res A l) (hA : A ≤ 40) : FitL l := fun b hb => ⟨(h.f b hb).1, fun i hi => by have := h.i b hb i hi; omega, fun i hi => by have := (h.f b hb).2 i hi; omega⟩
theorem FitL.good {l : List BoxV} (h : FitL l) : ∀ c ∈ l, GoodB c := fun c hc => (h c hc).good
theorem sum_take (f : ExV → Nat) (l : List ExV) (k : Nat) (h : k < l.length) : ((l.take (k + 1)).map f).sum = ((l.take k).map f).sum + f (l.getD k noX) := by
  rw [List.take_add_one, List.map_append, List.sum_append, List.getD_eq_getElem?_getD, List.getElem?_eq_getElem h]
  simp
theorem sum_take_le (f : ExV → Nat) (l : List ExV) (k : Nat) : ((l.take k).map f).sum ≤ (l.map f).sum := by
  have := List.take_append_drop k l
  have h2 : (l.map f).sum = ((l.take k ++ l.drop k).map f).sum := by rw [this]
  rw [h2, List.map_append, List.sum_append]
  omega
/-- What is answered of an expression's boxes. -/
def BoxesOk (w : World) (r : Ending) (o : Option (List BoxV)) : Prop := match o with
  | none => r = .returned (.tuple #[.slice none 0 0, .bool false])
  | some l => ∃ u, r = .returned (.tuple #[u, .bool true]) ∧ Bxs w u l ∧ nilOk u
theorem len_join {prod : Bool} {a b : List BoxV} (ha : a.length ≤ 16) (hb : b.length ≤ 16) : (joinL prod a b).length ≤ 1000 := by
  unfold joinL prodL
  cases prod
  · simp only [Bool.false_eq_true, if_false, List.length_append]; omega
  · simp only [if_true]
    have : (a.flatMap fun x => b.map fun y => andBx x y).length ≤ a.length * 16 := flat_len _ 16 a (fun x _ => by rw [List.length_map]; exact hb)
    omega
theorem boxes_len : ∀ (n : Nat) (x : ExV) (neg : Bool) (l : List BoxV), boxesX n x neg = some l → l.length ≤ 16
  | 0, _, _, _, h => by cases h
  | n + 1, x, neg, l, h => by
    have F : ∀ (f : ExV → Option (List BoxV)) (prod : Bool) (ys : List ExV) (out l : List BoxV), out.length ≤ 16 → foldX f prod ys out = some l → l.length ≤ 16 := by
      intro f prod ys
      induction ys with
      | nil => intro out l ho h; unfold foldX at h; cases h; exact ho
      | cons y ys ih =>
        intro out l ho h
        unfold foldX at h
        cases hy : f y with
        | none => rw [hy] at h; cases h
        | some ly =>
          rw [hy] at h
          dsimp only at h
          obtain ⟨nx, hnx⟩ : ∃ nx, nx = if prod = true then prodL out ly else out ++ ly := ⟨_, rfl⟩
          rw [← hnx] at h
          split at h
          · exact ih _ _ (by assumption) h
          · cases h
    unfold boxesX at h
    split at h
    · cases h
      exact Nat.le_trans (tidy_len _) (by simp)
    · split at h
      · exact boxes_len n _ _ l h
      · refine F _ _ _ _ l ?_ h
        split <;> simp
end Go.Proofs.YtlfhpocfacaaeaaGreat
/-
  The program's atomBox, gathered, boxesOf.
-/
set_option linter.unusedSimpArgs false
set_option linter.unusedVariables false
namespace Go.Proofs.YtlfhpocfacaaeaaGreat
open Go.RowKit

theorem atom_with {z attr : Int} {s : SetV} (h0 : 0 ≤ attr) (h3 : attr ≤ 3) (hz : z = attr) : withBx allBx z s = allBx.put attr.toNat s := by
  subst hz
  unfold withBx
  rw [if_pos ⟨h0, by omega⟩]
set_option maxHeartbeats 4000000 in
set_option maxRecDepth 100000 in
theorem atomBox_any (c : EC) (x : ExV) (neg : Bool) (w : World) (hE : EcFor w c x) (h0 : 0 ≤ x.attr) (h3 : x.attr ≤ 3) (hgood : Good x.set) (hi : x.set.ints.length ≤ 6) (hs6 : x.set.strs.length ≤ 6) :
    Calls Tryz.prog 64 #[c.val, .bool neg] w fun r w' => (∃ u, r = .returned u ∧ BoxAt w' u (allBx.put x.attr.toNat (if neg then notV x.set else x.set))) ∧ Below w.heap.size w w' := by
  have hct := hE.t
  have ht0 := hE.t0
  have ht1 := hE.t1
  have hs := hE.s
  have hfn : Fit (notV x.set) := ⟨notV_good hgood, by have := (notV_len x.set hgood).1; omega, by have := (notV_len x.set hgood).2; omega⟩
  have D := Below.refl w.heap.size w
  cases neg
  · go_enter Tryz.func64, Tryz.ntmps64
    refine wp_seq_k (fun K1 hK1 => ?_)
    refine wp_region_lit ?_
    refine wl_boxEx (o := ⟨_, _, _, _, _, _⟩) (by rfl) _ rfl rfl (fun v1 gb1 HX kb => ?_)
    simp only [Act.put, List.setIfInBounds_toArray, List.set_cons_zero, List.set_cons_succ]
    replace D := D.trans (kb.mono D.size)
    clear kb
    refine wl_allocB (o := ⟨_, _, _, _, _, _⟩) (by rfl) rfl (fun v2 gb2 hggb2 IZ kb => ?_)
    simp only [Act.put, List.setIfInBounds_toArray, List.set_cons_zero, List.set_cons_succ]
    have nX : gb1 ≠ gb2 := by have := lt_heap HX; omega
    have gD : w.heap.size ≤ gb2 := by have := D.size; omega
    replace D := D.trans (kb.mono D.size)
    replace HX := HX.on kb
    clear kb
    refine wpList_nil ?_
    refine hK1 _ _ ?_
    clear hK1 K1
    refine wp_seq_k (fun K2 hK2 => ?_)
    refine wp_seq_k (fun K3 hK3 => ?_)
    refine wp_region_lit ?_
    refine wl_yield (o := ⟨_, _, _, _, _, _⟩) (.bool false) (yl_move (by rfl) _ rfl _ rfl) ?_
    simp only [Act.put, List.setIfInBounds_toArray, List.set_cons_zero, List.set_cons_succ]
    refine wpList_nil ?_
    refine hK3 _ _ ?_
    clear hK3 K3
    refine wp_cond_false rfl ?_
    refine wp_skip ?_
    refine hK2 _ _ ?_
    clear hK2 K2
    refine wp_seq_k (fun K4 hK4 => ?_)
    refine wp_region_lit ?_
    refine wl_yield (o := ⟨_, _, _, _, _, _⟩) (.pointer (some ⟨gb1, 1, none⟩)) (yl_exField1 (by rfl) _ rfl _ rfl) ?_
    simp only [Act.put, List.setIfInBounds_toArray, List.set_cons_zero, List.set_cons_succ]
    refine wl_yield (o := ⟨_, _, _, _, _, _⟩) (.int .i64 (c.t)) (yl_intX (by rfl) _ rfl _ 1 rfl _ (fun _ h => by subst h; exact ExIn.c1 HX)) ?_
    simp only [Act.put, List.setIfInBounds_toArray, List.set_cons_zero, List.set_cons_succ]
    refine wl_yield (o := ⟨_, _, _, _, _, _⟩) (.pointer (some ⟨gb1, 2, none⟩)) (yl_exField2 (by rfl) _ rfl _ rfl) ?_
    simp only [Act.put, List.setIfInBounds_toArray, List.set_cons_zero, List.set_cons_succ]
    refine wl_yield (o := ⟨_, _, _, _, _, _⟩) (SC.val c.s) (yl_set (by rfl) _ rfl _ 2 rfl _ _ _ _ (fun _ h => by subst h; exact ExIn.cs HX)) ?_
    simp only [Act.put, List.setIfInBounds_toArray, List.set_cons_zero, List.set_cons_succ]
    refine wl_call (o := ⟨_, _, _, _, _, _⟩) (by rfl) 102 _ _ rfl #[.int .i64 (c.t), SC.val c.s] rfl (run_call Tryz.func102 (by kernel_rfl) (by kernel_rfl)) ?_
    refine (boxProg0.atom c.t _ x.set _ ht0 ht1 (hs.on D) ⟨hgood, by omega, by omega⟩).mono ?_
    rintro r v3 ⟨⟨y1, rfl, hy⟩, kb⟩
    replace D := D.trans (kb.mono D.size)
    replace HX := HX.on kb
    replace IZ := IZ.on kb
    clear kb
    obtain ⟨cy, rfl⟩ := hy.bc
    refine ⟨BxC.val cy, rfl, ?_⟩
    simp only [Act.put, List.setIfInBounds_toArray, List.set_cons_zero, List.set_cons_succ]
    refine wl_putB (o := ⟨_, _, _, _, _, _⟩) rfl _ _ rfl gb2 0 cy rfl rfl IZ.there ?_
    simp only [Act.put, List.setIfInBounds_toArray, List.set_cons_zero, List.set_cons_succ]
    have HR := (bcIn_put (d := cy) IZ).bx
    have ki : In1 v3 (v3.setCells gb2 0 cy.list) gb2 := (put_whole cy.s0 cy.s1 cy.s2 cy.s3 IZ.bx).2
    replace D := ki.below _ _ gD D
    replace hy := ki.boxAt IZ.bx hy
    generalize v3.setCells gb2 0 cy.list = v4 at D HR hy ⊢
    clear ki IZ
    refine wpList_nil ?_
    refine hK4 _ _ ?_
    clear hK4 K4
    refine wp_ret ?_
    rw [atom_with h0 h3 hct] at hy
    exact bodyPost_ret (results_cell_row rfl _ _ gb2 47 _ (0, 0) _ rfl HR Tryz.underlying47 rfl infoBx) rfl ⟨⟨_, rfl, hy⟩, D⟩
  · go_enter Tryz.func64, Tryz.ntmps64
    refine wp_seq_k (fun K1 hK1 => ?_)
    refine wp_region_lit ?_
    refine wl_boxEx (o := ⟨_, _, _, _, _, _⟩) (by rfl) _ rfl rfl (fun v1 gb1 HX kb => ?_)
    simp only [Act.put, List.setIfInBounds_toArray, List.set_cons_zero, List.set_cons_succ]
    replace D := D.trans (kb.mono D.size)
    clear kb
    refine wl_allocB (o := ⟨_, _, _, _, _, _⟩) (by rfl) rfl (fun v2 gb2 hggb2 IZ kb => ?_)
    simp only [Act.put, List.setIfInBounds_toArray, List.set_cons_zero, List.set_cons_succ]
    have nX : gb1 ≠ gb2 := by have := lt_heap HX; omega
    have gD : w.heap.size ≤ gb2 := by have := D.size; omega
    replace D := D.trans (kb.mono D.size)
    replace HX := HX.on kb
    clear kb
    refine wpList_nil ?_
    refine hK1 _ _ ?_
    clear hK1 K1
    refine wp_seq_k (fun K2 hK2 => ?_)
    refine wp_seq_k (fun K3 hK3 => ?_)
    refine wp_region_lit ?_
    refine wl_yield (o := ⟨_, _, _, _, _, _⟩) (.bool true) (yl_move (by rfl) _ rfl _ rfl) ?_
    simp only [Act.put, List.setIfInBounds_toArray, List.set_cons_zero, List.set_cons_succ]
    refine wpList_nil ?_
    refine hK3 _ _ ?_
    clear hK3 K3
    refine wp_cond_true rfl ?_
    refine wp_seq_k (fun K4 hK4 => ?_)
    refine wp_region_held_drew (S := fun w' => ExIn w' gb1 c) (by kernel_rfl) HX (fun hHeld => ?_)
    have kb : Below v2.heap.size v2 v2.drew := (Below.refl _ v2).drew
    replace D := D.trans (kb.mono D.size)
    replace HX := HX.on kb
    replace IZ := IZ.on kb
    clear kb
    generalize v2.drew = v3 at D hHeld HX IZ ⊢
    refine wpAnyH_take (i := 0) (oi := ⟨_, _, _, _, _, _⟩) (v := .pointer (some ⟨gb1, 1, none⟩)) rfl (by kernel_rfl) (by kernel_rfl) (by kernel_rfl) (fun _ _ _ h => h) (yl_exField1 (by rfl) _ rfl _ rfl) (by assumption) ?_
    simp only [Act.put, List.setIfInBounds_toArray, List.set_cons_zero, List.set_cons_succ]
    refine wpAnyH_take (i := 1) (oi := ⟨_, _, _, _, _, _⟩) (v := .int .i64 (c.t)) rfl (by kernel_rfl) (by kernel_rfl) (by kernel_rfl) (fun _ _ _ h => h) (yl_intX (by rfl) _ rfl _ 1 rfl _ (fun _ h => ExIn.c1 h)) (by assumption) ?_
    simp only [Act.put, List.setIfInBounds_toArray, List.set_cons_zero, List.set_cons_succ]
    refine wpAnyH_take (i := 2) (oi := ⟨_, _, _, _, _, _⟩) (v := .pointer (some ⟨gb1, 2, none⟩)) rfl (by kernel_rfl) (by kernel_rfl) (by kernel_rfl) (fun _ _ _ h => h) (yl_exField2 (by rfl) _ rfl _ rfl) (by assumption) ?_
    simp only [Act.put, List.setIfInBounds_toArray, List.set_cons_zero, List.set_cons_succ]
    refine wpAnyH_take (i := 3) (oi := ⟨_, _, _, _, _, _⟩) (v := SC.val c.s) rfl (by kernel_rfl) (by kernel_rfl) (by kernel_rfl) (fun _ _ _ h => h) (yl_set (by rfl) _ rfl _ 2 rfl _ _ _ _ (fun _ h => ExIn.cs h)) (by assumption) ?_
    simp only [Act.put, List.setIfInBounds_toArray, List.set_cons_zero, List.set_cons_succ]
    refine held_call (o := ⟨_, _, _, _, _, _⟩) 4 (by kernel_rfl) rfl (by rfl) 103 _ _ rfl #[SC.val c.s] rfl (run_call Tryz.func103 (by kernel_rfl) (by kernel_rfl)) ?_
    refine (setProg.not _ x.set _ (hs.on D) ⟨hgood, by omega, by omega⟩).mono ?_
    rintro r v4 ⟨⟨u1, rfl, hn⟩, kb⟩
    replace D := D.trans (kb.mono D.size)
    replace HX := HX.on kb
    replace IZ := IZ.on kb
    clear kb
    clear hHeld
    obtain ⟨sn, rfl⟩ := hn.sc
    refine ⟨SC.val sn, rfl, HX, fun hHeld => ?_⟩
    simp only [Act.put, List.setIfInBounds_toArray, List.set_cons_zero, List.set_cons_succ]
    refine held_call (o := ⟨_, _, _, _, _, _⟩) 5 (by kernel_rfl) rfl (by rfl) 102 _ _ rfl #[.int .i64 (c.t), SC.val sn] rfl (run_call Tryz.func102 (by kernel_rfl) (by kernel_rfl)) ?_
    refine (boxProg0.atom c.t _ (notV x.set) _ ht0 ht1 hn hfn).mono ?_
    rintro r v5 ⟨⟨y1, rfl, hy⟩, kb⟩
    replace D := D.trans (kb.mono D.size)
    replace HX := HX.on kb
    replace IZ := IZ.on kb
    replace hn := hn.on kb
    clear kb
    clear hHeld
    obtain ⟨cy, rfl⟩ := hy.bc
    refine ⟨BxC.val cy, rfl, HX, fun hHeld => ?_⟩
    simp only [Act.put, List.setIfInBounds_toArray, List.set_cons_zero, List.set_cons_succ]
    refine wpAnyH_all (rs := [6]) (by kernel_rfl) (by simp) ?_
    intro j hj
    have hj := List.mem_singleton.1 hj
    subst hj
    refine op_storeBx (o := ⟨_, _, _, _, _, _⟩) rfl (by rfl) _ _ rfl rfl rfl (s0 := SC.zero) (s1 := SC.zero) (s2 := SC.zero) (s3 := SC.zero) IZ.bx (fun v6 HR ki => ?_)
    replace D := ki.below _ _ gD D
    clear hHeld
    replace HX : ExIn v6 gb1 c := (ki.other _ nX).trans HX
    replace hy := ki.boxAt IZ.bx hy
    clear ki IZ hn
    have hHeld := HX
    refine ⟨HX, ?_⟩
    simp only [Act.put, List.setIfInBounds_toArray, List.set_cons_zero, List.set_cons_succ]
    refine wpAnyH_done (by kernel_rfl) ?_ _
    clear hHeld
    refine hK4 _ _ ?_
    clear hK4 K4
    refine wp_ret ?_
    rw [atom_with h0 h3 hct] at hy
    simp only [Exit.then]
    exact bodyPost_ret (results_cell_row rfl _ _ gb2 47 _ (0, 0) _ rfl HR Tryz.underlying47 rfl infoBx) rfl ⟨⟨_, rfl, hy⟩, D⟩
end Go.Proofs.YtlfhpocfacaaeaaGreat
/-
  The program's gathered and boxesOf.
-/
set_option linter.unusedSimpArgs false
set_option linter.unusedVariables false
namespace Go.Proofs.YtlfhpocfacaaeaaGreat
open Go.RowKit

/-- What the joining function answers. -/
def JoinsC (fid : Nat) (prod : Bool) : Prop := ∀ (v u : Value) (l m : List BoxV) (w : World), Bxs w v l → Bxs w u m → nilOk v → nilOk u → FitL l → FitL m → l.length ≤ 16 → m.length ≤ 16 →
  Calls Tryz.prog fid #[v, u] w fun r w' => (∃ u' ks B, r = .returned u' ∧ OwnB w' B u' ks ∧ AllBx w' ks (joinL prod l m)) ∧ Below w.heap.size w w'
theorem joins_product : JoinsC 67 true := fun v u l m w h1 h2 _ _ f1 f2 l1 l2 => product_any v u l m w h1 h2 f1 f2 (Nat.le_trans (Nat.mul_le_mul l1 l2) (by omega))
theorem joins_sum : JoinsC 68 false := fun v u l m w h1 h2 n1 n2 _ _ l1 l2 => sum_any v u l m w h1 h2 n1 n2 (by omega)
def BoxesIH (n : Nat) : Prop := ∀ (c : EC) (x : ExV) (neg : Bool) (w : World), ExAt n w c.val x → eachX n x = true → wX n x ≤ 40 → Calls Tryz.prog 35 #[c.val, .bool neg] w fun r w' => BoxesOk w' r (boxesX n x neg) ∧ Below w.heap.size w w'
theorem fold_at {f : ExV → Option (List BoxV)} {prod : Bool} {l : List ExV} {k : Nat} (h : k < l.length) (out : List BoxV) : foldX f prod (l.drop k) out = match f (l.getD k noX) with
    | none => none
    | some ly => if (tidyL (joinL prod out ly)).length ≤ 16 then foldX f prod (l.drop (k + 1)) (tidyL (joinL prod out ly)) else none := by
  rw [drop_getD l k noX h]
  rfl
theorem bxs_own {w : World} {B : Nat} {v : Value} {ks : List BxC} {l : List BoxV} (h : OwnB w B v ks) (ha : AllBx w ks l) (hl : l.length ≤ 1000) : Bxs w v l ∧ nilOk v := ⟨⟨ks, h.row (by rw [ha.1]; omega), ha⟩, h.nilOk⟩
theorem RowsX.at {n : Nat} {w : World} {p : Option Addr} {m c : Nat} {l : List ExV} (h : RowsX n w (.slice p m c) l) (k : Nat) (hk : k < l.length) : ∃ (g off : Nat) (d : EC), p = some ⟨g, off, none⟩ ∧ g < w.heap.size ∧ EcAt w g (off + k * 7) d ∧ ExAt n w d.val (l.getD k noX) := by
  obtain ⟨p', k', e, _, _, _, h⟩ := h
  cases e
  exact h k hk
set_option maxHeartbeats 4000000 in
set_option maxRecDepth 100000 in
theorem gathered_any (n : Nat) (IH : BoxesIH n) (fid : Nat) (hf : ∀ (W : World) (A : Array Value), (callFunc fid A).run Tryz.prog W = .ok (.enter fid A) W) (prod neg : Bool) (HJ : JoinsC fid prod) (sv lv : Value) (subs : List ExV) (l0 : List BoxV) (w : World) (hs : RowsX n w sv subs) (hl : Bxs w lv l0) (hn : nilOk lv) (h1 : l0.length ≤ 1) (hF : Fits 0 l0) (he : ∀ y ∈ subs, eachX n y = true) (hi : ∀ y ∈ subs, i64X n y) (hw : (subs.map (wX n)).sum ≤ 39) :
    Calls Tryz.prog 65 #[lv, .func (.func fid) #[] #[], sv, .bool neg] w fun r w' => BoxesOk w' r (foldX (fun y => boxesX n y neg) prod subs l0) ∧ Below w.heap.size w w' := by
  obtain ⟨q2, c2, rfl, hcap, hcap2, hnone, hel⟩ := hs
  have hs : RowsX n w (.slice q2 subs.length c2) subs := ⟨q2, c2, rfl, hcap, hcap2, hnone, hel⟩
  clear hel
  have D := Below.refl w.heap.size w
  go_enter Tryz.func65, Tryz.ntmps65
  refine wp_seq_k (fun K1 hK1 => ?_)
  refine wp_region_lit ?_
  refine wl_yield (o := ⟨_, _, _, _, _, _⟩) (.slice none 0 0) (yl_assign (by rfl) _ rfl _ rfl) ?_
  simp only [Act.put, List.setIfInBounds_toArray, List.set_cons_zero, List.set_cons_succ]
  refine wl_yield (o := ⟨_, _, _, _, _, _⟩) (.bool false) (yl_assign (by rfl) _ rfl _ rfl) ?_
  simp only [Act.put, List.setIfInBounds_toArray, List.set_cons_zero, List.set_cons_succ]
  refine wpList_nil ?_
  refine hK1 _ _ ?_
  clear hK1 K1
  refine wp_seq_k (fun K2 hK2 => ?_)
  refine wp_seq_k (fun K3 hK3 => ?_)
  refine wp_region_lit ?_
  refine wl_yield (o := ⟨_, _, _, _, _, _⟩) (.slice q2 subs.length c2) (yl_move (by rfl) _ rfl _ rfl) ?_
  simp only [Act.put, List.setIfInBounds_toArray, List.set_cons_zero, List.set_cons_succ]
  refine wl_yield (o := ⟨_, _, _, _, _, _⟩) (.int .i64 (subs.length : Nat)) (yl_lenE (by rfl) _ rfl _ _ _ rfl) ?_
  simp only [Act.put, List.setIfInBounds_toArray, List.set_cons_zero, List.set_cons_succ]
  refine wl_yield (o := ⟨_, _, _, _, _, _⟩) (.int .i64 0) (yl_move (by rfl) _ rfl _ rfl) ?_
  simp only [Act.put, List.setIfInBounds_toArray, List.set_cons_zero, List.set_cons_succ]
  refine wpList_nil ?_
  refine hK3 _ _ ?_
  clear hK3 K3
  refine wp_block ?_
  go_loopw [0, 16] (fun u i wr => ∃ (k : Nat) (lk : List BoxV), i = .int .i64 k ∧ k ≤ subs.length ∧ Bxs wr u lk ∧ nilOk u ∧ lk.length ≤ 16 ∧ Fits ((subs.take k).map (wX n)).sum lk ∧ foldX (fun y => boxesX n y neg) prod (subs.drop k) lk = foldX (fun y => boxesX n y neg) prod subs l0 ∧ Below w.heap.size w wr) (fun _ i _ => subs.length - (intOf i).toNat)
  case atStart => exact ⟨0, l0, rfl, by omega, hl, hn, by omega, hF, rfl, D⟩
  case round =>
    clear D hl
    obtain ⟨k, lk, rfl, hk, hb, hnl, h16, hFk, hfold, D⟩ := hrel
    by_cases hlt : k < subs.length
    · obtain ⟨g, off, d, rfl, hglt, HE, hyv⟩ := (hs.on D).at k hlt
      replace hyv : Xp n wr d (subs.getD k noX) := hyv
      have hmem : subs.getD k noX ∈ subs := getD_mem hlt
      have hsum := sum_take (wX n) subs k hlt
      have hle := sum_take_le (wX n) subs (k + 1)
      have hwy : wX n (subs.getD k noX) ≤ 39 := by omega
      refine wp_seq_k (fun K4 hK4 => ?_)
      refine wp_region_lit ?_
      refine wl_yield (o := ⟨_, _, _, _, _, _⟩) (.bool true) (yl_lssI (by rfl) _ _ _ rfl (((k : Nat) : Int)) (((subs.length : Nat) : Int)) true rfl rfl (decide_eq_true (by omega))) ?_
      simp only [Act.put, List.setIfInBounds_toArray, List.set_cons_zero, List.set_cons_succ]
      refine wpList_nil ?_
      refine hK4 _ _ ?_
      clear hK4 K4
      refine wp_seq_k (fun K5 hK5 => ?_)
      refine wp_cond_true rfl ?_
      refine wp_skip ?_
      refine hK5 _ _ ?_
      clear hK5 K5
      refine wp_seq_k (fun K6 hK6 => ?_)
      refine wp_block ?_
      refine wp_seq_k (fun K7 hK7 => ?_)
      refine wp_region_lit ?_
      refine wl_yield (o := ⟨_, _, _, _, _, _⟩) (.pointer (some ⟨g, off + k * 7, none⟩)) (yl_exAtO (by rfl) _ _ rfl g (off) _ _ (k) rfl rfl (hlt)) ?_
      simp only [Act.put, List.setIfInBounds_toArray, List.set_cons_zero, List.set_cons_succ]
      refine wl_yield (o := ⟨_, _, _, _, _, _⟩) (EC.val d) (yl_ex (by rfl) _ rfl _ _ rfl _ (fun _ h => by subst h; exact HE)) ?_
      simp only [Act.put, List.setIfInBounds_toArray, List.set_cons_zero, List.set_cons_succ]
      refine wl_newEx (o := ⟨_, _, _, _, _, _⟩) (o2 := ⟨_, _, _, _, _, _⟩) (by rfl) rfl _ _ rfl rfl (fun _ => rfl) (fun _ => rfl) (fun v1 gb1 H11 kb => ?_)
      simp only [Act.put, List.setIfInBounds_toArray, List.set_cons_zero, List.set_cons_succ]
      replace D := D.trans (kb.mono D.size)
      replace hb := hb.on kb
      replace hyv := hyv.on kb
      clear kb
      refine wpList_nil ?_
      refine hK7 _ _ ?_
      clear hK7 K7
      refine wp_seq_k (fun K8 hK8 => ?_)
      refine wp_region_lit ?_
      refine wl_yield (o := ⟨_, _, _, _, _, _⟩) (EC.val d) (yl_ex (by rfl) _ rfl _ 0 rfl _ (fun _ h => by subst h; exact ExIn.ec H11)) ?_
      simp only [Act.put, List.setIfInBounds_toArray, List.set_cons_zero, List.set_cons_succ]
      refine wl_yield (o := ⟨_, _, _, _, _, _⟩) (.bool neg) (yl_move (by rfl) _ rfl _ rfl) ?_
      simp only [Act.put, List.setIfInBounds_toArray, List.set_cons_zero, List.set_cons_succ]
      refine wl_call (o := ⟨_, _, _, _, _, _⟩) (by rfl) 35 _ _ rfl #[EC.val d, .bool neg] rfl (run_call Tryz.func35 (by kernel_rfl) (by kernel_rfl)) ?_
      refine (IH d (subs.getD k noX) neg _ hyv (he _ hmem) (by omega)).mono ?_
      rintro r v2 ⟨hr, kb⟩
      replace D := D.trans (kb.mono D.size)
      replace hb := hb.on kb
      replace hyv := hyv.on kb
      replace H11 := H11.on kb
      clear kb
      cases ey : boxesX n (subs.getD k noX) neg
      · rw [ey] at hr
        obtain rfl : r = .returned (.tuple #[.slice none 0 0, .bool false]) := hr
        refine ⟨.tuple #[.slice none 0 0, .bool false], rfl, ?_⟩
        simp only [Act.put, List.setIfInBounds_toArray, List.set_cons_zero, List.set_cons_succ]
        refine wl_yield (o := ⟨_, _, _, _, _, _⟩) (.tuple #[.slice none 0 0, .bool false]) (yl_move (by rfl) _ rfl _ rfl) ?_
        simp only [Act.put, List.setIfInBounds_toArray, List.set_cons_zero, List.set_cons_succ]
        refine wl_yield (o := ⟨_, _, _, _, _, _⟩) (.slice none 0 0) (yl_extract0 (by rfl) _ rfl _ _ rfl) ?_
        simp only [Act.put, List.setIfInBounds_toArray, List.set_cons_zero, List.set_cons_succ]
        refine wl_yield (o := ⟨_, _, _, _, _, _⟩) (.bool false) (yl_extract1 (by rfl) _ rfl _ _ rfl) ?_
        simp only [Act.put, List.setIfInBounds_toArray, List.set_cons_zero, List.set_cons_succ]
        refine wl_yield (o := ⟨_, _, _, _, _, _⟩) (.slice none 0 0) (yl_assign (by rfl) _ rfl _ rfl) ?_
        simp only [Act.put, List.setIfInBounds_toArray, List.set_cons_zero, List.set_cons_succ]
        refine wl_yield (o := ⟨_, _, _, _, _, _⟩) (.bool false) (yl_assign (by rfl) _ rfl _ rfl) ?_
        simp only [Act.put, List.setIfInBounds_toArray, List.set_cons_zero, List.set_cons_succ]
        refine wpList_nil ?_
        refine hK8 _ _ ?_
        clear hK8 K8
        refine wp_seq_k (fun K9 hK9 => ?_)
        refine wp_seq_k (fun K10 hK10 => ?_)
        refine wp_region_lit ?_
        refine wl_yield (o := ⟨_, _, _, _, _, _⟩) (.bool false) (yl_move (by rfl) _ rfl _ rfl) ?_
        simp only [Act.put, List.setIfInBounds_toArray, List.set_cons_zero, List.set_cons_succ]
        refine wl_yield (o := ⟨_, _, _, _, _, _⟩) (.bool true) (yl_not (by rfl) _ _ rfl false rfl) ?_
        simp only [Act.put, List.setIfInBounds_toArray, List.set_cons_zero, List.set_cons_succ]
        refine wpList_nil ?_
        refine hK10 _ _ ?_
        clear hK10 K10
        refine wp_cond_true rfl ?_
        refine wp_seq_k (fun K11 hK11 => ?_)
        refine wp_region_lit ?_
        refine wl_yield (o := ⟨_, _, _, _, _, _⟩) (.slice none 0 0) (yl_assign (by rfl) _ rfl _ rfl) ?_
        simp only [Act.put, List.setIfInBounds_toArray, List.set_cons_zero, List.set_cons_succ]
        refine wl_yield (o := ⟨_, _, _, _, _, _⟩) (.bool false) (yl_assign (by rfl) _ rfl _ rfl) ?_
        simp only [Act.put, List.setIfInBounds_toArray, List.set_cons_zero, List.set_cons_succ]
        refine wpList_nil ?_
        refine hK11 _ _ ?_
        clear hK11 K11
        refine wp_ret ?_
        try simp only [Exit.inBlock, Exit.then]
        refine bodyPost_ret (results_tmp2 rfl _ _ _) rfl ?_
        exact ⟨by rw [← hfold, fold_at hlt, ey]; rfl, D⟩
      · rename_i ly
        rw [ey] at hr
        obtain ⟨u1, rfl, hby, hny⟩ : ∃ u, r = .returned (.tuple #[u, .bool true]) ∧ Bxs _ u ly ∧ nilOk u := hr
        have hRes := boxes_res n _ neg ly (he _ hmem) (hi _ hmem) (by omega) ey
        have hpos := boxes_pos ey
        have hFJ : Fits (((subs.take k).map (wX n)).sum + wX n (subs.getD k noX)) (joinL prod lk ly) := fits_join hFk hRes hpos (by omega)
        have hL16 := boxes_len n _ neg ly ey
        refine ⟨.tuple #[u1, .bool true], rfl, ?_⟩
        simp only [Act.put, List.setIfInBounds_toArray, List.set_cons_zero, List.set_cons_succ]
        refine wl_yield (o := ⟨_, _, _, _, _, _⟩) (.tuple #[u1, .bool true]) (yl_move (by rfl) _ rfl _ rfl) ?_
        simp only [Act.put, List.setIfInBounds_toArray, List.set_cons_zero, List.set_cons_succ]
        refine wl_yield (o := ⟨_, _, _, _, _, _⟩) (u1) (yl_extract0 (by rfl) _ rfl _ _ rfl) ?_
        simp only [Act.put, List.setIfInBounds_toArray, List.set_cons_zero, List.set_cons_succ]
        refine wl_yield (o := ⟨_, _, _, _, _, _⟩) (.bool true) (yl_extract1 (by rfl) _ rfl _ _ rfl) ?_
        simp only [Act.put, List.setIfInBounds_toArray, List.set_cons_zero, List.set_cons_succ]
        refine wl_yield (o := ⟨_, _, _, _, _, _⟩) (u1) (yl_assign (by rfl) _ rfl _ rfl) ?_
        simp only [Act.put, List.setIfInBounds_toArray, List.set_cons_zero, List.set_cons_succ]
        refine wl_yield (o := ⟨_, _, _, _, _, _⟩) (.bool true) (yl_assign (by rfl) _ rfl _ rfl) ?_
        simp only [Act.put, List.setIfInBounds_toArray, List.set_cons_zero, List.set_cons_succ]
        refine wpList_nil ?_
        refine hK8 _ _ ?_
        clear hK8 K8
        refine wp_seq_k (fun K9 hK9 => ?_)
        refine wp_seq_k (fun K10 hK10 => ?_)
        refine wp_region_lit ?_
        refine wl_yield (o := ⟨_, _, _, _, _, _⟩) (.bool true) (yl_move (by rfl) _ rfl _ rfl) ?_
        simp only [Act.put, List.setIfInBounds_toArray, List.set_cons_zero, List.set_cons_succ]
        refine wl_yield (o := ⟨_, _, _, _, _, _⟩) (.bool false) (yl_not (by rfl) _ _ rfl true rfl) ?_
        simp only [Act.put, List.setIfInBounds_toArray, List.set_cons_zero, List.set_cons_succ]
        refine wpList_nil ?_
        refine hK10 _ _ ?_
        clear hK10 K10
        refine wp_cond_false rfl ?_
        refine wp_skip ?_
        refine hK9 _ _ ?_
        clear hK9 K9
        refine wp_seq_k (fun K11 hK11 => ?_)
        refine wp_region_lit ?_
        refine wl_yield (o := ⟨_, _, _, _, _, _⟩) (.func (.func fid) #[] #[]) (yl_move (by rfl) _ rfl _ rfl) ?_
        simp only [Act.put, List.setIfInBounds_toArray, List.set_cons_zero, List.set_cons_succ]
        refine wl_yield (o := ⟨_, _, _, _, _, _⟩) (u0) (yl_move (by rfl) _ rfl _ rfl) ?_
        simp only [Act.put, List.setIfInBounds_toArray, List.set_cons_zero, List.set_cons_succ]
        refine wl_yield (o := ⟨_, _, _, _, _, _⟩) (u1) (yl_move (by rfl) _ rfl _ rfl) ?_
        simp only [Act.put, List.setIfInBounds_toArray, List.set_cons_zero, List.set_cons_succ]
        refine wl_callv (o := ⟨_, _, _, _, _, _⟩) (by rfl) fid _ _ _ rfl #[] rfl #[u0, u1] rfl (hf) ?_
        refine (HJ _ _ lk ly _ hb hby hnl hny (hFk.fitL (by omega)) (hRes.fitL (by omega)) h16 hL16).mono ?_
        rintro r v3 ⟨⟨u2, k2, B2, rfl, hO2, hA2⟩, kb⟩
        replace D := D.trans (kb.mono D.size)
        replace hb := hb.on kb
        replace hyv := hyv.on kb
        replace H11 := H11.on kb
        replace hby := hby.on kb
        clear kb
        have hJL : (joinL prod lk ly).length ≤ 1000 := len_join h16 hL16
        have hb2 := (bxs_own hO2 hA2 hJL).1
        clear hO2 hA2
        refine ⟨u2, rfl, ?_⟩
        simp only [Act.put, List.setIfInBounds_toArray, List.set_cons_zero, List.set_cons_succ]
        refine wl_call (o := ⟨_, _, _, _, _, _⟩) (by rfl) 47 _ _ rfl #[u2] rfl (run_call Tryz.func47 (by kernel_rfl) (by kernel_rfl)) ?_
        refine (tidied_any _ (joinL prod lk ly) _ hb2 (hFJ.fitL (by omega)) hJL).mono ?_
        rintro r v4 ⟨⟨u3, k3, rfl, hO3, hA3⟩, kb⟩
        replace D := D.trans (kb.mono D.size)
        replace hb := hb.on kb
        replace hyv := hyv.on kb
        replace H11 := H11.on kb
        replace hby := hby.on kb
        replace hb2 := hb2.on kb
        clear kb
        rw [tidP_eq (hFJ.fitL (by omega)).good] at hA3
        have hTL : (tidyL (joinL prod lk ly)).length ≤ 1000 := Nat.le_trans (tidy_len _) hJL
        clear hb2
        have hk3 := hA3.1
        obtain ⟨hb2, hn2⟩ := bxs_own hO3 hA3 hTL
        obtain ⟨p3, c3, rfl⟩ := hO3.sl
        clear hO3 hA3
        refine ⟨.slice p3 k3.length c3, rfl, ?_⟩
        simp only [Act.put, List.setIfInBounds_toArray, List.set_cons_zero, List.set_cons_succ]
        refine wl_yield (o := ⟨_, _, _, _, _, _⟩) (.slice p3 k3.length c3) (yl_assign (by rfl) _ rfl _ rfl) ?_
        simp only [Act.put, List.setIfInBounds_toArray, List.set_cons_zero, List.set_cons_succ]
        refine wpList_nil ?_
        refine hK11 _ _ ?_
        clear hK11 K11
        refine wp_seq_k (fun K12 hK12 => ?_)
        refine wp_region_lit ?_
        refine wl_yield (o := ⟨_, _, _, _, _, _⟩) (.slice p3 k3.length c3) (yl_move (by rfl) _ rfl _ rfl) ?_
        simp only [Act.put, List.setIfInBounds_toArray, List.set_cons_zero, List.set_cons_succ]
        refine wl_yield (o := ⟨_, _, _, _, _, _⟩) (.int .i64 (k3.length : Nat)) (yl_lenB (by rfl) _ rfl _ _ _ rfl) ?_
        simp only [Act.put, List.setIfInBounds_toArray, List.set_cons_zero, List.set_cons_succ]
        refine wl_yield (o := ⟨_, _, _, _, _, _⟩) (.bool (decide (16 < k3.length))) (yl_gtrI (by rfl) _ _ _ rfl (((k3.length : Nat) : Int)) (16) (decide (16 < k3.length)) rfl rfl (by rw [decide_eq_decide]; omega)) ?_
        simp only [Act.put, List.setIfInBounds_toArray, List.set_cons_zero, List.set_cons_succ]
        refine wpList_nil ?_
        refine hK12 _ _ ?_
        clear hK12 K12
        refine wp_cond_split (t := (decide (16 < k3.length))) rfl (fun hc => ?_) (fun hc => ?_)
        · have h16' : 16 < k3.length := of_decide_eq_true hc
          refine wp_seq_k (fun K13 hK13 => ?_)
          refine wp_region_lit ?_
          refine wl_yield (o := ⟨_, _, _, _, _, _⟩) (.slice none 0 0) (yl_assign (by rfl) _ rfl _ rfl) ?_
          simp only [Act.put, List.setIfInBounds_toArray, List.set_cons_zero, List.set_cons_succ]
          refine wl_yield (o := ⟨_, _, _, _, _, _⟩) (.bool false) (yl_assign (by rfl) _ rfl _ rfl) ?_
          simp only [Act.put, List.setIfInBounds_toArray, List.set_cons_zero, List.set_cons_succ]
          refine wpList_nil ?_
          refine hK13 _ _ ?_
          clear hK13 K13
          refine wp_ret ?_
          try simp only [Exit.inBlock, Exit.then]
          refine bodyPost_ret (results_tmp2 rfl _ _ _) rfl ?_
          exact ⟨by rw [← hfold, fold_at hlt, ey]; dsimp only; rw [if_neg (by omega)]; rfl, D⟩
        · have h16' : ¬ 16 < k3.length := of_decide_eq_false hc
          refine wp_skip ?_
          refine hK6 _ _ ?_
          clear hK6 K6
          refine wp_region_lit ?_
          refine wl_yield (o := ⟨_, _, _, _, _, _⟩) (.int .i64 (k + 1 : Nat)) (yl_addI (by rfl) _ _ _ rfl (((k : Nat) : Int)) (1) (((k + 1 : Nat) : Int)) rfl rfl (by omega) (by omega) (by omega)) ?_
          simp only [Act.put, List.setIfInBounds_toArray, List.set_cons_zero, List.set_cons_succ]
          refine wl_yield (o := ⟨_, _, _, _, _, _⟩) (.int .i64 (k + 1 : Nat)) (yl_move (by rfl) _ rfl _ rfl) ?_
          simp only [Act.put, List.setIfInBounds_toArray, List.set_cons_zero, List.set_cons_succ]
          refine wpList_nil ?_
          show _ ∧ _
          go_roundw
          case rel => exact ⟨k + 1, tidyL (joinL prod lk ly), rfl, by omega, hb2, hn2, by omega, by rw [sum_take _ _ _ hlt]; exact hFJ.tidy, by rw [← hfold, fold_at hlt, ey]; dsimp only; rw [if_pos (by omega)], D⟩
          case measure => simp [intOf]; omega
    · refine wp_seq_k (fun K4 hK4 => ?_)
      refine wp_region_lit ?_
      refine wl_yield (o := ⟨_, _, _, _, _, _⟩) (.bool false) (yl_lssI (by rfl) _ _ _ rfl (((k : Nat) : Int)) (((subs.length : Nat) : Int)) false rfl rfl (decide_eq_false (by omega))) ?_
      simp only [Act.put, List.setIfInBounds_toArray, List.set_cons_zero, List.set_cons_succ]
      refine wpList_nil ?_
      refine hK4 _ _ ?_
      clear hK4 K4
      refine wp_seq_k (fun K5 hK5 => ?_)
      refine wp_cond_false rfl ?_
      refine wp_exit ?_
      refine hK2 _ _ ?_
      clear hK5 K5 hK2 K2
      refine wp_seq_k (fun K6 hK6 => ?_)
      refine wp_region_lit ?_
      refine wl_yield (o := ⟨_, _, _, _, _, _⟩) (u0) (yl_move (by rfl) _ rfl _ rfl) ?_
      simp only [Act.put, List.setIfInBounds_toArray, List.set_cons_zero, List.set_cons_succ]
      refine wl_yield (o := ⟨_, _, _, _, _, _⟩) (u0) (yl_assign (by rfl) _ rfl _ rfl) ?_
      simp only [Act.put, List.setIfInBounds_toArray, List.set_cons_zero, List.set_cons_succ]
      refine wl_yield (o := ⟨_, _, _, _, _, _⟩) (.bool true) (yl_assign (by rfl) _ rfl _ rfl) ?_
      simp only [Act.put, List.setIfInBounds_toArray, List.set_cons_zero, List.set_cons_succ]
      refine wpList_nil ?_
      refine hK6 _ _ ?_
      clear hK6 K6
      refine wp_ret ?_
      try simp only [Exit.inBlock, Exit.then]
      refine bodyPost_ret (results_tmp2 rfl _ _ _) rfl ?_
      exact ⟨by rw [← hfold, show subs.drop k = [] from List.drop_eq_nil_of_le (by omega)]; exact ⟨_, rfl, hb, hnl⟩, D⟩
end Go.Proofs.YtlfhpocfacaaeaaGreat
/-
  The program's boxesOf and Of.
-/
set_option linter.unusedSimpArgs false
set_option linter.unusedVariables false
namespace Go.Proofs.YtlfhpocfacaaeaaGreat
open Go.RowKit

theorem row_one {w : World} {g : Nat} {c : BxC} (h : BcIn w g c) : BxRow w (.slice (some ⟨g, 0, none⟩) 1 1) [c] :=
  ⟨by simp, _, 1, rfl, fun i hi => ⟨g, 0, rfl, lt_heap h, by
    have e : i = 0 := by simpa using hi
    subst e
    exact h.range⟩⟩
theorem bxs_one {w : World} {g : Nat} {c : BxC} {b : BoxV} (h : BcIn w g c) (hb : BoxAt w c.val b) : Bxs w (.slice (some ⟨g, 0, none⟩) 1 1) [b] :=
  ⟨[c], row_one h, rfl, fun i hi => by
    have e : i = 0 := by simpa using hi
    subst e
    exact hb⟩
theorem bxs_none (w : World) : Bxs w (.slice none 0 0) [] := bxs_nil w
theorem nil_some {g n c : Nat} : nilOk (.slice (some ⟨g, 0, none⟩) n c) := fun _ _ e => by cases e
theorem nil_none : nilOk (.slice none 0 0) := fun _ _ _ => rfl
theorem boxes1 {n : Nat} {x : ExV} {neg : Bool} (h : x.kind = 1) : boxesX (n + 1) x neg = some (tidyL [allBx.put x.attr.toNat (if neg then notV x.set else x.set)]) := by
  show (if x.kind = 1 then _ else _) = _
  rw [if_pos h]
theorem boxes4 {n : Nat} {x : ExV} {neg : Bool} (h : x.kind = 4) : boxesX (n + 1) x neg = boxesX n (x.sub.getD 0 noX) !neg := by
  show (if x.kind = 1 then _ else if x.kind = 4 then _ else _) = _
  rw [if_neg (by omega), if_pos h]
  cases x.sub <;> rfl
theorem boxes23 {n : Nat} {x : ExV} {neg : Bool} (h1 : ¬ x.kind = 1) (h4 : ¬ x.kind = 4) : boxesX (n + 1) x neg = foldX (fun y => boxesX n y neg) (prodX x neg) x.sub (if prodX x neg then [allBx] else []) := by
  show (if x.kind = 1 then _ else if x.kind = 4 then _ else _) = _
  rw [if_neg h1, if_neg h4]
  rfl
set_option maxHeartbeats 4000000 in
set_option maxRecDepth 100000 in
theorem boxesOf_step (n : Nat) (IH : BoxesIH n) (c : EC) (x : ExV) (neg : Bool) (w : World) (hx : ExAt (n + 1) w c.val x) (he : eachX (n + 1) x = true) (hw : wX (n + 1) x ≤ 40) :
    Calls Tryz.prog 35 #[c.val, .bool neg] w fun r w' => BoxesOk w' r (boxesX (n + 1) x neg) ∧ Below w.heap.size w w' := by
  obtain ⟨hnode, hsub⟩ : nodeX x = true ∧ ∀ y ∈ x.sub, eachX n y = true := by
    unfold eachX at he
    rw [Bool.and_eq_true, List.all_eq_true] at he
    exact he
  have hE := hx.for
  have hi := hx.i64
  have hwd : wX (n + 1) x = 1 + (x.sub.map (wX n)).sum := rfl
  have D := Below.refl w.heap.size w
  by_cases k1 : x.kind = 1
  · obtain ⟨hR, _, ha0, ha3, hgood, hn6, hs6⟩ := atom_res (neg := neg) hnode k1 hi.1
    go_enter Tryz.func35, Tryz.ntmps35
    refine wp_seq_k (fun K1 hK1 => ?_)
    refine wp_region_lit ?_
    refine wl_boxEx (o := ⟨_, _, _, _, _, _⟩) (by rfl) _ rfl rfl (fun v1 gb1 HX kb => ?_)
    simp only [Act.put, List.setIfInBounds_toArray, List.set_cons_zero, List.set_cons_succ]
    replace D := D.trans (kb.mono D.size)
    clear kb
    refine wl_yield (o := ⟨_, _, _, _, _, _⟩) (.slice none 0 0) (yl_assign (by rfl) _ rfl _ rfl) ?_
    simp only [Act.put, List.setIfInBounds_toArray, List.set_cons_zero, List.set_cons_succ]
    refine wl_yield (o := ⟨_, _, _, _, _, _⟩) (.bool false) (yl_assign (by rfl) _ rfl _ rfl) ?_
    simp only [Act.put, List.setIfInBounds_toArray, List.set_cons_zero, List.set_cons_succ]
    refine wpList_nil ?_
    refine hK1 _ _ ?_
    clear hK1 K1
    refine wp_seq_k (fun K2 hK2 => ?_)
    refine wp_block ?_
    refine wp_seq_k (fun K3 hK3 => ?_)
    refine wp_region_lit ?_
    refine wl_yield (o := ⟨_, _, _, _, _, _⟩) (.pointer (some ⟨gb1, 0, none⟩)) (yl_exField0 (by rfl) _ rfl _ rfl) ?_
    simp only [Act.put, List.setIfInBounds_toArray, List.set_cons_zero, List.set_cons_succ]
    refine wl_yield (o := ⟨_, _, _, _, _, _⟩) (.int .i64 (c.k)) (yl_intX (by rfl) _ rfl _ 0 rfl _ (fun _ h => by subst h; exact ExIn.c0 HX)) ?_
    simp only [Act.put, List.setIfInBounds_toArray, List.set_cons_zero, List.set_cons_succ]
    refine wl_yield (o := ⟨_, _, _, _, _, _⟩) (.bool true) (yl_eqlI (by rfl) _ _ _ rfl (c.k) (1) true rfl rfl (decide_eq_true (by rw [hE.k]; exact k1))) ?_
    simp only [Act.put, List.setIfInBounds_toArray, List.set_cons_zero, List.set_cons_succ]
    refine wl_yield (o := ⟨_, _, _, _, _, _⟩) (.bool true) (yl_assign (by rfl) _ rfl _ rfl) ?_
    simp only [Act.put, List.setIfInBounds_toArray, List.set_cons_zero, List.set_cons_succ]
    refine wpList_nil ?_
    refine hK3 _ _ ?_
    clear hK3 K3
    refine wp_cond_true rfl ?_
    refine wp_seq_k (fun K4 hK4 => ?_)
    refine wp_region_lit ?_
    refine wl_yield (o := ⟨_, _, _, _, _, _⟩) (EC.val c) (yl_ex (by rfl) _ rfl _ 0 rfl _ (fun _ h => by subst h; exact ExIn.ec HX)) ?_
    simp only [Act.put, List.setIfInBounds_toArray, List.set_cons_zero, List.set_cons_succ]
    refine wl_yield (o := ⟨_, _, _, _, _, _⟩) (.bool neg) (yl_move (by rfl) _ rfl _ rfl) ?_
    simp only [Act.put, List.setIfInBounds_toArray, List.set_cons_zero, List.set_cons_succ]
    refine wl_call (o := ⟨_, _, _, _, _, _⟩) (by rfl) 64 _ _ rfl #[EC.val c, .bool neg] rfl (run_call Tryz.func64 (by kernel_rfl) (by kernel_rfl)) ?_
    refine (atomBox_any c x neg _ (hE.on D) ha0 ha3 hgood hn6 hs6).mono ?_
    rintro r v2 ⟨⟨y1, rfl, hy⟩, kb⟩
    replace D := D.trans (kb.mono D.size)
    replace HX := HX.on kb
    clear kb
    obtain ⟨cy, rfl⟩ := hy.bc
    refine ⟨BxC.val cy, rfl, ?_⟩
    simp only [Act.put, List.setIfInBounds_toArray, List.set_cons_zero, List.set_cons_succ]
    refine wl_rowB1 (o := ⟨_, _, _, _, _, _⟩) (by rfl) _ rfl rfl (fun v3 gb3 hggb3 IO13 kb => ?_)
    simp only [Act.put, List.setIfInBounds_toArray, List.set_cons_zero, List.set_cons_succ]
    replace D := D.trans (kb.mono D.size)
    replace HX := HX.on kb
    replace hy := hy.on kb
    clear kb
    refine wl_call (o := ⟨_, _, _, _, _, _⟩) (by rfl) 47 _ _ rfl #[.slice (some ⟨gb3, 0, none⟩) 1 1] rfl (run_call Tryz.func47 (by kernel_rfl) (by kernel_rfl)) ?_
    refine (tidied_any _ [allBx.put x.attr.toNat (if neg then notV x.set else x.set)] _ (bxs_one IO13 hy) (hR.fitL (by omega)) (by simp)).mono ?_
    rintro r v4 ⟨⟨u3, k3, rfl, hO3, hA3⟩, kb⟩
    replace D := D.trans (kb.mono D.size)
    replace HX := HX.on kb
    replace hy := hy.on kb
    replace IO13 := IO13.on kb
    clear kb
    rw [tidP_eq (hR.fitL (by omega)).good] at hA3
    obtain ⟨hb2, hn2⟩ := bxs_own hO3 hA3 (Nat.le_trans (tidy_len _) (by simp))
    refine ⟨u3, rfl, ?_⟩
    simp only [Act.put, List.setIfInBounds_toArray, List.set_cons_zero, List.set_cons_succ]
    refine wl_yield (o := ⟨_, _, _, _, _, _⟩) (u3) (yl_assign (by rfl) _ rfl _ rfl) ?_
    simp only [Act.put, List.setIfInBounds_toArray, List.set_cons_zero, List.set_cons_succ]
    refine wl_yield (o := ⟨_, _, _, _, _, _⟩) (.bool true) (yl_assign (by rfl) _ rfl _ rfl) ?_
    simp only [Act.put, List.setIfInBounds_toArray, List.set_cons_zero, List.set_cons_succ]
    refine wpList_nil ?_
    refine hK4 _ _ ?_
    clear hK4 K4
    refine wp_ret ?_
    try simp only [Exit.inBlock, Exit.then]
    refine bodyPost_ret (results_tmp2 rfl _ _ _) rfl ?_
    exact ⟨by rw [boxes1 k1]; exact ⟨_, rfl, hb2, hn2⟩, D⟩
  by_cases k4 : x.kind = 4
  · have hlen : x.sub.length = 1 := by
      unfold nodeX at hnode
      rw [if_neg k1, if_pos (by omega), Bool.and_eq_true, decide_eq_true_eq] at hnode
      have := hnode.2 k4
      omega
    have hmem : x.sub.getD 0 noX ∈ x.sub := getD_mem (by omega)
    have hwy := wX_sub (n := n) hmem
    obtain ⟨g, off, d, hp, hglt, HE, hy⟩ := hx.rows.at 0 (by omega)
    have hlt0 : 0 < c.n := by rw [hE.n]; omega
    go_enter Tryz.func35, Tryz.ntmps35
    refine wp_seq_k (fun K1 hK1 => ?_)
    refine wp_region_lit ?_
    refine wl_boxEx (o := ⟨_, _, _, _, _, _⟩) (by rfl) _ rfl rfl (fun v1 gb1 HX kb => ?_)
    simp only [Act.put, List.setIfInBounds_toArray, List.set_cons_zero, List.set_cons_succ]
    replace D := D.trans (kb.mono D.size)
    clear kb
    refine wl_yield (o := ⟨_, _, _, _, _, _⟩) (.slice none 0 0) (yl_assign (by rfl) _ rfl _ rfl) ?_
    simp only [Act.put, List.setIfInBounds_toArray, List.set_cons_zero, List.set_cons_succ]
    refine wl_yield (o := ⟨_, _, _, _, _, _⟩) (.bool false) (yl_assign (by rfl) _ rfl _ rfl) ?_
    simp only [Act.put, List.setIfInBounds_toArray, List.set_cons_zero, List.set_cons_succ]
    refine wpList_nil ?_
    refine hK1 _ _ ?_
    clear hK1 K1
    refine wp_seq_k (fun K2 hK2 => ?_)
    refine wp_block ?_
    refine wp_seq_k (fun K3 hK3 => ?_)
    refine wp_region_lit ?_
    refine wl_yield (o := ⟨_, _, _, _, _, _⟩) (.pointer (some ⟨gb1, 0, none⟩)) (yl_exField0 (by rfl) _ rfl _ rfl) ?_
    simp only [Act.put, List.setIfInBounds_toArray, List.set_cons_zero, List.set_cons_succ]
    refine wl_yield (o := ⟨_, _, _, _, _, _⟩) (.int .i64 (c.k)) (yl_intX (by rfl) _ rfl _ 0 rfl _ (fun _ h => by subst h; exact ExIn.c0 HX)) ?_
    simp only [Act.put, List.setIfInBounds_toArray, List.set_cons_zero, List.set_cons_succ]
    refine wl_yield (o := ⟨_, _, _, _, _, _⟩) (.bool false) (yl_eqlI (by rfl) _ _ _ rfl (c.k) (1) false rfl rfl (decide_eq_false (by rw [hE.k]; exact k1))) ?_
    simp only [Act.put, List.setIfInBounds_toArray, List.set_cons_zero, List.set_cons_succ]
    refine wl_yield (o := ⟨_, _, _, _, _, _⟩) (.bool false) (yl_assign (by rfl) _ rfl _ rfl) ?_
    simp only [Act.put, List.setIfInBounds_toArray, List.set_cons_zero, List.set_cons_succ]
    refine wpList_nil ?_
    refine hK3 _ _ ?_
    clear hK3 K3
    refine wp_cond_false rfl ?_
    refine wp_seq_k (fun K4 hK4 => ?_)
    refine wp_region_lit ?_
    refine wl_yield (o := ⟨_, _, _, _, _, _⟩) (.pointer (some ⟨gb1, 0, none⟩)) (yl_exField0 (by rfl) _ rfl _ rfl) ?_
    simp only [Act.put, List.setIfInBounds_toArray, List.set_cons_zero, List.set_cons_succ]
    refine wl_yield (o := ⟨_, _, _, _, _, _⟩) (.int .i64 (c.k)) (yl_intX (by rfl) _ rfl _ 0 rfl _ (fun _ h => by subst h; exact ExIn.c0 HX)) ?_
    simp only [Act.put, List.setIfInBounds_toArray, List.set_cons_zero, List.set_cons_succ]
    refine wl_yield (o := ⟨_, _, _, _, _, _⟩) (.bool true) (yl_eqlI (by rfl) _ _ _ rfl (c.k) (4) true rfl rfl (decide_eq_true (by rw [hE.k]; exact k4))) ?_
    simp only [Act.put, List.setIfInBounds_toArray, List.set_cons_zero, List.set_cons_succ]
    refine wl_yield (o := ⟨_, _, _, _, _, _⟩) (.bool true) (yl_assign (by rfl) _ rfl _ rfl) ?_
    simp only [Act.put, List.setIfInBounds_toArray, List.set_cons_zero, List.set_cons_succ]
    refine wpList_nil ?_
    refine hK4 _ _ ?_
    clear hK4 K4
    refine wp_cond_true rfl ?_
    refine wp_seq_k (fun K5 hK5 => ?_)
    refine wp_region_lit ?_
    refine wl_yield (o := ⟨_, _, _, _, _, _⟩) (.pointer (some ⟨gb1, 6, none⟩)) (yl_exSub (by rfl) _ rfl _ rfl) ?_
    simp only [Act.put, List.setIfInBounds_toArray, List.set_cons_zero, List.set_cons_succ]
    refine wl_yield (o := ⟨_, _, _, _, _, _⟩) (.slice (some ⟨g, off, none⟩) c.n c.c) (yl_exRow (by rfl) _ rfl _ 6 rfl _ _ _ (fun _ h => by subst h; have := ExIn.c6 HX; rw [hp] at this; exact this)) ?_
    simp only [Act.put, List.setIfInBounds_toArray, List.set_cons_zero, List.set_cons_succ]
    refine wl_yield (o := ⟨_, _, _, _, _, _⟩) (.pointer (some ⟨g, off + 0 * 7, none⟩)) (yl_exAtO (by rfl) _ _ rfl g (off) _ _ (0) rfl rfl (hlt0)) ?_
    simp only [Act.put, List.setIfInBounds_toArray, List.set_cons_zero, List.set_cons_succ]
    refine wl_yield (o := ⟨_, _, _, _, _, _⟩) (EC.val d) (yl_ex (by rfl) _ rfl _ _ rfl _ (fun _ h => by subst h; exact HE.on hglt D)) ?_
    simp only [Act.put, List.setIfInBounds_toArray, List.set_cons_zero, List.set_cons_succ]
    refine wl_yield (o := ⟨_, _, _, _, _, _⟩) (.bool neg) (yl_move (by rfl) _ rfl _ rfl) ?_
    simp only [Act.put, List.setIfInBounds_toArray, List.set_cons_zero, List.set_cons_succ]
    refine wl_yield (o := ⟨_, _, _, _, _, _⟩) (.bool (!neg)) (yl_not (by rfl) _ _ rfl neg rfl) ?_
    simp only [Act.put, List.setIfInBounds_toArray, List.set_cons_zero, List.set_cons_succ]
    refine wl_call (o := ⟨_, _, _, _, _, _⟩) (by rfl) 35 _ _ rfl #[EC.val d, .bool (!neg)] rfl (run_call Tryz.func35 (by kernel_rfl) (by kernel_rfl)) ?_
    refine (IH d (x.sub.getD 0 noX) (!neg) _ (ExAt.on D n hy) (hsub _ hmem) (by omega)).mono ?_
    rintro r v2 ⟨hr, kb⟩
    replace D := D.trans (kb.mono D.size)
    replace HX := HX.on kb
    clear kb
    cases ey : boxesX n (x.sub.getD 0 noX) !neg
    · rw [ey] at hr
      obtain rfl : r = .returned (.tuple #[.slice none 0 0, .bool false]) := hr
      refine ⟨.tuple #[.slice none 0 0, .bool false], rfl, ?_⟩
      simp only [Act.put, List.setIfInBounds_toArray, List.set_cons_zero, List.set_cons_succ]
      refine wl_yield (o := ⟨_, _, _, _, _, _⟩) (.slice none 0 0) (yl_extract0 (by rfl) _ rfl _ _ rfl) ?_
      simp only [Act.put, List.setIfInBounds_toArray, List.set_cons_zero, List.set_cons_succ]
      refine wl_yield (o := ⟨_, _, _, _, _, _⟩) (.bool false) (yl_extract1 (by rfl) _ rfl _ _ rfl) ?_
      simp only [Act.put, List.setIfInBounds_toArray, List.set_cons_zero, List.set_cons_succ]
      refine wl_yield (o := ⟨_, _, _, _, _, _⟩) (.slice none 0 0) (yl_assign (by rfl) _ rfl _ rfl) ?_
      simp only [Act.put, List.setIfInBounds_toArray, List.set_cons_zero, List.set_cons_succ]
      refine wl_yield (o := ⟨_, _, _, _, _, _⟩) (.bool false) (yl_assign (by rfl) _ rfl _ rfl) ?_
      simp only [Act.put, List.setIfInBounds_toArray, List.set_cons_zero, List.set_cons_succ]
      refine wpList_nil ?_
      refine hK5 _ _ ?_
      clear hK5 K5
      refine wp_ret ?_
      try simp only [Exit.inBlock, Exit.then]
      refine bodyPost_ret (results_tmp2 rfl _ _ _) rfl ?_
      exact ⟨by rw [boxes4 k4, ey]; rfl, D⟩
    · rename_i ly
      rw [ey] at hr
      obtain ⟨u1, rfl, hby, hny⟩ : ∃ u, r = .returned (.tuple #[u, .bool true]) ∧ Bxs _ u ly ∧ nilOk u := hr
      refine ⟨.tuple #[u1, .bool true], rfl, ?_⟩
      simp only [Act.put, List.setIfInBounds_toArray, List.set_cons_zero, List.set_cons_succ]
      refine wl_yield (o := ⟨_, _, _, _, _, _⟩) (u1) (yl_extract0 (by rfl) _ rfl _ _ rfl) ?_
      simp only [Act.put, List.setIfInBounds_toArray, List.set_cons_zero, List.set_cons_succ]
      refine wl_yield (o := ⟨_, _, _, _, _, _⟩) (.bool true) (yl_extract1 (by rfl) _ rfl _ _ rfl) ?_
      simp only [Act.put, List.setIfInBounds_toArray, List.set_cons_zero, List.set_cons_succ]
      refine wl_yield (o := ⟨_, _, _, _, _, _⟩) (u1) (yl_assign (by rfl) _ rfl _ rfl) ?_
      simp only [Act.put, List.setIfInBounds_toArray, List.set_cons_zero, List.set_cons_succ]
      refine wl_yield (o := ⟨_, _, _, _, _, _⟩) (.bool true) (yl_assign (by rfl) _ rfl _ rfl) ?_
      simp only [Act.put, List.setIfInBounds_toArray, List.set_cons_zero, List.set_cons_succ]
      refine wpList_nil ?_
      refine hK5 _ _ ?_
      clear hK5 K5
      refine wp_ret ?_
      try simp only [Exit.inBlock, Exit.then]
      refine bodyPost_ret (results_tmp2 rfl _ _ _) rfl ?_
      exact ⟨by rw [boxes4 k4, ey]; exact ⟨_, rfl, hby, hny⟩, D⟩
  have k2 : x.kind = 2 ∨ x.kind = 3 := by
    unfold nodeX at hnode
    rw [if_neg k1] at hnode
    by_cases hq : x.kind = 2 ∨ x.kind = 3 ∨ x.kind = 4
    · omega
    · rw [if_neg hq] at hnode; cases hnode
  rcases k2 with k23 | k23
  · cases neg
    · go_enter Tryz.func35, Tryz.ntmps35
      refine wp_seq_k (fun K1 hK1 => ?_)
      refine wp_region_lit ?_
      refine wl_boxEx (o := ⟨_, _, _, _, _, _⟩) (by rfl) _ rfl rfl (fun v1 gb1 HX kb => ?_)
      simp only [Act.put, List.setIfInBounds_toArray, List.set_cons_zero, List.set_cons_succ]
      replace D := D.trans (kb.mono D.size)
      clear kb
      refine wl_yield (o := ⟨_, _, _, _, _, _⟩) (.slice none 0 0) (yl_assign (by rfl) _ rfl _ rfl) ?_
      simp only [Act.put, List.setIfInBounds_toArray, List.set_cons_zero, List.set_cons_succ]
      refine wl_yield (o := ⟨_, _, _, _, _, _⟩) (.bool false) (yl_assign (by rfl) _ rfl _ rfl) ?_
      simp only [Act.put, List.setIfInBounds_toArray, List.set_cons_zero, List.set_cons_succ]
      refine wpList_nil ?_
      refine hK1 _ _ ?_
      clear hK1 K1
      refine wp_seq_k (fun K2 hK2 => ?_)
      refine wp_block ?_
      refine wp_seq_k (fun K3 hK3 => ?_)
      refine wp_region_lit ?_
      refine wl_yield (o := ⟨_, _, _, _, _, _⟩) (.pointer (some ⟨gb1, 0, none⟩)) (yl_exField0 (by rfl) _ rfl _ rfl) ?_
      simp only [Act.put, List.setIfInBounds_toArray, List.set_cons_zero, List.set_cons_succ]
      refine wl_yield (o := ⟨_, _, _, _, _, _⟩) (.int .i64 (c.k)) (yl_intX (by rfl) _ rfl _ 0 rfl _ (fun _ h => by subst h; exact ExIn.c0 HX)) ?_
      simp only [Act.put, List.setIfInBounds_toArray, List.set_cons_zero, List.set_cons_succ]
      refine wl_yield (o := ⟨_, _, _, _, _, _⟩) (.bool false) (yl_eqlI (by rfl) _ _ _ rfl (c.k) (1) false rfl rfl (decide_eq_false (by rw [hE.k]; exact k1))) ?_
      simp only [Act.put, List.setIfInBounds_toArray, List.set_cons_zero, List.set_cons_succ]
      refine wl_yield (o := ⟨_, _, _, _, _, _⟩) (.bool false) (yl_assign (by rfl) _ rfl _ rfl) ?_
      simp only [Act.put, List.setIfInBounds_toArray, List.set_cons_zero, List.set_cons_succ]
      refine wpList_nil ?_
      refine hK3 _ _ ?_
      clear hK3 K3
      refine wp_cond_false rfl ?_
      refine wp_seq_k (fun K4 hK4 => ?_)
      refine wp_region_lit ?_
      refine wl_yield (o := ⟨_, _, _, _, _, _⟩) (.pointer (some ⟨gb1, 0, none⟩)) (yl_exField0 (by rfl) _ rfl _ rfl) ?_
      simp only [Act.put, List.setIfInBounds_toArray, List.set_cons_zero, List.set_cons_succ]
      refine wl_yield (o := ⟨_, _, _, _, _, _⟩) (.int .i64 (c.k)) (yl_intX (by rfl) _ rfl _ 0 rfl _ (fun _ h => by subst h; exact ExIn.c0 HX)) ?_
      simp only [Act.put, List.setIfInBounds_toArray, List.set_cons_zero, List.set_cons_succ]
      refine wl_yield (o := ⟨_, _, _, _, _, _⟩) (.bool false) (yl_eqlI (by rfl) _ _ _ rfl (c.k) (4) false rfl rfl (decide_eq_false (by rw [hE.k]; exact k4))) ?_
      simp only [Act.put, List.setIfInBounds_toArray, List.set_cons_zero, List.set_cons_succ]
      refine wl_yield (o := ⟨_, _, _, _, _, _⟩) (.bool false) (yl_assign (by rfl) _ rfl _ rfl) ?_
      simp only [Act.put, List.setIfInBounds_toArray, List.set_cons_zero, List.set_cons_succ]
      refine wpList_nil ?_
      refine hK4 _ _ ?_
      clear hK4 K4
      refine wp_cond_false rfl ?_
      refine wp_seq_k (fun K5 hK5 => ?_)
      refine wp_region_lit ?_
      refine wl_yield (o := ⟨_, _, _, _, _, _⟩) (.pointer (some ⟨gb1, 0, none⟩)) (yl_exField0 (by rfl) _ rfl _ rfl) ?_
      simp only [Act.put, List.setIfInBounds_toArray, List.set_cons_zero, List.set_cons_succ]
      refine wl_yield (o := ⟨_, _, _, _, _, _⟩) (.int .i64 (c.k)) (yl_intX (by rfl) _ rfl _ 0 rfl _ (fun _ h => by subst h; exact ExIn.c0 HX)) ?_
      simp only [Act.put, List.setIfInBounds_toArray, List.set_cons_zero, List.set_cons_succ]
      refine wl_yield (o := ⟨_, _, _, _, _, _⟩) (.bool true) (yl_eqlI (by rfl) _ _ _ rfl (c.k) (2) true rfl rfl (decide_eq_true (by rw [hE.k]; exact k23))) ?_
      simp only [Act.put, List.setIfInBounds_toArray, List.set_cons_zero, List.set_cons_succ]
      refine wl_yield (o := ⟨_, _, _, _, _, _⟩) (.bool false) (yl_move (by rfl) _ rfl _ rfl) ?_
      simp only [Act.put, List.setIfInBounds_toArray, List.set_cons_zero, List.set_cons_succ]
      refine wl_yield (o := ⟨_, _, _, _, _, _⟩) (.bool true) (yl_neqB (by rfl) _ _ _ rfl true false rfl rfl) ?_
      simp only [Act.put, List.setIfInBounds_toArray, List.set_cons_zero, List.set_cons_succ]
      refine wl_yield (o := ⟨_, _, _, _, _, _⟩) (.bool true) (yl_assign (by rfl) _ rfl _ rfl) ?_
      simp only [Act.put, List.setIfInBounds_toArray, List.set_cons_zero, List.set_cons_succ]
      refine wpList_nil ?_
      refine hK5 _ _ ?_
      clear hK5 K5
      refine wp_cond_true rfl ?_
      refine wp_seq_k (fun K6 hK6 => ?_)
      refine wp_region_held_drew (S := fun w' => ExIn w' gb1 c) (by kernel_rfl) HX (fun hHeld => ?_)
      have kb : Below v1.heap.size v1 v1.drew := (Below.refl _ v1).drew
      replace D := D.trans (kb.mono D.size)
      replace HX := HX.on kb
      clear kb
      generalize v1.drew = v2 at D hHeld HX ⊢
      refine wpAnyH_take (i := 2) (oi := ⟨_, _, _, _, _, _⟩) (v := .pointer (some ⟨gb1, 6, none⟩)) rfl (by kernel_rfl) (by kernel_rfl) (by kernel_rfl) (fun _ _ _ h => h) (yl_exSub (by rfl) _ rfl _ rfl) (by assumption) ?_
      simp only [Act.put, List.setIfInBounds_toArray, List.set_cons_zero, List.set_cons_succ]
      refine wpAnyH_take (i := 3) (oi := ⟨_, _, _, _, _, _⟩) (v := .slice c.p c.n c.c) rfl (by kernel_rfl) (by kernel_rfl) (by kernel_rfl) (fun _ _ _ h => h) (yl_exRow (by rfl) _ rfl _ 6 rfl _ _ _ (fun _ h => ExIn.c6 h)) (by assumption) ?_
      simp only [Act.put, List.setIfInBounds_toArray, List.set_cons_zero, List.set_cons_succ]
      refine wpAnyH_take (i := 4) (oi := ⟨_, _, _, _, _, _⟩) (v := .bool false) rfl (by kernel_rfl) (by kernel_rfl) (by kernel_rfl) (fun _ _ _ h => h) (yl_move (by rfl) _ rfl _ rfl) (by assumption) ?_
      simp only [Act.put, List.setIfInBounds_toArray, List.set_cons_zero, List.set_cons_succ]
      refine held_call (o := ⟨_, _, _, _, _, _⟩) 0 (by kernel_rfl) rfl (by rfl) 66 _ _ rfl #[] rfl (run_call Tryz.func66 (by kernel_rfl) (by kernel_rfl)) ?_
      refine (boxProg0.all _).mono ?_
      rintro r v3 ⟨⟨y1, rfl, hy⟩, kb⟩
      replace D := D.trans (kb.mono D.size)
      replace HX := HX.on kb
      clear kb
      clear hHeld
      obtain ⟨cy, rfl⟩ := hy.bc
      refine ⟨BxC.val cy, rfl, HX, fun hHeld => ?_⟩
      simp only [Act.put, List.setIfInBounds_toArray, List.set_cons_zero, List.set_cons_succ]
      refine wpAnyH_all (rs := [1]) (by kernel_rfl) (by simp) ?_
      intro j hj
      have hj := List.mem_singleton.1 hj
      subst hj
      refine op_rowB1 (o := ⟨_, _, _, _, _, _⟩) rfl (by rfl) _ rfl rfl (fun v4 gb4 hggb4 HB kb => ?_)
      replace D := D.trans (kb.mono D.size)
      replace HX := HX.on kb
      replace hy := hy.on kb
      clear kb
      clear hHeld
      have hHeld := HX
      refine ⟨HX, ?_⟩
      simp only [Act.put, List.setIfInBounds_toArray, List.set_cons_zero, List.set_cons_succ]
      refine held_call (o := ⟨_, _, _, _, _, _⟩) 5 (by kernel_rfl) rfl (by rfl) 65 _ _ rfl #[.slice (some ⟨gb4, 0, none⟩) 1 1, .func (.func 67) #[] #[], .slice c.p c.n c.c, .bool false] rfl (run_call Tryz.func65 (by kernel_rfl) (by kernel_rfl)) ?_
      refine (gathered_any n IH 67 (run_call Tryz.func67 (by kernel_rfl) (by kernel_rfl)) true false joins_product _ _ x.sub [allBx] _ (hx.rows.on D) (bxs_one HB hy) nil_some (by simp) fits_all hsub (fun y hy => hi.2 y hy) (by omega)).mono ?_
      rintro r v5 ⟨hr, kb⟩
      replace D := D.trans (kb.mono D.size)
      replace HX := HX.on kb
      replace hy := hy.on kb
      replace HB := HB.on kb
      clear kb
      clear hHeld
      cases ey : foldX (fun y => boxesX n y false) true x.sub [allBx]
      · rw [ey] at hr
        obtain rfl : r = .returned (.tuple #[.slice none 0 0, .bool false]) := hr
        refine ⟨.tuple #[.slice none 0 0, .bool false], rfl, HX, fun hHeld => ?_⟩
        simp only [Act.put, List.setIfInBounds_toArray, List.set_cons_zero, List.set_cons_succ]
        refine wpAnyH_take (i := 6) (oi := ⟨_, _, _, _, _, _⟩) (v := .slice none 0 0) rfl (by kernel_rfl) (by kernel_rfl) (by kernel_rfl) (fun _ _ _ h => h) (yl_extract0 (by rfl) _ rfl _ _ rfl) (by assumption) ?_
        simp only [Act.put, List.setIfInBounds_toArray, List.set_cons_zero, List.set_cons_succ]
        refine wpAnyH_take (i := 7) (oi := ⟨_, _, _, _, _, _⟩) (v := .bool false) rfl (by kernel_rfl) (by kernel_rfl) (by kernel_rfl) (fun _ _ _ h => h) (yl_extract1 (by rfl) _ rfl _ _ rfl) (by assumption) ?_
        simp only [Act.put, List.setIfInBounds_toArray, List.set_cons_zero, List.set_cons_succ]
        refine wpAnyH_take (i := 8) (oi := ⟨_, _, _, _, _, _⟩) (v := .slice none 0 0) rfl (by kernel_rfl) (by kernel_rfl) (by kernel_rfl) (fun _ _ _ h => h) (yl_assign (by rfl) _ rfl _ rfl) (by assumption) ?_
        simp only [Act.put, List.setIfInBounds_toArray, List.set_cons_zero, List.set_cons_succ]
        refine wpAnyH_take (i := 9) (oi := ⟨_, _, _, _, _, _⟩) (v := .bool false) rfl (by kernel_rfl) (by kernel_rfl) (by kernel_rfl) (fun _ _ _ h => h) (yl_assign (by rfl) _ rfl _ rfl) (by assumption) ?_
        simp only [Act.put, List.setIfInBounds_toArray, List.set_cons_zero, List.set_cons_succ]
        refine wpAnyH_done (by kernel_rfl) ?_ _
        clear hHeld
        refine hK6 _ _ ?_
        clear hK6 K6
        refine wp_ret ?_
        try simp only [Exit.inBlock, Exit.then]
        refine bodyPost_ret (results_tmp2 rfl _ _ _) rfl ?_
        exact ⟨by rw [boxes23 k1 k4, show prodX x false = true from by unfold prodX; rw [k23]; rfl]; rw [if_pos rfl, ey]; rfl, D⟩
      · rename_i ly
        rw [ey] at hr
        obtain ⟨u1, rfl, hby, hny⟩ : ∃ u, r = .returned (.tuple #[u, .bool true]) ∧ Bxs _ u ly ∧ nilOk u := hr
        refine ⟨.tuple #[u1, .bool true], rfl, HX, fun hHeld => ?_⟩
        simp only [Act.put, List.setIfInBounds_toArray, List.set_cons_zero, List.set_cons_succ]
        refine wpAnyH_take (i := 6) (oi := ⟨_, _, _, _, _, _⟩) (v := u1) rfl (by kernel_rfl) (by kernel_rfl) (by kernel_rfl) (fun _ _ _ h => h) (yl_extract0 (by rfl) _ rfl _ _ rfl) (by assumption) ?_
        simp only [Act.put, List.setIfInBounds_toArray, List.set_cons_zero, List.set_cons_succ]
        refine wpAnyH_take (i := 7) (oi := ⟨_, _, _, _, _, _⟩) (v := .bool true) rfl (by kernel_rfl) (by kernel_rfl) (by kernel_rfl) (fun _ _ _ h => h) (yl_extract1 (by rfl) _ rfl _ _ rfl) (by assumption) ?_
        simp only [Act.put, List.setIfInBounds_toArray, List.set_cons_zero, List.set_cons_succ]
        refine wpAnyH_take (i := 8) (oi := ⟨_, _, _, _, _, _⟩) (v := u1) rfl (by kernel_rfl) (by kernel_rfl) (by kernel_rfl) (fun _ _ _ h => h) (yl_assign (by rfl) _ rfl _ rfl) (by assumption) ?_
        simp only [Act.put, List.setIfInBounds_toArray, List.set_cons_zero, List.set_cons_succ]
        refine wpAnyH_take (i := 9) (oi := ⟨_, _, _, _, _, _⟩) (v := .bool true) rfl (by kernel_rfl) (by kernel_rfl) (by kernel_rfl) (fun _ _ _ h => h) (yl_assign (by rfl) _ rfl _ rfl) (by assumption) ?_
        simp only [Act.put, List.setIfInBounds_toArray, List.set_cons_zero, List.set_cons_succ]
        refine wpAnyH_done (by kernel_rfl) ?_ _
        clear hHeld
        refine hK6 _ _ ?_
        clear hK6 K6
        refine wp_ret ?_
        try simp only [Exit.inBlock, Exit.then]
        refine bodyPost_ret (results_tmp2 rfl _ _ _) rfl ?_
        exact ⟨by rw [boxes23 k1 k4, show prodX x false = true from by unfold prodX; rw [k23]; rfl]; rw [if_pos rfl, ey]; exact ⟨_, rfl, hby, hny⟩, D⟩
    · go_enter Tryz.func35, Tryz.ntmps35
      refine wp_seq_k (fun K1 hK1 => ?_)
      refine wp_region_lit ?_
      refine wl_boxEx (o := ⟨_, _, _, _, _, _⟩) (by rfl) _ rfl rfl (fun v1 gb1 HX kb => ?_)
      simp only [Act.put, List.setIfInBounds_toArray, List.set_cons_zero, List.set_cons_succ]
      replace D := D.trans (kb.mono D.size)
      clear kb
      refine wl_yield (o := ⟨_, _, _, _, _, _⟩) (.slice none 0 0) (yl_assign (by rfl) _ rfl _ rfl) ?_
      simp only [Act.put, List.setIfInBounds_toArray, List.set_cons_zero, List.set_cons_succ]
      refine wl_yield (o := ⟨_, _, _, _, _, _⟩) (.bool false) (yl_assign (by rfl) _ rfl _ rfl) ?_
      simp only [Act.put, List.setIfInBounds_toArray, List.set_cons_zero, List.set_cons_succ]
      refine wpList_nil ?_
      refine hK1 _ _ ?_
      clear hK1 K1
      refine wp_seq_k (fun K2 hK2 => ?_)
      refine wp_block ?_
      refine wp_seq_k (fun K3 hK3 => ?_)
      refine wp_region_lit ?_
      refine wl_yield (o := ⟨_, _, _, _, _, _⟩) (.pointer (some ⟨gb1, 0, none⟩)) (yl_exField0 (by rfl) _ rfl _ rfl) ?_
      simp only [Act.put, List.setIfInBounds_toArray, List.set_cons_zero, List.set_cons_succ]
      refine wl_yield (o := ⟨_, _, _, _, _, _⟩) (.int .i64 (c.k)) (yl_intX (by rfl) _ rfl _ 0 rfl _ (fun _ h => by subst h; exact ExIn.c0 HX)) ?_
      simp only [Act.put, List.setIfInBounds_toArray, List.set_cons_zero, List.set_cons_succ]
      refine wl_yield (o := ⟨_, _, _, _, _, _⟩) (.bool false) (yl_eqlI (by rfl) _ _ _ rfl (c.k) (1) false rfl rfl (decide_eq_false (by rw [hE.k]; exact k1))) ?_
      simp only [Act.put, List.setIfInBounds_toArray, List.set_cons_zero, List.set_cons_succ]
      refine wl_yield (o := ⟨_, _, _, _, _, _⟩) (.bool false) (yl_assign (by rfl) _ rfl _ rfl) ?_
      simp only [Act.put, List.setIfInBounds_toArray, List.set_cons_zero, List.set_cons_succ]
      refine wpList_nil ?_
      refine hK3 _ _ ?_
      clear hK3 K3
      refine wp_cond_false rfl ?_
      refine wp_seq_k (fun K4 hK4 => ?_)
      refine wp_region_lit ?_
      refine wl_yield (o := ⟨_, _, _, _, _, _⟩) (.pointer (some ⟨gb1, 0, none⟩)) (yl_exField0 (by rfl) _ rfl _ rfl) ?_
      simp only [Act.put, List.setIfInBounds_toArray, List.set_cons_zero, List.set_cons_succ]
      refine wl_yield (o := ⟨_, _, _, _, _, _⟩) (.int .i64 (c.k)) (yl_intX (by rfl) _ rfl _ 0 rfl _ (fun _ h => by subst h; exact ExIn.c0 HX)) ?_
      simp only [Act.put, List.setIfInBounds_toArray, List.set_cons_zero, List.set_cons_succ]
      refine wl_yield (o := ⟨_, _, _, _, _, _⟩) (.bool false) (yl_eqlI (by rfl) _ _ _ rfl (c.k) (4) false rfl rfl (decide_eq_false (by rw [hE.k]; exact k4))) ?_
      simp only [Act.put, List.setIfInBounds_toArray, List.set_cons_zero, List.set_cons_succ]
      refine wl_yield (o := ⟨_, _, _, _, _, _⟩) (.bool false) (yl_assign (by rfl) _ rfl _ rfl) ?_
      simp only [Act.put, List.setIfInBounds_toArray, List.set_cons_zero, List.set_cons_succ]
      refine wpList_nil ?_
      refine hK4 _ _ ?_
      clear hK4 K4
      refine wp_cond_false rfl ?_
      refine wp_seq_k (fun K5 hK5 => ?_)
      refine wp_region_lit ?_
      refine wl_yield (o := ⟨_, _, _, _, _, _⟩) (.pointer (some ⟨gb1, 0, none⟩)) (yl_exField0 (by rfl) _ rfl _ rfl) ?_
      simp only [Act.put, List.setIfInBounds_toArray, List.set_cons_zero, List.set_cons_succ]
      refine wl_yield (o := ⟨_, _, _, _, _, _⟩) (.int .i64 (c.k)) (yl_intX (by rfl) _ rfl _ 0 rfl _ (fun _ h => by subst h; exact ExIn.c0 HX)) ?_
      simp only [Act.put, List.setIfInBounds_toArray, List.set_cons_zero, List.set_cons_succ]
      refine wl_yield (o := ⟨_, _, _, _, _, _⟩) (.bool true) (yl_eqlI (by rfl) _ _ _ rfl (c.k) (2) true rfl rfl (decide_eq_true (by rw [hE.k]; exact k23))) ?_
      simp only [Act.put, List.setIfInBounds_toArray, List.set_cons_zero, List.set_cons_succ]
      refine wl_yield (o := ⟨_, _, _, _, _, _⟩) (.bool true) (yl_move (by rfl) _ rfl _ rfl) ?_
      simp only [Act.put, List.setIfInBounds_toArray, List.set_cons_zero, List.set_cons_succ]
      refine wl_yield (o := ⟨_, _, _, _, _, _⟩) (.bool false) (yl_neqB (by rfl) _ _ _ rfl true true rfl rfl) ?_
      simp only [Act.put, List.setIfInBounds_toArray, List.set_cons_zero, List.set_cons_succ]
      refine wl_yield (o := ⟨_, _, _, _, _, _⟩) (.bool false) (yl_assign (by rfl) _ rfl _ rfl) ?_
      simp only [Act.put, List.setIfInBounds_toArray, List.set_cons_zero, List.set_cons_succ]
      refine wpList_nil ?_
      refine hK5 _ _ ?_
      clear hK5 K5
      refine wp_cond_false rfl ?_
      refine wp_skip ?_
      refine hK2 _ _ ?_
      clear hK2 K2
      refine wp_seq_k (fun K6 hK6 => ?_)
      refine wp_region_lit ?_
      refine wl_yield (o := ⟨_, _, _, _, _, _⟩) (.pointer (some ⟨gb1, 6, none⟩)) (yl_exSub (by rfl) _ rfl _ rfl) ?_
      simp only [Act.put, List.setIfInBounds_toArray, List.set_cons_zero, List.set_cons_succ]
      refine wl_yield (o := ⟨_, _, _, _, _, _⟩) (.slice c.p c.n c.c) (yl_exRow (by rfl) _ rfl _ 6 rfl _ _ _ (fun _ h => by subst h; exact ExIn.c6 HX)) ?_
      simp only [Act.put, List.setIfInBounds_toArray, List.set_cons_zero, List.set_cons_succ]
      refine wl_yield (o := ⟨_, _, _, _, _, _⟩) (.bool true) (yl_move (by rfl) _ rfl _ rfl) ?_
      simp only [Act.put, List.setIfInBounds_toArray, List.set_cons_zero, List.set_cons_succ]
      refine wl_call (o := ⟨_, _, _, _, _, _⟩) (by rfl) 65 _ _ rfl #[.slice none 0 0, .func (.func 68) #[] #[], .slice c.p c.n c.c, .bool true] rfl (run_call Tryz.func65 (by kernel_rfl) (by kernel_rfl)) ?_
      refine (gathered_any n IH 68 (run_call Tryz.func68 (by kernel_rfl) (by kernel_rfl)) false true joins_sum _ _ x.sub [] _ (hx.rows.on D) (bxs_none _) nil_none (by simp) fits_nil hsub (fun y hy => hi.2 y hy) (by omega)).mono ?_
      rintro r v2 ⟨hr, kb⟩
      replace D := D.trans (kb.mono D.size)
      replace HX := HX.on kb
      clear kb
      cases ey : foldX (fun y => boxesX n y true) false x.sub []
      · rw [ey] at hr
        obtain rfl : r = .returned (.tuple #[.slice none 0 0, .bool false]) := hr
        refine ⟨.tuple #[.slice none 0 0, .bool false], rfl, ?_⟩
        simp only [Act.put, List.setIfInBounds_toArray, List.set_cons_zero, List.set_cons_succ]
        refine wl_yield (o := ⟨_, _, _, _, _, _⟩) (.slice none 0 0) (yl_extract0 (by rfl) _ rfl _ _ rfl) ?_
        simp only [Act.put, List.setIfInBounds_toArray, List.set_cons_zero, List.set_cons_succ]
        refine wl_yield (o := ⟨_, _, _, _, _, _⟩) (.bool false) (yl_extract1 (by rfl) _ rfl _ _ rfl) ?_
        simp only [Act.put, List.setIfInBounds_toArray, List.set_cons_zero, List.set_cons_succ]
        refine wl_yield (o := ⟨_, _, _, _, _, _⟩) (.slice none 0 0) (yl_assign (by rfl) _ rfl _ rfl) ?_
        simp only [Act.put, List.setIfInBounds_toArray, List.set_cons_zero, List.set_cons_succ]
        refine wl_yield (o := ⟨_, _, _, _, _, _⟩) (.bool false) (yl_assign (by rfl) _ rfl _ rfl) ?_
        simp only [Act.put, List.setIfInBounds_toArray, List.set_cons_zero, List.set_cons_succ]
        refine wpList_nil ?_
        refine hK6 _ _ ?_
        clear hK6 K6
        refine wp_ret ?_
        try simp only [Exit.inBlock, Exit.then]
        refine bodyPost_ret (results_tmp2 rfl _ _ _) rfl ?_
        exact ⟨by rw [boxes23 k1 k4, show prodX x true = false from by unfold prodX; rw [k23]; rfl]; rw [if_neg (by simp), ey]; rfl, D⟩
      · rename_i ly
        rw [ey] at hr
        obtain ⟨u1, rfl, hby, hny⟩ : ∃ u, r = .returned (.tuple #[u, .bool true]) ∧ Bxs _ u ly ∧ nilOk u := hr
        refine ⟨.tuple #[u1, .bool true], rfl, ?_⟩
        simp only [Act.put, List.setIfInBounds_toArray, List.set_cons_zero, List.set_cons_succ]
        refine wl_yield (o := ⟨_, _, _, _, _, _⟩) (u1) (yl_extract0 (by rfl) _ rfl _ _ rfl) ?_
        simp only [Act.put, List.setIfInBounds_toArray, List.set_cons_zero, List.set_cons_succ]
        refine wl_yield (o := ⟨_, _, _, _, _, _⟩) (.bool true) (yl_extract1 (by rfl) _ rfl _ _ rfl) ?_
        simp only [Act.put, List.setIfInBounds_toArray, List.set_cons_zero, List.set_cons_succ]
        refine wl_yield (o := ⟨_, _, _, _, _, _⟩) (u1) (yl_assign (by rfl) _ rfl _ rfl) ?_
        simp only [Act.put, List.setIfInBounds_toArray, List.set_cons_zero, List.set_cons_succ]
        refine wl_yield (o := ⟨_, _, _, _, _, _⟩) (.bool true) (yl_assign (by rfl) _ rfl _ rfl) ?_
        simp only [Act.put, List.setIfInBounds_toArray, List.set_cons_zero, List.set_cons_succ]
        refine wpList_nil ?_
        refine hK6 _ _ ?_
        clear hK6 K6
        refine wp_ret ?_
        try simp only [Exit.inBlock, Exit.then]
        refine bodyPost_ret (results_tmp2 rfl _ _ _) rfl ?_
        exact ⟨by rw [boxes23 k1 k4, show prodX x true = false from by unfold prodX; rw [k23]; rfl]; rw [if_neg (by simp), ey]; exact ⟨_, rfl, hby, hny⟩, D⟩
  · cases neg
    · go_enter Tryz.func35, Tryz.ntmps35
      refine wp_seq_k (fun K1 hK1 => ?_)
      refine wp_region_lit ?_
      refine wl_boxEx (o := ⟨_, _, _, _, _, _⟩) (by rfl) _ rfl rfl (fun v1 gb1 HX kb => ?_)
      simp only [Act.put, List.setIfInBounds_toArray, List.set_cons_zero, List.set_cons_succ]
      replace D := D.trans (kb.mono D.size)
      clear kb
      refine wl_yield (o := ⟨_, _, _, _, _, _⟩) (.slice none 0 0) (yl_assign (by rfl) _ rfl _ rfl) ?_
      simp only [Act.put, List.setIfInBounds_toArray, List.set_cons_zero, List.set_cons_succ]
      refine wl_yield (o := ⟨_, _, _, _, _, _⟩) (.bool false) (yl_assign (by rfl) _ rfl _ rfl) ?_
      simp only [Act.put, List.setIfInBounds_toArray, List.set_cons_zero, List.set_cons_succ]
      refine wpList_nil ?_
      refine hK1 _ _ ?_
      clear hK1 K1
      refine wp_seq_k (fun K2 hK2 => ?_)
      refine wp_block ?_
      refine wp_seq_k (fun K3 hK3 => ?_)
      refine wp_region_lit ?_
      refine wl_yield (o := ⟨_, _, _, _, _, _⟩) (.pointer (some ⟨gb1, 0, none⟩)) (yl_exField0 (by rfl) _ rfl _ rfl) ?_
      simp only [Act.put, List.setIfInBounds_toArray, List.set_cons_zero, List.set_cons_succ]
      refine wl_yield (o := ⟨_, _, _, _, _, _⟩) (.int .i64 (c.k)) (yl_intX (by rfl) _ rfl _ 0 rfl _ (fun _ h => by subst h; exact ExIn.c0 HX)) ?_
      simp only [Act.put, List.setIfInBounds_toArray, List.set_cons_zero, List.set_cons_succ]
      refine wl_yield (o := ⟨_, _, _, _, _, _⟩) (.bool false) (yl_eqlI (by rfl) _ _ _ rfl (c.k) (1) false rfl rfl (decide_eq_false (by rw [hE.k]; exact k1))) ?_
      simp only [Act.put, List.setIfInBounds_toArray, List.set_cons_zero, List.set_cons_succ]
      refine wl_yield (o := ⟨_, _, _, _, _, _⟩) (.bool false) (yl_assign (by rfl) _ rfl _ rfl) ?_
      simp only [Act.put, List.setIfInBounds_toArray, List.set_cons_zero, List.set_cons_succ]
      refine wpList_nil ?_
      refine hK3 _ _ ?_
      clear hK3 K3
      refine wp_cond_false rfl ?_
      refine wp_seq_k (fun K4 hK4 => ?_)
      refine wp_region_lit ?_
      refine wl_yield (o := ⟨_, _, _, _, _, _⟩) (.pointer (some ⟨gb1, 0, none⟩)) (yl_exField0 (by rfl) _ rfl _ rfl) ?_
      simp only [Act.put, List.setIfInBounds_toArray, List.set_cons_zero, List.set_cons_succ]
      refine wl_yield (o := ⟨_, _, _, _, _, _⟩) (.int .i64 (c.k)) (yl_intX (by rfl) _ rfl _ 0 rfl _ (fun _ h => by subst h; exact ExIn.c0 HX)) ?_
      simp only [Act.put, List.setIfInBounds_toArray, List.set_cons_zero, List.set_cons_succ]
      refine wl_yield (o := ⟨_, _, _, _, _, _⟩) (.bool false) (yl_eqlI (by rfl) _ _ _ rfl (c.k) (4) false rfl rfl (decide_eq_false (by rw [hE.k]; exact k4))) ?_
      simp only [Act.put, List.setIfInBounds_toArray, List.set_cons_zero, List.set_cons_succ]
      refine wl_yield (o := ⟨_, _, _, _, _, _⟩) (.bool false) (yl_assign (by rfl) _ rfl _ rfl) ?_
      simp only [Act.put, List.setIfInBounds_toArray, List.set_cons_zero, List.set_cons_succ]
      refine wpList_nil ?_
      refine hK4 _ _ ?_
      clear hK4 K4
      refine wp_cond_false rfl ?_
      refine wp_seq_k (fun K5 hK5 => ?_)
      refine wp_region_lit ?_
      refine wl_yield (o := ⟨_, _, _, _, _, _⟩) (.pointer (some ⟨gb1, 0, none⟩)) (yl_exField0 (by rfl) _ rfl _ rfl) ?_
      simp only [Act.put, List.setIfInBounds_toArray, List.set_cons_zero, List.set_cons_succ]
      refine wl_yield (o := ⟨_, _, _, _, _, _⟩) (.int .i64 (c.k)) (yl_intX (by rfl) _ rfl _ 0 rfl _ (fun _ h => by subst h; exact ExIn.c0 HX)) ?_
      simp only [Act.put, List.setIfInBounds_toArray, List.set_cons_zero, List.set_cons_succ]
      refine wl_yield (o := ⟨_, _, _, _, _, _⟩) (.bool false) (yl_eqlI (by rfl) _ _ _ rfl (c.k) (2) false rfl rfl (decide_eq_false (by rw [hE.k, k23]; omega))) ?_
      simp only [Act.put, List.setIfInBounds_toArray, List.set_cons_zero, List.set_cons_succ]
      refine wl_yield (o := ⟨_, _, _, _, _, _⟩) (.bool false) (yl_move (by rfl) _ rfl _ rfl) ?_
      simp only [Act.put, List.setIfInBounds_toArray, List.set_cons_zero, List.set_cons_succ]
      refine wl_yield (o := ⟨_, _, _, _, _, _⟩) (.bool false) (yl_neqB (by rfl) _ _ _ rfl false false rfl rfl) ?_
      simp only [Act.put, List.setIfInBounds_toArray, List.set_cons_zero, List.set_cons_succ]
      refine wl_yield (o := ⟨_, _, _, _, _, _⟩) (.bool false) (yl_assign (by rfl) _ rfl _ rfl) ?_
      simp only [Act.put, List.setIfInBounds_toArray, List.set_cons_zero, List.set_cons_succ]
      refine wpList_nil ?_
      refine hK5 _ _ ?_
      clear hK5 K5
      refine wp_cond_false rfl ?_
      refine wp_skip ?_
      refine hK2 _ _ ?_
      clear hK2 K2
      refine wp_seq_k (fun K6 hK6 => ?_)
      refine wp_region_lit ?_
      refine wl_yield (o := ⟨_, _, _, _, _, _⟩) (.pointer (some ⟨gb1, 6, none⟩)) (yl_exSub (by rfl) _ rfl _ rfl) ?_
      simp only [Act.put, List.setIfInBounds_toArray, List.set_cons_zero, List.set_cons_succ]
      refine wl_yield (o := ⟨_, _, _, _, _, _⟩) (.slice c.p c.n c.c) (yl_exRow (by rfl) _ rfl _ 6 rfl _ _ _ (fun _ h => by subst h; exact ExIn.c6 HX)) ?_
      simp only [Act.put, List.setIfInBounds_toArray, List.set_cons_zero, List.set_cons_succ]
      refine wl_yield (o := ⟨_, _, _, _, _, _⟩) (.bool false) (yl_move (by rfl) _ rfl _ rfl) ?_
      simp only [Act.put, List.setIfInBounds_toArray, List.set_cons_zero, List.set_cons_succ]
      refine wl_call (o := ⟨_, _, _, _, _, _⟩) (by rfl) 65 _ _ rfl #[.slice none 0 0, .func (.func 68) #[] #[], .slice c.p c.n c.c, .bool false] rfl (run_call Tryz.func65 (by kernel_rfl) (by kernel_rfl)) ?_
      refine (gathered_any n IH 68 (run_call Tryz.func68 (by kernel_rfl) (by kernel_rfl)) false false joins_sum _ _ x.sub [] _ (hx.rows.on D) (bxs_none _) nil_none (by simp) fits_nil hsub (fun y hy => hi.2 y hy) (by omega)).mono ?_
      rintro r v2 ⟨hr, kb⟩
      replace D := D.trans (kb.mono D.size)
      replace HX := HX.on kb
      clear kb
      cases ey : foldX (fun y => boxesX n y false) false x.sub []
      · rw [ey] at hr
        obtain rfl : r = .returned (.tuple #[.slice none 0 0, .bool false]) := hr
        refine ⟨.tuple #[.slice none 0 0, .bool false], rfl, ?_⟩
        simp only [Act.put, List.setIfInBounds_toArray, List.set_cons_zero, List.set_cons_succ]
        refine wl_yield (o := ⟨_, _, _, _, _, _⟩) (.slice none 0 0) (yl_extract0 (by rfl) _ rfl _ _ rfl) ?_
        simp only [Act.put, List.setIfInBounds_toArray, List.set_cons_zero, List.set_cons_succ]
        refine wl_yield (o := ⟨_, _, _, _, _, _⟩) (.bool false) (yl_extract1 (by rfl) _ rfl _ _ rfl) ?_
        simp only [Act.put, List.setIfInBounds_toArray, List.set_cons_zero, List.set_cons_succ]
        refine wl_yield (o := ⟨_, _, _, _, _, _⟩) (.slice none 0 0) (yl_assign (by rfl) _ rfl _ rfl) ?_
        simp only [Act.put, List.setIfInBounds_toArray, List.set_cons_zero, List.set_cons_succ]
        refine wl_yield (o := ⟨_, _, _, _, _, _⟩) (.bool false) (yl_assign (by rfl) _ rfl _ rfl) ?_
        simp only [Act.put, List.setIfInBounds_toArray, List.set_cons_zero, List.set_cons_succ]
        refine wpList_nil ?_
        refine hK6 _ _ ?_
        clear hK6 K6
        refine wp_ret ?_
        try simp only [Exit.inBlock, Exit.then]
        refine bodyPost_ret (results_tmp2 rfl _ _ _) rfl ?_
        exact ⟨by rw [boxes23 k1 k4, show prodX x false = false from by unfold prodX; rw [k23]; rfl]; rw [if_neg (by simp), ey]; rfl, D⟩
      · rename_i ly
        rw [ey] at hr
        obtain ⟨u1, rfl, hby, hny⟩ : ∃ u, r = .returned (.tuple #[u, .bool true]) ∧ Bxs _ u ly ∧ nilOk u := hr
        refine ⟨.tuple #[u1, .bool true], rfl, ?_⟩
        simp only [Act.put, List.setIfInBounds_toArray, List.set_cons_zero, List.set_cons_succ]
        refine wl_yield (o := ⟨_, _, _, _, _, _⟩) (u1) (yl_extract0 (by rfl) _ rfl _ _ rfl) ?_
        simp only [Act.put, List.setIfInBounds_toArray, List.set_cons_zero, List.set_cons_succ]
        refine wl_yield (o := ⟨_, _, _, _, _, _⟩) (.bool true) (yl_extract1 (by rfl) _ rfl _ _ rfl) ?_
        simp only [Act.put, List.setIfInBounds_toArray, List.set_cons_zero, List.set_cons_succ]
        refine wl_yield (o := ⟨_, _, _, _, _, _⟩) (u1) (yl_assign (by rfl) _ rfl _ rfl) ?_
        simp only [Act.put, List.setIfInBounds_toArray, List.set_cons_zero, List.set_cons_succ]
        refine wl_yield (o := ⟨_, _, _, _, _, _⟩) (.bool true) (yl_assign (by rfl) _ rfl _ rfl) ?_
        simp only [Act.put, List.setIfInBounds_toArray, List.set_cons_zero, List.set_cons_succ]
        refine wpList_nil ?_
        refine hK6 _ _ ?_
        clear hK6 K6
        refine wp_ret ?_
        try simp only [Exit.inBlock, Exit.then]
        refine bodyPost_ret (results_tmp2 rfl _ _ _) rfl ?_
        exact ⟨by rw [boxes23 k1 k4, show prodX x false = false from by unfold prodX; rw [k23]; rfl]; rw [if_neg (by simp), ey]; exact ⟨_, rfl, hby, hny⟩, D⟩
    · go_enter Tryz.func35, Tryz.ntmps35
      refine wp_seq_k (fun K1 hK1 => ?_)
      refine wp_region_lit ?_
      refine wl_boxEx (o := ⟨_, _, _, _, _, _⟩) (by rfl) _ rfl rfl (fun v1 gb1 HX kb => ?_)
      simp only [Act.put, List.setIfInBounds_toArray, List.set_cons_zero, List.set_cons_succ]
      replace D := D.trans (kb.mono D.size)
      clear kb
      refine wl_yield (o := ⟨_, _, _, _, _, _⟩) (.slice none 0 0) (yl_assign (by rfl) _ rfl _ rfl) ?_
      simp only [Act.put, List.setIfInBounds_toArray, List.set_cons_zero, List.set_cons_succ]
      refine wl_yield (o := ⟨_, _, _, _, _, _⟩) (.bool false) (yl_assign (by rfl) _ rfl _ rfl) ?_
      simp only [Act.put, List.setIfInBounds_toArray, List.set_cons_zero, List.set_cons_succ]
      refine wpList_nil ?_
      refine hK1 _ _ ?_
      clear hK1 K1
      refine wp_seq_k (fun K2 hK2 => ?_)
      refine wp_block ?_
      refine wp_seq_k (fun K3 hK3 => ?_)
      refine wp_region_lit ?_
      refine wl_yield (o := ⟨_, _, _, _, _, _⟩) (.pointer (some ⟨gb1, 0, none⟩)) (yl_exField0 (by rfl) _ rfl _ rfl) ?_
      simp only [Act.put, List.setIfInBounds_toArray, List.set_cons_zero, List.set_cons_succ]
      refine wl_yield (o := ⟨_, _, _, _, _, _⟩) (.int .i64 (c.k)) (yl_intX (by rfl) _ rfl _ 0 rfl _ (fun _ h => by subst h; exact ExIn.c0 HX)) ?_
      simp only [Act.put, List.setIfInBounds_toArray, List.set_cons_zero, List.set_cons_succ]
      refine wl_yield (o := ⟨_, _, _, _, _, _⟩) (.bool false) (yl_eqlI (by rfl) _ _ _ rfl (c.k) (1) false rfl rfl (decide_eq_false (by rw [hE.k]; exact k1))) ?_
      simp only [Act.put, List.setIfInBounds_toArray, List.set_cons_zero, List.set_cons_succ]
      refine wl_yield (o := ⟨_, _, _, _, _, _⟩) (.bool false) (yl_assign (by rfl) _ rfl _ rfl) ?_
      simp only [Act.put, List.setIfInBounds_toArray, List.set_cons_zero, List.set_cons_succ]
      refine wpList_nil ?_
      refine hK3 _ _ ?_
      clear hK3 K3
      refine wp_cond_false rfl ?_
      refine wp_seq_k (fun K4 hK4 => ?_)
      refine wp_region_lit ?_
      refine wl_yield (o := ⟨_, _, _, _, _, _⟩) (.pointer (some ⟨gb1, 0, none⟩)) (yl_exField0 (by rfl) _ rfl _ rfl) ?_
      simp only [Act.put, List.setIfInBounds_toArray, List.set_cons_zero, List.set_cons_succ]
      refine wl_yield (o := ⟨_, _, _, _, _, _⟩) (.int .i64 (c.k)) (yl_intX (by rfl) _ rfl _ 0 rfl _ (fun _ h => by subst h; exact ExIn.c0 HX)) ?_
      simp only [Act.put, List.setIfInBounds_toArray, List.set_cons_zero, List.set_cons_succ]
      refine wl_yield (o := ⟨_, _, _, _, _, _⟩) (.bool false) (yl_eqlI (by rfl) _ _ _ rfl (c.k) (4) false rfl rfl (decide_eq_false (by rw [hE.k]; exact k4))) ?_
      simp only [Act.put, List.setIfInBounds_toArray, List.set_cons_zero, List.set_cons_succ]
      refine wl_yield (o := ⟨_, _, _, _, _, _⟩) (.bool false) (yl_assign (by rfl) _ rfl _ rfl) ?_
      simp only [Act.put, List.setIfInBounds_toArray, List.set_cons_zero, List.set_cons_succ]
      refine wpList_nil ?_
      refine hK4 _ _ ?_
      clear hK4 K4
      refine wp_cond_false rfl ?_
      refine wp_seq_k (fun K5 hK5 => ?_)
      refine wp_region_lit ?_
      refine wl_yield (o := ⟨_, _, _, _, _, _⟩) (.pointer (some ⟨gb1, 0, none⟩)) (yl_exField0 (by rfl) _ rfl _ rfl) ?_
      simp only [Act.put, List.setIfInBounds_toArray, List.set_cons_zero, List.set_cons_succ]
      refine wl_yield (o := ⟨_, _, _, _, _, _⟩) (.int .i64 (c.k)) (yl_intX (by rfl) _ rfl _ 0 rfl _ (fun _ h => by subst h; exact ExIn.c0 HX)) ?_
      simp only [Act.put, List.setIfInBounds_toArray, List.set_cons_zero, List.set_cons_succ]
      refine wl_yield (o := ⟨_, _, _, _, _, _⟩) (.bool false) (yl_eqlI (by rfl) _ _ _ rfl (c.k) (2) false rfl rfl (decide_eq_false (by rw [hE.k, k23]; omega))) ?_
      simp only [Act.put, List.setIfInBounds_toArray, List.set_cons_zero, List.set_cons_succ]
      refine wl_yield (o := ⟨_, _, _, _, _, _⟩) (.bool true) (yl_move (by rfl) _ rfl _ rfl) ?_
      simp only [Act.put, List.setIfInBounds_toArray, List.set_cons_zero, List.set_cons_succ]
      refine wl_yield (o := ⟨_, _, _, _, _, _⟩) (.bool true) (yl_neqB (by rfl) _ _ _ rfl false true rfl rfl) ?_
      simp only [Act.put, List.setIfInBounds_toArray, List.set_cons_zero, List.set_cons_succ]
      refine wl_yield (o := ⟨_, _, _, _, _, _⟩) (.bool true) (yl_assign (by rfl) _ rfl _ rfl) ?_
      simp only [Act.put, List.setIfInBounds_toArray, List.set_cons_zero, List.set_cons_succ]
      refine wpList_nil ?_
      refine hK5 _ _ ?_
      clear hK5 K5
      refine wp_cond_true rfl ?_
      refine wp_seq_k (fun K6 hK6 => ?_)
      refine wp_region_held_drew (S := fun w' => ExIn w' gb1 c) (by kernel_rfl) HX (fun hHeld => ?_)
      have kb : Below v1.heap.size v1 v1.drew := (Below.refl _ v1).drew
      replace D := D.trans (kb.mono D.size)
      replace HX := HX.on kb
      clear kb
      generalize v1.drew = v2 at D hHeld HX ⊢
      refine wpAnyH_take (i := 2) (oi := ⟨_, _, _, _, _, _⟩) (v := .pointer (some ⟨gb1, 6, none⟩)) rfl (by kernel_rfl) (by kernel_rfl) (by kernel_rfl) (fun _ _ _ h => h) (yl_exSub (by rfl) _ rfl _ rfl) (by assumption) ?_
      simp only [Act.put, List.setIfInBounds_toArray, List.set_cons_zero, List.set_cons_succ]
      refine wpAnyH_take (i := 3) (oi := ⟨_, _, _, _, _, _⟩) (v := .slice c.p c.n c.c) rfl (by kernel_rfl) (by kernel_rfl) (by kernel_rfl) (fun _ _ _ h => h) (yl_exRow (by rfl) _ rfl _ 6 rfl _ _ _ (fun _ h => ExIn.c6 h)) (by assumption) ?_
      simp only [Act.put, List.setIfInBounds_toArray, List.set_cons_zero, List.set_cons_succ]
      refine wpAnyH_take (i := 4) (oi := ⟨_, _, _, _, _, _⟩) (v := .bool true) rfl (by kernel_rfl) (by kernel_rfl) (by kernel_rfl) (fun _ _ _ h => h) (yl_move (by rfl) _ rfl _ rfl) (by assumption) ?_
      simp only [Act.put, List.setIfInBounds_toArray, List.set_cons_zero, List.set_cons_succ]
      refine held_call (o := ⟨_, _, _, _, _, _⟩) 0 (by kernel_rfl) rfl (by rfl) 66 _ _ rfl #[] rfl (run_call Tryz.func66 (by kernel_rfl) (by kernel_rfl)) ?_
      refine (boxProg0.all _).mono ?_
      rintro r v3 ⟨⟨y1, rfl, hy⟩, kb⟩
      replace D := D.trans (kb.mono D.size)
      replace HX := HX.on kb
      clear kb
      clear hHeld
      obtain ⟨cy, rfl⟩ := hy.bc
      refine ⟨BxC.val cy, rfl, HX, fun hHeld => ?_⟩
      simp only [Act.put, List.setIfInBounds_toArray, List.set_cons_zero, List.set_cons_succ]
      refine wpAnyH_all (rs := [1]) (by kernel_rfl) (by simp) ?_
      intro j hj
      have hj := List.mem_singleton.1 hj
      subst hj
      refine op_rowB1 (o := ⟨_, _, _, _, _, _⟩) rfl (by rfl) _ rfl rfl (fun v4 gb4 hggb4 HB kb => ?_)
      replace D := D.trans (kb.mono D.size)
      replace HX := HX.on kb
      replace hy := hy.on kb
      clear kb
      clear hHeld
      have hHeld := HX
      refine ⟨HX, ?_⟩
      simp only [Act.put, List.setIfInBounds_toArray, List.set_cons_zero, List.set_cons_succ]
      refine held_call (o := ⟨_, _, _, _, _, _⟩) 5 (by kernel_rfl) rfl (by rfl) 65 _ _ rfl #[.slice (some ⟨gb4, 0, none⟩) 1 1, .func (.func 67) #[] #[], .slice c.p c.n c.c, .bool true] rfl (run_call Tryz.func65 (by kernel_rfl) (by kernel_rfl)) ?_
      refine (gathered_any n IH 67 (run_call Tryz.func67 (by kernel_rfl) (by kernel_rfl)) true true joins_product _ _ x.sub [allBx] _ (hx.rows.on D) (bxs_one HB hy) nil_some (by simp) fits_all hsub (fun y hy => hi.2 y hy) (by omega)).mono ?_
      rintro r v5 ⟨hr, kb⟩
      replace D := D.trans (kb.mono D.size)
      replace HX := HX.on kb
      replace hy := hy.on kb
      replace HB := HB.on kb
      clear kb
      clear hHeld
      cases ey : foldX (fun y => boxesX n y true) true x.sub [allBx]
      · rw [ey] at hr
        obtain rfl : r = .returned (.tuple #[.slice none 0 0, .bool false]) := hr
        refine ⟨.tuple #[.slice none 0 0, .bool false], rfl, HX, fun hHeld => ?_⟩
        simp only [Act.put, List.setIfInBounds_toArray, List.set_cons_zero, List.set_cons_succ]
        refine wpAnyH_take (i := 6) (oi := ⟨_, _, _, _, _, _⟩) (v := .slice none 0 0) rfl (by kernel_rfl) (by kernel_rfl) (by kernel_rfl) (fun _ _ _ h => h) (yl_extract0 (by rfl) _ rfl _ _ rfl) (by assumption) ?_
        simp only [Act.put, List.setIfInBounds_toArray, List.set_cons_zero, List.set_cons_succ]
        refine wpAnyH_take (i := 7) (oi := ⟨_, _, _, _, _, _⟩) (v := .bool false) rfl (by kernel_rfl) (by kernel_rfl) (by kernel_rfl) (fun _ _ _ h => h) (yl_extract1 (by rfl) _ rfl _ _ rfl) (by assumption) ?_
        simp only [Act.put, List.setIfInBounds_toArray, List.set_cons_zero, List.set_cons_succ]
        refine wpAnyH_take (i := 8) (oi := ⟨_, _, _, _, _, _⟩) (v := .slice none 0 0) rfl (by kernel_rfl) (by kernel_rfl) (by kernel_rfl) (fun _ _ _ h => h) (yl_assign (by rfl) _ rfl _ rfl) (by assumption) ?_
        simp only [Act.put, List.setIfInBounds_toArray, List.set_cons_zero, List.set_cons_succ]
        refine wpAnyH_take (i := 9) (oi := ⟨_, _, _, _, _, _⟩) (v := .bool false) rfl (by kernel_rfl) (by kernel_rfl) (by kernel_rfl) (fun _ _ _ h => h) (yl_assign (by rfl) _ rfl _ rfl) (by assumption) ?_
        simp only [Act.put, List.setIfInBounds_toArray, List.set_cons_zero, List.set_cons_succ]
        refine wpAnyH_done (by kernel_rfl) ?_ _
        clear hHeld
        refine hK6 _ _ ?_
        clear hK6 K6
        refine wp_ret ?_
        try simp only [Exit.inBlock, Exit.then]
        refine bodyPost_ret (results_tmp2 rfl _ _ _) rfl ?_
        exact ⟨by rw [boxes23 k1 k4, show prodX x true = true from by unfold prodX; rw [k23]; rfl]; rw [if_pos rfl, ey]; rfl, D⟩
      · rename_i ly
        rw [ey] at hr
        obtain ⟨u1, rfl, hby, hny⟩ : ∃ u, r = .returned (.tuple #[u, .bool true]) ∧ Bxs _ u ly ∧ nilOk u := hr
        refine ⟨.tuple #[u1, .bool true], rfl, HX, fun hHeld => ?_⟩
        simp only [Act.put, List.setIfInBounds_toArray, List.set_cons_zero, List.set_cons_succ]
        refine wpAnyH_take (i := 6) (oi := ⟨_, _, _, _, _, _⟩) (v := u1) rfl (by kernel_rfl) (by kernel_rfl) (by kernel_rfl) (fun _ _ _ h => h) (yl_extract0 (by rfl) _ rfl _ _ rfl) (by assumption) ?_
        simp only [Act.put, List.setIfInBounds_toArray, List.set_cons_zero, List.set_cons_succ]
        refine wpAnyH_take (i := 7) (oi := ⟨_, _, _, _, _, _⟩) (v := .bool true) rfl (by kernel_rfl) (by kernel_rfl) (by kernel_rfl) (fun _ _ _ h => h) (yl_extract1 (by rfl) _ rfl _ _ rfl) (by assumption) ?_
        simp only [Act.put, List.setIfInBounds_toArray, List.set_cons_zero, List.set_cons_succ]
        refine wpAnyH_take (i := 8) (oi := ⟨_, _, _, _, _, _⟩) (v := u1) rfl (by kernel_rfl) (by kernel_rfl) (by kernel_rfl) (fun _ _ _ h => h) (yl_assign (by rfl) _ rfl _ rfl) (by assumption) ?_
        simp only [Act.put, List.setIfInBounds_toArray, List.set_cons_zero, List.set_cons_succ]
        refine wpAnyH_take (i := 9) (oi := ⟨_, _, _, _, _, _⟩) (v := .bool true) rfl (by kernel_rfl) (by kernel_rfl) (by kernel_rfl) (fun _ _ _ h => h) (yl_assign (by rfl) _ rfl _ rfl) (by assumption) ?_
        simp only [Act.put, List.setIfInBounds_toArray, List.set_cons_zero, List.set_cons_succ]
        refine wpAnyH_done (by kernel_rfl) ?_ _
        clear hHeld
        refine hK6 _ _ ?_
        clear hK6 K6
        refine wp_ret ?_
        try simp only [Exit.inBlock, Exit.then]
        refine bodyPost_ret (results_tmp2 rfl _ _ _) rfl ?_
        exact ⟨by rw [boxes23 k1 k4, show prodX x true = true from by unfold prodX; rw [k23]; rfl]; rw [if_pos rfl, ey]; exact ⟨_, rfl, hby, hny⟩, D⟩
theorem boxesOf_any : ∀ n, BoxesIH n
  | 0 => fun c x neg w hx => by cases hx
  | n + 1 => fun c x neg w hx he hw => boxesOf_step n (boxesOf_any n) c x neg w hx he hw
end Go.Proofs.YtlfhpocfacaaeaaGreat
/-
  The program's Of.
-/
set_option linter.unusedSimpArgs false
set_option linter.unusedVariables false
namespace Go.Proofs.YtlfhpocfacaaeaaGreat
open Go.RowKit

/-- An expression's filter, and what went wrong. -/
def ofF (x : ExV) : List BoxV × Int := if rightX x then (match boxesX 8 x false with | none => ([], 4) | some l => if rightF l then (l, 0) else ([], 4)) else ([], 2)
theorem ofF_wrong {x : ExV} (h : rightX x = false) : ofF x = ([], 2) := by unfold ofF; rw [h]; rfl
theorem ofF_none {x : ExV} (h : rightX x = true) (e : boxesX 8 x false = none) : ofF x = ([], 4) := by unfold ofF; rw [h, e]; rfl
theorem ofF_big {x : ExV} {l : List BoxV} (h : rightX x = true) (e : boxesX 8 x false = some l) (q : rightF l = false) : ofF x = ([], 4) := by unfold ofF; rw [h, e]; dsimp only; rw [q]; rfl
theorem ofF_ok {x : ExV} {l : List BoxV} (h : rightX x = true) (e : boxesX 8 x false = some l) (q : rightF l = true) : ofF x = (l, 0) := by unfold ofF; rw [h, e]; dsimp only; rw [q]; rfl
set_option maxHeartbeats 4000000 in
set_option maxRecDepth 100000 in
theorem dnfOf_any (n : Nat) (c : EC) (x : ExV) (w : World) (hx : Xp n w c x) (hn : n ≤ 1000) :
    Calls Tryz.prog 12 #[c.val] w fun r w' => (∃ u, r = .returned (.tuple #[u, .int .i64 (ofF x).2]) ∧ Bxs w' u (ofF x).1 ∧ nilOk u) ∧ Below w.heap.size w w' := by
  have D := Below.refl w.heap.size w
  go_enter Tryz.func12, Tryz.ntmps12
  refine wp_seq_k (fun K1 hK1 => ?_)
  refine wp_region_lit ?_
  refine wl_boxEx (o := ⟨_, _, _, _, _, _⟩) (by rfl) _ rfl rfl (fun v1 gb1 HX kb => ?_)
  simp only [Act.put, List.setIfInBounds_toArray, List.set_cons_zero, List.set_cons_succ]
  replace D := D.trans (kb.mono D.size)
  replace hx := hx.on kb
  clear kb
  refine wl_yield (o := ⟨_, _, _, _, _, _⟩) (.slice none 0 0) (yl_assign (by rfl) _ rfl _ rfl) ?_
  simp only [Act.put, List.setIfInBounds_toArray, List.set_cons_zero, List.set_cons_succ]
  refine wl_yield (o := ⟨_, _, _, _, _, _⟩) (.int .i64 0) (yl_assign (by rfl) _ rfl _ rfl) ?_
  simp only [Act.put, List.setIfInBounds_toArray, List.set_cons_zero, List.set_cons_succ]
  refine wpList_nil ?_
  refine hK1 _ _ ?_
  clear hK1 K1
  refine wp_seq_k (fun K2 hK2 => ?_)
  refine wp_seq_k (fun K3 hK3 => ?_)
  refine wp_region_lit ?_
  refine wl_yield (o := ⟨_, _, _, _, _, _⟩) (EC.val c) (yl_ex (by rfl) _ rfl _ 0 rfl _ (fun _ h => by subst h; exact ExIn.ec HX)) ?_
  simp only [Act.put, List.setIfInBounds_toArray, List.set_cons_zero, List.set_cons_succ]
  refine wl_call (o := ⟨_, _, _, _, _, _⟩) (by rfl) 34 _ _ rfl #[EC.val c] rfl (run_call Tryz.func34 (by kernel_rfl) (by kernel_rfl)) ?_
  refine (c_right hx hn).mono ?_
  rintro r v2 ⟨rfl, kb⟩
  replace D := D.trans (kb.mono D.size)
  replace hx := hx.on kb
  replace HX := HX.on kb
  clear kb
  cases hr : rightX x
  · refine ⟨.bool false, rfl, ?_⟩
    simp only [Act.put, List.setIfInBounds_toArray, List.set_cons_zero, List.set_cons_succ]
    refine wl_yield (o := ⟨_, _, _, _, _, _⟩) (.bool true) (yl_not (by rfl) _ _ rfl false rfl) ?_
    simp only [Act.put, List.setIfInBounds_toArray, List.set_cons_zero, List.set_cons_succ]
    refine wpList_nil ?_
    refine hK3 _ _ ?_
    clear hK3 K3
    refine wp_cond_true rfl ?_
    refine wp_seq_k (fun K4 hK4 => ?_)
    refine wp_region_lit ?_
    refine wl_yield (o := ⟨_, _, _, _, _, _⟩) (.slice none 0 0) (yl_assign (by rfl) _ rfl _ rfl) ?_
    simp only [Act.put, List.setIfInBounds_toArray, List.set_cons_zero, List.set_cons_succ]
    refine wl_yield (o := ⟨_, _, _, _, _, _⟩) (.int .i64 2) (yl_assign (by rfl) _ rfl _ rfl) ?_
    simp only [Act.put, List.setIfInBounds_toArray, List.set_cons_zero, List.set_cons_succ]
    refine wpList_nil ?_
    refine hK4 _ _ ?_
    clear hK4 K4
    refine wp_ret ?_
    try simp only [Exit.inBlock, Exit.then]
    refine bodyPost_ret (results_tmp2 rfl _ _ _) rfl ?_
    exact ⟨by rw [ofF_wrong hr]; exact ⟨_, rfl, bxs_nil _, nil_none⟩, D⟩
  · refine ⟨.bool true, rfl, ?_⟩
    simp only [Act.put, List.setIfInBounds_toArray, List.set_cons_zero, List.set_cons_succ]
    refine wl_yield (o := ⟨_, _, _, _, _, _⟩) (.bool false) (yl_not (by rfl) _ _ rfl true rfl) ?_
    simp only [Act.put, List.setIfInBounds_toArray, List.set_cons_zero, List.set_cons_succ]
    refine wpList_nil ?_
    refine hK3 _ _ ?_
    clear hK3 K3
    refine wp_cond_false rfl ?_
    refine wp_skip ?_
    refine hK2 _ _ ?_
    clear hK2 K2
    refine wp_seq_k (fun K4 hK4 => ?_)
    refine wp_region_lit ?_
    refine wl_yield (o := ⟨_, _, _, _, _, _⟩) (EC.val c) (yl_ex (by rfl) _ rfl _ 0 rfl _ (fun _ h => by subst h; exact ExIn.ec HX)) ?_
    simp only [Act.put, List.setIfInBounds_toArray, List.set_cons_zero, List.set_cons_succ]
    refine wl_call (o := ⟨_, _, _, _, _, _⟩) (by rfl) 35 _ _ rfl #[EC.val c, .bool false] rfl (run_call Tryz.func35 (by kernel_rfl) (by kernel_rfl)) ?_
    refine (boxesOf_any 8 c x false _ (ExAt.shrink n 8 hx (rightX_low hr)) (right_parts hr).2 (right_parts hr).1).mono ?_
    rintro r v3 ⟨hq, kb⟩
    replace D := D.trans (kb.mono D.size)
    replace hx := hx.on kb
    replace HX := HX.on kb
    clear kb
    cases ey : boxesX 8 x false
    · rw [ey] at hq
      obtain rfl : r = .returned (.tuple #[.slice none 0 0, .bool false]) := hq
      refine ⟨.tuple #[.slice none 0 0, .bool false], rfl, ?_⟩
      simp only [Act.put, List.setIfInBounds_toArray, List.set_cons_zero, List.set_cons_succ]
      refine wl_yield (o := ⟨_, _, _, _, _, _⟩) (.tuple #[.slice none 0 0, .bool false]) (yl_move (by rfl) _ rfl _ rfl) ?_
      simp only [Act.put, List.setIfInBounds_toArray, List.set_cons_zero, List.set_cons_succ]
      refine wl_yield (o := ⟨_, _, _, _, _, _⟩) (.slice none 0 0) (yl_extract0 (by rfl) _ rfl _ _ rfl) ?_
      simp only [Act.put, List.setIfInBounds_toArray, List.set_cons_zero, List.set_cons_succ]
      refine wl_yield (o := ⟨_, _, _, _, _, _⟩) (.bool false) (yl_extract1 (by rfl) _ rfl _ _ rfl) ?_
      simp only [Act.put, List.setIfInBounds_toArray, List.set_cons_zero, List.set_cons_succ]
      refine wl_yield (o := ⟨_, _, _, _, _, _⟩) (.slice none 0 0) (yl_assign (by rfl) _ rfl _ rfl) ?_
      simp only [Act.put, List.setIfInBounds_toArray, List.set_cons_zero, List.set_cons_succ]
      refine wl_yield (o := ⟨_, _, _, _, _, _⟩) (.bool false) (yl_assign (by rfl) _ rfl _ rfl) ?_
      simp only [Act.put, List.setIfInBounds_toArray, List.set_cons_zero, List.set_cons_succ]
      refine wpList_nil ?_
      refine hK4 _ _ ?_
      clear hK4 K4
      refine wp_seq_k (fun K5 hK5 => ?_)
      refine wp_seq_k (fun K6 hK6 => ?_)
      refine wp_region_lit ?_
      refine wl_yield (o := ⟨_, _, _, _, _, _⟩) (.bool false) (yl_move (by rfl) _ rfl _ rfl) ?_
      simp only [Act.put, List.setIfInBounds_toArray, List.set_cons_zero, List.set_cons_succ]
      refine wl_yield (o := ⟨_, _, _, _, _, _⟩) (.bool true) (yl_not (by rfl) _ _ rfl false rfl) ?_
      simp only [Act.put, List.setIfInBounds_toArray, List.set_cons_zero, List.set_cons_succ]
      refine wl_yield (o := ⟨_, _, _, _, _, _⟩) (.bool true) (yl_move (by rfl) _ rfl _ rfl) ?_
      simp only [Act.put, List.setIfInBounds_toArray, List.set_cons_zero, List.set_cons_succ]
      refine wl_yield (o := ⟨_, _, _, _, _, _⟩) undef (yl_undef (by rfl)) ?_
      simp only [Act.put, List.setIfInBounds_toArray, List.set_cons_zero, List.set_cons_succ]
      refine wl_yield (o := ⟨_, _, _, _, _, _⟩) undef (yl_undef (by rfl)) ?_
      simp only [Act.put, List.setIfInBounds_toArray, List.set_cons_zero, List.set_cons_succ]
      refine wl_yield (o := ⟨_, _, _, _, _, _⟩) undef (yl_undef (by rfl)) ?_
      simp only [Act.put, List.setIfInBounds_toArray, List.set_cons_zero, List.set_cons_succ]
      refine wl_yield (o := ⟨_, _, _, _, _, _⟩) (.bool true) (yl_pickT (by rfl) _ _ _ rfl rfl _ rfl) ?_
      simp only [Act.put, List.setIfInBounds_toArray, List.set_cons_zero, List.set_cons_succ]
      refine wpList_nil ?_
      refine hK6 _ _ ?_
      clear hK6 K6
      refine wp_cond_true rfl ?_
      refine wp_seq_k (fun K7 hK7 => ?_)
      refine wp_region_lit ?_
      refine wl_yield (o := ⟨_, _, _, _, _, _⟩) (.slice none 0 0) (yl_assign (by rfl) _ rfl _ rfl) ?_
      simp only [Act.put, List.setIfInBounds_toArray, List.set_cons_zero, List.set_cons_succ]
      refine wl_yield (o := ⟨_, _, _, _, _, _⟩) (.int .i64 4) (yl_assign (by rfl) _ rfl _ rfl) ?_
      simp only [Act.put, List.setIfInBounds_toArray, List.set_cons_zero, List.set_cons_succ]
      refine wpList_nil ?_
      refine hK7 _ _ ?_
      clear hK7 K7
      refine wp_ret ?_
      try simp only [Exit.inBlock, Exit.then]
      refine bodyPost_ret (results_tmp2 rfl _ _ _) rfl ?_
      exact ⟨by rw [ofF_none hr ey]; exact ⟨_, rfl, bxs_nil _, nil_none⟩, D⟩
    · rename_i ly
      rw [ey] at hq
      obtain ⟨u1, rfl, hby, hny⟩ : ∃ u, r = .returned (.tuple #[u, .bool true]) ∧ Bxs _ u ly ∧ nilOk u := hq
      refine ⟨.tuple #[u1, .bool true], rfl, ?_⟩
      simp only [Act.put, List.setIfInBounds_toArray, List.set_cons_zero, List.set_cons_succ]
      refine wl_yield (o := ⟨_, _, _, _, _, _⟩) (.tuple #[u1, .bool true]) (yl_move (by rfl) _ rfl _ rfl) ?_
      simp only [Act.put, List.setIfInBounds_toArray, List.set_cons_zero, List.set_cons_succ]
      refine wl_yield (o := ⟨_, _, _, _, _, _⟩) (u1) (yl_extract0 (by rfl) _ rfl _ _ rfl) ?_
      simp only [Act.put, List.setIfInBounds_toArray, List.set_cons_zero, List.set_cons_succ]
      refine wl_yield (o := ⟨_, _, _, _, _, _⟩) (.bool true) (yl_extract1 (by rfl) _ rfl _ _ rfl) ?_
      simp only [Act.put, List.setIfInBounds_toArray, List.set_cons_zero, List.set_cons_succ]
      refine wl_yield (o := ⟨_, _, _, _, _, _⟩) (u1) (yl_assign (by rfl) _ rfl _ rfl) ?_
      simp only [Act.put, List.setIfInBounds_toArray, List.set_cons_zero, List.set_cons_succ]
      refine wl_yield (o := ⟨_, _, _, _, _, _⟩) (.bool true) (yl_assign (by rfl) _ rfl _ rfl) ?_
      simp only [Act.put, List.setIfInBounds_toArray, List.set_cons_zero, List.set_cons_succ]
      refine wpList_nil ?_
      refine hK4 _ _ ?_
      clear hK4 K4
      refine wp_seq_k (fun K5 hK5 => ?_)
      refine wp_seq_k (fun K6 hK6 => ?_)
      refine wp_region_lit ?_
      refine wl_yield (o := ⟨_, _, _, _, _, _⟩) (.bool true) (yl_move (by rfl) _ rfl _ rfl) ?_
      simp only [Act.put, List.setIfInBounds_toArray, List.set_cons_zero, List.set_cons_succ]
      refine wl_yield (o := ⟨_, _, _, _, _, _⟩) (.bool false) (yl_not (by rfl) _ _ rfl true rfl) ?_
      simp only [Act.put, List.setIfInBounds_toArray, List.set_cons_zero, List.set_cons_succ]
      refine wl_yield (o := ⟨_, _, _, _, _, _⟩) (.bool false) (yl_move (by rfl) _ rfl _ rfl) ?_
      simp only [Act.put, List.setIfInBounds_toArray, List.set_cons_zero, List.set_cons_succ]
      refine wl_yield (o := ⟨_, _, _, _, _, _⟩) (u1) (yl_move (by rfl) _ rfl _ rfl) ?_
      simp only [Act.put, List.setIfInBounds_toArray, List.set_cons_zero, List.set_cons_succ]
      refine wl_call (o := ⟨_, _, _, _, _, _⟩) (by rfl) 23 _ _ rfl #[u1] rfl (run_call Tryz.func23 (by kernel_rfl) (by kernel_rfl)) ?_
      refine (dnfRight_any _ ly _ hby).mono ?_
      rintro r v4 ⟨rfl, kb⟩
      replace D := D.trans (kb.mono D.size)
      replace hx := hx.on kb
      replace HX := HX.on kb
      replace hby := hby.on kb
      clear kb
      cases hf : rightF ly
      · refine ⟨.bool false, rfl, ?_⟩
        simp only [Act.put, List.setIfInBounds_toArray, List.set_cons_zero, List.set_cons_succ]
        refine wl_yield (o := ⟨_, _, _, _, _, _⟩) (.bool true) (yl_not (by rfl) _ _ rfl false rfl) ?_
        simp only [Act.put, List.setIfInBounds_toArray, List.set_cons_zero, List.set_cons_succ]
        refine wl_yield (o := ⟨_, _, _, _, _, _⟩) (.bool true) (yl_pickF (by rfl) _ _ _ rfl rfl _ rfl) ?_
        simp only [Act.put, List.setIfInBounds_toArray, List.set_cons_zero, List.set_cons_succ]
        refine wpList_nil ?_
        refine hK6 _ _ ?_
        clear hK6 K6
        refine wp_cond_true rfl ?_
        refine wp_seq_k (fun K7 hK7 => ?_)
        refine wp_region_lit ?_
        refine wl_yield (o := ⟨_, _, _, _, _, _⟩) (.slice none 0 0) (yl_assign (by rfl) _ rfl _ rfl) ?_
        simp only [Act.put, List.setIfInBounds_toArray, List.set_cons_zero, List.set_cons_succ]
        refine wl_yield (o := ⟨_, _, _, _, _, _⟩) (.int .i64 4) (yl_assign (by rfl) _ rfl _ rfl) ?_
        simp only [Act.put, List.setIfInBounds_toArray, List.set_cons_zero, List.set_cons_succ]
        refine wpList_nil ?_
        refine hK7 _ _ ?_
        clear hK7 K7
        refine wp_ret ?_
        try simp only [Exit.inBlock, Exit.then]
        refine bodyPost_ret (results_tmp2 rfl _ _ _) rfl ?_
        exact ⟨by rw [ofF_big hr ey hf]; exact ⟨_, rfl, bxs_nil _, nil_none⟩, D⟩
      · refine ⟨.bool true, rfl, ?_⟩
        simp only [Act.put, List.setIfInBounds_toArray, List.set_cons_zero, List.set_cons_succ]
        refine wl_yield (o := ⟨_, _, _, _, _, _⟩) (.bool false) (yl_not (by rfl) _ _ rfl true rfl) ?_
        simp only [Act.put, List.setIfInBounds_toArray, List.set_cons_zero, List.set_cons_succ]
        refine wl_yield (o := ⟨_, _, _, _, _, _⟩) (.bool false) (yl_pickF (by rfl) _ _ _ rfl rfl _ rfl) ?_
        simp only [Act.put, List.setIfInBounds_toArray, List.set_cons_zero, List.set_cons_succ]
        refine wpList_nil ?_
        refine hK6 _ _ ?_
        clear hK6 K6
        refine wp_cond_false rfl ?_
        refine wp_skip ?_
        refine hK5 _ _ ?_
        clear hK5 K5
        refine wp_seq_k (fun K7 hK7 => ?_)
        refine wp_region_lit ?_
        refine wl_yield (o := ⟨_, _, _, _, _, _⟩) (u1) (yl_move (by rfl) _ rfl _ rfl) ?_
        simp only [Act.put, List.setIfInBounds_toArray, List.set_cons_zero, List.set_cons_succ]
        refine wl_yield (o := ⟨_, _, _, _, _, _⟩) (u1) (yl_assign (by rfl) _ rfl _ rfl) ?_
        simp only [Act.put, List.setIfInBounds_toArray, List.set_cons_zero, List.set_cons_succ]
        refine wl_yield (o := ⟨_, _, _, _, _, _⟩) (.int .i64 0) (yl_assign (by rfl) _ rfl _ rfl) ?_
        simp only [Act.put, List.setIfInBounds_toArray, List.set_cons_zero, List.set_cons_succ]
        refine wpList_nil ?_
        refine hK7 _ _ ?_
        clear hK7 K7
        refine wp_ret ?_
        try simp only [Exit.inBlock, Exit.then]
        refine bodyPost_ret (results_tmp2 rfl _ _ _) rfl ?_
        exact ⟨by rw [ofF_ok hr ey hf]; exact ⟨_, rfl, hby, hny⟩, D⟩
end Go.Proofs.YtlfhpocfacaaeaaGreat
/-
  Steps of regions, of the sixth layer's laws: errors compared; an expression stored into a block; what opens each law, in plain words.
-/
set_option linter.unusedSimpArgs false
set_option linter.unusedVariables false
namespace Go.Proofs.YtlfhpocfacaaeaaGreat
open Go.RowKit

def sFive : SetV := ⟨false, [(5, 5)], false, []⟩
theorem setF_of {w : World} {p : Option Addr} {c : Nat} (h : RngsAt w (.slice p 1 c) [(5, 5)]) : SetAt w (SC.val ⟨false, p, 1, c, false, none, 0, 0⟩) sFive := ⟨_, _, rfl, h, strs_none _⟩
theorem noX_at (w : World) : Xp 1 w ec0 noX := ⟨ec0, rfl, ⟨rfl, rfl, rfl, by simp [ec0], by simp [ec0], by simp [ec0], by simp [ec0], noSet_at w, Nat.le_refl _, by simp [ec0], fun _ => ⟨rfl, rfl⟩⟩, fun i hi => by simp [noX] at hi⟩
section
variable {ops : Array Oper} {Q : Exit → Act → World → Prop} {S : World → Prop} {o : Oper} {a : Act}
theorem wl_rowF {rest : List Oper} {w : World} (hw : Region.wanted o (yielded ops a.tmps) = true) (x : Operand) (ho : o.op = .buildSlice 22 1 #[(0, x)]) (hx : a.eval x = .agg #[.int .i64 5, .int .i64 5])
    (h : ∀ W p c, RngsAt W (.slice p 1 c) [(5, 5)] → Below w.heap.size w W → wpList Tryz.prog ops Q rest (a.put o.dst (.slice p 1 c)) W) : wpList Tryz.prog ops Q (o :: rest) a w := by
  refine wl_run hw (.slice (some ⟨w.heap.size, 0, none⟩) 1 1) (w.alloc (.cells #[.int .i64 5, .int .i64 5] 72)) ?_ (h _ _ _ (rngs_new w _ [(5, 5)] rfl (fun r hr => by simp at hr; rw [hr]; dsimp only; omega) (by simp) _ rfl 1 1 rfl) ((Below.refl _ w).alloc (Nat.le_refl _) _))
  simp only [execOp, ho, List.map_toArray, List.map_cons, List.map_nil, hx]
  go_simp
end
section
variable {ops : Array Oper} {Q : Exit → Act → World → Prop} {S : World → Prop} {o : Oper} {a : Act}
theorem yl_eqE (hw : Region.wanted o (yielded ops a.tmps) = true) (x y : Operand) (t : TypeId) (ho : o.op = .binOp .eql 33 x y t) (p q : Int) (r : Bool) (hx : a.eval x = .int .i64 p) (hy : a.eval y = .int .i64 q) (hr : decide (p = q) = r) : YieldsIf Tryz.prog ops S o (.bool r) a :=
  Or.inl ⟨hw, fun w hS => by
    subst hr
    simp only [execOp, ho, hx, hy]
    go_simp
    by_cases h : p = q <;> simp [h]⟩
theorem yl_neqE (hw : Region.wanted o (yielded ops a.tmps) = true) (x y : Operand) (t : TypeId) (ho : o.op = .binOp .neq 33 x y t) (p q : Int) (r : Bool) (hx : a.eval x = .int .i64 p) (hy : a.eval y = .int .i64 q) (hr : decide (¬ p = q) = r) : YieldsIf Tryz.prog ops S o (.bool r) a :=
  Or.inl ⟨hw, fun w hS => by
    subst hr
    simp only [execOp, ho, hx, hy]
    go_simp
    by_cases h : p = q <;> simp [h]⟩
/-- A new block with the cells of no expression. -/
theorem wl_allocE {rest : List Oper} {w : World} (hw : Region.wanted o (yielded ops a.tmps) = true) (ho : o.op = .alloc 28)
    (h : ∀ W g, w.heap.size ≤ g → ExIn W g ec0 → Below w.heap.size w W → wpList Tryz.prog ops Q rest (a.put o.dst (.pointer (some ⟨g, 0, none⟩))) W) : wpList Tryz.prog ops Q (o :: rest) a w := by
  refine wl_run hw (.pointer (some ⟨w.heap.size, 0, none⟩)) (w.alloc (exObj ec0)) ?_ (h _ _ (Nat.le_refl _) (heap_new _ _) ((Below.refl _ w).alloc (Nat.le_refl _) _))
  simp only [execOp, ho, exObj, ec0, SC.zero]
  go_simp
theorem ExIn.there {w : World} {g : Nat} {c : EC} (h : ExIn w g c) : w.there g 0 7 := fun j hj => by
  refine ⟨?_, soft_heap h _⟩
  rw [h.ec.range j _ (List.getElem?_eq_getElem (show j < c.list.length from hj))]
  rfl
theorem exIn_put {w : World} {g : Nat} {c d : EC} (h : ExIn w g c) : ExIn (w.setCells g 0 d.list) g d := by
  have hr := World.rangeAt_setCells_same w g 0 d.list h.there
  obtain ⟨cur', h1, h2⟩ := setCells_cur g d.list 0 w _ h
  have e : cur' = d.list.toArray := by
    apply Array.ext
    · rw [h2]; rfl
    · intro i hi1 hi2
      have hi : i < d.list.length := by simpa using hi2
      have := hr i _ (List.getElem?_eq_getElem hi)
      rw [Nat.zero_add, cell_heap h1, Array.getElem?_eq_getElem hi1] at this
      simpa using this
  rw [e] at h1
  exact h1
/-- An expression stored whole. -/
theorem wl_putE {rest : List Oper} {w : World} (hg : o.guard = none) (x y : Operand) (ho : o.op = .store 28 x y) (g : Nat) (c d : EC) (hx : a.eval x = .pointer (some ⟨g, 0, none⟩)) (hy : a.eval y = d.val) (hc : ExIn w g c)
    (h : ∀ W, ExIn W g d → (∀ B, B ≤ g → Asd (some g) B w W) → wpList Tryz.prog ops Q rest (a.put o.dst undef) W) : wpList Tryz.prog ops Q (o :: rest) a w :=
  wpList_store_mid hg 28 x y ho g 0 d.list.toArray hx hy hc.there (by rw [infoEx]; rfl) (all_oneCell_toArray d.list_one) (h _ (exIn_put hc) (fun B hB => asd_put w 0 d.list hB))
theorem yl_ev16 (hw : Region.wanted o (yielded ops a.tmps) = true) (x y : Operand) (ho : o.op = .build 42 #[(0, x), (1, y)]) (hx : a.eval x = .agg #[.int .i64 1, .int .i64 5, .string ⟨#[]⟩]) (hy : a.eval y = .agg #[.int .i64 1, .int .i64 5, .string ⟨#[]⟩]) : YieldsIf Tryz.prog ops S o (evVal ⟨(1, 5, ⟨#[]⟩), (1, 5, ⟨#[]⟩), vaZ, vaZ⟩) a :=
  Or.inl ⟨hw, fun w _ => by
    simp only [execOp, ho, evVal, vaZ, List.map_toArray, List.map_cons, List.map_nil, hx, hy]
    go_simp⟩
theorem yl_val5 (hw : Region.wanted o (yielded ops a.tmps) = true) (ho : o.op = .build 40 #[(0, .const (.int .i64 1)), (1, .const (.int .i64 5))]) : YieldsIf Tryz.prog ops S o (.agg #[.int .i64 1, .int .i64 5, .string ⟨#[]⟩]) a :=
  Or.inl ⟨hw, fun w _ => by
    simp only [execOp, ho]
    go_simp⟩
end
def d6_rowObj (ds : List EC) : Obj := Obj.cells (ds.flatMap EC.list).toArray 28
set_option maxHeartbeats 4000000 in
set_option maxRecDepth 100000 in
theorem d6_rn_row2 {o : Oper} {w : World} {x0 x1 : Operand} {c0 c1 : EC} (a : Act) (ho : o.op = .buildSlice 26 2 #[(0, x0), (1, x1)]) (h0 : a.eval x0 = c0.val) (h1 : a.eval x1 = c1.val) : (execOp a.eval o).run Tryz.prog w = .ok (.value (.slice (some ⟨w.heap.size, 0, none⟩) 2 2)) (w.alloc (d6_rowObj [c0, c1])) := by
  simp only [execOp, ho, List.map_toArray, List.map_cons, List.map_nil, h0, h1, EC.val, d6_rowObj, EC.list, List.flatMap_cons, List.flatMap_nil, List.cons_append, List.nil_append]
  go_simp
theorem d6_flat_at (ds : List EC) (j r : Nat) (hr : r < 7) : ∀ (i : Nat) (d : EC), ds[i]? = some d → i = j → (ds.flatMap EC.list)[j * 7 + r]? = d.list[r]? := by
  induction ds generalizing j with
  | nil => intro i d h; simp at h
  | cons z ds ih =>
    intro i d h e
    subst e
    rw [List.flatMap_cons]
    cases i with
    | zero =>
      simp at h
      subst h
      rw [List.getElem?_append_left (by rw [EC.list_len]; omega), Nat.zero_mul, Nat.zero_add]
    | succ i =>
      rw [List.getElem?_append_right (by rw [EC.list_len]; omega), EC.list_len, show (i + 1) * 7 + r - 7 = i * 7 + r by omega]
      exact ih i i d (by simpa using h) rfl
theorem d6_rows_new (n : Nat) (w : World) (ds : List (EC × ExV)) (h : ∀ q ∈ ds, ExAt n w q.1.val q.2) (hl : ds.length ≤ 1000 := by simp) : RowsX n (w.alloc (d6_rowObj (ds.map (·.1)))) (.slice (some ⟨w.heap.size, 0, none⟩) ds.length ds.length) (ds.map (·.2)) := by
  have hn := heap_new w (d6_rowObj (ds.map (·.1)))
  refine ⟨_, ds.length, by rw [List.length_map], by simp, by omega, fun e => by simp at e, fun i hi => ?_⟩
  rw [List.length_map] at hi
  refine ⟨w.heap.size, 0, (ds[i]).1, rfl, by simp, EcAt.ofRange fun r v hv => ?_, ?_⟩
  · have hr : r < 7 := (List.getElem?_eq_some_iff.1 hv).1
    unfold d6_rowObj at hn ⊢
    rw [cell_heap hn, Nat.zero_add]
    rw [List.getElem?_toArray, d6_flat_at _ i r hr i (ds[i]).1 (by rw [List.getElem?_map, List.getElem?_eq_getElem hi]; rfl) rfl]
    exact hv
  · have e2 : (ds.map (·.2)).getD i noX = (ds[i]).2 := by
      rw [List.getD_eq_getElem?_getD, List.getElem?_map, List.getElem?_eq_getElem hi]
      rfl
    rw [e2]
    exact ExAt.on ((Below.refl _ w).alloc (Nat.le_refl _) _) n (h _ (List.getElem_mem _))
section
variable {ops : Array Oper} {Q : Exit → Act → World → Prop} {S : World → Prop} {o : Oper} {a : Act}
/-- A new row of two expressions. -/
theorem wl_row2X {rest : List Oper} {w : World} (hw : Region.wanted o (yielded ops a.tmps) = true) (x0 x1 : Operand) (ho : o.op = .buildSlice 26 2 #[(0, x0), (1, x1)]) {c0 c1 : EC} (h0 : a.eval x0 = c0.val) (h1 : a.eval x1 = c1.val) {n : Nat} {x y : ExV} (hx : Xp n w c0 x) (hy : Xp n w c1 y)
    (h : ∀ W p, RowsX n W (.slice p 2 2) [x, y] → Below w.heap.size w W → wpList Tryz.prog ops Q rest (a.put o.dst (.slice p 2 2)) W) : wpList Tryz.prog ops Q (o :: rest) a w :=
  wl_run hw _ _ (d6_rn_row2 a ho h0 h1) (h _ _ (d6_rows_new n w [(c0, x), (c1, y)] (fun q hq => by
    simp only [List.mem_cons, List.not_mem_nil, or_false] at hq
    rcases hq with rfl | rfl
    · exact hx
    · exact hy)) ((Below.refl _ w).alloc (Nat.le_refl _) _))
end
theorem five_set {w W : World} {v : Value} {g : Nat} (h : SetAt w v sFive) (hz : ExIn w g ec0) (hs : w.heap.size ≤ W.heap.size) (hk : ∀ k, k < w.heap.size → k ≠ g → W.heap[k]? = w.heap[k]?) : SetAt W v sFive := by
  obtain ⟨vi, vs, hv, h1, h2⟩ := h
  refine ⟨vi, vs, hv, ?_, ?_⟩
  · obtain ⟨q1, q2, a, cap, e, q⟩ := h1
    refine ⟨q1, q2, a, cap, e, fun i hi => ?_⟩
    obtain ⟨b, off, ha, hlt, c0, c1⟩ := q i hi
    have e0 : i = 0 := by
      have : sFive.ints.length = 1 := rfl
      omega
    subst e0
    have hb : b ≠ g := by
      rintro rfl
      rw [cell_heap hz] at c0
      have hj : off + 0 * 2 < 7 := by
        have := (Array.getElem?_eq_some_iff.1 c0).1
        exact this
      have c0' : ec0.list.toArray[off + 0 * 2]? = some (Value.int IntKind.i64 5) := c0
      rw [List.getElem?_toArray] at c0'
      have : ∀ j, j < 7 → ec0.list[j]? ≠ some (Value.int IntKind.i64 5) := by
        intro j hj
        match j, hj with
        | 0, _ => simp [EC.list, ec0]
        | 1, _ => simp [EC.list, ec0]
        | 2, _ => simp [EC.list, ec0]
        | 3, _ => simp [EC.list, ec0]
        | 4, _ => simp [EC.list, ec0]
        | 5, _ => simp [EC.list, ec0]
        | 6, _ => simp [EC.list, ec0]
      exact this _ hj c0'
    have hc : ∀ o, W.cell? ⟨b, o, none⟩ = w.cell? ⟨b, o, none⟩ := fun o => by unfold World.cell?; simp only [hk b hlt hb]
    exact ⟨b, off, ha, Nat.lt_of_lt_of_le hlt hs, (hc _).trans c0, (hc _).trans c1⟩
  · obtain ⟨q1, q2, a, cap, e, q⟩ := h2
    exact ⟨q1, q2, a, cap, e, fun i hi => absurd hi (by simp [sFive])⟩
theorem five_at {w W : World} {d : EC} {attr : Int} {g : Nat} (h : Xp 1 w d (atomX attr sFive)) (hz : ExIn w g ec0) (hs : w.heap.size ≤ W.heap.size) (hk : ∀ k, k < w.heap.size → k ≠ g → W.heap[k]? = w.heap[k]?) : Xp 1 W d (atomX attr sFive) := by
  have hE := ExAt.for h
  exact ⟨d, rfl, ⟨hE.k, hE.t, hE.n, hE.k0, hE.k1, hE.t0, hE.t1, five_set hE.s hz hs hk, hE.room, hE.big, hE.none⟩, fun i hi => by simp [atomX] at hi⟩
def xAw : ExV := notX (andX [atomX 0 sFive, atomX 1 sFive])
def eAw : EvV := ⟨(1, 5, ⟨#[]⟩), (1, 5, ⟨#[]⟩), vaZ, vaZ⟩
def lAw : List BoxV := [allBx.put 0 (notV sFive), allBx.put 1 (notV sFive)]
theorem aw_of1 : ofF (andX []) = ([allBx], 0) := ofF_ok (by rfl) (by rfl) (by rfl)
theorem aw_of2 : ofF (orX []) = ([], 0) := ofF_ok (by rfl) (by rfl) (by rfl)
theorem aw_r3 : rightX xAw = true := by rfl
theorem aw_of3 : ofF xAw = (lAw, 0) := ofF_ok aw_r3 (by rfl) (by rfl)
theorem aw_of4 : ofF noX = ([], 2) := ofF_wrong (by rfl)
theorem aw_h1 : hasL lAw evZ = true := by simp [lAw, hasL, hasE, all4, BoxV.get, BoxV.put, allBx, allV, EvV.get, evZ, vaZ, hasP, hasB, rightB, notV, sFive, notR, inIntsB, inStrsB]
theorem aw_h2 : hasL [allBx] evZ = true := by simp [hasL, hasE, all4, BoxV.get, allBx, allV, EvV.get, evZ, vaZ, hasP, hasB, rightB]
theorem aw_h3 : hasL lAw eAw = false := by simp [lAw, hasL, hasE, all4, BoxV.get, BoxV.put, allBx, allV, EvV.get, eAw, vaZ, hasP, hasB, rightB, notV, sFive, notR, inIntsB, inStrsB]
theorem evAw_fit : evFit eAw := ⟨Nat.zero_le _, Nat.zero_le _, Nat.zero_le _, Nat.zero_le _⟩
theorem evZ_in : inE evZ := fun i hi => by match i, hi with | 0, _ => exact ⟨by decide, by decide⟩ | 1, _ => exact ⟨by decide, by decide⟩ | 2, _ => exact ⟨by decide, by decide⟩ | 3, _ => exact ⟨by decide, by decide⟩
theorem evAw_in : inE eAw := fun i hi => by match i, hi with | 0, _ => exact ⟨by decide, by decide⟩ | 1, _ => exact ⟨by decide, by decide⟩ | 2, _ => exact ⟨by decide, by decide⟩ | 3, _ => exact ⟨by decide, by decide⟩
theorem fit_filter {l : List BoxV} (h : rightF l = true) (hi : ∀ b ∈ l, ∀ i, i < 4 → inI64 (b.get i).ints) : FitL l := fun b hb => by
  unfold rightF at h
  rw [Bool.and_eq_true, Bool.and_eq_true, List.all_eq_true] at h
  have hq := h.2.1 b hb
  rw [Bool.and_eq_true] at hq
  have hS : ∀ i, i < 4 → (b.get i).ints.length ≤ 6 ∧ (b.get i).strs.length ≤ 6 := fun i hi => by
    have := (all4_iff _).1 hq.1 i hi
    unfold smallB at this
    rw [Bool.and_eq_true, decide_eq_true_eq, decide_eq_true_eq] at this
    exact this
  exact ⟨⟨fun i h4 => ⟨(all4_iff _).1 hq.2 i h4, hi b hb i h4⟩, fun i hi => by have := (hS i hi).2; omega⟩, fun i hi => by have := (hS i hi).1; omega, fun i hi => by have := (hS i hi).2; omega⟩
theorem Bxs.i64 {w : World} {v : Value} {l : List BoxV} (h : Bxs w v l) : ∀ b ∈ l, ∀ i, i < 4 → inI64 (b.get i).ints := fun b hb => by
  obtain ⟨cs, _, ha⟩ := h
  obtain ⟨i, hi, rfl⟩ := List.getElem_of_mem hb
  have := ha.2 i hi
  rw [List.getD_eq_getElem?_getD, List.getD_eq_getElem?_getD, List.getElem?_eq_getElem hi] at this
  exact this.i64
theorem ofF_fit {w : World} {v : Value} {x : ExV} (h : Bxs w v (ofF x).1) : FitL (ofF x).1 := by
  have hi := h.i64
  clear h
  cases hr : rightX x
  · rw [ofF_wrong hr]; intro b hb; cases hb
  · cases ey : boxesX 8 x false with
    | none => rw [ofF_none hr ey]; intro b hb; cases hb
    | some l =>
      cases hf : rightF l
      · rw [ofF_big hr ey hf]; intro b hb; cases hb
      · rw [ofF_ok hr ey hf] at hi ⊢
        exact fit_filter hf hi
theorem Bxs.sl {w : World} {v : Value} {l : List BoxV} (h : Bxs w v l) : ∃ p c, v = .slice p l.length c := by
  obtain ⟨cs, hr, ha⟩ := h
  obtain ⟨p, c, rfl⟩ := hr.form
  exact ⟨p, c, by rw [ha.1]⟩
end Go.Proofs.YtlfhpocfacaaeaaGreat
/-
  'five' and 'awake' of the sixth layer's laws.
-/
set_option linter.unusedSimpArgs false
set_option linter.unusedVariables false
namespace Go.Proofs.YtlfhpocfacaaeaaGreat
open Go.RowKit

set_option maxHeartbeats 4000000 in
set_option maxRecDepth 100000 in
theorem five_any (attr : Int) (ha0 : -9223372036854775808 ≤ attr) (ha1 : attr ≤ 9223372036854775807) (w : World) :
    Calls Tryz.prog 30 #[.int .i64 attr] w fun r w' => (∃ d : EC, r = .returned d.val ∧ Xp 1 w' d (atomX attr sFive)) ∧ Below w.heap.size w w' := by
  have D := Below.refl w.heap.size w
  go_enter Tryz.func30, Tryz.ntmps30
  refine wp_seq_k (fun K1 hK1 => ?_)
  refine wp_region_lit ?_
  refine wl_allocE (o := ⟨_, _, _, _, _, _⟩) (by rfl) rfl (fun v1 gb1 hggb1 IZ kb => ?_)
  simp only [Act.put, List.setIfInBounds_toArray, List.set_cons_zero, List.set_cons_succ]
  replace D := D.trans (kb.mono D.size)
  clear kb
  refine wpList_nil ?_
  refine hK1 _ _ ?_
  clear hK1 K1
  refine wp_seq_k (fun K2 hK2 => ?_)
  refine wp_region_lit ?_
  refine wl_yield (o := ⟨_, _, _, _, _, _⟩) (.int .i64 attr) (yl_move (by rfl) _ rfl _ rfl) ?_
  simp only [Act.put, List.setIfInBounds_toArray, List.set_cons_zero, List.set_cons_succ]
  refine wl_run (o := ⟨_, _, _, _, _, _⟩) (by rfl) (.agg #[.int .i64 5, .int .i64 5]) v1 (by go_simp) ?_
  simp only [Act.put, List.setIfInBounds_toArray, List.set_cons_zero, List.set_cons_succ]
  refine wl_rowF (o := ⟨_, _, _, _, _, _⟩) (by rfl) _ rfl rfl (fun v2 p1 r1 HY kb => ?_)
  simp only [Act.put, List.setIfInBounds_toArray, List.set_cons_zero, List.set_cons_succ]
  replace D := D.trans (kb.mono D.size)
  replace IZ := IZ.on kb
  clear kb
  have HSA := setF_of HY
  refine wl_run (o := ⟨_, _, _, _, _, _⟩) (by rfl) (SC.val ⟨false, p1, 1, r1, false, none, 0, 0⟩) v2 (by unfold SC.val; go_simp) ?_
  simp only [Act.put, List.setIfInBounds_toArray, List.set_cons_zero, List.set_cons_succ]
  refine wl_call (o := ⟨_, _, _, _, _, _⟩) (by rfl) 29 _ _ rfl #[.int .i64 attr, SC.val ⟨false, p1, 1, r1, false, none, 0, 0⟩] rfl (run_call Tryz.func29 (by kernel_rfl) (by kernel_rfl)) ?_
  refine (progAtom_any attr ha0 ha1 _ sFive _ HSA (by simp [sFive]) (by simp [sFive])).mono ?_
  rintro r v3 ⟨⟨dA, rfl, HA⟩, kb⟩
  replace D := D.trans (kb.mono D.size)
  replace IZ := IZ.on kb
  clear kb
  replace HA : Xp 1 _ dA (atomX attr sFive) := HA
  refine ⟨EC.val dA, rfl, ?_⟩
  simp only [Act.put, List.setIfInBounds_toArray, List.set_cons_zero, List.set_cons_succ]
  refine wl_putE (o := ⟨_, _, _, _, _, _⟩) rfl _ _ rfl gb1 ec0 dA rfl rfl IZ (fun v4 HD hA => ?_)
  simp only [Act.put, List.setIfInBounds_toArray, List.set_cons_zero, List.set_cons_succ]
  have hA := hA w.heap.size hggb1
  replace HA := five_at HA IZ hA.s (fun k hk hne => hA.k k hk (fun e => hne (Option.some.inj e)))
  replace D := D.trans hA.b
  clear hA IZ
  refine wpList_nil ?_
  refine hK2 _ _ ?_
  clear hK2 K2
  refine wp_ret ?_
  exact bodyPost_ret (results_cell_row rfl _ _ gb1 28 _ (0, 0) _ rfl HD Tryz.underlying28 rfl infoEx) rfl ⟨⟨dA, rfl, HA⟩, D⟩
theorem cp5 (attr : Int) : cpX 1 (atomX attr sFive) := ⟨by simp [atomX, sFive], by simp [atomX, sFive], by simp [atomX], fun y hy => by cases hy⟩
theorem cp2 : ∀ y ∈ [atomX 0 sFive, atomX 1 sFive], cpX 1 y := fun y hy => by
  simp only [List.mem_cons, List.not_mem_nil, or_false] at hy
  rcases hy with rfl | rfl <;> exact cp5 _
theorem cp3 : cpX 2 (andX [atomX 0 sFive, atomX 1 sFive]) := ⟨by simp [andX, noSet], by simp [andX, noSet], by simp [andX], cp2⟩
theorem aw_fl3 : FitL lAw := by
  have h : Good sFive := ⟨by rfl, fun r hr => by simp [sFive] at hr; rw [hr]; dsimp only; omega⟩
  intro b hb
  refine ⟨?_, fun i hi => ?_, fun i hi => ?_⟩
  · simp only [lAw, List.mem_cons, List.not_mem_nil, or_false] at hb
    rcases hb with rfl | rfl
    · exact put_good all_good (by omega) (notV_good h) (by simp [notV, sFive])
    · exact put_good all_good (by omega) (notV_good h) (by simp [notV, sFive])
  all_goals
    simp only [lAw, List.mem_cons, List.not_mem_nil, or_false] at hb
    rcases hb with rfl | rfl <;>
    · rw [BoxV.get_put _ _ _ _ (by omega) hi]
      split
      · simp [notV, sFive, notR]
      · rw [allBx_get]; simp [allV]
theorem aw_fl1 : FitL [allBx] := fun b hb => by
  rw [List.mem_singleton] at hb
  subst hb
  exact allFit
set_option maxHeartbeats 8000000 in
set_option maxRecDepth 100000 in
theorem awake6_any (w : World) :
    Calls Tryz.prog 10 #[] w fun r w' => r = .returned (.bool true) ∧ Below w.heap.size w w' := by
  have D := Below.refl w.heap.size w
  go_enter Tryz.func10, Tryz.ntmps10
  refine wp_seq_k (fun K1 hK1 => ?_)
  refine wp_region_lit ?_
  refine wl_yield (o := ⟨_, _, _, _, _, _⟩) (.bool false) (yl_assign (by rfl) _ rfl _ rfl) ?_
  simp only [Act.put, List.setIfInBounds_toArray, List.set_cons_zero, List.set_cons_succ]
  refine wpList_nil ?_
  refine hK1 _ _ ?_
  clear hK1 K1
  refine wp_seq_k (fun K2 hK2 => ?_)
  refine wp_region_lit ?_
  refine wl_call (o := ⟨_, _, _, _, _, _⟩) (by rfl) 27 _ _ rfl #[.slice none 0 0] rfl (run_call Tryz.func27 (by kernel_rfl) (by kernel_rfl)) ?_
  refine (c_and0 _).mono ?_
  rintro r v1 ⟨⟨a1, rfl, HA⟩, kb⟩
  replace D := D.trans (kb.mono D.size)
  clear kb
  refine ⟨EC.val a1, rfl, ?_⟩
  simp only [Act.put, List.setIfInBounds_toArray, List.set_cons_zero, List.set_cons_succ]
  refine wl_call (o := ⟨_, _, _, _, _, _⟩) (by rfl) 12 _ _ rfl #[EC.val a1] rfl (run_call Tryz.func12 (by kernel_rfl) (by kernel_rfl)) ?_
  refine (dnfOf_any 1 _ (andX []) _ HA (by omega)).mono ?_
  rintro r v2 ⟨hq, kb⟩
  replace D := D.trans (kb.mono D.size)
  replace HA := HA.on kb
  clear kb
  rw [aw_of1] at hq
  obtain ⟨u1, rfl, hb1, hn1⟩ := hq
  obtain ⟨p1, c1, rfl⟩ := hb1.sl
  refine ⟨.tuple #[.slice p1 1 c1, .int .i64 0], rfl, ?_⟩
  simp only [Act.put, List.setIfInBounds_toArray, List.set_cons_zero, List.set_cons_succ]
  refine wl_yield (o := ⟨_, _, _, _, _, _⟩) (.tuple #[.slice p1 1 c1, .int .i64 0]) (yl_move (by rfl) _ rfl _ rfl) ?_
  simp only [Act.put, List.setIfInBounds_toArray, List.set_cons_zero, List.set_cons_succ]
  refine wl_yield (o := ⟨_, _, _, _, _, _⟩) (.slice p1 1 c1) (yl_extract0 (by rfl) _ rfl _ _ rfl) ?_
  simp only [Act.put, List.setIfInBounds_toArray, List.set_cons_zero, List.set_cons_succ]
  refine wl_yield (o := ⟨_, _, _, _, _, _⟩) (.int .i64 0) (yl_extract1 (by rfl) _ rfl _ _ rfl) ?_
  simp only [Act.put, List.setIfInBounds_toArray, List.set_cons_zero, List.set_cons_succ]
  refine wl_yield (o := ⟨_, _, _, _, _, _⟩) (.slice p1 1 c1) (yl_assign (by rfl) _ rfl _ rfl) ?_
  simp only [Act.put, List.setIfInBounds_toArray, List.set_cons_zero, List.set_cons_succ]
  refine wl_yield (o := ⟨_, _, _, _, _, _⟩) (.int .i64 0) (yl_assign (by rfl) _ rfl _ rfl) ?_
  simp only [Act.put, List.setIfInBounds_toArray, List.set_cons_zero, List.set_cons_succ]
  refine wpList_nil ?_
  refine hK2 _ _ ?_
  clear hK2 K2
  refine wp_seq_k (fun K3 hK3 => ?_)
  refine wp_region_lit ?_
  refine wl_call (o := ⟨_, _, _, _, _, _⟩) (by rfl) 28 _ _ rfl #[.slice none 0 0] rfl (run_call Tryz.func28 (by kernel_rfl) (by kernel_rfl)) ?_
  refine (c_or0 _).mono ?_
  rintro r v3 ⟨⟨o1, rfl, HO⟩, kb⟩
  replace D := D.trans (kb.mono D.size)
  replace HA := HA.on kb
  replace hb1 := hb1.on kb
  clear kb
  refine ⟨EC.val o1, rfl, ?_⟩
  simp only [Act.put, List.setIfInBounds_toArray, List.set_cons_zero, List.set_cons_succ]
  refine wl_call (o := ⟨_, _, _, _, _, _⟩) (by rfl) 12 _ _ rfl #[EC.val o1] rfl (run_call Tryz.func12 (by kernel_rfl) (by kernel_rfl)) ?_
  refine (dnfOf_any 1 _ (orX []) _ HO (by omega)).mono ?_
  rintro r v4 ⟨hq, kb⟩
  replace D := D.trans (kb.mono D.size)
  replace HA := HA.on kb
  replace hb1 := hb1.on kb
  replace HO := HO.on kb
  clear kb
  rw [aw_of2] at hq
  obtain ⟨u2, rfl, hb2, hn2⟩ := hq
  obtain ⟨p2, c2, rfl⟩ := hb2.sl
  refine ⟨.tuple #[.slice p2 0 c2, .int .i64 0], rfl, ?_⟩
  simp only [Act.put, List.setIfInBounds_toArray, List.set_cons_zero, List.set_cons_succ]
  refine wl_yield (o := ⟨_, _, _, _, _, _⟩) (.tuple #[.slice p2 0 c2, .int .i64 0]) (yl_move (by rfl) _ rfl _ rfl) ?_
  simp only [Act.put, List.setIfInBounds_toArray, List.set_cons_zero, List.set_cons_succ]
  refine wl_yield (o := ⟨_, _, _, _, _, _⟩) (.slice p2 0 c2) (yl_extract0 (by rfl) _ rfl _ _ rfl) ?_
  simp only [Act.put, List.setIfInBounds_toArray, List.set_cons_zero, List.set_cons_succ]
  refine wl_yield (o := ⟨_, _, _, _, _, _⟩) (.int .i64 0) (yl_extract1 (by rfl) _ rfl _ _ rfl) ?_
  simp only [Act.put, List.setIfInBounds_toArray, List.set_cons_zero, List.set_cons_succ]
  refine wl_yield (o := ⟨_, _, _, _, _, _⟩) (.slice p2 0 c2) (yl_assign (by rfl) _ rfl _ rfl) ?_
  simp only [Act.put, List.setIfInBounds_toArray, List.set_cons_zero, List.set_cons_succ]
  refine wl_yield (o := ⟨_, _, _, _, _, _⟩) (.int .i64 0) (yl_assign (by rfl) _ rfl _ rfl) ?_
  simp only [Act.put, List.setIfInBounds_toArray, List.set_cons_zero, List.set_cons_succ]
  refine wpList_nil ?_
  refine hK3 _ _ ?_
  clear hK3 K3
  refine wp_seq_k (fun K4 hK4 => ?_)
  refine wp_region_lit ?_
  refine wl_call (o := ⟨_, _, _, _, _, _⟩) (by rfl) 30 _ _ rfl #[.int .i64 0] rfl (run_call Tryz.func30 (by kernel_rfl) (by kernel_rfl)) ?_
  refine (five_any 0 (by omega) (by omega) _).mono ?_
  rintro r v5 ⟨⟨f1, rfl, HF1⟩, kb⟩
  replace D := D.trans (kb.mono D.size)
  replace HA := HA.on kb
  replace hb1 := hb1.on kb
  replace HO := HO.on kb
  replace hb2 := hb2.on kb
  clear kb
  refine ⟨EC.val f1, rfl, ?_⟩
  simp only [Act.put, List.setIfInBounds_toArray, List.set_cons_zero, List.set_cons_succ]
  refine wl_call (o := ⟨_, _, _, _, _, _⟩) (by rfl) 30 _ _ rfl #[.int .i64 1] rfl (run_call Tryz.func30 (by kernel_rfl) (by kernel_rfl)) ?_
  refine (five_any 1 (by omega) (by omega) _).mono ?_
  rintro r v6 ⟨⟨f2, rfl, HF2⟩, kb⟩
  replace D := D.trans (kb.mono D.size)
  replace HA := HA.on kb
  replace hb1 := hb1.on kb
  replace HO := HO.on kb
  replace hb2 := hb2.on kb
  replace HF1 := HF1.on kb
  clear kb
  refine ⟨EC.val f2, rfl, ?_⟩
  simp only [Act.put, List.setIfInBounds_toArray, List.set_cons_zero, List.set_cons_succ]
  refine wl_row2X (o := ⟨_, _, _, _, _, _⟩) (by rfl) _ _ rfl rfl rfl HF1 HF2 (fun v7 pr HR2 kb => ?_)
  simp only [Act.put, List.setIfInBounds_toArray, List.set_cons_zero, List.set_cons_succ]
  replace D := D.trans (kb.mono D.size)
  replace HA := HA.on kb
  replace hb1 := hb1.on kb
  replace HO := HO.on kb
  replace hb2 := hb2.on kb
  replace HF1 := HF1.on kb
  replace HF2 := HF2.on kb
  clear kb
  refine wl_call (o := ⟨_, _, _, _, _, _⟩) (by rfl) 27 _ _ rfl #[.slice pr 2 2] rfl (run_call Tryz.func27 (by kernel_rfl) (by kernel_rfl)) ?_
  refine (c_and HR2 (by simp) cp2).mono ?_
  rintro r v8 ⟨⟨a2, rfl, HB⟩, kb⟩
  replace D := D.trans (kb.mono D.size)
  replace HA := HA.on kb
  replace hb1 := hb1.on kb
  replace HO := HO.on kb
  replace hb2 := hb2.on kb
  replace HF1 := HF1.on kb
  replace HF2 := HF2.on kb
  clear kb
  refine ⟨EC.val a2, rfl, ?_⟩
  simp only [Act.put, List.setIfInBounds_toArray, List.set_cons_zero, List.set_cons_succ]
  refine wl_call (o := ⟨_, _, _, _, _, _⟩) (by rfl) 25 _ _ rfl #[EC.val a2] rfl (run_call Tryz.func25 (by kernel_rfl) (by kernel_rfl)) ?_
  refine (c_not HB cp3).mono ?_
  rintro r v9 ⟨⟨n1, rfl, HN⟩, kb⟩
  replace D := D.trans (kb.mono D.size)
  replace HA := HA.on kb
  replace hb1 := hb1.on kb
  replace HO := HO.on kb
  replace hb2 := hb2.on kb
  replace HF1 := HF1.on kb
  replace HF2 := HF2.on kb
  replace HB := HB.on kb
  clear kb
  refine ⟨EC.val n1, rfl, ?_⟩
  simp only [Act.put, List.setIfInBounds_toArray, List.set_cons_zero, List.set_cons_succ]
  refine wl_call (o := ⟨_, _, _, _, _, _⟩) (by rfl) 12 _ _ rfl #[EC.val n1] rfl (run_call Tryz.func12 (by kernel_rfl) (by kernel_rfl)) ?_
  refine (dnfOf_any 3 _ xAw _ HN (by omega)).mono ?_
  rintro r v10 ⟨hq, kb⟩
  replace D := D.trans (kb.mono D.size)
  replace HA := HA.on kb
  replace hb1 := hb1.on kb
  replace HO := HO.on kb
  replace hb2 := hb2.on kb
  replace HF1 := HF1.on kb
  replace HF2 := HF2.on kb
  replace HB := HB.on kb
  replace HN := HN.on kb
  clear kb
  rw [aw_of3] at hq
  obtain ⟨u3, rfl, hb3, hn3⟩ := hq
  obtain ⟨p3, c3, rfl⟩ := hb3.sl
  refine ⟨.tuple #[.slice p3 2 c3, .int .i64 0], rfl, ?_⟩
  simp only [Act.put, List.setIfInBounds_toArray, List.set_cons_zero, List.set_cons_succ]
  refine wl_yield (o := ⟨_, _, _, _, _, _⟩) (.tuple #[.slice p3 2 c3, .int .i64 0]) (yl_move (by rfl) _ rfl _ rfl) ?_
  simp only [Act.put, List.setIfInBounds_toArray, List.set_cons_zero, List.set_cons_succ]
  refine wl_yield (o := ⟨_, _, _, _, _, _⟩) (.slice p3 2 c3) (yl_extract0 (by rfl) _ rfl _ _ rfl) ?_
  simp only [Act.put, List.setIfInBounds_toArray, List.set_cons_zero, List.set_cons_succ]
  refine wl_yield (o := ⟨_, _, _, _, _, _⟩) (.int .i64 0) (yl_extract1 (by rfl) _ rfl _ _ rfl) ?_
  simp only [Act.put, List.setIfInBounds_toArray, List.set_cons_zero, List.set_cons_succ]
  refine wl_yield (o := ⟨_, _, _, _, _, _⟩) (.slice p3 2 c3) (yl_assign (by rfl) _ rfl _ rfl) ?_
  simp only [Act.put, List.setIfInBounds_toArray, List.set_cons_zero, List.set_cons_succ]
  refine wl_yield (o := ⟨_, _, _, _, _, _⟩) (.int .i64 0) (yl_assign (by rfl) _ rfl _ rfl) ?_
  simp only [Act.put, List.setIfInBounds_toArray, List.set_cons_zero, List.set_cons_succ]
  refine wpList_nil ?_
  refine hK4 _ _ ?_
  clear hK4 K4
  refine wp_seq_k (fun K5 hK5 => ?_)
  refine wp_region_lit ?_
  refine wl_yield (o := ⟨_, _, _, _, _, _⟩) (EC.val ec0) (yl_zeroX (by rfl) rfl) ?_
  simp only [Act.put, List.setIfInBounds_toArray, List.set_cons_zero, List.set_cons_succ]
  refine wl_call (o := ⟨_, _, _, _, _, _⟩) (by rfl) 12 _ _ rfl #[EC.val ec0] rfl (run_call Tryz.func12 (by kernel_rfl) (by kernel_rfl)) ?_
  refine (dnfOf_any 1 _ noX _ (noX_at _) (by omega)).mono ?_
  rintro r v11 ⟨hq, kb⟩
  replace D := D.trans (kb.mono D.size)
  replace HA := HA.on kb
  replace hb1 := hb1.on kb
  replace HO := HO.on kb
  replace hb2 := hb2.on kb
  replace HF1 := HF1.on kb
  replace HF2 := HF2.on kb
  replace HB := HB.on kb
  replace HN := HN.on kb
  replace hb3 := hb3.on kb
  clear kb
  rw [aw_of4] at hq
  obtain ⟨u4, rfl, hb4, hn4⟩ := hq
  obtain ⟨p4, c4, rfl⟩ := hb4.sl
  refine ⟨.tuple #[.slice p4 0 c4, .int .i64 2], rfl, ?_⟩
  simp only [Act.put, List.setIfInBounds_toArray, List.set_cons_zero, List.set_cons_succ]
  refine wl_yield (o := ⟨_, _, _, _, _, _⟩) (.tuple #[.slice p4 0 c4, .int .i64 2]) (yl_move (by rfl) _ rfl _ rfl) ?_
  simp only [Act.put, List.setIfInBounds_toArray, List.set_cons_zero, List.set_cons_succ]
  refine wl_yield (o := ⟨_, _, _, _, _, _⟩) (.slice p4 0 c4) (yl_extract0 (by rfl) _ rfl _ _ rfl) ?_
  simp only [Act.put, List.setIfInBounds_toArray, List.set_cons_zero, List.set_cons_succ]
  refine wl_yield (o := ⟨_, _, _, _, _, _⟩) (.int .i64 2) (yl_extract1 (by rfl) _ rfl _ _ rfl) ?_
  simp only [Act.put, List.setIfInBounds_toArray, List.set_cons_zero, List.set_cons_succ]
  refine wl_yield (o := ⟨_, _, _, _, _, _⟩) (.slice p4 0 c4) (yl_assign (by rfl) _ rfl _ rfl) ?_
  simp only [Act.put, List.setIfInBounds_toArray, List.set_cons_zero, List.set_cons_succ]
  refine wl_yield (o := ⟨_, _, _, _, _, _⟩) (.int .i64 2) (yl_assign (by rfl) _ rfl _ rfl) ?_
  simp only [Act.put, List.setIfInBounds_toArray, List.set_cons_zero, List.set_cons_succ]
  refine wpList_nil ?_
  refine hK5 _ _ ?_
  clear hK5 K5
  refine wp_seq_k (fun K6 hK6 => ?_)
  refine wp_region_lit ?_
  refine wl_yield (o := ⟨_, _, _, _, _, _⟩) (.slice p1 1 c1) (yl_move (by rfl) _ rfl _ rfl) ?_
  simp only [Act.put, List.setIfInBounds_toArray, List.set_cons_zero, List.set_cons_succ]
  refine wl_yield (o := ⟨_, _, _, _, _, _⟩) (.int .i64 1) (yl_lenF (by rfl) _ rfl _ _ _ rfl) ?_
  simp only [Act.put, List.setIfInBounds_toArray, List.set_cons_zero, List.set_cons_succ]
  refine wl_yield (o := ⟨_, _, _, _, _, _⟩) (.bool true) (yl_eqlI (by rfl) _ _ _ rfl (1) (1) true rfl rfl (by decide)) ?_
  simp only [Act.put, List.setIfInBounds_toArray, List.set_cons_zero, List.set_cons_succ]
  refine wl_yield (o := ⟨_, _, _, _, _, _⟩) (.bool true) (yl_move (by rfl) _ rfl _ rfl) ?_
  simp only [Act.put, List.setIfInBounds_toArray, List.set_cons_zero, List.set_cons_succ]
  refine wl_yield (o := ⟨_, _, _, _, _, _⟩) (.int .i64 0) (yl_move (by rfl) _ rfl _ rfl) ?_
  simp only [Act.put, List.setIfInBounds_toArray, List.set_cons_zero, List.set_cons_succ]
  refine wl_yield (o := ⟨_, _, _, _, _, _⟩) (.bool true) (yl_eqE (by rfl) _ _ _ rfl (0) (0) true rfl rfl (by decide)) ?_
  simp only [Act.put, List.setIfInBounds_toArray, List.set_cons_zero, List.set_cons_succ]
  refine wl_yield (o := ⟨_, _, _, _, _, _⟩) (.bool true) (yl_pickT (by rfl) _ _ _ rfl rfl _ rfl) ?_
  simp only [Act.put, List.setIfInBounds_toArray, List.set_cons_zero, List.set_cons_succ]
  refine wl_yield (o := ⟨_, _, _, _, _, _⟩) (.bool true) (yl_move (by rfl) _ rfl _ rfl) ?_
  simp only [Act.put, List.setIfInBounds_toArray, List.set_cons_zero, List.set_cons_succ]
  refine wl_yield (o := ⟨_, _, _, _, _, _⟩) (.slice p2 0 c2) (yl_move (by rfl) _ rfl _ rfl) ?_
  simp only [Act.put, List.setIfInBounds_toArray, List.set_cons_zero, List.set_cons_succ]
  refine wl_yield (o := ⟨_, _, _, _, _, _⟩) (.int .i64 0) (yl_lenF (by rfl) _ rfl _ _ _ rfl) ?_
  simp only [Act.put, List.setIfInBounds_toArray, List.set_cons_zero, List.set_cons_succ]
  refine wl_yield (o := ⟨_, _, _, _, _, _⟩) (.bool true) (yl_eqlI (by rfl) _ _ _ rfl (0) (0) true rfl rfl (by decide)) ?_
  simp only [Act.put, List.setIfInBounds_toArray, List.set_cons_zero, List.set_cons_succ]
  refine wl_yield (o := ⟨_, _, _, _, _, _⟩) (.bool true) (yl_pickT (by rfl) _ _ _ rfl rfl _ rfl) ?_
  simp only [Act.put, List.setIfInBounds_toArray, List.set_cons_zero, List.set_cons_succ]
  refine wl_yield (o := ⟨_, _, _, _, _, _⟩) (.bool true) (yl_move (by rfl) _ rfl _ rfl) ?_
  simp only [Act.put, List.setIfInBounds_toArray, List.set_cons_zero, List.set_cons_succ]
  refine wl_yield (o := ⟨_, _, _, _, _, _⟩) (.int .i64 0) (yl_move (by rfl) _ rfl _ rfl) ?_
  simp only [Act.put, List.setIfInBounds_toArray, List.set_cons_zero, List.set_cons_succ]
  refine wl_yield (o := ⟨_, _, _, _, _, _⟩) (.bool true) (yl_eqE (by rfl) _ _ _ rfl (0) (0) true rfl rfl (by decide)) ?_
  simp only [Act.put, List.setIfInBounds_toArray, List.set_cons_zero, List.set_cons_succ]
  refine wl_yield (o := ⟨_, _, _, _, _, _⟩) (.bool true) (yl_pickT (by rfl) _ _ _ rfl rfl _ rfl) ?_
  simp only [Act.put, List.setIfInBounds_toArray, List.set_cons_zero, List.set_cons_succ]
  refine wl_yield (o := ⟨_, _, _, _, _, _⟩) (.bool true) (yl_move (by rfl) _ rfl _ rfl) ?_
  simp only [Act.put, List.setIfInBounds_toArray, List.set_cons_zero, List.set_cons_succ]
  refine wl_yield (o := ⟨_, _, _, _, _, _⟩) (.slice p3 2 c3) (yl_move (by rfl) _ rfl _ rfl) ?_
  simp only [Act.put, List.setIfInBounds_toArray, List.set_cons_zero, List.set_cons_succ]
  refine wl_yield (o := ⟨_, _, _, _, _, _⟩) (.int .i64 2) (yl_lenF (by rfl) _ rfl _ _ _ rfl) ?_
  simp only [Act.put, List.setIfInBounds_toArray, List.set_cons_zero, List.set_cons_succ]
  refine wl_yield (o := ⟨_, _, _, _, _, _⟩) (.bool true) (yl_eqlI (by rfl) _ _ _ rfl (2) (2) true rfl rfl (by decide)) ?_
  simp only [Act.put, List.setIfInBounds_toArray, List.set_cons_zero, List.set_cons_succ]
  refine wl_yield (o := ⟨_, _, _, _, _, _⟩) (.bool true) (yl_pickT (by rfl) _ _ _ rfl rfl _ rfl) ?_
  simp only [Act.put, List.setIfInBounds_toArray, List.set_cons_zero, List.set_cons_succ]
  refine wl_yield (o := ⟨_, _, _, _, _, _⟩) (.bool true) (yl_move (by rfl) _ rfl _ rfl) ?_
  simp only [Act.put, List.setIfInBounds_toArray, List.set_cons_zero, List.set_cons_succ]
  refine wl_yield (o := ⟨_, _, _, _, _, _⟩) (.int .i64 0) (yl_move (by rfl) _ rfl _ rfl) ?_
  simp only [Act.put, List.setIfInBounds_toArray, List.set_cons_zero, List.set_cons_succ]
  refine wl_yield (o := ⟨_, _, _, _, _, _⟩) (.bool true) (yl_eqE (by rfl) _ _ _ rfl (0) (0) true rfl rfl (by decide)) ?_
  simp only [Act.put, List.setIfInBounds_toArray, List.set_cons_zero, List.set_cons_succ]
  refine wl_yield (o := ⟨_, _, _, _, _, _⟩) (.bool true) (yl_pickT (by rfl) _ _ _ rfl rfl _ rfl) ?_
  simp only [Act.put, List.setIfInBounds_toArray, List.set_cons_zero, List.set_cons_succ]
  refine wl_yield (o := ⟨_, _, _, _, _, _⟩) (.bool true) (yl_move (by rfl) _ rfl _ rfl) ?_
  simp only [Act.put, List.setIfInBounds_toArray, List.set_cons_zero, List.set_cons_succ]
  refine wl_yield (o := ⟨_, _, _, _, _, _⟩) (.int .i64 2) (yl_move (by rfl) _ rfl _ rfl) ?_
  simp only [Act.put, List.setIfInBounds_toArray, List.set_cons_zero, List.set_cons_succ]
  refine wl_yield (o := ⟨_, _, _, _, _, _⟩) (.bool true) (yl_eqE (by rfl) _ _ _ rfl (2) (2) true rfl rfl (by decide)) ?_
  simp only [Act.put, List.setIfInBounds_toArray, List.set_cons_zero, List.set_cons_succ]
  refine wl_yield (o := ⟨_, _, _, _, _, _⟩) (.bool true) (yl_pickT (by rfl) _ _ _ rfl rfl _ rfl) ?_
  simp only [Act.put, List.setIfInBounds_toArray, List.set_cons_zero, List.set_cons_succ]
  refine wl_yield (o := ⟨_, _, _, _, _, _⟩) (.bool true) (yl_move (by rfl) _ rfl _ rfl) ?_
  simp only [Act.put, List.setIfInBounds_toArray, List.set_cons_zero, List.set_cons_succ]
  refine wl_yield (o := ⟨_, _, _, _, _, _⟩) (.slice p3 2 c3) (yl_move (by rfl) _ rfl _ rfl) ?_
  simp only [Act.put, List.setIfInBounds_toArray, List.set_cons_zero, List.set_cons_succ]
  refine wl_yield (o := ⟨_, _, _, _, _, _⟩) (evVal evZ) (yl_zeroE (by rfl) rfl) ?_
  simp only [Act.put, List.setIfInBounds_toArray, List.set_cons_zero, List.set_cons_succ]
  refine wl_call (o := ⟨_, _, _, _, _, _⟩) (by rfl) 15 _ _ rfl #[.slice p3 2 c3, evVal evZ] rfl (run_call Tryz.func15 (by kernel_rfl) (by kernel_rfl)) ?_
  refine (progHas_any _ lAw evZ _ hb3 aw_fl3 evZ_fit evZ_in).mono ?_
  rintro r v12 ⟨rfl, kb⟩
  replace D := D.trans (kb.mono D.size)
  replace HA := HA.on kb
  replace hb1 := hb1.on kb
  replace HO := HO.on kb
  replace hb2 := hb2.on kb
  replace HF1 := HF1.on kb
  replace HF2 := HF2.on kb
  replace HB := HB.on kb
  replace HN := HN.on kb
  replace hb3 := hb3.on kb
  replace hb4 := hb4.on kb
  clear kb
  refine ⟨.bool true, ret_bool aw_h1, ?_⟩
  simp only [Act.put, List.setIfInBounds_toArray, List.set_cons_zero, List.set_cons_succ]
  refine wl_yield (o := ⟨_, _, _, _, _, _⟩) (.bool true) (yl_pickT (by rfl) _ _ _ rfl rfl _ rfl) ?_
  simp only [Act.put, List.setIfInBounds_toArray, List.set_cons_zero, List.set_cons_succ]
  refine wl_yield (o := ⟨_, _, _, _, _, _⟩) (.bool true) (yl_move (by rfl) _ rfl _ rfl) ?_
  simp only [Act.put, List.setIfInBounds_toArray, List.set_cons_zero, List.set_cons_succ]
  refine wl_yield (o := ⟨_, _, _, _, _, _⟩) (.slice p1 1 c1) (yl_move (by rfl) _ rfl _ rfl) ?_
  simp only [Act.put, List.setIfInBounds_toArray, List.set_cons_zero, List.set_cons_succ]
  refine wl_yield (o := ⟨_, _, _, _, _, _⟩) (evVal evZ) (yl_zeroE (by rfl) rfl) ?_
  simp only [Act.put, List.setIfInBounds_toArray, List.set_cons_zero, List.set_cons_succ]
  refine wl_call (o := ⟨_, _, _, _, _, _⟩) (by rfl) 15 _ _ rfl #[.slice p1 1 c1, evVal evZ] rfl (run_call Tryz.func15 (by kernel_rfl) (by kernel_rfl)) ?_
  refine (progHas_any _ [allBx] evZ _ hb1 aw_fl1 evZ_fit evZ_in).mono ?_
  rintro r v13 ⟨rfl, kb⟩
  replace D := D.trans (kb.mono D.size)
  replace HA := HA.on kb
  replace hb1 := hb1.on kb
  replace HO := HO.on kb
  replace hb2 := hb2.on kb
  replace HF1 := HF1.on kb
  replace HF2 := HF2.on kb
  replace HB := HB.on kb
  replace HN := HN.on kb
  replace hb3 := hb3.on kb
  replace hb4 := hb4.on kb
  clear kb
  refine ⟨.bool true, ret_bool aw_h2, ?_⟩
  simp only [Act.put, List.setIfInBounds_toArray, List.set_cons_zero, List.set_cons_succ]
  refine wl_yield (o := ⟨_, _, _, _, _, _⟩) (.bool true) (yl_pickT (by rfl) _ _ _ rfl rfl _ rfl) ?_
  simp only [Act.put, List.setIfInBounds_toArray, List.set_cons_zero, List.set_cons_succ]
  refine wl_yield (o := ⟨_, _, _, _, _, _⟩) (.bool true) (yl_move (by rfl) _ rfl _ rfl) ?_
  simp only [Act.put, List.setIfInBounds_toArray, List.set_cons_zero, List.set_cons_succ]
  refine wl_yield (o := ⟨_, _, _, _, _, _⟩) (.slice p3 2 c3) (yl_move (by rfl) _ rfl _ rfl) ?_
  simp only [Act.put, List.setIfInBounds_toArray, List.set_cons_zero, List.set_cons_succ]
  refine wl_yield (o := ⟨_, _, _, _, _, _⟩) (.agg #[.int .i64 1, .int .i64 5, .string ⟨#[]⟩]) (yl_val5 (by rfl) rfl) ?_
  simp only [Act.put, List.setIfInBounds_toArray, List.set_cons_zero, List.set_cons_succ]
  refine wl_yield (o := ⟨_, _, _, _, _, _⟩) (.agg #[.int .i64 1, .int .i64 5, .string ⟨#[]⟩]) (yl_val5 (by rfl) rfl) ?_
  simp only [Act.put, List.setIfInBounds_toArray, List.set_cons_zero, List.set_cons_succ]
  refine wl_yield (o := ⟨_, _, _, _, _, _⟩) (evVal eAw) (yl_ev16 (by rfl) _ _ rfl rfl rfl) ?_
  simp only [Act.put, List.setIfInBounds_toArray, List.set_cons_zero, List.set_cons_succ]
  refine wl_call (o := ⟨_, _, _, _, _, _⟩) (by rfl) 15 _ _ rfl #[.slice p3 2 c3, evVal eAw] rfl (run_call Tryz.func15 (by kernel_rfl) (by kernel_rfl)) ?_
  refine (progHas_any _ lAw eAw _ hb3 aw_fl3 evAw_fit evAw_in).mono ?_
  rintro r v14 ⟨rfl, kb⟩
  replace D := D.trans (kb.mono D.size)
  replace HA := HA.on kb
  replace hb1 := hb1.on kb
  replace HO := HO.on kb
  replace hb2 := hb2.on kb
  replace HF1 := HF1.on kb
  replace HF2 := HF2.on kb
  replace HB := HB.on kb
  replace HN := HN.on kb
  replace hb3 := hb3.on kb
  replace hb4 := hb4.on kb
  clear kb
  refine ⟨.bool false, ret_bool aw_h3, ?_⟩
  simp only [Act.put, List.setIfInBounds_toArray, List.set_cons_zero, List.set_cons_succ]
  refine wl_yield (o := ⟨_, _, _, _, _, _⟩) (.bool true) (yl_not (by rfl) _ _ rfl false rfl) ?_
  simp only [Act.put, List.setIfInBounds_toArray, List.set_cons_zero, List.set_cons_succ]
  refine wl_yield (o := ⟨_, _, _, _, _, _⟩) (.bool true) (yl_pickT (by rfl) _ _ _ rfl rfl _ rfl) ?_
  simp only [Act.put, List.setIfInBounds_toArray, List.set_cons_zero, List.set_cons_succ]
  refine wl_yield (o := ⟨_, _, _, _, _, _⟩) (.bool true) (yl_assign (by rfl) _ rfl _ rfl) ?_
  simp only [Act.put, List.setIfInBounds_toArray, List.set_cons_zero, List.set_cons_succ]
  refine wpList_nil ?_
  refine hK6 _ _ ?_
  clear hK6 K6
  refine wp_ret ?_
  go_ret
  exact ⟨rfl, D⟩
end Go.Proofs.YtlfhpocfacaaeaaGreat
/-
  What a filter has, in the laws' words.
-/
set_option linter.unusedSimpArgs false
set_option linter.unusedVariables false
namespace Go.Proofs.YtlfhpocfacaaeaaGreat
open Go.RowKit

theorem ofF_zero {x : ExV} (h0 : (ofF x).2 = 0) : ∃ l, rightX x = true ∧ boxesX 8 x false = some l ∧ rightF l = true ∧ ofF x = (l, 0) := by
  cases hr : rightX x
  · rw [ofF_wrong hr] at h0; cases h0
  · cases ey : boxesX 8 x false with
    | none => rw [ofF_none hr ey] at h0; cases h0
    | some l =>
      cases hf : rightF l
      · rw [ofF_big hr ey hf] at h0; cases h0
      · exact ⟨l, rfl, rfl, hf, ofF_ok hr ey hf⟩
theorem ofF_err {x : ExV} (h0 : ¬ (ofF x).2 = 0) : (ofF x).1 = [] := by
  cases hr : rightX x
  · rw [ofF_wrong hr]
  · cases ey : boxesX 8 x false with
    | none => rw [ofF_none hr ey]
    | some l =>
      cases hf : rightF l
      · rw [ofF_big hr ey hf]
      · rw [ofF_ok hr ey hf] at h0; exact absurd rfl h0
/-- A filter has just the events of which its expression is so. -/
theorem ofF_has {n : Nat} {w : World} {c : EC} {x : ExV} (hx : Xp n w c x) (h0 : (ofF x).2 = 0) {e : EvV} (he : inE e) : rightX x = true ∧ hasL (ofF x).1 e = evalX x e := by
  obtain ⟨l, hr, ey, _, e1⟩ := ofF_zero h0
  rw [e1]
  exact ⟨hr, boxes_eval hr (ExAt.i64 8 (ExAt.shrink n 8 hx (rightX_low hr))) ey he⟩
theorem dnfOf_has (n : Nat) (c : EC) (x : ExV) (w : World) (hx : Xp n w c x) (hn : n ≤ 1000) :
    Calls Tryz.prog 12 #[c.val] w fun r w' => (∃ (l : List BoxV) (z : Int) (p : Option Addr) (k : Nat), r = .returned (.tuple #[.slice p l.length k, .int .i64 z]) ∧ Bxs w' (.slice p l.length k) l ∧ FitL l ∧ (z = 0 → rightX x = true ∧ ∀ e, inE e → hasL l e = evalX x e) ∧ (¬ z = 0 → l = []) ∧ (l, z) = ofF x) ∧ Below w.heap.size w w' := by
  refine (dnfOf_any n c x w hx hn).mono ?_
  rintro r w' ⟨⟨u, rfl, hb, hnl⟩, kb⟩
  have fl := ofF_fit hb
  obtain ⟨p, k, rfl⟩ := hb.sl
  exact ⟨⟨_, _, p, k, rfl, hb, fl, fun h => ⟨(by obtain ⟨_, h1, _⟩ := ofF_zero h; exact h1), fun e he => (ofF_has hx h he).2⟩, ofF_err, rfl⟩, kb⟩
end Go.Proofs.YtlfhpocfacaaeaaGreat
/-
  What the closings of the third layer share: a row of ranges and a value, opened from their readings.
-/
set_option linter.unusedSimpArgs false
set_option linter.unusedVariables false
namespace Go.Proofs.YtlfhpocfacaaeaaGreat
open Go.ChangeShapes Go.WideShapes Go.ChangeAt Go.WideMaps Go.WideElems Go.RowKit Go.Joins

theorem cellsVal : Tryz.prog.cellsOf 40 = 3 := by kernel_rfl
section
variable {H : Type} {enc : TypeId × Value → H} {W : World} {base : Nat} {sp : Nat → Bool} {held : Bool}
end
section
variable {H : Type} {enc : TypeId × Value → H} {W : World}
end
end Go.Proofs.YtlfhpocfacaaeaaGreat
/-
  An event opened from its reading.
-/
set_option linter.unusedSimpArgs false
set_option linter.unusedVariables false
namespace Go.Proofs.YtlfhpocfacaaeaaGreat
open Go.Deep Go.ChangeShapes Go.WideShapes Go.ChangeAt Go.WideMaps Go.WideElems Go.RowKit Go.Joins

theorem cut3 {α : Type} (k : Nat) {l : List α} (h : l.length = k + 3) : ∃ a b c r, l = a :: b :: c :: r ∧ r.length = k := by
  cases l with
  | nil => simp at h
  | cons a l => cases l with
    | nil => simp at h
    | cons b l => cases l with
      | nil => simp at h
      | cons c l => exact ⟨a, b, c, l, rfl, by simpa using h⟩
theorem okWide_array {P : Program} {w : World} {r : Reach} {base : Nat} {t : TypeId} {v : Value} {n : Nat} {e : TypeId} (ht : P.underlying t = some (.array n e)) (h : Value.okWide P w r base t v) : ∃ cs, v = .agg cs ∧ cs.size = P.cellsOf t := by
  simp only [Value.okWide, ht] at h
  obtain ⟨cs, h1, h2, _⟩ := h
  exact ⟨cs, h1, h2⟩
theorem cellsEv : Tryz.prog.cellsOf 42 = 12 := by kernel_rfl
section
variable {H : Type} {enc : TypeId × Value → H} {W : World}
set_option maxRecDepth 100000 in
theorem open_cells {m : Nat} {c0 c1 c2 : Value} {y : DataW H × List MemPlace} (h : DataW.trod enc Tryz.prog W 0 (fun _ => true) true m 40 [c0, c1, c2] = some y) :
    ∃ (k n : Int) (s : ByteArray), c0 = .int .i64 k ∧ c1 = .int .i64 n ∧ c2 = .string s ∧ (Lit.int .i64 n).wf = true ∧ s.size ≤ maxLen := by
  obtain ⟨y0, y1, y2, m', rfl, _, h0, h1, h2⟩ := trod_struct3 Tryz.underlying40 h
  simp only [cellsI, cellsS] at h0 h1 h2
  obtain ⟨k, e0, rfl, wk⟩ := DataW.trod_int Tryz.underlying3 h0
  obtain ⟨n, e1, rfl, wn⟩ := DataW.trod_int Tryz.underlying3 h1
  obtain ⟨s, e2, rfl, ws⟩ := DataW.trod_string Tryz.underlying9 h2
  simp at e0 e1 e2
  subst e0 e1 e2
  exact ⟨k, n, s, rfl, rfl, rfl, wn, ws⟩
set_option maxRecDepth 100000 in
theorem open_evA {r : Reach} {b0 : Nat} {v : Value} {d : DataW H} {p : List MemPlace} (hv : Value.okWide Tryz.prog W r b0 42 v) (h : DataW.Trod enc Tryz.prog W 0 (fun _ => true) true 42 v d p) :
    ∃ e : EvV, v = evVal e ∧ evFit e ∧ inE e := by
  obtain ⟨cs, rfl, hsz⟩ := okWide_array Tryz.underlying42 hv
  rw [cellsEv] at hsz
  obtain ⟨l⟩ := cs
  obtain ⟨a0, a1, a2, l1, rfl, q1⟩ := cut3 9 (show l.length = 9 + 3 from hsz)
  obtain ⟨b0, b1, b2, l2, rfl, q2⟩ := cut3 6 q1
  obtain ⟨c0, c1, c2, l3, rfl, q3⟩ := cut3 3 q2
  obtain ⟨d0, d1, d2, l4, rfl, q4⟩ := cut3 0 q3
  obtain rfl : l4 = [] := List.length_eq_zero_iff.1 q4
  obtain ⟨fuel, hf⟩ := h
  obtain ⟨xs, m, _, hx, _, hlen, he⟩ := DataW.trod_array Tryz.underlying42 hf
  simp only [cellsVal, Value.cells] at he
  have g0 := he 0 (by omega)
  have g1 := he 1 (by omega)
  have g2 := he 2 (by omega)
  have g3 := he 3 (by omega)
  match xs, hlen with
  | [y0, y1, y2, y3], _ =>
    simp at g0 g1 g2 g3
    obtain ⟨k0, n0, s0, rfl, rfl, rfl, w1, w2⟩ := open_cells g0
    obtain ⟨k1, n1, s1, rfl, rfl, rfl, w4, w5⟩ := open_cells g1
    obtain ⟨k2, n2, s2, rfl, rfl, rfl, w7, w8⟩ := open_cells g2
    obtain ⟨k3, n3, s3, rfl, rfl, rfl, w10, w11⟩ := open_cells g3
    refine ⟨⟨(k0, n0, s0), (k1, n1, s1), (k2, n2, s2), (k3, n3, s3)⟩, rfl, ⟨w2, w5, w8, w11⟩, fun i hi => ?_⟩
    match i, hi with
    | 0, _ => exact bounds_i64 w1
    | 1, _ => exact bounds_i64 w4
    | 2, _ => exact bounds_i64 w7
    | 3, _ => exact bounds_i64 w10
end
end Go.Proofs.YtlfhpocfacaaeaaGreat
