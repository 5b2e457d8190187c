/-
  The program's Of.
-/
import Derived.Test.YtlfhpocfacaaeaaGreatQ5
import Derived.Test.YtlfhpocfacaaeaaGreatQ4
import Derived.Test.YtlfhpocfacaaeaaGreatQ1
import Derived.Lib.SmallJoins
import Derived.Deep.Strs
set_option linter.unusedSimpArgs false
set_option linter.unusedVariables false
namespace Go.Proofs.YtlfhpocfacaaeaaGreat
open Go.RowKit

/-- An expression's filter, and what went wrong. -/
def ofF (x : ExV) : List BoxV × Int := if rightX x then (match boxesX 8 x false with | none => ([], 4) | some l => if rightF l then (l, 0) else ([], 4)) else ([], 2)
theorem ofF_wrong {x : ExV} (h : rightX x = false) : ofF x = ([], 2) := by unfold ofF; rw [h]; rfl
theorem ofF_none {x : ExV} (h : rightX x = true) (e : boxesX 8 x false = none) : ofF x = ([], 4) := by unfold ofF; rw [h, e]; rfl
theorem ofF_big {x : ExV} {l : List BoxV} (h : rightX x = true) (e : boxesX 8 x false = some l) (q : rightF l = false) : ofF x = ([], 4) := by unfold ofF; rw [h, e]; dsimp only; rw [q]; rfl
theorem ofF_ok {x : ExV} {l : List BoxV} (h : rightX x = true) (e : boxesX 8 x false = some l) (q : rightF l = true) : ofF x = (l, 0) := by unfold ofF; rw [h, e]; dsimp only; rw [q]; rfl
set_option maxHeartbeats 4000000 in
set_option maxRecDepth 100000 in
theorem dnfOf_any (n : Nat) (c : EC) (x : ExV) (w : World) (hx : Xp n w c x) (hn : n ≤ 1000) :
    Calls Tryz.prog 12 #[c.val] w fun r w' => (∃ u, r = .returned (.tuple #[u, .int .i64 (ofF x).2]) ∧ Bxs w' u (ofF x).1 ∧ nilOk u) ∧ Below w.heap.size w w' := by
  have D := Below.refl w.heap.size w
  go_enter Tryz.func12, Tryz.ntmps12
  refine wp_seq_k (fun K1 hK1 => ?_)
  refine wp_region_lit ?_
  refine wl_boxEx (o := ⟨_, _, _, _, _, _⟩) (by rfl) _ rfl rfl (fun v1 gb1 HX kb => ?_)
  simp only [Act.put, List.setIfInBounds_toArray, List.set_cons_zero, List.set_cons_succ]
  replace D := D.trans (kb.mono D.size)
  replace hx := hx.on kb
  clear kb
  refine wl_yield (o := ⟨_, _, _, _, _, _⟩) (.slice none 0 0) (yl_assign (by rfl) _ rfl _ rfl) ?_
  simp only [Act.put, List.setIfInBounds_toArray, List.set_cons_zero, List.set_cons_succ]
  refine wl_yield (o := ⟨_, _, _, _, _, _⟩) (.int .i64 0) (yl_assign (by rfl) _ rfl _ rfl) ?_
  simp only [Act.put, List.setIfInBounds_toArray, List.set_cons_zero, List.set_cons_succ]
  refine wpList_nil ?_
  refine hK1 _ _ ?_
  clear hK1 K1
  refine wp_seq_k (fun K2 hK2 => ?_)
  refine wp_seq_k (fun K3 hK3 => ?_)
  refine wp_region_lit ?_
  refine wl_yield (o := ⟨_, _, _, _, _, _⟩) (EC.val c) (yl_ex (by rfl) _ rfl _ 0 rfl _ (fun _ h => by subst h; exact ExIn.ec HX)) ?_
  simp only [Act.put, List.setIfInBounds_toArray, List.set_cons_zero, List.set_cons_succ]
  refine wl_call (o := ⟨_, _, _, _, _, _⟩) (by rfl) 34 _ _ rfl #[EC.val c] rfl (run_call Tryz.func34 (by kernel_rfl) (by kernel_rfl)) ?_
  refine (c_right hx hn).mono ?_
  rintro r v2 ⟨rfl, kb⟩
  replace D := D.trans (kb.mono D.size)
  replace hx := hx.on kb
  replace HX := HX.on kb
  clear kb
  cases hr : rightX x
  · refine ⟨.bool false, rfl, ?_⟩
    simp only [Act.put, List.setIfInBounds_toArray, List.set_cons_zero, List.set_cons_succ]
    refine wl_yield (o := ⟨_, _, _, _, _, _⟩) (.bool true) (yl_not (by rfl) _ _ rfl false rfl) ?_
    simp only [Act.put, List.setIfInBounds_toArray, List.set_cons_zero, List.set_cons_succ]
    refine wpList_nil ?_
    refine hK3 _ _ ?_
    clear hK3 K3
    refine wp_cond_true rfl ?_
    refine wp_seq_k (fun K4 hK4 => ?_)
    refine wp_region_lit ?_
    refine wl_yield (o := ⟨_, _, _, _, _, _⟩) (.slice none 0 0) (yl_assign (by rfl) _ rfl _ rfl) ?_
    simp only [Act.put, List.setIfInBounds_toArray, List.set_cons_zero, List.set_cons_succ]
    refine wl_yield (o := ⟨_, _, _, _, _, _⟩) (.int .i64 2) (yl_assign (by rfl) _ rfl _ rfl) ?_
    simp only [Act.put, List.setIfInBounds_toArray, List.set_cons_zero, List.set_cons_succ]
    refine wpList_nil ?_
    refine hK4 _ _ ?_
    clear hK4 K4
    refine wp_ret ?_
    try simp only [Exit.inBlock, Exit.then]
    refine bodyPost_ret (results_tmp2 rfl _ _ _) rfl ?_
    exact ⟨by rw [ofF_wrong hr]; exact ⟨_, rfl, bxs_nil _, nil_none⟩, D⟩
  · refine ⟨.bool true, rfl, ?_⟩
    simp only [Act.put, List.setIfInBounds_toArray, List.set_cons_zero, List.set_cons_succ]
    refine wl_yield (o := ⟨_, _, _, _, _, _⟩) (.bool false) (yl_not (by rfl) _ _ rfl true rfl) ?_
    simp only [Act.put, List.setIfInBounds_toArray, List.set_cons_zero, List.set_cons_succ]
    refine wpList_nil ?_
    refine hK3 _ _ ?_
    clear hK3 K3
    refine wp_cond_false rfl ?_
    refine wp_skip ?_
    refine hK2 _ _ ?_
    clear hK2 K2
    refine wp_seq_k (fun K4 hK4 => ?_)
    refine wp_region_lit ?_
    refine wl_yield (o := ⟨_, _, _, _, _, _⟩) (EC.val c) (yl_ex (by rfl) _ rfl _ 0 rfl _ (fun _ h => by subst h; exact ExIn.ec HX)) ?_
    simp only [Act.put, List.setIfInBounds_toArray, List.set_cons_zero, List.set_cons_succ]
    refine wl_call (o := ⟨_, _, _, _, _, _⟩) (by rfl) 35 _ _ rfl #[EC.val c, .bool false] rfl (run_call Tryz.func35 (by kernel_rfl) (by kernel_rfl)) ?_
    refine (boxesOf_any 8 c x false _ (ExAt.shrink n 8 hx (rightX_low hr)) (right_parts hr).2 (right_parts hr).1).mono ?_
    rintro r v3 ⟨hq, kb⟩
    replace D := D.trans (kb.mono D.size)
    replace hx := hx.on kb
    replace HX := HX.on kb
    clear kb
    cases ey : boxesX 8 x false
    · rw [ey] at hq
      obtain rfl : r = .returned (.tuple #[.slice none 0 0, .bool false]) := hq
      refine ⟨.tuple #[.slice none 0 0, .bool false], rfl, ?_⟩
      simp only [Act.put, List.setIfInBounds_toArray, List.set_cons_zero, List.set_cons_succ]
      refine wl_yield (o := ⟨_, _, _, _, _, _⟩) (.tuple #[.slice none 0 0, .bool false]) (yl_move (by rfl) _ rfl _ rfl) ?_
      simp only [Act.put, List.setIfInBounds_toArray, List.set_cons_zero, List.set_cons_succ]
      refine wl_yield (o := ⟨_, _, _, _, _, _⟩) (.slice none 0 0) (yl_extract0 (by rfl) _ rfl _ _ rfl) ?_
      simp only [Act.put, List.setIfInBounds_toArray, List.set_cons_zero, List.set_cons_succ]
      refine wl_yield (o := ⟨_, _, _, _, _, _⟩) (.bool false) (yl_extract1 (by rfl) _ rfl _ _ rfl) ?_
      simp only [Act.put, List.setIfInBounds_toArray, List.set_cons_zero, List.set_cons_succ]
      refine wl_yield (o := ⟨_, _, _, _, _, _⟩) (.slice none 0 0) (yl_assign (by rfl) _ rfl _ rfl) ?_
      simp only [Act.put, List.setIfInBounds_toArray, List.set_cons_zero, List.set_cons_succ]
      refine wl_yield (o := ⟨_, _, _, _, _, _⟩) (.bool false) (yl_assign (by rfl) _ rfl _ rfl) ?_
      simp only [Act.put, List.setIfInBounds_toArray, List.set_cons_zero, List.set_cons_succ]
      refine wpList_nil ?_
      refine hK4 _ _ ?_
      clear hK4 K4
      refine wp_seq_k (fun K5 hK5 => ?_)
      refine wp_seq_k (fun K6 hK6 => ?_)
      refine wp_region_lit ?_
      refine wl_yield (o := ⟨_, _, _, _, _, _⟩) (.bool false) (yl_move (by rfl) _ rfl _ rfl) ?_
      simp only [Act.put, List.setIfInBounds_toArray, List.set_cons_zero, List.set_cons_succ]
      refine wl_yield (o := ⟨_, _, _, _, _, _⟩) (.bool true) (yl_not (by rfl) _ _ rfl false rfl) ?_
      simp only [Act.put, List.setIfInBounds_toArray, List.set_cons_zero, List.set_cons_succ]
      refine wl_yield (o := ⟨_, _, _, _, _, _⟩) (.bool true) (yl_move (by rfl) _ rfl _ rfl) ?_
      simp only [Act.put, List.setIfInBounds_toArray, List.set_cons_zero, List.set_cons_succ]
      refine wl_yield (o := ⟨_, _, _, _, _, _⟩) undef (yl_undef (by rfl)) ?_
      simp only [Act.put, List.setIfInBounds_toArray, List.set_cons_zero, List.set_cons_succ]
      refine wl_yield (o := ⟨_, _, _, _, _, _⟩) undef (yl_undef (by rfl)) ?_
      simp only [Act.put, List.setIfInBounds_toArray, List.set_cons_zero, List.set_cons_succ]
      refine wl_yield (o := ⟨_, _, _, _, _, _⟩) undef (yl_undef (by rfl)) ?_
      simp only [Act.put, List.setIfInBounds_toArray, List.set_cons_zero, List.set_cons_succ]
      refine wl_yield (o := ⟨_, _, _, _, _, _⟩) (.bool true) (yl_pickT (by rfl) _ _ _ rfl rfl _ rfl) ?_
      simp only [Act.put, List.setIfInBounds_toArray, List.set_cons_zero, List.set_cons_succ]
      refine wpList_nil ?_
      refine hK6 _ _ ?_
      clear hK6 K6
      refine wp_cond_true rfl ?_
      refine wp_seq_k (fun K7 hK7 => ?_)
      refine wp_region_lit ?_
      refine wl_yield (o := ⟨_, _, _, _, _, _⟩) (.slice none 0 0) (yl_assign (by rfl) _ rfl _ rfl) ?_
      simp only [Act.put, List.setIfInBounds_toArray, List.set_cons_zero, List.set_cons_succ]
      refine wl_yield (o := ⟨_, _, _, _, _, _⟩) (.int .i64 4) (yl_assign (by rfl) _ rfl _ rfl) ?_
      simp only [Act.put, List.setIfInBounds_toArray, List.set_cons_zero, List.set_cons_succ]
      refine wpList_nil ?_
      refine hK7 _ _ ?_
      clear hK7 K7
      refine wp_ret ?_
      try simp only [Exit.inBlock, Exit.then]
      refine bodyPost_ret (results_tmp2 rfl _ _ _) rfl ?_
      exact ⟨by rw [ofF_none hr ey]; exact ⟨_, rfl, bxs_nil _, nil_none⟩, D⟩
    · rename_i ly
      rw [ey] at hq
      obtain ⟨u1, rfl, hby, hny⟩ : ∃ u, r = .returned (.tuple #[u, .bool true]) ∧ Bxs _ u ly ∧ nilOk u := hq
      refine ⟨.tuple #[u1, .bool true], rfl, ?_⟩
      simp only [Act.put, List.setIfInBounds_toArray, List.set_cons_zero, List.set_cons_succ]
      refine wl_yield (o := ⟨_, _, _, _, _, _⟩) (.tuple #[u1, .bool true]) (yl_move (by rfl) _ rfl _ rfl) ?_
      simp only [Act.put, List.setIfInBounds_toArray, List.set_cons_zero, List.set_cons_succ]
      refine wl_yield (o := ⟨_, _, _, _, _, _⟩) (u1) (yl_extract0 (by rfl) _ rfl _ _ rfl) ?_
      simp only [Act.put, List.setIfInBounds_toArray, List.set_cons_zero, List.set_cons_succ]
      refine wl_yield (o := ⟨_, _, _, _, _, _⟩) (.bool true) (yl_extract1 (by rfl) _ rfl _ _ rfl) ?_
      simp only [Act.put, List.setIfInBounds_toArray, List.set_cons_zero, List.set_cons_succ]
      refine wl_yield (o := ⟨_, _, _, _, _, _⟩) (u1) (yl_assign (by rfl) _ rfl _ rfl) ?_
      simp only [Act.put, List.setIfInBounds_toArray, List.set_cons_zero, List.set_cons_succ]
      refine wl_yield (o := ⟨_, _, _, _, _, _⟩) (.bool true) (yl_assign (by rfl) _ rfl _ rfl) ?_
      simp only [Act.put, List.setIfInBounds_toArray, List.set_cons_zero, List.set_cons_succ]
      refine wpList_nil ?_
      refine hK4 _ _ ?_
      clear hK4 K4
      refine wp_seq_k (fun K5 hK5 => ?_)
      refine wp_seq_k (fun K6 hK6 => ?_)
      refine wp_region_lit ?_
      refine wl_yield (o := ⟨_, _, _, _, _, _⟩) (.bool true) (yl_move (by rfl) _ rfl _ rfl) ?_
      simp only [Act.put, List.setIfInBounds_toArray, List.set_cons_zero, List.set_cons_succ]
      refine wl_yield (o := ⟨_, _, _, _, _, _⟩) (.bool false) (yl_not (by rfl) _ _ rfl true rfl) ?_
      simp only [Act.put, List.setIfInBounds_toArray, List.set_cons_zero, List.set_cons_succ]
      refine wl_yield (o := ⟨_, _, _, _, _, _⟩) (.bool false) (yl_move (by rfl) _ rfl _ rfl) ?_
      simp only [Act.put, List.setIfInBounds_toArray, List.set_cons_zero, List.set_cons_succ]
      refine wl_yield (o := ⟨_, _, _, _, _, _⟩) (u1) (yl_move (by rfl) _ rfl _ rfl) ?_
      simp only [Act.put, List.setIfInBounds_toArray, List.set_cons_zero, List.set_cons_succ]
      refine wl_call (o := ⟨_, _, _, _, _, _⟩) (by rfl) 23 _ _ rfl #[u1] rfl (run_call Tryz.func23 (by kernel_rfl) (by kernel_rfl)) ?_
      refine (dnfRight_any _ ly _ hby).mono ?_
      rintro r v4 ⟨rfl, kb⟩
      replace D := D.trans (kb.mono D.size)
      replace hx := hx.on kb
      replace HX := HX.on kb
      replace hby := hby.on kb
      clear kb
      cases hf : rightF ly
      · refine ⟨.bool false, rfl, ?_⟩
        simp only [Act.put, List.setIfInBounds_toArray, List.set_cons_zero, List.set_cons_succ]
        refine wl_yield (o := ⟨_, _, _, _, _, _⟩) (.bool true) (yl_not (by rfl) _ _ rfl false rfl) ?_
        simp only [Act.put, List.setIfInBounds_toArray, List.set_cons_zero, List.set_cons_succ]
        refine wl_yield (o := ⟨_, _, _, _, _, _⟩) (.bool true) (yl_pickF (by rfl) _ _ _ rfl rfl _ rfl) ?_
        simp only [Act.put, List.setIfInBounds_toArray, List.set_cons_zero, List.set_cons_succ]
        refine wpList_nil ?_
        refine hK6 _ _ ?_
        clear hK6 K6
        refine wp_cond_true rfl ?_
        refine wp_seq_k (fun K7 hK7 => ?_)
        refine wp_region_lit ?_
        refine wl_yield (o := ⟨_, _, _, _, _, _⟩) (.slice none 0 0) (yl_assign (by rfl) _ rfl _ rfl) ?_
        simp only [Act.put, List.setIfInBounds_toArray, List.set_cons_zero, List.set_cons_succ]
        refine wl_yield (o := ⟨_, _, _, _, _, _⟩) (.int .i64 4) (yl_assign (by rfl) _ rfl _ rfl) ?_
        simp only [Act.put, List.setIfInBounds_toArray, List.set_cons_zero, List.set_cons_succ]
        refine wpList_nil ?_
        refine hK7 _ _ ?_
        clear hK7 K7
        refine wp_ret ?_
        try simp only [Exit.inBlock, Exit.then]
        refine bodyPost_ret (results_tmp2 rfl _ _ _) rfl ?_
        exact ⟨by rw [ofF_big hr ey hf]; exact ⟨_, rfl, bxs_nil _, nil_none⟩, D⟩
      · refine ⟨.bool true, rfl, ?_⟩
        simp only [Act.put, List.setIfInBounds_toArray, List.set_cons_zero, List.set_cons_succ]
        refine wl_yield (o := ⟨_, _, _, _, _, _⟩) (.bool false) (yl_not (by rfl) _ _ rfl true rfl) ?_
        simp only [Act.put, List.setIfInBounds_toArray, List.set_cons_zero, List.set_cons_succ]
        refine wl_yield (o := ⟨_, _, _, _, _, _⟩) (.bool false) (yl_pickF (by rfl) _ _ _ rfl rfl _ rfl) ?_
        simp only [Act.put, List.setIfInBounds_toArray, List.set_cons_zero, List.set_cons_succ]
        refine wpList_nil ?_
        refine hK6 _ _ ?_
        clear hK6 K6
        refine wp_cond_false rfl ?_
        refine wp_skip ?_
        refine hK5 _ _ ?_
        clear hK5 K5
        refine wp_seq_k (fun K7 hK7 => ?_)
        refine wp_region_lit ?_
        refine wl_yield (o := ⟨_, _, _, _, _, _⟩) (u1) (yl_move (by rfl) _ rfl _ rfl) ?_
        simp only [Act.put, List.setIfInBounds_toArray, List.set_cons_zero, List.set_cons_succ]
        refine wl_yield (o := ⟨_, _, _, _, _, _⟩) (u1) (yl_assign (by rfl) _ rfl _ rfl) ?_
        simp only [Act.put, List.setIfInBounds_toArray, List.set_cons_zero, List.set_cons_succ]
        refine wl_yield (o := ⟨_, _, _, _, _, _⟩) (.int .i64 0) (yl_assign (by rfl) _ rfl _ rfl) ?_
        simp only [Act.put, List.setIfInBounds_toArray, List.set_cons_zero, List.set_cons_succ]
        refine wpList_nil ?_
        refine hK7 _ _ ?_
        clear hK7 K7
        refine wp_ret ?_
        try simp only [Exit.inBlock, Exit.then]
        refine bodyPost_ret (results_tmp2 rfl _ _ _) rfl ?_
        exact ⟨by rw [ofF_ok hr ey hf]; exact ⟨_, rfl, hby, hny⟩, D⟩
end Go.Proofs.YtlfhpocfacaaeaaGreat
/-
  Steps of regions, of the sixth layer's laws: errors compared; an expression stored into a block; what opens each law, in plain words.
-/
set_option linter.unusedSimpArgs false
set_option linter.unusedVariables false
namespace Go.Proofs.YtlfhpocfacaaeaaGreat
open Go.RowKit

def sFive : SetV := ⟨false, [(5, 5)], false, []⟩
theorem setF_of {w : World} {p : Option Addr} {c : Nat} (h : RngsAt w (.slice p 1 c) [(5, 5)]) : SetAt w (SC.val ⟨false, p, 1, c, false, none, 0, 0⟩) sFive := ⟨_, _, rfl, h, strs_none _⟩
theorem noX_at (w : World) : Xp 1 w ec0 noX := ⟨ec0, rfl, ⟨rfl, rfl, rfl, by simp [ec0], by simp [ec0], by simp [ec0], by simp [ec0], noSet_at w, Nat.le_refl _, by simp [ec0], fun _ => ⟨rfl, rfl⟩⟩, fun i hi => by simp [noX] at hi⟩
section
variable {ops : Array Oper} {Q : Exit → Act → World → Prop} {S : World → Prop} {o : Oper} {a : Act}
theorem wl_rowF {rest : List Oper} {w : World} (hw : Region.wanted o (yielded ops a.tmps) = true) (x : Operand) (ho : o.op = .buildSlice 22 1 #[(0, x)]) (hx : a.eval x = .agg #[.int .i64 5, .int .i64 5])
    (h : ∀ W p c, RngsAt W (.slice p 1 c) [(5, 5)] → Below w.heap.size w W → wpList Tryz.prog ops Q rest (a.put o.dst (.slice p 1 c)) W) : wpList Tryz.prog ops Q (o :: rest) a w := by
  refine wl_run hw (.slice (some ⟨w.heap.size, 0, none⟩) 1 1) (w.alloc (.cells #[.int .i64 5, .int .i64 5] 72)) ?_ (h _ _ _ (rngs_new w _ [(5, 5)] rfl (fun r hr => by simp at hr; rw [hr]; dsimp only; omega) (by simp) _ rfl 1 1 rfl) ((Below.refl _ w).alloc (Nat.le_refl _) _))
  simp only [execOp, ho, List.map_toArray, List.map_cons, List.map_nil, hx]
  go_simp
end
section
variable {ops : Array Oper} {Q : Exit → Act → World → Prop} {S : World → Prop} {o : Oper} {a : Act}
theorem yl_eqE (hw : Region.wanted o (yielded ops a.tmps) = true) (x y : Operand) (t : TypeId) (ho : o.op = .binOp .eql 33 x y t) (p q : Int) (r : Bool) (hx : a.eval x = .int .i64 p) (hy : a.eval y = .int .i64 q) (hr : decide (p = q) = r) : YieldsIf Tryz.prog ops S o (.bool r) a :=
  Or.inl ⟨hw, fun w hS => by
    subst hr
    simp only [execOp, ho, hx, hy]
    go_simp
    by_cases h : p = q <;> simp [h]⟩
theorem yl_neqE (hw : Region.wanted o (yielded ops a.tmps) = true) (x y : Operand) (t : TypeId) (ho : o.op = .binOp .neq 33 x y t) (p q : Int) (r : Bool) (hx : a.eval x = .int .i64 p) (hy : a.eval y = .int .i64 q) (hr : decide (¬ p = q) = r) : YieldsIf Tryz.prog ops S o (.bool r) a :=
  Or.inl ⟨hw, fun w hS => by
    subst hr
    simp only [execOp, ho, hx, hy]
    go_simp
    by_cases h : p = q <;> simp [h]⟩
/-- A new block with the cells of no expression. -/
theorem wl_allocE {rest : List Oper} {w : World} (hw : Region.wanted o (yielded ops a.tmps) = true) (ho : o.op = .alloc 28)
    (h : ∀ W g, w.heap.size ≤ g → ExIn W g ec0 → Below w.heap.size w W → wpList Tryz.prog ops Q rest (a.put o.dst (.pointer (some ⟨g, 0, none⟩))) W) : wpList Tryz.prog ops Q (o :: rest) a w := by
  refine wl_run hw (.pointer (some ⟨w.heap.size, 0, none⟩)) (w.alloc (exObj ec0)) ?_ (h _ _ (Nat.le_refl _) (heap_new _ _) ((Below.refl _ w).alloc (Nat.le_refl _) _))
  simp only [execOp, ho, exObj, ec0, SC.zero]
  go_simp
theorem ExIn.there {w : World} {g : Nat} {c : EC} (h : ExIn w g c) : w.there g 0 7 := fun j hj => by
  refine ⟨?_, soft_heap h _⟩
  rw [h.ec.range j _ (List.getElem?_eq_getElem (show j < c.list.length from hj))]
  rfl
theorem exIn_put {w : World} {g : Nat} {c d : EC} (h : ExIn w g c) : ExIn (w.setCells g 0 d.list) g d := by
  have hr := World.rangeAt_setCells_same w g 0 d.list h.there
  obtain ⟨cur', h1, h2⟩ := setCells_cur g d.list 0 w _ h
  have e : cur' = d.list.toArray := by
    apply Array.ext
    · rw [h2]; rfl
    · intro i hi1 hi2
      have hi : i < d.list.length := by simpa using hi2
      have := hr i _ (List.getElem?_eq_getElem hi)
      rw [Nat.zero_add, cell_heap h1, Array.getElem?_eq_getElem hi1] at this
      simpa using this
  rw [e] at h1
  exact h1
/-- An expression stored whole. -/
theorem wl_putE {rest : List Oper} {w : World} (hg : o.guard = none) (x y : Operand) (ho : o.op = .store 28 x y) (g : Nat) (c d : EC) (hx : a.eval x = .pointer (some ⟨g, 0, none⟩)) (hy : a.eval y = d.val) (hc : ExIn w g c)
    (h : ∀ W, ExIn W g d → (∀ B, B ≤ g → Asd (some g) B w W) → wpList Tryz.prog ops Q rest (a.put o.dst undef) W) : wpList Tryz.prog ops Q (o :: rest) a w :=
  wpList_store_mid hg 28 x y ho g 0 d.list.toArray hx hy hc.there (by rw [infoEx]; rfl) (all_oneCell_toArray d.list_one) (h _ (exIn_put hc) (fun B hB => asd_put w 0 d.list hB))
theorem yl_ev16 (hw : Region.wanted o (yielded ops a.tmps) = true) (x y : Operand) (ho : o.op = .build 42 #[(0, x), (1, y)]) (hx : a.eval x = .agg #[.int .i64 1, .int .i64 5, .string ⟨#[]⟩]) (hy : a.eval y = .agg #[.int .i64 1, .int .i64 5, .string ⟨#[]⟩]) : YieldsIf Tryz.prog ops S o (evVal ⟨(1, 5, ⟨#[]⟩), (1, 5, ⟨#[]⟩), vaZ, vaZ⟩) a :=
  Or.inl ⟨hw, fun w _ => by
    simp only [execOp, ho, evVal, vaZ, List.map_toArray, List.map_cons, List.map_nil, hx, hy]
    go_simp⟩
theorem yl_val5 (hw : Region.wanted o (yielded ops a.tmps) = true) (ho : o.op = .build 40 #[(0, .const (.int .i64 1)), (1, .const (.int .i64 5))]) : YieldsIf Tryz.prog ops S o (.agg #[.int .i64 1, .int .i64 5, .string ⟨#[]⟩]) a :=
  Or.inl ⟨hw, fun w _ => by
    simp only [execOp, ho]
    go_simp⟩
end
def d6_rowObj (ds : List EC) : Obj := Obj.cells (ds.flatMap EC.list).toArray 28
set_option maxHeartbeats 4000000 in
set_option maxRecDepth 100000 in
theorem d6_rn_row2 {o : Oper} {w : World} {x0 x1 : Operand} {c0 c1 : EC} (a : Act) (ho : o.op = .buildSlice 26 2 #[(0, x0), (1, x1)]) (h0 : a.eval x0 = c0.val) (h1 : a.eval x1 = c1.val) : (execOp a.eval o).run Tryz.prog w = .ok (.value (.slice (some ⟨w.heap.size, 0, none⟩) 2 2)) (w.alloc (d6_rowObj [c0, c1])) := by
  simp only [execOp, ho, List.map_toArray, List.map_cons, List.map_nil, h0, h1, EC.val, d6_rowObj, EC.list, List.flatMap_cons, List.flatMap_nil, List.cons_append, List.nil_append]
  go_simp
theorem d6_flat_at (ds : List EC) (j r : Nat) (hr : r < 7) : ∀ (i : Nat) (d : EC), ds[i]? = some d → i = j → (ds.flatMap EC.list)[j * 7 + r]? = d.list[r]? := by
  induction ds generalizing j with
  | nil => intro i d h; simp at h
  | cons z ds ih =>
    intro i d h e
    subst e
    rw [List.flatMap_cons]
    cases i with
    | zero =>
      simp at h
      subst h
      rw [List.getElem?_append_left (by rw [EC.list_len]; omega), Nat.zero_mul, Nat.zero_add]
    | succ i =>
      rw [List.getElem?_append_right (by rw [EC.list_len]; omega), EC.list_len, show (i + 1) * 7 + r - 7 = i * 7 + r by omega]
      exact ih i i d (by simpa using h) rfl
theorem d6_rows_new (n : Nat) (w : World) (ds : List (EC × ExV)) (h : ∀ q ∈ ds, ExAt n w q.1.val q.2) (hl : ds.length ≤ 1000 := by simp) : RowsX n (w.alloc (d6_rowObj (ds.map (·.1)))) (.slice (some ⟨w.heap.size, 0, none⟩) ds.length ds.length) (ds.map (·.2)) := by
  have hn := heap_new w (d6_rowObj (ds.map (·.1)))
  refine ⟨_, ds.length, by rw [List.length_map], by simp, by omega, fun e => by simp at e, fun i hi => ?_⟩
  rw [List.length_map] at hi
  refine ⟨w.heap.size, 0, (ds[i]).1, rfl, by simp, EcAt.ofRange fun r v hv => ?_, ?_⟩
  · have hr : r < 7 := (List.getElem?_eq_some_iff.1 hv).1
    unfold d6_rowObj at hn ⊢
    rw [cell_heap hn, Nat.zero_add]
    rw [List.getElem?_toArray, d6_flat_at _ i r hr i (ds[i]).1 (by rw [List.getElem?_map, List.getElem?_eq_getElem hi]; rfl) rfl]
    exact hv
  · have e2 : (ds.map (·.2)).getD i noX = (ds[i]).2 := by
      rw [List.getD_eq_getElem?_getD, List.getElem?_map, List.getElem?_eq_getElem hi]
      rfl
    rw [e2]
    exact ExAt.on ((Below.refl _ w).alloc (Nat.le_refl _) _) n (h _ (List.getElem_mem _))
section
variable {ops : Array Oper} {Q : Exit → Act → World → Prop} {S : World → Prop} {o : Oper} {a : Act}
/-- A new row of two expressions. -/
theorem wl_row2X {rest : List Oper} {w : World} (hw : Region.wanted o (yielded ops a.tmps) = true) (x0 x1 : Operand) (ho : o.op = .buildSlice 26 2 #[(0, x0), (1, x1)]) {c0 c1 : EC} (h0 : a.eval x0 = c0.val) (h1 : a.eval x1 = c1.val) {n : Nat} {x y : ExV} (hx : Xp n w c0 x) (hy : Xp n w c1 y)
    (h : ∀ W p, RowsX n W (.slice p 2 2) [x, y] → Below w.heap.size w W → wpList Tryz.prog ops Q rest (a.put o.dst (.slice p 2 2)) W) : wpList Tryz.prog ops Q (o :: rest) a w :=
  wl_run hw _ _ (d6_rn_row2 a ho h0 h1) (h _ _ (d6_rows_new n w [(c0, x), (c1, y)] (fun q hq => by
    simp only [List.mem_cons, List.not_mem_nil, or_false] at hq
    rcases hq with rfl | rfl
    · exact hx
    · exact hy)) ((Below.refl _ w).alloc (Nat.le_refl _) _))
end
theorem five_set {w W : World} {v : Value} {g : Nat} (h : SetAt w v sFive) (hz : ExIn w g ec0) (hs : w.heap.size ≤ W.heap.size) (hk : ∀ k, k < w.heap.size → k ≠ g → W.heap[k]? = w.heap[k]?) : SetAt W v sFive := by
  obtain ⟨vi, vs, hv, h1, h2⟩ := h
  refine ⟨vi, vs, hv, ?_, ?_⟩
  · obtain ⟨q1, q2, a, cap, e, q⟩ := h1
    refine ⟨q1, q2, a, cap, e, fun i hi => ?_⟩
    obtain ⟨b, off, ha, hlt, c0, c1⟩ := q i hi
    have e0 : i = 0 := by
      have : sFive.ints.length = 1 := rfl
      omega
    subst e0
    have hb : b ≠ g := by
      rintro rfl
      rw [cell_heap hz] at c0
      have hj : off + 0 * 2 < 7 := by
        have := (Array.getElem?_eq_some_iff.1 c0).1
        exact this
      have c0' : ec0.list.toArray[off + 0 * 2]? = some (Value.int IntKind.i64 5) := c0
      rw [List.getElem?_toArray] at c0'
      have : ∀ j, j < 7 → ec0.list[j]? ≠ some (Value.int IntKind.i64 5) := by
        intro j hj
        match j, hj with
        | 0, _ => simp [EC.list, ec0]
        | 1, _ => simp [EC.list, ec0]
        | 2, _ => simp [EC.list, ec0]
        | 3, _ => simp [EC.list, ec0]
        | 4, _ => simp [EC.list, ec0]
        | 5, _ => simp [EC.list, ec0]
        | 6, _ => simp [EC.list, ec0]
      exact this _ hj c0'
    have hc : ∀ o, W.cell? ⟨b, o, none⟩ = w.cell? ⟨b, o, none⟩ := fun o => by unfold World.cell?; simp only [hk b hlt hb]
    exact ⟨b, off, ha, Nat.lt_of_lt_of_le hlt hs, (hc _).trans c0, (hc _).trans c1⟩
  · obtain ⟨q1, q2, a, cap, e, q⟩ := h2
    exact ⟨q1, q2, a, cap, e, fun i hi => absurd hi (by simp [sFive])⟩
theorem five_at {w W : World} {d : EC} {attr : Int} {g : Nat} (h : Xp 1 w d (atomX attr sFive)) (hz : ExIn w g ec0) (hs : w.heap.size ≤ W.heap.size) (hk : ∀ k, k < w.heap.size → k ≠ g → W.heap[k]? = w.heap[k]?) : Xp 1 W d (atomX attr sFive) := by
  have hE := ExAt.for h
  exact ⟨d, rfl, ⟨hE.k, hE.t, hE.n, hE.k0, hE.k1, hE.t0, hE.t1, five_set hE.s hz hs hk, hE.room, hE.big, hE.none⟩, fun i hi => by simp [atomX] at hi⟩
def xAw : ExV := notX (andX [atomX 0 sFive, atomX 1 sFive])
def eAw : EvV := ⟨(1, 5, ⟨#[]⟩), (1, 5, ⟨#[]⟩), vaZ, vaZ⟩
def lAw : List BoxV := [allBx.put 0 (notV sFive), allBx.put 1 (notV sFive)]
theorem aw_of1 : ofF (andX []) = ([allBx], 0) := ofF_ok (by rfl) (by rfl) (by rfl)
theorem aw_of2 : ofF (orX []) = ([], 0) := ofF_ok (by rfl) (by rfl) (by rfl)
theorem aw_r3 : rightX xAw = true := by rfl
theorem aw_of3 : ofF xAw = (lAw, 0) := ofF_ok aw_r3 (by rfl) (by rfl)
theorem aw_of4 : ofF noX = ([], 2) := ofF_wrong (by rfl)
theorem aw_h1 : hasL lAw evZ = true := by simp [lAw, hasL, hasE, all4, BoxV.get, BoxV.put, allBx, allV, EvV.get, evZ, vaZ, hasP, hasB, rightB, notV, sFive, notR, inIntsB, inStrsB]
theorem aw_h2 : hasL [allBx] evZ = true := by simp [hasL, hasE, all4, BoxV.get, allBx, allV, EvV.get, evZ, vaZ, hasP, hasB, rightB]
theorem aw_h3 : hasL lAw eAw = false := by simp [lAw, hasL, hasE, all4, BoxV.get, BoxV.put, allBx, allV, EvV.get, eAw, vaZ, hasP, hasB, rightB, notV, sFive, notR, inIntsB, inStrsB]
theorem evAw_fit : evFit eAw := ⟨Nat.zero_le _, Nat.zero_le _, Nat.zero_le _, Nat.zero_le _⟩
theorem evZ_in : inE evZ := fun i hi => by match i, hi with | 0, _ => exact ⟨by decide, by decide⟩ | 1, _ => exact ⟨by decide, by decide⟩ | 2, _ => exact ⟨by decide, by decide⟩ | 3, _ => exact ⟨by decide, by decide⟩
theorem evAw_in : inE eAw := fun i hi => by match i, hi with | 0, _ => exact ⟨by decide, by decide⟩ | 1, _ => exact ⟨by decide, by decide⟩ | 2, _ => exact ⟨by decide, by decide⟩ | 3, _ => exact ⟨by decide, by decide⟩
theorem fit_filter {l : List BoxV} (h : rightF l = true) (hi : ∀ b ∈ l, ∀ i, i < 4 → inI64 (b.get i).ints) : FitL l := fun b hb => by
  unfold rightF at h
  rw [Bool.and_eq_true, Bool.and_eq_true, List.all_eq_true] at h
  have hq := h.2.1 b hb
  rw [Bool.and_eq_true] at hq
  have hS : ∀ i, i < 4 → (b.get i).ints.length ≤ 6 ∧ (b.get i).strs.length ≤ 6 := fun i hi => by
    have := (all4_iff _).1 hq.1 i hi
    unfold smallB at this
    rw [Bool.and_eq_true, decide_eq_true_eq, decide_eq_true_eq] at this
    exact this
  exact ⟨⟨fun i h4 => ⟨(all4_iff _).1 hq.2 i h4, hi b hb i h4⟩, fun i hi => by have := (hS i hi).2; omega⟩, fun i hi => by have := (hS i hi).1; omega, fun i hi => by have := (hS i hi).2; omega⟩
theorem Bxs.i64 {w : World} {v : Value} {l : List BoxV} (h : Bxs w v l) : ∀ b ∈ l, ∀ i, i < 4 → inI64 (b.get i).ints := fun b hb => by
  obtain ⟨cs, _, ha⟩ := h
  obtain ⟨i, hi, rfl⟩ := List.getElem_of_mem hb
  have := ha.2 i hi
  rw [List.getD_eq_getElem?_getD, List.getD_eq_getElem?_getD, List.getElem?_eq_getElem hi] at this
  exact this.i64
theorem ofF_fit {w : World} {v : Value} {x : ExV} (h : Bxs w v (ofF x).1) : FitL (ofF x).1 := by
  have hi := h.i64
  clear h
  cases hr : rightX x
  · rw [ofF_wrong hr]; intro b hb; cases hb
  · cases ey : boxesX 8 x false with
    | none => rw [ofF_none hr ey]; intro b hb; cases hb
    | some l =>
      cases hf : rightF l
      · rw [ofF_big hr ey hf]; intro b hb; cases hb
      · rw [ofF_ok hr ey hf] at hi ⊢
        exact fit_filter hf hi
theorem Bxs.sl {w : World} {v : Value} {l : List BoxV} (h : Bxs w v l) : ∃ p c, v = .slice p l.length c := by
  obtain ⟨cs, hr, ha⟩ := h
  obtain ⟨p, c, rfl⟩ := hr.form
  exact ⟨p, c, by rw [ha.1]⟩
end Go.Proofs.YtlfhpocfacaaeaaGreat
/-
  'five' and 'awake' of the sixth layer's laws.
-/
set_option linter.unusedSimpArgs false
set_option linter.unusedVariables false
namespace Go.Proofs.YtlfhpocfacaaeaaGreat
open Go.RowKit

set_option maxHeartbeats 4000000 in
set_option maxRecDepth 100000 in
theorem five_any (attr : Int) (ha0 : -9223372036854775808 ≤ attr) (ha1 : attr ≤ 9223372036854775807) (w : World) :
    Calls Tryz.prog 30 #[.int .i64 attr] w fun r w' => (∃ d : EC, r = .returned d.val ∧ Xp 1 w' d (atomX attr sFive)) ∧ Below w.heap.size w w' := by
  have D := Below.refl w.heap.size w
  go_enter Tryz.func30, Tryz.ntmps30
  refine wp_seq_k (fun K1 hK1 => ?_)
  refine wp_region_lit ?_
  refine wl_allocE (o := ⟨_, _, _, _, _, _⟩) (by rfl) rfl (fun v1 gb1 hggb1 IZ kb => ?_)
  simp only [Act.put, List.setIfInBounds_toArray, List.set_cons_zero, List.set_cons_succ]
  replace D := D.trans (kb.mono D.size)
  clear kb
  refine wpList_nil ?_
  refine hK1 _ _ ?_
  clear hK1 K1
  refine wp_seq_k (fun K2 hK2 => ?_)
  refine wp_region_lit ?_
  refine wl_yield (o := ⟨_, _, _, _, _, _⟩) (.int .i64 attr) (yl_move (by rfl) _ rfl _ rfl) ?_
  simp only [Act.put, List.setIfInBounds_toArray, List.set_cons_zero, List.set_cons_succ]
  refine wl_run (o := ⟨_, _, _, _, _, _⟩) (by rfl) (.agg #[.int .i64 5, .int .i64 5]) v1 (by go_simp) ?_
  simp only [Act.put, List.setIfInBounds_toArray, List.set_cons_zero, List.set_cons_succ]
  refine wl_rowF (o := ⟨_, _, _, _, _, _⟩) (by rfl) _ rfl rfl (fun v2 p1 r1 HY kb => ?_)
  simp only [Act.put, List.setIfInBounds_toArray, List.set_cons_zero, List.set_cons_succ]
  replace D := D.trans (kb.mono D.size)
  replace IZ := IZ.on kb
  clear kb
  have HSA := setF_of HY
  refine wl_run (o := ⟨_, _, _, _, _, _⟩) (by rfl) (SC.val ⟨false, p1, 1, r1, false, none, 0, 0⟩) v2 (by unfold SC.val; go_simp) ?_
  simp only [Act.put, List.setIfInBounds_toArray, List.set_cons_zero, List.set_cons_succ]
  refine wl_call (o := ⟨_, _, _, _, _, _⟩) (by rfl) 29 _ _ rfl #[.int .i64 attr, SC.val ⟨false, p1, 1, r1, false, none, 0, 0⟩] rfl (run_call Tryz.func29 (by kernel_rfl) (by kernel_rfl)) ?_
  refine (progAtom_any attr ha0 ha1 _ sFive _ HSA (by simp [sFive]) (by simp [sFive])).mono ?_
  rintro r v3 ⟨⟨dA, rfl, HA⟩, kb⟩
  replace D := D.trans (kb.mono D.size)
  replace IZ := IZ.on kb
  clear kb
  replace HA : Xp 1 _ dA (atomX attr sFive) := HA
  refine ⟨EC.val dA, rfl, ?_⟩
  simp only [Act.put, List.setIfInBounds_toArray, List.set_cons_zero, List.set_cons_succ]
  refine wl_putE (o := ⟨_, _, _, _, _, _⟩) rfl _ _ rfl gb1 ec0 dA rfl rfl IZ (fun v4 HD hA => ?_)
  simp only [Act.put, List.setIfInBounds_toArray, List.set_cons_zero, List.set_cons_succ]
  have hA := hA w.heap.size hggb1
  replace HA := five_at HA IZ hA.s (fun k hk hne => hA.k k hk (fun e => hne (Option.some.inj e)))
  replace D := D.trans hA.b
  clear hA IZ
  refine wpList_nil ?_
  refine hK2 _ _ ?_
  clear hK2 K2
  refine wp_ret ?_
  exact bodyPost_ret (results_cell_row rfl _ _ gb1 28 _ (0, 0) _ rfl HD Tryz.underlying28 rfl infoEx) rfl ⟨⟨dA, rfl, HA⟩, D⟩
theorem cp5 (attr : Int) : cpX 1 (atomX attr sFive) := ⟨by simp [atomX, sFive], by simp [atomX, sFive], by simp [atomX], fun y hy => by cases hy⟩
theorem cp2 : ∀ y ∈ [atomX 0 sFive, atomX 1 sFive], cpX 1 y := fun y hy => by
  simp only [List.mem_cons, List.not_mem_nil, or_false] at hy
  rcases hy with rfl | rfl <;> exact cp5 _
theorem cp3 : cpX 2 (andX [atomX 0 sFive, atomX 1 sFive]) := ⟨by simp [andX, noSet], by simp [andX, noSet], by simp [andX], cp2⟩
theorem aw_fl3 : FitL lAw := by
  have h : Good sFive := ⟨by rfl, fun r hr => by simp [sFive] at hr; rw [hr]; dsimp only; omega⟩
  intro b hb
  refine ⟨?_, fun i hi => ?_, fun i hi => ?_⟩
  · simp only [lAw, List.mem_cons, List.not_mem_nil, or_false] at hb
    rcases hb with rfl | rfl
    · exact put_good all_good (by omega) (notV_good h) (by simp [notV, sFive])
    · exact put_good all_good (by omega) (notV_good h) (by simp [notV, sFive])
  all_goals
    simp only [lAw, List.mem_cons, List.not_mem_nil, or_false] at hb
    rcases hb with rfl | rfl <;>
    · rw [BoxV.get_put _ _ _ _ (by omega) hi]
      split
      · simp [notV, sFive, notR]
      · rw [allBx_get]; simp [allV]
theorem aw_fl1 : FitL [allBx] := fun b hb => by
  rw [List.mem_singleton] at hb
  subst hb
  exact allFit
set_option maxHeartbeats 8000000 in
set_option maxRecDepth 100000 in
theorem awake6_any (w : World) :
    Calls Tryz.prog 10 #[] w fun r w' => r = .returned (.bool true) ∧ Below w.heap.size w w' := by
  have D := Below.refl w.heap.size w
  go_enter Tryz.func10, Tryz.ntmps10
  refine wp_seq_k (fun K1 hK1 => ?_)
  refine wp_region_lit ?_
  refine wl_yield (o := ⟨_, _, _, _, _, _⟩) (.bool false) (yl_assign (by rfl) _ rfl _ rfl) ?_
  simp only [Act.put, List.setIfInBounds_toArray, List.set_cons_zero, List.set_cons_succ]
  refine wpList_nil ?_
  refine hK1 _ _ ?_
  clear hK1 K1
  refine wp_seq_k (fun K2 hK2 => ?_)
  refine wp_region_lit ?_
  refine wl_call (o := ⟨_, _, _, _, _, _⟩) (by rfl) 27 _ _ rfl #[.slice none 0 0] rfl (run_call Tryz.func27 (by kernel_rfl) (by kernel_rfl)) ?_
  refine (c_and0 _).mono ?_
  rintro r v1 ⟨⟨a1, rfl, HA⟩, kb⟩
  replace D := D.trans (kb.mono D.size)
  clear kb
  refine ⟨EC.val a1, rfl, ?_⟩
  simp only [Act.put, List.setIfInBounds_toArray, List.set_cons_zero, List.set_cons_succ]
  refine wl_call (o := ⟨_, _, _, _, _, _⟩) (by rfl) 12 _ _ rfl #[EC.val a1] rfl (run_call Tryz.func12 (by kernel_rfl) (by kernel_rfl)) ?_
  refine (dnfOf_any 1 _ (andX []) _ HA (by omega)).mono ?_
  rintro r v2 ⟨hq, kb⟩
  replace D := D.trans (kb.mono D.size)
  replace HA := HA.on kb
  clear kb
  rw [aw_of1] at hq
  obtain ⟨u1, rfl, hb1, hn1⟩ := hq
  obtain ⟨p1, c1, rfl⟩ := hb1.sl
  refine ⟨.tuple #[.slice p1 1 c1, .int .i64 0], rfl, ?_⟩
  simp only [Act.put, List.setIfInBounds_toArray, List.set_cons_zero, List.set_cons_succ]
  refine wl_yield (o := ⟨_, _, _, _, _, _⟩) (.tuple #[.slice p1 1 c1, .int .i64 0]) (yl_move (by rfl) _ rfl _ rfl) ?_
  simp only [Act.put, List.setIfInBounds_toArray, List.set_cons_zero, List.set_cons_succ]
  refine wl_yield (o := ⟨_, _, _, _, _, _⟩) (.slice p1 1 c1) (yl_extract0 (by rfl) _ rfl _ _ rfl) ?_
  simp only [Act.put, List.setIfInBounds_toArray, List.set_cons_zero, List.set_cons_succ]
  refine wl_yield (o := ⟨_, _, _, _, _, _⟩) (.int .i64 0) (yl_extract1 (by rfl) _ rfl _ _ rfl) ?_
  simp only [Act.put, List.setIfInBounds_toArray, List.set_cons_zero, List.set_cons_succ]
  refine wl_yield (o := ⟨_, _, _, _, _, _⟩) (.slice p1 1 c1) (yl_assign (by rfl) _ rfl _ rfl) ?_
  simp only [Act.put, List.setIfInBounds_toArray, List.set_cons_zero, List.set_cons_succ]
  refine wl_yield (o := ⟨_, _, _, _, _, _⟩) (.int .i64 0) (yl_assign (by rfl) _ rfl _ rfl) ?_
  simp only [Act.put, List.setIfInBounds_toArray, List.set_cons_zero, List.set_cons_succ]
  refine wpList_nil ?_
  refine hK2 _ _ ?_
  clear hK2 K2
  refine wp_seq_k (fun K3 hK3 => ?_)
  refine wp_region_lit ?_
  refine wl_call (o := ⟨_, _, _, _, _, _⟩) (by rfl) 28 _ _ rfl #[.slice none 0 0] rfl (run_call Tryz.func28 (by kernel_rfl) (by kernel_rfl)) ?_
  refine (c_or0 _).mono ?_
  rintro r v3 ⟨⟨o1, rfl, HO⟩, kb⟩
  replace D := D.trans (kb.mono D.size)
  replace HA := HA.on kb
  replace hb1 := hb1.on kb
  clear kb
  refine ⟨EC.val o1, rfl, ?_⟩
  simp only [Act.put, List.setIfInBounds_toArray, List.set_cons_zero, List.set_cons_succ]
  refine wl_call (o := ⟨_, _, _, _, _, _⟩) (by rfl) 12 _ _ rfl #[EC.val o1] rfl (run_call Tryz.func12 (by kernel_rfl) (by kernel_rfl)) ?_
  refine (dnfOf_any 1 _ (orX []) _ HO (by omega)).mono ?_
  rintro r v4 ⟨hq, kb⟩
  replace D := D.trans (kb.mono D.size)
  replace HA := HA.on kb
  replace hb1 := hb1.on kb
  replace HO := HO.on kb
  clear kb
  rw [aw_of2] at hq
  obtain ⟨u2, rfl, hb2, hn2⟩ := hq
  obtain ⟨p2, c2, rfl⟩ := hb2.sl
  refine ⟨.tuple #[.slice p2 0 c2, .int .i64 0], rfl, ?_⟩
  simp only [Act.put, List.setIfInBounds_toArray, List.set_cons_zero, List.set_cons_succ]
  refine wl_yield (o := ⟨_, _, _, _, _, _⟩) (.tuple #[.slice p2 0 c2, .int .i64 0]) (yl_move (by rfl) _ rfl _ rfl) ?_
  simp only [Act.put, List.setIfInBounds_toArray, List.set_cons_zero, List.set_cons_succ]
  refine wl_yield (o := ⟨_, _, _, _, _, _⟩) (.slice p2 0 c2) (yl_extract0 (by rfl) _ rfl _ _ rfl) ?_
  simp only [Act.put, List.setIfInBounds_toArray, List.set_cons_zero, List.set_cons_succ]
  refine wl_yield (o := ⟨_, _, _, _, _, _⟩) (.int .i64 0) (yl_extract1 (by rfl) _ rfl _ _ rfl) ?_
  simp only [Act.put, List.setIfInBounds_toArray, List.set_cons_zero, List.set_cons_succ]
  refine wl_yield (o := ⟨_, _, _, _, _, _⟩) (.slice p2 0 c2) (yl_assign (by rfl) _ rfl _ rfl) ?_
  simp only [Act.put, List.setIfInBounds_toArray, List.set_cons_zero, List.set_cons_succ]
  refine wl_yield (o := ⟨_, _, _, _, _, _⟩) (.int .i64 0) (yl_assign (by rfl) _ rfl _ rfl) ?_
  simp only [Act.put, List.setIfInBounds_toArray, List.set_cons_zero, List.set_cons_succ]
  refine wpList_nil ?_
  refine hK3 _ _ ?_
  clear hK3 K3
  refine wp_seq_k (fun K4 hK4 => ?_)
  refine wp_region_lit ?_
  refine wl_call (o := ⟨_, _, _, _, _, _⟩) (by rfl) 30 _ _ rfl #[.int .i64 0] rfl (run_call Tryz.func30 (by kernel_rfl) (by kernel_rfl)) ?_
  refine (five_any 0 (by omega) (by omega) _).mono ?_
  rintro r v5 ⟨⟨f1, rfl, HF1⟩, kb⟩
  replace D := D.trans (kb.mono D.size)
  replace HA := HA.on kb
  replace hb1 := hb1.on kb
  replace HO := HO.on kb
  replace hb2 := hb2.on kb
  clear kb
  refine ⟨EC.val f1, rfl, ?_⟩
  simp only [Act.put, List.setIfInBounds_toArray, List.set_cons_zero, List.set_cons_succ]
  refine wl_call (o := ⟨_, _, _, _, _, _⟩) (by rfl) 30 _ _ rfl #[.int .i64 1] rfl (run_call Tryz.func30 (by kernel_rfl) (by kernel_rfl)) ?_
  refine (five_any 1 (by omega) (by omega) _).mono ?_
  rintro r v6 ⟨⟨f2, rfl, HF2⟩, kb⟩
  replace D := D.trans (kb.mono D.size)
  replace HA := HA.on kb
  replace hb1 := hb1.on kb
  replace HO := HO.on kb
  replace hb2 := hb2.on kb
  replace HF1 := HF1.on kb
  clear kb
  refine ⟨EC.val f2, rfl, ?_⟩
  simp only [Act.put, List.setIfInBounds_toArray, List.set_cons_zero, List.set_cons_succ]
  refine wl_row2X (o := ⟨_, _, _, _, _, _⟩) (by rfl) _ _ rfl rfl rfl HF1 HF2 (fun v7 pr HR2 kb => ?_)
  simp only [Act.put, List.setIfInBounds_toArray, List.set_cons_zero, List.set_cons_succ]
  replace D := D.trans (kb.mono D.size)
  replace HA := HA.on kb
  replace hb1 := hb1.on kb
  replace HO := HO.on kb
  replace hb2 := hb2.on kb
  replace HF1 := HF1.on kb
  replace HF2 := HF2.on kb
  clear kb
  refine wl_call (o := ⟨_, _, _, _, _, _⟩) (by rfl) 27 _ _ rfl #[.slice pr 2 2] rfl (run_call Tryz.func27 (by kernel_rfl) (by kernel_rfl)) ?_
  refine (c_and HR2 (by simp) cp2).mono ?_
  rintro r v8 ⟨⟨a2, rfl, HB⟩, kb⟩
  replace D := D.trans (kb.mono D.size)
  replace HA := HA.on kb
  replace hb1 := hb1.on kb
  replace HO := HO.on kb
  replace hb2 := hb2.on kb
  replace HF1 := HF1.on kb
  replace HF2 := HF2.on kb
  clear kb
  refine ⟨EC.val a2, rfl, ?_⟩
  simp only [Act.put, List.setIfInBounds_toArray, List.set_cons_zero, List.set_cons_succ]
  refine wl_call (o := ⟨_, _, _, _, _, _⟩) (by rfl) 25 _ _ rfl #[EC.val a2] rfl (run_call Tryz.func25 (by kernel_rfl) (by kernel_rfl)) ?_
  refine (c_not HB cp3).mono ?_
  rintro r v9 ⟨⟨n1, rfl, HN⟩, kb⟩
  replace D := D.trans (kb.mono D.size)
  replace HA := HA.on kb
  replace hb1 := hb1.on kb
  replace HO := HO.on kb
  replace hb2 := hb2.on kb
  replace HF1 := HF1.on kb
  replace HF2 := HF2.on kb
  replace HB := HB.on kb
  clear kb
  refine ⟨EC.val n1, rfl, ?_⟩
  simp only [Act.put, List.setIfInBounds_toArray, List.set_cons_zero, List.set_cons_succ]
  refine wl_call (o := ⟨_, _, _, _, _, _⟩) (by rfl) 12 _ _ rfl #[EC.val n1] rfl (run_call Tryz.func12 (by kernel_rfl) (by kernel_rfl)) ?_
  refine (dnfOf_any 3 _ xAw _ HN (by omega)).mono ?_
  rintro r v10 ⟨hq, kb⟩
  replace D := D.trans (kb.mono D.size)
  replace HA := HA.on kb
  replace hb1 := hb1.on kb
  replace HO := HO.on kb
  replace hb2 := hb2.on kb
  replace HF1 := HF1.on kb
  replace HF2 := HF2.on kb
  replace HB := HB.on kb
  replace HN := HN.on kb
  clear kb
  rw [aw_of3] at hq
  obtain ⟨u3, rfl, hb3, hn3⟩ := hq
  obtain ⟨p3, c3, rfl⟩ := hb3.sl
  refine ⟨.tuple #[.slice p3 2 c3, .int .i64 0], rfl, ?_⟩
  simp only [Act.put, List.setIfInBounds_toArray, List.set_cons_zero, List.set_cons_succ]
  refine wl_yield (o := ⟨_, _, _, _, _, _⟩) (.tuple #[.slice p3 2 c3, .int .i64 0]) (yl_move (by rfl) _ rfl _ rfl) ?_
  simp only [Act.put, List.setIfInBounds_toArray, List.set_cons_zero, List.set_cons_succ]
  refine wl_yield (o := ⟨_, _, _, _, _, _⟩) (.slice p3 2 c3) (yl_extract0 (by rfl) _ rfl _ _ rfl) ?_
  simp only [Act.put, List.setIfInBounds_toArray, List.set_cons_zero, List.set_cons_succ]
  refine wl_yield (o := ⟨_, _, _, _, _, _⟩) (.int .i64 0) (yl_extract1 (by rfl) _ rfl _ _ rfl) ?_
  simp only [Act.put, List.setIfInBounds_toArray, List.set_cons_zero, List.set_cons_succ]
  refine wl_yield (o := ⟨_, _, _, _, _, _⟩) (.slice p3 2 c3) (yl_assign (by rfl) _ rfl _ rfl) ?_
  simp only [Act.put, List.setIfInBounds_toArray, List.set_cons_zero, List.set_cons_succ]
  refine wl_yield (o := ⟨_, _, _, _, _, _⟩) (.int .i64 0) (yl_assign (by rfl) _ rfl _ rfl) ?_
  simp only [Act.put, List.setIfInBounds_toArray, List.set_cons_zero, List.set_cons_succ]
  refine wpList_nil ?_
  refine hK4 _ _ ?_
  clear hK4 K4
  refine wp_seq_k (fun K5 hK5 => ?_)
  refine wp_region_lit ?_
  refine wl_yield (o := ⟨_, _, _, _, _, _⟩) (EC.val ec0) (yl_zeroX (by rfl) rfl) ?_
  simp only [Act.put, List.setIfInBounds_toArray, List.set_cons_zero, List.set_cons_succ]
  refine wl_call (o := ⟨_, _, _, _, _, _⟩) (by rfl) 12 _ _ rfl #[EC.val ec0] rfl (run_call Tryz.func12 (by kernel_rfl) (by kernel_rfl)) ?_
  refine (dnfOf_any 1 _ noX _ (noX_at _) (by omega)).mono ?_
  rintro r v11 ⟨hq, kb⟩
  replace D := D.trans (kb.mono D.size)
  replace HA := HA.on kb
  replace hb1 := hb1.on kb
  replace HO := HO.on kb
  replace hb2 := hb2.on kb
  replace HF1 := HF1.on kb
  replace HF2 := HF2.on kb
  replace HB := HB.on kb
  replace HN := HN.on kb
  replace hb3 := hb3.on kb
  clear kb
  rw [aw_of4] at hq
  obtain ⟨u4, rfl, hb4, hn4⟩ := hq
  obtain ⟨p4, c4, rfl⟩ := hb4.sl
  refine ⟨.tuple #[.slice p4 0 c4, .int .i64 2], rfl, ?_⟩
  simp only [Act.put, List.setIfInBounds_toArray, List.set_cons_zero, List.set_cons_succ]
  refine wl_yield (o := ⟨_, _, _, _, _, _⟩) (.tuple #[.slice p4 0 c4, .int .i64 2]) (yl_move (by rfl) _ rfl _ rfl) ?_
  simp only [Act.put, List.setIfInBounds_toArray, List.set_cons_zero, List.set_cons_succ]
  refine wl_yield (o := ⟨_, _, _, _, _, _⟩) (.slice p4 0 c4) (yl_extract0 (by rfl) _ rfl _ _ rfl) ?_
  simp only [Act.put, List.setIfInBounds_toArray, List.set_cons_zero, List.set_cons_succ]
  refine wl_yield (o := ⟨_, _, _, _, _, _⟩) (.int .i64 2) (yl_extract1 (by rfl) _ rfl _ _ rfl) ?_
  simp only [Act.put, List.setIfInBounds_toArray, List.set_cons_zero, List.set_cons_succ]
  refine wl_yield (o := ⟨_, _, _, _, _, _⟩) (.slice p4 0 c4) (yl_assign (by rfl) _ rfl _ rfl) ?_
  simp only [Act.put, List.setIfInBounds_toArray, List.set_cons_zero, List.set_cons_succ]
  refine wl_yield (o := ⟨_, _, _, _, _, _⟩) (.int .i64 2) (yl_assign (by rfl) _ rfl _ rfl) ?_
  simp only [Act.put, List.setIfInBounds_toArray, List.set_cons_zero, List.set_cons_succ]
  refine wpList_nil ?_
  refine hK5 _ _ ?_
  clear hK5 K5
  refine wp_seq_k (fun K6 hK6 => ?_)
  refine wp_region_lit ?_
  refine wl_yield (o := ⟨_, _, _, _, _, _⟩) (.slice p1 1 c1) (yl_move (by rfl) _ rfl _ rfl) ?_
  simp only [Act.put, List.setIfInBounds_toArray, List.set_cons_zero, List.set_cons_succ]
  refine wl_yield (o := ⟨_, _, _, _, _, _⟩) (.int .i64 1) (yl_lenF (by rfl) _ rfl _ _ _ rfl) ?_
  simp only [Act.put, List.setIfInBounds_toArray, List.set_cons_zero, List.set_cons_succ]
  refine wl_yield (o := ⟨_, _, _, _, _, _⟩) (.bool true) (yl_eqlI (by rfl) _ _ _ rfl (1) (1) true rfl rfl (by decide)) ?_
  simp only [Act.put, List.setIfInBounds_toArray, List.set_cons_zero, List.set_cons_succ]
  refine wl_yield (o := ⟨_, _, _, _, _, _⟩) (.bool true) (yl_move (by rfl) _ rfl _ rfl) ?_
  simp only [Act.put, List.setIfInBounds_toArray, List.set_cons_zero, List.set_cons_succ]
  refine wl_yield (o := ⟨_, _, _, _, _, _⟩) (.int .i64 0) (yl_move (by rfl) _ rfl _ rfl) ?_
  simp only [Act.put, List.setIfInBounds_toArray, List.set_cons_zero, List.set_cons_succ]
  refine wl_yield (o := ⟨_, _, _, _, _, _⟩) (.bool true) (yl_eqE (by rfl) _ _ _ rfl (0) (0) true rfl rfl (by decide)) ?_
  simp only [Act.put, List.setIfInBounds_toArray, List.set_cons_zero, List.set_cons_succ]
  refine wl_yield (o := ⟨_, _, _, _, _, _⟩) (.bool true) (yl_pickT (by rfl) _ _ _ rfl rfl _ rfl) ?_
  simp only [Act.put, List.setIfInBounds_toArray, List.set_cons_zero, List.set_cons_succ]
  refine wl_yield (o := ⟨_, _, _, _, _, _⟩) (.bool true) (yl_move (by rfl) _ rfl _ rfl) ?_
  simp only [Act.put, List.setIfInBounds_toArray, List.set_cons_zero, List.set_cons_succ]
  refine wl_yield (o := ⟨_, _, _, _, _, _⟩) (.slice p2 0 c2) (yl_move (by rfl) _ rfl _ rfl) ?_
  simp only [Act.put, List.setIfInBounds_toArray, List.set_cons_zero, List.set_cons_succ]
  refine wl_yield (o := ⟨_, _, _, _, _, _⟩) (.int .i64 0) (yl_lenF (by rfl) _ rfl _ _ _ rfl) ?_
  simp only [Act.put, List.setIfInBounds_toArray, List.set_cons_zero, List.set_cons_succ]
  refine wl_yield (o := ⟨_, _, _, _, _, _⟩) (.bool true) (yl_eqlI (by rfl) _ _ _ rfl (0) (0) true rfl rfl (by decide)) ?_
  simp only [Act.put, List.setIfInBounds_toArray, List.set_cons_zero, List.set_cons_succ]
  refine wl_yield (o := ⟨_, _, _, _, _, _⟩) (.bool true) (yl_pickT (by rfl) _ _ _ rfl rfl _ rfl) ?_
  simp only [Act.put, List.setIfInBounds_toArray, List.set_cons_zero, List.set_cons_succ]
  refine wl_yield (o := ⟨_, _, _, _, _, _⟩) (.bool true) (yl_move (by rfl) _ rfl _ rfl) ?_
  simp only [Act.put, List.setIfInBounds_toArray, List.set_cons_zero, List.set_cons_succ]
  refine wl_yield (o := ⟨_, _, _, _, _, _⟩) (.int .i64 0) (yl_move (by rfl) _ rfl _ rfl) ?_
  simp only [Act.put, List.setIfInBounds_toArray, List.set_cons_zero, List.set_cons_succ]
  refine wl_yield (o := ⟨_, _, _, _, _, _⟩) (.bool true) (yl_eqE (by rfl) _ _ _ rfl (0) (0) true rfl rfl (by decide)) ?_
  simp only [Act.put, List.setIfInBounds_toArray, List.set_cons_zero, List.set_cons_succ]
  refine wl_yield (o := ⟨_, _, _, _, _, _⟩) (.bool true) (yl_pickT (by rfl) _ _ _ rfl rfl _ rfl) ?_
  simp only [Act.put, List.setIfInBounds_toArray, List.set_cons_zero, List.set_cons_succ]
  refine wl_yield (o := ⟨_, _, _, _, _, _⟩) (.bool true) (yl_move (by rfl) _ rfl _ rfl) ?_
  simp only [Act.put, List.setIfInBounds_toArray, List.set_cons_zero, List.set_cons_succ]
  refine wl_yield (o := ⟨_, _, _, _, _, _⟩) (.slice p3 2 c3) (yl_move (by rfl) _ rfl _ rfl) ?_
  simp only [Act.put, List.setIfInBounds_toArray, List.set_cons_zero, List.set_cons_succ]
  refine wl_yield (o := ⟨_, _, _, _, _, _⟩) (.int .i64 2) (yl_lenF (by rfl) _ rfl _ _ _ rfl) ?_
  simp only [Act.put, List.setIfInBounds_toArray, List.set_cons_zero, List.set_cons_succ]
  refine wl_yield (o := ⟨_, _, _, _, _, _⟩) (.bool true) (yl_eqlI (by rfl) _ _ _ rfl (2) (2) true rfl rfl (by decide)) ?_
  simp only [Act.put, List.setIfInBounds_toArray, List.set_cons_zero, List.set_cons_succ]
  refine wl_yield (o := ⟨_, _, _, _, _, _⟩) (.bool true) (yl_pickT (by rfl) _ _ _ rfl rfl _ rfl) ?_
  simp only [Act.put, List.setIfInBounds_toArray, List.set_cons_zero, List.set_cons_succ]
  refine wl_yield (o := ⟨_, _, _, _, _, _⟩) (.bool true) (yl_move (by rfl) _ rfl _ rfl) ?_
  simp only [Act.put, List.setIfInBounds_toArray, List.set_cons_zero, List.set_cons_succ]
  refine wl_yield (o := ⟨_, _, _, _, _, _⟩) (.int .i64 0) (yl_move (by rfl) _ rfl _ rfl) ?_
  simp only [Act.put, List.setIfInBounds_toArray, List.set_cons_zero, List.set_cons_succ]
  refine wl_yield (o := ⟨_, _, _, _, _, _⟩) (.bool true) (yl_eqE (by rfl) _ _ _ rfl (0) (0) true rfl rfl (by decide)) ?_
  simp only [Act.put, List.setIfInBounds_toArray, List.set_cons_zero, List.set_cons_succ]
  refine wl_yield (o := ⟨_, _, _, _, _, _⟩) (.bool true) (yl_pickT (by rfl) _ _ _ rfl rfl _ rfl) ?_
  simp only [Act.put, List.setIfInBounds_toArray, List.set_cons_zero, List.set_cons_succ]
  refine wl_yield (o := ⟨_, _, _, _, _, _⟩) (.bool true) (yl_move (by rfl) _ rfl _ rfl) ?_
  simp only [Act.put, List.setIfInBounds_toArray, List.set_cons_zero, List.set_cons_succ]
  refine wl_yield (o := ⟨_, _, _, _, _, _⟩) (.int .i64 2) (yl_move (by rfl) _ rfl _ rfl) ?_
  simp only [Act.put, List.setIfInBounds_toArray, List.set_cons_zero, List.set_cons_succ]
  refine wl_yield (o := ⟨_, _, _, _, _, _⟩) (.bool true) (yl_eqE (by rfl) _ _ _ rfl (2) (2) true rfl rfl (by decide)) ?_
  simp only [Act.put, List.setIfInBounds_toArray, List.set_cons_zero, List.set_cons_succ]
  refine wl_yield (o := ⟨_, _, _, _, _, _⟩) (.bool true) (yl_pickT (by rfl) _ _ _ rfl rfl _ rfl) ?_
  simp only [Act.put, List.setIfInBounds_toArray, List.set_cons_zero, List.set_cons_succ]
  refine wl_yield (o := ⟨_, _, _, _, _, _⟩) (.bool true) (yl_move (by rfl) _ rfl _ rfl) ?_
  simp only [Act.put, List.setIfInBounds_toArray, List.set_cons_zero, List.set_cons_succ]
  refine wl_yield (o := ⟨_, _, _, _, _, _⟩) (.slice p3 2 c3) (yl_move (by rfl) _ rfl _ rfl) ?_
  simp only [Act.put, List.setIfInBounds_toArray, List.set_cons_zero, List.set_cons_succ]
  refine wl_yield (o := ⟨_, _, _, _, _, _⟩) (evVal evZ) (yl_zeroE (by rfl) rfl) ?_
  simp only [Act.put, List.setIfInBounds_toArray, List.set_cons_zero, List.set_cons_succ]
  refine wl_call (o := ⟨_, _, _, _, _, _⟩) (by rfl) 15 _ _ rfl #[.slice p3 2 c3, evVal evZ] rfl (run_call Tryz.func15 (by kernel_rfl) (by kernel_rfl)) ?_
  refine (progHas_any _ lAw evZ _ hb3 aw_fl3 evZ_fit evZ_in).mono ?_
  rintro r v12 ⟨rfl, kb⟩
  replace D := D.trans (kb.mono D.size)
  replace HA := HA.on kb
  replace hb1 := hb1.on kb
  replace HO := HO.on kb
  replace hb2 := hb2.on kb
  replace HF1 := HF1.on kb
  replace HF2 := HF2.on kb
  replace HB := HB.on kb
  replace HN := HN.on kb
  replace hb3 := hb3.on kb
  replace hb4 := hb4.on kb
  clear kb
  refine ⟨.bool true, ret_bool aw_h1, ?_⟩
  simp only [Act.put, List.setIfInBounds_toArray, List.set_cons_zero, List.set_cons_succ]
  refine wl_yield (o := ⟨_, _, _, _, _, _⟩) (.bool true) (yl_pickT (by rfl) _ _ _ rfl rfl _ rfl) ?_
  simp only [Act.put, List.setIfInBounds_toArray, List.set_cons_zero, List.set_cons_succ]
  refine wl_yield (o := ⟨_, _, _, _, _, _⟩) (.bool true) (yl_move (by rfl) _ rfl _ rfl) ?_
  simp only [Act.put, List.setIfInBounds_toArray, List.set_cons_zero, List.set_cons_succ]
  refine wl_yield (o := ⟨_, _, _, _, _, _⟩) (.slice p1 1 c1) (yl_move (by rfl) _ rfl _ rfl) ?_
  simp only [Act.put, List.setIfInBounds_toArray, List.set_cons_zero, List.set_cons_succ]
  refine wl_yield (o := ⟨_, _, _, _, _, _⟩) (evVal evZ) (yl_zeroE (by rfl) rfl) ?_
  simp only [Act.put, List.setIfInBounds_toArray, List.set_cons_zero, List.set_cons_succ]
  refine wl_call (o := ⟨_, _, _, _, _, _⟩) (by rfl) 15 _ _ rfl #[.slice p1 1 c1, evVal evZ] rfl (run_call Tryz.func15 (by kernel_rfl) (by kernel_rfl)) ?_
  refine (progHas_any _ [allBx] evZ _ hb1 aw_fl1 evZ_fit evZ_in).mono ?_
  rintro r v13 ⟨rfl, kb⟩
  replace D := D.trans (kb.mono D.size)
  replace HA := HA.on kb
  replace hb1 := hb1.on kb
  replace HO := HO.on kb
  replace hb2 := hb2.on kb
  replace HF1 := HF1.on kb
  replace HF2 := HF2.on kb
  replace HB := HB.on kb
  replace HN := HN.on kb
  replace hb3 := hb3.on kb
  replace hb4 := hb4.on kb
  clear kb
  refine ⟨.bool true, ret_bool aw_h2, ?_⟩
  simp only [Act.put, List.setIfInBounds_toArray, List.set_cons_zero, List.set_cons_succ]
  refine wl_yield (o := ⟨_, _, _, _, _, _⟩) (.bool true) (yl_pickT (by rfl) _ _ _ rfl rfl _ rfl) ?_
  simp only [Act.put, List.setIfInBounds_toArray, List.set_cons_zero, List.set_cons_succ]
  refine wl_yield (o := ⟨_, _, _, _, _, _⟩) (.bool true) (yl_move (by rfl) _ rfl _ rfl) ?_
  simp only [Act.put, List.setIfInBounds_toArray, List.set_cons_zero, List.set_cons_succ]
  refine wl_yield (o := ⟨_, _, _, _, _, _⟩) (.slice p3 2 c3) (yl_move (by rfl) _ rfl _ rfl) ?_
  simp only [Act.put, List.setIfInBounds_toArray, List.set_cons_zero, List.set_cons_succ]
  refine wl_yield (o := ⟨_, _, _, _, _, _⟩) (.agg #[.int .i64 1, .int .i64 5, .string ⟨#[]⟩]) (yl_val5 (by rfl) rfl) ?_
  simp only [Act.put, List.setIfInBounds_toArray, List.set_cons_zero, List.set_cons_succ]
  refine wl_yield (o := ⟨_, _, _, _, _, _⟩) (.agg #[.int .i64 1, .int .i64 5, .string ⟨#[]⟩]) (yl_val5 (by rfl) rfl) ?_
  simp only [Act.put, List.setIfInBounds_toArray, List.set_cons_zero, List.set_cons_succ]
  refine wl_yield (o := ⟨_, _, _, _, _, _⟩) (evVal eAw) (yl_ev16 (by rfl) _ _ rfl rfl rfl) ?_
  simp only [Act.put, List.setIfInBounds_toArray, List.set_cons_zero, List.set_cons_succ]
  refine wl_call (o := ⟨_, _, _, _, _, _⟩) (by rfl) 15 _ _ rfl #[.slice p3 2 c3, evVal eAw] rfl (run_call Tryz.func15 (by kernel_rfl) (by kernel_rfl)) ?_
  refine (progHas_any _ lAw eAw _ hb3 aw_fl3 evAw_fit evAw_in).mono ?_
  rintro r v14 ⟨rfl, kb⟩
  replace D := D.trans (kb.mono D.size)
  replace HA := HA.on kb
  replace hb1 := hb1.on kb
  replace HO := HO.on kb
  replace hb2 := hb2.on kb
  replace HF1 := HF1.on kb
  replace HF2 := HF2.on kb
  replace HB := HB.on kb
  replace HN := HN.on kb
  replace hb3 := hb3.on kb
  replace hb4 := hb4.on kb
  clear kb
  refine ⟨.bool false, ret_bool aw_h3, ?_⟩
  simp only [Act.put, List.setIfInBounds_toArray, List.set_cons_zero, List.set_cons_succ]
  refine wl_yield (o := ⟨_, _, _, _, _, _⟩) (.bool true) (yl_not (by rfl) _ _ rfl false rfl) ?_
  simp only [Act.put, List.setIfInBounds_toArray, List.set_cons_zero, List.set_cons_succ]
  refine wl_yield (o := ⟨_, _, _, _, _, _⟩) (.bool true) (yl_pickT (by rfl) _ _ _ rfl rfl _ rfl) ?_
  simp only [Act.put, List.setIfInBounds_toArray, List.set_cons_zero, List.set_cons_succ]
  refine wl_yield (o := ⟨_, _, _, _, _, _⟩) (.bool true) (yl_assign (by rfl) _ rfl _ rfl) ?_
  simp only [Act.put, List.setIfInBounds_toArray, List.set_cons_zero, List.set_cons_succ]
  refine wpList_nil ?_
  refine hK6 _ _ ?_
  clear hK6 K6
  refine wp_ret ?_
  go_ret
  exact ⟨rfl, D⟩
end Go.Proofs.YtlfhpocfacaaeaaGreat
/-
  What a filter has, in the laws' words.
-/
set_option linter.unusedSimpArgs false
set_option linter.unusedVariables false
namespace Go.Proofs.YtlfhpocfacaaeaaGreat
open Go.RowKit

theorem ofF_zero {x : ExV} (h0 : (ofF x).2 = 0) : ∃ l, rightX x = true ∧ boxesX 8 x false = some l ∧ rightF l = true ∧ ofF x = (l, 0) := by
  cases hr : rightX x
  · rw [ofF_wrong hr] at h0; cases h0
  · cases ey : boxesX 8 x false with
    | none => rw [ofF_none hr ey] at h0; cases h0
    | some l =>
      cases hf : rightF l
      · rw [ofF_big hr ey hf] at h0; cases h0
      · exact ⟨l, rfl, rfl, hf, ofF_ok hr ey hf⟩
theorem ofF_err {x : ExV} (h0 : ¬ (ofF x).2 = 0) : (ofF x).1 = [] := by
  cases hr : rightX x
  · rw [ofF_wrong hr]
  · cases ey : boxesX 8 x false with
    | none => rw [ofF_none hr ey]
    | some l =>
      cases hf : rightF l
      · rw [ofF_big hr ey hf]
      · rw [ofF_ok hr ey hf] at h0; exact absurd rfl h0
/-- A filter has just the events of which its expression is so. -/
theorem ofF_has {n : Nat} {w : World} {c : EC} {x : ExV} (hx : Xp n w c x) (h0 : (ofF x).2 = 0) {e : EvV} (he : inE e) : rightX x = true ∧ hasL (ofF x).1 e = evalX x e := by
  obtain ⟨l, hr, ey, _, e1⟩ := ofF_zero h0
  rw [e1]
  exact ⟨hr, boxes_eval hr (ExAt.i64 8 (ExAt.shrink n 8 hx (rightX_low hr))) ey he⟩
theorem dnfOf_has (n : Nat) (c : EC) (x : ExV) (w : World) (hx : Xp n w c x) (hn : n ≤ 1000) :
    Calls Tryz.prog 12 #[c.val] w fun r w' => (∃ (l : List BoxV) (z : Int) (p : Option Addr) (k : Nat), r = .returned (.tuple #[.slice p l.length k, .int .i64 z]) ∧ Bxs w' (.slice p l.length k) l ∧ FitL l ∧ (z = 0 → rightX x = true ∧ ∀ e, inE e → hasL l e = evalX x e) ∧ (¬ z = 0 → l = []) ∧ (l, z) = ofF x) ∧ Below w.heap.size w w' := by
  refine (dnfOf_any n c x w hx hn).mono ?_
  rintro r w' ⟨⟨u, rfl, hb, hnl⟩, kb⟩
  have fl := ofF_fit hb
  obtain ⟨p, k, rfl⟩ := hb.sl
  exact ⟨⟨_, _, p, k, rfl, hb, fl, fun h => ⟨(by obtain ⟨_, h1, _⟩ := ofF_zero h; exact h1), fun e he => (ofF_has hx h he).2⟩, ofF_err, rfl⟩, kb⟩
end Go.Proofs.YtlfhpocfacaaeaaGreat
/-
  What the closings of the third layer share: a row of ranges and a value, opened from their readings.
-/
set_option linter.unusedSimpArgs false
set_option linter.unusedVariables false
namespace Go.Proofs.YtlfhpocfacaaeaaGreat
open Go.ChangeShapes Go.WideShapes Go.ChangeAt Go.WideMaps Go.WideElems Go.RowKit Go.Joins

theorem cellsVal : Tryz.prog.cellsOf 40 = 3 := by kernel_rfl
section
variable {H : Type} {enc : TypeId × Value → H} {W : World} {base : Nat} {sp : Nat → Bool} {held : Bool}
end
section
variable {H : Type} {enc : TypeId × Value → H} {W : World}
end
end Go.Proofs.YtlfhpocfacaaeaaGreat
/-
  An event opened from its reading.
-/
set_option linter.unusedSimpArgs false
set_option linter.unusedVariables false
namespace Go.Proofs.YtlfhpocfacaaeaaGreat
open Go.Deep Go.ChangeShapes Go.WideShapes Go.ChangeAt Go.WideMaps Go.WideElems Go.RowKit Go.Joins

theorem cut3 {α : Type} (k : Nat) {l : List α} (h : l.length = k + 3) : ∃ a b c r, l = a :: b :: c :: r ∧ r.length = k := by
  cases l with
  | nil => simp at h
  | cons a l => cases l with
    | nil => simp at h
    | cons b l => cases l with
      | nil => simp at h
      | cons c l => exact ⟨a, b, c, l, rfl, by simpa using h⟩
theorem okWide_array {P : Program} {w : World} {r : Reach} {base : Nat} {t : TypeId} {v : Value} {n : Nat} {e : TypeId} (ht : P.underlying t = some (.array n e)) (h : Value.okWide P w r base t v) : ∃ cs, v = .agg cs ∧ cs.size = P.cellsOf t := by
  simp only [Value.okWide, ht] at h
  obtain ⟨cs, h1, h2, _⟩ := h
  exact ⟨cs, h1, h2⟩
theorem cellsEv : Tryz.prog.cellsOf 42 = 12 := by kernel_rfl
section
variable {H : Type} {enc : TypeId × Value → H} {W : World}
set_option maxRecDepth 100000 in
theorem open_cells {m : Nat} {c0 c1 c2 : Value} {y : DataW H × List MemPlace} (h : DataW.trod enc Tryz.prog W 0 (fun _ => true) true m 40 [c0, c1, c2] = some y) :
    ∃ (k n : Int) (s : ByteArray), c0 = .int .i64 k ∧ c1 = .int .i64 n ∧ c2 = .string s ∧ (Lit.int .i64 n).wf = true ∧ s.size ≤ maxLen := by
  obtain ⟨y0, y1, y2, m', rfl, _, h0, h1, h2⟩ := trod_struct3 Tryz.underlying40 h
  simp only [cellsI, cellsS] at h0 h1 h2
  obtain ⟨k, e0, rfl, wk⟩ := DataW.trod_int Tryz.underlying3 h0
  obtain ⟨n, e1, rfl, wn⟩ := DataW.trod_int Tryz.underlying3 h1
  obtain ⟨s, e2, rfl, ws⟩ := DataW.trod_string Tryz.underlying9 h2
  simp at e0 e1 e2
  subst e0 e1 e2
  exact ⟨k, n, s, rfl, rfl, rfl, wn, ws⟩
set_option maxRecDepth 100000 in
theorem open_evA {r : Reach} {b0 : Nat} {v : Value} {d : DataW H} {p : List MemPlace} (hv : Value.okWide Tryz.prog W r b0 42 v) (h : DataW.Trod enc Tryz.prog W 0 (fun _ => true) true 42 v d p) :
    ∃ e : EvV, v = evVal e ∧ evFit e ∧ inE e := by
  obtain ⟨cs, rfl, hsz⟩ := okWide_array Tryz.underlying42 hv
  rw [cellsEv] at hsz
  obtain ⟨l⟩ := cs
  obtain ⟨a0, a1, a2, l1, rfl, q1⟩ := cut3 9 (show l.length = 9 + 3 from hsz)
  obtain ⟨b0, b1, b2, l2, rfl, q2⟩ := cut3 6 q1
  obtain ⟨c0, c1, c2, l3, rfl, q3⟩ := cut3 3 q2
  obtain ⟨d0, d1, d2, l4, rfl, q4⟩ := cut3 0 q3
  obtain rfl : l4 = [] := List.length_eq_zero_iff.1 q4
  obtain ⟨fuel, hf⟩ := h
  obtain ⟨xs, m, _, hx, _, hlen, he⟩ := DataW.trod_array Tryz.underlying42 hf
  simp only [cellsVal, Value.cells] at he
  have g0 := he 0 (by omega)
  have g1 := he 1 (by omega)
  have g2 := he 2 (by omega)
  have g3 := he 3 (by omega)
  match xs, hlen with
  | [y0, y1, y2, y3], _ =>
    simp at g0 g1 g2 g3
    obtain ⟨k0, n0, s0, rfl, rfl, rfl, w1, w2⟩ := open_cells g0
    obtain ⟨k1, n1, s1, rfl, rfl, rfl, w4, w5⟩ := open_cells g1
    obtain ⟨k2, n2, s2, rfl, rfl, rfl, w7, w8⟩ := open_cells g2
    obtain ⟨k3, n3, s3, rfl, rfl, rfl, w10, w11⟩ := open_cells g3
    refine ⟨⟨(k0, n0, s0), (k1, n1, s1), (k2, n2, s2), (k3, n3, s3)⟩, rfl, ⟨w2, w5, w8, w11⟩, fun i hi => ?_⟩
    match i, hi with
    | 0, _ => exact bounds_i64 w1
    | 1, _ => exact bounds_i64 w4
    | 2, _ => exact bounds_i64 w7
    | 3, _ => exact bounds_i64 w10
end
end Go.Proofs.YtlfhpocfacaaeaaGreat
