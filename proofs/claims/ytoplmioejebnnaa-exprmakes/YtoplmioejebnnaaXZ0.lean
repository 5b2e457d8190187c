/-
  The walk of the law ExprMakes, a part.
-/
import Derived.Test.YtoplmioejebnnaaXZA
set_option linter.unusedSimpArgs false
set_option linter.unusedVariables false
namespace Go.Proofs.Ytoplmioejebnnaa
open Go.RowKit

set_option maxHeartbeats 16000000 in
set_option maxRecDepth 100000 in
theorem exprMakes_walk0 (n m : Nat) (c d : EC) (x y : ExV) (e : EvV) (w : World) (HA : Xp n w c x) (HB : Xp m w d y) (hf : evFit e) (hI : evalX x e = false) (hK : evalX y e = false) :
    Calls Try.prog 4 #[c.val, d.val, evVal e] w fun r w' => r = .returned (.bool true) ∧ Below w.heap.size w w' := by
  have D := Below.refl w.heap.size w
  go_enter Try.func4, Try.ntmps4
  refine wp_seq_k (fun K1 hK1 => ?_)
  refine wp_region_lit ?_
  refine wl_boxEx (o := ⟨_, _, _, _, _, _⟩) (by rfl) _ rfl rfl (fun v1 gb1 IA kb => ?_)
  simp only [Act.put, List.setIfInBounds_toArray, List.set_cons_zero, List.set_cons_succ]
  replace D := D.trans (kb.mono D.size)
  replace HA := HA.on kb
  replace HB := HB.on kb
  clear kb
  refine wl_boxEx (o := ⟨_, _, _, _, _, _⟩) (by rfl) _ rfl rfl (fun v2 gb2 IB kb => ?_)
  simp only [Act.put, List.setIfInBounds_toArray, List.set_cons_zero, List.set_cons_succ]
  replace D := D.trans (kb.mono D.size)
  replace HA := HA.on kb
  replace HB := HB.on kb
  replace IA := IA.on kb
  clear kb
  refine wl_evBox (o := ⟨_, _, _, _, _, _⟩) (by rfl) _ rfl rfl (fun v3 gb3 IE kb => ?_)
  simp only [Act.put, List.setIfInBounds_toArray, List.set_cons_zero, List.set_cons_succ]
  replace D := D.trans (kb.mono D.size)
  replace HA := HA.on kb
  replace HB := HB.on kb
  replace IA := IA.on kb
  replace IB := IB.on kb
  clear kb
  refine wl_yield (o := ⟨_, _, _, _, _, _⟩) (.bool false) (yl_assign (by rfl) _ rfl _ rfl) ?_
  simp only [Act.put, List.setIfInBounds_toArray, List.set_cons_zero, List.set_cons_succ]
  refine wpList_nil ?_
  refine hK1 _ _ ?_
  clear hK1 K1
  refine wp_seq_k (fun K2 hK2 => ?_)
  refine wp_seq_k (fun K3 hK3 => ?_)
  refine wp_region_lit ?_
  refine wl_call (o := ⟨_, _, _, _, _, _⟩) (by rfl) 9 _ _ rfl #[] rfl (run_call Try.func9 (by kernel_rfl) (by kernel_rfl)) ?_
  refine (awake5_any _).mono ?_
  rintro r v4 ⟨rfl, kb⟩
  replace D := D.trans (kb.mono D.size)
  replace HA := HA.on kb
  replace HB := HB.on kb
  replace IA := IA.on kb
  replace IB := IB.on kb
  replace IE := IE.on kb
  clear kb
  refine ⟨.bool true, rfl, ?_⟩
  simp only [Act.put, List.setIfInBounds_toArray, List.set_cons_zero, List.set_cons_succ]
  refine wl_yield (o := ⟨_, _, _, _, _, _⟩) (.bool false) (yl_not (by rfl) _ _ rfl true rfl) ?_
  simp only [Act.put, List.setIfInBounds_toArray, List.set_cons_zero, List.set_cons_succ]
  refine wl_yield (o := ⟨_, _, _, _, _, _⟩) (.bool false) (yl_move (by rfl) _ rfl _ rfl) ?_
  simp only [Act.put, List.setIfInBounds_toArray, List.set_cons_zero, List.set_cons_succ]
  refine wl_yield (o := ⟨_, _, _, _, _, _⟩) (EC.val c) (yl_ex (by rfl) _ rfl _ 0 rfl _ (fun _ h => by subst h; exact ExIn.ec IA)) ?_
  simp only [Act.put, List.setIfInBounds_toArray, List.set_cons_zero, List.set_cons_succ]
  refine wl_call (o := ⟨_, _, _, _, _, _⟩) (by rfl) 10 _ _ rfl #[EC.val c] rfl (run_call Try.func10 (by kernel_rfl) (by kernel_rfl)) ?_
  refine (c_refFew HA).mono ?_
  rintro r v5 ⟨rfl, kb⟩
  replace D := D.trans (kb.mono D.size)
  replace HA := HA.on kb
  replace HB := HB.on kb
  replace IA := IA.on kb
  replace IB := IB.on kb
  replace IE := IE.on kb
  clear kb
  cases hF : fewX n x
  · refine ⟨.bool false, rfl, ?_⟩
    simp only [Act.put, List.setIfInBounds_toArray, List.set_cons_zero, List.set_cons_succ]
    refine wl_yield (o := ⟨_, _, _, _, _, _⟩) (.bool true) (yl_not (by rfl) _ _ rfl false rfl) ?_
    simp only [Act.put, List.setIfInBounds_toArray, List.set_cons_zero, List.set_cons_succ]
    refine wl_yield (o := ⟨_, _, _, _, _, _⟩) (.bool true) (yl_pickF (by rfl) _ _ _ rfl rfl _ rfl) ?_
    simp only [Act.put, List.setIfInBounds_toArray, List.set_cons_zero, List.set_cons_succ]
    refine wl_yield (o := ⟨_, _, _, _, _, _⟩) (.bool true) (yl_move (by rfl) _ rfl _ rfl) ?_
    simp only [Act.put, List.setIfInBounds_toArray, List.set_cons_zero, List.set_cons_succ]
    refine wl_yield (o := ⟨_, _, _, _, _, _⟩) undef (yl_undef (by rfl)) ?_
    simp only [Act.put, List.setIfInBounds_toArray, List.set_cons_zero, List.set_cons_succ]
    refine wl_yield (o := ⟨_, _, _, _, _, _⟩) undef (yl_undef (by rfl)) ?_
    simp only [Act.put, List.setIfInBounds_toArray, List.set_cons_zero, List.set_cons_succ]
    refine wl_yield (o := ⟨_, _, _, _, _, _⟩) undef (yl_undef (by rfl)) ?_
    simp only [Act.put, List.setIfInBounds_toArray, List.set_cons_zero, List.set_cons_succ]
    refine wl_yield (o := ⟨_, _, _, _, _, _⟩) (.bool true) (yl_pickT (by rfl) _ _ _ rfl rfl _ rfl) ?_
    simp only [Act.put, List.setIfInBounds_toArray, List.set_cons_zero, List.set_cons_succ]
    refine wl_yield (o := ⟨_, _, _, _, _, _⟩) (.bool true) (yl_move (by rfl) _ rfl _ rfl) ?_
    simp only [Act.put, List.setIfInBounds_toArray, List.set_cons_zero, List.set_cons_succ]
    refine wl_yield (o := ⟨_, _, _, _, _, _⟩) undef (yl_undef (by rfl)) ?_
    simp only [Act.put, List.setIfInBounds_toArray, List.set_cons_zero, List.set_cons_succ]
    refine wl_yield (o := ⟨_, _, _, _, _, _⟩) undef (yl_undef (by rfl)) ?_
    simp only [Act.put, List.setIfInBounds_toArray, List.set_cons_zero, List.set_cons_succ]
    refine wl_yield (o := ⟨_, _, _, _, _, _⟩) undef (yl_undef (by rfl)) ?_
    simp only [Act.put, List.setIfInBounds_toArray, List.set_cons_zero, List.set_cons_succ]
    refine wl_yield (o := ⟨_, _, _, _, _, _⟩) (.bool true) (yl_pickT (by rfl) _ _ _ rfl rfl _ rfl) ?_
    simp only [Act.put, List.setIfInBounds_toArray, List.set_cons_zero, List.set_cons_succ]
    refine wl_yield (o := ⟨_, _, _, _, _, _⟩) (.bool true) (yl_move (by rfl) _ rfl _ rfl) ?_
    simp only [Act.put, List.setIfInBounds_toArray, List.set_cons_zero, List.set_cons_succ]
    refine wl_yield (o := ⟨_, _, _, _, _, _⟩) undef (yl_undef (by rfl)) ?_
    simp only [Act.put, List.setIfInBounds_toArray, List.set_cons_zero, List.set_cons_succ]
    refine wl_yield (o := ⟨_, _, _, _, _, _⟩) undef (yl_undef (by rfl)) ?_
    simp only [Act.put, List.setIfInBounds_toArray, List.set_cons_zero, List.set_cons_succ]
    refine wl_yield (o := ⟨_, _, _, _, _, _⟩) undef (yl_undef (by rfl)) ?_
    simp only [Act.put, List.setIfInBounds_toArray, List.set_cons_zero, List.set_cons_succ]
    refine wl_yield (o := ⟨_, _, _, _, _, _⟩) (.bool true) (yl_pickT (by rfl) _ _ _ rfl rfl _ rfl) ?_
    simp only [Act.put, List.setIfInBounds_toArray, List.set_cons_zero, List.set_cons_succ]
    refine wpList_nil ?_
    refine hK3 _ _ ?_
    clear hK3 K3
    refine wp_cond_true rfl ?_
    refine wp_seq_k (fun K4 hK4 => ?_)
    refine wp_region_lit ?_
    refine wl_call (o := ⟨_, _, _, _, _, _⟩) (by rfl) 9 _ _ rfl #[] rfl (run_call Try.func9 (by kernel_rfl) (by kernel_rfl)) ?_
    refine (awake5_any _).mono ?_
    rintro r v6 ⟨rfl, kb⟩
    replace D := D.trans (kb.mono D.size)
    replace HA := HA.on kb
    replace HB := HB.on kb
    replace IA := IA.on kb
    replace IB := IB.on kb
    replace IE := IE.on kb
    clear kb
    refine ⟨.bool true, rfl, ?_⟩
    simp only [Act.put, List.setIfInBounds_toArray, List.set_cons_zero, List.set_cons_succ]
    refine wl_yield (o := ⟨_, _, _, _, _, _⟩) (.bool true) (yl_assign (by rfl) _ rfl _ rfl) ?_
    simp only [Act.put, List.setIfInBounds_toArray, List.set_cons_zero, List.set_cons_succ]
    refine wpList_nil ?_
    refine hK4 _ _ ?_
    clear hK4 K4
    refine wp_ret ?_
    go_ret
    exact ⟨rfl, D⟩
  · refine ⟨.bool true, rfl, ?_⟩
    simp only [Act.put, List.setIfInBounds_toArray, List.set_cons_zero, List.set_cons_succ]
    refine wl_yield (o := ⟨_, _, _, _, _, _⟩) (.bool false) (yl_not (by rfl) _ _ rfl true rfl) ?_
    simp only [Act.put, List.setIfInBounds_toArray, List.set_cons_zero, List.set_cons_succ]
    refine wl_yield (o := ⟨_, _, _, _, _, _⟩) (.bool false) (yl_pickF (by rfl) _ _ _ rfl rfl _ rfl) ?_
    simp only [Act.put, List.setIfInBounds_toArray, List.set_cons_zero, List.set_cons_succ]
    refine wl_yield (o := ⟨_, _, _, _, _, _⟩) (.bool false) (yl_move (by rfl) _ rfl _ rfl) ?_
    simp only [Act.put, List.setIfInBounds_toArray, List.set_cons_zero, List.set_cons_succ]
    refine wl_yield (o := ⟨_, _, _, _, _, _⟩) (EC.val d) (yl_ex (by rfl) _ rfl _ 0 rfl _ (fun _ h => by subst h; exact ExIn.ec IB)) ?_
    simp only [Act.put, List.setIfInBounds_toArray, List.set_cons_zero, List.set_cons_succ]
    refine wl_call (o := ⟨_, _, _, _, _, _⟩) (by rfl) 10 _ _ rfl #[EC.val d] rfl (run_call Try.func10 (by kernel_rfl) (by kernel_rfl)) ?_
    refine (c_refFew HB).mono ?_
    rintro r v6 ⟨rfl, kb⟩
    replace D := D.trans (kb.mono D.size)
    replace HA := HA.on kb
    replace HB := HB.on kb
    replace IA := IA.on kb
    replace IB := IB.on kb
    replace IE := IE.on kb
    clear kb
    cases hG : fewX m y
    · refine ⟨.bool false, rfl, ?_⟩
      simp only [Act.put, List.setIfInBounds_toArray, List.set_cons_zero, List.set_cons_succ]
      refine wl_yield (o := ⟨_, _, _, _, _, _⟩) (.bool true) (yl_not (by rfl) _ _ rfl false rfl) ?_
      simp only [Act.put, List.setIfInBounds_toArray, List.set_cons_zero, List.set_cons_succ]
      refine wl_yield (o := ⟨_, _, _, _, _, _⟩) (.bool true) (yl_pickF (by rfl) _ _ _ rfl rfl _ rfl) ?_
      simp only [Act.put, List.setIfInBounds_toArray, List.set_cons_zero, List.set_cons_succ]
      refine wl_yield (o := ⟨_, _, _, _, _, _⟩) (.bool true) (yl_move (by rfl) _ rfl _ rfl) ?_
      simp only [Act.put, List.setIfInBounds_toArray, List.set_cons_zero, List.set_cons_succ]
      refine wl_yield (o := ⟨_, _, _, _, _, _⟩) undef (yl_undef (by rfl)) ?_
      simp only [Act.put, List.setIfInBounds_toArray, List.set_cons_zero, List.set_cons_succ]
      refine wl_yield (o := ⟨_, _, _, _, _, _⟩) undef (yl_undef (by rfl)) ?_
      simp only [Act.put, List.setIfInBounds_toArray, List.set_cons_zero, List.set_cons_succ]
      refine wl_yield (o := ⟨_, _, _, _, _, _⟩) undef (yl_undef (by rfl)) ?_
      simp only [Act.put, List.setIfInBounds_toArray, List.set_cons_zero, List.set_cons_succ]
      refine wl_yield (o := ⟨_, _, _, _, _, _⟩) (.bool true) (yl_pickT (by rfl) _ _ _ rfl rfl _ rfl) ?_
      simp only [Act.put, List.setIfInBounds_toArray, List.set_cons_zero, List.set_cons_succ]
      refine wl_yield (o := ⟨_, _, _, _, _, _⟩) (.bool true) (yl_move (by rfl) _ rfl _ rfl) ?_
      simp only [Act.put, List.setIfInBounds_toArray, List.set_cons_zero, List.set_cons_succ]
      refine wl_yield (o := ⟨_, _, _, _, _, _⟩) undef (yl_undef (by rfl)) ?_
      simp only [Act.put, List.setIfInBounds_toArray, List.set_cons_zero, List.set_cons_succ]
      refine wl_yield (o := ⟨_, _, _, _, _, _⟩) undef (yl_undef (by rfl)) ?_
      simp only [Act.put, List.setIfInBounds_toArray, List.set_cons_zero, List.set_cons_succ]
      refine wl_yield (o := ⟨_, _, _, _, _, _⟩) undef (yl_undef (by rfl)) ?_
      simp only [Act.put, List.setIfInBounds_toArray, List.set_cons_zero, List.set_cons_succ]
      refine wl_yield (o := ⟨_, _, _, _, _, _⟩) (.bool true) (yl_pickT (by rfl) _ _ _ rfl rfl _ rfl) ?_
      simp only [Act.put, List.setIfInBounds_toArray, List.set_cons_zero, List.set_cons_succ]
      refine wpList_nil ?_
      refine hK3 _ _ ?_
      clear hK3 K3
      refine wp_cond_true rfl ?_
      refine wp_seq_k (fun K4 hK4 => ?_)
      refine wp_region_lit ?_
      refine wl_call (o := ⟨_, _, _, _, _, _⟩) (by rfl) 9 _ _ rfl #[] rfl (run_call Try.func9 (by kernel_rfl) (by kernel_rfl)) ?_
      refine (awake5_any _).mono ?_
      rintro r v7 ⟨rfl, kb⟩
      replace D := D.trans (kb.mono D.size)
      replace HA := HA.on kb
      replace HB := HB.on kb
      replace IA := IA.on kb
      replace IB := IB.on kb
      replace IE := IE.on kb
      clear kb
      refine ⟨.bool true, rfl, ?_⟩
      simp only [Act.put, List.setIfInBounds_toArray, List.set_cons_zero, List.set_cons_succ]
      refine wl_yield (o := ⟨_, _, _, _, _, _⟩) (.bool true) (yl_assign (by rfl) _ rfl _ rfl) ?_
      simp only [Act.put, List.setIfInBounds_toArray, List.set_cons_zero, List.set_cons_succ]
      refine wpList_nil ?_
      refine hK4 _ _ ?_
      clear hK4 K4
      refine wp_ret ?_
      go_ret
      exact ⟨rfl, D⟩
    · refine ⟨.bool true, rfl, ?_⟩
      simp only [Act.put, List.setIfInBounds_toArray, List.set_cons_zero, List.set_cons_succ]
      refine wl_yield (o := ⟨_, _, _, _, _, _⟩) (.bool false) (yl_not (by rfl) _ _ rfl true rfl) ?_
      simp only [Act.put, List.setIfInBounds_toArray, List.set_cons_zero, List.set_cons_succ]
      refine wl_yield (o := ⟨_, _, _, _, _, _⟩) (.bool false) (yl_pickF (by rfl) _ _ _ rfl rfl _ rfl) ?_
      simp only [Act.put, List.setIfInBounds_toArray, List.set_cons_zero, List.set_cons_succ]
      refine wl_yield (o := ⟨_, _, _, _, _, _⟩) (.bool false) (yl_move (by rfl) _ rfl _ rfl) ?_
      simp only [Act.put, List.setIfInBounds_toArray, List.set_cons_zero, List.set_cons_succ]
      refine wl_yield (o := ⟨_, _, _, _, _, _⟩) (EC.val c) (yl_ex (by rfl) _ rfl _ 0 rfl _ (fun _ h => by subst h; exact ExIn.ec IA)) ?_
      simp only [Act.put, List.setIfInBounds_toArray, List.set_cons_zero, List.set_cons_succ]
      refine wl_call (o := ⟨_, _, _, _, _, _⟩) (by rfl) 16 _ _ rfl #[EC.val c] rfl (run_call Try.func16 (by kernel_rfl) (by kernel_rfl)) ?_
      refine (c_refRight HA).mono ?_
      rintro r v7 ⟨rfl, kb⟩
      replace D := D.trans (kb.mono D.size)
      replace HA := HA.on kb
      replace HB := HB.on kb
      replace IA := IA.on kb
      replace IB := IB.on kb
      replace IE := IE.on kb
      clear kb
      cases hRA : rightX x
      · refine ⟨.bool false, rfl, ?_⟩
        simp only [Act.put, List.setIfInBounds_toArray, List.set_cons_zero, List.set_cons_succ]
        refine wl_yield (o := ⟨_, _, _, _, _, _⟩) (.bool true) (yl_not (by rfl) _ _ rfl false rfl) ?_
        simp only [Act.put, List.setIfInBounds_toArray, List.set_cons_zero, List.set_cons_succ]
        refine wl_yield (o := ⟨_, _, _, _, _, _⟩) (.bool true) (yl_pickF (by rfl) _ _ _ rfl rfl _ rfl) ?_
        simp only [Act.put, List.setIfInBounds_toArray, List.set_cons_zero, List.set_cons_succ]
        refine wl_yield (o := ⟨_, _, _, _, _, _⟩) (.bool true) (yl_move (by rfl) _ rfl _ rfl) ?_
        simp only [Act.put, List.setIfInBounds_toArray, List.set_cons_zero, List.set_cons_succ]
        refine wl_yield (o := ⟨_, _, _, _, _, _⟩) undef (yl_undef (by rfl)) ?_
        simp only [Act.put, List.setIfInBounds_toArray, List.set_cons_zero, List.set_cons_succ]
        refine wl_yield (o := ⟨_, _, _, _, _, _⟩) undef (yl_undef (by rfl)) ?_
        simp only [Act.put, List.setIfInBounds_toArray, List.set_cons_zero, List.set_cons_succ]
        refine wl_yield (o := ⟨_, _, _, _, _, _⟩) undef (yl_undef (by rfl)) ?_
        simp only [Act.put, List.setIfInBounds_toArray, List.set_cons_zero, List.set_cons_succ]
        refine wl_yield (o := ⟨_, _, _, _, _, _⟩) (.bool true) (yl_pickT (by rfl) _ _ _ rfl rfl _ rfl) ?_
        simp only [Act.put, List.setIfInBounds_toArray, List.set_cons_zero, List.set_cons_succ]
        refine wpList_nil ?_
        refine hK3 _ _ ?_
        clear hK3 K3
        refine wp_cond_true rfl ?_
        refine wp_seq_k (fun K4 hK4 => ?_)
        refine wp_region_lit ?_
        refine wl_call (o := ⟨_, _, _, _, _, _⟩) (by rfl) 9 _ _ rfl #[] rfl (run_call Try.func9 (by kernel_rfl) (by kernel_rfl)) ?_
        refine (awake5_any _).mono ?_
        rintro r v8 ⟨rfl, kb⟩
        replace D := D.trans (kb.mono D.size)
        replace HA := HA.on kb
        replace HB := HB.on kb
        replace IA := IA.on kb
        replace IB := IB.on kb
        replace IE := IE.on kb
        clear kb
        refine ⟨.bool true, rfl, ?_⟩
        simp only [Act.put, List.setIfInBounds_toArray, List.set_cons_zero, List.set_cons_succ]
        refine wl_yield (o := ⟨_, _, _, _, _, _⟩) (.bool true) (yl_assign (by rfl) _ rfl _ rfl) ?_
        simp only [Act.put, List.setIfInBounds_toArray, List.set_cons_zero, List.set_cons_succ]
        refine wpList_nil ?_
        refine hK4 _ _ ?_
        clear hK4 K4
        refine wp_ret ?_
        go_ret
        exact ⟨rfl, D⟩
      · refine ⟨.bool true, rfl, ?_⟩
        simp only [Act.put, List.setIfInBounds_toArray, List.set_cons_zero, List.set_cons_succ]
        refine wl_yield (o := ⟨_, _, _, _, _, _⟩) (.bool false) (yl_not (by rfl) _ _ rfl true rfl) ?_
        simp only [Act.put, List.setIfInBounds_toArray, List.set_cons_zero, List.set_cons_succ]
        refine wl_yield (o := ⟨_, _, _, _, _, _⟩) (.bool false) (yl_pickF (by rfl) _ _ _ rfl rfl _ rfl) ?_
        simp only [Act.put, List.setIfInBounds_toArray, List.set_cons_zero, List.set_cons_succ]
        refine wl_yield (o := ⟨_, _, _, _, _, _⟩) (.bool false) (yl_move (by rfl) _ rfl _ rfl) ?_
        simp only [Act.put, List.setIfInBounds_toArray, List.set_cons_zero, List.set_cons_succ]
        refine wl_yield (o := ⟨_, _, _, _, _, _⟩) (EC.val d) (yl_ex (by rfl) _ rfl _ 0 rfl _ (fun _ h => by subst h; exact ExIn.ec IB)) ?_
        simp only [Act.put, List.setIfInBounds_toArray, List.set_cons_zero, List.set_cons_succ]
        refine wl_call (o := ⟨_, _, _, _, _, _⟩) (by rfl) 16 _ _ rfl #[EC.val d] rfl (run_call Try.func16 (by kernel_rfl) (by kernel_rfl)) ?_
        refine (c_refRight HB).mono ?_
        rintro r v8 ⟨rfl, kb⟩
        replace D := D.trans (kb.mono D.size)
        replace HA := HA.on kb
        replace HB := HB.on kb
        replace IA := IA.on kb
        replace IB := IB.on kb
        replace IE := IE.on kb
        clear kb
        cases hRB : rightX y
        · refine ⟨.bool false, rfl, ?_⟩
          simp only [Act.put, List.setIfInBounds_toArray, List.set_cons_zero, List.set_cons_succ]
          refine wl_yield (o := ⟨_, _, _, _, _, _⟩) (.bool true) (yl_not (by rfl) _ _ rfl false rfl) ?_
          simp only [Act.put, List.setIfInBounds_toArray, List.set_cons_zero, List.set_cons_succ]
          refine wl_yield (o := ⟨_, _, _, _, _, _⟩) (.bool true) (yl_pickF (by rfl) _ _ _ rfl rfl _ rfl) ?_
          simp only [Act.put, List.setIfInBounds_toArray, List.set_cons_zero, List.set_cons_succ]
          refine wpList_nil ?_
          refine hK3 _ _ ?_
          clear hK3 K3
          refine wp_cond_true rfl ?_
          refine wp_seq_k (fun K4 hK4 => ?_)
          refine wp_region_lit ?_
          refine wl_call (o := ⟨_, _, _, _, _, _⟩) (by rfl) 9 _ _ rfl #[] rfl (run_call Try.func9 (by kernel_rfl) (by kernel_rfl)) ?_
          refine (awake5_any _).mono ?_
          rintro r v9 ⟨rfl, kb⟩
          replace D := D.trans (kb.mono D.size)
          replace HA := HA.on kb
          replace HB := HB.on kb
          replace IA := IA.on kb
          replace IB := IB.on kb
          replace IE := IE.on kb
          clear kb
          refine ⟨.bool true, rfl, ?_⟩
          simp only [Act.put, List.setIfInBounds_toArray, List.set_cons_zero, List.set_cons_succ]
          refine wl_yield (o := ⟨_, _, _, _, _, _⟩) (.bool true) (yl_assign (by rfl) _ rfl _ rfl) ?_
          simp only [Act.put, List.setIfInBounds_toArray, List.set_cons_zero, List.set_cons_succ]
          refine wpList_nil ?_
          refine hK4 _ _ ?_
          clear hK4 K4
          refine wp_ret ?_
          go_ret
          exact ⟨rfl, D⟩
        · refine ⟨.bool true, rfl, ?_⟩
          simp only [Act.put, List.setIfInBounds_toArray, List.set_cons_zero, List.set_cons_succ]
          refine wl_yield (o := ⟨_, _, _, _, _, _⟩) (.bool false) (yl_not (by rfl) _ _ rfl true rfl) ?_
          simp only [Act.put, List.setIfInBounds_toArray, List.set_cons_zero, List.set_cons_succ]
          refine wl_yield (o := ⟨_, _, _, _, _, _⟩) (.bool false) (yl_pickF (by rfl) _ _ _ rfl rfl _ rfl) ?_
          simp only [Act.put, List.setIfInBounds_toArray, List.set_cons_zero, List.set_cons_succ]
          refine wpList_nil ?_
          refine hK3 _ _ ?_
          clear hK3 K3
          refine wp_cond_false rfl ?_
          refine wp_skip ?_
          refine hK2 _ _ ?_
          clear hK2 K2
          obtain ⟨H19, hcA⟩ := few_cp HA hF
          replace HA := H19
          clear H19 hF
          obtain ⟨H19, hcB⟩ := few_cp HB hG
          replace HB := H19
          clear H19 hG
          refine wp_seq_k (fun K3 hK3 => ?_)
          refine wp_region_any (by kernel_rfl) ?_
          have T0 : Below v8.heap.size v8 { v8 with drawn := v8.drawn + 1 } := (Below.refl _ v8).drew
          refine wpAny_slots2 13 (fun Y => { tmps := #[EC.val c, EC.val d, evVal e, .pointer (some ⟨gb1, 0, none⟩), .pointer (some ⟨gb2, 0, none⟩), .pointer (some ⟨gb3, 0, none⟩), .bool false, (Y 7).1, (Y 8).1, (Y 9).1, undef, undef, undef, .bool true, .bool false, .bool false, EC.val c, .bool true, .bool false, .bool false, .bool false, EC.val d, .bool true, .bool false, .bool false, .bool false, EC.val c, .bool true, .bool false, .bool false, .bool false, EC.val d, .bool true, .bool false, .bool false, undef, (Y 36).1, (Y 37).1, (Y 38).1, (Y 39).1, (Y 40).1, (Y 41).1, (Y 42).1, (Y 43).1, (Y 44).1, (Y 45).1, undef, undef, undef, undef, undef, undef, undef, undef, undef, undef, undef, undef, undef, undef, undef, undef, undef, undef, undef, undef, undef, undef, undef, undef, undef, undef, undef, undef, undef, undef, undef, undef, undef, undef, undef, undef, undef, undef, undef, undef, undef, undef, undef, undef, undef, undef, undef, undef, undef, undef, undef, undef, undef, undef, undef, undef, undef, undef, undef, undef], defers := [] }) (fun i => if i < 10 then i + 36 else i - 3) (mkR c d x y v8) v8 (fun i o ho e he => acyc_of (by kernel_rfl) i o ho e he) ?late (by simp) (fun i j hi hj h => by split at h <;> split at h <;> omega) (mkR_on c d x y v8) ?step ?done _ _ (fun _ => (undef, 0, 0)) _ (by simp) unlisted_all (fun k ok _ h => by simp [Array.getD_eq_getD_getElem?, Array.getElem?_replicate] at h; split at h <;> cases h) (fun j _ => by simp [Array.getD_eq_getD_getElem?, Array.getElem?_replicate]; split <;> rfl) T0 (fun j _ h => by simp [Array.getD_eq_getD_getElem?, Array.getElem?_replicate] at h; split at h <;> cases h) (fun i j _ _ _ h => by simp [Array.getD_eq_getD_getElem?, Array.getElem?_replicate] at h; split at h <;> cases h)
          case late =>
            intro i o hi ho l hcl hno ha j hj
            match i, hi with
            | 13, _ =>
              cases ho
              have h9 := ha ⟨9, .chain⟩ (by simp) rfl
              have h7 := hcl 9 _ rfl h9 ⟨7, .chain⟩ (by simp) rfl
              have h8 := hcl 9 _ rfl h9 ⟨8, .data⟩ (by simp) rfl
              have h6 := hcl 7 _ rfl h7 ⟨6, .data⟩ (by simp) rfl
              have h5 := hcl 6 _ rfl h6 ⟨5, .data⟩ (by simp) rfl
              have h4 := hcl 6 _ rfl h6 ⟨4, .data⟩ (by simp) rfl
              have h3 := ha ⟨3, .data⟩ (by simp) rfl
              have h2 := ha ⟨2, .phase⟩ (by simp) rfl
              have h1 := ha ⟨1, .phase⟩ (by simp) rfl
              have h0 := ha ⟨0, .phase⟩ (by simp) rfl
              have h10 := ha ⟨10, .data⟩ (by simp) rfl
              have h11 := ha ⟨11, .phase⟩ (by simp) rfl
              have h12 := ha ⟨12, .phase⟩ (by simp) rfl
              match j, hj with
              | 0, _ => exact h0
              | 1, _ => exact h1
              | 2, _ => exact h2
              | 3, _ => exact h3
              | 4, _ => exact h4
              | 5, _ => exact h5
              | 6, _ => exact h6
              | 7, _ => exact h7
              | 8, _ => exact h8
              | 9, _ => exact h9
              | 10, _ => exact h10
              | 11, _ => exact h11
              | 12, _ => exact h12
              | q + 13, hq => exact absurd hq (by omega)
            | 14, _ =>
              cases ho
              have h := ha ⟨13, .chain⟩ (by simp) rfl
              rw [hno 13 (by omega)] at h
              cases h
            | 15, _ =>
              cases ho
              have h := ha ⟨14, .chain⟩ (by simp) rfl
              rw [hno 14 (by omega)] at h
              cases h
            | q + 16, _ => simp at ho
          case step =>
            intro i hi l Y v hB hRR hA'
            have IA := IA.on hB
            have IB := IB.on hB
            clear T0
            match i, hi with
            | 0, _ =>
              refine wpOp_yield (o := ⟨_, _, _, _, _, _⟩) rfl (by rfl) c.val (yl_ex (by rfl) _ rfl _ 0 rfl c (fun _ h => by subst h; exact IA.ec)) ?_
              exact ⟨(c.val, v.heap.size, v.heap.size), rfl, Below.refl _ _, rfl, Nat.le_refl _, Nat.le_refl _⟩
            | 1, _ =>
              refine wpOp_yield (o := ⟨_, _, _, _, _, _⟩) rfl (by rfl) d.val (yl_ex (by rfl) _ rfl _ 0 rfl d (fun _ h => by subst h; exact IB.ec)) ?_
              exact ⟨(d.val, v.heap.size, v.heap.size), rfl, Below.refl _ _, rfl, Nat.le_refl _, Nat.le_refl _⟩
            | 2, _ =>
              have h0 : (Y 36).1 = c.val := hRR 0 (by omega) (hA' _ rfl ⟨0, .data⟩ (by simp) rfl)
              have h1 : (Y 37).1 = d.val := hRR 1 (by omega) (hA' _ rfl ⟨1, .data⟩ (by simp) rfl)
              refine wpOp_run (o := ⟨_, _, _, _, _, _⟩) rfl (by rfl) (.slice (some ⟨v.heap.size, 0, none⟩) 2 2) (v.alloc (rowObj [c, d])) (rn_row2 _ rfl h0 h1) ?_
              exact ⟨(.slice (some ⟨v.heap.size, 0, none⟩) 2 2, v.heap.size, v.heap.size + 1), rfl, (Below.refl _ v).alloc (Nat.le_refl _) _, rowsY_two HA HB, Nat.le_refl _, by simp⟩
            | 3, _ =>
              have h0 : RowsY 19 v8 v (Y 38).1 [x, y] := hRR 2 (by omega) (hA' _ rfl ⟨2, .data⟩ (by simp) rfl)
              refine op_call (o := ⟨_, _, _, _, _, _⟩) rfl (by rfl) 19 _ _ rfl #[(Y 38).1] rfl (run_call Try.func19 (by kernel_rfl) (by kernel_rfl)) ?_
              refine (progAnd_new 19 _ [x, y] v8 v h0 hB (by simp) (cp_two hcA hcB)).mono ?_
              rintro r v' ⟨⟨u, rfl, hu⟩, kb⟩
              exact ⟨u.val, rfl, (u.val, v.heap.size, v'.heap.size), rfl, kb, ⟨u, rfl, Nat.le_refl _, fun w'' h1 h2 h3 => hu w'' ⟨h1, h2⟩ h3⟩, Nat.le_refl _, Nat.le_refl _⟩
            | 4, _ =>
              refine wpOp_yield (o := ⟨_, _, _, _, _, _⟩) rfl (by rfl) c.val (yl_ex (by rfl) _ rfl _ 0 rfl c (fun _ h => by subst h; exact IA.ec)) ?_
              exact ⟨(c.val, v.heap.size, v.heap.size), rfl, Below.refl _ _, rfl, Nat.le_refl _, Nat.le_refl _⟩
            | 5, _ =>
              refine wpOp_yield (o := ⟨_, _, _, _, _, _⟩) rfl (by rfl) d.val (yl_ex (by rfl) _ rfl _ 0 rfl d (fun _ h => by subst h; exact IB.ec)) ?_
              exact ⟨(d.val, v.heap.size, v.heap.size), rfl, Below.refl _ _, rfl, Nat.le_refl _, Nat.le_refl _⟩
            | 6, _ =>
              have h0 : (Y 40).1 = c.val := hRR 4 (by omega) (hA' _ rfl ⟨4, .data⟩ (by simp) rfl)
              have h1 : (Y 41).1 = d.val := hRR 5 (by omega) (hA' _ rfl ⟨5, .data⟩ (by simp) rfl)
              refine wpOp_run (o := ⟨_, _, _, _, _, _⟩) rfl (by rfl) (.slice (some ⟨v.heap.size, 0, none⟩) 2 2) (v.alloc (rowObj [c, d])) (rn_row2 _ rfl h0 h1) ?_
              exact ⟨(.slice (some ⟨v.heap.size, 0, none⟩) 2 2, v.heap.size, v.heap.size + 1), rfl, (Below.refl _ v).alloc (Nat.le_refl _) _, rowsY_two HA HB, Nat.le_refl _, by simp⟩
            | 7, _ =>
              have h0 : RowsY 19 v8 v (Y 42).1 [x, y] := hRR 6 (by omega) (hA' _ rfl ⟨6, .data⟩ (by simp) rfl)
              refine op_call (o := ⟨_, _, _, _, _, _⟩) rfl (by rfl) 20 _ _ rfl #[(Y 42).1] rfl (run_call Try.func20 (by kernel_rfl) (by kernel_rfl)) ?_
              refine (progOr_new 19 _ [x, y] v8 v h0 hB (by simp) (cp_two hcA hcB)).mono ?_
              rintro r v' ⟨⟨u, rfl, hu⟩, kb⟩
              exact ⟨u.val, rfl, (u.val, v.heap.size, v'.heap.size), rfl, kb, ⟨u, rfl, Nat.le_refl _, fun w'' h1 h2 h3 => hu w'' ⟨h1, h2⟩ h3⟩, Nat.le_refl _, Nat.le_refl _⟩
            | 8, _ =>
              refine wpOp_yield (o := ⟨_, _, _, _, _, _⟩) rfl (by rfl) c.val (yl_ex (by rfl) _ rfl _ 0 rfl c (fun _ h => by subst h; exact IA.ec)) ?_
              exact ⟨(c.val, v.heap.size, v.heap.size), rfl, Below.refl _ _, rfl, Nat.le_refl _, Nat.le_refl _⟩
            | 9, _ =>
              have h0 : (Y 44).1 = c.val := hRR 8 (by omega) (hA' _ rfl ⟨8, .data⟩ (by simp) rfl)
              have con := progNot_new 19 c x v8 v HA hB hcA
              rw [← h0] at con
              refine op_call (o := ⟨_, _, _, _, _, _⟩) rfl (by rfl) 21 _ _ rfl #[(Y 44).1] rfl (run_call Try.func21 (by kernel_rfl) (by kernel_rfl)) ?_
              refine con.mono ?_
              rintro r v' ⟨⟨u, rfl, hu⟩, kb⟩
              exact ⟨u.val, rfl, (u.val, v.heap.size, v'.heap.size), rfl, kb, ⟨u, rfl, Nat.le_refl _, fun w'' h1 h2 h3 => hu w'' ⟨h1, h2⟩ h3⟩, Nat.le_refl _, Nat.le_refl _⟩
            | 10, _ =>
              refine wpOp_run (o := ⟨_, _, _, _, _, _⟩) rfl (by rfl) (.pointer (some ⟨v.heap.size, 0, none⟩)) (v.alloc (exObj ec0)) (rn_allocEx rfl) ?_
              exact ⟨(.pointer (some ⟨v.heap.size, 0, none⟩), v.heap.size, v.heap.size + 1), rfl, (Below.refl _ v).alloc (Nat.le_refl _) _, ⟨rfl, rfl, heap_new v _⟩, Nat.le_refl _, by simp⟩
            | 11, _ =>
              refine wpOp_run (o := ⟨_, _, _, _, _, _⟩) rfl (by rfl) (.pointer (some ⟨v.heap.size, 0, none⟩)) (v.alloc (exObj ec0)) (rn_allocEx rfl) ?_
              exact ⟨(.pointer (some ⟨v.heap.size, 0, none⟩), v.heap.size, v.heap.size + 1), rfl, (Below.refl _ v).alloc (Nat.le_refl _) _, ⟨rfl, rfl, heap_new v _⟩, Nat.le_refl _, by simp⟩
            | 12, _ =>
              refine wpOp_run (o := ⟨_, _, _, _, _, _⟩) rfl (by rfl) (.pointer (some ⟨v.heap.size, 0, none⟩)) (v.alloc (exObj ec0)) (rn_allocEx rfl) ?_
              exact ⟨(.pointer (some ⟨v.heap.size, 0, none⟩), v.heap.size, v.heap.size + 1), rfl, (Below.refl _ v).alloc (Nat.le_refl _) _, ⟨rfl, rfl, heap_new v _⟩, Nat.le_refl _, by simp⟩
            | q + 13, hq => exact absurd hq (by omega)
          case done =>
            intro fuel l Y v hfuel hs hall hno hB hRR hAP
            obtain ⟨u1, e1, s1, r1⟩ := (hRR 3 (by omega)).1
            obtain ⟨u2, e2, s2, r2⟩ := (hRR 7 (by omega)).1
            obtain ⟨u3, e3, s3, r3⟩ := (hRR 9 (by omega)).1
            obtain ⟨p1, q1, i1⟩ := (hRR 10 (by omega)).1
            obtain ⟨p2, q2, i2⟩ := (hRR 11 (by omega)).1
            obtain ⟨p3, q3, i3⟩ := (hRR 12 (by omega)).1
            have l1 := (hRR 10 (by omega)).2.1
            have l2 := (hRR 11 (by omega)).2.1
            have l3 := (hRR 12 (by omega)).2.1
            have n12 := hAP 10 11 (by omega) (by omega) (by omega)
            have n13 := hAP 10 12 (by omega) (by omega) (by omega)
            have n23 := hAP 11 12 (by omega) (by omega) (by omega)
            have m11 := hAP 3 10 (by omega) (by omega) (by omega)
            have m12 := hAP 3 11 (by omega) (by omega) (by omega)
            have m13 := hAP 3 12 (by omega) (by omega) (by omega)
            have m21 := hAP 7 10 (by omega) (by omega) (by omega)
            have m22 := hAP 7 11 (by omega) (by omega) (by omega)
            have m23 := hAP 7 12 (by omega) (by omega) (by omega)
            have m31 := hAP 9 10 (by omega) (by omega) (by omega)
            have m32 := hAP 9 11 (by omega) (by omega) (by omega)
            have m33 := hAP 9 12 (by omega) (by omega) (by omega)
            clear hRR hAP
            simp only [Nat.reduceLT, if_true, if_false, Nat.reduceAdd, Nat.reduceSub] at e1 e2 e3 s1 s2 s3 r1 r2 r3 p1 p2 p3 q1 q2 q3 i1 i2 i3 l1 l2 l3 n12 n13 n23 m11 m12 m13 m21 m22 m23 m31 m32 m33
            unfold apart2 at n12 n13 n23 m11 m12 m13 m21 m22 m23 m31 m32 m33
            rw [q1] at n12 n13 m11 m21 m31
            rw [q2] at n12 n23 m12 m22 m32
            rw [q3] at n13 n23 m13 m23 m33
            generalize (Y 7).2.1 = g1 at *
            generalize (Y 8).2.1 = g2 at *
            generalize (Y 9).2.1 = g3 at *
            obtain ⟨f, rfl⟩ : ∃ f, fuel = f + 1 + 1 + 1 := ⟨fuel - 3, by simp at hfuel; omega⟩
            have hL : UpTo _ 13 l := ⟨hs, hall, hno⟩
            refine step_only hL (by simp) (by kernel_rfl) (by kernel_rfl) ?_
            refine op_storeEx (o := ⟨_, _, _, _, _, _⟩) rfl (by rfl) (.tmp 7) (.tmp 39) rfl g1 0 u1 p1 e1 (exIn_there i1) ?_
            have j1 := exIn_put i1 u1
            have j2 : ExIn (v.setCells g1 0 u1.list) g2 ec0 := (World.heap_setCells_other v g1 0 u1.list (lt_heap i2) (by omega)).trans i2
            have j3 : ExIn (v.setCells g1 0 u1.list) g3 ec0 := (World.heap_setCells_other v g1 0 u1.list (lt_heap i3) (by omega)).trans i3
            refine step_only (hL.next (by simp)) (by simp) (by kernel_rfl) (by kernel_rfl) ?_
            refine op_storeEx (o := ⟨_, _, _, _, _, _⟩) rfl (by rfl) (.tmp 8) (.tmp 43) rfl g2 0 u2 p2 e2 (exIn_there j2) ?_
            have b1 : ExIn ((v.setCells g1 0 u1.list).setCells g2 0 u2.list) g1 u1 := (World.heap_setCells_other _ g2 0 u2.list (lt_heap j1) (by omega)).trans j1
            have b2 := exIn_put j2 u2
            have b3 : ExIn ((v.setCells g1 0 u1.list).setCells g2 0 u2.list) g3 ec0 := (World.heap_setCells_other _ g2 0 u2.list (lt_heap j3) (by omega)).trans j3
            refine step_only ((hL.next (by simp)).next (by simp)) (by simp) (by kernel_rfl) (by kernel_rfl) ?_
            refine op_storeEx (o := ⟨_, _, _, _, _, _⟩) rfl (by rfl) (.tmp 9) (.tmp 45) rfl g3 0 u3 p3 e3 (exIn_there b3) ?_
            have IP : ExIn (((v.setCells g1 0 u1.list).setCells g2 0 u2.list).setCells g3 0 u3.list) g1 u1 := (World.heap_setCells_other _ g3 0 u3.list (lt_heap b1) (by omega)).trans b1
            have IQ : ExIn (((v.setCells g1 0 u1.list).setCells g2 0 u2.list).setCells g3 0 u3.list) g2 u2 := (World.heap_setCells_other _ g3 0 u3.list (lt_heap b2) (by omega)).trans b2
            have IR := exIn_put b3 u3
            have hoff : ∀ g, g < v.heap.size → g ≠ g1 → g ≠ g2 → g ≠ g3 → (((v.setCells g1 0 u1.list).setCells g2 0 u2.list).setCells g3 0 u3.list).heap[g]? = v.heap[g]? := fun g h0 h1 h2 h3 => by
              rw [World.heap_setCells_other _ g3 0 u3.list (by rw [size_setCells, size_setCells]; exact h0) h3, World.heap_setCells_other _ g2 0 u2.list (by rw [size_setCells]; exact h0) h2, World.heap_setCells_other v g1 0 u1.list h0 h1]
            have hsz : v.heap.size ≤ (((v.setCells g1 0 u1.list).setCells g2 0 u2.list).setCells g3 0 u3.list).heap.size := by rw [size_setCells, size_setCells, size_setCells]; exact Nat.le_refl _
            have hB3 := Below.setCells g3 l3 u3.list 0 _ (Below.setCells g2 l2 u2.list 0 _ (Below.setCells g1 l1 u1.list 0 _ hB))
            have HP : Xp 20 (((v.setCells g1 0 u1.list).setCells g2 0 u2.list).setCells g3 0 u3.list) u1 (andX [x, y]) := r1 _ (Nat.le_trans s1 hsz) (fun g h1 h2 => hoff g (by omega) (by omega) (by omega) (by omega)) hB3
            have HQ : Xp 20 (((v.setCells g1 0 u1.list).setCells g2 0 u2.list).setCells g3 0 u3.list) u2 (orX [x, y]) := r2 _ (Nat.le_trans s2 hsz) (fun g h1 h2 => hoff g (by omega) (by omega) (by omega) (by omega)) hB3
            have HR : Xp 20 (((v.setCells g1 0 u1.list).setCells g2 0 u2.list).setCells g3 0 u3.list) u3 (notX x) := r3 _ (Nat.le_trans s3 hsz) (fun g h1 h2 => hoff g (by omega) (by omega) (by omega) (by omega)) hB3
            have hL3 := ((hL.next (by simp)).next (by simp)).next (by simp)
            refine wpAny_nil (ready_nil hL3.size hL3.yes) ?_
            clear hL3 hL b1 b2 b3 j1 j2 j3 i1 i2 i3 hoff hsz r1 r2 r3 n12 n13 n23 m11 m12 m13 m21 m22 m23 m31 m32 m33 q1 q2 q3 s1 s2 s3 hall hno hs hfuel l1 l2 l3 hB
            generalize ((v.setCells g1 0 u1.list).setCells g2 0 u2.list).setCells g3 0 u3.list = w3 at *
            refine hK3 _ _ ?_
            clear hK3 K3 T0
            replace HA := HA.on hB3
            replace HB := HB.on hB3
            replace IA := IA.on hB3
            replace IB := IB.on hB3
            replace IE := IE.on hB3
            replace D := D.trans (hB3.mono D.size)
            clear hB3
            simp only [Act.put]
            rw [p1, p2, p3]
            clear p1 p2 p3 e1 e2 e3
            generalize (Y 36).1 = y36
            generalize (Y 37).1 = y37
            generalize (Y 38).1 = y38
            generalize (Y 39).1 = y39
            generalize (Y 40).1 = y40
            generalize (Y 41).1 = y41
            generalize (Y 42).1 = y42
            generalize (Y 43).1 = y43
            generalize (Y 44).1 = y44
            generalize (Y 45).1 = y45
            refine wp_seq_k (fun K4 hK4 => ?_)
            refine wp_region_held_drew (S := fun w' => ExIn w' gb1 c ∧ ExIn w' gb2 d ∧ EvIn w' gb3 e) (by kernel_rfl) ⟨IA, IB, IE⟩ (fun hHeld => ?_)
            have kb : Below w3.heap.size w3 w3.drew := (Below.refl _ w3).drew
            replace D := D.trans (kb.mono D.size)
            replace HA := HA.on kb
            replace HB := HB.on kb
            replace IA := IA.on kb
            replace IB := IB.on kb
            replace IE := IE.on kb
            replace IP := IP.on kb
            replace HP := HP.on kb
            replace IQ := IQ.on kb
            replace HQ := HQ.on kb
            replace IR := IR.on kb
            replace HR := HR.on kb
            clear kb
            generalize w3.drew = v9 at D hHeld HA HB IA IB IE IP HP IQ HQ IR HR ⊢
            refine wpAnyH_take (i := 0) (oi := ⟨_, _, _, _, _, _⟩) (v := EC.val c) rfl (by kernel_rfl) (by kernel_rfl) (by kernel_rfl) (fun _ _ _ h => h) (yl_ex (by rfl) _ rfl _ 0 rfl _ (fun _ h => ExIn.ec h.1)) (by assumption) ?_
            simp only [Act.put, List.setIfInBounds_toArray, List.set_cons_zero, List.set_cons_succ]
            refine wpAnyH_take (i := 1) (oi := ⟨_, _, _, _, _, _⟩) (v := evVal e) rfl (by kernel_rfl) (by kernel_rfl) (by kernel_rfl) (fun _ _ _ h => h) (yl_ev (by rfl) _ rfl _ 0 rfl _ _ _ _ _ _ _ _ _ _ _ _ (fun _ h => evCells h.2.2)) (by assumption) ?_
            simp only [Act.put, List.setIfInBounds_toArray, List.set_cons_zero, List.set_cons_succ]
            refine wpAnyH_take (i := 3) (oi := ⟨_, _, _, _, _, _⟩) (v := EC.val d) rfl (by kernel_rfl) (by kernel_rfl) (by kernel_rfl) (fun _ _ _ h => h) (yl_ex (by rfl) _ rfl _ 0 rfl _ (fun _ h => ExIn.ec h.2.1)) (by assumption) ?_
            simp only [Act.put, List.setIfInBounds_toArray, List.set_cons_zero, List.set_cons_succ]
            refine wpAnyH_take (i := 4) (oi := ⟨_, _, _, _, _, _⟩) (v := evVal e) rfl (by kernel_rfl) (by kernel_rfl) (by kernel_rfl) (fun _ _ _ h => h) (yl_ev (by rfl) _ rfl _ 0 rfl _ _ _ _ _ _ _ _ _ _ _ _ (fun _ h => evCells h.2.2)) (by assumption) ?_
            simp only [Act.put, List.setIfInBounds_toArray, List.set_cons_zero, List.set_cons_succ]
            refine held_call (o := ⟨_, _, _, _, _, _⟩) 2 (by kernel_rfl) rfl (by rfl) 17 _ _ rfl #[EC.val c, evVal e] rfl (run_call Try.func17 (by kernel_rfl) (by kernel_rfl)) ?_
            refine (c_eval HA (by omega) hf).mono ?_
            rintro r v10 ⟨rfl, kb⟩
            replace D := D.trans (kb.mono D.size)
            replace HA := HA.on kb
            replace HB := HB.on kb
            replace IA := IA.on kb
            replace IB := IB.on kb
            replace IE := IE.on kb
            replace IP := IP.on kb
            replace HP := HP.on kb
            replace IQ := IQ.on kb
            replace HQ := HQ.on kb
            replace IR := IR.on kb
            replace HR := HR.on kb
            clear kb
            clear hHeld
            refine ⟨.bool false, ret_bool hI, ⟨IA, IB, IE⟩, fun hHeld => ?_⟩
            simp only [Act.put, List.setIfInBounds_toArray, List.set_cons_zero, List.set_cons_succ]
            refine held_call (o := ⟨_, _, _, _, _, _⟩) 5 (by kernel_rfl) rfl (by rfl) 17 _ _ rfl #[EC.val d, evVal e] rfl (run_call Try.func17 (by kernel_rfl) (by kernel_rfl)) ?_
            refine (c_eval HB (by omega) hf).mono ?_
            rintro r v11 ⟨rfl, kb⟩
            replace D := D.trans (kb.mono D.size)
            replace HA := HA.on kb
            replace HB := HB.on kb
            replace IA := IA.on kb
            replace IB := IB.on kb
            replace IE := IE.on kb
            replace IP := IP.on kb
            replace HP := HP.on kb
            replace IQ := IQ.on kb
            replace HQ := HQ.on kb
            replace IR := IR.on kb
            replace HR := HR.on kb
            clear kb
            clear hHeld
            refine ⟨.bool false, ret_bool hK, ⟨IA, IB, IE⟩, fun hHeld => ?_⟩
            simp only [Act.put, List.setIfInBounds_toArray, List.set_cons_zero, List.set_cons_succ]
            refine wpAnyH_take (i := 6) (oi := ⟨_, _, _, _, _, _⟩) (v := .bool false) rfl (by kernel_rfl) (by kernel_rfl) (by kernel_rfl) (fun _ _ _ h => h) (yl_assign (by rfl) _ rfl _ rfl) (by assumption) ?_
            simp only [Act.put, List.setIfInBounds_toArray, List.set_cons_zero, List.set_cons_succ]
            refine wpAnyH_take (i := 7) (oi := ⟨_, _, _, _, _, _⟩) (v := .bool false) rfl (by kernel_rfl) (by kernel_rfl) (by kernel_rfl) (fun _ _ _ h => h) (yl_assign (by rfl) _ rfl _ rfl) (by assumption) ?_
            simp only [Act.put, List.setIfInBounds_toArray, List.set_cons_zero, List.set_cons_succ]
            refine wpAnyH_done (by kernel_rfl) ?_ _
            clear hHeld
            refine hK4 _ _ ?_
            clear hK4 K4
            refine wp_seq_k (fun K5 hK5 => ?_)
            refine wp_region_held_drew (S := fun w' => EvIn w' gb3 e) (by kernel_rfl) IE (fun hHeld => ?_)
            have kb : Below v11.heap.size v11 v11.drew := (Below.refl _ v11).drew
            replace D := D.trans (kb.mono D.size)
            replace HA := HA.on kb
            replace HB := HB.on kb
            replace IA := IA.on kb
            replace IB := IB.on kb
            replace IE := IE.on kb
            replace IP := IP.on kb
            replace HP := HP.on kb
            replace IQ := IQ.on kb
            replace HQ := HQ.on kb
            replace IR := IR.on kb
            replace HR := HR.on kb
            clear kb
            generalize v11.drew = v12 at D hHeld HA HB IA IB IE IP HP IQ HQ IR HR ⊢
            refine wpAnyH_take (i := 1) (oi := ⟨_, _, _, _, _, _⟩) (v := evVal e) rfl (by kernel_rfl) (by kernel_rfl) (by kernel_rfl) (fun _ _ _ h => h) (yl_ev (by rfl) _ rfl _ 0 rfl _ _ _ _ _ _ _ _ _ _ _ _ (fun _ h => evCells h)) (by assumption) ?_
            simp only [Act.put, List.setIfInBounds_toArray, List.set_cons_zero, List.set_cons_succ]
            refine held_call (o := ⟨_, _, _, _, _, _⟩) 0 (by kernel_rfl) rfl (by rfl) 19 _ _ rfl #[.slice none 0 0] rfl (run_call Try.func19 (by kernel_rfl) (by kernel_rfl)) ?_
            refine (c_and0 _).mono ?_
            rintro r v13 ⟨⟨z, rfl, HZ⟩, kb⟩
            replace D := D.trans (kb.mono D.size)
            replace HA := HA.on kb
            replace HB := HB.on kb
            replace IA := IA.on kb
            replace IB := IB.on kb
            replace IE := IE.on kb
            replace IP := IP.on kb
            replace HP := HP.on kb
            replace IQ := IQ.on kb
            replace HQ := HQ.on kb
            replace IR := IR.on kb
            replace HR := HR.on kb
            clear kb
            clear hHeld
            refine ⟨EC.val z, rfl, IE, fun hHeld => ?_⟩
            simp only [Act.put, List.setIfInBounds_toArray, List.set_cons_zero, List.set_cons_succ]
            refine held_call (o := ⟨_, _, _, _, _, _⟩) 2 (by kernel_rfl) rfl (by rfl) 17 _ _ rfl #[EC.val z, evVal e] rfl (run_call Try.func17 (by kernel_rfl) (by kernel_rfl)) ?_
            refine (c_eval HZ (by omega) hf).mono ?_
            rintro r v14 ⟨rfl, kb⟩
            replace D := D.trans (kb.mono D.size)
            replace HA := HA.on kb
            replace HB := HB.on kb
            replace IA := IA.on kb
            replace IB := IB.on kb
            replace IE := IE.on kb
            replace IP := IP.on kb
            replace HP := HP.on kb
            replace IQ := IQ.on kb
            replace HQ := HQ.on kb
            replace IR := IR.on kb
            replace HR := HR.on kb
            replace HZ := HZ.on kb
            clear kb
            clear hHeld
            clear HZ
            cases hS : evalX (andX []) e
            · refine ⟨.bool false, rfl, IE, fun hHeld => ?_⟩
              simp only [Act.put, List.setIfInBounds_toArray, List.set_cons_zero, List.set_cons_succ]
              refine wpAnyH_take (i := 3) (oi := ⟨_, _, _, _, _, _⟩) (v := .bool false) rfl (by kernel_rfl) (by kernel_rfl) (by kernel_rfl) (fun _ _ _ h => h) (yl_assign (by rfl) _ rfl _ rfl) (by assumption) ?_
              simp only [Act.put, List.setIfInBounds_toArray, List.set_cons_zero, List.set_cons_succ]
              refine wpAnyH_done (by kernel_rfl) ?_ _
              clear hHeld
              refine hK5 _ _ ?_
              clear hK5 K5
              refine wp_seq_k (fun K6 hK6 => ?_)
              have hSr : rightE e = false := (eval_none e).symm.trans hS
              refine wp_region_held_drew (S := fun w' => ExIn w' g1 u1 ∧ ExIn w' g2 u2 ∧ ExIn w' g3 u3 ∧ EvIn w' gb3 e) (by kernel_rfl) ⟨IP, IQ, IR, IE⟩ (fun hHeld => ?_)
              have kb : Below v14.heap.size v14 v14.drew := (Below.refl _ v14).drew
              replace D := D.trans (kb.mono D.size)
              replace HA := HA.on kb
              replace HB := HB.on kb
              replace IA := IA.on kb
              replace IB := IB.on kb
              replace IE := IE.on kb
              replace IP := IP.on kb
              replace HP := HP.on kb
              replace IQ := IQ.on kb
              replace HQ := HQ.on kb
              replace IR := IR.on kb
              replace HR := HR.on kb
              clear kb
              generalize v14.drew = v15 at D hHeld HA HB IA IB IE IP HP IQ HQ IR HR ⊢
              refine cut_held (fun a W => ∃ z55 z56 z57 z58 z59 z60 z61 z62 z63 z64 z65 z66 : Value, a = { tmps := #[EC.val c, EC.val d, evVal e, .pointer (some ⟨gb1, 0, none⟩), .pointer (some ⟨gb2, 0, none⟩), .pointer (some ⟨gb3, 0, none⟩), .bool false, .pointer (some ⟨g1, 0, none⟩), .pointer (some ⟨g2, 0, none⟩), .pointer (some ⟨g3, 0, none⟩), .bool false, .bool false, .bool false, .bool true, .bool false, .bool false, EC.val c, .bool true, .bool false, .bool false, .bool false, EC.val d, .bool true, .bool false, .bool false, .bool false, EC.val c, .bool true, .bool false, .bool false, .bool false, EC.val d, .bool true, .bool false, .bool false, undef, y36, y37, y38, y39, y40, y41, y42, y43, y44, y45, EC.val c, evVal e, .bool false, EC.val d, evVal e, .bool false, EC.val z, evVal e, .bool false, z55, z56, z57, z58, z59, z60, z61, z62, z63, z64, z65, z66, .bool true, .bool true, undef, undef, undef, undef, undef, undef, undef, undef, undef, undef, undef, undef, undef, undef, undef, undef, undef, undef, undef, undef, undef, undef, undef, undef, undef, undef, undef, undef, undef, undef, undef, undef, undef, undef, undef, undef, undef], defers := [] } ∧ Below w.heap.size w W ∧ Xp 19 W c x ∧ Xp 19 W d y ∧ ExIn W gb1 c ∧ ExIn W gb2 d ∧ EvIn W gb3 e ∧ ExIn W g1 u1 ∧ Xp 20 W u1 (andX [x, y]) ∧ ExIn W g2 u2 ∧ Xp 20 W u2 (orX [x, y]) ∧ ExIn W g3 u3 ∧ Xp 20 W u3 (notX x)) #[true, true, true, true, true, true, true, true, true, true, true, true, true, true, false, false, false, false, false, false, false, false, false, false, false, false, false, false, false, false, false, false, false, false, false, false, false, false, false, false, false, false, false, false, false, false, false, false, false, false, false, false] 38 ?_ ?_
              · clear hHeld D HA HB IA IB IE IP HP IQ HQ IR HR
                rintro _ v16 ⟨z55, z56, z57, z58, z59, z60, z61, z62, z63, z64, z65, z66, rfl, D, HA, HB, IA, IB, IE, IP, HP, IQ, HQ, IR, HR⟩
                have hHeld := And.intro IP (And.intro IQ (And.intro IR (IE)))
                refine cut_held (fun a W => ∃ z69 z70 z71 z72 z73 z74 z75 z76 z77 z78 z79 z80 z81 : Value, a = { tmps := #[EC.val c, EC.val d, evVal e, .pointer (some ⟨gb1, 0, none⟩), .pointer (some ⟨gb2, 0, none⟩), .pointer (some ⟨gb3, 0, none⟩), .bool false, .pointer (some ⟨g1, 0, none⟩), .pointer (some ⟨g2, 0, none⟩), .pointer (some ⟨g3, 0, none⟩), .bool false, .bool false, .bool false, .bool true, .bool false, .bool false, EC.val c, .bool true, .bool false, .bool false, .bool false, EC.val d, .bool true, .bool false, .bool false, .bool false, EC.val c, .bool true, .bool false, .bool false, .bool false, EC.val d, .bool true, .bool false, .bool false, undef, y36, y37, y38, y39, y40, y41, y42, y43, y44, y45, EC.val c, evVal e, .bool false, EC.val d, evVal e, .bool false, EC.val z, evVal e, .bool false, z55, z56, z57, z58, z59, z60, z61, z62, z63, z64, z65, z66, .bool true, .bool true, z69, z70, z71, z72, z73, z74, z75, z76, z77, z78, z79, z80, z81, .bool true, .bool true, undef, undef, undef, undef, undef, undef, undef, undef, undef, undef, undef, undef, undef, undef, undef, undef, undef, undef, undef, undef, undef, undef], defers := [] } ∧ Below w.heap.size w W ∧ Xp 19 W c x ∧ Xp 19 W d y ∧ ExIn W gb1 c ∧ ExIn W gb2 d ∧ EvIn W gb3 e ∧ ExIn W g1 u1 ∧ Xp 20 W u1 (andX [x, y]) ∧ ExIn W g2 u2 ∧ Xp 20 W u2 (orX [x, y]) ∧ ExIn W g3 u3 ∧ Xp 20 W u3 (notX x)) #[true, true, true, true, true, true, true, true, true, true, true, true, true, true, true, true, true, true, true, true, true, true, true, true, true, true, true, true, true, false, false, false, false, false, false, false, false, false, false, false, false, false, false, false, false, false, false, false, false, false, false, false] 23 ?_ ?_
                · clear hHeld D HA HB IA IB IE IP HP IQ HQ IR HR
                  rintro _ v17 ⟨z69, z70, z71, z72, z73, z74, z75, z76, z77, z78, z79, z80, z81, rfl, D, HA, HB, IA, IB, IE, IP, HP, IQ, HQ, IR, HR⟩
                  have hHeld := And.intro IP (And.intro IQ (And.intro IR (IE)))
                  refine cut_held (fun a W => ∃ z84 z85 z86 z87 z88 z89 z90 z91 z92 z93 z94 z95 z96 z97 : Value, a = { tmps := #[EC.val c, EC.val d, evVal e, .pointer (some ⟨gb1, 0, none⟩), .pointer (some ⟨gb2, 0, none⟩), .pointer (some ⟨gb3, 0, none⟩), .bool false, .pointer (some ⟨g1, 0, none⟩), .pointer (some ⟨g2, 0, none⟩), .pointer (some ⟨g3, 0, none⟩), .bool false, .bool false, .bool false, .bool true, .bool false, .bool false, EC.val c, .bool true, .bool false, .bool false, .bool false, EC.val d, .bool true, .bool false, .bool false, .bool false, EC.val c, .bool true, .bool false, .bool false, .bool false, EC.val d, .bool true, .bool false, .bool false, undef, y36, y37, y38, y39, y40, y41, y42, y43, y44, y45, EC.val c, evVal e, .bool false, EC.val d, evVal e, .bool false, EC.val z, evVal e, .bool false, z55, z56, z57, z58, z59, z60, z61, z62, z63, z64, z65, z66, .bool true, .bool true, z69, z70, z71, z72, z73, z74, z75, z76, z77, z78, z79, z80, z81, .bool true, .bool true, z84, z85, z86, z87, z88, z89, z90, z91, z92, z93, z94, z95, z96, z97, .bool true, .bool true, undef, undef, undef, undef, undef, undef], defers := [] } ∧ Below w.heap.size w W ∧ Xp 19 W c x ∧ Xp 19 W d y ∧ ExIn W gb1 c ∧ ExIn W gb2 d ∧ EvIn W gb3 e ∧ ExIn W g1 u1 ∧ Xp 20 W u1 (andX [x, y]) ∧ ExIn W g2 u2 ∧ Xp 20 W u2 (orX [x, y]) ∧ ExIn W g3 u3 ∧ Xp 20 W u3 (notX x)) #[true, true, true, true, true, true, true, true, true, true, true, true, true, true, true, true, true, true, true, true, true, true, true, true, true, true, true, true, true, true, true, true, true, true, true, true, true, true, true, true, true, true, true, true, true, false, false, false, false, false, false, false] 7 ?_ ?_
                  · clear hHeld D HA HB IA IB IE IP HP IQ HQ IR HR
                    rintro _ v18 ⟨z84, z85, z86, z87, z88, z89, z90, z91, z92, z93, z94, z95, z96, z97, rfl, D, HA, HB, IA, IB, IE, IP, HP, IQ, HQ, IR, HR⟩
                    have hHeld := And.intro IP (And.intro IQ (And.intro IR (IE)))
                    refine wpAnyH_take (i := 45) (oi := ⟨_, _, _, _, _, _⟩) (v := EC.val u1) rfl (by kernel_rfl) (by kernel_rfl) (by kernel_rfl) (fun _ _ _ h => h) (yl_ex (by rfl) _ rfl _ 0 rfl _ (fun _ h => ExIn.ec h.1)) (by assumption) ?_
                    simp only [Act.put, List.setIfInBounds_toArray, List.set_cons_zero, List.set_cons_succ]
                    refine wpAnyH_take (i := 47) (oi := ⟨_, _, _, _, _, _⟩) (v := EC.val u1) rfl (by kernel_rfl) (by kernel_rfl) (by kernel_rfl) (fun _ _ _ h => h) (yl_ex (by rfl) _ rfl _ 0 rfl _ (fun _ h => ExIn.ec h.1)) (by assumption) ?_
                    simp only [Act.put, List.setIfInBounds_toArray, List.set_cons_zero, List.set_cons_succ]
                    refine held_call (o := ⟨_, _, _, _, _, _⟩) 46 (by kernel_rfl) rfl (by rfl) 15 _ _ rfl #[EC.val u1] rfl (run_call Try.func15 (by kernel_rfl) (by kernel_rfl)) ?_
                    refine (c_right HP (by omega)).mono ?_
                    rintro r v19 ⟨rfl, kb⟩
                    replace D := D.trans (kb.mono D.size)
                    replace HA := HA.on kb
                    replace HB := HB.on kb
                    replace IA := IA.on kb
                    replace IB := IB.on kb
                    replace IE := IE.on kb
                    replace IP := IP.on kb
                    replace HP := HP.on kb
                    replace IQ := IQ.on kb
                    replace HQ := HQ.on kb
                    replace IR := IR.on kb
                    replace HR := HR.on kb
                    clear kb
                    clear hHeld
                    cases hX : rightX (andX [x, y])
                    · refine ⟨.bool false, rfl, ⟨IP, IQ, IR, IE⟩, fun hHeld => ?_⟩
                      simp only [Act.put, List.setIfInBounds_toArray, List.set_cons_zero, List.set_cons_succ]
                      refine held_call (o := ⟨_, _, _, _, _, _⟩) 48 (by kernel_rfl) rfl (by rfl) 16 _ _ rfl #[EC.val u1] rfl (run_call Try.func16 (by kernel_rfl) (by kernel_rfl)) ?_
                      refine (c_refRight HP).mono ?_
                      rintro r v20 ⟨rfl, kb⟩
                      replace D := D.trans (kb.mono D.size)
                      replace HA := HA.on kb
                      replace HB := HB.on kb
                      replace IA := IA.on kb
                      replace IB := IB.on kb
                      replace IE := IE.on kb
                      replace IP := IP.on kb
                      replace HP := HP.on kb
                      replace IQ := IQ.on kb
                      replace HQ := HQ.on kb
                      replace IR := IR.on kb
                      replace HR := HR.on kb
                      clear kb
                      clear hHeld
                      refine ⟨.bool false, ret_bool hX, ⟨IP, IQ, IR, IE⟩, fun hHeld => ?_⟩
                      simp only [Act.put, List.setIfInBounds_toArray, List.set_cons_zero, List.set_cons_succ]
                      refine wpAnyH_take (i := 49) (oi := ⟨_, _, _, _, _, _⟩) (v := .bool true) rfl (by kernel_rfl) (by kernel_rfl) (by kernel_rfl) (fun _ _ _ h => h) (yl_eqB (by rfl) _ _ _ rfl false false rfl rfl) (by assumption) ?_
                      simp only [Act.put, List.setIfInBounds_toArray, List.set_cons_zero, List.set_cons_succ]
                      refine wpAnyH_take (i := 50) (oi := ⟨_, _, _, _, _, _⟩) (v := .bool true) rfl (by kernel_rfl) (by kernel_rfl) (by kernel_rfl) (fun _ _ _ h => h) (yl_pickT (by rfl) _ _ _ rfl rfl _ rfl) (by assumption) ?_
                      simp only [Act.put, List.setIfInBounds_toArray, List.set_cons_zero, List.set_cons_succ]
                      refine wpAnyH_take (i := 51) (oi := ⟨_, _, _, _, _, _⟩) (v := .bool true) rfl (by kernel_rfl) (by kernel_rfl) (by kernel_rfl) (fun _ _ _ h => h) (yl_assign (by rfl) _ rfl _ rfl) (by assumption) ?_
                      simp only [Act.put, List.setIfInBounds_toArray, List.set_cons_zero, List.set_cons_succ]
                      refine wpAnyH_done (by kernel_rfl) ?_ _
                      clear hHeld
                      refine hK6 _ _ ?_
                      clear hK6 K6
                      refine wp_ret ?_
                      go_ret
                      exact ⟨rfl, D⟩
                    · refine ⟨.bool true, rfl, ⟨IP, IQ, IR, IE⟩, fun hHeld => ?_⟩
                      simp only [Act.put, List.setIfInBounds_toArray, List.set_cons_zero, List.set_cons_succ]
                      refine held_call (o := ⟨_, _, _, _, _, _⟩) 48 (by kernel_rfl) rfl (by rfl) 16 _ _ rfl #[EC.val u1] rfl (run_call Try.func16 (by kernel_rfl) (by kernel_rfl)) ?_
                      refine (c_refRight HP).mono ?_
                      rintro r v20 ⟨rfl, kb⟩
                      replace D := D.trans (kb.mono D.size)
                      replace HA := HA.on kb
                      replace HB := HB.on kb
                      replace IA := IA.on kb
                      replace IB := IB.on kb
                      replace IE := IE.on kb
                      replace IP := IP.on kb
                      replace HP := HP.on kb
                      replace IQ := IQ.on kb
                      replace HQ := HQ.on kb
                      replace IR := IR.on kb
                      replace HR := HR.on kb
                      clear kb
                      clear hHeld
                      refine ⟨.bool true, ret_bool hX, ⟨IP, IQ, IR, IE⟩, fun hHeld => ?_⟩
                      simp only [Act.put, List.setIfInBounds_toArray, List.set_cons_zero, List.set_cons_succ]
                      refine wpAnyH_take (i := 49) (oi := ⟨_, _, _, _, _, _⟩) (v := .bool true) rfl (by kernel_rfl) (by kernel_rfl) (by kernel_rfl) (fun _ _ _ h => h) (yl_eqB (by rfl) _ _ _ rfl true true rfl rfl) (by assumption) ?_
                      simp only [Act.put, List.setIfInBounds_toArray, List.set_cons_zero, List.set_cons_succ]
                      refine wpAnyH_take (i := 50) (oi := ⟨_, _, _, _, _, _⟩) (v := .bool true) rfl (by kernel_rfl) (by kernel_rfl) (by kernel_rfl) (fun _ _ _ h => h) (yl_pickT (by rfl) _ _ _ rfl rfl _ rfl) (by assumption) ?_
                      simp only [Act.put, List.setIfInBounds_toArray, List.set_cons_zero, List.set_cons_succ]
                      refine wpAnyH_take (i := 51) (oi := ⟨_, _, _, _, _, _⟩) (v := .bool true) rfl (by kernel_rfl) (by kernel_rfl) (by kernel_rfl) (fun _ _ _ h => h) (yl_assign (by rfl) _ rfl _ rfl) (by assumption) ?_
                      simp only [Act.put, List.setIfInBounds_toArray, List.set_cons_zero, List.set_cons_succ]
                      refine wpAnyH_done (by kernel_rfl) ?_ _
                      clear hHeld
                      refine hK6 _ _ ?_
                      clear hK6 K6
                      refine wp_ret ?_
                      go_ret
                      exact ⟨rfl, D⟩
                  · intro hNEXT
                    refine wpAnyH_take (i := 29) (oi := ⟨_, _, _, _, _, _⟩) (v := EC.val u3) rfl (by kernel_rfl) (by kernel_rfl) (by kernel_rfl) (fun _ _ _ h => h) (yl_ex (by rfl) _ rfl _ 0 rfl _ (fun _ h => ExIn.ec h.2.2.1)) (by assumption) ?_
                    simp only [Act.put, List.setIfInBounds_toArray, List.set_cons_zero, List.set_cons_succ]
                    refine held_call (o := ⟨_, _, _, _, _, _⟩) 30 (by kernel_rfl) rfl (by rfl) 15 _ _ rfl #[EC.val u3] rfl (run_call Try.func15 (by kernel_rfl) (by kernel_rfl)) ?_
                    refine (c_right HR (by omega)).mono ?_
                    rintro r v118 ⟨rfl, kb⟩
                    replace D := D.trans (kb.mono D.size)
                    replace HA := HA.on kb
                    replace HB := HB.on kb
                    replace IA := IA.on kb
                    replace IB := IB.on kb
                    replace IE := IE.on kb
                    replace IP := IP.on kb
                    replace HP := HP.on kb
                    replace IQ := IQ.on kb
                    replace HQ := HQ.on kb
                    replace IR := IR.on kb
                    replace HR := HR.on kb
                    clear kb
                    clear hHeld
                    cases hZ : rightX (notX x)
                    · refine ⟨.bool false, rfl, ⟨IP, IQ, IR, IE⟩, fun hHeld => ?_⟩
                      simp only [Act.put, List.setIfInBounds_toArray, List.set_cons_zero, List.set_cons_succ]
                      refine wpAnyH_take (i := 31) (oi := ⟨_, _, _, _, _, _⟩) (v := .bool true) rfl (by kernel_rfl) (by kernel_rfl) (by kernel_rfl) (fun _ _ _ h => h) (yl_not (by rfl) _ _ rfl false rfl) (by assumption) ?_
                      simp only [Act.put, List.setIfInBounds_toArray, List.set_cons_zero, List.set_cons_succ]
                      refine wpAnyH_take (i := 32) (oi := ⟨_, _, _, _, _, _⟩) (v := .bool true) rfl (by kernel_rfl) (by kernel_rfl) (by kernel_rfl) (fun _ _ _ h => h) (yl_move (by rfl) _ rfl _ rfl) (by assumption) ?_
                      simp only [Act.put, List.setIfInBounds_toArray, List.set_cons_zero, List.set_cons_succ]
                      refine wpAnyH_take (i := 33) (oi := ⟨_, _, _, _, _, _⟩) (v := undef) rfl (by kernel_rfl) (by kernel_rfl) (by kernel_rfl) (fun _ _ _ h => h) (yl_undef (by rfl)) (by assumption) ?_
                      simp only [Act.put, List.setIfInBounds_toArray, List.set_cons_zero, List.set_cons_succ]
                      refine wpAnyH_take (i := 34) (oi := ⟨_, _, _, _, _, _⟩) (v := undef) rfl (by kernel_rfl) (by kernel_rfl) (by kernel_rfl) (fun _ _ _ h => h) (yl_undef (by rfl)) (by assumption) ?_
                      simp only [Act.put, List.setIfInBounds_toArray, List.set_cons_zero, List.set_cons_succ]
                      refine wpAnyH_take (i := 35) (oi := ⟨_, _, _, _, _, _⟩) (v := undef) rfl (by kernel_rfl) (by kernel_rfl) (by kernel_rfl) (fun _ _ _ h => h) (yl_undef (by rfl)) (by assumption) ?_
                      simp only [Act.put, List.setIfInBounds_toArray, List.set_cons_zero, List.set_cons_succ]
                      refine wpAnyH_take (i := 36) (oi := ⟨_, _, _, _, _, _⟩) (v := undef) rfl (by kernel_rfl) (by kernel_rfl) (by kernel_rfl) (fun _ _ _ h => h) (yl_undef (by rfl)) (by assumption) ?_
                      simp only [Act.put, List.setIfInBounds_toArray, List.set_cons_zero, List.set_cons_succ]
                      refine wpAnyH_take (i := 37) (oi := ⟨_, _, _, _, _, _⟩) (v := undef) rfl (by kernel_rfl) (by kernel_rfl) (by kernel_rfl) (fun _ _ _ h => h) (yl_undef (by rfl)) (by assumption) ?_
                      simp only [Act.put, List.setIfInBounds_toArray, List.set_cons_zero, List.set_cons_succ]
                      refine wpAnyH_take (i := 38) (oi := ⟨_, _, _, _, _, _⟩) (v := undef) rfl (by kernel_rfl) (by kernel_rfl) (by kernel_rfl) (fun _ _ _ h => h) (yl_undef (by rfl)) (by assumption) ?_
                      simp only [Act.put, List.setIfInBounds_toArray, List.set_cons_zero, List.set_cons_succ]
                      refine wpAnyH_take (i := 39) (oi := ⟨_, _, _, _, _, _⟩) (v := undef) rfl (by kernel_rfl) (by kernel_rfl) (by kernel_rfl) (fun _ _ _ h => h) (yl_undef (by rfl)) (by assumption) ?_
                      simp only [Act.put, List.setIfInBounds_toArray, List.set_cons_zero, List.set_cons_succ]
                      refine wpAnyH_take (i := 40) (oi := ⟨_, _, _, _, _, _⟩) (v := undef) rfl (by kernel_rfl) (by kernel_rfl) (by kernel_rfl) (fun _ _ _ h => h) (yl_undef (by rfl)) (by assumption) ?_
                      simp only [Act.put, List.setIfInBounds_toArray, List.set_cons_zero, List.set_cons_succ]
                      refine wpAnyH_take (i := 41) (oi := ⟨_, _, _, _, _, _⟩) (v := undef) rfl (by kernel_rfl) (by kernel_rfl) (by kernel_rfl) (fun _ _ _ h => h) (yl_undef (by rfl)) (by assumption) ?_
                      simp only [Act.put, List.setIfInBounds_toArray, List.set_cons_zero, List.set_cons_succ]
                      refine wpAnyH_take (i := 42) (oi := ⟨_, _, _, _, _, _⟩) (v := .bool true) rfl (by kernel_rfl) (by kernel_rfl) (by kernel_rfl) (fun _ _ _ h => h) (yl_pickT (by rfl) _ _ _ rfl rfl _ rfl) (by assumption) ?_
                      simp only [Act.put, List.setIfInBounds_toArray, List.set_cons_zero, List.set_cons_succ]
                      refine wpAnyH_take (i := 43) (oi := ⟨_, _, _, _, _, _⟩) (v := .bool true) rfl (by kernel_rfl) (by kernel_rfl) (by kernel_rfl) (fun _ _ _ h => h) (yl_pickT (by rfl) _ _ _ rfl rfl _ rfl) (by assumption) ?_
                      simp only [Act.put, List.setIfInBounds_toArray, List.set_cons_zero, List.set_cons_succ]
                      refine wpAnyH_take (i := 44) (oi := ⟨_, _, _, _, _, _⟩) (v := .bool true) rfl (by kernel_rfl) (by kernel_rfl) (by kernel_rfl) (fun _ _ _ h => h) (yl_move (by rfl) _ rfl _ rfl) (by assumption) ?_
                      simp only [Act.put, List.setIfInBounds_toArray, List.set_cons_zero, List.set_cons_succ]
                      exact held_eq (by kernel_rfl) (hNEXT _ _ ⟨_, _, _, _, _, _, _, _, _, _, _, _, _, _, rfl, D, HA, HB, IA, IB, IE, IP, HP, IQ, HQ, IR, HR⟩)
                    · refine ⟨.bool true, rfl, ⟨IP, IQ, IR, IE⟩, fun hHeld => ?_⟩
                      simp only [Act.put, List.setIfInBounds_toArray, List.set_cons_zero, List.set_cons_succ]
                      refine wpAnyH_take (i := 31) (oi := ⟨_, _, _, _, _, _⟩) (v := .bool false) rfl (by kernel_rfl) (by kernel_rfl) (by kernel_rfl) (fun _ _ _ h => h) (yl_not (by rfl) _ _ rfl true rfl) (by assumption) ?_
                      simp only [Act.put, List.setIfInBounds_toArray, List.set_cons_zero, List.set_cons_succ]
                      refine wpAnyH_take (i := 32) (oi := ⟨_, _, _, _, _, _⟩) (v := .bool false) rfl (by kernel_rfl) (by kernel_rfl) (by kernel_rfl) (fun _ _ _ h => h) (yl_move (by rfl) _ rfl _ rfl) (by assumption) ?_
                      simp only [Act.put, List.setIfInBounds_toArray, List.set_cons_zero, List.set_cons_succ]
                      refine wpAnyH_take (i := 33) (oi := ⟨_, _, _, _, _, _⟩) (v := EC.val u3) rfl (by kernel_rfl) (by kernel_rfl) (by kernel_rfl) (fun _ _ _ h => h) (yl_ex (by rfl) _ rfl _ 0 rfl _ (fun _ h => ExIn.ec h.2.2.1)) (by assumption) ?_
                      simp only [Act.put, List.setIfInBounds_toArray, List.set_cons_zero, List.set_cons_succ]
                      refine wpAnyH_take (i := 34) (oi := ⟨_, _, _, _, _, _⟩) (v := evVal e) rfl (by kernel_rfl) (by kernel_rfl) (by kernel_rfl) (fun _ _ _ h => h) (yl_ev (by rfl) _ rfl _ 0 rfl _ _ _ _ _ _ _ _ _ _ _ _ (fun _ h => evCells h.2.2.2)) (by assumption) ?_
                      simp only [Act.put, List.setIfInBounds_toArray, List.set_cons_zero, List.set_cons_succ]
                      refine wpAnyH_take (i := 36) (oi := ⟨_, _, _, _, _, _⟩) (v := .bool false) rfl (by kernel_rfl) (by kernel_rfl) (by kernel_rfl) (fun _ _ _ h => h) (yl_move (by rfl) _ rfl _ rfl) (by assumption) ?_
                      simp only [Act.put, List.setIfInBounds_toArray, List.set_cons_zero, List.set_cons_succ]
                      refine held_call (o := ⟨_, _, _, _, _, _⟩) 35 (by kernel_rfl) rfl (by rfl) 17 _ _ rfl #[EC.val u3, evVal e] rfl (run_call Try.func17 (by kernel_rfl) (by kernel_rfl)) ?_
                      refine (c_eval HR (by omega) hf).mono ?_
                      rintro r v119 ⟨rfl, kb⟩
                      replace D := D.trans (kb.mono D.size)
                      replace HA := HA.on kb
                      replace HB := HB.on kb
                      replace IA := IA.on kb
                      replace IB := IB.on kb
                      replace IE := IE.on kb
                      replace IP := IP.on kb
                      replace HP := HP.on kb
                      replace IQ := IQ.on kb
                      replace HQ := HQ.on kb
                      replace IR := IR.on kb
                      replace HR := HR.on kb
                      clear kb
                      clear hHeld
                      refine ⟨.bool false, ret_bool (by rw [makes_not hRA hZ, hI, hSr]; rfl), ⟨IP, IQ, IR, IE⟩, fun hHeld => ?_⟩
                      simp only [Act.put, List.setIfInBounds_toArray, List.set_cons_zero, List.set_cons_succ]
                      refine wpAnyH_take (i := 37) (oi := ⟨_, _, _, _, _, _⟩) (v := .bool false) rfl (by kernel_rfl) (by kernel_rfl) (by kernel_rfl) (fun _ _ _ h => h) (yl_move (by rfl) _ rfl _ rfl) (by assumption) ?_
                      simp only [Act.put, List.setIfInBounds_toArray, List.set_cons_zero, List.set_cons_succ]
                      refine wpAnyH_take (i := 38) (oi := ⟨_, _, _, _, _, _⟩) (v := undef) rfl (by kernel_rfl) (by kernel_rfl) (by kernel_rfl) (fun _ _ _ h => h) (yl_undef (by rfl)) (by assumption) ?_
                      simp only [Act.put, List.setIfInBounds_toArray, List.set_cons_zero, List.set_cons_succ]
                      refine wpAnyH_take (i := 39) (oi := ⟨_, _, _, _, _, _⟩) (v := undef) rfl (by kernel_rfl) (by kernel_rfl) (by kernel_rfl) (fun _ _ _ h => h) (yl_undef (by rfl)) (by assumption) ?_
                      simp only [Act.put, List.setIfInBounds_toArray, List.set_cons_zero, List.set_cons_succ]
                      refine wpAnyH_take (i := 40) (oi := ⟨_, _, _, _, _, _⟩) (v := .bool false) rfl (by kernel_rfl) (by kernel_rfl) (by kernel_rfl) (fun _ _ _ h => h) (yl_pickF (by rfl) _ _ _ rfl rfl _ rfl) (by assumption) ?_
                      simp only [Act.put, List.setIfInBounds_toArray, List.set_cons_zero, List.set_cons_succ]
                      refine wpAnyH_take (i := 41) (oi := ⟨_, _, _, _, _, _⟩) (v := .bool true) rfl (by kernel_rfl) (by kernel_rfl) (by kernel_rfl) (fun _ _ _ h => h) (yl_eqB (by rfl) _ _ _ rfl false false rfl rfl) (by assumption) ?_
                      simp only [Act.put, List.setIfInBounds_toArray, List.set_cons_zero, List.set_cons_succ]
                      refine wpAnyH_take (i := 42) (oi := ⟨_, _, _, _, _, _⟩) (v := .bool true) rfl (by kernel_rfl) (by kernel_rfl) (by kernel_rfl) (fun _ _ _ h => h) (yl_pickF (by rfl) _ _ _ rfl rfl _ rfl) (by assumption) ?_
                      simp only [Act.put, List.setIfInBounds_toArray, List.set_cons_zero, List.set_cons_succ]
                      refine wpAnyH_take (i := 43) (oi := ⟨_, _, _, _, _, _⟩) (v := .bool true) rfl (by kernel_rfl) (by kernel_rfl) (by kernel_rfl) (fun _ _ _ h => h) (yl_pickT (by rfl) _ _ _ rfl rfl _ rfl) (by assumption) ?_
                      simp only [Act.put, List.setIfInBounds_toArray, List.set_cons_zero, List.set_cons_succ]
                      refine wpAnyH_take (i := 44) (oi := ⟨_, _, _, _, _, _⟩) (v := .bool true) rfl (by kernel_rfl) (by kernel_rfl) (by kernel_rfl) (fun _ _ _ h => h) (yl_move (by rfl) _ rfl _ rfl) (by assumption) ?_
                      simp only [Act.put, List.setIfInBounds_toArray, List.set_cons_zero, List.set_cons_succ]
                      exact held_eq (by kernel_rfl) (hNEXT _ _ ⟨_, _, _, _, _, _, _, _, _, _, _, _, _, _, rfl, D, HA, HB, IA, IB, IE, IP, HP, IQ, HQ, IR, HR⟩)
                · intro hNEXT
                  refine wpAnyH_take (i := 14) (oi := ⟨_, _, _, _, _, _⟩) (v := EC.val u2) rfl (by kernel_rfl) (by kernel_rfl) (by kernel_rfl) (fun _ _ _ h => h) (yl_ex (by rfl) _ rfl _ 0 rfl _ (fun _ h => ExIn.ec h.2.1)) (by assumption) ?_
                  simp only [Act.put, List.setIfInBounds_toArray, List.set_cons_zero, List.set_cons_succ]
                  refine held_call (o := ⟨_, _, _, _, _, _⟩) 15 (by kernel_rfl) rfl (by rfl) 15 _ _ rfl #[EC.val u2] rfl (run_call Try.func15 (by kernel_rfl) (by kernel_rfl)) ?_
                  refine (c_right HQ (by omega)).mono ?_
                  rintro r v117 ⟨rfl, kb⟩
                  replace D := D.trans (kb.mono D.size)
                  replace HA := HA.on kb
                  replace HB := HB.on kb
                  replace IA := IA.on kb
                  replace IB := IB.on kb
                  replace IE := IE.on kb
                  replace IP := IP.on kb
                  replace HP := HP.on kb
                  replace IQ := IQ.on kb
                  replace HQ := HQ.on kb
                  replace IR := IR.on kb
                  replace HR := HR.on kb
                  clear kb
                  clear hHeld
                  cases hY : rightX (orX [x, y])
                  · refine ⟨.bool false, rfl, ⟨IP, IQ, IR, IE⟩, fun hHeld => ?_⟩
                    simp only [Act.put, List.setIfInBounds_toArray, List.set_cons_zero, List.set_cons_succ]
                    refine wpAnyH_take (i := 16) (oi := ⟨_, _, _, _, _, _⟩) (v := .bool true) rfl (by kernel_rfl) (by kernel_rfl) (by kernel_rfl) (fun _ _ _ h => h) (yl_not (by rfl) _ _ rfl false rfl) (by assumption) ?_
                    simp only [Act.put, List.setIfInBounds_toArray, List.set_cons_zero, List.set_cons_succ]
                    refine wpAnyH_take (i := 17) (oi := ⟨_, _, _, _, _, _⟩) (v := .bool true) rfl (by kernel_rfl) (by kernel_rfl) (by kernel_rfl) (fun _ _ _ h => h) (yl_move (by rfl) _ rfl _ rfl) (by assumption) ?_
                    simp only [Act.put, List.setIfInBounds_toArray, List.set_cons_zero, List.set_cons_succ]
                    refine wpAnyH_take (i := 18) (oi := ⟨_, _, _, _, _, _⟩) (v := undef) rfl (by kernel_rfl) (by kernel_rfl) (by kernel_rfl) (fun _ _ _ h => h) (yl_undef (by rfl)) (by assumption) ?_
                    simp only [Act.put, List.setIfInBounds_toArray, List.set_cons_zero, List.set_cons_succ]
                    refine wpAnyH_take (i := 19) (oi := ⟨_, _, _, _, _, _⟩) (v := undef) rfl (by kernel_rfl) (by kernel_rfl) (by kernel_rfl) (fun _ _ _ h => h) (yl_undef (by rfl)) (by assumption) ?_
                    simp only [Act.put, List.setIfInBounds_toArray, List.set_cons_zero, List.set_cons_succ]
                    refine wpAnyH_take (i := 20) (oi := ⟨_, _, _, _, _, _⟩) (v := undef) rfl (by kernel_rfl) (by kernel_rfl) (by kernel_rfl) (fun _ _ _ h => h) (yl_undef (by rfl)) (by assumption) ?_
                    simp only [Act.put, List.setIfInBounds_toArray, List.set_cons_zero, List.set_cons_succ]
                    refine wpAnyH_take (i := 21) (oi := ⟨_, _, _, _, _, _⟩) (v := undef) rfl (by kernel_rfl) (by kernel_rfl) (by kernel_rfl) (fun _ _ _ h => h) (yl_undef (by rfl)) (by assumption) ?_
                    simp only [Act.put, List.setIfInBounds_toArray, List.set_cons_zero, List.set_cons_succ]
                    refine wpAnyH_take (i := 22) (oi := ⟨_, _, _, _, _, _⟩) (v := undef) rfl (by kernel_rfl) (by kernel_rfl) (by kernel_rfl) (fun _ _ _ h => h) (yl_undef (by rfl)) (by assumption) ?_
                    simp only [Act.put, List.setIfInBounds_toArray, List.set_cons_zero, List.set_cons_succ]
                    refine wpAnyH_take (i := 23) (oi := ⟨_, _, _, _, _, _⟩) (v := undef) rfl (by kernel_rfl) (by kernel_rfl) (by kernel_rfl) (fun _ _ _ h => h) (yl_undef (by rfl)) (by assumption) ?_
                    simp only [Act.put, List.setIfInBounds_toArray, List.set_cons_zero, List.set_cons_succ]
                    refine wpAnyH_take (i := 24) (oi := ⟨_, _, _, _, _, _⟩) (v := undef) rfl (by kernel_rfl) (by kernel_rfl) (by kernel_rfl) (fun _ _ _ h => h) (yl_undef (by rfl)) (by assumption) ?_
                    simp only [Act.put, List.setIfInBounds_toArray, List.set_cons_zero, List.set_cons_succ]
                    refine wpAnyH_take (i := 25) (oi := ⟨_, _, _, _, _, _⟩) (v := undef) rfl (by kernel_rfl) (by kernel_rfl) (by kernel_rfl) (fun _ _ _ h => h) (yl_undef (by rfl)) (by assumption) ?_
                    simp only [Act.put, List.setIfInBounds_toArray, List.set_cons_zero, List.set_cons_succ]
                    refine wpAnyH_take (i := 26) (oi := ⟨_, _, _, _, _, _⟩) (v := .bool true) rfl (by kernel_rfl) (by kernel_rfl) (by kernel_rfl) (fun _ _ _ h => h) (yl_pickT (by rfl) _ _ _ rfl rfl _ rfl) (by assumption) ?_
                    simp only [Act.put, List.setIfInBounds_toArray, List.set_cons_zero, List.set_cons_succ]
                    refine wpAnyH_take (i := 27) (oi := ⟨_, _, _, _, _, _⟩) (v := .bool true) rfl (by kernel_rfl) (by kernel_rfl) (by kernel_rfl) (fun _ _ _ h => h) (yl_pickT (by rfl) _ _ _ rfl rfl _ rfl) (by assumption) ?_
                    simp only [Act.put, List.setIfInBounds_toArray, List.set_cons_zero, List.set_cons_succ]
                    refine wpAnyH_take (i := 28) (oi := ⟨_, _, _, _, _, _⟩) (v := .bool true) rfl (by kernel_rfl) (by kernel_rfl) (by kernel_rfl) (fun _ _ _ h => h) (yl_move (by rfl) _ rfl _ rfl) (by assumption) ?_
                    simp only [Act.put, List.setIfInBounds_toArray, List.set_cons_zero, List.set_cons_succ]
                    exact held_eq (by kernel_rfl) (hNEXT _ _ ⟨_, _, _, _, _, _, _, _, _, _, _, _, _, rfl, D, HA, HB, IA, IB, IE, IP, HP, IQ, HQ, IR, HR⟩)
                  · refine ⟨.bool true, rfl, ⟨IP, IQ, IR, IE⟩, fun hHeld => ?_⟩
                    simp only [Act.put, List.setIfInBounds_toArray, List.set_cons_zero, List.set_cons_succ]
                    refine wpAnyH_take (i := 16) (oi := ⟨_, _, _, _, _, _⟩) (v := .bool false) rfl (by kernel_rfl) (by kernel_rfl) (by kernel_rfl) (fun _ _ _ h => h) (yl_not (by rfl) _ _ rfl true rfl) (by assumption) ?_
                    simp only [Act.put, List.setIfInBounds_toArray, List.set_cons_zero, List.set_cons_succ]
                    refine wpAnyH_take (i := 17) (oi := ⟨_, _, _, _, _, _⟩) (v := .bool false) rfl (by kernel_rfl) (by kernel_rfl) (by kernel_rfl) (fun _ _ _ h => h) (yl_move (by rfl) _ rfl _ rfl) (by assumption) ?_
                    simp only [Act.put, List.setIfInBounds_toArray, List.set_cons_zero, List.set_cons_succ]
                    refine wpAnyH_take (i := 18) (oi := ⟨_, _, _, _, _, _⟩) (v := EC.val u2) rfl (by kernel_rfl) (by kernel_rfl) (by kernel_rfl) (fun _ _ _ h => h) (yl_ex (by rfl) _ rfl _ 0 rfl _ (fun _ h => ExIn.ec h.2.1)) (by assumption) ?_
                    simp only [Act.put, List.setIfInBounds_toArray, List.set_cons_zero, List.set_cons_succ]
                    refine wpAnyH_take (i := 19) (oi := ⟨_, _, _, _, _, _⟩) (v := evVal e) rfl (by kernel_rfl) (by kernel_rfl) (by kernel_rfl) (fun _ _ _ h => h) (yl_ev (by rfl) _ rfl _ 0 rfl _ _ _ _ _ _ _ _ _ _ _ _ (fun _ h => evCells h.2.2.2)) (by assumption) ?_
                    simp only [Act.put, List.setIfInBounds_toArray, List.set_cons_zero, List.set_cons_succ]
                    refine wpAnyH_take (i := 21) (oi := ⟨_, _, _, _, _, _⟩) (v := .bool false) rfl (by kernel_rfl) (by kernel_rfl) (by kernel_rfl) (fun _ _ _ h => h) (yl_move (by rfl) _ rfl _ rfl) (by assumption) ?_
                    simp only [Act.put, List.setIfInBounds_toArray, List.set_cons_zero, List.set_cons_succ]
                    refine held_call (o := ⟨_, _, _, _, _, _⟩) 20 (by kernel_rfl) rfl (by rfl) 17 _ _ rfl #[EC.val u2, evVal e] rfl (run_call Try.func17 (by kernel_rfl) (by kernel_rfl)) ?_
                    refine (c_eval HQ (by omega) hf).mono ?_
                    rintro r v118 ⟨rfl, kb⟩
                    replace D := D.trans (kb.mono D.size)
                    replace HA := HA.on kb
                    replace HB := HB.on kb
                    replace IA := IA.on kb
                    replace IB := IB.on kb
                    replace IE := IE.on kb
                    replace IP := IP.on kb
                    replace HP := HP.on kb
                    replace IQ := IQ.on kb
                    replace HQ := HQ.on kb
                    replace IR := IR.on kb
                    replace HR := HR.on kb
                    clear kb
                    clear hHeld
                    refine ⟨.bool false, ret_bool (by rw [makes_or hRA hRB hY, hI, hK]; rfl), ⟨IP, IQ, IR, IE⟩, fun hHeld => ?_⟩
                    simp only [Act.put, List.setIfInBounds_toArray, List.set_cons_zero, List.set_cons_succ]
                    refine wpAnyH_take (i := 22) (oi := ⟨_, _, _, _, _, _⟩) (v := .bool false) rfl (by kernel_rfl) (by kernel_rfl) (by kernel_rfl) (fun _ _ _ h => h) (yl_move (by rfl) _ rfl _ rfl) (by assumption) ?_
                    simp only [Act.put, List.setIfInBounds_toArray, List.set_cons_zero, List.set_cons_succ]
                    refine wpAnyH_take (i := 23) (oi := ⟨_, _, _, _, _, _⟩) (v := .bool false) rfl (by kernel_rfl) (by kernel_rfl) (by kernel_rfl) (fun _ _ _ h => h) (yl_move (by rfl) _ rfl _ rfl) (by assumption) ?_
                    simp only [Act.put, List.setIfInBounds_toArray, List.set_cons_zero, List.set_cons_succ]
                    refine wpAnyH_take (i := 24) (oi := ⟨_, _, _, _, _, _⟩) (v := .bool false) rfl (by kernel_rfl) (by kernel_rfl) (by kernel_rfl) (fun _ _ _ h => h) (yl_pickF (by rfl) _ _ _ rfl rfl _ rfl) (by assumption) ?_
                    simp only [Act.put, List.setIfInBounds_toArray, List.set_cons_zero, List.set_cons_succ]
                    refine wpAnyH_take (i := 25) (oi := ⟨_, _, _, _, _, _⟩) (v := .bool true) rfl (by kernel_rfl) (by kernel_rfl) (by kernel_rfl) (fun _ _ _ h => h) (yl_eqB (by rfl) _ _ _ rfl false false rfl rfl) (by assumption) ?_
                    simp only [Act.put, List.setIfInBounds_toArray, List.set_cons_zero, List.set_cons_succ]
                    refine wpAnyH_take (i := 26) (oi := ⟨_, _, _, _, _, _⟩) (v := .bool true) rfl (by kernel_rfl) (by kernel_rfl) (by kernel_rfl) (fun _ _ _ h => h) (yl_pickF (by rfl) _ _ _ rfl rfl _ rfl) (by assumption) ?_
                    simp only [Act.put, List.setIfInBounds_toArray, List.set_cons_zero, List.set_cons_succ]
                    refine wpAnyH_take (i := 27) (oi := ⟨_, _, _, _, _, _⟩) (v := .bool true) rfl (by kernel_rfl) (by kernel_rfl) (by kernel_rfl) (fun _ _ _ h => h) (yl_pickT (by rfl) _ _ _ rfl rfl _ rfl) (by assumption) ?_
                    simp only [Act.put, List.setIfInBounds_toArray, List.set_cons_zero, List.set_cons_succ]
                    refine wpAnyH_take (i := 28) (oi := ⟨_, _, _, _, _, _⟩) (v := .bool true) rfl (by kernel_rfl) (by kernel_rfl) (by kernel_rfl) (fun _ _ _ h => h) (yl_move (by rfl) _ rfl _ rfl) (by assumption) ?_
                    simp only [Act.put, List.setIfInBounds_toArray, List.set_cons_zero, List.set_cons_succ]
                    exact held_eq (by kernel_rfl) (hNEXT _ _ ⟨_, _, _, _, _, _, _, _, _, _, _, _, _, rfl, D, HA, HB, IA, IB, IE, IP, HP, IQ, HQ, IR, HR⟩)
              · intro hNEXT
                refine wpAnyH_take (i := 0) (oi := ⟨_, _, _, _, _, _⟩) (v := EC.val u1) rfl (by kernel_rfl) (by kernel_rfl) (by kernel_rfl) (fun _ _ _ h => h) (yl_ex (by rfl) _ rfl _ 0 rfl _ (fun _ h => ExIn.ec h.1)) (by assumption) ?_
                simp only [Act.put, List.setIfInBounds_toArray, List.set_cons_zero, List.set_cons_succ]
                refine held_call (o := ⟨_, _, _, _, _, _⟩) 1 (by kernel_rfl) rfl (by rfl) 15 _ _ rfl #[EC.val u1] rfl (run_call Try.func15 (by kernel_rfl) (by kernel_rfl)) ?_
                refine (c_right HP (by omega)).mono ?_
                rintro r v116 ⟨rfl, kb⟩
                replace D := D.trans (kb.mono D.size)
                replace HA := HA.on kb
                replace HB := HB.on kb
                replace IA := IA.on kb
                replace IB := IB.on kb
                replace IE := IE.on kb
                replace IP := IP.on kb
                replace HP := HP.on kb
                replace IQ := IQ.on kb
                replace HQ := HQ.on kb
                replace IR := IR.on kb
                replace HR := HR.on kb
                clear kb
                clear hHeld
                cases hX : rightX (andX [x, y])
                · refine ⟨.bool false, rfl, ⟨IP, IQ, IR, IE⟩, fun hHeld => ?_⟩
                  simp only [Act.put, List.setIfInBounds_toArray, List.set_cons_zero, List.set_cons_succ]
                  refine wpAnyH_take (i := 2) (oi := ⟨_, _, _, _, _, _⟩) (v := .bool true) rfl (by kernel_rfl) (by kernel_rfl) (by kernel_rfl) (fun _ _ _ h => h) (yl_not (by rfl) _ _ rfl false rfl) (by assumption) ?_
                  simp only [Act.put, List.setIfInBounds_toArray, List.set_cons_zero, List.set_cons_succ]
                  refine wpAnyH_take (i := 3) (oi := ⟨_, _, _, _, _, _⟩) (v := .bool true) rfl (by kernel_rfl) (by kernel_rfl) (by kernel_rfl) (fun _ _ _ h => h) (yl_move (by rfl) _ rfl _ rfl) (by assumption) ?_
                  simp only [Act.put, List.setIfInBounds_toArray, List.set_cons_zero, List.set_cons_succ]
                  refine wpAnyH_take (i := 4) (oi := ⟨_, _, _, _, _, _⟩) (v := undef) rfl (by kernel_rfl) (by kernel_rfl) (by kernel_rfl) (fun _ _ _ h => h) (yl_undef (by rfl)) (by assumption) ?_
                  simp only [Act.put, List.setIfInBounds_toArray, List.set_cons_zero, List.set_cons_succ]
                  refine wpAnyH_take (i := 5) (oi := ⟨_, _, _, _, _, _⟩) (v := undef) rfl (by kernel_rfl) (by kernel_rfl) (by kernel_rfl) (fun _ _ _ h => h) (yl_undef (by rfl)) (by assumption) ?_
                  simp only [Act.put, List.setIfInBounds_toArray, List.set_cons_zero, List.set_cons_succ]
                  refine wpAnyH_take (i := 6) (oi := ⟨_, _, _, _, _, _⟩) (v := undef) rfl (by kernel_rfl) (by kernel_rfl) (by kernel_rfl) (fun _ _ _ h => h) (yl_undef (by rfl)) (by assumption) ?_
                  simp only [Act.put, List.setIfInBounds_toArray, List.set_cons_zero, List.set_cons_succ]
                  refine wpAnyH_take (i := 7) (oi := ⟨_, _, _, _, _, _⟩) (v := undef) rfl (by kernel_rfl) (by kernel_rfl) (by kernel_rfl) (fun _ _ _ h => h) (yl_undef (by rfl)) (by assumption) ?_
                  simp only [Act.put, List.setIfInBounds_toArray, List.set_cons_zero, List.set_cons_succ]
                  refine wpAnyH_take (i := 8) (oi := ⟨_, _, _, _, _, _⟩) (v := undef) rfl (by kernel_rfl) (by kernel_rfl) (by kernel_rfl) (fun _ _ _ h => h) (yl_undef (by rfl)) (by assumption) ?_
                  simp only [Act.put, List.setIfInBounds_toArray, List.set_cons_zero, List.set_cons_succ]
                  refine wpAnyH_take (i := 9) (oi := ⟨_, _, _, _, _, _⟩) (v := undef) rfl (by kernel_rfl) (by kernel_rfl) (by kernel_rfl) (fun _ _ _ h => h) (yl_undef (by rfl)) (by assumption) ?_
                  simp only [Act.put, List.setIfInBounds_toArray, List.set_cons_zero, List.set_cons_succ]
                  refine wpAnyH_take (i := 10) (oi := ⟨_, _, _, _, _, _⟩) (v := undef) rfl (by kernel_rfl) (by kernel_rfl) (by kernel_rfl) (fun _ _ _ h => h) (yl_undef (by rfl)) (by assumption) ?_
                  simp only [Act.put, List.setIfInBounds_toArray, List.set_cons_zero, List.set_cons_succ]
                  refine wpAnyH_take (i := 11) (oi := ⟨_, _, _, _, _, _⟩) (v := undef) rfl (by kernel_rfl) (by kernel_rfl) (by kernel_rfl) (fun _ _ _ h => h) (yl_undef (by rfl)) (by assumption) ?_
                  simp only [Act.put, List.setIfInBounds_toArray, List.set_cons_zero, List.set_cons_succ]
                  refine wpAnyH_take (i := 12) (oi := ⟨_, _, _, _, _, _⟩) (v := .bool true) rfl (by kernel_rfl) (by kernel_rfl) (by kernel_rfl) (fun _ _ _ h => h) (yl_pickT (by rfl) _ _ _ rfl rfl _ rfl) (by assumption) ?_
                  simp only [Act.put, List.setIfInBounds_toArray, List.set_cons_zero, List.set_cons_succ]
                  refine wpAnyH_take (i := 13) (oi := ⟨_, _, _, _, _, _⟩) (v := .bool true) rfl (by kernel_rfl) (by kernel_rfl) (by kernel_rfl) (fun _ _ _ h => h) (yl_move (by rfl) _ rfl _ rfl) (by assumption) ?_
                  simp only [Act.put, List.setIfInBounds_toArray, List.set_cons_zero, List.set_cons_succ]
                  exact held_eq (by kernel_rfl) (hNEXT _ _ ⟨_, _, _, _, _, _, _, _, _, _, _, _, rfl, D, HA, HB, IA, IB, IE, IP, HP, IQ, HQ, IR, HR⟩)
                · refine ⟨.bool true, rfl, ⟨IP, IQ, IR, IE⟩, fun hHeld => ?_⟩
                  simp only [Act.put, List.setIfInBounds_toArray, List.set_cons_zero, List.set_cons_succ]
                  refine wpAnyH_take (i := 2) (oi := ⟨_, _, _, _, _, _⟩) (v := .bool false) rfl (by kernel_rfl) (by kernel_rfl) (by kernel_rfl) (fun _ _ _ h => h) (yl_not (by rfl) _ _ rfl true rfl) (by assumption) ?_
                  simp only [Act.put, List.setIfInBounds_toArray, List.set_cons_zero, List.set_cons_succ]
                  refine wpAnyH_take (i := 3) (oi := ⟨_, _, _, _, _, _⟩) (v := .bool false) rfl (by kernel_rfl) (by kernel_rfl) (by kernel_rfl) (fun _ _ _ h => h) (yl_move (by rfl) _ rfl _ rfl) (by assumption) ?_
                  simp only [Act.put, List.setIfInBounds_toArray, List.set_cons_zero, List.set_cons_succ]
                  refine wpAnyH_take (i := 4) (oi := ⟨_, _, _, _, _, _⟩) (v := EC.val u1) rfl (by kernel_rfl) (by kernel_rfl) (by kernel_rfl) (fun _ _ _ h => h) (yl_ex (by rfl) _ rfl _ 0 rfl _ (fun _ h => ExIn.ec h.1)) (by assumption) ?_
                  simp only [Act.put, List.setIfInBounds_toArray, List.set_cons_zero, List.set_cons_succ]
                  refine wpAnyH_take (i := 5) (oi := ⟨_, _, _, _, _, _⟩) (v := evVal e) rfl (by kernel_rfl) (by kernel_rfl) (by kernel_rfl) (fun _ _ _ h => h) (yl_ev (by rfl) _ rfl _ 0 rfl _ _ _ _ _ _ _ _ _ _ _ _ (fun _ h => evCells h.2.2.2)) (by assumption) ?_
                  simp only [Act.put, List.setIfInBounds_toArray, List.set_cons_zero, List.set_cons_succ]
                  refine wpAnyH_take (i := 7) (oi := ⟨_, _, _, _, _, _⟩) (v := .bool false) rfl (by kernel_rfl) (by kernel_rfl) (by kernel_rfl) (fun _ _ _ h => h) (yl_move (by rfl) _ rfl _ rfl) (by assumption) ?_
                  simp only [Act.put, List.setIfInBounds_toArray, List.set_cons_zero, List.set_cons_succ]
                  refine held_call (o := ⟨_, _, _, _, _, _⟩) 6 (by kernel_rfl) rfl (by rfl) 17 _ _ rfl #[EC.val u1, evVal e] rfl (run_call Try.func17 (by kernel_rfl) (by kernel_rfl)) ?_
                  refine (c_eval HP (by omega) hf).mono ?_
                  rintro r v117 ⟨rfl, kb⟩
                  replace D := D.trans (kb.mono D.size)
                  replace HA := HA.on kb
                  replace HB := HB.on kb
                  replace IA := IA.on kb
                  replace IB := IB.on kb
                  replace IE := IE.on kb
                  replace IP := IP.on kb
                  replace HP := HP.on kb
                  replace IQ := IQ.on kb
                  replace HQ := HQ.on kb
                  replace IR := IR.on kb
                  replace HR := HR.on kb
                  clear kb
                  clear hHeld
                  refine ⟨.bool false, ret_bool (by rw [makes_and hRA hRB hX, hI, hK]; rfl), ⟨IP, IQ, IR, IE⟩, fun hHeld => ?_⟩
                  simp only [Act.put, List.setIfInBounds_toArray, List.set_cons_zero, List.set_cons_succ]
                  refine wpAnyH_take (i := 8) (oi := ⟨_, _, _, _, _, _⟩) (v := .bool false) rfl (by kernel_rfl) (by kernel_rfl) (by kernel_rfl) (fun _ _ _ h => h) (yl_move (by rfl) _ rfl _ rfl) (by assumption) ?_
                  simp only [Act.put, List.setIfInBounds_toArray, List.set_cons_zero, List.set_cons_succ]
                  refine wpAnyH_take (i := 9) (oi := ⟨_, _, _, _, _, _⟩) (v := undef) rfl (by kernel_rfl) (by kernel_rfl) (by kernel_rfl) (fun _ _ _ h => h) (yl_undef (by rfl)) (by assumption) ?_
                  simp only [Act.put, List.setIfInBounds_toArray, List.set_cons_zero, List.set_cons_succ]
                  refine wpAnyH_take (i := 10) (oi := ⟨_, _, _, _, _, _⟩) (v := .bool false) rfl (by kernel_rfl) (by kernel_rfl) (by kernel_rfl) (fun _ _ _ h => h) (yl_pickF (by rfl) _ _ _ rfl rfl _ rfl) (by assumption) ?_
                  simp only [Act.put, List.setIfInBounds_toArray, List.set_cons_zero, List.set_cons_succ]
                  refine wpAnyH_take (i := 11) (oi := ⟨_, _, _, _, _, _⟩) (v := .bool true) rfl (by kernel_rfl) (by kernel_rfl) (by kernel_rfl) (fun _ _ _ h => h) (yl_eqB (by rfl) _ _ _ rfl false false rfl rfl) (by assumption) ?_
                  simp only [Act.put, List.setIfInBounds_toArray, List.set_cons_zero, List.set_cons_succ]
                  refine wpAnyH_take (i := 12) (oi := ⟨_, _, _, _, _, _⟩) (v := .bool true) rfl (by kernel_rfl) (by kernel_rfl) (by kernel_rfl) (fun _ _ _ h => h) (yl_pickF (by rfl) _ _ _ rfl rfl _ rfl) (by assumption) ?_
                  simp only [Act.put, List.setIfInBounds_toArray, List.set_cons_zero, List.set_cons_succ]
                  refine wpAnyH_take (i := 13) (oi := ⟨_, _, _, _, _, _⟩) (v := .bool true) rfl (by kernel_rfl) (by kernel_rfl) (by kernel_rfl) (fun _ _ _ h => h) (yl_move (by rfl) _ rfl _ rfl) (by assumption) ?_
                  simp only [Act.put, List.setIfInBounds_toArray, List.set_cons_zero, List.set_cons_succ]
                  exact held_eq (by kernel_rfl) (hNEXT _ _ ⟨_, _, _, _, _, _, _, _, _, _, _, _, rfl, D, HA, HB, IA, IB, IE, IP, HP, IQ, HQ, IR, HR⟩)
            · refine ⟨.bool true, rfl, IE, fun hHeld => ?_⟩
              simp only [Act.put, List.setIfInBounds_toArray, List.set_cons_zero, List.set_cons_succ]
              refine wpAnyH_take (i := 3) (oi := ⟨_, _, _, _, _, _⟩) (v := .bool true) rfl (by kernel_rfl) (by kernel_rfl) (by kernel_rfl) (fun _ _ _ h => h) (yl_assign (by rfl) _ rfl _ rfl) (by assumption) ?_
              simp only [Act.put, List.setIfInBounds_toArray, List.set_cons_zero, List.set_cons_succ]
              refine wpAnyH_done (by kernel_rfl) ?_ _
              clear hHeld
              refine hK5 _ _ ?_
              clear hK5 K5
              refine wp_seq_k (fun K6 hK6 => ?_)
              have hSr : rightE e = true := (eval_none e).symm.trans hS
              refine wp_region_held_drew (S := fun w' => ExIn w' g1 u1 ∧ ExIn w' g2 u2 ∧ ExIn w' g3 u3 ∧ EvIn w' gb3 e) (by kernel_rfl) ⟨IP, IQ, IR, IE⟩ (fun hHeld => ?_)
              have kb : Below v14.heap.size v14 v14.drew := (Below.refl _ v14).drew
              replace D := D.trans (kb.mono D.size)
              replace HA := HA.on kb
              replace HB := HB.on kb
              replace IA := IA.on kb
              replace IB := IB.on kb
              replace IE := IE.on kb
              replace IP := IP.on kb
              replace HP := HP.on kb
              replace IQ := IQ.on kb
              replace HQ := HQ.on kb
              replace IR := IR.on kb
              replace HR := HR.on kb
              clear kb
              generalize v14.drew = v15 at D hHeld HA HB IA IB IE IP HP IQ HQ IR HR ⊢
              refine cut_held (fun a W => ∃ z55 z56 z57 z58 z59 z60 z61 z62 z63 z64 z65 z66 : Value, a = { tmps := #[EC.val c, EC.val d, evVal e, .pointer (some ⟨gb1, 0, none⟩), .pointer (some ⟨gb2, 0, none⟩), .pointer (some ⟨gb3, 0, none⟩), .bool false, .pointer (some ⟨g1, 0, none⟩), .pointer (some ⟨g2, 0, none⟩), .pointer (some ⟨g3, 0, none⟩), .bool false, .bool false, .bool true, .bool true, .bool false, .bool false, EC.val c, .bool true, .bool false, .bool false, .bool false, EC.val d, .bool true, .bool false, .bool false, .bool false, EC.val c, .bool true, .bool false, .bool false, .bool false, EC.val d, .bool true, .bool false, .bool false, undef, y36, y37, y38, y39, y40, y41, y42, y43, y44, y45, EC.val c, evVal e, .bool false, EC.val d, evVal e, .bool false, EC.val z, evVal e, .bool true, z55, z56, z57, z58, z59, z60, z61, z62, z63, z64, z65, z66, .bool true, .bool true, undef, undef, undef, undef, undef, undef, undef, undef, undef, undef, undef, undef, undef, undef, undef, undef, undef, undef, undef, undef, undef, undef, undef, undef, undef, undef, undef, undef, undef, undef, undef, undef, undef, undef, undef, undef, undef], defers := [] } ∧ Below w.heap.size w W ∧ Xp 19 W c x ∧ Xp 19 W d y ∧ ExIn W gb1 c ∧ ExIn W gb2 d ∧ EvIn W gb3 e ∧ ExIn W g1 u1 ∧ Xp 20 W u1 (andX [x, y]) ∧ ExIn W g2 u2 ∧ Xp 20 W u2 (orX [x, y]) ∧ ExIn W g3 u3 ∧ Xp 20 W u3 (notX x)) #[true, true, true, true, true, true, true, true, true, true, true, true, true, true, false, false, false, false, false, false, false, false, false, false, false, false, false, false, false, false, false, false, false, false, false, false, false, false, false, false, false, false, false, false, false, false, false, false, false, false, false, false] 38 ?_ ?_
              · clear hHeld D HA HB IA IB IE IP HP IQ HQ IR HR
                rintro _ v16 ⟨z55, z56, z57, z58, z59, z60, z61, z62, z63, z64, z65, z66, rfl, D, HA, HB, IA, IB, IE, IP, HP, IQ, HQ, IR, HR⟩
                have hHeld := And.intro IP (And.intro IQ (And.intro IR (IE)))
                refine cut_held (fun a W => ∃ z69 z70 z71 z72 z73 z74 z75 z76 z77 z78 z79 z80 z81 : Value, a = { tmps := #[EC.val c, EC.val d, evVal e, .pointer (some ⟨gb1, 0, none⟩), .pointer (some ⟨gb2, 0, none⟩), .pointer (some ⟨gb3, 0, none⟩), .bool false, .pointer (some ⟨g1, 0, none⟩), .pointer (some ⟨g2, 0, none⟩), .pointer (some ⟨g3, 0, none⟩), .bool false, .bool false, .bool true, .bool true, .bool false, .bool false, EC.val c, .bool true, .bool false, .bool false, .bool false, EC.val d, .bool true, .bool false, .bool false, .bool false, EC.val c, .bool true, .bool false, .bool false, .bool false, EC.val d, .bool true, .bool false, .bool false, undef, y36, y37, y38, y39, y40, y41, y42, y43, y44, y45, EC.val c, evVal e, .bool false, EC.val d, evVal e, .bool false, EC.val z, evVal e, .bool true, z55, z56, z57, z58, z59, z60, z61, z62, z63, z64, z65, z66, .bool true, .bool true, z69, z70, z71, z72, z73, z74, z75, z76, z77, z78, z79, z80, z81, .bool true, .bool true, undef, undef, undef, undef, undef, undef, undef, undef, undef, undef, undef, undef, undef, undef, undef, undef, undef, undef, undef, undef, undef, undef], defers := [] } ∧ Below w.heap.size w W ∧ Xp 19 W c x ∧ Xp 19 W d y ∧ ExIn W gb1 c ∧ ExIn W gb2 d ∧ EvIn W gb3 e ∧ ExIn W g1 u1 ∧ Xp 20 W u1 (andX [x, y]) ∧ ExIn W g2 u2 ∧ Xp 20 W u2 (orX [x, y]) ∧ ExIn W g3 u3 ∧ Xp 20 W u3 (notX x)) #[true, true, true, true, true, true, true, true, true, true, true, true, true, true, true, true, true, true, true, true, true, true, true, true, true, true, true, true, true, false, false, false, false, false, false, false, false, false, false, false, false, false, false, false, false, false, false, false, false, false, false, false] 23 ?_ ?_
                · clear hHeld D HA HB IA IB IE IP HP IQ HQ IR HR
                  rintro _ v17 ⟨z69, z70, z71, z72, z73, z74, z75, z76, z77, z78, z79, z80, z81, rfl, D, HA, HB, IA, IB, IE, IP, HP, IQ, HQ, IR, HR⟩
                  have hHeld := And.intro IP (And.intro IQ (And.intro IR (IE)))
                  refine cut_held (fun a W => ∃ z84 z85 z86 z87 z88 z89 z90 z91 z92 z93 z94 z95 z96 z97 : Value, a = { tmps := #[EC.val c, EC.val d, evVal e, .pointer (some ⟨gb1, 0, none⟩), .pointer (some ⟨gb2, 0, none⟩), .pointer (some ⟨gb3, 0, none⟩), .bool false, .pointer (some ⟨g1, 0, none⟩), .pointer (some ⟨g2, 0, none⟩), .pointer (some ⟨g3, 0, none⟩), .bool false, .bool false, .bool true, .bool true, .bool false, .bool false, EC.val c, .bool true, .bool false, .bool false, .bool false, EC.val d, .bool true, .bool false, .bool false, .bool false, EC.val c, .bool true, .bool false, .bool false, .bool false, EC.val d, .bool true, .bool false, .bool false, undef, y36, y37, y38, y39, y40, y41, y42, y43, y44, y45, EC.val c, evVal e, .bool false, EC.val d, evVal e, .bool false, EC.val z, evVal e, .bool true, z55, z56, z57, z58, z59, z60, z61, z62, z63, z64, z65, z66, .bool true, .bool true, z69, z70, z71, z72, z73, z74, z75, z76, z77, z78, z79, z80, z81, .bool true, .bool true, z84, z85, z86, z87, z88, z89, z90, z91, z92, z93, z94, z95, z96, z97, .bool true, .bool true, undef, undef, undef, undef, undef, undef], defers := [] } ∧ Below w.heap.size w W ∧ Xp 19 W c x ∧ Xp 19 W d y ∧ ExIn W gb1 c ∧ ExIn W gb2 d ∧ EvIn W gb3 e ∧ ExIn W g1 u1 ∧ Xp 20 W u1 (andX [x, y]) ∧ ExIn W g2 u2 ∧ Xp 20 W u2 (orX [x, y]) ∧ ExIn W g3 u3 ∧ Xp 20 W u3 (notX x)) #[true, true, true, true, true, true, true, true, true, true, true, true, true, true, true, true, true, true, true, true, true, true, true, true, true, true, true, true, true, true, true, true, true, true, true, true, true, true, true, true, true, true, true, true, true, false, false, false, false, false, false, false] 7 ?_ ?_
                  · clear hHeld D HA HB IA IB IE IP HP IQ HQ IR HR
                    rintro _ v18 ⟨z84, z85, z86, z87, z88, z89, z90, z91, z92, z93, z94, z95, z96, z97, rfl, D, HA, HB, IA, IB, IE, IP, HP, IQ, HQ, IR, HR⟩
                    have hHeld := And.intro IP (And.intro IQ (And.intro IR (IE)))
                    refine wpAnyH_take (i := 45) (oi := ⟨_, _, _, _, _, _⟩) (v := EC.val u1) rfl (by kernel_rfl) (by kernel_rfl) (by kernel_rfl) (fun _ _ _ h => h) (yl_ex (by rfl) _ rfl _ 0 rfl _ (fun _ h => ExIn.ec h.1)) (by assumption) ?_
                    simp only [Act.put, List.setIfInBounds_toArray, List.set_cons_zero, List.set_cons_succ]
                    refine wpAnyH_take (i := 47) (oi := ⟨_, _, _, _, _, _⟩) (v := EC.val u1) rfl (by kernel_rfl) (by kernel_rfl) (by kernel_rfl) (fun _ _ _ h => h) (yl_ex (by rfl) _ rfl _ 0 rfl _ (fun _ h => ExIn.ec h.1)) (by assumption) ?_
                    simp only [Act.put, List.setIfInBounds_toArray, List.set_cons_zero, List.set_cons_succ]
                    refine held_call (o := ⟨_, _, _, _, _, _⟩) 46 (by kernel_rfl) rfl (by rfl) 15 _ _ rfl #[EC.val u1] rfl (run_call Try.func15 (by kernel_rfl) (by kernel_rfl)) ?_
                    refine (c_right HP (by omega)).mono ?_
                    rintro r v19 ⟨rfl, kb⟩
                    replace D := D.trans (kb.mono D.size)
                    replace HA := HA.on kb
                    replace HB := HB.on kb
                    replace IA := IA.on kb
                    replace IB := IB.on kb
                    replace IE := IE.on kb
                    replace IP := IP.on kb
                    replace HP := HP.on kb
                    replace IQ := IQ.on kb
                    replace HQ := HQ.on kb
                    replace IR := IR.on kb
                    replace HR := HR.on kb
                    clear kb
                    clear hHeld
                    cases hX : rightX (andX [x, y])
                    · refine ⟨.bool false, rfl, ⟨IP, IQ, IR, IE⟩, fun hHeld => ?_⟩
                      simp only [Act.put, List.setIfInBounds_toArray, List.set_cons_zero, List.set_cons_succ]
                      refine held_call (o := ⟨_, _, _, _, _, _⟩) 48 (by kernel_rfl) rfl (by rfl) 16 _ _ rfl #[EC.val u1] rfl (run_call Try.func16 (by kernel_rfl) (by kernel_rfl)) ?_
                      refine (c_refRight HP).mono ?_
                      rintro r v20 ⟨rfl, kb⟩
                      replace D := D.trans (kb.mono D.size)
                      replace HA := HA.on kb
                      replace HB := HB.on kb
                      replace IA := IA.on kb
                      replace IB := IB.on kb
                      replace IE := IE.on kb
                      replace IP := IP.on kb
                      replace HP := HP.on kb
                      replace IQ := IQ.on kb
                      replace HQ := HQ.on kb
                      replace IR := IR.on kb
                      replace HR := HR.on kb
                      clear kb
                      clear hHeld
                      refine ⟨.bool false, ret_bool hX, ⟨IP, IQ, IR, IE⟩, fun hHeld => ?_⟩
                      simp only [Act.put, List.setIfInBounds_toArray, List.set_cons_zero, List.set_cons_succ]
                      refine wpAnyH_take (i := 49) (oi := ⟨_, _, _, _, _, _⟩) (v := .bool true) rfl (by kernel_rfl) (by kernel_rfl) (by kernel_rfl) (fun _ _ _ h => h) (yl_eqB (by rfl) _ _ _ rfl false false rfl rfl) (by assumption) ?_
                      simp only [Act.put, List.setIfInBounds_toArray, List.set_cons_zero, List.set_cons_succ]
                      refine wpAnyH_take (i := 50) (oi := ⟨_, _, _, _, _, _⟩) (v := .bool true) rfl (by kernel_rfl) (by kernel_rfl) (by kernel_rfl) (fun _ _ _ h => h) (yl_pickT (by rfl) _ _ _ rfl rfl _ rfl) (by assumption) ?_
                      simp only [Act.put, List.setIfInBounds_toArray, List.set_cons_zero, List.set_cons_succ]
                      refine wpAnyH_take (i := 51) (oi := ⟨_, _, _, _, _, _⟩) (v := .bool true) rfl (by kernel_rfl) (by kernel_rfl) (by kernel_rfl) (fun _ _ _ h => h) (yl_assign (by rfl) _ rfl _ rfl) (by assumption) ?_
                      simp only [Act.put, List.setIfInBounds_toArray, List.set_cons_zero, List.set_cons_succ]
                      refine wpAnyH_done (by kernel_rfl) ?_ _
                      clear hHeld
                      refine hK6 _ _ ?_
                      clear hK6 K6
                      refine wp_ret ?_
                      go_ret
                      exact ⟨rfl, D⟩
                    · refine ⟨.bool true, rfl, ⟨IP, IQ, IR, IE⟩, fun hHeld => ?_⟩
                      simp only [Act.put, List.setIfInBounds_toArray, List.set_cons_zero, List.set_cons_succ]
                      refine held_call (o := ⟨_, _, _, _, _, _⟩) 48 (by kernel_rfl) rfl (by rfl) 16 _ _ rfl #[EC.val u1] rfl (run_call Try.func16 (by kernel_rfl) (by kernel_rfl)) ?_
                      refine (c_refRight HP).mono ?_
                      rintro r v20 ⟨rfl, kb⟩
                      replace D := D.trans (kb.mono D.size)
                      replace HA := HA.on kb
                      replace HB := HB.on kb
                      replace IA := IA.on kb
                      replace IB := IB.on kb
                      replace IE := IE.on kb
                      replace IP := IP.on kb
                      replace HP := HP.on kb
                      replace IQ := IQ.on kb
                      replace HQ := HQ.on kb
                      replace IR := IR.on kb
                      replace HR := HR.on kb
                      clear kb
                      clear hHeld
                      refine ⟨.bool true, ret_bool hX, ⟨IP, IQ, IR, IE⟩, fun hHeld => ?_⟩
                      simp only [Act.put, List.setIfInBounds_toArray, List.set_cons_zero, List.set_cons_succ]
                      refine wpAnyH_take (i := 49) (oi := ⟨_, _, _, _, _, _⟩) (v := .bool true) rfl (by kernel_rfl) (by kernel_rfl) (by kernel_rfl) (fun _ _ _ h => h) (yl_eqB (by rfl) _ _ _ rfl true true rfl rfl) (by assumption) ?_
                      simp only [Act.put, List.setIfInBounds_toArray, List.set_cons_zero, List.set_cons_succ]
                      refine wpAnyH_take (i := 50) (oi := ⟨_, _, _, _, _, _⟩) (v := .bool true) rfl (by kernel_rfl) (by kernel_rfl) (by kernel_rfl) (fun _ _ _ h => h) (yl_pickT (by rfl) _ _ _ rfl rfl _ rfl) (by assumption) ?_
                      simp only [Act.put, List.setIfInBounds_toArray, List.set_cons_zero, List.set_cons_succ]
                      refine wpAnyH_take (i := 51) (oi := ⟨_, _, _, _, _, _⟩) (v := .bool true) rfl (by kernel_rfl) (by kernel_rfl) (by kernel_rfl) (fun _ _ _ h => h) (yl_assign (by rfl) _ rfl _ rfl) (by assumption) ?_
                      simp only [Act.put, List.setIfInBounds_toArray, List.set_cons_zero, List.set_cons_succ]
                      refine wpAnyH_done (by kernel_rfl) ?_ _
                      clear hHeld
                      refine hK6 _ _ ?_
                      clear hK6 K6
                      refine wp_ret ?_
                      go_ret
                      exact ⟨rfl, D⟩
                  · intro hNEXT
                    refine wpAnyH_take (i := 29) (oi := ⟨_, _, _, _, _, _⟩) (v := EC.val u3) rfl (by kernel_rfl) (by kernel_rfl) (by kernel_rfl) (fun _ _ _ h => h) (yl_ex (by rfl) _ rfl _ 0 rfl _ (fun _ h => ExIn.ec h.2.2.1)) (by assumption) ?_
                    simp only [Act.put, List.setIfInBounds_toArray, List.set_cons_zero, List.set_cons_succ]
                    refine held_call (o := ⟨_, _, _, _, _, _⟩) 30 (by kernel_rfl) rfl (by rfl) 15 _ _ rfl #[EC.val u3] rfl (run_call Try.func15 (by kernel_rfl) (by kernel_rfl)) ?_
                    refine (c_right HR (by omega)).mono ?_
                    rintro r v118 ⟨rfl, kb⟩
                    replace D := D.trans (kb.mono D.size)
                    replace HA := HA.on kb
                    replace HB := HB.on kb
                    replace IA := IA.on kb
                    replace IB := IB.on kb
                    replace IE := IE.on kb
                    replace IP := IP.on kb
                    replace HP := HP.on kb
                    replace IQ := IQ.on kb
                    replace HQ := HQ.on kb
                    replace IR := IR.on kb
                    replace HR := HR.on kb
                    clear kb
                    clear hHeld
                    cases hZ : rightX (notX x)
                    · refine ⟨.bool false, rfl, ⟨IP, IQ, IR, IE⟩, fun hHeld => ?_⟩
                      simp only [Act.put, List.setIfInBounds_toArray, List.set_cons_zero, List.set_cons_succ]
                      refine wpAnyH_take (i := 31) (oi := ⟨_, _, _, _, _, _⟩) (v := .bool true) rfl (by kernel_rfl) (by kernel_rfl) (by kernel_rfl) (fun _ _ _ h => h) (yl_not (by rfl) _ _ rfl false rfl) (by assumption) ?_
                      simp only [Act.put, List.setIfInBounds_toArray, List.set_cons_zero, List.set_cons_succ]
                      refine wpAnyH_take (i := 32) (oi := ⟨_, _, _, _, _, _⟩) (v := .bool true) rfl (by kernel_rfl) (by kernel_rfl) (by kernel_rfl) (fun _ _ _ h => h) (yl_move (by rfl) _ rfl _ rfl) (by assumption) ?_
                      simp only [Act.put, List.setIfInBounds_toArray, List.set_cons_zero, List.set_cons_succ]
                      refine wpAnyH_take (i := 33) (oi := ⟨_, _, _, _, _, _⟩) (v := undef) rfl (by kernel_rfl) (by kernel_rfl) (by kernel_rfl) (fun _ _ _ h => h) (yl_undef (by rfl)) (by assumption) ?_
                      simp only [Act.put, List.setIfInBounds_toArray, List.set_cons_zero, List.set_cons_succ]
                      refine wpAnyH_take (i := 34) (oi := ⟨_, _, _, _, _, _⟩) (v := undef) rfl (by kernel_rfl) (by kernel_rfl) (by kernel_rfl) (fun _ _ _ h => h) (yl_undef (by rfl)) (by assumption) ?_
                      simp only [Act.put, List.setIfInBounds_toArray, List.set_cons_zero, List.set_cons_succ]
                      refine wpAnyH_take (i := 35) (oi := ⟨_, _, _, _, _, _⟩) (v := undef) rfl (by kernel_rfl) (by kernel_rfl) (by kernel_rfl) (fun _ _ _ h => h) (yl_undef (by rfl)) (by assumption) ?_
                      simp only [Act.put, List.setIfInBounds_toArray, List.set_cons_zero, List.set_cons_succ]
                      refine wpAnyH_take (i := 36) (oi := ⟨_, _, _, _, _, _⟩) (v := undef) rfl (by kernel_rfl) (by kernel_rfl) (by kernel_rfl) (fun _ _ _ h => h) (yl_undef (by rfl)) (by assumption) ?_
                      simp only [Act.put, List.setIfInBounds_toArray, List.set_cons_zero, List.set_cons_succ]
                      refine wpAnyH_take (i := 37) (oi := ⟨_, _, _, _, _, _⟩) (v := undef) rfl (by kernel_rfl) (by kernel_rfl) (by kernel_rfl) (fun _ _ _ h => h) (yl_undef (by rfl)) (by assumption) ?_
                      simp only [Act.put, List.setIfInBounds_toArray, List.set_cons_zero, List.set_cons_succ]
                      refine wpAnyH_take (i := 38) (oi := ⟨_, _, _, _, _, _⟩) (v := undef) rfl (by kernel_rfl) (by kernel_rfl) (by kernel_rfl) (fun _ _ _ h => h) (yl_undef (by rfl)) (by assumption) ?_
                      simp only [Act.put, List.setIfInBounds_toArray, List.set_cons_zero, List.set_cons_succ]
                      refine wpAnyH_take (i := 39) (oi := ⟨_, _, _, _, _, _⟩) (v := undef) rfl (by kernel_rfl) (by kernel_rfl) (by kernel_rfl) (fun _ _ _ h => h) (yl_undef (by rfl)) (by assumption) ?_
                      simp only [Act.put, List.setIfInBounds_toArray, List.set_cons_zero, List.set_cons_succ]
                      refine wpAnyH_take (i := 40) (oi := ⟨_, _, _, _, _, _⟩) (v := undef) rfl (by kernel_rfl) (by kernel_rfl) (by kernel_rfl) (fun _ _ _ h => h) (yl_undef (by rfl)) (by assumption) ?_
                      simp only [Act.put, List.setIfInBounds_toArray, List.set_cons_zero, List.set_cons_succ]
                      refine wpAnyH_take (i := 41) (oi := ⟨_, _, _, _, _, _⟩) (v := undef) rfl (by kernel_rfl) (by kernel_rfl) (by kernel_rfl) (fun _ _ _ h => h) (yl_undef (by rfl)) (by assumption) ?_
                      simp only [Act.put, List.setIfInBounds_toArray, List.set_cons_zero, List.set_cons_succ]
                      refine wpAnyH_take (i := 42) (oi := ⟨_, _, _, _, _, _⟩) (v := .bool true) rfl (by kernel_rfl) (by kernel_rfl) (by kernel_rfl) (fun _ _ _ h => h) (yl_pickT (by rfl) _ _ _ rfl rfl _ rfl) (by assumption) ?_
                      simp only [Act.put, List.setIfInBounds_toArray, List.set_cons_zero, List.set_cons_succ]
                      refine wpAnyH_take (i := 43) (oi := ⟨_, _, _, _, _, _⟩) (v := .bool true) rfl (by kernel_rfl) (by kernel_rfl) (by kernel_rfl) (fun _ _ _ h => h) (yl_pickT (by rfl) _ _ _ rfl rfl _ rfl) (by assumption) ?_
                      simp only [Act.put, List.setIfInBounds_toArray, List.set_cons_zero, List.set_cons_succ]
                      refine wpAnyH_take (i := 44) (oi := ⟨_, _, _, _, _, _⟩) (v := .bool true) rfl (by kernel_rfl) (by kernel_rfl) (by kernel_rfl) (fun _ _ _ h => h) (yl_move (by rfl) _ rfl _ rfl) (by assumption) ?_
                      simp only [Act.put, List.setIfInBounds_toArray, List.set_cons_zero, List.set_cons_succ]
                      exact held_eq (by kernel_rfl) (hNEXT _ _ ⟨_, _, _, _, _, _, _, _, _, _, _, _, _, _, rfl, D, HA, HB, IA, IB, IE, IP, HP, IQ, HQ, IR, HR⟩)
                    · refine ⟨.bool true, rfl, ⟨IP, IQ, IR, IE⟩, fun hHeld => ?_⟩
                      simp only [Act.put, List.setIfInBounds_toArray, List.set_cons_zero, List.set_cons_succ]
                      refine wpAnyH_take (i := 31) (oi := ⟨_, _, _, _, _, _⟩) (v := .bool false) rfl (by kernel_rfl) (by kernel_rfl) (by kernel_rfl) (fun _ _ _ h => h) (yl_not (by rfl) _ _ rfl true rfl) (by assumption) ?_
                      simp only [Act.put, List.setIfInBounds_toArray, List.set_cons_zero, List.set_cons_succ]
                      refine wpAnyH_take (i := 32) (oi := ⟨_, _, _, _, _, _⟩) (v := .bool false) rfl (by kernel_rfl) (by kernel_rfl) (by kernel_rfl) (fun _ _ _ h => h) (yl_move (by rfl) _ rfl _ rfl) (by assumption) ?_
                      simp only [Act.put, List.setIfInBounds_toArray, List.set_cons_zero, List.set_cons_succ]
                      refine wpAnyH_take (i := 33) (oi := ⟨_, _, _, _, _, _⟩) (v := EC.val u3) rfl (by kernel_rfl) (by kernel_rfl) (by kernel_rfl) (fun _ _ _ h => h) (yl_ex (by rfl) _ rfl _ 0 rfl _ (fun _ h => ExIn.ec h.2.2.1)) (by assumption) ?_
                      simp only [Act.put, List.setIfInBounds_toArray, List.set_cons_zero, List.set_cons_succ]
                      refine wpAnyH_take (i := 34) (oi := ⟨_, _, _, _, _, _⟩) (v := evVal e) rfl (by kernel_rfl) (by kernel_rfl) (by kernel_rfl) (fun _ _ _ h => h) (yl_ev (by rfl) _ rfl _ 0 rfl _ _ _ _ _ _ _ _ _ _ _ _ (fun _ h => evCells h.2.2.2)) (by assumption) ?_
                      simp only [Act.put, List.setIfInBounds_toArray, List.set_cons_zero, List.set_cons_succ]
                      refine wpAnyH_take (i := 36) (oi := ⟨_, _, _, _, _, _⟩) (v := .bool true) rfl (by kernel_rfl) (by kernel_rfl) (by kernel_rfl) (fun _ _ _ h => h) (yl_move (by rfl) _ rfl _ rfl) (by assumption) ?_
                      simp only [Act.put, List.setIfInBounds_toArray, List.set_cons_zero, List.set_cons_succ]
                      refine held_call (o := ⟨_, _, _, _, _, _⟩) 35 (by kernel_rfl) rfl (by rfl) 17 _ _ rfl #[EC.val u3, evVal e] rfl (run_call Try.func17 (by kernel_rfl) (by kernel_rfl)) ?_
                      refine (c_eval HR (by omega) hf).mono ?_
                      rintro r v119 ⟨rfl, kb⟩
                      replace D := D.trans (kb.mono D.size)
                      replace HA := HA.on kb
                      replace HB := HB.on kb
                      replace IA := IA.on kb
                      replace IB := IB.on kb
                      replace IE := IE.on kb
                      replace IP := IP.on kb
                      replace HP := HP.on kb
                      replace IQ := IQ.on kb
                      replace HQ := HQ.on kb
                      replace IR := IR.on kb
                      replace HR := HR.on kb
                      clear kb
                      clear hHeld
                      refine ⟨.bool true, ret_bool (by rw [makes_not hRA hZ, hI, hSr]; rfl), ⟨IP, IQ, IR, IE⟩, fun hHeld => ?_⟩
                      simp only [Act.put, List.setIfInBounds_toArray, List.set_cons_zero, List.set_cons_succ]
                      refine wpAnyH_take (i := 37) (oi := ⟨_, _, _, _, _, _⟩) (v := .bool true) rfl (by kernel_rfl) (by kernel_rfl) (by kernel_rfl) (fun _ _ _ h => h) (yl_move (by rfl) _ rfl _ rfl) (by assumption) ?_
                      simp only [Act.put, List.setIfInBounds_toArray, List.set_cons_zero, List.set_cons_succ]
                      refine wpAnyH_take (i := 38) (oi := ⟨_, _, _, _, _, _⟩) (v := .bool false) rfl (by kernel_rfl) (by kernel_rfl) (by kernel_rfl) (fun _ _ _ h => h) (yl_move (by rfl) _ rfl _ rfl) (by assumption) ?_
                      simp only [Act.put, List.setIfInBounds_toArray, List.set_cons_zero, List.set_cons_succ]
                      refine wpAnyH_take (i := 39) (oi := ⟨_, _, _, _, _, _⟩) (v := .bool true) rfl (by kernel_rfl) (by kernel_rfl) (by kernel_rfl) (fun _ _ _ h => h) (yl_not (by rfl) _ _ rfl false rfl) (by assumption) ?_
                      simp only [Act.put, List.setIfInBounds_toArray, List.set_cons_zero, List.set_cons_succ]
                      refine wpAnyH_take (i := 40) (oi := ⟨_, _, _, _, _, _⟩) (v := .bool true) rfl (by kernel_rfl) (by kernel_rfl) (by kernel_rfl) (fun _ _ _ h => h) (yl_pickT (by rfl) _ _ _ rfl rfl _ rfl) (by assumption) ?_
                      simp only [Act.put, List.setIfInBounds_toArray, List.set_cons_zero, List.set_cons_succ]
                      refine wpAnyH_take (i := 41) (oi := ⟨_, _, _, _, _, _⟩) (v := .bool true) rfl (by kernel_rfl) (by kernel_rfl) (by kernel_rfl) (fun _ _ _ h => h) (yl_eqB (by rfl) _ _ _ rfl true true rfl rfl) (by assumption) ?_
                      simp only [Act.put, List.setIfInBounds_toArray, List.set_cons_zero, List.set_cons_succ]
                      refine wpAnyH_take (i := 42) (oi := ⟨_, _, _, _, _, _⟩) (v := .bool true) rfl (by kernel_rfl) (by kernel_rfl) (by kernel_rfl) (fun _ _ _ h => h) (yl_pickF (by rfl) _ _ _ rfl rfl _ rfl) (by assumption) ?_
                      simp only [Act.put, List.setIfInBounds_toArray, List.set_cons_zero, List.set_cons_succ]
                      refine wpAnyH_take (i := 43) (oi := ⟨_, _, _, _, _, _⟩) (v := .bool true) rfl (by kernel_rfl) (by kernel_rfl) (by kernel_rfl) (fun _ _ _ h => h) (yl_pickT (by rfl) _ _ _ rfl rfl _ rfl) (by assumption) ?_
                      simp only [Act.put, List.setIfInBounds_toArray, List.set_cons_zero, List.set_cons_succ]
                      refine wpAnyH_take (i := 44) (oi := ⟨_, _, _, _, _, _⟩) (v := .bool true) rfl (by kernel_rfl) (by kernel_rfl) (by kernel_rfl) (fun _ _ _ h => h) (yl_move (by rfl) _ rfl _ rfl) (by assumption) ?_
                      simp only [Act.put, List.setIfInBounds_toArray, List.set_cons_zero, List.set_cons_succ]
                      exact held_eq (by kernel_rfl) (hNEXT _ _ ⟨_, _, _, _, _, _, _, _, _, _, _, _, _, _, rfl, D, HA, HB, IA, IB, IE, IP, HP, IQ, HQ, IR, HR⟩)
                · intro hNEXT
                  refine wpAnyH_take (i := 14) (oi := ⟨_, _, _, _, _, _⟩) (v := EC.val u2) rfl (by kernel_rfl) (by kernel_rfl) (by kernel_rfl) (fun _ _ _ h => h) (yl_ex (by rfl) _ rfl _ 0 rfl _ (fun _ h => ExIn.ec h.2.1)) (by assumption) ?_
                  simp only [Act.put, List.setIfInBounds_toArray, List.set_cons_zero, List.set_cons_succ]
                  refine held_call (o := ⟨_, _, _, _, _, _⟩) 15 (by kernel_rfl) rfl (by rfl) 15 _ _ rfl #[EC.val u2] rfl (run_call Try.func15 (by kernel_rfl) (by kernel_rfl)) ?_
                  refine (c_right HQ (by omega)).mono ?_
                  rintro r v117 ⟨rfl, kb⟩
                  replace D := D.trans (kb.mono D.size)
                  replace HA := HA.on kb
                  replace HB := HB.on kb
                  replace IA := IA.on kb
                  replace IB := IB.on kb
                  replace IE := IE.on kb
                  replace IP := IP.on kb
                  replace HP := HP.on kb
                  replace IQ := IQ.on kb
                  replace HQ := HQ.on kb
                  replace IR := IR.on kb
                  replace HR := HR.on kb
                  clear kb
                  clear hHeld
                  cases hY : rightX (orX [x, y])
                  · refine ⟨.bool false, rfl, ⟨IP, IQ, IR, IE⟩, fun hHeld => ?_⟩
                    simp only [Act.put, List.setIfInBounds_toArray, List.set_cons_zero, List.set_cons_succ]
                    refine wpAnyH_take (i := 16) (oi := ⟨_, _, _, _, _, _⟩) (v := .bool true) rfl (by kernel_rfl) (by kernel_rfl) (by kernel_rfl) (fun _ _ _ h => h) (yl_not (by rfl) _ _ rfl false rfl) (by assumption) ?_
                    simp only [Act.put, List.setIfInBounds_toArray, List.set_cons_zero, List.set_cons_succ]
                    refine wpAnyH_take (i := 17) (oi := ⟨_, _, _, _, _, _⟩) (v := .bool true) rfl (by kernel_rfl) (by kernel_rfl) (by kernel_rfl) (fun _ _ _ h => h) (yl_move (by rfl) _ rfl _ rfl) (by assumption) ?_
                    simp only [Act.put, List.setIfInBounds_toArray, List.set_cons_zero, List.set_cons_succ]
                    refine wpAnyH_take (i := 18) (oi := ⟨_, _, _, _, _, _⟩) (v := undef) rfl (by kernel_rfl) (by kernel_rfl) (by kernel_rfl) (fun _ _ _ h => h) (yl_undef (by rfl)) (by assumption) ?_
                    simp only [Act.put, List.setIfInBounds_toArray, List.set_cons_zero, List.set_cons_succ]
                    refine wpAnyH_take (i := 19) (oi := ⟨_, _, _, _, _, _⟩) (v := undef) rfl (by kernel_rfl) (by kernel_rfl) (by kernel_rfl) (fun _ _ _ h => h) (yl_undef (by rfl)) (by assumption) ?_
                    simp only [Act.put, List.setIfInBounds_toArray, List.set_cons_zero, List.set_cons_succ]
                    refine wpAnyH_take (i := 20) (oi := ⟨_, _, _, _, _, _⟩) (v := undef) rfl (by kernel_rfl) (by kernel_rfl) (by kernel_rfl) (fun _ _ _ h => h) (yl_undef (by rfl)) (by assumption) ?_
                    simp only [Act.put, List.setIfInBounds_toArray, List.set_cons_zero, List.set_cons_succ]
                    refine wpAnyH_take (i := 21) (oi := ⟨_, _, _, _, _, _⟩) (v := undef) rfl (by kernel_rfl) (by kernel_rfl) (by kernel_rfl) (fun _ _ _ h => h) (yl_undef (by rfl)) (by assumption) ?_
                    simp only [Act.put, List.setIfInBounds_toArray, List.set_cons_zero, List.set_cons_succ]
                    refine wpAnyH_take (i := 22) (oi := ⟨_, _, _, _, _, _⟩) (v := undef) rfl (by kernel_rfl) (by kernel_rfl) (by kernel_rfl) (fun _ _ _ h => h) (yl_undef (by rfl)) (by assumption) ?_
                    simp only [Act.put, List.setIfInBounds_toArray, List.set_cons_zero, List.set_cons_succ]
                    refine wpAnyH_take (i := 23) (oi := ⟨_, _, _, _, _, _⟩) (v := undef) rfl (by kernel_rfl) (by kernel_rfl) (by kernel_rfl) (fun _ _ _ h => h) (yl_undef (by rfl)) (by assumption) ?_
                    simp only [Act.put, List.setIfInBounds_toArray, List.set_cons_zero, List.set_cons_succ]
                    refine wpAnyH_take (i := 24) (oi := ⟨_, _, _, _, _, _⟩) (v := undef) rfl (by kernel_rfl) (by kernel_rfl) (by kernel_rfl) (fun _ _ _ h => h) (yl_undef (by rfl)) (by assumption) ?_
                    simp only [Act.put, List.setIfInBounds_toArray, List.set_cons_zero, List.set_cons_succ]
                    refine wpAnyH_take (i := 25) (oi := ⟨_, _, _, _, _, _⟩) (v := undef) rfl (by kernel_rfl) (by kernel_rfl) (by kernel_rfl) (fun _ _ _ h => h) (yl_undef (by rfl)) (by assumption) ?_
                    simp only [Act.put, List.setIfInBounds_toArray, List.set_cons_zero, List.set_cons_succ]
                    refine wpAnyH_take (i := 26) (oi := ⟨_, _, _, _, _, _⟩) (v := .bool true) rfl (by kernel_rfl) (by kernel_rfl) (by kernel_rfl) (fun _ _ _ h => h) (yl_pickT (by rfl) _ _ _ rfl rfl _ rfl) (by assumption) ?_
                    simp only [Act.put, List.setIfInBounds_toArray, List.set_cons_zero, List.set_cons_succ]
                    refine wpAnyH_take (i := 27) (oi := ⟨_, _, _, _, _, _⟩) (v := .bool true) rfl (by kernel_rfl) (by kernel_rfl) (by kernel_rfl) (fun _ _ _ h => h) (yl_pickT (by rfl) _ _ _ rfl rfl _ rfl) (by assumption) ?_
                    simp only [Act.put, List.setIfInBounds_toArray, List.set_cons_zero, List.set_cons_succ]
                    refine wpAnyH_take (i := 28) (oi := ⟨_, _, _, _, _, _⟩) (v := .bool true) rfl (by kernel_rfl) (by kernel_rfl) (by kernel_rfl) (fun _ _ _ h => h) (yl_move (by rfl) _ rfl _ rfl) (by assumption) ?_
                    simp only [Act.put, List.setIfInBounds_toArray, List.set_cons_zero, List.set_cons_succ]
                    exact held_eq (by kernel_rfl) (hNEXT _ _ ⟨_, _, _, _, _, _, _, _, _, _, _, _, _, rfl, D, HA, HB, IA, IB, IE, IP, HP, IQ, HQ, IR, HR⟩)
                  · refine ⟨.bool true, rfl, ⟨IP, IQ, IR, IE⟩, fun hHeld => ?_⟩
                    simp only [Act.put, List.setIfInBounds_toArray, List.set_cons_zero, List.set_cons_succ]
                    refine wpAnyH_take (i := 16) (oi := ⟨_, _, _, _, _, _⟩) (v := .bool false) rfl (by kernel_rfl) (by kernel_rfl) (by kernel_rfl) (fun _ _ _ h => h) (yl_not (by rfl) _ _ rfl true rfl) (by assumption) ?_
                    simp only [Act.put, List.setIfInBounds_toArray, List.set_cons_zero, List.set_cons_succ]
                    refine wpAnyH_take (i := 17) (oi := ⟨_, _, _, _, _, _⟩) (v := .bool false) rfl (by kernel_rfl) (by kernel_rfl) (by kernel_rfl) (fun _ _ _ h => h) (yl_move (by rfl) _ rfl _ rfl) (by assumption) ?_
                    simp only [Act.put, List.setIfInBounds_toArray, List.set_cons_zero, List.set_cons_succ]
                    refine wpAnyH_take (i := 18) (oi := ⟨_, _, _, _, _, _⟩) (v := EC.val u2) rfl (by kernel_rfl) (by kernel_rfl) (by kernel_rfl) (fun _ _ _ h => h) (yl_ex (by rfl) _ rfl _ 0 rfl _ (fun _ h => ExIn.ec h.2.1)) (by assumption) ?_
                    simp only [Act.put, List.setIfInBounds_toArray, List.set_cons_zero, List.set_cons_succ]
                    refine wpAnyH_take (i := 19) (oi := ⟨_, _, _, _, _, _⟩) (v := evVal e) rfl (by kernel_rfl) (by kernel_rfl) (by kernel_rfl) (fun _ _ _ h => h) (yl_ev (by rfl) _ rfl _ 0 rfl _ _ _ _ _ _ _ _ _ _ _ _ (fun _ h => evCells h.2.2.2)) (by assumption) ?_
                    simp only [Act.put, List.setIfInBounds_toArray, List.set_cons_zero, List.set_cons_succ]
                    refine wpAnyH_take (i := 21) (oi := ⟨_, _, _, _, _, _⟩) (v := .bool false) rfl (by kernel_rfl) (by kernel_rfl) (by kernel_rfl) (fun _ _ _ h => h) (yl_move (by rfl) _ rfl _ rfl) (by assumption) ?_
                    simp only [Act.put, List.setIfInBounds_toArray, List.set_cons_zero, List.set_cons_succ]
                    refine held_call (o := ⟨_, _, _, _, _, _⟩) 20 (by kernel_rfl) rfl (by rfl) 17 _ _ rfl #[EC.val u2, evVal e] rfl (run_call Try.func17 (by kernel_rfl) (by kernel_rfl)) ?_
                    refine (c_eval HQ (by omega) hf).mono ?_
                    rintro r v118 ⟨rfl, kb⟩
                    replace D := D.trans (kb.mono D.size)
                    replace HA := HA.on kb
                    replace HB := HB.on kb
                    replace IA := IA.on kb
                    replace IB := IB.on kb
                    replace IE := IE.on kb
                    replace IP := IP.on kb
                    replace HP := HP.on kb
                    replace IQ := IQ.on kb
                    replace HQ := HQ.on kb
                    replace IR := IR.on kb
                    replace HR := HR.on kb
                    clear kb
                    clear hHeld
                    refine ⟨.bool false, ret_bool (by rw [makes_or hRA hRB hY, hI, hK]; rfl), ⟨IP, IQ, IR, IE⟩, fun hHeld => ?_⟩
                    simp only [Act.put, List.setIfInBounds_toArray, List.set_cons_zero, List.set_cons_succ]
                    refine wpAnyH_take (i := 22) (oi := ⟨_, _, _, _, _, _⟩) (v := .bool false) rfl (by kernel_rfl) (by kernel_rfl) (by kernel_rfl) (fun _ _ _ h => h) (yl_move (by rfl) _ rfl _ rfl) (by assumption) ?_
                    simp only [Act.put, List.setIfInBounds_toArray, List.set_cons_zero, List.set_cons_succ]
                    refine wpAnyH_take (i := 23) (oi := ⟨_, _, _, _, _, _⟩) (v := .bool false) rfl (by kernel_rfl) (by kernel_rfl) (by kernel_rfl) (fun _ _ _ h => h) (yl_move (by rfl) _ rfl _ rfl) (by assumption) ?_
                    simp only [Act.put, List.setIfInBounds_toArray, List.set_cons_zero, List.set_cons_succ]
                    refine wpAnyH_take (i := 24) (oi := ⟨_, _, _, _, _, _⟩) (v := .bool false) rfl (by kernel_rfl) (by kernel_rfl) (by kernel_rfl) (fun _ _ _ h => h) (yl_pickF (by rfl) _ _ _ rfl rfl _ rfl) (by assumption) ?_
                    simp only [Act.put, List.setIfInBounds_toArray, List.set_cons_zero, List.set_cons_succ]
                    refine wpAnyH_take (i := 25) (oi := ⟨_, _, _, _, _, _⟩) (v := .bool true) rfl (by kernel_rfl) (by kernel_rfl) (by kernel_rfl) (fun _ _ _ h => h) (yl_eqB (by rfl) _ _ _ rfl false false rfl rfl) (by assumption) ?_
                    simp only [Act.put, List.setIfInBounds_toArray, List.set_cons_zero, List.set_cons_succ]
                    refine wpAnyH_take (i := 26) (oi := ⟨_, _, _, _, _, _⟩) (v := .bool true) rfl (by kernel_rfl) (by kernel_rfl) (by kernel_rfl) (fun _ _ _ h => h) (yl_pickF (by rfl) _ _ _ rfl rfl _ rfl) (by assumption) ?_
                    simp only [Act.put, List.setIfInBounds_toArray, List.set_cons_zero, List.set_cons_succ]
                    refine wpAnyH_take (i := 27) (oi := ⟨_, _, _, _, _, _⟩) (v := .bool true) rfl (by kernel_rfl) (by kernel_rfl) (by kernel_rfl) (fun _ _ _ h => h) (yl_pickT (by rfl) _ _ _ rfl rfl _ rfl) (by assumption) ?_
                    simp only [Act.put, List.setIfInBounds_toArray, List.set_cons_zero, List.set_cons_succ]
                    refine wpAnyH_take (i := 28) (oi := ⟨_, _, _, _, _, _⟩) (v := .bool true) rfl (by kernel_rfl) (by kernel_rfl) (by kernel_rfl) (fun _ _ _ h => h) (yl_move (by rfl) _ rfl _ rfl) (by assumption) ?_
                    simp only [Act.put, List.setIfInBounds_toArray, List.set_cons_zero, List.set_cons_succ]
                    exact held_eq (by kernel_rfl) (hNEXT _ _ ⟨_, _, _, _, _, _, _, _, _, _, _, _, _, rfl, D, HA, HB, IA, IB, IE, IP, HP, IQ, HQ, IR, HR⟩)
              · intro hNEXT
                refine wpAnyH_take (i := 0) (oi := ⟨_, _, _, _, _, _⟩) (v := EC.val u1) rfl (by kernel_rfl) (by kernel_rfl) (by kernel_rfl) (fun _ _ _ h => h) (yl_ex (by rfl) _ rfl _ 0 rfl _ (fun _ h => ExIn.ec h.1)) (by assumption) ?_
                simp only [Act.put, List.setIfInBounds_toArray, List.set_cons_zero, List.set_cons_succ]
                refine held_call (o := ⟨_, _, _, _, _, _⟩) 1 (by kernel_rfl) rfl (by rfl) 15 _ _ rfl #[EC.val u1] rfl (run_call Try.func15 (by kernel_rfl) (by kernel_rfl)) ?_
                refine (c_right HP (by omega)).mono ?_
                rintro r v116 ⟨rfl, kb⟩
                replace D := D.trans (kb.mono D.size)
                replace HA := HA.on kb
                replace HB := HB.on kb
                replace IA := IA.on kb
                replace IB := IB.on kb
                replace IE := IE.on kb
                replace IP := IP.on kb
                replace HP := HP.on kb
                replace IQ := IQ.on kb
                replace HQ := HQ.on kb
                replace IR := IR.on kb
                replace HR := HR.on kb
                clear kb
                clear hHeld
                cases hX : rightX (andX [x, y])
                · refine ⟨.bool false, rfl, ⟨IP, IQ, IR, IE⟩, fun hHeld => ?_⟩
                  simp only [Act.put, List.setIfInBounds_toArray, List.set_cons_zero, List.set_cons_succ]
                  refine wpAnyH_take (i := 2) (oi := ⟨_, _, _, _, _, _⟩) (v := .bool true) rfl (by kernel_rfl) (by kernel_rfl) (by kernel_rfl) (fun _ _ _ h => h) (yl_not (by rfl) _ _ rfl false rfl) (by assumption) ?_
                  simp only [Act.put, List.setIfInBounds_toArray, List.set_cons_zero, List.set_cons_succ]
                  refine wpAnyH_take (i := 3) (oi := ⟨_, _, _, _, _, _⟩) (v := .bool true) rfl (by kernel_rfl) (by kernel_rfl) (by kernel_rfl) (fun _ _ _ h => h) (yl_move (by rfl) _ rfl _ rfl) (by assumption) ?_
                  simp only [Act.put, List.setIfInBounds_toArray, List.set_cons_zero, List.set_cons_succ]
                  refine wpAnyH_take (i := 4) (oi := ⟨_, _, _, _, _, _⟩) (v := undef) rfl (by kernel_rfl) (by kernel_rfl) (by kernel_rfl) (fun _ _ _ h => h) (yl_undef (by rfl)) (by assumption) ?_
                  simp only [Act.put, List.setIfInBounds_toArray, List.set_cons_zero, List.set_cons_succ]
                  refine wpAnyH_take (i := 5) (oi := ⟨_, _, _, _, _, _⟩) (v := undef) rfl (by kernel_rfl) (by kernel_rfl) (by kernel_rfl) (fun _ _ _ h => h) (yl_undef (by rfl)) (by assumption) ?_
                  simp only [Act.put, List.setIfInBounds_toArray, List.set_cons_zero, List.set_cons_succ]
                  refine wpAnyH_take (i := 6) (oi := ⟨_, _, _, _, _, _⟩) (v := undef) rfl (by kernel_rfl) (by kernel_rfl) (by kernel_rfl) (fun _ _ _ h => h) (yl_undef (by rfl)) (by assumption) ?_
                  simp only [Act.put, List.setIfInBounds_toArray, List.set_cons_zero, List.set_cons_succ]
                  refine wpAnyH_take (i := 7) (oi := ⟨_, _, _, _, _, _⟩) (v := undef) rfl (by kernel_rfl) (by kernel_rfl) (by kernel_rfl) (fun _ _ _ h => h) (yl_undef (by rfl)) (by assumption) ?_
                  simp only [Act.put, List.setIfInBounds_toArray, List.set_cons_zero, List.set_cons_succ]
                  refine wpAnyH_take (i := 8) (oi := ⟨_, _, _, _, _, _⟩) (v := undef) rfl (by kernel_rfl) (by kernel_rfl) (by kernel_rfl) (fun _ _ _ h => h) (yl_undef (by rfl)) (by assumption) ?_
                  simp only [Act.put, List.setIfInBounds_toArray, List.set_cons_zero, List.set_cons_succ]
                  refine wpAnyH_take (i := 9) (oi := ⟨_, _, _, _, _, _⟩) (v := undef) rfl (by kernel_rfl) (by kernel_rfl) (by kernel_rfl) (fun _ _ _ h => h) (yl_undef (by rfl)) (by assumption) ?_
                  simp only [Act.put, List.setIfInBounds_toArray, List.set_cons_zero, List.set_cons_succ]
                  refine wpAnyH_take (i := 10) (oi := ⟨_, _, _, _, _, _⟩) (v := undef) rfl (by kernel_rfl) (by kernel_rfl) (by kernel_rfl) (fun _ _ _ h => h) (yl_undef (by rfl)) (by assumption) ?_
                  simp only [Act.put, List.setIfInBounds_toArray, List.set_cons_zero, List.set_cons_succ]
                  refine wpAnyH_take (i := 11) (oi := ⟨_, _, _, _, _, _⟩) (v := undef) rfl (by kernel_rfl) (by kernel_rfl) (by kernel_rfl) (fun _ _ _ h => h) (yl_undef (by rfl)) (by assumption) ?_
                  simp only [Act.put, List.setIfInBounds_toArray, List.set_cons_zero, List.set_cons_succ]
                  refine wpAnyH_take (i := 12) (oi := ⟨_, _, _, _, _, _⟩) (v := .bool true) rfl (by kernel_rfl) (by kernel_rfl) (by kernel_rfl) (fun _ _ _ h => h) (yl_pickT (by rfl) _ _ _ rfl rfl _ rfl) (by assumption) ?_
                  simp only [Act.put, List.setIfInBounds_toArray, List.set_cons_zero, List.set_cons_succ]
                  refine wpAnyH_take (i := 13) (oi := ⟨_, _, _, _, _, _⟩) (v := .bool true) rfl (by kernel_rfl) (by kernel_rfl) (by kernel_rfl) (fun _ _ _ h => h) (yl_move (by rfl) _ rfl _ rfl) (by assumption) ?_
                  simp only [Act.put, List.setIfInBounds_toArray, List.set_cons_zero, List.set_cons_succ]
                  exact held_eq (by kernel_rfl) (hNEXT _ _ ⟨_, _, _, _, _, _, _, _, _, _, _, _, rfl, D, HA, HB, IA, IB, IE, IP, HP, IQ, HQ, IR, HR⟩)
                · refine ⟨.bool true, rfl, ⟨IP, IQ, IR, IE⟩, fun hHeld => ?_⟩
                  simp only [Act.put, List.setIfInBounds_toArray, List.set_cons_zero, List.set_cons_succ]
                  refine wpAnyH_take (i := 2) (oi := ⟨_, _, _, _, _, _⟩) (v := .bool false) rfl (by kernel_rfl) (by kernel_rfl) (by kernel_rfl) (fun _ _ _ h => h) (yl_not (by rfl) _ _ rfl true rfl) (by assumption) ?_
                  simp only [Act.put, List.setIfInBounds_toArray, List.set_cons_zero, List.set_cons_succ]
                  refine wpAnyH_take (i := 3) (oi := ⟨_, _, _, _, _, _⟩) (v := .bool false) rfl (by kernel_rfl) (by kernel_rfl) (by kernel_rfl) (fun _ _ _ h => h) (yl_move (by rfl) _ rfl _ rfl) (by assumption) ?_
                  simp only [Act.put, List.setIfInBounds_toArray, List.set_cons_zero, List.set_cons_succ]
                  refine wpAnyH_take (i := 4) (oi := ⟨_, _, _, _, _, _⟩) (v := EC.val u1) rfl (by kernel_rfl) (by kernel_rfl) (by kernel_rfl) (fun _ _ _ h => h) (yl_ex (by rfl) _ rfl _ 0 rfl _ (fun _ h => ExIn.ec h.1)) (by assumption) ?_
                  simp only [Act.put, List.setIfInBounds_toArray, List.set_cons_zero, List.set_cons_succ]
                  refine wpAnyH_take (i := 5) (oi := ⟨_, _, _, _, _, _⟩) (v := evVal e) rfl (by kernel_rfl) (by kernel_rfl) (by kernel_rfl) (fun _ _ _ h => h) (yl_ev (by rfl) _ rfl _ 0 rfl _ _ _ _ _ _ _ _ _ _ _ _ (fun _ h => evCells h.2.2.2)) (by assumption) ?_
                  simp only [Act.put, List.setIfInBounds_toArray, List.set_cons_zero, List.set_cons_succ]
                  refine wpAnyH_take (i := 7) (oi := ⟨_, _, _, _, _, _⟩) (v := .bool false) rfl (by kernel_rfl) (by kernel_rfl) (by kernel_rfl) (fun _ _ _ h => h) (yl_move (by rfl) _ rfl _ rfl) (by assumption) ?_
                  simp only [Act.put, List.setIfInBounds_toArray, List.set_cons_zero, List.set_cons_succ]
                  refine held_call (o := ⟨_, _, _, _, _, _⟩) 6 (by kernel_rfl) rfl (by rfl) 17 _ _ rfl #[EC.val u1, evVal e] rfl (run_call Try.func17 (by kernel_rfl) (by kernel_rfl)) ?_
                  refine (c_eval HP (by omega) hf).mono ?_
                  rintro r v117 ⟨rfl, kb⟩
                  replace D := D.trans (kb.mono D.size)
                  replace HA := HA.on kb
                  replace HB := HB.on kb
                  replace IA := IA.on kb
                  replace IB := IB.on kb
                  replace IE := IE.on kb
                  replace IP := IP.on kb
                  replace HP := HP.on kb
                  replace IQ := IQ.on kb
                  replace HQ := HQ.on kb
                  replace IR := IR.on kb
                  replace HR := HR.on kb
                  clear kb
                  clear hHeld
                  refine ⟨.bool false, ret_bool (by rw [makes_and hRA hRB hX, hI, hK]; rfl), ⟨IP, IQ, IR, IE⟩, fun hHeld => ?_⟩
                  simp only [Act.put, List.setIfInBounds_toArray, List.set_cons_zero, List.set_cons_succ]
                  refine wpAnyH_take (i := 8) (oi := ⟨_, _, _, _, _, _⟩) (v := .bool false) rfl (by kernel_rfl) (by kernel_rfl) (by kernel_rfl) (fun _ _ _ h => h) (yl_move (by rfl) _ rfl _ rfl) (by assumption) ?_
                  simp only [Act.put, List.setIfInBounds_toArray, List.set_cons_zero, List.set_cons_succ]
                  refine wpAnyH_take (i := 9) (oi := ⟨_, _, _, _, _, _⟩) (v := undef) rfl (by kernel_rfl) (by kernel_rfl) (by kernel_rfl) (fun _ _ _ h => h) (yl_undef (by rfl)) (by assumption) ?_
                  simp only [Act.put, List.setIfInBounds_toArray, List.set_cons_zero, List.set_cons_succ]
                  refine wpAnyH_take (i := 10) (oi := ⟨_, _, _, _, _, _⟩) (v := .bool false) rfl (by kernel_rfl) (by kernel_rfl) (by kernel_rfl) (fun _ _ _ h => h) (yl_pickF (by rfl) _ _ _ rfl rfl _ rfl) (by assumption) ?_
                  simp only [Act.put, List.setIfInBounds_toArray, List.set_cons_zero, List.set_cons_succ]
                  refine wpAnyH_take (i := 11) (oi := ⟨_, _, _, _, _, _⟩) (v := .bool true) rfl (by kernel_rfl) (by kernel_rfl) (by kernel_rfl) (fun _ _ _ h => h) (yl_eqB (by rfl) _ _ _ rfl false false rfl rfl) (by assumption) ?_
                  simp only [Act.put, List.setIfInBounds_toArray, List.set_cons_zero, List.set_cons_succ]
                  refine wpAnyH_take (i := 12) (oi := ⟨_, _, _, _, _, _⟩) (v := .bool true) rfl (by kernel_rfl) (by kernel_rfl) (by kernel_rfl) (fun _ _ _ h => h) (yl_pickF (by rfl) _ _ _ rfl rfl _ rfl) (by assumption) ?_
                  simp only [Act.put, List.setIfInBounds_toArray, List.set_cons_zero, List.set_cons_succ]
                  refine wpAnyH_take (i := 13) (oi := ⟨_, _, _, _, _, _⟩) (v := .bool true) rfl (by kernel_rfl) (by kernel_rfl) (by kernel_rfl) (fun _ _ _ h => h) (yl_move (by rfl) _ rfl _ rfl) (by assumption) ?_
                  simp only [Act.put, List.setIfInBounds_toArray, List.set_cons_zero, List.set_cons_succ]
                  exact held_eq (by kernel_rfl) (hNEXT _ _ ⟨_, _, _, _, _, _, _, _, _, _, _, _, rfl, D, HA, HB, IA, IB, IE, IP, HP, IQ, HQ, IR, HR⟩)
end Go.Proofs.Ytoplmioejebnnaa
