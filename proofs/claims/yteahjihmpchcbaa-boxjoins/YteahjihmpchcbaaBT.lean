/-
  The walk of the law BoxJoins, out of the program's contracts: the third and the fourth attribute; the whole.
-/
import Derived.Test.YteahjihmpchcbaaBS
set_option linter.unusedSimpArgs false
set_option linter.unusedVariables false
namespace Go.Proofs.Yteahjihmpchcbaa
open Go.RowKit

set_option maxHeartbeats 8000000 in
set_option maxRecDepth 100000 in
theorem joins_2 (P : BoxProg) (PS : SetProg) (v : Value) (a : BoxV) (x : Int) (hm : x % 18446744073709551616 % 4 = 2) (u : Value) (s : SetV) (e : EvV) (w : World) (HA : BoxAt w v a) (HS : SetAt w u s) (hf : evFit e) (he : inE e) :
    Calls Try.prog 4 #[v, .int .i64 x, u, evVal e] w fun r w' => r = .returned (.bool true) ∧ Below w.heap.size w w' := by
  obtain ⟨a0, a1, a2, a3, rfl, -⟩ := HA.scs
  obtain ⟨t, rfl⟩ := HS.sc
  have D := Below.refl w.heap.size w
  go_enter Try.func4, Try.ntmps4
  refine wp_seq_k (fun K1 hK1 => ?_)
  refine wp_region_lit ?_
  refine wl_boxBx (o := ⟨_, _, _, _, _, _⟩) (by rfl) _ rfl rfl (fun v1 gb1 IA kb => ?_)
  simp only [Act.put, List.setIfInBounds_toArray, List.set_cons_zero, List.set_cons_succ]
  replace D := D.trans (kb.mono D.size)
  replace HA := HA.on kb
  replace HS := HS.on kb
  clear kb
  refine wl_boxSt (o := ⟨_, _, _, _, _, _⟩) (by rfl) _ rfl rfl (fun v2 gb2 IS kb => ?_)
  simp only [Act.put, List.setIfInBounds_toArray, List.set_cons_zero, List.set_cons_succ]
  replace D := D.trans (kb.mono D.size)
  replace HA := HA.on kb
  replace HS := HS.on kb
  replace IA := IA.on kb
  clear kb
  refine wl_boxEv (o := ⟨_, _, _, _, _, _⟩) (by rfl) _ rfl rfl (fun v3 gb3 IE kb => ?_)
  simp only [Act.put, List.setIfInBounds_toArray, List.set_cons_zero, List.set_cons_succ]
  replace D := D.trans (kb.mono D.size)
  replace HA := HA.on kb
  replace HS := HS.on kb
  replace IA := IA.on kb
  replace IS := IS.on kb
  clear kb
  refine wl_yield (o := ⟨_, _, _, _, _, _⟩) (.bool false) (yl_assign (by rfl) _ rfl _ rfl) ?_
  simp only [Act.put, List.setIfInBounds_toArray, List.set_cons_zero, List.set_cons_succ]
  refine wpList_nil ?_
  refine hK1 _ _ ?_
  clear hK1 K1
  refine wp_seq_k (fun K2 hK2 => ?_)
  refine wp_region_lit ?_
  refine wl_yield (o := ⟨_, _, _, _, _, _⟩) (.int .i64 x) (yl_move (by rfl) _ rfl _ rfl) ?_
  simp only [Act.put, List.setIfInBounds_toArray, List.set_cons_zero, List.set_cons_succ]
  refine wl_toU (o := ⟨_, _, _, _, _, _⟩) (by rfl) _ rfl x rfl (fun n n0 n1 hn => ?_)
  simp only [Act.put, List.setIfInBounds_toArray, List.set_cons_zero, List.set_cons_succ]
  refine wl_rem4 (o := ⟨_, _, _, _, _, _⟩) (by rfl) _ _ rfl n rfl n0 n1 (fun k hk => ?_)
  simp only [Act.put, List.setIfInBounds_toArray, List.set_cons_zero, List.set_cons_succ]
  obtain rfl : k = 2 := by rw [hk, hn]; exact hm
  refine wl_toI (o := ⟨_, _, _, _, _, _⟩) (by rfl) _ rfl 2 rfl (by omega) (by omega) ?_
  simp only [Act.put, List.setIfInBounds_toArray, List.set_cons_zero, List.set_cons_succ]
  refine wl_yield (o := ⟨_, _, _, _, _, _⟩) (.int .i64 2) (yl_assign (by rfl) _ rfl _ rfl) ?_
  simp only [Act.put, List.setIfInBounds_toArray, List.set_cons_zero, List.set_cons_succ]
  refine wpList_nil ?_
  refine hK2 _ _ ?_
  clear hK2 K2
  refine wp_seq_k (fun K3 hK3 => ?_)
  refine wp_seq_k (fun K4 hK4 => ?_)
  refine wp_region_lit ?_
  refine wl_call (o := ⟨_, _, _, _, _, _⟩) (by rfl) 7 _ _ rfl #[] rfl (run_call Try.func7 (by kernel_rfl) (by kernel_rfl)) ?_
  refine (awake4_any P _).mono ?_
  rintro r v4 ⟨rfl, kb⟩
  replace D := D.trans (kb.mono D.size)
  replace HA := HA.on kb
  replace HS := HS.on kb
  replace IA := IA.on kb
  replace IS := IS.on kb
  replace IE := IE.on kb
  clear kb
  refine ⟨.bool true, rfl, ?_⟩
  simp only [Act.put, List.setIfInBounds_toArray, List.set_cons_zero, List.set_cons_succ]
  refine wl_yield (o := ⟨_, _, _, _, _, _⟩) (.bool false) (yl_not (by rfl) _ _ rfl true rfl) ?_
  simp only [Act.put, List.setIfInBounds_toArray, List.set_cons_zero, List.set_cons_succ]
  refine wl_yield (o := ⟨_, _, _, _, _, _⟩) (.bool false) (yl_move (by rfl) _ rfl _ rfl) ?_
  simp only [Act.put, List.setIfInBounds_toArray, List.set_cons_zero, List.set_cons_succ]
  refine wl_yield (o := ⟨_, _, _, _, _, _⟩) (bxVal a0 a1 a2 a3) (yl_box (by rfl) _ rfl _ 0 rfl _ _ _ _ _ _ _ _ _ _ _ _ _ _ _ _ (fun _ h => by subst h; exact BxIn.cells IA)) ?_
  simp only [Act.put, List.setIfInBounds_toArray, List.set_cons_zero, List.set_cons_succ]
  refine wl_rowBx1 (o := ⟨_, _, _, _, _, _⟩) (by rfl) _ rfl rfl HA (fun v5 y5 HY kb => ?_)
  simp only [Act.put, List.setIfInBounds_toArray, List.set_cons_zero, List.set_cons_succ]
  replace D := D.trans (kb.mono D.size)
  replace HA := HA.on kb
  replace HS := HS.on kb
  replace IA := IA.on kb
  replace IS := IS.on kb
  replace IE := IE.on kb
  clear kb
  refine wl_call (o := ⟨_, _, _, _, _, _⟩) (by rfl) 8 _ _ rfl #[y5] rfl (run_call Try.func8 (by kernel_rfl) (by kernel_rfl)) ?_
  refine (refFewBx_any _ _ _ HY).mono ?_
  rintro r v6 ⟨rfl, kb⟩
  replace D := D.trans (kb.mono D.size)
  replace HA := HA.on kb
  replace HS := HS.on kb
  replace IA := IA.on kb
  replace IS := IS.on kb
  replace IE := IE.on kb
  clear kb
  cases hF : [a].all fewBx
  · refine ⟨.bool false, rfl, ?_⟩
    simp only [Act.put, List.setIfInBounds_toArray, List.set_cons_zero, List.set_cons_succ]
    refine wl_yield (o := ⟨_, _, _, _, _, _⟩) (.bool true) (yl_not (by rfl) _ _ rfl false rfl) ?_
    simp only [Act.put, List.setIfInBounds_toArray, List.set_cons_zero, List.set_cons_succ]
    refine wl_yield (o := ⟨_, _, _, _, _, _⟩) (.bool true) (yl_pickF (by rfl) _ _ _ rfl rfl _ rfl) ?_
    simp only [Act.put, List.setIfInBounds_toArray, List.set_cons_zero, List.set_cons_succ]
    refine wl_yield (o := ⟨_, _, _, _, _, _⟩) (.bool true) (yl_move (by rfl) _ rfl _ rfl) ?_
    simp only [Act.put, List.setIfInBounds_toArray, List.set_cons_zero, List.set_cons_succ]
    refine wl_yield (o := ⟨_, _, _, _, _, _⟩) undef (yl_undef (by rfl)) ?_
    simp only [Act.put, List.setIfInBounds_toArray, List.set_cons_zero, List.set_cons_succ]
    refine wl_yield (o := ⟨_, _, _, _, _, _⟩) undef (yl_undef (by rfl)) ?_
    simp only [Act.put, List.setIfInBounds_toArray, List.set_cons_zero, List.set_cons_succ]
    refine wl_yield (o := ⟨_, _, _, _, _, _⟩) undef (yl_undef (by rfl)) ?_
    simp only [Act.put, List.setIfInBounds_toArray, List.set_cons_zero, List.set_cons_succ]
    refine wl_yield (o := ⟨_, _, _, _, _, _⟩) undef (yl_undef (by rfl)) ?_
    simp only [Act.put, List.setIfInBounds_toArray, List.set_cons_zero, List.set_cons_succ]
    refine wl_yield (o := ⟨_, _, _, _, _, _⟩) (.bool true) (yl_pickT (by rfl) _ _ _ rfl rfl _ rfl) ?_
    simp only [Act.put, List.setIfInBounds_toArray, List.set_cons_zero, List.set_cons_succ]
    refine wl_yield (o := ⟨_, _, _, _, _, _⟩) (.bool true) (yl_move (by rfl) _ rfl _ rfl) ?_
    simp only [Act.put, List.setIfInBounds_toArray, List.set_cons_zero, List.set_cons_succ]
    refine wl_yield (o := ⟨_, _, _, _, _, _⟩) undef (yl_undef (by rfl)) ?_
    simp only [Act.put, List.setIfInBounds_toArray, List.set_cons_zero, List.set_cons_succ]
    refine wl_yield (o := ⟨_, _, _, _, _, _⟩) undef (yl_undef (by rfl)) ?_
    simp only [Act.put, List.setIfInBounds_toArray, List.set_cons_zero, List.set_cons_succ]
    refine wl_yield (o := ⟨_, _, _, _, _, _⟩) undef (yl_undef (by rfl)) ?_
    simp only [Act.put, List.setIfInBounds_toArray, List.set_cons_zero, List.set_cons_succ]
    refine wl_yield (o := ⟨_, _, _, _, _, _⟩) (.bool true) (yl_pickT (by rfl) _ _ _ rfl rfl _ rfl) ?_
    simp only [Act.put, List.setIfInBounds_toArray, List.set_cons_zero, List.set_cons_succ]
    refine wl_yield (o := ⟨_, _, _, _, _, _⟩) (.bool true) (yl_move (by rfl) _ rfl _ rfl) ?_
    simp only [Act.put, List.setIfInBounds_toArray, List.set_cons_zero, List.set_cons_succ]
    refine wl_yield (o := ⟨_, _, _, _, _, _⟩) undef (yl_undef (by rfl)) ?_
    simp only [Act.put, List.setIfInBounds_toArray, List.set_cons_zero, List.set_cons_succ]
    refine wl_yield (o := ⟨_, _, _, _, _, _⟩) undef (yl_undef (by rfl)) ?_
    simp only [Act.put, List.setIfInBounds_toArray, List.set_cons_zero, List.set_cons_succ]
    refine wl_yield (o := ⟨_, _, _, _, _, _⟩) undef (yl_undef (by rfl)) ?_
    simp only [Act.put, List.setIfInBounds_toArray, List.set_cons_zero, List.set_cons_succ]
    refine wl_yield (o := ⟨_, _, _, _, _, _⟩) (.bool true) (yl_pickT (by rfl) _ _ _ rfl rfl _ rfl) ?_
    simp only [Act.put, List.setIfInBounds_toArray, List.set_cons_zero, List.set_cons_succ]
    refine wpList_nil ?_
    refine hK4 _ _ ?_
    clear hK4 K4
    refine wp_cond_true rfl ?_
    refine wp_seq_k (fun K5 hK5 => ?_)
    refine wp_region_lit ?_
    refine wl_call (o := ⟨_, _, _, _, _, _⟩) (by rfl) 7 _ _ rfl #[] rfl (run_call Try.func7 (by kernel_rfl) (by kernel_rfl)) ?_
    refine (awake4_any P _).mono ?_
    rintro r v7 ⟨rfl, kb⟩
    replace D := D.trans (kb.mono D.size)
    replace HA := HA.on kb
    replace HS := HS.on kb
    replace IA := IA.on kb
    replace IS := IS.on kb
    replace IE := IE.on kb
    clear kb
    refine ⟨.bool true, rfl, ?_⟩
    simp only [Act.put, List.setIfInBounds_toArray, List.set_cons_zero, List.set_cons_succ]
    refine wl_yield (o := ⟨_, _, _, _, _, _⟩) (.bool true) (yl_assign (by rfl) _ rfl _ rfl) ?_
    simp only [Act.put, List.setIfInBounds_toArray, List.set_cons_zero, List.set_cons_succ]
    refine wpList_nil ?_
    refine hK5 _ _ ?_
    clear hK5 K5
    refine wp_ret ?_
    go_ret
    exact ⟨rfl, D⟩
  · refine ⟨.bool true, rfl, ?_⟩
    simp only [Act.put, List.setIfInBounds_toArray, List.set_cons_zero, List.set_cons_succ]
    refine wl_yield (o := ⟨_, _, _, _, _, _⟩) (.bool false) (yl_not (by rfl) _ _ rfl true rfl) ?_
    simp only [Act.put, List.setIfInBounds_toArray, List.set_cons_zero, List.set_cons_succ]
    refine wl_yield (o := ⟨_, _, _, _, _, _⟩) (.bool false) (yl_pickF (by rfl) _ _ _ rfl rfl _ rfl) ?_
    simp only [Act.put, List.setIfInBounds_toArray, List.set_cons_zero, List.set_cons_succ]
    refine wl_yield (o := ⟨_, _, _, _, _, _⟩) (.bool false) (yl_move (by rfl) _ rfl _ rfl) ?_
    simp only [Act.put, List.setIfInBounds_toArray, List.set_cons_zero, List.set_cons_succ]
    refine wl_yield (o := ⟨_, _, _, _, _, _⟩) (SC.val t) (yl_set (by rfl) _ rfl _ 0 rfl _ _ _ _ (fun _ h => by subst h; exact StIn.cells IS)) ?_
    simp only [Act.put, List.setIfInBounds_toArray, List.set_cons_zero, List.set_cons_succ]
    refine wl_rowSt1 (o := ⟨_, _, _, _, _, _⟩) (by rfl) _ rfl rfl HS (fun v7 y7 HY kb => ?_)
    simp only [Act.put, List.setIfInBounds_toArray, List.set_cons_zero, List.set_cons_succ]
    replace D := D.trans (kb.mono D.size)
    replace HA := HA.on kb
    replace HS := HS.on kb
    replace IA := IA.on kb
    replace IS := IS.on kb
    replace IE := IE.on kb
    clear kb
    refine wl_call (o := ⟨_, _, _, _, _, _⟩) (by rfl) 13 _ _ rfl #[y7] rfl (run_call Try.func13 (by kernel_rfl) (by kernel_rfl)) ?_
    refine (refFew_below HY).mono ?_
    rintro r v8 ⟨rfl, kb⟩
    replace D := D.trans (kb.mono D.size)
    replace HA := HA.on kb
    replace HS := HS.on kb
    replace IA := IA.on kb
    replace IS := IS.on kb
    replace IE := IE.on kb
    clear kb
    cases hF2 : [s].all fewB
    · refine ⟨.bool false, rfl, ?_⟩
      simp only [Act.put, List.setIfInBounds_toArray, List.set_cons_zero, List.set_cons_succ]
      refine wl_yield (o := ⟨_, _, _, _, _, _⟩) (.bool true) (yl_not (by rfl) _ _ rfl false rfl) ?_
      simp only [Act.put, List.setIfInBounds_toArray, List.set_cons_zero, List.set_cons_succ]
      refine wl_yield (o := ⟨_, _, _, _, _, _⟩) (.bool true) (yl_pickF (by rfl) _ _ _ rfl rfl _ rfl) ?_
      simp only [Act.put, List.setIfInBounds_toArray, List.set_cons_zero, List.set_cons_succ]
      refine wl_yield (o := ⟨_, _, _, _, _, _⟩) (.bool true) (yl_move (by rfl) _ rfl _ rfl) ?_
      simp only [Act.put, List.setIfInBounds_toArray, List.set_cons_zero, List.set_cons_succ]
      refine wl_yield (o := ⟨_, _, _, _, _, _⟩) undef (yl_undef (by rfl)) ?_
      simp only [Act.put, List.setIfInBounds_toArray, List.set_cons_zero, List.set_cons_succ]
      refine wl_yield (o := ⟨_, _, _, _, _, _⟩) undef (yl_undef (by rfl)) ?_
      simp only [Act.put, List.setIfInBounds_toArray, List.set_cons_zero, List.set_cons_succ]
      refine wl_yield (o := ⟨_, _, _, _, _, _⟩) undef (yl_undef (by rfl)) ?_
      simp only [Act.put, List.setIfInBounds_toArray, List.set_cons_zero, List.set_cons_succ]
      refine wl_yield (o := ⟨_, _, _, _, _, _⟩) (.bool true) (yl_pickT (by rfl) _ _ _ rfl rfl _ rfl) ?_
      simp only [Act.put, List.setIfInBounds_toArray, List.set_cons_zero, List.set_cons_succ]
      refine wl_yield (o := ⟨_, _, _, _, _, _⟩) (.bool true) (yl_move (by rfl) _ rfl _ rfl) ?_
      simp only [Act.put, List.setIfInBounds_toArray, List.set_cons_zero, List.set_cons_succ]
      refine wl_yield (o := ⟨_, _, _, _, _, _⟩) undef (yl_undef (by rfl)) ?_
      simp only [Act.put, List.setIfInBounds_toArray, List.set_cons_zero, List.set_cons_succ]
      refine wl_yield (o := ⟨_, _, _, _, _, _⟩) undef (yl_undef (by rfl)) ?_
      simp only [Act.put, List.setIfInBounds_toArray, List.set_cons_zero, List.set_cons_succ]
      refine wl_yield (o := ⟨_, _, _, _, _, _⟩) undef (yl_undef (by rfl)) ?_
      simp only [Act.put, List.setIfInBounds_toArray, List.set_cons_zero, List.set_cons_succ]
      refine wl_yield (o := ⟨_, _, _, _, _, _⟩) (.bool true) (yl_pickT (by rfl) _ _ _ rfl rfl _ rfl) ?_
      simp only [Act.put, List.setIfInBounds_toArray, List.set_cons_zero, List.set_cons_succ]
      refine wpList_nil ?_
      refine hK4 _ _ ?_
      clear hK4 K4
      refine wp_cond_true rfl ?_
      refine wp_seq_k (fun K5 hK5 => ?_)
      refine wp_region_lit ?_
      refine wl_call (o := ⟨_, _, _, _, _, _⟩) (by rfl) 7 _ _ rfl #[] rfl (run_call Try.func7 (by kernel_rfl) (by kernel_rfl)) ?_
      refine (awake4_any P _).mono ?_
      rintro r v9 ⟨rfl, kb⟩
      replace D := D.trans (kb.mono D.size)
      replace HA := HA.on kb
      replace HS := HS.on kb
      replace IA := IA.on kb
      replace IS := IS.on kb
      replace IE := IE.on kb
      clear kb
      refine ⟨.bool true, rfl, ?_⟩
      simp only [Act.put, List.setIfInBounds_toArray, List.set_cons_zero, List.set_cons_succ]
      refine wl_yield (o := ⟨_, _, _, _, _, _⟩) (.bool true) (yl_assign (by rfl) _ rfl _ rfl) ?_
      simp only [Act.put, List.setIfInBounds_toArray, List.set_cons_zero, List.set_cons_succ]
      refine wpList_nil ?_
      refine hK5 _ _ ?_
      clear hK5 K5
      refine wp_ret ?_
      go_ret
      exact ⟨rfl, D⟩
    · refine ⟨.bool true, rfl, ?_⟩
      simp only [Act.put, List.setIfInBounds_toArray, List.set_cons_zero, List.set_cons_succ]
      refine wl_yield (o := ⟨_, _, _, _, _, _⟩) (.bool false) (yl_not (by rfl) _ _ rfl true rfl) ?_
      simp only [Act.put, List.setIfInBounds_toArray, List.set_cons_zero, List.set_cons_succ]
      refine wl_yield (o := ⟨_, _, _, _, _, _⟩) (.bool false) (yl_pickF (by rfl) _ _ _ rfl rfl _ rfl) ?_
      simp only [Act.put, List.setIfInBounds_toArray, List.set_cons_zero, List.set_cons_succ]
      refine wl_yield (o := ⟨_, _, _, _, _, _⟩) (.bool false) (yl_move (by rfl) _ rfl _ rfl) ?_
      simp only [Act.put, List.setIfInBounds_toArray, List.set_cons_zero, List.set_cons_succ]
      refine wl_yield (o := ⟨_, _, _, _, _, _⟩) (bxVal a0 a1 a2 a3) (yl_box (by rfl) _ rfl _ 0 rfl _ _ _ _ _ _ _ _ _ _ _ _ _ _ _ _ (fun _ h => by subst h; exact BxIn.cells IA)) ?_
      simp only [Act.put, List.setIfInBounds_toArray, List.set_cons_zero, List.set_cons_succ]
      refine wl_call (o := ⟨_, _, _, _, _, _⟩) (by rfl) 9 _ _ rfl #[bxVal a0 a1 a2 a3] rfl (run_call Try.func9 (by kernel_rfl) (by kernel_rfl)) ?_
      refine (refRightBx_any _ _ _ HA).mono ?_
      rintro r v9 ⟨rfl, kb⟩
      replace D := D.trans (kb.mono D.size)
      replace HA := HA.on kb
      replace HS := HS.on kb
      replace IA := IA.on kb
      replace IS := IS.on kb
      replace IE := IE.on kb
      clear kb
      cases hRA : rightBx a
      · refine ⟨.bool false, rfl, ?_⟩
        simp only [Act.put, List.setIfInBounds_toArray, List.set_cons_zero, List.set_cons_succ]
        refine wl_yield (o := ⟨_, _, _, _, _, _⟩) (.bool true) (yl_not (by rfl) _ _ rfl false rfl) ?_
        simp only [Act.put, List.setIfInBounds_toArray, List.set_cons_zero, List.set_cons_succ]
        refine wl_yield (o := ⟨_, _, _, _, _, _⟩) (.bool true) (yl_pickF (by rfl) _ _ _ rfl rfl _ rfl) ?_
        simp only [Act.put, List.setIfInBounds_toArray, List.set_cons_zero, List.set_cons_succ]
        refine wl_yield (o := ⟨_, _, _, _, _, _⟩) (.bool true) (yl_move (by rfl) _ rfl _ rfl) ?_
        simp only [Act.put, List.setIfInBounds_toArray, List.set_cons_zero, List.set_cons_succ]
        refine wl_yield (o := ⟨_, _, _, _, _, _⟩) undef (yl_undef (by rfl)) ?_
        simp only [Act.put, List.setIfInBounds_toArray, List.set_cons_zero, List.set_cons_succ]
        refine wl_yield (o := ⟨_, _, _, _, _, _⟩) undef (yl_undef (by rfl)) ?_
        simp only [Act.put, List.setIfInBounds_toArray, List.set_cons_zero, List.set_cons_succ]
        refine wl_yield (o := ⟨_, _, _, _, _, _⟩) undef (yl_undef (by rfl)) ?_
        simp only [Act.put, List.setIfInBounds_toArray, List.set_cons_zero, List.set_cons_succ]
        refine wl_yield (o := ⟨_, _, _, _, _, _⟩) (.bool true) (yl_pickT (by rfl) _ _ _ rfl rfl _ rfl) ?_
        simp only [Act.put, List.setIfInBounds_toArray, List.set_cons_zero, List.set_cons_succ]
        refine wpList_nil ?_
        refine hK4 _ _ ?_
        clear hK4 K4
        refine wp_cond_true rfl ?_
        refine wp_seq_k (fun K5 hK5 => ?_)
        refine wp_region_lit ?_
        refine wl_call (o := ⟨_, _, _, _, _, _⟩) (by rfl) 7 _ _ rfl #[] rfl (run_call Try.func7 (by kernel_rfl) (by kernel_rfl)) ?_
        refine (awake4_any P _).mono ?_
        rintro r v10 ⟨rfl, kb⟩
        replace D := D.trans (kb.mono D.size)
        replace HA := HA.on kb
        replace HS := HS.on kb
        replace IA := IA.on kb
        replace IS := IS.on kb
        replace IE := IE.on kb
        clear kb
        refine ⟨.bool true, rfl, ?_⟩
        simp only [Act.put, List.setIfInBounds_toArray, List.set_cons_zero, List.set_cons_succ]
        refine wl_yield (o := ⟨_, _, _, _, _, _⟩) (.bool true) (yl_assign (by rfl) _ rfl _ rfl) ?_
        simp only [Act.put, List.setIfInBounds_toArray, List.set_cons_zero, List.set_cons_succ]
        refine wpList_nil ?_
        refine hK5 _ _ ?_
        clear hK5 K5
        refine wp_ret ?_
        go_ret
        exact ⟨rfl, D⟩
      · refine ⟨.bool true, rfl, ?_⟩
        simp only [Act.put, List.setIfInBounds_toArray, List.set_cons_zero, List.set_cons_succ]
        refine wl_yield (o := ⟨_, _, _, _, _, _⟩) (.bool false) (yl_not (by rfl) _ _ rfl true rfl) ?_
        simp only [Act.put, List.setIfInBounds_toArray, List.set_cons_zero, List.set_cons_succ]
        refine wl_yield (o := ⟨_, _, _, _, _, _⟩) (.bool false) (yl_pickF (by rfl) _ _ _ rfl rfl _ rfl) ?_
        simp only [Act.put, List.setIfInBounds_toArray, List.set_cons_zero, List.set_cons_succ]
        refine wl_yield (o := ⟨_, _, _, _, _, _⟩) (.bool false) (yl_move (by rfl) _ rfl _ rfl) ?_
        simp only [Act.put, List.setIfInBounds_toArray, List.set_cons_zero, List.set_cons_succ]
        refine wl_yield (o := ⟨_, _, _, _, _, _⟩) (SC.val t) (yl_set (by rfl) _ rfl _ 0 rfl _ _ _ _ (fun _ h => by subst h; exact StIn.cells IS)) ?_
        simp only [Act.put, List.setIfInBounds_toArray, List.set_cons_zero, List.set_cons_succ]
        refine wl_call (o := ⟨_, _, _, _, _, _⟩) (by rfl) 14 _ _ rfl #[SC.val t] rfl (run_call Try.func14 (by kernel_rfl) (by kernel_rfl)) ?_
        refine (refRightSet_any _ s _ HS).mono ?_
        rintro r v10 ⟨rfl, kb⟩
        replace D := D.trans (kb.mono D.size)
        replace HA := HA.on kb
        replace HS := HS.on kb
        replace IA := IA.on kb
        replace IS := IS.on kb
        replace IE := IE.on kb
        clear kb
        cases hR : rightSet s
        · refine ⟨.bool false, rfl, ?_⟩
          simp only [Act.put, List.setIfInBounds_toArray, List.set_cons_zero, List.set_cons_succ]
          refine wl_yield (o := ⟨_, _, _, _, _, _⟩) (.bool true) (yl_not (by rfl) _ _ rfl false rfl) ?_
          simp only [Act.put, List.setIfInBounds_toArray, List.set_cons_zero, List.set_cons_succ]
          refine wl_yield (o := ⟨_, _, _, _, _, _⟩) (.bool true) (yl_pickF (by rfl) _ _ _ rfl rfl _ rfl) ?_
          simp only [Act.put, List.setIfInBounds_toArray, List.set_cons_zero, List.set_cons_succ]
          refine wpList_nil ?_
          refine hK4 _ _ ?_
          clear hK4 K4
          refine wp_cond_true rfl ?_
          refine wp_seq_k (fun K5 hK5 => ?_)
          refine wp_region_lit ?_
          refine wl_call (o := ⟨_, _, _, _, _, _⟩) (by rfl) 7 _ _ rfl #[] rfl (run_call Try.func7 (by kernel_rfl) (by kernel_rfl)) ?_
          refine (awake4_any P _).mono ?_
          rintro r v11 ⟨rfl, kb⟩
          replace D := D.trans (kb.mono D.size)
          replace HA := HA.on kb
          replace HS := HS.on kb
          replace IA := IA.on kb
          replace IS := IS.on kb
          replace IE := IE.on kb
          clear kb
          refine ⟨.bool true, rfl, ?_⟩
          simp only [Act.put, List.setIfInBounds_toArray, List.set_cons_zero, List.set_cons_succ]
          refine wl_yield (o := ⟨_, _, _, _, _, _⟩) (.bool true) (yl_assign (by rfl) _ rfl _ rfl) ?_
          simp only [Act.put, List.setIfInBounds_toArray, List.set_cons_zero, List.set_cons_succ]
          refine wpList_nil ?_
          refine hK5 _ _ ?_
          clear hK5 K5
          refine wp_ret ?_
          go_ret
          exact ⟨rfl, D⟩
        · refine ⟨.bool true, rfl, ?_⟩
          simp only [Act.put, List.setIfInBounds_toArray, List.set_cons_zero, List.set_cons_succ]
          refine wl_yield (o := ⟨_, _, _, _, _, _⟩) (.bool false) (yl_not (by rfl) _ _ rfl true rfl) ?_
          simp only [Act.put, List.setIfInBounds_toArray, List.set_cons_zero, List.set_cons_succ]
          refine wl_yield (o := ⟨_, _, _, _, _, _⟩) (.bool false) (yl_pickF (by rfl) _ _ _ rfl rfl _ rfl) ?_
          simp only [Act.put, List.setIfInBounds_toArray, List.set_cons_zero, List.set_cons_succ]
          refine wpList_nil ?_
          refine hK4 _ _ ?_
          clear hK4 K4
          refine wp_cond_false rfl ?_
          refine wp_skip ?_
          refine hK3 _ _ ?_
          clear hK3 K3
          have FA := few_of HA (all1 hF) hRA
          have hG : Good s := ⟨hR, HS.i64⟩
          have hL := few_len (few1 hF2)
          have FS : Fit s := ⟨hG, by omega, by omega⟩
          have GA := FA.good.g 2 (by omega)
          have OG : Good (orV a.s2 s) := orV_good GA hG
          have OL := orV_len GA hG
          have LA := FA.ni 2 (by omega)
          have LB := FA.ns 2 (by omega)
          have FO : Fit (orV a.s2 s) := ⟨OG, or_le1 OL LA hL.1, or_le2 OL LB hL.2⟩
          have FB : FewB (a.put 2 s) := put_few FA (by omega) hG hL.1 hL.2
          have FC : FitBx (a.put 2 (orV a.s2 s)) := put_fit FA.fit (by omega) OG (or_le3 OL LA hL.1) (or_le4 OL LB hL.2)
          have hj := joins_has FA.good 2 (by omega) hG e
          have hin := joins_in FA.good (i := 2) (by omega) hG FB.good FC.good
          replace hj : hasE (a.put 2 (orV a.s2 s)) e = (hasE a e || hasE (a.put 2 s) e) := hj
          replace hin : inBx a (a.put 2 (orV a.s2 s)) = true ∧ inBx (a.put 2 s) (a.put 2 (orV a.s2 s)) = true := hin
          refine wp_seq_k (fun K5 hK5 => ?_)
          refine wp_region_lit ?_
          refine wl_yield (o := ⟨_, _, _, _, _, _⟩) (bxVal a0 a1 a2 a3) (yl_box (by rfl) _ rfl _ 0 rfl _ _ _ _ _ _ _ _ _ _ _ _ _ _ _ _ (fun _ h => by subst h; exact BxIn.cells IA)) ?_
          simp only [Act.put, List.setIfInBounds_toArray, List.set_cons_zero, List.set_cons_succ]
          refine wl_yield (o := ⟨_, _, _, _, _, _⟩) (.int .i64 2) (yl_move (by rfl) _ rfl _ rfl) ?_
          simp only [Act.put, List.setIfInBounds_toArray, List.set_cons_zero, List.set_cons_succ]
          refine wl_yield (o := ⟨_, _, _, _, _, _⟩) (SC.val t) (yl_set (by rfl) _ rfl _ 0 rfl _ _ _ _ (fun _ h => by subst h; exact StIn.cells IS)) ?_
          simp only [Act.put, List.setIfInBounds_toArray, List.set_cons_zero, List.set_cons_succ]
          refine wl_call (o := ⟨_, _, _, _, _, _⟩) (by rfl) 15 _ _ rfl #[bxVal a0 a1 a2 a3, .int .i64 2, SC.val t] rfl (run_call Try.func15 (by kernel_rfl) (by kernel_rfl)) ?_
          refine (P.with_ _ a 2 _ s _ (by omega) (by omega) HA FA.fit HS FS).mono ?_
          rintro r v11 ⟨⟨u1, rfl, HB⟩, kb⟩
          replace D := D.trans (kb.mono D.size)
          replace HA := HA.on kb
          replace HS := HS.on kb
          replace IA := IA.on kb
          replace IS := IS.on kb
          replace IE := IE.on kb
          clear kb
          replace HB : BoxAt _ _ (a.put 2 s) := HB
          obtain ⟨b0, b1, b2, b3, rfl, -⟩ := HB.scs
          refine ⟨bxVal b0 b1 b2 b3, rfl, ?_⟩
          simp only [Act.put, List.setIfInBounds_toArray, List.set_cons_zero, List.set_cons_succ]
          refine wl_newBx (o := ⟨_, _, _, _, _, _⟩) (o2 := ⟨_, _, _, _, _, _⟩) (by rfl) rfl _ _ rfl (fun _ => rfl) (fun _ => rfl) (fun _ => by rfl) (fun v12 gb12 IB kb => ?_)
          simp only [Act.put, List.setIfInBounds_toArray, List.set_cons_zero, List.set_cons_succ]
          replace D := D.trans (kb.mono D.size)
          replace HA := HA.on kb
          replace HS := HS.on kb
          replace IA := IA.on kb
          replace IS := IS.on kb
          replace IE := IE.on kb
          replace HB := HB.on kb
          clear kb
          refine wpList_nil ?_
          refine hK5 _ _ ?_
          clear hK5 K5
          refine wp_seq_k (fun K6 hK6 => ?_)
          have NEXT : ∀ (W : World) (gC : Nat) (o c0 c1 c2 c3 : SC), Below w.heap.size w W → BoxAt W (bxVal a0 a1 a2 a3) a → SetAt W (SC.val t) s → BxIn W gb1 a0 a1 a2 a3 → StIn W gb2 t → EvIn W gb3 e → BoxAt W (bxVal b0 b1 b2 b3) (a.put 2 s) → BxIn W gb12 b0 b1 b2 b3 → BoxAt W (bxVal c0 c1 c2 c3) (a.put 2 (orV a.s2 s)) → BxIn W gC c0 c1 c2 c3 → K6 ⟨#[bxVal a0 a1 a2 a3, .int .i64 2, SC.val t, evVal e, .pointer (some ⟨gb1, 0, none⟩), undef, .pointer (some ⟨gb2, 0, none⟩), .pointer (some ⟨gb3, 0, none⟩), .bool false, .pointer (some ⟨gb12, 0, none⟩), .pointer (some ⟨gC, 0, none⟩), undef, undef, .int .i64 x, .int .u64 n, .int .u64 2, .int .i64 2, .bool true, .bool false, .bool false, bxVal a0 a1 a2 a3, y5, .bool true, .bool false, .bool false, .bool false, SC.val t, y7, .bool true, .bool false, .bool false, .bool false, bxVal a0 a1 a2 a3, .bool true, .bool false, .bool false, .bool false, SC.val t, .bool true, .bool false, .bool false, undef, bxVal a0 a1 a2 a3, .int .i64 2, SC.val t, bxVal b0 b1 b2 b3, bxVal a0 a1 a2 a3, .int .i64 2, .int .i64 2, .pointer (some ⟨gb1, 8, none⟩), SC.val a2, SC.val t, SC.val o, bxVal c0 c1 c2 c3, undef, undef, undef, undef, undef, undef, undef, undef, undef, undef, undef, undef, undef, undef, undef, undef, undef, undef, undef, undef, undef, undef, undef, undef, undef, undef, undef, undef, undef, undef, undef, undef], []⟩ W := by
            clear D HA HS IA IS IE HB IB
            intro W gC o c0 c1 c2 c3 D HA HS IA IS IE HB IB HC IC
            refine hK6 _ _ ?_
            clear hK6 K6
            refine wp_seq_k (fun K7 hK7 => ?_)
            refine wp_region_lit ?_
            refine wl_yield (o := ⟨_, _, _, _, _, _⟩) (bxVal a0 a1 a2 a3) (yl_box (by rfl) _ rfl _ 0 rfl _ _ _ _ _ _ _ _ _ _ _ _ _ _ _ _ (fun _ h => by subst h; exact BxIn.cells IA)) ?_
            simp only [Act.put, List.setIfInBounds_toArray, List.set_cons_zero, List.set_cons_succ]
            refine wl_yield (o := ⟨_, _, _, _, _, _⟩) (bxVal b0 b1 b2 b3) (yl_box (by rfl) _ rfl _ 0 rfl _ _ _ _ _ _ _ _ _ _ _ _ _ _ _ _ (fun _ h => by subst h; exact BxIn.cells IB)) ?_
            simp only [Act.put, List.setIfInBounds_toArray, List.set_cons_zero, List.set_cons_succ]
            refine wl_call (o := ⟨_, _, _, _, _, _⟩) (by rfl) 17 _ _ rfl #[bxVal a0 a1 a2 a3, bxVal b0 b1 b2 b3] rfl (run_call Try.func17 (by kernel_rfl) (by kernel_rfl)) ?_
            refine (P.differ _ _ a _ _ HA HB FA.fit FB.fit).mono ?_
            rintro r v13 ⟨rfl, kb⟩
            replace D := D.trans (kb.mono D.size)
            replace HA := HA.on kb
            replace HS := HS.on kb
            replace IA := IA.on kb
            replace IS := IS.on kb
            replace IE := IE.on kb
            replace HB := HB.on kb
            replace IB := IB.on kb
            replace HC := HC.on kb
            replace IC := IC.on kb
            clear kb
            refine ⟨.tuple #[.int .i64 (differBx a (a.put 2 s)).1, .int .i64 (differBx a (a.put 2 s)).2], rfl, ?_⟩
            simp only [Act.put, List.setIfInBounds_toArray, List.set_cons_zero, List.set_cons_succ]
            refine wl_yield (o := ⟨_, _, _, _, _, _⟩) (.tuple #[.int .i64 (differBx a (a.put 2 s)).1, .int .i64 (differBx a (a.put 2 s)).2]) (yl_move (by rfl) _ rfl _ rfl) ?_
            simp only [Act.put, List.setIfInBounds_toArray, List.set_cons_zero, List.set_cons_succ]
            refine wl_yield (o := ⟨_, _, _, _, _, _⟩) (.int .i64 ((differBx a (a.put 2 s)).1)) (yl_extract0 (by rfl) _ rfl _ _ rfl) ?_
            simp only [Act.put, List.setIfInBounds_toArray, List.set_cons_zero, List.set_cons_succ]
            refine wl_yield (o := ⟨_, _, _, _, _, _⟩) (.int .i64 ((differBx a (a.put 2 s)).2)) (yl_extract1 (by rfl) _ rfl _ _ rfl) ?_
            simp only [Act.put, List.setIfInBounds_toArray, List.set_cons_zero, List.set_cons_succ]
            refine wl_yield (o := ⟨_, _, _, _, _, _⟩) (.int .i64 ((differBx a (a.put 2 s)).1)) (yl_assign (by rfl) _ rfl _ rfl) ?_
            simp only [Act.put, List.setIfInBounds_toArray, List.set_cons_zero, List.set_cons_succ]
            refine wl_yield (o := ⟨_, _, _, _, _, _⟩) (.int .i64 ((differBx a (a.put 2 s)).2)) (yl_assign (by rfl) _ rfl _ rfl) ?_
            simp only [Act.put, List.setIfInBounds_toArray, List.set_cons_zero, List.set_cons_succ]
            refine wpList_nil ?_
            refine hK7 _ _ ?_
            clear hK7 K7
            refine wp_seq_k (fun K8 hK8 => ?_)
            rcases join_cases (hasE a e) (hasE (a.put 2 s) e) with ha | ⟨ha, hb⟩ | ⟨ha, hb⟩
            · replace hj : hasE (a.put 2 (orV a.s2 s)) e = true := by rw [hj, ha, Bool.true_or]
              refine wp_region_held_drew (S := fun w' => BxIn w' gC c0 c1 c2 c3 ∧ EvIn w' gb3 e ∧ BxIn w' gb1 a0 a1 a2 a3 ∧ BxIn w' gb12 b0 b1 b2 b3) (by kernel_rfl) ⟨IC, IE, IA, IB⟩ (fun hHeld => ?_)
              have kb : Below v13.heap.size v13 v13.drew := (Below.refl _ v13).drew
              replace D := D.trans (kb.mono D.size)
              replace HA := HA.on kb
              replace HS := HS.on kb
              replace IA := IA.on kb
              replace IS := IS.on kb
              replace IE := IE.on kb
              replace HB := HB.on kb
              replace IB := IB.on kb
              replace HC := HC.on kb
              replace IC := IC.on kb
              clear kb
              generalize v13.drew = v14 at D hHeld HA HS IA IS IE HB IB HC IC ⊢
              refine wpAnyH_take (i := 0) (oi := ⟨_, _, _, _, _, _⟩) (v := .int .i64 ((differBx a (a.put 2 s)).1)) rfl (by kernel_rfl) (by kernel_rfl) (by kernel_rfl) (fun _ _ _ h => h) (yl_move (by rfl) _ rfl _ rfl) (by assumption) ?_
              simp only [Act.put, List.setIfInBounds_toArray, List.set_cons_zero, List.set_cons_succ]
              refine wpAnyH_take (i := 1) (oi := ⟨_, _, _, _, _, _⟩) (v := .bool true) rfl (by kernel_rfl) (by kernel_rfl) (by kernel_rfl) (fun _ _ _ h => h) (yl_leqI (by rfl) _ _ _ rfl ((differBx a (a.put 2 s)).1) (1) true rfl rfl (by simpa using differ_put a 2 (by omega) s)) (by assumption) ?_
              simp only [Act.put, List.setIfInBounds_toArray, List.set_cons_zero, List.set_cons_succ]
              refine wpAnyH_take (i := 2) (oi := ⟨_, _, _, _, _, _⟩) (v := .bool true) rfl (by kernel_rfl) (by kernel_rfl) (by kernel_rfl) (fun _ _ _ h => h) (yl_move (by rfl) _ rfl _ rfl) (by assumption) ?_
              simp only [Act.put, List.setIfInBounds_toArray, List.set_cons_zero, List.set_cons_succ]
              refine wpAnyH_take (i := 3) (oi := ⟨_, _, _, _, _, _⟩) (v := bxVal c0 c1 c2 c3) rfl (by kernel_rfl) (by kernel_rfl) (by kernel_rfl) (fun _ _ _ h => h) (yl_box (by rfl) _ rfl _ 0 rfl _ _ _ _ _ _ _ _ _ _ _ _ _ _ _ _ (fun _ h => BxIn.cells h.1)) (by assumption) ?_
              simp only [Act.put, List.setIfInBounds_toArray, List.set_cons_zero, List.set_cons_succ]
              refine wpAnyH_take (i := 4) (oi := ⟨_, _, _, _, _, _⟩) (v := evVal e) rfl (by kernel_rfl) (by kernel_rfl) (by kernel_rfl) (fun _ _ _ h => h) (yl_ev (by rfl) _ rfl _ 0 rfl _ _ _ _ _ _ _ _ _ _ _ _ (fun _ h => EvIn.cells h.2.1)) (by assumption) ?_
              simp only [Act.put, List.setIfInBounds_toArray, List.set_cons_zero, List.set_cons_succ]
              refine wpAnyH_take (i := 6) (oi := ⟨_, _, _, _, _, _⟩) (v := bxVal a0 a1 a2 a3) rfl (by kernel_rfl) (by kernel_rfl) (by kernel_rfl) (fun _ _ _ h => h) (yl_box (by rfl) _ rfl _ 0 rfl _ _ _ _ _ _ _ _ _ _ _ _ _ _ _ _ (fun _ h => BxIn.cells h.2.2.1)) (by assumption) ?_
              simp only [Act.put, List.setIfInBounds_toArray, List.set_cons_zero, List.set_cons_succ]
              refine wpAnyH_take (i := 7) (oi := ⟨_, _, _, _, _, _⟩) (v := evVal e) rfl (by kernel_rfl) (by kernel_rfl) (by kernel_rfl) (fun _ _ _ h => h) (yl_ev (by rfl) _ rfl _ 0 rfl _ _ _ _ _ _ _ _ _ _ _ _ (fun _ h => EvIn.cells h.2.1)) (by assumption) ?_
              simp only [Act.put, List.setIfInBounds_toArray, List.set_cons_zero, List.set_cons_succ]
              refine held_call (o := ⟨_, _, _, _, _, _⟩) 5 (by kernel_rfl) rfl (by rfl) 11 _ _ rfl #[bxVal c0 c1 c2 c3, evVal e] rfl (run_call Try.func11 (by kernel_rfl) (by kernel_rfl)) ?_
              refine (refHasBx_any _ _ e _ HC hf).mono ?_
              rintro r v15 ⟨rfl, kb⟩
              replace D := D.trans (kb.mono D.size)
              replace HA := HA.on kb
              replace HS := HS.on kb
              replace IA := IA.on kb
              replace IS := IS.on kb
              replace IE := IE.on kb
              replace HB := HB.on kb
              replace IB := IB.on kb
              replace HC := HC.on kb
              replace IC := IC.on kb
              clear kb
              clear hHeld
              refine ⟨.bool true, ret_bool hj, ⟨IC, IE, IA, IB⟩, fun hHeld => ?_⟩
              simp only [Act.put, List.setIfInBounds_toArray, List.set_cons_zero, List.set_cons_succ]
              refine held_call (o := ⟨_, _, _, _, _, _⟩) 8 (by kernel_rfl) rfl (by rfl) 11 _ _ rfl #[bxVal a0 a1 a2 a3, evVal e] rfl (run_call Try.func11 (by kernel_rfl) (by kernel_rfl)) ?_
              refine (refHasBx_any _ _ e _ HA hf).mono ?_
              rintro r v16 ⟨rfl, kb⟩
              replace D := D.trans (kb.mono D.size)
              replace HA := HA.on kb
              replace HS := HS.on kb
              replace IA := IA.on kb
              replace IS := IS.on kb
              replace IE := IE.on kb
              replace HB := HB.on kb
              replace IB := IB.on kb
              replace HC := HC.on kb
              replace IC := IC.on kb
              clear kb
              clear hHeld
              refine ⟨.bool true, ret_bool ha, ⟨IC, IE, IA, IB⟩, fun hHeld => ?_⟩
              simp only [Act.put, List.setIfInBounds_toArray, List.set_cons_zero, List.set_cons_succ]
              refine wpAnyH_take (i := 9) (oi := ⟨_, _, _, _, _, _⟩) (v := .bool true) rfl (by kernel_rfl) (by kernel_rfl) (by kernel_rfl) (fun _ _ _ h => h) (yl_move (by rfl) _ rfl _ rfl) (by assumption) ?_
              simp only [Act.put, List.setIfInBounds_toArray, List.set_cons_zero, List.set_cons_succ]
              refine wpAnyH_take (i := 10) (oi := ⟨_, _, _, _, _, _⟩) (v := undef) rfl (by kernel_rfl) (by kernel_rfl) (by kernel_rfl) (fun _ _ _ h => h) (yl_undef (by rfl)) (by assumption) ?_
              simp only [Act.put, List.setIfInBounds_toArray, List.set_cons_zero, List.set_cons_succ]
              refine wpAnyH_take (i := 11) (oi := ⟨_, _, _, _, _, _⟩) (v := undef) rfl (by kernel_rfl) (by kernel_rfl) (by kernel_rfl) (fun _ _ _ h => h) (yl_undef (by rfl)) (by assumption) ?_
              simp only [Act.put, List.setIfInBounds_toArray, List.set_cons_zero, List.set_cons_succ]
              refine wpAnyH_take (i := 12) (oi := ⟨_, _, _, _, _, _⟩) (v := undef) rfl (by kernel_rfl) (by kernel_rfl) (by kernel_rfl) (fun _ _ _ h => h) (yl_undef (by rfl)) (by assumption) ?_
              simp only [Act.put, List.setIfInBounds_toArray, List.set_cons_zero, List.set_cons_succ]
              refine wpAnyH_take (i := 13) (oi := ⟨_, _, _, _, _, _⟩) (v := .bool true) rfl (by kernel_rfl) (by kernel_rfl) (by kernel_rfl) (fun _ _ _ h => h) (yl_pickT (by rfl) _ _ _ rfl rfl _ rfl) (by assumption) ?_
              simp only [Act.put, List.setIfInBounds_toArray, List.set_cons_zero, List.set_cons_succ]
              refine wpAnyH_take (i := 14) (oi := ⟨_, _, _, _, _, _⟩) (v := .bool true) rfl (by kernel_rfl) (by kernel_rfl) (by kernel_rfl) (fun _ _ _ h => h) (yl_eqB (by rfl) _ _ _ rfl true true rfl rfl) (by assumption) ?_
              simp only [Act.put, List.setIfInBounds_toArray, List.set_cons_zero, List.set_cons_succ]
              refine wpAnyH_take (i := 15) (oi := ⟨_, _, _, _, _, _⟩) (v := .bool true) rfl (by kernel_rfl) (by kernel_rfl) (by kernel_rfl) (fun _ _ _ h => h) (yl_pickT (by rfl) _ _ _ rfl rfl _ rfl) (by assumption) ?_
              simp only [Act.put, List.setIfInBounds_toArray, List.set_cons_zero, List.set_cons_succ]
              refine wpAnyH_take (i := 16) (oi := ⟨_, _, _, _, _, _⟩) (v := .bool true) rfl (by kernel_rfl) (by kernel_rfl) (by kernel_rfl) (fun _ _ _ h => h) (yl_move (by rfl) _ rfl _ rfl) (by assumption) ?_
              simp only [Act.put, List.setIfInBounds_toArray, List.set_cons_zero, List.set_cons_succ]
              refine wpAnyH_take (i := 17) (oi := ⟨_, _, _, _, _, _⟩) (v := bxVal a0 a1 a2 a3) rfl (by kernel_rfl) (by kernel_rfl) (by kernel_rfl) (fun _ _ _ h => h) (yl_box (by rfl) _ rfl _ 0 rfl _ _ _ _ _ _ _ _ _ _ _ _ _ _ _ _ (fun _ h => BxIn.cells h.2.2.1)) (by assumption) ?_
              simp only [Act.put, List.setIfInBounds_toArray, List.set_cons_zero, List.set_cons_succ]
              refine wpAnyH_take (i := 18) (oi := ⟨_, _, _, _, _, _⟩) (v := bxVal c0 c1 c2 c3) rfl (by kernel_rfl) (by kernel_rfl) (by kernel_rfl) (fun _ _ _ h => h) (yl_box (by rfl) _ rfl _ 0 rfl _ _ _ _ _ _ _ _ _ _ _ _ _ _ _ _ (fun _ h => BxIn.cells h.1)) (by assumption) ?_
              simp only [Act.put, List.setIfInBounds_toArray, List.set_cons_zero, List.set_cons_succ]
              refine held_call (o := ⟨_, _, _, _, _, _⟩) 19 (by kernel_rfl) rfl (by rfl) 12 _ _ rfl #[bxVal a0 a1 a2 a3, bxVal c0 c1 c2 c3] rfl (run_call Try.func12 (by kernel_rfl) (by kernel_rfl)) ?_
              refine (P.in_ _ _ a _ _ HA HC FA.fit FC).mono ?_
              rintro r v17 ⟨rfl, kb⟩
              replace D := D.trans (kb.mono D.size)
              replace HA := HA.on kb
              replace HS := HS.on kb
              replace IA := IA.on kb
              replace IS := IS.on kb
              replace IE := IE.on kb
              replace HB := HB.on kb
              replace IB := IB.on kb
              replace HC := HC.on kb
              replace IC := IC.on kb
              clear kb
              clear hHeld
              refine ⟨.bool true, ret_bool hin.1, ⟨IC, IE, IA, IB⟩, fun hHeld => ?_⟩
              simp only [Act.put, List.setIfInBounds_toArray, List.set_cons_zero, List.set_cons_succ]
              refine wpAnyH_take (i := 20) (oi := ⟨_, _, _, _, _, _⟩) (v := .bool true) rfl (by kernel_rfl) (by kernel_rfl) (by kernel_rfl) (fun _ _ _ h => h) (yl_pickT (by rfl) _ _ _ rfl rfl _ rfl) (by assumption) ?_
              simp only [Act.put, List.setIfInBounds_toArray, List.set_cons_zero, List.set_cons_succ]
              refine wpAnyH_take (i := 21) (oi := ⟨_, _, _, _, _, _⟩) (v := .bool true) rfl (by kernel_rfl) (by kernel_rfl) (by kernel_rfl) (fun _ _ _ h => h) (yl_move (by rfl) _ rfl _ rfl) (by assumption) ?_
              simp only [Act.put, List.setIfInBounds_toArray, List.set_cons_zero, List.set_cons_succ]
              refine wpAnyH_take (i := 22) (oi := ⟨_, _, _, _, _, _⟩) (v := bxVal b0 b1 b2 b3) rfl (by kernel_rfl) (by kernel_rfl) (by kernel_rfl) (fun _ _ _ h => h) (yl_box (by rfl) _ rfl _ 0 rfl _ _ _ _ _ _ _ _ _ _ _ _ _ _ _ _ (fun _ h => BxIn.cells h.2.2.2)) (by assumption) ?_
              simp only [Act.put, List.setIfInBounds_toArray, List.set_cons_zero, List.set_cons_succ]
              refine wpAnyH_take (i := 23) (oi := ⟨_, _, _, _, _, _⟩) (v := bxVal c0 c1 c2 c3) rfl (by kernel_rfl) (by kernel_rfl) (by kernel_rfl) (fun _ _ _ h => h) (yl_box (by rfl) _ rfl _ 0 rfl _ _ _ _ _ _ _ _ _ _ _ _ _ _ _ _ (fun _ h => BxIn.cells h.1)) (by assumption) ?_
              simp only [Act.put, List.setIfInBounds_toArray, List.set_cons_zero, List.set_cons_succ]
              refine held_call (o := ⟨_, _, _, _, _, _⟩) 24 (by kernel_rfl) rfl (by rfl) 12 _ _ rfl #[bxVal b0 b1 b2 b3, bxVal c0 c1 c2 c3] rfl (run_call Try.func12 (by kernel_rfl) (by kernel_rfl)) ?_
              refine (P.in_ _ _ _ _ _ HB HC FB.fit FC).mono ?_
              rintro r v18 ⟨rfl, kb⟩
              replace D := D.trans (kb.mono D.size)
              replace HA := HA.on kb
              replace HS := HS.on kb
              replace IA := IA.on kb
              replace IS := IS.on kb
              replace IE := IE.on kb
              replace HB := HB.on kb
              replace IB := IB.on kb
              replace HC := HC.on kb
              replace IC := IC.on kb
              clear kb
              clear hHeld
              refine ⟨.bool true, ret_bool hin.2, ⟨IC, IE, IA, IB⟩, fun hHeld => ?_⟩
              simp only [Act.put, List.setIfInBounds_toArray, List.set_cons_zero, List.set_cons_succ]
              refine wpAnyH_take (i := 25) (oi := ⟨_, _, _, _, _, _⟩) (v := .bool true) rfl (by kernel_rfl) (by kernel_rfl) (by kernel_rfl) (fun _ _ _ h => h) (yl_pickT (by rfl) _ _ _ rfl rfl _ rfl) (by assumption) ?_
              simp only [Act.put, List.setIfInBounds_toArray, List.set_cons_zero, List.set_cons_succ]
              refine wpAnyH_take (i := 26) (oi := ⟨_, _, _, _, _, _⟩) (v := .bool true) rfl (by kernel_rfl) (by kernel_rfl) (by kernel_rfl) (fun _ _ _ h => h) (yl_assign (by rfl) _ rfl _ rfl) (by assumption) ?_
              simp only [Act.put, List.setIfInBounds_toArray, List.set_cons_zero, List.set_cons_succ]
              refine wpAnyH_done (by kernel_rfl) ?_ _
              clear hHeld
              refine hK8 _ _ ?_
              clear hK8 K8
              refine wp_ret ?_
              go_ret
              exact ⟨rfl, D⟩
            · replace hj : hasE (a.put 2 (orV a.s2 s)) e = true := by rw [hj, ha, hb]; rfl
              refine wp_region_held_drew (S := fun w' => BxIn w' gC c0 c1 c2 c3 ∧ EvIn w' gb3 e ∧ BxIn w' gb1 a0 a1 a2 a3 ∧ BxIn w' gb12 b0 b1 b2 b3) (by kernel_rfl) ⟨IC, IE, IA, IB⟩ (fun hHeld => ?_)
              have kb : Below v13.heap.size v13 v13.drew := (Below.refl _ v13).drew
              replace D := D.trans (kb.mono D.size)
              replace HA := HA.on kb
              replace HS := HS.on kb
              replace IA := IA.on kb
              replace IS := IS.on kb
              replace IE := IE.on kb
              replace HB := HB.on kb
              replace IB := IB.on kb
              replace HC := HC.on kb
              replace IC := IC.on kb
              clear kb
              generalize v13.drew = v14 at D hHeld HA HS IA IS IE HB IB HC IC ⊢
              refine wpAnyH_take (i := 0) (oi := ⟨_, _, _, _, _, _⟩) (v := .int .i64 ((differBx a (a.put 2 s)).1)) rfl (by kernel_rfl) (by kernel_rfl) (by kernel_rfl) (fun _ _ _ h => h) (yl_move (by rfl) _ rfl _ rfl) (by assumption) ?_
              simp only [Act.put, List.setIfInBounds_toArray, List.set_cons_zero, List.set_cons_succ]
              refine wpAnyH_take (i := 1) (oi := ⟨_, _, _, _, _, _⟩) (v := .bool true) rfl (by kernel_rfl) (by kernel_rfl) (by kernel_rfl) (fun _ _ _ h => h) (yl_leqI (by rfl) _ _ _ rfl ((differBx a (a.put 2 s)).1) (1) true rfl rfl (by simpa using differ_put a 2 (by omega) s)) (by assumption) ?_
              simp only [Act.put, List.setIfInBounds_toArray, List.set_cons_zero, List.set_cons_succ]
              refine wpAnyH_take (i := 2) (oi := ⟨_, _, _, _, _, _⟩) (v := .bool true) rfl (by kernel_rfl) (by kernel_rfl) (by kernel_rfl) (fun _ _ _ h => h) (yl_move (by rfl) _ rfl _ rfl) (by assumption) ?_
              simp only [Act.put, List.setIfInBounds_toArray, List.set_cons_zero, List.set_cons_succ]
              refine wpAnyH_take (i := 3) (oi := ⟨_, _, _, _, _, _⟩) (v := bxVal c0 c1 c2 c3) rfl (by kernel_rfl) (by kernel_rfl) (by kernel_rfl) (fun _ _ _ h => h) (yl_box (by rfl) _ rfl _ 0 rfl _ _ _ _ _ _ _ _ _ _ _ _ _ _ _ _ (fun _ h => BxIn.cells h.1)) (by assumption) ?_
              simp only [Act.put, List.setIfInBounds_toArray, List.set_cons_zero, List.set_cons_succ]
              refine wpAnyH_take (i := 4) (oi := ⟨_, _, _, _, _, _⟩) (v := evVal e) rfl (by kernel_rfl) (by kernel_rfl) (by kernel_rfl) (fun _ _ _ h => h) (yl_ev (by rfl) _ rfl _ 0 rfl _ _ _ _ _ _ _ _ _ _ _ _ (fun _ h => EvIn.cells h.2.1)) (by assumption) ?_
              simp only [Act.put, List.setIfInBounds_toArray, List.set_cons_zero, List.set_cons_succ]
              refine wpAnyH_take (i := 6) (oi := ⟨_, _, _, _, _, _⟩) (v := bxVal a0 a1 a2 a3) rfl (by kernel_rfl) (by kernel_rfl) (by kernel_rfl) (fun _ _ _ h => h) (yl_box (by rfl) _ rfl _ 0 rfl _ _ _ _ _ _ _ _ _ _ _ _ _ _ _ _ (fun _ h => BxIn.cells h.2.2.1)) (by assumption) ?_
              simp only [Act.put, List.setIfInBounds_toArray, List.set_cons_zero, List.set_cons_succ]
              refine wpAnyH_take (i := 7) (oi := ⟨_, _, _, _, _, _⟩) (v := evVal e) rfl (by kernel_rfl) (by kernel_rfl) (by kernel_rfl) (fun _ _ _ h => h) (yl_ev (by rfl) _ rfl _ 0 rfl _ _ _ _ _ _ _ _ _ _ _ _ (fun _ h => EvIn.cells h.2.1)) (by assumption) ?_
              simp only [Act.put, List.setIfInBounds_toArray, List.set_cons_zero, List.set_cons_succ]
              refine held_call (o := ⟨_, _, _, _, _, _⟩) 5 (by kernel_rfl) rfl (by rfl) 11 _ _ rfl #[bxVal c0 c1 c2 c3, evVal e] rfl (run_call Try.func11 (by kernel_rfl) (by kernel_rfl)) ?_
              refine (refHasBx_any _ _ e _ HC hf).mono ?_
              rintro r v15 ⟨rfl, kb⟩
              replace D := D.trans (kb.mono D.size)
              replace HA := HA.on kb
              replace HS := HS.on kb
              replace IA := IA.on kb
              replace IS := IS.on kb
              replace IE := IE.on kb
              replace HB := HB.on kb
              replace IB := IB.on kb
              replace HC := HC.on kb
              replace IC := IC.on kb
              clear kb
              clear hHeld
              refine ⟨.bool true, ret_bool hj, ⟨IC, IE, IA, IB⟩, fun hHeld => ?_⟩
              simp only [Act.put, List.setIfInBounds_toArray, List.set_cons_zero, List.set_cons_succ]
              refine held_call (o := ⟨_, _, _, _, _, _⟩) 8 (by kernel_rfl) rfl (by rfl) 11 _ _ rfl #[bxVal a0 a1 a2 a3, evVal e] rfl (run_call Try.func11 (by kernel_rfl) (by kernel_rfl)) ?_
              refine (refHasBx_any _ _ e _ HA hf).mono ?_
              rintro r v16 ⟨rfl, kb⟩
              replace D := D.trans (kb.mono D.size)
              replace HA := HA.on kb
              replace HS := HS.on kb
              replace IA := IA.on kb
              replace IS := IS.on kb
              replace IE := IE.on kb
              replace HB := HB.on kb
              replace IB := IB.on kb
              replace HC := HC.on kb
              replace IC := IC.on kb
              clear kb
              clear hHeld
              refine ⟨.bool false, ret_bool ha, ⟨IC, IE, IA, IB⟩, fun hHeld => ?_⟩
              simp only [Act.put, List.setIfInBounds_toArray, List.set_cons_zero, List.set_cons_succ]
              refine wpAnyH_take (i := 9) (oi := ⟨_, _, _, _, _, _⟩) (v := .bool false) rfl (by kernel_rfl) (by kernel_rfl) (by kernel_rfl) (fun _ _ _ h => h) (yl_move (by rfl) _ rfl _ rfl) (by assumption) ?_
              simp only [Act.put, List.setIfInBounds_toArray, List.set_cons_zero, List.set_cons_succ]
              refine wpAnyH_take (i := 10) (oi := ⟨_, _, _, _, _, _⟩) (v := bxVal b0 b1 b2 b3) rfl (by kernel_rfl) (by kernel_rfl) (by kernel_rfl) (fun _ _ _ h => h) (yl_box (by rfl) _ rfl _ 0 rfl _ _ _ _ _ _ _ _ _ _ _ _ _ _ _ _ (fun _ h => BxIn.cells h.2.2.2)) (by assumption) ?_
              simp only [Act.put, List.setIfInBounds_toArray, List.set_cons_zero, List.set_cons_succ]
              refine wpAnyH_take (i := 11) (oi := ⟨_, _, _, _, _, _⟩) (v := evVal e) rfl (by kernel_rfl) (by kernel_rfl) (by kernel_rfl) (fun _ _ _ h => h) (yl_ev (by rfl) _ rfl _ 0 rfl _ _ _ _ _ _ _ _ _ _ _ _ (fun _ h => EvIn.cells h.2.1)) (by assumption) ?_
              simp only [Act.put, List.setIfInBounds_toArray, List.set_cons_zero, List.set_cons_succ]
              refine held_call (o := ⟨_, _, _, _, _, _⟩) 12 (by kernel_rfl) rfl (by rfl) 11 _ _ rfl #[bxVal b0 b1 b2 b3, evVal e] rfl (run_call Try.func11 (by kernel_rfl) (by kernel_rfl)) ?_
              refine (refHasBx_any _ _ e _ HB hf).mono ?_
              rintro r v17 ⟨rfl, kb⟩
              replace D := D.trans (kb.mono D.size)
              replace HA := HA.on kb
              replace HS := HS.on kb
              replace IA := IA.on kb
              replace IS := IS.on kb
              replace IE := IE.on kb
              replace HB := HB.on kb
              replace IB := IB.on kb
              replace HC := HC.on kb
              replace IC := IC.on kb
              clear kb
              clear hHeld
              refine ⟨.bool true, ret_bool hb, ⟨IC, IE, IA, IB⟩, fun hHeld => ?_⟩
              simp only [Act.put, List.setIfInBounds_toArray, List.set_cons_zero, List.set_cons_succ]
              refine wpAnyH_take (i := 13) (oi := ⟨_, _, _, _, _, _⟩) (v := .bool true) rfl (by kernel_rfl) (by kernel_rfl) (by kernel_rfl) (fun _ _ _ h => h) (yl_pickF (by rfl) _ _ _ rfl rfl _ rfl) (by assumption) ?_
              simp only [Act.put, List.setIfInBounds_toArray, List.set_cons_zero, List.set_cons_succ]
              refine wpAnyH_take (i := 14) (oi := ⟨_, _, _, _, _, _⟩) (v := .bool true) rfl (by kernel_rfl) (by kernel_rfl) (by kernel_rfl) (fun _ _ _ h => h) (yl_eqB (by rfl) _ _ _ rfl true true rfl rfl) (by assumption) ?_
              simp only [Act.put, List.setIfInBounds_toArray, List.set_cons_zero, List.set_cons_succ]
              refine wpAnyH_take (i := 15) (oi := ⟨_, _, _, _, _, _⟩) (v := .bool true) rfl (by kernel_rfl) (by kernel_rfl) (by kernel_rfl) (fun _ _ _ h => h) (yl_pickT (by rfl) _ _ _ rfl rfl _ rfl) (by assumption) ?_
              simp only [Act.put, List.setIfInBounds_toArray, List.set_cons_zero, List.set_cons_succ]
              refine wpAnyH_take (i := 16) (oi := ⟨_, _, _, _, _, _⟩) (v := .bool true) rfl (by kernel_rfl) (by kernel_rfl) (by kernel_rfl) (fun _ _ _ h => h) (yl_move (by rfl) _ rfl _ rfl) (by assumption) ?_
              simp only [Act.put, List.setIfInBounds_toArray, List.set_cons_zero, List.set_cons_succ]
              refine wpAnyH_take (i := 17) (oi := ⟨_, _, _, _, _, _⟩) (v := bxVal a0 a1 a2 a3) rfl (by kernel_rfl) (by kernel_rfl) (by kernel_rfl) (fun _ _ _ h => h) (yl_box (by rfl) _ rfl _ 0 rfl _ _ _ _ _ _ _ _ _ _ _ _ _ _ _ _ (fun _ h => BxIn.cells h.2.2.1)) (by assumption) ?_
              simp only [Act.put, List.setIfInBounds_toArray, List.set_cons_zero, List.set_cons_succ]
              refine wpAnyH_take (i := 18) (oi := ⟨_, _, _, _, _, _⟩) (v := bxVal c0 c1 c2 c3) rfl (by kernel_rfl) (by kernel_rfl) (by kernel_rfl) (fun _ _ _ h => h) (yl_box (by rfl) _ rfl _ 0 rfl _ _ _ _ _ _ _ _ _ _ _ _ _ _ _ _ (fun _ h => BxIn.cells h.1)) (by assumption) ?_
              simp only [Act.put, List.setIfInBounds_toArray, List.set_cons_zero, List.set_cons_succ]
              refine held_call (o := ⟨_, _, _, _, _, _⟩) 19 (by kernel_rfl) rfl (by rfl) 12 _ _ rfl #[bxVal a0 a1 a2 a3, bxVal c0 c1 c2 c3] rfl (run_call Try.func12 (by kernel_rfl) (by kernel_rfl)) ?_
              refine (P.in_ _ _ a _ _ HA HC FA.fit FC).mono ?_
              rintro r v18 ⟨rfl, kb⟩
              replace D := D.trans (kb.mono D.size)
              replace HA := HA.on kb
              replace HS := HS.on kb
              replace IA := IA.on kb
              replace IS := IS.on kb
              replace IE := IE.on kb
              replace HB := HB.on kb
              replace IB := IB.on kb
              replace HC := HC.on kb
              replace IC := IC.on kb
              clear kb
              clear hHeld
              refine ⟨.bool true, ret_bool hin.1, ⟨IC, IE, IA, IB⟩, fun hHeld => ?_⟩
              simp only [Act.put, List.setIfInBounds_toArray, List.set_cons_zero, List.set_cons_succ]
              refine wpAnyH_take (i := 20) (oi := ⟨_, _, _, _, _, _⟩) (v := .bool true) rfl (by kernel_rfl) (by kernel_rfl) (by kernel_rfl) (fun _ _ _ h => h) (yl_pickT (by rfl) _ _ _ rfl rfl _ rfl) (by assumption) ?_
              simp only [Act.put, List.setIfInBounds_toArray, List.set_cons_zero, List.set_cons_succ]
              refine wpAnyH_take (i := 21) (oi := ⟨_, _, _, _, _, _⟩) (v := .bool true) rfl (by kernel_rfl) (by kernel_rfl) (by kernel_rfl) (fun _ _ _ h => h) (yl_move (by rfl) _ rfl _ rfl) (by assumption) ?_
              simp only [Act.put, List.setIfInBounds_toArray, List.set_cons_zero, List.set_cons_succ]
              refine wpAnyH_take (i := 22) (oi := ⟨_, _, _, _, _, _⟩) (v := bxVal b0 b1 b2 b3) rfl (by kernel_rfl) (by kernel_rfl) (by kernel_rfl) (fun _ _ _ h => h) (yl_box (by rfl) _ rfl _ 0 rfl _ _ _ _ _ _ _ _ _ _ _ _ _ _ _ _ (fun _ h => BxIn.cells h.2.2.2)) (by assumption) ?_
              simp only [Act.put, List.setIfInBounds_toArray, List.set_cons_zero, List.set_cons_succ]
              refine wpAnyH_take (i := 23) (oi := ⟨_, _, _, _, _, _⟩) (v := bxVal c0 c1 c2 c3) rfl (by kernel_rfl) (by kernel_rfl) (by kernel_rfl) (fun _ _ _ h => h) (yl_box (by rfl) _ rfl _ 0 rfl _ _ _ _ _ _ _ _ _ _ _ _ _ _ _ _ (fun _ h => BxIn.cells h.1)) (by assumption) ?_
              simp only [Act.put, List.setIfInBounds_toArray, List.set_cons_zero, List.set_cons_succ]
              refine held_call (o := ⟨_, _, _, _, _, _⟩) 24 (by kernel_rfl) rfl (by rfl) 12 _ _ rfl #[bxVal b0 b1 b2 b3, bxVal c0 c1 c2 c3] rfl (run_call Try.func12 (by kernel_rfl) (by kernel_rfl)) ?_
              refine (P.in_ _ _ _ _ _ HB HC FB.fit FC).mono ?_
              rintro r v19 ⟨rfl, kb⟩
              replace D := D.trans (kb.mono D.size)
              replace HA := HA.on kb
              replace HS := HS.on kb
              replace IA := IA.on kb
              replace IS := IS.on kb
              replace IE := IE.on kb
              replace HB := HB.on kb
              replace IB := IB.on kb
              replace HC := HC.on kb
              replace IC := IC.on kb
              clear kb
              clear hHeld
              refine ⟨.bool true, ret_bool hin.2, ⟨IC, IE, IA, IB⟩, fun hHeld => ?_⟩
              simp only [Act.put, List.setIfInBounds_toArray, List.set_cons_zero, List.set_cons_succ]
              refine wpAnyH_take (i := 25) (oi := ⟨_, _, _, _, _, _⟩) (v := .bool true) rfl (by kernel_rfl) (by kernel_rfl) (by kernel_rfl) (fun _ _ _ h => h) (yl_pickT (by rfl) _ _ _ rfl rfl _ rfl) (by assumption) ?_
              simp only [Act.put, List.setIfInBounds_toArray, List.set_cons_zero, List.set_cons_succ]
              refine wpAnyH_take (i := 26) (oi := ⟨_, _, _, _, _, _⟩) (v := .bool true) rfl (by kernel_rfl) (by kernel_rfl) (by kernel_rfl) (fun _ _ _ h => h) (yl_assign (by rfl) _ rfl _ rfl) (by assumption) ?_
              simp only [Act.put, List.setIfInBounds_toArray, List.set_cons_zero, List.set_cons_succ]
              refine wpAnyH_done (by kernel_rfl) ?_ _
              clear hHeld
              refine hK8 _ _ ?_
              clear hK8 K8
              refine wp_ret ?_
              go_ret
              exact ⟨rfl, D⟩
            · replace hj : hasE (a.put 2 (orV a.s2 s)) e = false := by rw [hj, ha, hb]; rfl
              refine wp_region_held_drew (S := fun w' => BxIn w' gC c0 c1 c2 c3 ∧ EvIn w' gb3 e ∧ BxIn w' gb1 a0 a1 a2 a3 ∧ BxIn w' gb12 b0 b1 b2 b3) (by kernel_rfl) ⟨IC, IE, IA, IB⟩ (fun hHeld => ?_)
              have kb : Below v13.heap.size v13 v13.drew := (Below.refl _ v13).drew
              replace D := D.trans (kb.mono D.size)
              replace HA := HA.on kb
              replace HS := HS.on kb
              replace IA := IA.on kb
              replace IS := IS.on kb
              replace IE := IE.on kb
              replace HB := HB.on kb
              replace IB := IB.on kb
              replace HC := HC.on kb
              replace IC := IC.on kb
              clear kb
              generalize v13.drew = v14 at D hHeld HA HS IA IS IE HB IB HC IC ⊢
              refine wpAnyH_take (i := 0) (oi := ⟨_, _, _, _, _, _⟩) (v := .int .i64 ((differBx a (a.put 2 s)).1)) rfl (by kernel_rfl) (by kernel_rfl) (by kernel_rfl) (fun _ _ _ h => h) (yl_move (by rfl) _ rfl _ rfl) (by assumption) ?_
              simp only [Act.put, List.setIfInBounds_toArray, List.set_cons_zero, List.set_cons_succ]
              refine wpAnyH_take (i := 1) (oi := ⟨_, _, _, _, _, _⟩) (v := .bool true) rfl (by kernel_rfl) (by kernel_rfl) (by kernel_rfl) (fun _ _ _ h => h) (yl_leqI (by rfl) _ _ _ rfl ((differBx a (a.put 2 s)).1) (1) true rfl rfl (by simpa using differ_put a 2 (by omega) s)) (by assumption) ?_
              simp only [Act.put, List.setIfInBounds_toArray, List.set_cons_zero, List.set_cons_succ]
              refine wpAnyH_take (i := 2) (oi := ⟨_, _, _, _, _, _⟩) (v := .bool true) rfl (by kernel_rfl) (by kernel_rfl) (by kernel_rfl) (fun _ _ _ h => h) (yl_move (by rfl) _ rfl _ rfl) (by assumption) ?_
              simp only [Act.put, List.setIfInBounds_toArray, List.set_cons_zero, List.set_cons_succ]
              refine wpAnyH_take (i := 3) (oi := ⟨_, _, _, _, _, _⟩) (v := bxVal c0 c1 c2 c3) rfl (by kernel_rfl) (by kernel_rfl) (by kernel_rfl) (fun _ _ _ h => h) (yl_box (by rfl) _ rfl _ 0 rfl _ _ _ _ _ _ _ _ _ _ _ _ _ _ _ _ (fun _ h => BxIn.cells h.1)) (by assumption) ?_
              simp only [Act.put, List.setIfInBounds_toArray, List.set_cons_zero, List.set_cons_succ]
              refine wpAnyH_take (i := 4) (oi := ⟨_, _, _, _, _, _⟩) (v := evVal e) rfl (by kernel_rfl) (by kernel_rfl) (by kernel_rfl) (fun _ _ _ h => h) (yl_ev (by rfl) _ rfl _ 0 rfl _ _ _ _ _ _ _ _ _ _ _ _ (fun _ h => EvIn.cells h.2.1)) (by assumption) ?_
              simp only [Act.put, List.setIfInBounds_toArray, List.set_cons_zero, List.set_cons_succ]
              refine wpAnyH_take (i := 6) (oi := ⟨_, _, _, _, _, _⟩) (v := bxVal a0 a1 a2 a3) rfl (by kernel_rfl) (by kernel_rfl) (by kernel_rfl) (fun _ _ _ h => h) (yl_box (by rfl) _ rfl _ 0 rfl _ _ _ _ _ _ _ _ _ _ _ _ _ _ _ _ (fun _ h => BxIn.cells h.2.2.1)) (by assumption) ?_
              simp only [Act.put, List.setIfInBounds_toArray, List.set_cons_zero, List.set_cons_succ]
              refine wpAnyH_take (i := 7) (oi := ⟨_, _, _, _, _, _⟩) (v := evVal e) rfl (by kernel_rfl) (by kernel_rfl) (by kernel_rfl) (fun _ _ _ h => h) (yl_ev (by rfl) _ rfl _ 0 rfl _ _ _ _ _ _ _ _ _ _ _ _ (fun _ h => EvIn.cells h.2.1)) (by assumption) ?_
              simp only [Act.put, List.setIfInBounds_toArray, List.set_cons_zero, List.set_cons_succ]
              refine held_call (o := ⟨_, _, _, _, _, _⟩) 5 (by kernel_rfl) rfl (by rfl) 11 _ _ rfl #[bxVal c0 c1 c2 c3, evVal e] rfl (run_call Try.func11 (by kernel_rfl) (by kernel_rfl)) ?_
              refine (refHasBx_any _ _ e _ HC hf).mono ?_
              rintro r v15 ⟨rfl, kb⟩
              replace D := D.trans (kb.mono D.size)
              replace HA := HA.on kb
              replace HS := HS.on kb
              replace IA := IA.on kb
              replace IS := IS.on kb
              replace IE := IE.on kb
              replace HB := HB.on kb
              replace IB := IB.on kb
              replace HC := HC.on kb
              replace IC := IC.on kb
              clear kb
              clear hHeld
              refine ⟨.bool false, ret_bool hj, ⟨IC, IE, IA, IB⟩, fun hHeld => ?_⟩
              simp only [Act.put, List.setIfInBounds_toArray, List.set_cons_zero, List.set_cons_succ]
              refine held_call (o := ⟨_, _, _, _, _, _⟩) 8 (by kernel_rfl) rfl (by rfl) 11 _ _ rfl #[bxVal a0 a1 a2 a3, evVal e] rfl (run_call Try.func11 (by kernel_rfl) (by kernel_rfl)) ?_
              refine (refHasBx_any _ _ e _ HA hf).mono ?_
              rintro r v16 ⟨rfl, kb⟩
              replace D := D.trans (kb.mono D.size)
              replace HA := HA.on kb
              replace HS := HS.on kb
              replace IA := IA.on kb
              replace IS := IS.on kb
              replace IE := IE.on kb
              replace HB := HB.on kb
              replace IB := IB.on kb
              replace HC := HC.on kb
              replace IC := IC.on kb
              clear kb
              clear hHeld
              refine ⟨.bool false, ret_bool ha, ⟨IC, IE, IA, IB⟩, fun hHeld => ?_⟩
              simp only [Act.put, List.setIfInBounds_toArray, List.set_cons_zero, List.set_cons_succ]
              refine wpAnyH_take (i := 9) (oi := ⟨_, _, _, _, _, _⟩) (v := .bool false) rfl (by kernel_rfl) (by kernel_rfl) (by kernel_rfl) (fun _ _ _ h => h) (yl_move (by rfl) _ rfl _ rfl) (by assumption) ?_
              simp only [Act.put, List.setIfInBounds_toArray, List.set_cons_zero, List.set_cons_succ]
              refine wpAnyH_take (i := 10) (oi := ⟨_, _, _, _, _, _⟩) (v := bxVal b0 b1 b2 b3) rfl (by kernel_rfl) (by kernel_rfl) (by kernel_rfl) (fun _ _ _ h => h) (yl_box (by rfl) _ rfl _ 0 rfl _ _ _ _ _ _ _ _ _ _ _ _ _ _ _ _ (fun _ h => BxIn.cells h.2.2.2)) (by assumption) ?_
              simp only [Act.put, List.setIfInBounds_toArray, List.set_cons_zero, List.set_cons_succ]
              refine wpAnyH_take (i := 11) (oi := ⟨_, _, _, _, _, _⟩) (v := evVal e) rfl (by kernel_rfl) (by kernel_rfl) (by kernel_rfl) (fun _ _ _ h => h) (yl_ev (by rfl) _ rfl _ 0 rfl _ _ _ _ _ _ _ _ _ _ _ _ (fun _ h => EvIn.cells h.2.1)) (by assumption) ?_
              simp only [Act.put, List.setIfInBounds_toArray, List.set_cons_zero, List.set_cons_succ]
              refine held_call (o := ⟨_, _, _, _, _, _⟩) 12 (by kernel_rfl) rfl (by rfl) 11 _ _ rfl #[bxVal b0 b1 b2 b3, evVal e] rfl (run_call Try.func11 (by kernel_rfl) (by kernel_rfl)) ?_
              refine (refHasBx_any _ _ e _ HB hf).mono ?_
              rintro r v17 ⟨rfl, kb⟩
              replace D := D.trans (kb.mono D.size)
              replace HA := HA.on kb
              replace HS := HS.on kb
              replace IA := IA.on kb
              replace IS := IS.on kb
              replace IE := IE.on kb
              replace HB := HB.on kb
              replace IB := IB.on kb
              replace HC := HC.on kb
              replace IC := IC.on kb
              clear kb
              clear hHeld
              refine ⟨.bool false, ret_bool hb, ⟨IC, IE, IA, IB⟩, fun hHeld => ?_⟩
              simp only [Act.put, List.setIfInBounds_toArray, List.set_cons_zero, List.set_cons_succ]
              refine wpAnyH_take (i := 13) (oi := ⟨_, _, _, _, _, _⟩) (v := .bool false) rfl (by kernel_rfl) (by kernel_rfl) (by kernel_rfl) (fun _ _ _ h => h) (yl_pickF (by rfl) _ _ _ rfl rfl _ rfl) (by assumption) ?_
              simp only [Act.put, List.setIfInBounds_toArray, List.set_cons_zero, List.set_cons_succ]
              refine wpAnyH_take (i := 14) (oi := ⟨_, _, _, _, _, _⟩) (v := .bool true) rfl (by kernel_rfl) (by kernel_rfl) (by kernel_rfl) (fun _ _ _ h => h) (yl_eqB (by rfl) _ _ _ rfl false false rfl rfl) (by assumption) ?_
              simp only [Act.put, List.setIfInBounds_toArray, List.set_cons_zero, List.set_cons_succ]
              refine wpAnyH_take (i := 15) (oi := ⟨_, _, _, _, _, _⟩) (v := .bool true) rfl (by kernel_rfl) (by kernel_rfl) (by kernel_rfl) (fun _ _ _ h => h) (yl_pickT (by rfl) _ _ _ rfl rfl _ rfl) (by assumption) ?_
              simp only [Act.put, List.setIfInBounds_toArray, List.set_cons_zero, List.set_cons_succ]
              refine wpAnyH_take (i := 16) (oi := ⟨_, _, _, _, _, _⟩) (v := .bool true) rfl (by kernel_rfl) (by kernel_rfl) (by kernel_rfl) (fun _ _ _ h => h) (yl_move (by rfl) _ rfl _ rfl) (by assumption) ?_
              simp only [Act.put, List.setIfInBounds_toArray, List.set_cons_zero, List.set_cons_succ]
              refine wpAnyH_take (i := 17) (oi := ⟨_, _, _, _, _, _⟩) (v := bxVal a0 a1 a2 a3) rfl (by kernel_rfl) (by kernel_rfl) (by kernel_rfl) (fun _ _ _ h => h) (yl_box (by rfl) _ rfl _ 0 rfl _ _ _ _ _ _ _ _ _ _ _ _ _ _ _ _ (fun _ h => BxIn.cells h.2.2.1)) (by assumption) ?_
              simp only [Act.put, List.setIfInBounds_toArray, List.set_cons_zero, List.set_cons_succ]
              refine wpAnyH_take (i := 18) (oi := ⟨_, _, _, _, _, _⟩) (v := bxVal c0 c1 c2 c3) rfl (by kernel_rfl) (by kernel_rfl) (by kernel_rfl) (fun _ _ _ h => h) (yl_box (by rfl) _ rfl _ 0 rfl _ _ _ _ _ _ _ _ _ _ _ _ _ _ _ _ (fun _ h => BxIn.cells h.1)) (by assumption) ?_
              simp only [Act.put, List.setIfInBounds_toArray, List.set_cons_zero, List.set_cons_succ]
              refine held_call (o := ⟨_, _, _, _, _, _⟩) 19 (by kernel_rfl) rfl (by rfl) 12 _ _ rfl #[bxVal a0 a1 a2 a3, bxVal c0 c1 c2 c3] rfl (run_call Try.func12 (by kernel_rfl) (by kernel_rfl)) ?_
              refine (P.in_ _ _ a _ _ HA HC FA.fit FC).mono ?_
              rintro r v18 ⟨rfl, kb⟩
              replace D := D.trans (kb.mono D.size)
              replace HA := HA.on kb
              replace HS := HS.on kb
              replace IA := IA.on kb
              replace IS := IS.on kb
              replace IE := IE.on kb
              replace HB := HB.on kb
              replace IB := IB.on kb
              replace HC := HC.on kb
              replace IC := IC.on kb
              clear kb
              clear hHeld
              refine ⟨.bool true, ret_bool hin.1, ⟨IC, IE, IA, IB⟩, fun hHeld => ?_⟩
              simp only [Act.put, List.setIfInBounds_toArray, List.set_cons_zero, List.set_cons_succ]
              refine wpAnyH_take (i := 20) (oi := ⟨_, _, _, _, _, _⟩) (v := .bool true) rfl (by kernel_rfl) (by kernel_rfl) (by kernel_rfl) (fun _ _ _ h => h) (yl_pickT (by rfl) _ _ _ rfl rfl _ rfl) (by assumption) ?_
              simp only [Act.put, List.setIfInBounds_toArray, List.set_cons_zero, List.set_cons_succ]
              refine wpAnyH_take (i := 21) (oi := ⟨_, _, _, _, _, _⟩) (v := .bool true) rfl (by kernel_rfl) (by kernel_rfl) (by kernel_rfl) (fun _ _ _ h => h) (yl_move (by rfl) _ rfl _ rfl) (by assumption) ?_
              simp only [Act.put, List.setIfInBounds_toArray, List.set_cons_zero, List.set_cons_succ]
              refine wpAnyH_take (i := 22) (oi := ⟨_, _, _, _, _, _⟩) (v := bxVal b0 b1 b2 b3) rfl (by kernel_rfl) (by kernel_rfl) (by kernel_rfl) (fun _ _ _ h => h) (yl_box (by rfl) _ rfl _ 0 rfl _ _ _ _ _ _ _ _ _ _ _ _ _ _ _ _ (fun _ h => BxIn.cells h.2.2.2)) (by assumption) ?_
              simp only [Act.put, List.setIfInBounds_toArray, List.set_cons_zero, List.set_cons_succ]
              refine wpAnyH_take (i := 23) (oi := ⟨_, _, _, _, _, _⟩) (v := bxVal c0 c1 c2 c3) rfl (by kernel_rfl) (by kernel_rfl) (by kernel_rfl) (fun _ _ _ h => h) (yl_box (by rfl) _ rfl _ 0 rfl _ _ _ _ _ _ _ _ _ _ _ _ _ _ _ _ (fun _ h => BxIn.cells h.1)) (by assumption) ?_
              simp only [Act.put, List.setIfInBounds_toArray, List.set_cons_zero, List.set_cons_succ]
              refine held_call (o := ⟨_, _, _, _, _, _⟩) 24 (by kernel_rfl) rfl (by rfl) 12 _ _ rfl #[bxVal b0 b1 b2 b3, bxVal c0 c1 c2 c3] rfl (run_call Try.func12 (by kernel_rfl) (by kernel_rfl)) ?_
              refine (P.in_ _ _ _ _ _ HB HC FB.fit FC).mono ?_
              rintro r v19 ⟨rfl, kb⟩
              replace D := D.trans (kb.mono D.size)
              replace HA := HA.on kb
              replace HS := HS.on kb
              replace IA := IA.on kb
              replace IS := IS.on kb
              replace IE := IE.on kb
              replace HB := HB.on kb
              replace IB := IB.on kb
              replace HC := HC.on kb
              replace IC := IC.on kb
              clear kb
              clear hHeld
              refine ⟨.bool true, ret_bool hin.2, ⟨IC, IE, IA, IB⟩, fun hHeld => ?_⟩
              simp only [Act.put, List.setIfInBounds_toArray, List.set_cons_zero, List.set_cons_succ]
              refine wpAnyH_take (i := 25) (oi := ⟨_, _, _, _, _, _⟩) (v := .bool true) rfl (by kernel_rfl) (by kernel_rfl) (by kernel_rfl) (fun _ _ _ h => h) (yl_pickT (by rfl) _ _ _ rfl rfl _ rfl) (by assumption) ?_
              simp only [Act.put, List.setIfInBounds_toArray, List.set_cons_zero, List.set_cons_succ]
              refine wpAnyH_take (i := 26) (oi := ⟨_, _, _, _, _, _⟩) (v := .bool true) rfl (by kernel_rfl) (by kernel_rfl) (by kernel_rfl) (fun _ _ _ h => h) (yl_assign (by rfl) _ rfl _ rfl) (by assumption) ?_
              simp only [Act.put, List.setIfInBounds_toArray, List.set_cons_zero, List.set_cons_succ]
              refine wpAnyH_done (by kernel_rfl) ?_ _
              clear hHeld
              refine hK8 _ _ ?_
              clear hK8 K8
              refine wp_ret ?_
              go_ret
              exact ⟨rfl, D⟩
          clear hK6
          refine wp_region_held_drew (S := fun w' => BxIn w' gb1 a0 a1 a2 a3 ∧ StIn w' gb2 t) (by kernel_rfl) ⟨IA, IS⟩ (fun hHeld => ?_)
          have kb : Below v12.heap.size v12 v12.drew := (Below.refl _ v12).drew
          replace D := D.trans (kb.mono D.size)
          replace HA := HA.on kb
          replace HS := HS.on kb
          replace IA := IA.on kb
          replace IS := IS.on kb
          replace IE := IE.on kb
          replace HB := HB.on kb
          replace IB := IB.on kb
          clear kb
          generalize v12.drew = v13 at D hHeld HA HS IA IS IE HB IB ⊢
          refine wpAnyH_take (i := 0) (oi := ⟨_, _, _, _, _, _⟩) (v := bxVal a0 a1 a2 a3) rfl (by kernel_rfl) (by kernel_rfl) (by kernel_rfl) (fun _ _ _ h => h) (yl_box (by rfl) _ rfl _ 0 rfl _ _ _ _ _ _ _ _ _ _ _ _ _ _ _ _ (fun _ h => BxIn.cells h.1)) (by assumption) ?_
          simp only [Act.put, List.setIfInBounds_toArray, List.set_cons_zero, List.set_cons_succ]
          refine wpAnyH_take (i := 1) (oi := ⟨_, _, _, _, _, _⟩) (v := .int .i64 2) rfl (by kernel_rfl) (by kernel_rfl) (by kernel_rfl) (fun _ _ _ h => h) (yl_move (by rfl) _ rfl _ rfl) (by assumption) ?_
          simp only [Act.put, List.setIfInBounds_toArray, List.set_cons_zero, List.set_cons_succ]
          refine wpAnyH_take (i := 2) (oi := ⟨_, _, _, _, _, _⟩) (v := .int .i64 2) rfl (by kernel_rfl) (by kernel_rfl) (by kernel_rfl) (fun _ _ _ h => h) (yl_move (by rfl) _ rfl _ rfl) (by assumption) ?_
          simp only [Act.put, List.setIfInBounds_toArray, List.set_cons_zero, List.set_cons_succ]
          refine wpAnyH_take (i := 3) (oi := ⟨_, _, _, _, _, _⟩) (v := .pointer (some ⟨gb1, 8, none⟩)) rfl (by kernel_rfl) (by kernel_rfl) (by kernel_rfl) (fun _ _ _ h => h) (yl_atBox (by rfl) _ _ rfl _ 2 rfl rfl (by omega)) (by assumption) ?_
          simp only [Act.put, List.setIfInBounds_toArray, List.set_cons_zero, List.set_cons_succ]
          refine wpAnyH_take (i := 4) (oi := ⟨_, _, _, _, _, _⟩) (v := SC.val a2) rfl (by kernel_rfl) (by kernel_rfl) (by kernel_rfl) (fun _ _ _ h => h) (yl_set (by rfl) _ rfl _ 8 rfl _ _ _ _ (fun _ h => BxIn.at2 h.1)) (by assumption) ?_
          simp only [Act.put, List.setIfInBounds_toArray, List.set_cons_zero, List.set_cons_succ]
          refine wpAnyH_take (i := 5) (oi := ⟨_, _, _, _, _, _⟩) (v := SC.val t) rfl (by kernel_rfl) (by kernel_rfl) (by kernel_rfl) (fun _ _ _ h => h) (yl_set (by rfl) _ rfl _ 0 rfl _ _ _ _ (fun _ h => StIn.cells h.2)) (by assumption) ?_
          simp only [Act.put, List.setIfInBounds_toArray, List.set_cons_zero, List.set_cons_succ]
          refine wpAnyH_all (rs := [6, 8]) (by kernel_rfl) (by simp) ?_
          intro j hj
          simp only [List.mem_cons, List.not_mem_nil, or_false] at hj
          rcases hj with rfl | rfl
          · refine op_call (o := ⟨_, _, _, _, _, _⟩) rfl (by rfl) 16 _ _ rfl #[SC.val a2, SC.val t] rfl (run_call Try.func16 (by kernel_rfl) (by kernel_rfl)) ?_
            refine (PS.or _ _ a.s2 s _ (sc_forms HA).1.2.2.1 HS (FA.fit.fit 2 (by omega)) FS).mono ?_
            rintro r v14 ⟨⟨u1, rfl, HO⟩, kb⟩
            replace D := D.trans (kb.mono D.size)
            replace HA := HA.on kb
            replace HS := HS.on kb
            replace IA := IA.on kb
            replace IS := IS.on kb
            replace IE := IE.on kb
            replace HB := HB.on kb
            replace IB := IB.on kb
            clear kb
            clear hHeld
            obtain ⟨o, rfl⟩ := HO.sc
            have hHeld := And.intro IA IS
            refine ⟨SC.val o, rfl, ⟨IA, IS⟩, ?_⟩
            simp only [Act.put, List.setIfInBounds_toArray, List.set_cons_zero, List.set_cons_succ]
            refine wpAnyH_all (rs := [7, 8]) (by kernel_rfl) (by simp) ?_
            intro j hj
            simp only [List.mem_cons, List.not_mem_nil, or_false] at hj
            rcases hj with rfl | rfl
            · refine op_call (o := ⟨_, _, _, _, _, _⟩) rfl (by rfl) 15 _ _ rfl #[bxVal a0 a1 a2 a3, .int .i64 2, SC.val o] rfl (run_call Try.func15 (by kernel_rfl) (by kernel_rfl)) ?_
              refine (P.with_ _ a 2 _ (orV a.s2 s) _ (by omega) (by omega) HA FA.fit HO FO).mono ?_
              rintro r v15 ⟨⟨u1, rfl, HC⟩, kb⟩
              replace D := D.trans (kb.mono D.size)
              replace HA := HA.on kb
              replace HS := HS.on kb
              replace IA := IA.on kb
              replace IS := IS.on kb
              replace IE := IE.on kb
              replace HB := HB.on kb
              replace IB := IB.on kb
              replace HO := HO.on kb
              clear kb
              clear hHeld
              replace HC : BoxAt _ _ (a.put 2 (orV a.s2 s)) := HC
              obtain ⟨c0, c1, c2, c3, rfl, -⟩ := HC.scs
              clear HO
              have hHeld := And.intro IA IS
              refine ⟨bxVal c0 c1 c2 c3, rfl, ⟨IA, IS⟩, ?_⟩
              simp only [Act.put, List.setIfInBounds_toArray, List.set_cons_zero, List.set_cons_succ]
              refine wpAnyH_all (rs := [8]) (by kernel_rfl) (by simp) ?_
              intro j hj
              have hj := List.mem_singleton.1 hj
              subst hj
              refine op_allocBx (o := ⟨_, _, _, _, _, _⟩) rfl (by rfl) rfl (fun v16 gb16 hg IZ kb => ?_)
              have nIA : gb1 ≠ gb16 := by have := lt_heap IA; omega
              have nIS : gb2 ≠ gb16 := by have := lt_heap IS; omega
              have nIE : gb3 ≠ gb16 := by have := lt_heap IE; omega
              have nIB : gb12 ≠ gb16 := by have := lt_heap IB; omega
              have gD : w.heap.size ≤ gb16 := by have := D.size; omega
              clear hg hHeld
              replace D := D.trans (kb.mono D.size)
              replace HA := HA.on kb
              replace HS := HS.on kb
              replace IA := IA.on kb
              replace IS := IS.on kb
              replace IE := IE.on kb
              replace HB := HB.on kb
              replace IB := IB.on kb
              replace HC := HC.on kb
              clear kb
              have hHeld := And.intro IA IS
              refine ⟨⟨IA, IS⟩, ?_⟩
              simp only [Act.put, List.setIfInBounds_toArray, List.set_cons_zero, List.set_cons_succ]
              refine wpAnyH_all (rs := [9]) (by kernel_rfl) (by simp) ?_
              intro j hj
              have hj := List.mem_singleton.1 hj
              subst hj
              refine op_storeBx (o := ⟨_, _, _, _, _, _⟩) rfl (by rfl) _ _ rfl rfl rfl IZ (fun v17 IC ki => ?_)
              replace D := ki.below _ _ gD D
              clear hHeld
              replace HA := ki.boxAt IZ HA
              replace HS := ki.set IZ HS
              replace IA := ki.box IA nIA
              clear nIA
              replace IS := ki.st IS nIS
              clear nIS
              replace IE := ki.ev IE nIE
              clear nIE
              replace HB := ki.boxAt IZ HB
              replace IB := ki.box IB nIB
              clear nIB
              replace HC := ki.boxAt IZ HC
              clear ki IZ gD
              have hHeld := And.intro IA IS
              refine ⟨⟨IA, IS⟩, ?_⟩
              simp only [Act.put, List.setIfInBounds_toArray, List.set_cons_zero, List.set_cons_succ]
              refine wpAnyH_done (by kernel_rfl) ?_ _
              clear hHeld
              exact NEXT _ _ _ _ _ _ _ D HA HS IA IS IE HB IB HC IC
            · refine op_allocBx (o := ⟨_, _, _, _, _, _⟩) rfl (by rfl) rfl (fun v15 gb15 hg IZ kb => ?_)
              have nIA : gb1 ≠ gb15 := by have := lt_heap IA; omega
              have nIS : gb2 ≠ gb15 := by have := lt_heap IS; omega
              have nIE : gb3 ≠ gb15 := by have := lt_heap IE; omega
              have nIB : gb12 ≠ gb15 := by have := lt_heap IB; omega
              have gD : w.heap.size ≤ gb15 := by have := D.size; omega
              clear hg hHeld
              replace D := D.trans (kb.mono D.size)
              replace HA := HA.on kb
              replace HS := HS.on kb
              replace IA := IA.on kb
              replace IS := IS.on kb
              replace IE := IE.on kb
              replace HB := HB.on kb
              replace IB := IB.on kb
              replace HO := HO.on kb
              clear kb
              have hHeld := And.intro IA IS
              refine ⟨⟨IA, IS⟩, ?_⟩
              simp only [Act.put, List.setIfInBounds_toArray, List.set_cons_zero, List.set_cons_succ]
              refine wpAnyH_all (rs := [7]) (by kernel_rfl) (by simp) ?_
              intro j hj
              have hj := List.mem_singleton.1 hj
              subst hj
              refine op_call (o := ⟨_, _, _, _, _, _⟩) rfl (by rfl) 15 _ _ rfl #[bxVal a0 a1 a2 a3, .int .i64 2, SC.val o] rfl (run_call Try.func15 (by kernel_rfl) (by kernel_rfl)) ?_
              refine (P.with_ _ a 2 _ (orV a.s2 s) _ (by omega) (by omega) HA FA.fit HO FO).mono ?_
              rintro r v16 ⟨⟨u1, rfl, HC⟩, kb⟩
              replace D := D.trans (kb.mono D.size)
              replace HA := HA.on kb
              replace HS := HS.on kb
              replace IA := IA.on kb
              replace IS := IS.on kb
              replace IE := IE.on kb
              replace HB := HB.on kb
              replace IB := IB.on kb
              replace HO := HO.on kb
              replace IZ := IZ.on kb
              clear kb
              clear hHeld
              replace HC : BoxAt _ _ (a.put 2 (orV a.s2 s)) := HC
              obtain ⟨c0, c1, c2, c3, rfl, -⟩ := HC.scs
              clear HO
              have hHeld := And.intro IA IS
              refine ⟨bxVal c0 c1 c2 c3, rfl, ⟨IA, IS⟩, ?_⟩
              simp only [Act.put, List.setIfInBounds_toArray, List.set_cons_zero, List.set_cons_succ]
              refine wpAnyH_all (rs := [9]) (by kernel_rfl) (by simp) ?_
              intro j hj
              have hj := List.mem_singleton.1 hj
              subst hj
              refine op_storeBx (o := ⟨_, _, _, _, _, _⟩) rfl (by rfl) _ _ rfl rfl rfl IZ (fun v17 IC ki => ?_)
              replace D := ki.below _ _ gD D
              clear hHeld
              replace HA := ki.boxAt IZ HA
              replace HS := ki.set IZ HS
              replace IA := ki.box IA nIA
              clear nIA
              replace IS := ki.st IS nIS
              clear nIS
              replace IE := ki.ev IE nIE
              clear nIE
              replace HB := ki.boxAt IZ HB
              replace IB := ki.box IB nIB
              clear nIB
              replace HC := ki.boxAt IZ HC
              clear ki IZ gD
              have hHeld := And.intro IA IS
              refine ⟨⟨IA, IS⟩, ?_⟩
              simp only [Act.put, List.setIfInBounds_toArray, List.set_cons_zero, List.set_cons_succ]
              refine wpAnyH_done (by kernel_rfl) ?_ _
              clear hHeld
              exact NEXT _ _ _ _ _ _ _ D HA HS IA IS IE HB IB HC IC
          · refine op_allocBx (o := ⟨_, _, _, _, _, _⟩) rfl (by rfl) rfl (fun v14 gb14 hg IZ kb => ?_)
            have nIA : gb1 ≠ gb14 := by have := lt_heap IA; omega
            have nIS : gb2 ≠ gb14 := by have := lt_heap IS; omega
            have nIE : gb3 ≠ gb14 := by have := lt_heap IE; omega
            have nIB : gb12 ≠ gb14 := by have := lt_heap IB; omega
            have gD : w.heap.size ≤ gb14 := by have := D.size; omega
            clear hg hHeld
            replace D := D.trans (kb.mono D.size)
            replace HA := HA.on kb
            replace HS := HS.on kb
            replace IA := IA.on kb
            replace IS := IS.on kb
            replace IE := IE.on kb
            replace HB := HB.on kb
            replace IB := IB.on kb
            clear kb
            have hHeld := And.intro IA IS
            refine ⟨⟨IA, IS⟩, ?_⟩
            simp only [Act.put, List.setIfInBounds_toArray, List.set_cons_zero, List.set_cons_succ]
            refine wpAnyH_all (rs := [6]) (by kernel_rfl) (by simp) ?_
            intro j hj
            have hj := List.mem_singleton.1 hj
            subst hj
            refine op_call (o := ⟨_, _, _, _, _, _⟩) rfl (by rfl) 16 _ _ rfl #[SC.val a2, SC.val t] rfl (run_call Try.func16 (by kernel_rfl) (by kernel_rfl)) ?_
            refine (PS.or _ _ a.s2 s _ (sc_forms HA).1.2.2.1 HS (FA.fit.fit 2 (by omega)) FS).mono ?_
            rintro r v15 ⟨⟨u1, rfl, HO⟩, kb⟩
            replace D := D.trans (kb.mono D.size)
            replace HA := HA.on kb
            replace HS := HS.on kb
            replace IA := IA.on kb
            replace IS := IS.on kb
            replace IE := IE.on kb
            replace HB := HB.on kb
            replace IB := IB.on kb
            replace IZ := IZ.on kb
            clear kb
            clear hHeld
            obtain ⟨o, rfl⟩ := HO.sc
            have hHeld := And.intro IA IS
            refine ⟨SC.val o, rfl, ⟨IA, IS⟩, ?_⟩
            simp only [Act.put, List.setIfInBounds_toArray, List.set_cons_zero, List.set_cons_succ]
            refine wpAnyH_all (rs := [7]) (by kernel_rfl) (by simp) ?_
            intro j hj
            have hj := List.mem_singleton.1 hj
            subst hj
            refine op_call (o := ⟨_, _, _, _, _, _⟩) rfl (by rfl) 15 _ _ rfl #[bxVal a0 a1 a2 a3, .int .i64 2, SC.val o] rfl (run_call Try.func15 (by kernel_rfl) (by kernel_rfl)) ?_
            refine (P.with_ _ a 2 _ (orV a.s2 s) _ (by omega) (by omega) HA FA.fit HO FO).mono ?_
            rintro r v16 ⟨⟨u1, rfl, HC⟩, kb⟩
            replace D := D.trans (kb.mono D.size)
            replace HA := HA.on kb
            replace HS := HS.on kb
            replace IA := IA.on kb
            replace IS := IS.on kb
            replace IE := IE.on kb
            replace HB := HB.on kb
            replace IB := IB.on kb
            replace IZ := IZ.on kb
            replace HO := HO.on kb
            clear kb
            clear hHeld
            replace HC : BoxAt _ _ (a.put 2 (orV a.s2 s)) := HC
            obtain ⟨c0, c1, c2, c3, rfl, -⟩ := HC.scs
            clear HO
            have hHeld := And.intro IA IS
            refine ⟨bxVal c0 c1 c2 c3, rfl, ⟨IA, IS⟩, ?_⟩
            simp only [Act.put, List.setIfInBounds_toArray, List.set_cons_zero, List.set_cons_succ]
            refine wpAnyH_all (rs := [9]) (by kernel_rfl) (by simp) ?_
            intro j hj
            have hj := List.mem_singleton.1 hj
            subst hj
            refine op_storeBx (o := ⟨_, _, _, _, _, _⟩) rfl (by rfl) _ _ rfl rfl rfl IZ (fun v17 IC ki => ?_)
            replace D := ki.below _ _ gD D
            clear hHeld
            replace HA := ki.boxAt IZ HA
            replace HS := ki.set IZ HS
            replace IA := ki.box IA nIA
            clear nIA
            replace IS := ki.st IS nIS
            clear nIS
            replace IE := ki.ev IE nIE
            clear nIE
            replace HB := ki.boxAt IZ HB
            replace IB := ki.box IB nIB
            clear nIB
            replace HC := ki.boxAt IZ HC
            clear ki IZ gD
            have hHeld := And.intro IA IS
            refine ⟨⟨IA, IS⟩, ?_⟩
            simp only [Act.put, List.setIfInBounds_toArray, List.set_cons_zero, List.set_cons_succ]
            refine wpAnyH_done (by kernel_rfl) ?_ _
            clear hHeld
            exact NEXT _ _ _ _ _ _ _ D HA HS IA IS IE HB IB HC IC
set_option maxHeartbeats 8000000 in
set_option maxRecDepth 100000 in
theorem joins_3 (P : BoxProg) (PS : SetProg) (v : Value) (a : BoxV) (x : Int) (hm : x % 18446744073709551616 % 4 = 3) (u : Value) (s : SetV) (e : EvV) (w : World) (HA : BoxAt w v a) (HS : SetAt w u s) (hf : evFit e) (he : inE e) :
    Calls Try.prog 4 #[v, .int .i64 x, u, evVal e] w fun r w' => r = .returned (.bool true) ∧ Below w.heap.size w w' := by
  obtain ⟨a0, a1, a2, a3, rfl, -⟩ := HA.scs
  obtain ⟨t, rfl⟩ := HS.sc
  have D := Below.refl w.heap.size w
  go_enter Try.func4, Try.ntmps4
  refine wp_seq_k (fun K1 hK1 => ?_)
  refine wp_region_lit ?_
  refine wl_boxBx (o := ⟨_, _, _, _, _, _⟩) (by rfl) _ rfl rfl (fun v1 gb1 IA kb => ?_)
  simp only [Act.put, List.setIfInBounds_toArray, List.set_cons_zero, List.set_cons_succ]
  replace D := D.trans (kb.mono D.size)
  replace HA := HA.on kb
  replace HS := HS.on kb
  clear kb
  refine wl_boxSt (o := ⟨_, _, _, _, _, _⟩) (by rfl) _ rfl rfl (fun v2 gb2 IS kb => ?_)
  simp only [Act.put, List.setIfInBounds_toArray, List.set_cons_zero, List.set_cons_succ]
  replace D := D.trans (kb.mono D.size)
  replace HA := HA.on kb
  replace HS := HS.on kb
  replace IA := IA.on kb
  clear kb
  refine wl_boxEv (o := ⟨_, _, _, _, _, _⟩) (by rfl) _ rfl rfl (fun v3 gb3 IE kb => ?_)
  simp only [Act.put, List.setIfInBounds_toArray, List.set_cons_zero, List.set_cons_succ]
  replace D := D.trans (kb.mono D.size)
  replace HA := HA.on kb
  replace HS := HS.on kb
  replace IA := IA.on kb
  replace IS := IS.on kb
  clear kb
  refine wl_yield (o := ⟨_, _, _, _, _, _⟩) (.bool false) (yl_assign (by rfl) _ rfl _ rfl) ?_
  simp only [Act.put, List.setIfInBounds_toArray, List.set_cons_zero, List.set_cons_succ]
  refine wpList_nil ?_
  refine hK1 _ _ ?_
  clear hK1 K1
  refine wp_seq_k (fun K2 hK2 => ?_)
  refine wp_region_lit ?_
  refine wl_yield (o := ⟨_, _, _, _, _, _⟩) (.int .i64 x) (yl_move (by rfl) _ rfl _ rfl) ?_
  simp only [Act.put, List.setIfInBounds_toArray, List.set_cons_zero, List.set_cons_succ]
  refine wl_toU (o := ⟨_, _, _, _, _, _⟩) (by rfl) _ rfl x rfl (fun n n0 n1 hn => ?_)
  simp only [Act.put, List.setIfInBounds_toArray, List.set_cons_zero, List.set_cons_succ]
  refine wl_rem4 (o := ⟨_, _, _, _, _, _⟩) (by rfl) _ _ rfl n rfl n0 n1 (fun k hk => ?_)
  simp only [Act.put, List.setIfInBounds_toArray, List.set_cons_zero, List.set_cons_succ]
  obtain rfl : k = 3 := by rw [hk, hn]; exact hm
  refine wl_toI (o := ⟨_, _, _, _, _, _⟩) (by rfl) _ rfl 3 rfl (by omega) (by omega) ?_
  simp only [Act.put, List.setIfInBounds_toArray, List.set_cons_zero, List.set_cons_succ]
  refine wl_yield (o := ⟨_, _, _, _, _, _⟩) (.int .i64 3) (yl_assign (by rfl) _ rfl _ rfl) ?_
  simp only [Act.put, List.setIfInBounds_toArray, List.set_cons_zero, List.set_cons_succ]
  refine wpList_nil ?_
  refine hK2 _ _ ?_
  clear hK2 K2
  refine wp_seq_k (fun K3 hK3 => ?_)
  refine wp_seq_k (fun K4 hK4 => ?_)
  refine wp_region_lit ?_
  refine wl_call (o := ⟨_, _, _, _, _, _⟩) (by rfl) 7 _ _ rfl #[] rfl (run_call Try.func7 (by kernel_rfl) (by kernel_rfl)) ?_
  refine (awake4_any P _).mono ?_
  rintro r v4 ⟨rfl, kb⟩
  replace D := D.trans (kb.mono D.size)
  replace HA := HA.on kb
  replace HS := HS.on kb
  replace IA := IA.on kb
  replace IS := IS.on kb
  replace IE := IE.on kb
  clear kb
  refine ⟨.bool true, rfl, ?_⟩
  simp only [Act.put, List.setIfInBounds_toArray, List.set_cons_zero, List.set_cons_succ]
  refine wl_yield (o := ⟨_, _, _, _, _, _⟩) (.bool false) (yl_not (by rfl) _ _ rfl true rfl) ?_
  simp only [Act.put, List.setIfInBounds_toArray, List.set_cons_zero, List.set_cons_succ]
  refine wl_yield (o := ⟨_, _, _, _, _, _⟩) (.bool false) (yl_move (by rfl) _ rfl _ rfl) ?_
  simp only [Act.put, List.setIfInBounds_toArray, List.set_cons_zero, List.set_cons_succ]
  refine wl_yield (o := ⟨_, _, _, _, _, _⟩) (bxVal a0 a1 a2 a3) (yl_box (by rfl) _ rfl _ 0 rfl _ _ _ _ _ _ _ _ _ _ _ _ _ _ _ _ (fun _ h => by subst h; exact BxIn.cells IA)) ?_
  simp only [Act.put, List.setIfInBounds_toArray, List.set_cons_zero, List.set_cons_succ]
  refine wl_rowBx1 (o := ⟨_, _, _, _, _, _⟩) (by rfl) _ rfl rfl HA (fun v5 y5 HY kb => ?_)
  simp only [Act.put, List.setIfInBounds_toArray, List.set_cons_zero, List.set_cons_succ]
  replace D := D.trans (kb.mono D.size)
  replace HA := HA.on kb
  replace HS := HS.on kb
  replace IA := IA.on kb
  replace IS := IS.on kb
  replace IE := IE.on kb
  clear kb
  refine wl_call (o := ⟨_, _, _, _, _, _⟩) (by rfl) 8 _ _ rfl #[y5] rfl (run_call Try.func8 (by kernel_rfl) (by kernel_rfl)) ?_
  refine (refFewBx_any _ _ _ HY).mono ?_
  rintro r v6 ⟨rfl, kb⟩
  replace D := D.trans (kb.mono D.size)
  replace HA := HA.on kb
  replace HS := HS.on kb
  replace IA := IA.on kb
  replace IS := IS.on kb
  replace IE := IE.on kb
  clear kb
  cases hF : [a].all fewBx
  · refine ⟨.bool false, rfl, ?_⟩
    simp only [Act.put, List.setIfInBounds_toArray, List.set_cons_zero, List.set_cons_succ]
    refine wl_yield (o := ⟨_, _, _, _, _, _⟩) (.bool true) (yl_not (by rfl) _ _ rfl false rfl) ?_
    simp only [Act.put, List.setIfInBounds_toArray, List.set_cons_zero, List.set_cons_succ]
    refine wl_yield (o := ⟨_, _, _, _, _, _⟩) (.bool true) (yl_pickF (by rfl) _ _ _ rfl rfl _ rfl) ?_
    simp only [Act.put, List.setIfInBounds_toArray, List.set_cons_zero, List.set_cons_succ]
    refine wl_yield (o := ⟨_, _, _, _, _, _⟩) (.bool true) (yl_move (by rfl) _ rfl _ rfl) ?_
    simp only [Act.put, List.setIfInBounds_toArray, List.set_cons_zero, List.set_cons_succ]
    refine wl_yield (o := ⟨_, _, _, _, _, _⟩) undef (yl_undef (by rfl)) ?_
    simp only [Act.put, List.setIfInBounds_toArray, List.set_cons_zero, List.set_cons_succ]
    refine wl_yield (o := ⟨_, _, _, _, _, _⟩) undef (yl_undef (by rfl)) ?_
    simp only [Act.put, List.setIfInBounds_toArray, List.set_cons_zero, List.set_cons_succ]
    refine wl_yield (o := ⟨_, _, _, _, _, _⟩) undef (yl_undef (by rfl)) ?_
    simp only [Act.put, List.setIfInBounds_toArray, List.set_cons_zero, List.set_cons_succ]
    refine wl_yield (o := ⟨_, _, _, _, _, _⟩) undef (yl_undef (by rfl)) ?_
    simp only [Act.put, List.setIfInBounds_toArray, List.set_cons_zero, List.set_cons_succ]
    refine wl_yield (o := ⟨_, _, _, _, _, _⟩) (.bool true) (yl_pickT (by rfl) _ _ _ rfl rfl _ rfl) ?_
    simp only [Act.put, List.setIfInBounds_toArray, List.set_cons_zero, List.set_cons_succ]
    refine wl_yield (o := ⟨_, _, _, _, _, _⟩) (.bool true) (yl_move (by rfl) _ rfl _ rfl) ?_
    simp only [Act.put, List.setIfInBounds_toArray, List.set_cons_zero, List.set_cons_succ]
    refine wl_yield (o := ⟨_, _, _, _, _, _⟩) undef (yl_undef (by rfl)) ?_
    simp only [Act.put, List.setIfInBounds_toArray, List.set_cons_zero, List.set_cons_succ]
    refine wl_yield (o := ⟨_, _, _, _, _, _⟩) undef (yl_undef (by rfl)) ?_
    simp only [Act.put, List.setIfInBounds_toArray, List.set_cons_zero, List.set_cons_succ]
    refine wl_yield (o := ⟨_, _, _, _, _, _⟩) undef (yl_undef (by rfl)) ?_
    simp only [Act.put, List.setIfInBounds_toArray, List.set_cons_zero, List.set_cons_succ]
    refine wl_yield (o := ⟨_, _, _, _, _, _⟩) (.bool true) (yl_pickT (by rfl) _ _ _ rfl rfl _ rfl) ?_
    simp only [Act.put, List.setIfInBounds_toArray, List.set_cons_zero, List.set_cons_succ]
    refine wl_yield (o := ⟨_, _, _, _, _, _⟩) (.bool true) (yl_move (by rfl) _ rfl _ rfl) ?_
    simp only [Act.put, List.setIfInBounds_toArray, List.set_cons_zero, List.set_cons_succ]
    refine wl_yield (o := ⟨_, _, _, _, _, _⟩) undef (yl_undef (by rfl)) ?_
    simp only [Act.put, List.setIfInBounds_toArray, List.set_cons_zero, List.set_cons_succ]
    refine wl_yield (o := ⟨_, _, _, _, _, _⟩) undef (yl_undef (by rfl)) ?_
    simp only [Act.put, List.setIfInBounds_toArray, List.set_cons_zero, List.set_cons_succ]
    refine wl_yield (o := ⟨_, _, _, _, _, _⟩) undef (yl_undef (by rfl)) ?_
    simp only [Act.put, List.setIfInBounds_toArray, List.set_cons_zero, List.set_cons_succ]
    refine wl_yield (o := ⟨_, _, _, _, _, _⟩) (.bool true) (yl_pickT (by rfl) _ _ _ rfl rfl _ rfl) ?_
    simp only [Act.put, List.setIfInBounds_toArray, List.set_cons_zero, List.set_cons_succ]
    refine wpList_nil ?_
    refine hK4 _ _ ?_
    clear hK4 K4
    refine wp_cond_true rfl ?_
    refine wp_seq_k (fun K5 hK5 => ?_)
    refine wp_region_lit ?_
    refine wl_call (o := ⟨_, _, _, _, _, _⟩) (by rfl) 7 _ _ rfl #[] rfl (run_call Try.func7 (by kernel_rfl) (by kernel_rfl)) ?_
    refine (awake4_any P _).mono ?_
    rintro r v7 ⟨rfl, kb⟩
    replace D := D.trans (kb.mono D.size)
    replace HA := HA.on kb
    replace HS := HS.on kb
    replace IA := IA.on kb
    replace IS := IS.on kb
    replace IE := IE.on kb
    clear kb
    refine ⟨.bool true, rfl, ?_⟩
    simp only [Act.put, List.setIfInBounds_toArray, List.set_cons_zero, List.set_cons_succ]
    refine wl_yield (o := ⟨_, _, _, _, _, _⟩) (.bool true) (yl_assign (by rfl) _ rfl _ rfl) ?_
    simp only [Act.put, List.setIfInBounds_toArray, List.set_cons_zero, List.set_cons_succ]
    refine wpList_nil ?_
    refine hK5 _ _ ?_
    clear hK5 K5
    refine wp_ret ?_
    go_ret
    exact ⟨rfl, D⟩
  · refine ⟨.bool true, rfl, ?_⟩
    simp only [Act.put, List.setIfInBounds_toArray, List.set_cons_zero, List.set_cons_succ]
    refine wl_yield (o := ⟨_, _, _, _, _, _⟩) (.bool false) (yl_not (by rfl) _ _ rfl true rfl) ?_
    simp only [Act.put, List.setIfInBounds_toArray, List.set_cons_zero, List.set_cons_succ]
    refine wl_yield (o := ⟨_, _, _, _, _, _⟩) (.bool false) (yl_pickF (by rfl) _ _ _ rfl rfl _ rfl) ?_
    simp only [Act.put, List.setIfInBounds_toArray, List.set_cons_zero, List.set_cons_succ]
    refine wl_yield (o := ⟨_, _, _, _, _, _⟩) (.bool false) (yl_move (by rfl) _ rfl _ rfl) ?_
    simp only [Act.put, List.setIfInBounds_toArray, List.set_cons_zero, List.set_cons_succ]
    refine wl_yield (o := ⟨_, _, _, _, _, _⟩) (SC.val t) (yl_set (by rfl) _ rfl _ 0 rfl _ _ _ _ (fun _ h => by subst h; exact StIn.cells IS)) ?_
    simp only [Act.put, List.setIfInBounds_toArray, List.set_cons_zero, List.set_cons_succ]
    refine wl_rowSt1 (o := ⟨_, _, _, _, _, _⟩) (by rfl) _ rfl rfl HS (fun v7 y7 HY kb => ?_)
    simp only [Act.put, List.setIfInBounds_toArray, List.set_cons_zero, List.set_cons_succ]
    replace D := D.trans (kb.mono D.size)
    replace HA := HA.on kb
    replace HS := HS.on kb
    replace IA := IA.on kb
    replace IS := IS.on kb
    replace IE := IE.on kb
    clear kb
    refine wl_call (o := ⟨_, _, _, _, _, _⟩) (by rfl) 13 _ _ rfl #[y7] rfl (run_call Try.func13 (by kernel_rfl) (by kernel_rfl)) ?_
    refine (refFew_below HY).mono ?_
    rintro r v8 ⟨rfl, kb⟩
    replace D := D.trans (kb.mono D.size)
    replace HA := HA.on kb
    replace HS := HS.on kb
    replace IA := IA.on kb
    replace IS := IS.on kb
    replace IE := IE.on kb
    clear kb
    cases hF2 : [s].all fewB
    · refine ⟨.bool false, rfl, ?_⟩
      simp only [Act.put, List.setIfInBounds_toArray, List.set_cons_zero, List.set_cons_succ]
      refine wl_yield (o := ⟨_, _, _, _, _, _⟩) (.bool true) (yl_not (by rfl) _ _ rfl false rfl) ?_
      simp only [Act.put, List.setIfInBounds_toArray, List.set_cons_zero, List.set_cons_succ]
      refine wl_yield (o := ⟨_, _, _, _, _, _⟩) (.bool true) (yl_pickF (by rfl) _ _ _ rfl rfl _ rfl) ?_
      simp only [Act.put, List.setIfInBounds_toArray, List.set_cons_zero, List.set_cons_succ]
      refine wl_yield (o := ⟨_, _, _, _, _, _⟩) (.bool true) (yl_move (by rfl) _ rfl _ rfl) ?_
      simp only [Act.put, List.setIfInBounds_toArray, List.set_cons_zero, List.set_cons_succ]
      refine wl_yield (o := ⟨_, _, _, _, _, _⟩) undef (yl_undef (by rfl)) ?_
      simp only [Act.put, List.setIfInBounds_toArray, List.set_cons_zero, List.set_cons_succ]
      refine wl_yield (o := ⟨_, _, _, _, _, _⟩) undef (yl_undef (by rfl)) ?_
      simp only [Act.put, List.setIfInBounds_toArray, List.set_cons_zero, List.set_cons_succ]
      refine wl_yield (o := ⟨_, _, _, _, _, _⟩) undef (yl_undef (by rfl)) ?_
      simp only [Act.put, List.setIfInBounds_toArray, List.set_cons_zero, List.set_cons_succ]
      refine wl_yield (o := ⟨_, _, _, _, _, _⟩) (.bool true) (yl_pickT (by rfl) _ _ _ rfl rfl _ rfl) ?_
      simp only [Act.put, List.setIfInBounds_toArray, List.set_cons_zero, List.set_cons_succ]
      refine wl_yield (o := ⟨_, _, _, _, _, _⟩) (.bool true) (yl_move (by rfl) _ rfl _ rfl) ?_
      simp only [Act.put, List.setIfInBounds_toArray, List.set_cons_zero, List.set_cons_succ]
      refine wl_yield (o := ⟨_, _, _, _, _, _⟩) undef (yl_undef (by rfl)) ?_
      simp only [Act.put, List.setIfInBounds_toArray, List.set_cons_zero, List.set_cons_succ]
      refine wl_yield (o := ⟨_, _, _, _, _, _⟩) undef (yl_undef (by rfl)) ?_
      simp only [Act.put, List.setIfInBounds_toArray, List.set_cons_zero, List.set_cons_succ]
      refine wl_yield (o := ⟨_, _, _, _, _, _⟩) undef (yl_undef (by rfl)) ?_
      simp only [Act.put, List.setIfInBounds_toArray, List.set_cons_zero, List.set_cons_succ]
      refine wl_yield (o := ⟨_, _, _, _, _, _⟩) (.bool true) (yl_pickT (by rfl) _ _ _ rfl rfl _ rfl) ?_
      simp only [Act.put, List.setIfInBounds_toArray, List.set_cons_zero, List.set_cons_succ]
      refine wpList_nil ?_
      refine hK4 _ _ ?_
      clear hK4 K4
      refine wp_cond_true rfl ?_
      refine wp_seq_k (fun K5 hK5 => ?_)
      refine wp_region_lit ?_
      refine wl_call (o := ⟨_, _, _, _, _, _⟩) (by rfl) 7 _ _ rfl #[] rfl (run_call Try.func7 (by kernel_rfl) (by kernel_rfl)) ?_
      refine (awake4_any P _).mono ?_
      rintro r v9 ⟨rfl, kb⟩
      replace D := D.trans (kb.mono D.size)
      replace HA := HA.on kb
      replace HS := HS.on kb
      replace IA := IA.on kb
      replace IS := IS.on kb
      replace IE := IE.on kb
      clear kb
      refine ⟨.bool true, rfl, ?_⟩
      simp only [Act.put, List.setIfInBounds_toArray, List.set_cons_zero, List.set_cons_succ]
      refine wl_yield (o := ⟨_, _, _, _, _, _⟩) (.bool true) (yl_assign (by rfl) _ rfl _ rfl) ?_
      simp only [Act.put, List.setIfInBounds_toArray, List.set_cons_zero, List.set_cons_succ]
      refine wpList_nil ?_
      refine hK5 _ _ ?_
      clear hK5 K5
      refine wp_ret ?_
      go_ret
      exact ⟨rfl, D⟩
    · refine ⟨.bool true, rfl, ?_⟩
      simp only [Act.put, List.setIfInBounds_toArray, List.set_cons_zero, List.set_cons_succ]
      refine wl_yield (o := ⟨_, _, _, _, _, _⟩) (.bool false) (yl_not (by rfl) _ _ rfl true rfl) ?_
      simp only [Act.put, List.setIfInBounds_toArray, List.set_cons_zero, List.set_cons_succ]
      refine wl_yield (o := ⟨_, _, _, _, _, _⟩) (.bool false) (yl_pickF (by rfl) _ _ _ rfl rfl _ rfl) ?_
      simp only [Act.put, List.setIfInBounds_toArray, List.set_cons_zero, List.set_cons_succ]
      refine wl_yield (o := ⟨_, _, _, _, _, _⟩) (.bool false) (yl_move (by rfl) _ rfl _ rfl) ?_
      simp only [Act.put, List.setIfInBounds_toArray, List.set_cons_zero, List.set_cons_succ]
      refine wl_yield (o := ⟨_, _, _, _, _, _⟩) (bxVal a0 a1 a2 a3) (yl_box (by rfl) _ rfl _ 0 rfl _ _ _ _ _ _ _ _ _ _ _ _ _ _ _ _ (fun _ h => by subst h; exact BxIn.cells IA)) ?_
      simp only [Act.put, List.setIfInBounds_toArray, List.set_cons_zero, List.set_cons_succ]
      refine wl_call (o := ⟨_, _, _, _, _, _⟩) (by rfl) 9 _ _ rfl #[bxVal a0 a1 a2 a3] rfl (run_call Try.func9 (by kernel_rfl) (by kernel_rfl)) ?_
      refine (refRightBx_any _ _ _ HA).mono ?_
      rintro r v9 ⟨rfl, kb⟩
      replace D := D.trans (kb.mono D.size)
      replace HA := HA.on kb
      replace HS := HS.on kb
      replace IA := IA.on kb
      replace IS := IS.on kb
      replace IE := IE.on kb
      clear kb
      cases hRA : rightBx a
      · refine ⟨.bool false, rfl, ?_⟩
        simp only [Act.put, List.setIfInBounds_toArray, List.set_cons_zero, List.set_cons_succ]
        refine wl_yield (o := ⟨_, _, _, _, _, _⟩) (.bool true) (yl_not (by rfl) _ _ rfl false rfl) ?_
        simp only [Act.put, List.setIfInBounds_toArray, List.set_cons_zero, List.set_cons_succ]
        refine wl_yield (o := ⟨_, _, _, _, _, _⟩) (.bool true) (yl_pickF (by rfl) _ _ _ rfl rfl _ rfl) ?_
        simp only [Act.put, List.setIfInBounds_toArray, List.set_cons_zero, List.set_cons_succ]
        refine wl_yield (o := ⟨_, _, _, _, _, _⟩) (.bool true) (yl_move (by rfl) _ rfl _ rfl) ?_
        simp only [Act.put, List.setIfInBounds_toArray, List.set_cons_zero, List.set_cons_succ]
        refine wl_yield (o := ⟨_, _, _, _, _, _⟩) undef (yl_undef (by rfl)) ?_
        simp only [Act.put, List.setIfInBounds_toArray, List.set_cons_zero, List.set_cons_succ]
        refine wl_yield (o := ⟨_, _, _, _, _, _⟩) undef (yl_undef (by rfl)) ?_
        simp only [Act.put, List.setIfInBounds_toArray, List.set_cons_zero, List.set_cons_succ]
        refine wl_yield (o := ⟨_, _, _, _, _, _⟩) undef (yl_undef (by rfl)) ?_
        simp only [Act.put, List.setIfInBounds_toArray, List.set_cons_zero, List.set_cons_succ]
        refine wl_yield (o := ⟨_, _, _, _, _, _⟩) (.bool true) (yl_pickT (by rfl) _ _ _ rfl rfl _ rfl) ?_
        simp only [Act.put, List.setIfInBounds_toArray, List.set_cons_zero, List.set_cons_succ]
        refine wpList_nil ?_
        refine hK4 _ _ ?_
        clear hK4 K4
        refine wp_cond_true rfl ?_
        refine wp_seq_k (fun K5 hK5 => ?_)
        refine wp_region_lit ?_
        refine wl_call (o := ⟨_, _, _, _, _, _⟩) (by rfl) 7 _ _ rfl #[] rfl (run_call Try.func7 (by kernel_rfl) (by kernel_rfl)) ?_
        refine (awake4_any P _).mono ?_
        rintro r v10 ⟨rfl, kb⟩
        replace D := D.trans (kb.mono D.size)
        replace HA := HA.on kb
        replace HS := HS.on kb
        replace IA := IA.on kb
        replace IS := IS.on kb
        replace IE := IE.on kb
        clear kb
        refine ⟨.bool true, rfl, ?_⟩
        simp only [Act.put, List.setIfInBounds_toArray, List.set_cons_zero, List.set_cons_succ]
        refine wl_yield (o := ⟨_, _, _, _, _, _⟩) (.bool true) (yl_assign (by rfl) _ rfl _ rfl) ?_
        simp only [Act.put, List.setIfInBounds_toArray, List.set_cons_zero, List.set_cons_succ]
        refine wpList_nil ?_
        refine hK5 _ _ ?_
        clear hK5 K5
        refine wp_ret ?_
        go_ret
        exact ⟨rfl, D⟩
      · refine ⟨.bool true, rfl, ?_⟩
        simp only [Act.put, List.setIfInBounds_toArray, List.set_cons_zero, List.set_cons_succ]
        refine wl_yield (o := ⟨_, _, _, _, _, _⟩) (.bool false) (yl_not (by rfl) _ _ rfl true rfl) ?_
        simp only [Act.put, List.setIfInBounds_toArray, List.set_cons_zero, List.set_cons_succ]
        refine wl_yield (o := ⟨_, _, _, _, _, _⟩) (.bool false) (yl_pickF (by rfl) _ _ _ rfl rfl _ rfl) ?_
        simp only [Act.put, List.setIfInBounds_toArray, List.set_cons_zero, List.set_cons_succ]
        refine wl_yield (o := ⟨_, _, _, _, _, _⟩) (.bool false) (yl_move (by rfl) _ rfl _ rfl) ?_
        simp only [Act.put, List.setIfInBounds_toArray, List.set_cons_zero, List.set_cons_succ]
        refine wl_yield (o := ⟨_, _, _, _, _, _⟩) (SC.val t) (yl_set (by rfl) _ rfl _ 0 rfl _ _ _ _ (fun _ h => by subst h; exact StIn.cells IS)) ?_
        simp only [Act.put, List.setIfInBounds_toArray, List.set_cons_zero, List.set_cons_succ]
        refine wl_call (o := ⟨_, _, _, _, _, _⟩) (by rfl) 14 _ _ rfl #[SC.val t] rfl (run_call Try.func14 (by kernel_rfl) (by kernel_rfl)) ?_
        refine (refRightSet_any _ s _ HS).mono ?_
        rintro r v10 ⟨rfl, kb⟩
        replace D := D.trans (kb.mono D.size)
        replace HA := HA.on kb
        replace HS := HS.on kb
        replace IA := IA.on kb
        replace IS := IS.on kb
        replace IE := IE.on kb
        clear kb
        cases hR : rightSet s
        · refine ⟨.bool false, rfl, ?_⟩
          simp only [Act.put, List.setIfInBounds_toArray, List.set_cons_zero, List.set_cons_succ]
          refine wl_yield (o := ⟨_, _, _, _, _, _⟩) (.bool true) (yl_not (by rfl) _ _ rfl false rfl) ?_
          simp only [Act.put, List.setIfInBounds_toArray, List.set_cons_zero, List.set_cons_succ]
          refine wl_yield (o := ⟨_, _, _, _, _, _⟩) (.bool true) (yl_pickF (by rfl) _ _ _ rfl rfl _ rfl) ?_
          simp only [Act.put, List.setIfInBounds_toArray, List.set_cons_zero, List.set_cons_succ]
          refine wpList_nil ?_
          refine hK4 _ _ ?_
          clear hK4 K4
          refine wp_cond_true rfl ?_
          refine wp_seq_k (fun K5 hK5 => ?_)
          refine wp_region_lit ?_
          refine wl_call (o := ⟨_, _, _, _, _, _⟩) (by rfl) 7 _ _ rfl #[] rfl (run_call Try.func7 (by kernel_rfl) (by kernel_rfl)) ?_
          refine (awake4_any P _).mono ?_
          rintro r v11 ⟨rfl, kb⟩
          replace D := D.trans (kb.mono D.size)
          replace HA := HA.on kb
          replace HS := HS.on kb
          replace IA := IA.on kb
          replace IS := IS.on kb
          replace IE := IE.on kb
          clear kb
          refine ⟨.bool true, rfl, ?_⟩
          simp only [Act.put, List.setIfInBounds_toArray, List.set_cons_zero, List.set_cons_succ]
          refine wl_yield (o := ⟨_, _, _, _, _, _⟩) (.bool true) (yl_assign (by rfl) _ rfl _ rfl) ?_
          simp only [Act.put, List.setIfInBounds_toArray, List.set_cons_zero, List.set_cons_succ]
          refine wpList_nil ?_
          refine hK5 _ _ ?_
          clear hK5 K5
          refine wp_ret ?_
          go_ret
          exact ⟨rfl, D⟩
        · refine ⟨.bool true, rfl, ?_⟩
          simp only [Act.put, List.setIfInBounds_toArray, List.set_cons_zero, List.set_cons_succ]
          refine wl_yield (o := ⟨_, _, _, _, _, _⟩) (.bool false) (yl_not (by rfl) _ _ rfl true rfl) ?_
          simp only [Act.put, List.setIfInBounds_toArray, List.set_cons_zero, List.set_cons_succ]
          refine wl_yield (o := ⟨_, _, _, _, _, _⟩) (.bool false) (yl_pickF (by rfl) _ _ _ rfl rfl _ rfl) ?_
          simp only [Act.put, List.setIfInBounds_toArray, List.set_cons_zero, List.set_cons_succ]
          refine wpList_nil ?_
          refine hK4 _ _ ?_
          clear hK4 K4
          refine wp_cond_false rfl ?_
          refine wp_skip ?_
          refine hK3 _ _ ?_
          clear hK3 K3
          have FA := few_of HA (all1 hF) hRA
          have hG : Good s := ⟨hR, HS.i64⟩
          have hL := few_len (few1 hF2)
          have FS : Fit s := ⟨hG, by omega, by omega⟩
          have GA := FA.good.g 3 (by omega)
          have OG : Good (orV a.s3 s) := orV_good GA hG
          have OL := orV_len GA hG
          have LA := FA.ni 3 (by omega)
          have LB := FA.ns 3 (by omega)
          have FO : Fit (orV a.s3 s) := ⟨OG, or_le1 OL LA hL.1, or_le2 OL LB hL.2⟩
          have FB : FewB (a.put 3 s) := put_few FA (by omega) hG hL.1 hL.2
          have FC : FitBx (a.put 3 (orV a.s3 s)) := put_fit FA.fit (by omega) OG (or_le3 OL LA hL.1) (or_le4 OL LB hL.2)
          have hj := joins_has FA.good 3 (by omega) hG e
          have hin := joins_in FA.good (i := 3) (by omega) hG FB.good FC.good
          replace hj : hasE (a.put 3 (orV a.s3 s)) e = (hasE a e || hasE (a.put 3 s) e) := hj
          replace hin : inBx a (a.put 3 (orV a.s3 s)) = true ∧ inBx (a.put 3 s) (a.put 3 (orV a.s3 s)) = true := hin
          refine wp_seq_k (fun K5 hK5 => ?_)
          refine wp_region_lit ?_
          refine wl_yield (o := ⟨_, _, _, _, _, _⟩) (bxVal a0 a1 a2 a3) (yl_box (by rfl) _ rfl _ 0 rfl _ _ _ _ _ _ _ _ _ _ _ _ _ _ _ _ (fun _ h => by subst h; exact BxIn.cells IA)) ?_
          simp only [Act.put, List.setIfInBounds_toArray, List.set_cons_zero, List.set_cons_succ]
          refine wl_yield (o := ⟨_, _, _, _, _, _⟩) (.int .i64 3) (yl_move (by rfl) _ rfl _ rfl) ?_
          simp only [Act.put, List.setIfInBounds_toArray, List.set_cons_zero, List.set_cons_succ]
          refine wl_yield (o := ⟨_, _, _, _, _, _⟩) (SC.val t) (yl_set (by rfl) _ rfl _ 0 rfl _ _ _ _ (fun _ h => by subst h; exact StIn.cells IS)) ?_
          simp only [Act.put, List.setIfInBounds_toArray, List.set_cons_zero, List.set_cons_succ]
          refine wl_call (o := ⟨_, _, _, _, _, _⟩) (by rfl) 15 _ _ rfl #[bxVal a0 a1 a2 a3, .int .i64 3, SC.val t] rfl (run_call Try.func15 (by kernel_rfl) (by kernel_rfl)) ?_
          refine (P.with_ _ a 3 _ s _ (by omega) (by omega) HA FA.fit HS FS).mono ?_
          rintro r v11 ⟨⟨u1, rfl, HB⟩, kb⟩
          replace D := D.trans (kb.mono D.size)
          replace HA := HA.on kb
          replace HS := HS.on kb
          replace IA := IA.on kb
          replace IS := IS.on kb
          replace IE := IE.on kb
          clear kb
          replace HB : BoxAt _ _ (a.put 3 s) := HB
          obtain ⟨b0, b1, b2, b3, rfl, -⟩ := HB.scs
          refine ⟨bxVal b0 b1 b2 b3, rfl, ?_⟩
          simp only [Act.put, List.setIfInBounds_toArray, List.set_cons_zero, List.set_cons_succ]
          refine wl_newBx (o := ⟨_, _, _, _, _, _⟩) (o2 := ⟨_, _, _, _, _, _⟩) (by rfl) rfl _ _ rfl (fun _ => rfl) (fun _ => rfl) (fun _ => by rfl) (fun v12 gb12 IB kb => ?_)
          simp only [Act.put, List.setIfInBounds_toArray, List.set_cons_zero, List.set_cons_succ]
          replace D := D.trans (kb.mono D.size)
          replace HA := HA.on kb
          replace HS := HS.on kb
          replace IA := IA.on kb
          replace IS := IS.on kb
          replace IE := IE.on kb
          replace HB := HB.on kb
          clear kb
          refine wpList_nil ?_
          refine hK5 _ _ ?_
          clear hK5 K5
          refine wp_seq_k (fun K6 hK6 => ?_)
          have NEXT : ∀ (W : World) (gC : Nat) (o c0 c1 c2 c3 : SC), Below w.heap.size w W → BoxAt W (bxVal a0 a1 a2 a3) a → SetAt W (SC.val t) s → BxIn W gb1 a0 a1 a2 a3 → StIn W gb2 t → EvIn W gb3 e → BoxAt W (bxVal b0 b1 b2 b3) (a.put 3 s) → BxIn W gb12 b0 b1 b2 b3 → BoxAt W (bxVal c0 c1 c2 c3) (a.put 3 (orV a.s3 s)) → BxIn W gC c0 c1 c2 c3 → K6 ⟨#[bxVal a0 a1 a2 a3, .int .i64 3, SC.val t, evVal e, .pointer (some ⟨gb1, 0, none⟩), undef, .pointer (some ⟨gb2, 0, none⟩), .pointer (some ⟨gb3, 0, none⟩), .bool false, .pointer (some ⟨gb12, 0, none⟩), .pointer (some ⟨gC, 0, none⟩), undef, undef, .int .i64 x, .int .u64 n, .int .u64 3, .int .i64 3, .bool true, .bool false, .bool false, bxVal a0 a1 a2 a3, y5, .bool true, .bool false, .bool false, .bool false, SC.val t, y7, .bool true, .bool false, .bool false, .bool false, bxVal a0 a1 a2 a3, .bool true, .bool false, .bool false, .bool false, SC.val t, .bool true, .bool false, .bool false, undef, bxVal a0 a1 a2 a3, .int .i64 3, SC.val t, bxVal b0 b1 b2 b3, bxVal a0 a1 a2 a3, .int .i64 3, .int .i64 3, .pointer (some ⟨gb1, 12, none⟩), SC.val a3, SC.val t, SC.val o, bxVal c0 c1 c2 c3, undef, undef, undef, undef, undef, undef, undef, undef, undef, undef, undef, undef, undef, undef, undef, undef, undef, undef, undef, undef, undef, undef, undef, undef, undef, undef, undef, undef, undef, undef, undef, undef], []⟩ W := by
            clear D HA HS IA IS IE HB IB
            intro W gC o c0 c1 c2 c3 D HA HS IA IS IE HB IB HC IC
            refine hK6 _ _ ?_
            clear hK6 K6
            refine wp_seq_k (fun K7 hK7 => ?_)
            refine wp_region_lit ?_
            refine wl_yield (o := ⟨_, _, _, _, _, _⟩) (bxVal a0 a1 a2 a3) (yl_box (by rfl) _ rfl _ 0 rfl _ _ _ _ _ _ _ _ _ _ _ _ _ _ _ _ (fun _ h => by subst h; exact BxIn.cells IA)) ?_
            simp only [Act.put, List.setIfInBounds_toArray, List.set_cons_zero, List.set_cons_succ]
            refine wl_yield (o := ⟨_, _, _, _, _, _⟩) (bxVal b0 b1 b2 b3) (yl_box (by rfl) _ rfl _ 0 rfl _ _ _ _ _ _ _ _ _ _ _ _ _ _ _ _ (fun _ h => by subst h; exact BxIn.cells IB)) ?_
            simp only [Act.put, List.setIfInBounds_toArray, List.set_cons_zero, List.set_cons_succ]
            refine wl_call (o := ⟨_, _, _, _, _, _⟩) (by rfl) 17 _ _ rfl #[bxVal a0 a1 a2 a3, bxVal b0 b1 b2 b3] rfl (run_call Try.func17 (by kernel_rfl) (by kernel_rfl)) ?_
            refine (P.differ _ _ a _ _ HA HB FA.fit FB.fit).mono ?_
            rintro r v13 ⟨rfl, kb⟩
            replace D := D.trans (kb.mono D.size)
            replace HA := HA.on kb
            replace HS := HS.on kb
            replace IA := IA.on kb
            replace IS := IS.on kb
            replace IE := IE.on kb
            replace HB := HB.on kb
            replace IB := IB.on kb
            replace HC := HC.on kb
            replace IC := IC.on kb
            clear kb
            refine ⟨.tuple #[.int .i64 (differBx a (a.put 3 s)).1, .int .i64 (differBx a (a.put 3 s)).2], rfl, ?_⟩
            simp only [Act.put, List.setIfInBounds_toArray, List.set_cons_zero, List.set_cons_succ]
            refine wl_yield (o := ⟨_, _, _, _, _, _⟩) (.tuple #[.int .i64 (differBx a (a.put 3 s)).1, .int .i64 (differBx a (a.put 3 s)).2]) (yl_move (by rfl) _ rfl _ rfl) ?_
            simp only [Act.put, List.setIfInBounds_toArray, List.set_cons_zero, List.set_cons_succ]
            refine wl_yield (o := ⟨_, _, _, _, _, _⟩) (.int .i64 ((differBx a (a.put 3 s)).1)) (yl_extract0 (by rfl) _ rfl _ _ rfl) ?_
            simp only [Act.put, List.setIfInBounds_toArray, List.set_cons_zero, List.set_cons_succ]
            refine wl_yield (o := ⟨_, _, _, _, _, _⟩) (.int .i64 ((differBx a (a.put 3 s)).2)) (yl_extract1 (by rfl) _ rfl _ _ rfl) ?_
            simp only [Act.put, List.setIfInBounds_toArray, List.set_cons_zero, List.set_cons_succ]
            refine wl_yield (o := ⟨_, _, _, _, _, _⟩) (.int .i64 ((differBx a (a.put 3 s)).1)) (yl_assign (by rfl) _ rfl _ rfl) ?_
            simp only [Act.put, List.setIfInBounds_toArray, List.set_cons_zero, List.set_cons_succ]
            refine wl_yield (o := ⟨_, _, _, _, _, _⟩) (.int .i64 ((differBx a (a.put 3 s)).2)) (yl_assign (by rfl) _ rfl _ rfl) ?_
            simp only [Act.put, List.setIfInBounds_toArray, List.set_cons_zero, List.set_cons_succ]
            refine wpList_nil ?_
            refine hK7 _ _ ?_
            clear hK7 K7
            refine wp_seq_k (fun K8 hK8 => ?_)
            rcases join_cases (hasE a e) (hasE (a.put 3 s) e) with ha | ⟨ha, hb⟩ | ⟨ha, hb⟩
            · replace hj : hasE (a.put 3 (orV a.s3 s)) e = true := by rw [hj, ha, Bool.true_or]
              refine wp_region_held_drew (S := fun w' => BxIn w' gC c0 c1 c2 c3 ∧ EvIn w' gb3 e ∧ BxIn w' gb1 a0 a1 a2 a3 ∧ BxIn w' gb12 b0 b1 b2 b3) (by kernel_rfl) ⟨IC, IE, IA, IB⟩ (fun hHeld => ?_)
              have kb : Below v13.heap.size v13 v13.drew := (Below.refl _ v13).drew
              replace D := D.trans (kb.mono D.size)
              replace HA := HA.on kb
              replace HS := HS.on kb
              replace IA := IA.on kb
              replace IS := IS.on kb
              replace IE := IE.on kb
              replace HB := HB.on kb
              replace IB := IB.on kb
              replace HC := HC.on kb
              replace IC := IC.on kb
              clear kb
              generalize v13.drew = v14 at D hHeld HA HS IA IS IE HB IB HC IC ⊢
              refine wpAnyH_take (i := 0) (oi := ⟨_, _, _, _, _, _⟩) (v := .int .i64 ((differBx a (a.put 3 s)).1)) rfl (by kernel_rfl) (by kernel_rfl) (by kernel_rfl) (fun _ _ _ h => h) (yl_move (by rfl) _ rfl _ rfl) (by assumption) ?_
              simp only [Act.put, List.setIfInBounds_toArray, List.set_cons_zero, List.set_cons_succ]
              refine wpAnyH_take (i := 1) (oi := ⟨_, _, _, _, _, _⟩) (v := .bool true) rfl (by kernel_rfl) (by kernel_rfl) (by kernel_rfl) (fun _ _ _ h => h) (yl_leqI (by rfl) _ _ _ rfl ((differBx a (a.put 3 s)).1) (1) true rfl rfl (by simpa using differ_put a 3 (by omega) s)) (by assumption) ?_
              simp only [Act.put, List.setIfInBounds_toArray, List.set_cons_zero, List.set_cons_succ]
              refine wpAnyH_take (i := 2) (oi := ⟨_, _, _, _, _, _⟩) (v := .bool true) rfl (by kernel_rfl) (by kernel_rfl) (by kernel_rfl) (fun _ _ _ h => h) (yl_move (by rfl) _ rfl _ rfl) (by assumption) ?_
              simp only [Act.put, List.setIfInBounds_toArray, List.set_cons_zero, List.set_cons_succ]
              refine wpAnyH_take (i := 3) (oi := ⟨_, _, _, _, _, _⟩) (v := bxVal c0 c1 c2 c3) rfl (by kernel_rfl) (by kernel_rfl) (by kernel_rfl) (fun _ _ _ h => h) (yl_box (by rfl) _ rfl _ 0 rfl _ _ _ _ _ _ _ _ _ _ _ _ _ _ _ _ (fun _ h => BxIn.cells h.1)) (by assumption) ?_
              simp only [Act.put, List.setIfInBounds_toArray, List.set_cons_zero, List.set_cons_succ]
              refine wpAnyH_take (i := 4) (oi := ⟨_, _, _, _, _, _⟩) (v := evVal e) rfl (by kernel_rfl) (by kernel_rfl) (by kernel_rfl) (fun _ _ _ h => h) (yl_ev (by rfl) _ rfl _ 0 rfl _ _ _ _ _ _ _ _ _ _ _ _ (fun _ h => EvIn.cells h.2.1)) (by assumption) ?_
              simp only [Act.put, List.setIfInBounds_toArray, List.set_cons_zero, List.set_cons_succ]
              refine wpAnyH_take (i := 6) (oi := ⟨_, _, _, _, _, _⟩) (v := bxVal a0 a1 a2 a3) rfl (by kernel_rfl) (by kernel_rfl) (by kernel_rfl) (fun _ _ _ h => h) (yl_box (by rfl) _ rfl _ 0 rfl _ _ _ _ _ _ _ _ _ _ _ _ _ _ _ _ (fun _ h => BxIn.cells h.2.2.1)) (by assumption) ?_
              simp only [Act.put, List.setIfInBounds_toArray, List.set_cons_zero, List.set_cons_succ]
              refine wpAnyH_take (i := 7) (oi := ⟨_, _, _, _, _, _⟩) (v := evVal e) rfl (by kernel_rfl) (by kernel_rfl) (by kernel_rfl) (fun _ _ _ h => h) (yl_ev (by rfl) _ rfl _ 0 rfl _ _ _ _ _ _ _ _ _ _ _ _ (fun _ h => EvIn.cells h.2.1)) (by assumption) ?_
              simp only [Act.put, List.setIfInBounds_toArray, List.set_cons_zero, List.set_cons_succ]
              refine held_call (o := ⟨_, _, _, _, _, _⟩) 5 (by kernel_rfl) rfl (by rfl) 11 _ _ rfl #[bxVal c0 c1 c2 c3, evVal e] rfl (run_call Try.func11 (by kernel_rfl) (by kernel_rfl)) ?_
              refine (refHasBx_any _ _ e _ HC hf).mono ?_
              rintro r v15 ⟨rfl, kb⟩
              replace D := D.trans (kb.mono D.size)
              replace HA := HA.on kb
              replace HS := HS.on kb
              replace IA := IA.on kb
              replace IS := IS.on kb
              replace IE := IE.on kb
              replace HB := HB.on kb
              replace IB := IB.on kb
              replace HC := HC.on kb
              replace IC := IC.on kb
              clear kb
              clear hHeld
              refine ⟨.bool true, ret_bool hj, ⟨IC, IE, IA, IB⟩, fun hHeld => ?_⟩
              simp only [Act.put, List.setIfInBounds_toArray, List.set_cons_zero, List.set_cons_succ]
              refine held_call (o := ⟨_, _, _, _, _, _⟩) 8 (by kernel_rfl) rfl (by rfl) 11 _ _ rfl #[bxVal a0 a1 a2 a3, evVal e] rfl (run_call Try.func11 (by kernel_rfl) (by kernel_rfl)) ?_
              refine (refHasBx_any _ _ e _ HA hf).mono ?_
              rintro r v16 ⟨rfl, kb⟩
              replace D := D.trans (kb.mono D.size)
              replace HA := HA.on kb
              replace HS := HS.on kb
              replace IA := IA.on kb
              replace IS := IS.on kb
              replace IE := IE.on kb
              replace HB := HB.on kb
              replace IB := IB.on kb
              replace HC := HC.on kb
              replace IC := IC.on kb
              clear kb
              clear hHeld
              refine ⟨.bool true, ret_bool ha, ⟨IC, IE, IA, IB⟩, fun hHeld => ?_⟩
              simp only [Act.put, List.setIfInBounds_toArray, List.set_cons_zero, List.set_cons_succ]
              refine wpAnyH_take (i := 9) (oi := ⟨_, _, _, _, _, _⟩) (v := .bool true) rfl (by kernel_rfl) (by kernel_rfl) (by kernel_rfl) (fun _ _ _ h => h) (yl_move (by rfl) _ rfl _ rfl) (by assumption) ?_
              simp only [Act.put, List.setIfInBounds_toArray, List.set_cons_zero, List.set_cons_succ]
              refine wpAnyH_take (i := 10) (oi := ⟨_, _, _, _, _, _⟩) (v := undef) rfl (by kernel_rfl) (by kernel_rfl) (by kernel_rfl) (fun _ _ _ h => h) (yl_undef (by rfl)) (by assumption) ?_
              simp only [Act.put, List.setIfInBounds_toArray, List.set_cons_zero, List.set_cons_succ]
              refine wpAnyH_take (i := 11) (oi := ⟨_, _, _, _, _, _⟩) (v := undef) rfl (by kernel_rfl) (by kernel_rfl) (by kernel_rfl) (fun _ _ _ h => h) (yl_undef (by rfl)) (by assumption) ?_
              simp only [Act.put, List.setIfInBounds_toArray, List.set_cons_zero, List.set_cons_succ]
              refine wpAnyH_take (i := 12) (oi := ⟨_, _, _, _, _, _⟩) (v := undef) rfl (by kernel_rfl) (by kernel_rfl) (by kernel_rfl) (fun _ _ _ h => h) (yl_undef (by rfl)) (by assumption) ?_
              simp only [Act.put, List.setIfInBounds_toArray, List.set_cons_zero, List.set_cons_succ]
              refine wpAnyH_take (i := 13) (oi := ⟨_, _, _, _, _, _⟩) (v := .bool true) rfl (by kernel_rfl) (by kernel_rfl) (by kernel_rfl) (fun _ _ _ h => h) (yl_pickT (by rfl) _ _ _ rfl rfl _ rfl) (by assumption) ?_
              simp only [Act.put, List.setIfInBounds_toArray, List.set_cons_zero, List.set_cons_succ]
              refine wpAnyH_take (i := 14) (oi := ⟨_, _, _, _, _, _⟩) (v := .bool true) rfl (by kernel_rfl) (by kernel_rfl) (by kernel_rfl) (fun _ _ _ h => h) (yl_eqB (by rfl) _ _ _ rfl true true rfl rfl) (by assumption) ?_
              simp only [Act.put, List.setIfInBounds_toArray, List.set_cons_zero, List.set_cons_succ]
              refine wpAnyH_take (i := 15) (oi := ⟨_, _, _, _, _, _⟩) (v := .bool true) rfl (by kernel_rfl) (by kernel_rfl) (by kernel_rfl) (fun _ _ _ h => h) (yl_pickT (by rfl) _ _ _ rfl rfl _ rfl) (by assumption) ?_
              simp only [Act.put, List.setIfInBounds_toArray, List.set_cons_zero, List.set_cons_succ]
              refine wpAnyH_take (i := 16) (oi := ⟨_, _, _, _, _, _⟩) (v := .bool true) rfl (by kernel_rfl) (by kernel_rfl) (by kernel_rfl) (fun _ _ _ h => h) (yl_move (by rfl) _ rfl _ rfl) (by assumption) ?_
              simp only [Act.put, List.setIfInBounds_toArray, List.set_cons_zero, List.set_cons_succ]
              refine wpAnyH_take (i := 17) (oi := ⟨_, _, _, _, _, _⟩) (v := bxVal a0 a1 a2 a3) rfl (by kernel_rfl) (by kernel_rfl) (by kernel_rfl) (fun _ _ _ h => h) (yl_box (by rfl) _ rfl _ 0 rfl _ _ _ _ _ _ _ _ _ _ _ _ _ _ _ _ (fun _ h => BxIn.cells h.2.2.1)) (by assumption) ?_
              simp only [Act.put, List.setIfInBounds_toArray, List.set_cons_zero, List.set_cons_succ]
              refine wpAnyH_take (i := 18) (oi := ⟨_, _, _, _, _, _⟩) (v := bxVal c0 c1 c2 c3) rfl (by kernel_rfl) (by kernel_rfl) (by kernel_rfl) (fun _ _ _ h => h) (yl_box (by rfl) _ rfl _ 0 rfl _ _ _ _ _ _ _ _ _ _ _ _ _ _ _ _ (fun _ h => BxIn.cells h.1)) (by assumption) ?_
              simp only [Act.put, List.setIfInBounds_toArray, List.set_cons_zero, List.set_cons_succ]
              refine held_call (o := ⟨_, _, _, _, _, _⟩) 19 (by kernel_rfl) rfl (by rfl) 12 _ _ rfl #[bxVal a0 a1 a2 a3, bxVal c0 c1 c2 c3] rfl (run_call Try.func12 (by kernel_rfl) (by kernel_rfl)) ?_
              refine (P.in_ _ _ a _ _ HA HC FA.fit FC).mono ?_
              rintro r v17 ⟨rfl, kb⟩
              replace D := D.trans (kb.mono D.size)
              replace HA := HA.on kb
              replace HS := HS.on kb
              replace IA := IA.on kb
              replace IS := IS.on kb
              replace IE := IE.on kb
              replace HB := HB.on kb
              replace IB := IB.on kb
              replace HC := HC.on kb
              replace IC := IC.on kb
              clear kb
              clear hHeld
              refine ⟨.bool true, ret_bool hin.1, ⟨IC, IE, IA, IB⟩, fun hHeld => ?_⟩
              simp only [Act.put, List.setIfInBounds_toArray, List.set_cons_zero, List.set_cons_succ]
              refine wpAnyH_take (i := 20) (oi := ⟨_, _, _, _, _, _⟩) (v := .bool true) rfl (by kernel_rfl) (by kernel_rfl) (by kernel_rfl) (fun _ _ _ h => h) (yl_pickT (by rfl) _ _ _ rfl rfl _ rfl) (by assumption) ?_
              simp only [Act.put, List.setIfInBounds_toArray, List.set_cons_zero, List.set_cons_succ]
              refine wpAnyH_take (i := 21) (oi := ⟨_, _, _, _, _, _⟩) (v := .bool true) rfl (by kernel_rfl) (by kernel_rfl) (by kernel_rfl) (fun _ _ _ h => h) (yl_move (by rfl) _ rfl _ rfl) (by assumption) ?_
              simp only [Act.put, List.setIfInBounds_toArray, List.set_cons_zero, List.set_cons_succ]
              refine wpAnyH_take (i := 22) (oi := ⟨_, _, _, _, _, _⟩) (v := bxVal b0 b1 b2 b3) rfl (by kernel_rfl) (by kernel_rfl) (by kernel_rfl) (fun _ _ _ h => h) (yl_box (by rfl) _ rfl _ 0 rfl _ _ _ _ _ _ _ _ _ _ _ _ _ _ _ _ (fun _ h => BxIn.cells h.2.2.2)) (by assumption) ?_
              simp only [Act.put, List.setIfInBounds_toArray, List.set_cons_zero, List.set_cons_succ]
              refine wpAnyH_take (i := 23) (oi := ⟨_, _, _, _, _, _⟩) (v := bxVal c0 c1 c2 c3) rfl (by kernel_rfl) (by kernel_rfl) (by kernel_rfl) (fun _ _ _ h => h) (yl_box (by rfl) _ rfl _ 0 rfl _ _ _ _ _ _ _ _ _ _ _ _ _ _ _ _ (fun _ h => BxIn.cells h.1)) (by assumption) ?_
              simp only [Act.put, List.setIfInBounds_toArray, List.set_cons_zero, List.set_cons_succ]
              refine held_call (o := ⟨_, _, _, _, _, _⟩) 24 (by kernel_rfl) rfl (by rfl) 12 _ _ rfl #[bxVal b0 b1 b2 b3, bxVal c0 c1 c2 c3] rfl (run_call Try.func12 (by kernel_rfl) (by kernel_rfl)) ?_
              refine (P.in_ _ _ _ _ _ HB HC FB.fit FC).mono ?_
              rintro r v18 ⟨rfl, kb⟩
              replace D := D.trans (kb.mono D.size)
              replace HA := HA.on kb
              replace HS := HS.on kb
              replace IA := IA.on kb
              replace IS := IS.on kb
              replace IE := IE.on kb
              replace HB := HB.on kb
              replace IB := IB.on kb
              replace HC := HC.on kb
              replace IC := IC.on kb
              clear kb
              clear hHeld
              refine ⟨.bool true, ret_bool hin.2, ⟨IC, IE, IA, IB⟩, fun hHeld => ?_⟩
              simp only [Act.put, List.setIfInBounds_toArray, List.set_cons_zero, List.set_cons_succ]
              refine wpAnyH_take (i := 25) (oi := ⟨_, _, _, _, _, _⟩) (v := .bool true) rfl (by kernel_rfl) (by kernel_rfl) (by kernel_rfl) (fun _ _ _ h => h) (yl_pickT (by rfl) _ _ _ rfl rfl _ rfl) (by assumption) ?_
              simp only [Act.put, List.setIfInBounds_toArray, List.set_cons_zero, List.set_cons_succ]
              refine wpAnyH_take (i := 26) (oi := ⟨_, _, _, _, _, _⟩) (v := .bool true) rfl (by kernel_rfl) (by kernel_rfl) (by kernel_rfl) (fun _ _ _ h => h) (yl_assign (by rfl) _ rfl _ rfl) (by assumption) ?_
              simp only [Act.put, List.setIfInBounds_toArray, List.set_cons_zero, List.set_cons_succ]
              refine wpAnyH_done (by kernel_rfl) ?_ _
              clear hHeld
              refine hK8 _ _ ?_
              clear hK8 K8
              refine wp_ret ?_
              go_ret
              exact ⟨rfl, D⟩
            · replace hj : hasE (a.put 3 (orV a.s3 s)) e = true := by rw [hj, ha, hb]; rfl
              refine wp_region_held_drew (S := fun w' => BxIn w' gC c0 c1 c2 c3 ∧ EvIn w' gb3 e ∧ BxIn w' gb1 a0 a1 a2 a3 ∧ BxIn w' gb12 b0 b1 b2 b3) (by kernel_rfl) ⟨IC, IE, IA, IB⟩ (fun hHeld => ?_)
              have kb : Below v13.heap.size v13 v13.drew := (Below.refl _ v13).drew
              replace D := D.trans (kb.mono D.size)
              replace HA := HA.on kb
              replace HS := HS.on kb
              replace IA := IA.on kb
              replace IS := IS.on kb
              replace IE := IE.on kb
              replace HB := HB.on kb
              replace IB := IB.on kb
              replace HC := HC.on kb
              replace IC := IC.on kb
              clear kb
              generalize v13.drew = v14 at D hHeld HA HS IA IS IE HB IB HC IC ⊢
              refine wpAnyH_take (i := 0) (oi := ⟨_, _, _, _, _, _⟩) (v := .int .i64 ((differBx a (a.put 3 s)).1)) rfl (by kernel_rfl) (by kernel_rfl) (by kernel_rfl) (fun _ _ _ h => h) (yl_move (by rfl) _ rfl _ rfl) (by assumption) ?_
              simp only [Act.put, List.setIfInBounds_toArray, List.set_cons_zero, List.set_cons_succ]
              refine wpAnyH_take (i := 1) (oi := ⟨_, _, _, _, _, _⟩) (v := .bool true) rfl (by kernel_rfl) (by kernel_rfl) (by kernel_rfl) (fun _ _ _ h => h) (yl_leqI (by rfl) _ _ _ rfl ((differBx a (a.put 3 s)).1) (1) true rfl rfl (by simpa using differ_put a 3 (by omega) s)) (by assumption) ?_
              simp only [Act.put, List.setIfInBounds_toArray, List.set_cons_zero, List.set_cons_succ]
              refine wpAnyH_take (i := 2) (oi := ⟨_, _, _, _, _, _⟩) (v := .bool true) rfl (by kernel_rfl) (by kernel_rfl) (by kernel_rfl) (fun _ _ _ h => h) (yl_move (by rfl) _ rfl _ rfl) (by assumption) ?_
              simp only [Act.put, List.setIfInBounds_toArray, List.set_cons_zero, List.set_cons_succ]
              refine wpAnyH_take (i := 3) (oi := ⟨_, _, _, _, _, _⟩) (v := bxVal c0 c1 c2 c3) rfl (by kernel_rfl) (by kernel_rfl) (by kernel_rfl) (fun _ _ _ h => h) (yl_box (by rfl) _ rfl _ 0 rfl _ _ _ _ _ _ _ _ _ _ _ _ _ _ _ _ (fun _ h => BxIn.cells h.1)) (by assumption) ?_
              simp only [Act.put, List.setIfInBounds_toArray, List.set_cons_zero, List.set_cons_succ]
              refine wpAnyH_take (i := 4) (oi := ⟨_, _, _, _, _, _⟩) (v := evVal e) rfl (by kernel_rfl) (by kernel_rfl) (by kernel_rfl) (fun _ _ _ h => h) (yl_ev (by rfl) _ rfl _ 0 rfl _ _ _ _ _ _ _ _ _ _ _ _ (fun _ h => EvIn.cells h.2.1)) (by assumption) ?_
              simp only [Act.put, List.setIfInBounds_toArray, List.set_cons_zero, List.set_cons_succ]
              refine wpAnyH_take (i := 6) (oi := ⟨_, _, _, _, _, _⟩) (v := bxVal a0 a1 a2 a3) rfl (by kernel_rfl) (by kernel_rfl) (by kernel_rfl) (fun _ _ _ h => h) (yl_box (by rfl) _ rfl _ 0 rfl _ _ _ _ _ _ _ _ _ _ _ _ _ _ _ _ (fun _ h => BxIn.cells h.2.2.1)) (by assumption) ?_
              simp only [Act.put, List.setIfInBounds_toArray, List.set_cons_zero, List.set_cons_succ]
              refine wpAnyH_take (i := 7) (oi := ⟨_, _, _, _, _, _⟩) (v := evVal e) rfl (by kernel_rfl) (by kernel_rfl) (by kernel_rfl) (fun _ _ _ h => h) (yl_ev (by rfl) _ rfl _ 0 rfl _ _ _ _ _ _ _ _ _ _ _ _ (fun _ h => EvIn.cells h.2.1)) (by assumption) ?_
              simp only [Act.put, List.setIfInBounds_toArray, List.set_cons_zero, List.set_cons_succ]
              refine held_call (o := ⟨_, _, _, _, _, _⟩) 5 (by kernel_rfl) rfl (by rfl) 11 _ _ rfl #[bxVal c0 c1 c2 c3, evVal e] rfl (run_call Try.func11 (by kernel_rfl) (by kernel_rfl)) ?_
              refine (refHasBx_any _ _ e _ HC hf).mono ?_
              rintro r v15 ⟨rfl, kb⟩
              replace D := D.trans (kb.mono D.size)
              replace HA := HA.on kb
              replace HS := HS.on kb
              replace IA := IA.on kb
              replace IS := IS.on kb
              replace IE := IE.on kb
              replace HB := HB.on kb
              replace IB := IB.on kb
              replace HC := HC.on kb
              replace IC := IC.on kb
              clear kb
              clear hHeld
              refine ⟨.bool true, ret_bool hj, ⟨IC, IE, IA, IB⟩, fun hHeld => ?_⟩
              simp only [Act.put, List.setIfInBounds_toArray, List.set_cons_zero, List.set_cons_succ]
              refine held_call (o := ⟨_, _, _, _, _, _⟩) 8 (by kernel_rfl) rfl (by rfl) 11 _ _ rfl #[bxVal a0 a1 a2 a3, evVal e] rfl (run_call Try.func11 (by kernel_rfl) (by kernel_rfl)) ?_
              refine (refHasBx_any _ _ e _ HA hf).mono ?_
              rintro r v16 ⟨rfl, kb⟩
              replace D := D.trans (kb.mono D.size)
              replace HA := HA.on kb
              replace HS := HS.on kb
              replace IA := IA.on kb
              replace IS := IS.on kb
              replace IE := IE.on kb
              replace HB := HB.on kb
              replace IB := IB.on kb
              replace HC := HC.on kb
              replace IC := IC.on kb
              clear kb
              clear hHeld
              refine ⟨.bool false, ret_bool ha, ⟨IC, IE, IA, IB⟩, fun hHeld => ?_⟩
              simp only [Act.put, List.setIfInBounds_toArray, List.set_cons_zero, List.set_cons_succ]
              refine wpAnyH_take (i := 9) (oi := ⟨_, _, _, _, _, _⟩) (v := .bool false) rfl (by kernel_rfl) (by kernel_rfl) (by kernel_rfl) (fun _ _ _ h => h) (yl_move (by rfl) _ rfl _ rfl) (by assumption) ?_
              simp only [Act.put, List.setIfInBounds_toArray, List.set_cons_zero, List.set_cons_succ]
              refine wpAnyH_take (i := 10) (oi := ⟨_, _, _, _, _, _⟩) (v := bxVal b0 b1 b2 b3) rfl (by kernel_rfl) (by kernel_rfl) (by kernel_rfl) (fun _ _ _ h => h) (yl_box (by rfl) _ rfl _ 0 rfl _ _ _ _ _ _ _ _ _ _ _ _ _ _ _ _ (fun _ h => BxIn.cells h.2.2.2)) (by assumption) ?_
              simp only [Act.put, List.setIfInBounds_toArray, List.set_cons_zero, List.set_cons_succ]
              refine wpAnyH_take (i := 11) (oi := ⟨_, _, _, _, _, _⟩) (v := evVal e) rfl (by kernel_rfl) (by kernel_rfl) (by kernel_rfl) (fun _ _ _ h => h) (yl_ev (by rfl) _ rfl _ 0 rfl _ _ _ _ _ _ _ _ _ _ _ _ (fun _ h => EvIn.cells h.2.1)) (by assumption) ?_
              simp only [Act.put, List.setIfInBounds_toArray, List.set_cons_zero, List.set_cons_succ]
              refine held_call (o := ⟨_, _, _, _, _, _⟩) 12 (by kernel_rfl) rfl (by rfl) 11 _ _ rfl #[bxVal b0 b1 b2 b3, evVal e] rfl (run_call Try.func11 (by kernel_rfl) (by kernel_rfl)) ?_
              refine (refHasBx_any _ _ e _ HB hf).mono ?_
              rintro r v17 ⟨rfl, kb⟩
              replace D := D.trans (kb.mono D.size)
              replace HA := HA.on kb
              replace HS := HS.on kb
              replace IA := IA.on kb
              replace IS := IS.on kb
              replace IE := IE.on kb
              replace HB := HB.on kb
              replace IB := IB.on kb
              replace HC := HC.on kb
              replace IC := IC.on kb
              clear kb
              clear hHeld
              refine ⟨.bool true, ret_bool hb, ⟨IC, IE, IA, IB⟩, fun hHeld => ?_⟩
              simp only [Act.put, List.setIfInBounds_toArray, List.set_cons_zero, List.set_cons_succ]
              refine wpAnyH_take (i := 13) (oi := ⟨_, _, _, _, _, _⟩) (v := .bool true) rfl (by kernel_rfl) (by kernel_rfl) (by kernel_rfl) (fun _ _ _ h => h) (yl_pickF (by rfl) _ _ _ rfl rfl _ rfl) (by assumption) ?_
              simp only [Act.put, List.setIfInBounds_toArray, List.set_cons_zero, List.set_cons_succ]
              refine wpAnyH_take (i := 14) (oi := ⟨_, _, _, _, _, _⟩) (v := .bool true) rfl (by kernel_rfl) (by kernel_rfl) (by kernel_rfl) (fun _ _ _ h => h) (yl_eqB (by rfl) _ _ _ rfl true true rfl rfl) (by assumption) ?_
              simp only [Act.put, List.setIfInBounds_toArray, List.set_cons_zero, List.set_cons_succ]
              refine wpAnyH_take (i := 15) (oi := ⟨_, _, _, _, _, _⟩) (v := .bool true) rfl (by kernel_rfl) (by kernel_rfl) (by kernel_rfl) (fun _ _ _ h => h) (yl_pickT (by rfl) _ _ _ rfl rfl _ rfl) (by assumption) ?_
              simp only [Act.put, List.setIfInBounds_toArray, List.set_cons_zero, List.set_cons_succ]
              refine wpAnyH_take (i := 16) (oi := ⟨_, _, _, _, _, _⟩) (v := .bool true) rfl (by kernel_rfl) (by kernel_rfl) (by kernel_rfl) (fun _ _ _ h => h) (yl_move (by rfl) _ rfl _ rfl) (by assumption) ?_
              simp only [Act.put, List.setIfInBounds_toArray, List.set_cons_zero, List.set_cons_succ]
              refine wpAnyH_take (i := 17) (oi := ⟨_, _, _, _, _, _⟩) (v := bxVal a0 a1 a2 a3) rfl (by kernel_rfl) (by kernel_rfl) (by kernel_rfl) (fun _ _ _ h => h) (yl_box (by rfl) _ rfl _ 0 rfl _ _ _ _ _ _ _ _ _ _ _ _ _ _ _ _ (fun _ h => BxIn.cells h.2.2.1)) (by assumption) ?_
              simp only [Act.put, List.setIfInBounds_toArray, List.set_cons_zero, List.set_cons_succ]
              refine wpAnyH_take (i := 18) (oi := ⟨_, _, _, _, _, _⟩) (v := bxVal c0 c1 c2 c3) rfl (by kernel_rfl) (by kernel_rfl) (by kernel_rfl) (fun _ _ _ h => h) (yl_box (by rfl) _ rfl _ 0 rfl _ _ _ _ _ _ _ _ _ _ _ _ _ _ _ _ (fun _ h => BxIn.cells h.1)) (by assumption) ?_
              simp only [Act.put, List.setIfInBounds_toArray, List.set_cons_zero, List.set_cons_succ]
              refine held_call (o := ⟨_, _, _, _, _, _⟩) 19 (by kernel_rfl) rfl (by rfl) 12 _ _ rfl #[bxVal a0 a1 a2 a3, bxVal c0 c1 c2 c3] rfl (run_call Try.func12 (by kernel_rfl) (by kernel_rfl)) ?_
              refine (P.in_ _ _ a _ _ HA HC FA.fit FC).mono ?_
              rintro r v18 ⟨rfl, kb⟩
              replace D := D.trans (kb.mono D.size)
              replace HA := HA.on kb
              replace HS := HS.on kb
              replace IA := IA.on kb
              replace IS := IS.on kb
              replace IE := IE.on kb
              replace HB := HB.on kb
              replace IB := IB.on kb
              replace HC := HC.on kb
              replace IC := IC.on kb
              clear kb
              clear hHeld
              refine ⟨.bool true, ret_bool hin.1, ⟨IC, IE, IA, IB⟩, fun hHeld => ?_⟩
              simp only [Act.put, List.setIfInBounds_toArray, List.set_cons_zero, List.set_cons_succ]
              refine wpAnyH_take (i := 20) (oi := ⟨_, _, _, _, _, _⟩) (v := .bool true) rfl (by kernel_rfl) (by kernel_rfl) (by kernel_rfl) (fun _ _ _ h => h) (yl_pickT (by rfl) _ _ _ rfl rfl _ rfl) (by assumption) ?_
              simp only [Act.put, List.setIfInBounds_toArray, List.set_cons_zero, List.set_cons_succ]
              refine wpAnyH_take (i := 21) (oi := ⟨_, _, _, _, _, _⟩) (v := .bool true) rfl (by kernel_rfl) (by kernel_rfl) (by kernel_rfl) (fun _ _ _ h => h) (yl_move (by rfl) _ rfl _ rfl) (by assumption) ?_
              simp only [Act.put, List.setIfInBounds_toArray, List.set_cons_zero, List.set_cons_succ]
              refine wpAnyH_take (i := 22) (oi := ⟨_, _, _, _, _, _⟩) (v := bxVal b0 b1 b2 b3) rfl (by kernel_rfl) (by kernel_rfl) (by kernel_rfl) (fun _ _ _ h => h) (yl_box (by rfl) _ rfl _ 0 rfl _ _ _ _ _ _ _ _ _ _ _ _ _ _ _ _ (fun _ h => BxIn.cells h.2.2.2)) (by assumption) ?_
              simp only [Act.put, List.setIfInBounds_toArray, List.set_cons_zero, List.set_cons_succ]
              refine wpAnyH_take (i := 23) (oi := ⟨_, _, _, _, _, _⟩) (v := bxVal c0 c1 c2 c3) rfl (by kernel_rfl) (by kernel_rfl) (by kernel_rfl) (fun _ _ _ h => h) (yl_box (by rfl) _ rfl _ 0 rfl _ _ _ _ _ _ _ _ _ _ _ _ _ _ _ _ (fun _ h => BxIn.cells h.1)) (by assumption) ?_
              simp only [Act.put, List.setIfInBounds_toArray, List.set_cons_zero, List.set_cons_succ]
              refine held_call (o := ⟨_, _, _, _, _, _⟩) 24 (by kernel_rfl) rfl (by rfl) 12 _ _ rfl #[bxVal b0 b1 b2 b3, bxVal c0 c1 c2 c3] rfl (run_call Try.func12 (by kernel_rfl) (by kernel_rfl)) ?_
              refine (P.in_ _ _ _ _ _ HB HC FB.fit FC).mono ?_
              rintro r v19 ⟨rfl, kb⟩
              replace D := D.trans (kb.mono D.size)
              replace HA := HA.on kb
              replace HS := HS.on kb
              replace IA := IA.on kb
              replace IS := IS.on kb
              replace IE := IE.on kb
              replace HB := HB.on kb
              replace IB := IB.on kb
              replace HC := HC.on kb
              replace IC := IC.on kb
              clear kb
              clear hHeld
              refine ⟨.bool true, ret_bool hin.2, ⟨IC, IE, IA, IB⟩, fun hHeld => ?_⟩
              simp only [Act.put, List.setIfInBounds_toArray, List.set_cons_zero, List.set_cons_succ]
              refine wpAnyH_take (i := 25) (oi := ⟨_, _, _, _, _, _⟩) (v := .bool true) rfl (by kernel_rfl) (by kernel_rfl) (by kernel_rfl) (fun _ _ _ h => h) (yl_pickT (by rfl) _ _ _ rfl rfl _ rfl) (by assumption) ?_
              simp only [Act.put, List.setIfInBounds_toArray, List.set_cons_zero, List.set_cons_succ]
              refine wpAnyH_take (i := 26) (oi := ⟨_, _, _, _, _, _⟩) (v := .bool true) rfl (by kernel_rfl) (by kernel_rfl) (by kernel_rfl) (fun _ _ _ h => h) (yl_assign (by rfl) _ rfl _ rfl) (by assumption) ?_
              simp only [Act.put, List.setIfInBounds_toArray, List.set_cons_zero, List.set_cons_succ]
              refine wpAnyH_done (by kernel_rfl) ?_ _
              clear hHeld
              refine hK8 _ _ ?_
              clear hK8 K8
              refine wp_ret ?_
              go_ret
              exact ⟨rfl, D⟩
            · replace hj : hasE (a.put 3 (orV a.s3 s)) e = false := by rw [hj, ha, hb]; rfl
              refine wp_region_held_drew (S := fun w' => BxIn w' gC c0 c1 c2 c3 ∧ EvIn w' gb3 e ∧ BxIn w' gb1 a0 a1 a2 a3 ∧ BxIn w' gb12 b0 b1 b2 b3) (by kernel_rfl) ⟨IC, IE, IA, IB⟩ (fun hHeld => ?_)
              have kb : Below v13.heap.size v13 v13.drew := (Below.refl _ v13).drew
              replace D := D.trans (kb.mono D.size)
              replace HA := HA.on kb
              replace HS := HS.on kb
              replace IA := IA.on kb
              replace IS := IS.on kb
              replace IE := IE.on kb
              replace HB := HB.on kb
              replace IB := IB.on kb
              replace HC := HC.on kb
              replace IC := IC.on kb
              clear kb
              generalize v13.drew = v14 at D hHeld HA HS IA IS IE HB IB HC IC ⊢
              refine wpAnyH_take (i := 0) (oi := ⟨_, _, _, _, _, _⟩) (v := .int .i64 ((differBx a (a.put 3 s)).1)) rfl (by kernel_rfl) (by kernel_rfl) (by kernel_rfl) (fun _ _ _ h => h) (yl_move (by rfl) _ rfl _ rfl) (by assumption) ?_
              simp only [Act.put, List.setIfInBounds_toArray, List.set_cons_zero, List.set_cons_succ]
              refine wpAnyH_take (i := 1) (oi := ⟨_, _, _, _, _, _⟩) (v := .bool true) rfl (by kernel_rfl) (by kernel_rfl) (by kernel_rfl) (fun _ _ _ h => h) (yl_leqI (by rfl) _ _ _ rfl ((differBx a (a.put 3 s)).1) (1) true rfl rfl (by simpa using differ_put a 3 (by omega) s)) (by assumption) ?_
              simp only [Act.put, List.setIfInBounds_toArray, List.set_cons_zero, List.set_cons_succ]
              refine wpAnyH_take (i := 2) (oi := ⟨_, _, _, _, _, _⟩) (v := .bool true) rfl (by kernel_rfl) (by kernel_rfl) (by kernel_rfl) (fun _ _ _ h => h) (yl_move (by rfl) _ rfl _ rfl) (by assumption) ?_
              simp only [Act.put, List.setIfInBounds_toArray, List.set_cons_zero, List.set_cons_succ]
              refine wpAnyH_take (i := 3) (oi := ⟨_, _, _, _, _, _⟩) (v := bxVal c0 c1 c2 c3) rfl (by kernel_rfl) (by kernel_rfl) (by kernel_rfl) (fun _ _ _ h => h) (yl_box (by rfl) _ rfl _ 0 rfl _ _ _ _ _ _ _ _ _ _ _ _ _ _ _ _ (fun _ h => BxIn.cells h.1)) (by assumption) ?_
              simp only [Act.put, List.setIfInBounds_toArray, List.set_cons_zero, List.set_cons_succ]
              refine wpAnyH_take (i := 4) (oi := ⟨_, _, _, _, _, _⟩) (v := evVal e) rfl (by kernel_rfl) (by kernel_rfl) (by kernel_rfl) (fun _ _ _ h => h) (yl_ev (by rfl) _ rfl _ 0 rfl _ _ _ _ _ _ _ _ _ _ _ _ (fun _ h => EvIn.cells h.2.1)) (by assumption) ?_
              simp only [Act.put, List.setIfInBounds_toArray, List.set_cons_zero, List.set_cons_succ]
              refine wpAnyH_take (i := 6) (oi := ⟨_, _, _, _, _, _⟩) (v := bxVal a0 a1 a2 a3) rfl (by kernel_rfl) (by kernel_rfl) (by kernel_rfl) (fun _ _ _ h => h) (yl_box (by rfl) _ rfl _ 0 rfl _ _ _ _ _ _ _ _ _ _ _ _ _ _ _ _ (fun _ h => BxIn.cells h.2.2.1)) (by assumption) ?_
              simp only [Act.put, List.setIfInBounds_toArray, List.set_cons_zero, List.set_cons_succ]
              refine wpAnyH_take (i := 7) (oi := ⟨_, _, _, _, _, _⟩) (v := evVal e) rfl (by kernel_rfl) (by kernel_rfl) (by kernel_rfl) (fun _ _ _ h => h) (yl_ev (by rfl) _ rfl _ 0 rfl _ _ _ _ _ _ _ _ _ _ _ _ (fun _ h => EvIn.cells h.2.1)) (by assumption) ?_
              simp only [Act.put, List.setIfInBounds_toArray, List.set_cons_zero, List.set_cons_succ]
              refine held_call (o := ⟨_, _, _, _, _, _⟩) 5 (by kernel_rfl) rfl (by rfl) 11 _ _ rfl #[bxVal c0 c1 c2 c3, evVal e] rfl (run_call Try.func11 (by kernel_rfl) (by kernel_rfl)) ?_
              refine (refHasBx_any _ _ e _ HC hf).mono ?_
              rintro r v15 ⟨rfl, kb⟩
              replace D := D.trans (kb.mono D.size)
              replace HA := HA.on kb
              replace HS := HS.on kb
              replace IA := IA.on kb
              replace IS := IS.on kb
              replace IE := IE.on kb
              replace HB := HB.on kb
              replace IB := IB.on kb
              replace HC := HC.on kb
              replace IC := IC.on kb
              clear kb
              clear hHeld
              refine ⟨.bool false, ret_bool hj, ⟨IC, IE, IA, IB⟩, fun hHeld => ?_⟩
              simp only [Act.put, List.setIfInBounds_toArray, List.set_cons_zero, List.set_cons_succ]
              refine held_call (o := ⟨_, _, _, _, _, _⟩) 8 (by kernel_rfl) rfl (by rfl) 11 _ _ rfl #[bxVal a0 a1 a2 a3, evVal e] rfl (run_call Try.func11 (by kernel_rfl) (by kernel_rfl)) ?_
              refine (refHasBx_any _ _ e _ HA hf).mono ?_
              rintro r v16 ⟨rfl, kb⟩
              replace D := D.trans (kb.mono D.size)
              replace HA := HA.on kb
              replace HS := HS.on kb
              replace IA := IA.on kb
              replace IS := IS.on kb
              replace IE := IE.on kb
              replace HB := HB.on kb
              replace IB := IB.on kb
              replace HC := HC.on kb
              replace IC := IC.on kb
              clear kb
              clear hHeld
              refine ⟨.bool false, ret_bool ha, ⟨IC, IE, IA, IB⟩, fun hHeld => ?_⟩
              simp only [Act.put, List.setIfInBounds_toArray, List.set_cons_zero, List.set_cons_succ]
              refine wpAnyH_take (i := 9) (oi := ⟨_, _, _, _, _, _⟩) (v := .bool false) rfl (by kernel_rfl) (by kernel_rfl) (by kernel_rfl) (fun _ _ _ h => h) (yl_move (by rfl) _ rfl _ rfl) (by assumption) ?_
              simp only [Act.put, List.setIfInBounds_toArray, List.set_cons_zero, List.set_cons_succ]
              refine wpAnyH_take (i := 10) (oi := ⟨_, _, _, _, _, _⟩) (v := bxVal b0 b1 b2 b3) rfl (by kernel_rfl) (by kernel_rfl) (by kernel_rfl) (fun _ _ _ h => h) (yl_box (by rfl) _ rfl _ 0 rfl _ _ _ _ _ _ _ _ _ _ _ _ _ _ _ _ (fun _ h => BxIn.cells h.2.2.2)) (by assumption) ?_
              simp only [Act.put, List.setIfInBounds_toArray, List.set_cons_zero, List.set_cons_succ]
              refine wpAnyH_take (i := 11) (oi := ⟨_, _, _, _, _, _⟩) (v := evVal e) rfl (by kernel_rfl) (by kernel_rfl) (by kernel_rfl) (fun _ _ _ h => h) (yl_ev (by rfl) _ rfl _ 0 rfl _ _ _ _ _ _ _ _ _ _ _ _ (fun _ h => EvIn.cells h.2.1)) (by assumption) ?_
              simp only [Act.put, List.setIfInBounds_toArray, List.set_cons_zero, List.set_cons_succ]
              refine held_call (o := ⟨_, _, _, _, _, _⟩) 12 (by kernel_rfl) rfl (by rfl) 11 _ _ rfl #[bxVal b0 b1 b2 b3, evVal e] rfl (run_call Try.func11 (by kernel_rfl) (by kernel_rfl)) ?_
              refine (refHasBx_any _ _ e _ HB hf).mono ?_
              rintro r v17 ⟨rfl, kb⟩
              replace D := D.trans (kb.mono D.size)
              replace HA := HA.on kb
              replace HS := HS.on kb
              replace IA := IA.on kb
              replace IS := IS.on kb
              replace IE := IE.on kb
              replace HB := HB.on kb
              replace IB := IB.on kb
              replace HC := HC.on kb
              replace IC := IC.on kb
              clear kb
              clear hHeld
              refine ⟨.bool false, ret_bool hb, ⟨IC, IE, IA, IB⟩, fun hHeld => ?_⟩
              simp only [Act.put, List.setIfInBounds_toArray, List.set_cons_zero, List.set_cons_succ]
              refine wpAnyH_take (i := 13) (oi := ⟨_, _, _, _, _, _⟩) (v := .bool false) rfl (by kernel_rfl) (by kernel_rfl) (by kernel_rfl) (fun _ _ _ h => h) (yl_pickF (by rfl) _ _ _ rfl rfl _ rfl) (by assumption) ?_
              simp only [Act.put, List.setIfInBounds_toArray, List.set_cons_zero, List.set_cons_succ]
              refine wpAnyH_take (i := 14) (oi := ⟨_, _, _, _, _, _⟩) (v := .bool true) rfl (by kernel_rfl) (by kernel_rfl) (by kernel_rfl) (fun _ _ _ h => h) (yl_eqB (by rfl) _ _ _ rfl false false rfl rfl) (by assumption) ?_
              simp only [Act.put, List.setIfInBounds_toArray, List.set_cons_zero, List.set_cons_succ]
              refine wpAnyH_take (i := 15) (oi := ⟨_, _, _, _, _, _⟩) (v := .bool true) rfl (by kernel_rfl) (by kernel_rfl) (by kernel_rfl) (fun _ _ _ h => h) (yl_pickT (by rfl) _ _ _ rfl rfl _ rfl) (by assumption) ?_
              simp only [Act.put, List.setIfInBounds_toArray, List.set_cons_zero, List.set_cons_succ]
              refine wpAnyH_take (i := 16) (oi := ⟨_, _, _, _, _, _⟩) (v := .bool true) rfl (by kernel_rfl) (by kernel_rfl) (by kernel_rfl) (fun _ _ _ h => h) (yl_move (by rfl) _ rfl _ rfl) (by assumption) ?_
              simp only [Act.put, List.setIfInBounds_toArray, List.set_cons_zero, List.set_cons_succ]
              refine wpAnyH_take (i := 17) (oi := ⟨_, _, _, _, _, _⟩) (v := bxVal a0 a1 a2 a3) rfl (by kernel_rfl) (by kernel_rfl) (by kernel_rfl) (fun _ _ _ h => h) (yl_box (by rfl) _ rfl _ 0 rfl _ _ _ _ _ _ _ _ _ _ _ _ _ _ _ _ (fun _ h => BxIn.cells h.2.2.1)) (by assumption) ?_
              simp only [Act.put, List.setIfInBounds_toArray, List.set_cons_zero, List.set_cons_succ]
              refine wpAnyH_take (i := 18) (oi := ⟨_, _, _, _, _, _⟩) (v := bxVal c0 c1 c2 c3) rfl (by kernel_rfl) (by kernel_rfl) (by kernel_rfl) (fun _ _ _ h => h) (yl_box (by rfl) _ rfl _ 0 rfl _ _ _ _ _ _ _ _ _ _ _ _ _ _ _ _ (fun _ h => BxIn.cells h.1)) (by assumption) ?_
              simp only [Act.put, List.setIfInBounds_toArray, List.set_cons_zero, List.set_cons_succ]
              refine held_call (o := ⟨_, _, _, _, _, _⟩) 19 (by kernel_rfl) rfl (by rfl) 12 _ _ rfl #[bxVal a0 a1 a2 a3, bxVal c0 c1 c2 c3] rfl (run_call Try.func12 (by kernel_rfl) (by kernel_rfl)) ?_
              refine (P.in_ _ _ a _ _ HA HC FA.fit FC).mono ?_
              rintro r v18 ⟨rfl, kb⟩
              replace D := D.trans (kb.mono D.size)
              replace HA := HA.on kb
              replace HS := HS.on kb
              replace IA := IA.on kb
              replace IS := IS.on kb
              replace IE := IE.on kb
              replace HB := HB.on kb
              replace IB := IB.on kb
              replace HC := HC.on kb
              replace IC := IC.on kb
              clear kb
              clear hHeld
              refine ⟨.bool true, ret_bool hin.1, ⟨IC, IE, IA, IB⟩, fun hHeld => ?_⟩
              simp only [Act.put, List.setIfInBounds_toArray, List.set_cons_zero, List.set_cons_succ]
              refine wpAnyH_take (i := 20) (oi := ⟨_, _, _, _, _, _⟩) (v := .bool true) rfl (by kernel_rfl) (by kernel_rfl) (by kernel_rfl) (fun _ _ _ h => h) (yl_pickT (by rfl) _ _ _ rfl rfl _ rfl) (by assumption) ?_
              simp only [Act.put, List.setIfInBounds_toArray, List.set_cons_zero, List.set_cons_succ]
              refine wpAnyH_take (i := 21) (oi := ⟨_, _, _, _, _, _⟩) (v := .bool true) rfl (by kernel_rfl) (by kernel_rfl) (by kernel_rfl) (fun _ _ _ h => h) (yl_move (by rfl) _ rfl _ rfl) (by assumption) ?_
              simp only [Act.put, List.setIfInBounds_toArray, List.set_cons_zero, List.set_cons_succ]
              refine wpAnyH_take (i := 22) (oi := ⟨_, _, _, _, _, _⟩) (v := bxVal b0 b1 b2 b3) rfl (by kernel_rfl) (by kernel_rfl) (by kernel_rfl) (fun _ _ _ h => h) (yl_box (by rfl) _ rfl _ 0 rfl _ _ _ _ _ _ _ _ _ _ _ _ _ _ _ _ (fun _ h => BxIn.cells h.2.2.2)) (by assumption) ?_
              simp only [Act.put, List.setIfInBounds_toArray, List.set_cons_zero, List.set_cons_succ]
              refine wpAnyH_take (i := 23) (oi := ⟨_, _, _, _, _, _⟩) (v := bxVal c0 c1 c2 c3) rfl (by kernel_rfl) (by kernel_rfl) (by kernel_rfl) (fun _ _ _ h => h) (yl_box (by rfl) _ rfl _ 0 rfl _ _ _ _ _ _ _ _ _ _ _ _ _ _ _ _ (fun _ h => BxIn.cells h.1)) (by assumption) ?_
              simp only [Act.put, List.setIfInBounds_toArray, List.set_cons_zero, List.set_cons_succ]
              refine held_call (o := ⟨_, _, _, _, _, _⟩) 24 (by kernel_rfl) rfl (by rfl) 12 _ _ rfl #[bxVal b0 b1 b2 b3, bxVal c0 c1 c2 c3] rfl (run_call Try.func12 (by kernel_rfl) (by kernel_rfl)) ?_
              refine (P.in_ _ _ _ _ _ HB HC FB.fit FC).mono ?_
              rintro r v19 ⟨rfl, kb⟩
              replace D := D.trans (kb.mono D.size)
              replace HA := HA.on kb
              replace HS := HS.on kb
              replace IA := IA.on kb
              replace IS := IS.on kb
              replace IE := IE.on kb
              replace HB := HB.on kb
              replace IB := IB.on kb
              replace HC := HC.on kb
              replace IC := IC.on kb
              clear kb
              clear hHeld
              refine ⟨.bool true, ret_bool hin.2, ⟨IC, IE, IA, IB⟩, fun hHeld => ?_⟩
              simp only [Act.put, List.setIfInBounds_toArray, List.set_cons_zero, List.set_cons_succ]
              refine wpAnyH_take (i := 25) (oi := ⟨_, _, _, _, _, _⟩) (v := .bool true) rfl (by kernel_rfl) (by kernel_rfl) (by kernel_rfl) (fun _ _ _ h => h) (yl_pickT (by rfl) _ _ _ rfl rfl _ rfl) (by assumption) ?_
              simp only [Act.put, List.setIfInBounds_toArray, List.set_cons_zero, List.set_cons_succ]
              refine wpAnyH_take (i := 26) (oi := ⟨_, _, _, _, _, _⟩) (v := .bool true) rfl (by kernel_rfl) (by kernel_rfl) (by kernel_rfl) (fun _ _ _ h => h) (yl_assign (by rfl) _ rfl _ rfl) (by assumption) ?_
              simp only [Act.put, List.setIfInBounds_toArray, List.set_cons_zero, List.set_cons_succ]
              refine wpAnyH_done (by kernel_rfl) ?_ _
              clear hHeld
              refine hK8 _ _ ?_
              clear hK8 K8
              refine wp_ret ?_
              go_ret
              exact ⟨rfl, D⟩
          clear hK6
          refine wp_region_held_drew (S := fun w' => BxIn w' gb1 a0 a1 a2 a3 ∧ StIn w' gb2 t) (by kernel_rfl) ⟨IA, IS⟩ (fun hHeld => ?_)
          have kb : Below v12.heap.size v12 v12.drew := (Below.refl _ v12).drew
          replace D := D.trans (kb.mono D.size)
          replace HA := HA.on kb
          replace HS := HS.on kb
          replace IA := IA.on kb
          replace IS := IS.on kb
          replace IE := IE.on kb
          replace HB := HB.on kb
          replace IB := IB.on kb
          clear kb
          generalize v12.drew = v13 at D hHeld HA HS IA IS IE HB IB ⊢
          refine wpAnyH_take (i := 0) (oi := ⟨_, _, _, _, _, _⟩) (v := bxVal a0 a1 a2 a3) rfl (by kernel_rfl) (by kernel_rfl) (by kernel_rfl) (fun _ _ _ h => h) (yl_box (by rfl) _ rfl _ 0 rfl _ _ _ _ _ _ _ _ _ _ _ _ _ _ _ _ (fun _ h => BxIn.cells h.1)) (by assumption) ?_
          simp only [Act.put, List.setIfInBounds_toArray, List.set_cons_zero, List.set_cons_succ]
          refine wpAnyH_take (i := 1) (oi := ⟨_, _, _, _, _, _⟩) (v := .int .i64 3) rfl (by kernel_rfl) (by kernel_rfl) (by kernel_rfl) (fun _ _ _ h => h) (yl_move (by rfl) _ rfl _ rfl) (by assumption) ?_
          simp only [Act.put, List.setIfInBounds_toArray, List.set_cons_zero, List.set_cons_succ]
          refine wpAnyH_take (i := 2) (oi := ⟨_, _, _, _, _, _⟩) (v := .int .i64 3) rfl (by kernel_rfl) (by kernel_rfl) (by kernel_rfl) (fun _ _ _ h => h) (yl_move (by rfl) _ rfl _ rfl) (by assumption) ?_
          simp only [Act.put, List.setIfInBounds_toArray, List.set_cons_zero, List.set_cons_succ]
          refine wpAnyH_take (i := 3) (oi := ⟨_, _, _, _, _, _⟩) (v := .pointer (some ⟨gb1, 12, none⟩)) rfl (by kernel_rfl) (by kernel_rfl) (by kernel_rfl) (fun _ _ _ h => h) (yl_atBox (by rfl) _ _ rfl _ 3 rfl rfl (by omega)) (by assumption) ?_
          simp only [Act.put, List.setIfInBounds_toArray, List.set_cons_zero, List.set_cons_succ]
          refine wpAnyH_take (i := 4) (oi := ⟨_, _, _, _, _, _⟩) (v := SC.val a3) rfl (by kernel_rfl) (by kernel_rfl) (by kernel_rfl) (fun _ _ _ h => h) (yl_set (by rfl) _ rfl _ 12 rfl _ _ _ _ (fun _ h => BxIn.at3 h.1)) (by assumption) ?_
          simp only [Act.put, List.setIfInBounds_toArray, List.set_cons_zero, List.set_cons_succ]
          refine wpAnyH_take (i := 5) (oi := ⟨_, _, _, _, _, _⟩) (v := SC.val t) rfl (by kernel_rfl) (by kernel_rfl) (by kernel_rfl) (fun _ _ _ h => h) (yl_set (by rfl) _ rfl _ 0 rfl _ _ _ _ (fun _ h => StIn.cells h.2)) (by assumption) ?_
          simp only [Act.put, List.setIfInBounds_toArray, List.set_cons_zero, List.set_cons_succ]
          refine wpAnyH_all (rs := [6, 8]) (by kernel_rfl) (by simp) ?_
          intro j hj
          simp only [List.mem_cons, List.not_mem_nil, or_false] at hj
          rcases hj with rfl | rfl
          · refine op_call (o := ⟨_, _, _, _, _, _⟩) rfl (by rfl) 16 _ _ rfl #[SC.val a3, SC.val t] rfl (run_call Try.func16 (by kernel_rfl) (by kernel_rfl)) ?_
            refine (PS.or _ _ a.s3 s _ (sc_forms HA).1.2.2.2 HS (FA.fit.fit 3 (by omega)) FS).mono ?_
            rintro r v14 ⟨⟨u1, rfl, HO⟩, kb⟩
            replace D := D.trans (kb.mono D.size)
            replace HA := HA.on kb
            replace HS := HS.on kb
            replace IA := IA.on kb
            replace IS := IS.on kb
            replace IE := IE.on kb
            replace HB := HB.on kb
            replace IB := IB.on kb
            clear kb
            clear hHeld
            obtain ⟨o, rfl⟩ := HO.sc
            have hHeld := And.intro IA IS
            refine ⟨SC.val o, rfl, ⟨IA, IS⟩, ?_⟩
            simp only [Act.put, List.setIfInBounds_toArray, List.set_cons_zero, List.set_cons_succ]
            refine wpAnyH_all (rs := [7, 8]) (by kernel_rfl) (by simp) ?_
            intro j hj
            simp only [List.mem_cons, List.not_mem_nil, or_false] at hj
            rcases hj with rfl | rfl
            · refine op_call (o := ⟨_, _, _, _, _, _⟩) rfl (by rfl) 15 _ _ rfl #[bxVal a0 a1 a2 a3, .int .i64 3, SC.val o] rfl (run_call Try.func15 (by kernel_rfl) (by kernel_rfl)) ?_
              refine (P.with_ _ a 3 _ (orV a.s3 s) _ (by omega) (by omega) HA FA.fit HO FO).mono ?_
              rintro r v15 ⟨⟨u1, rfl, HC⟩, kb⟩
              replace D := D.trans (kb.mono D.size)
              replace HA := HA.on kb
              replace HS := HS.on kb
              replace IA := IA.on kb
              replace IS := IS.on kb
              replace IE := IE.on kb
              replace HB := HB.on kb
              replace IB := IB.on kb
              replace HO := HO.on kb
              clear kb
              clear hHeld
              replace HC : BoxAt _ _ (a.put 3 (orV a.s3 s)) := HC
              obtain ⟨c0, c1, c2, c3, rfl, -⟩ := HC.scs
              clear HO
              have hHeld := And.intro IA IS
              refine ⟨bxVal c0 c1 c2 c3, rfl, ⟨IA, IS⟩, ?_⟩
              simp only [Act.put, List.setIfInBounds_toArray, List.set_cons_zero, List.set_cons_succ]
              refine wpAnyH_all (rs := [8]) (by kernel_rfl) (by simp) ?_
              intro j hj
              have hj := List.mem_singleton.1 hj
              subst hj
              refine op_allocBx (o := ⟨_, _, _, _, _, _⟩) rfl (by rfl) rfl (fun v16 gb16 hg IZ kb => ?_)
              have nIA : gb1 ≠ gb16 := by have := lt_heap IA; omega
              have nIS : gb2 ≠ gb16 := by have := lt_heap IS; omega
              have nIE : gb3 ≠ gb16 := by have := lt_heap IE; omega
              have nIB : gb12 ≠ gb16 := by have := lt_heap IB; omega
              have gD : w.heap.size ≤ gb16 := by have := D.size; omega
              clear hg hHeld
              replace D := D.trans (kb.mono D.size)
              replace HA := HA.on kb
              replace HS := HS.on kb
              replace IA := IA.on kb
              replace IS := IS.on kb
              replace IE := IE.on kb
              replace HB := HB.on kb
              replace IB := IB.on kb
              replace HC := HC.on kb
              clear kb
              have hHeld := And.intro IA IS
              refine ⟨⟨IA, IS⟩, ?_⟩
              simp only [Act.put, List.setIfInBounds_toArray, List.set_cons_zero, List.set_cons_succ]
              refine wpAnyH_all (rs := [9]) (by kernel_rfl) (by simp) ?_
              intro j hj
              have hj := List.mem_singleton.1 hj
              subst hj
              refine op_storeBx (o := ⟨_, _, _, _, _, _⟩) rfl (by rfl) _ _ rfl rfl rfl IZ (fun v17 IC ki => ?_)
              replace D := ki.below _ _ gD D
              clear hHeld
              replace HA := ki.boxAt IZ HA
              replace HS := ki.set IZ HS
              replace IA := ki.box IA nIA
              clear nIA
              replace IS := ki.st IS nIS
              clear nIS
              replace IE := ki.ev IE nIE
              clear nIE
              replace HB := ki.boxAt IZ HB
              replace IB := ki.box IB nIB
              clear nIB
              replace HC := ki.boxAt IZ HC
              clear ki IZ gD
              have hHeld := And.intro IA IS
              refine ⟨⟨IA, IS⟩, ?_⟩
              simp only [Act.put, List.setIfInBounds_toArray, List.set_cons_zero, List.set_cons_succ]
              refine wpAnyH_done (by kernel_rfl) ?_ _
              clear hHeld
              exact NEXT _ _ _ _ _ _ _ D HA HS IA IS IE HB IB HC IC
            · refine op_allocBx (o := ⟨_, _, _, _, _, _⟩) rfl (by rfl) rfl (fun v15 gb15 hg IZ kb => ?_)
              have nIA : gb1 ≠ gb15 := by have := lt_heap IA; omega
              have nIS : gb2 ≠ gb15 := by have := lt_heap IS; omega
              have nIE : gb3 ≠ gb15 := by have := lt_heap IE; omega
              have nIB : gb12 ≠ gb15 := by have := lt_heap IB; omega
              have gD : w.heap.size ≤ gb15 := by have := D.size; omega
              clear hg hHeld
              replace D := D.trans (kb.mono D.size)
              replace HA := HA.on kb
              replace HS := HS.on kb
              replace IA := IA.on kb
              replace IS := IS.on kb
              replace IE := IE.on kb
              replace HB := HB.on kb
              replace IB := IB.on kb
              replace HO := HO.on kb
              clear kb
              have hHeld := And.intro IA IS
              refine ⟨⟨IA, IS⟩, ?_⟩
              simp only [Act.put, List.setIfInBounds_toArray, List.set_cons_zero, List.set_cons_succ]
              refine wpAnyH_all (rs := [7]) (by kernel_rfl) (by simp) ?_
              intro j hj
              have hj := List.mem_singleton.1 hj
              subst hj
              refine op_call (o := ⟨_, _, _, _, _, _⟩) rfl (by rfl) 15 _ _ rfl #[bxVal a0 a1 a2 a3, .int .i64 3, SC.val o] rfl (run_call Try.func15 (by kernel_rfl) (by kernel_rfl)) ?_
              refine (P.with_ _ a 3 _ (orV a.s3 s) _ (by omega) (by omega) HA FA.fit HO FO).mono ?_
              rintro r v16 ⟨⟨u1, rfl, HC⟩, kb⟩
              replace D := D.trans (kb.mono D.size)
              replace HA := HA.on kb
              replace HS := HS.on kb
              replace IA := IA.on kb
              replace IS := IS.on kb
              replace IE := IE.on kb
              replace HB := HB.on kb
              replace IB := IB.on kb
              replace HO := HO.on kb
              replace IZ := IZ.on kb
              clear kb
              clear hHeld
              replace HC : BoxAt _ _ (a.put 3 (orV a.s3 s)) := HC
              obtain ⟨c0, c1, c2, c3, rfl, -⟩ := HC.scs
              clear HO
              have hHeld := And.intro IA IS
              refine ⟨bxVal c0 c1 c2 c3, rfl, ⟨IA, IS⟩, ?_⟩
              simp only [Act.put, List.setIfInBounds_toArray, List.set_cons_zero, List.set_cons_succ]
              refine wpAnyH_all (rs := [9]) (by kernel_rfl) (by simp) ?_
              intro j hj
              have hj := List.mem_singleton.1 hj
              subst hj
              refine op_storeBx (o := ⟨_, _, _, _, _, _⟩) rfl (by rfl) _ _ rfl rfl rfl IZ (fun v17 IC ki => ?_)
              replace D := ki.below _ _ gD D
              clear hHeld
              replace HA := ki.boxAt IZ HA
              replace HS := ki.set IZ HS
              replace IA := ki.box IA nIA
              clear nIA
              replace IS := ki.st IS nIS
              clear nIS
              replace IE := ki.ev IE nIE
              clear nIE
              replace HB := ki.boxAt IZ HB
              replace IB := ki.box IB nIB
              clear nIB
              replace HC := ki.boxAt IZ HC
              clear ki IZ gD
              have hHeld := And.intro IA IS
              refine ⟨⟨IA, IS⟩, ?_⟩
              simp only [Act.put, List.setIfInBounds_toArray, List.set_cons_zero, List.set_cons_succ]
              refine wpAnyH_done (by kernel_rfl) ?_ _
              clear hHeld
              exact NEXT _ _ _ _ _ _ _ D HA HS IA IS IE HB IB HC IC
          · refine op_allocBx (o := ⟨_, _, _, _, _, _⟩) rfl (by rfl) rfl (fun v14 gb14 hg IZ kb => ?_)
            have nIA : gb1 ≠ gb14 := by have := lt_heap IA; omega
            have nIS : gb2 ≠ gb14 := by have := lt_heap IS; omega
            have nIE : gb3 ≠ gb14 := by have := lt_heap IE; omega
            have nIB : gb12 ≠ gb14 := by have := lt_heap IB; omega
            have gD : w.heap.size ≤ gb14 := by have := D.size; omega
            clear hg hHeld
            replace D := D.trans (kb.mono D.size)
            replace HA := HA.on kb
            replace HS := HS.on kb
            replace IA := IA.on kb
            replace IS := IS.on kb
            replace IE := IE.on kb
            replace HB := HB.on kb
            replace IB := IB.on kb
            clear kb
            have hHeld := And.intro IA IS
            refine ⟨⟨IA, IS⟩, ?_⟩
            simp only [Act.put, List.setIfInBounds_toArray, List.set_cons_zero, List.set_cons_succ]
            refine wpAnyH_all (rs := [6]) (by kernel_rfl) (by simp) ?_
            intro j hj
            have hj := List.mem_singleton.1 hj
            subst hj
            refine op_call (o := ⟨_, _, _, _, _, _⟩) rfl (by rfl) 16 _ _ rfl #[SC.val a3, SC.val t] rfl (run_call Try.func16 (by kernel_rfl) (by kernel_rfl)) ?_
            refine (PS.or _ _ a.s3 s _ (sc_forms HA).1.2.2.2 HS (FA.fit.fit 3 (by omega)) FS).mono ?_
            rintro r v15 ⟨⟨u1, rfl, HO⟩, kb⟩
            replace D := D.trans (kb.mono D.size)
            replace HA := HA.on kb
            replace HS := HS.on kb
            replace IA := IA.on kb
            replace IS := IS.on kb
            replace IE := IE.on kb
            replace HB := HB.on kb
            replace IB := IB.on kb
            replace IZ := IZ.on kb
            clear kb
            clear hHeld
            obtain ⟨o, rfl⟩ := HO.sc
            have hHeld := And.intro IA IS
            refine ⟨SC.val o, rfl, ⟨IA, IS⟩, ?_⟩
            simp only [Act.put, List.setIfInBounds_toArray, List.set_cons_zero, List.set_cons_succ]
            refine wpAnyH_all (rs := [7]) (by kernel_rfl) (by simp) ?_
            intro j hj
            have hj := List.mem_singleton.1 hj
            subst hj
            refine op_call (o := ⟨_, _, _, _, _, _⟩) rfl (by rfl) 15 _ _ rfl #[bxVal a0 a1 a2 a3, .int .i64 3, SC.val o] rfl (run_call Try.func15 (by kernel_rfl) (by kernel_rfl)) ?_
            refine (P.with_ _ a 3 _ (orV a.s3 s) _ (by omega) (by omega) HA FA.fit HO FO).mono ?_
            rintro r v16 ⟨⟨u1, rfl, HC⟩, kb⟩
            replace D := D.trans (kb.mono D.size)
            replace HA := HA.on kb
            replace HS := HS.on kb
            replace IA := IA.on kb
            replace IS := IS.on kb
            replace IE := IE.on kb
            replace HB := HB.on kb
            replace IB := IB.on kb
            replace IZ := IZ.on kb
            replace HO := HO.on kb
            clear kb
            clear hHeld
            replace HC : BoxAt _ _ (a.put 3 (orV a.s3 s)) := HC
            obtain ⟨c0, c1, c2, c3, rfl, -⟩ := HC.scs
            clear HO
            have hHeld := And.intro IA IS
            refine ⟨bxVal c0 c1 c2 c3, rfl, ⟨IA, IS⟩, ?_⟩
            simp only [Act.put, List.setIfInBounds_toArray, List.set_cons_zero, List.set_cons_succ]
            refine wpAnyH_all (rs := [9]) (by kernel_rfl) (by simp) ?_
            intro j hj
            have hj := List.mem_singleton.1 hj
            subst hj
            refine op_storeBx (o := ⟨_, _, _, _, _, _⟩) rfl (by rfl) _ _ rfl rfl rfl IZ (fun v17 IC ki => ?_)
            replace D := ki.below _ _ gD D
            clear hHeld
            replace HA := ki.boxAt IZ HA
            replace HS := ki.set IZ HS
            replace IA := ki.box IA nIA
            clear nIA
            replace IS := ki.st IS nIS
            clear nIS
            replace IE := ki.ev IE nIE
            clear nIE
            replace HB := ki.boxAt IZ HB
            replace IB := ki.box IB nIB
            clear nIB
            replace HC := ki.boxAt IZ HC
            clear ki IZ gD
            have hHeld := And.intro IA IS
            refine ⟨⟨IA, IS⟩, ?_⟩
            simp only [Act.put, List.setIfInBounds_toArray, List.set_cons_zero, List.set_cons_succ]
            refine wpAnyH_done (by kernel_rfl) ?_ _
            clear hHeld
            exact NEXT _ _ _ _ _ _ _ D HA HS IA IS IE HB IB HC IC
theorem boxJoins_walk (P : BoxProg) (PS : SetProg) (v : Value) (a : BoxV) (x : Int) (u : Value) (s : SetV) (e : EvV) (w : World) (HA : BoxAt w v a) (HS : SetAt w u s) (hf : evFit e) (he : inE e) :
    Calls Try.prog 4 #[v, .int .i64 x, u, evVal e] w fun r w' => r = .returned (.bool true) ∧ Below w.heap.size w w' := by
  rcases (by omega : x % 18446744073709551616 % 4 = 0 ∨ x % 18446744073709551616 % 4 = 1 ∨ x % 18446744073709551616 % 4 = 2 ∨ x % 18446744073709551616 % 4 = 3) with hm | hm | hm | hm
  · exact joins_0 P PS v a x hm u s e w HA HS hf he
  · exact joins_1 P PS v a x hm u s e w HA HS hf he
  · exact joins_2 P PS v a x hm u s e w HA HS hf he
  · exact joins_3 P PS v a x hm u s e w HA HS hf he
end Go.Proofs.Yteahjihmpchcbaa
