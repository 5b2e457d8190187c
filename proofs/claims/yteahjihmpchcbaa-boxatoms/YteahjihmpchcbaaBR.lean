/-
  The walk of the law BoxAtoms, out of the program's contracts.
-/
import Derived.Test.YteahjihmpchcbaaBN
set_option linter.unusedSimpArgs false
set_option linter.unusedVariables false
namespace Go.Proofs.Yteahjihmpchcbaa
open Go.RowKit

set_option maxHeartbeats 8000000 in
set_option maxRecDepth 100000 in
theorem atoms_low (P : BoxProg) (x : Int) (x0 : -9223372036854775808 ≤ x) (x1 : x ≤ 9223372036854775807) (hx : x < 0) (u : Value) (s : SetV) (e : EvV) (w : World) (HS : SetAt w u s) (hf : evFit e) (he : inE e) :
    Calls Try.prog 5 #[.int .i64 x, u, evVal e] w fun r w' => r = .returned (.bool true) ∧ Below w.heap.size w w' := by
  obtain ⟨t, rfl⟩ := HS.sc
  have D := Below.refl w.heap.size w
  go_enter Try.func5, Try.ntmps5
  refine wp_seq_k (fun K1 hK1 => ?_)
  refine wp_region_lit ?_
  refine wl_boxSt (o := ⟨_, _, _, _, _, _⟩) (by rfl) _ rfl rfl (fun v1 gb1 IS kb => ?_)
  simp only [Act.put, List.setIfInBounds_toArray, List.set_cons_zero, List.set_cons_succ]
  replace D := D.trans (kb.mono D.size)
  replace HS := HS.on kb
  clear kb
  refine wl_boxEv (o := ⟨_, _, _, _, _, _⟩) (by rfl) _ rfl rfl (fun v2 gb2 IE kb => ?_)
  simp only [Act.put, List.setIfInBounds_toArray, List.set_cons_zero, List.set_cons_succ]
  replace D := D.trans (kb.mono D.size)
  replace HS := HS.on kb
  replace IS := IS.on kb
  clear kb
  refine wl_yield (o := ⟨_, _, _, _, _, _⟩) (.bool false) (yl_assign (by rfl) _ rfl _ rfl) ?_
  simp only [Act.put, List.setIfInBounds_toArray, List.set_cons_zero, List.set_cons_succ]
  refine wpList_nil ?_
  refine hK1 _ _ ?_
  clear hK1 K1
  refine wp_seq_k (fun K2 hK2 => ?_)
  refine wp_seq_k (fun K3 hK3 => ?_)
  refine wp_region_lit ?_
  refine wl_call (o := ⟨_, _, _, _, _, _⟩) (by rfl) 7 _ _ rfl #[] rfl (run_call Try.func7 (by kernel_rfl) (by kernel_rfl)) ?_
  refine (awake4_any P _).mono ?_
  rintro r v3 ⟨rfl, kb⟩
  replace D := D.trans (kb.mono D.size)
  replace HS := HS.on kb
  replace IS := IS.on kb
  replace IE := IE.on kb
  clear kb
  refine ⟨.bool true, rfl, ?_⟩
  simp only [Act.put, List.setIfInBounds_toArray, List.set_cons_zero, List.set_cons_succ]
  refine wl_yield (o := ⟨_, _, _, _, _, _⟩) (.bool false) (yl_not (by rfl) _ _ rfl true rfl) ?_
  simp only [Act.put, List.setIfInBounds_toArray, List.set_cons_zero, List.set_cons_succ]
  refine wl_yield (o := ⟨_, _, _, _, _, _⟩) (.bool false) (yl_move (by rfl) _ rfl _ rfl) ?_
  simp only [Act.put, List.setIfInBounds_toArray, List.set_cons_zero, List.set_cons_succ]
  refine wl_yield (o := ⟨_, _, _, _, _, _⟩) (SC.val t) (yl_set (by rfl) _ rfl _ 0 rfl _ _ _ _ (fun _ h => by subst h; exact StIn.cells IS)) ?_
  simp only [Act.put, List.setIfInBounds_toArray, List.set_cons_zero, List.set_cons_succ]
  refine wl_rowSt1 (o := ⟨_, _, _, _, _, _⟩) (by rfl) _ rfl rfl HS (fun v4 y4 HY kb => ?_)
  simp only [Act.put, List.setIfInBounds_toArray, List.set_cons_zero, List.set_cons_succ]
  replace D := D.trans (kb.mono D.size)
  replace HS := HS.on kb
  replace IS := IS.on kb
  replace IE := IE.on kb
  clear kb
  refine wl_call (o := ⟨_, _, _, _, _, _⟩) (by rfl) 13 _ _ rfl #[y4] rfl (run_call Try.func13 (by kernel_rfl) (by kernel_rfl)) ?_
  refine (refFew_below HY).mono ?_
  rintro r v5 ⟨rfl, kb⟩
  replace D := D.trans (kb.mono D.size)
  replace HS := HS.on kb
  replace IS := IS.on kb
  replace IE := IE.on kb
  clear kb
  cases hF : [s].all fewB
  · refine ⟨.bool false, rfl, ?_⟩
    simp only [Act.put, List.setIfInBounds_toArray, List.set_cons_zero, List.set_cons_succ]
    refine wl_yield (o := ⟨_, _, _, _, _, _⟩) (.bool true) (yl_not (by rfl) _ _ rfl false rfl) ?_
    simp only [Act.put, List.setIfInBounds_toArray, List.set_cons_zero, List.set_cons_succ]
    refine wl_yield (o := ⟨_, _, _, _, _, _⟩) (.bool true) (yl_pickF (by rfl) _ _ _ rfl rfl _ rfl) ?_
    simp only [Act.put, List.setIfInBounds_toArray, List.set_cons_zero, List.set_cons_succ]
    refine wl_yield (o := ⟨_, _, _, _, _, _⟩) (.bool true) (yl_move (by rfl) _ rfl _ rfl) ?_
    simp only [Act.put, List.setIfInBounds_toArray, List.set_cons_zero, List.set_cons_succ]
    refine wl_yield (o := ⟨_, _, _, _, _, _⟩) undef (yl_undef (by rfl)) ?_
    simp only [Act.put, List.setIfInBounds_toArray, List.set_cons_zero, List.set_cons_succ]
    refine wl_yield (o := ⟨_, _, _, _, _, _⟩) undef (yl_undef (by rfl)) ?_
    simp only [Act.put, List.setIfInBounds_toArray, List.set_cons_zero, List.set_cons_succ]
    refine wl_yield (o := ⟨_, _, _, _, _, _⟩) undef (yl_undef (by rfl)) ?_
    simp only [Act.put, List.setIfInBounds_toArray, List.set_cons_zero, List.set_cons_succ]
    refine wl_yield (o := ⟨_, _, _, _, _, _⟩) (.bool true) (yl_pickT (by rfl) _ _ _ rfl rfl _ rfl) ?_
    simp only [Act.put, List.setIfInBounds_toArray, List.set_cons_zero, List.set_cons_succ]
    refine wpList_nil ?_
    refine hK3 _ _ ?_
    clear hK3 K3
    refine wp_cond_true rfl ?_
    refine wp_seq_k (fun K4 hK4 => ?_)
    refine wp_region_lit ?_
    refine wl_call (o := ⟨_, _, _, _, _, _⟩) (by rfl) 7 _ _ rfl #[] rfl (run_call Try.func7 (by kernel_rfl) (by kernel_rfl)) ?_
    refine (awake4_any P _).mono ?_
    rintro r v6 ⟨rfl, kb⟩
    replace D := D.trans (kb.mono D.size)
    replace HS := HS.on kb
    replace IS := IS.on kb
    replace IE := IE.on kb
    clear kb
    refine ⟨.bool true, rfl, ?_⟩
    simp only [Act.put, List.setIfInBounds_toArray, List.set_cons_zero, List.set_cons_succ]
    refine wl_yield (o := ⟨_, _, _, _, _, _⟩) (.bool true) (yl_assign (by rfl) _ rfl _ rfl) ?_
    simp only [Act.put, List.setIfInBounds_toArray, List.set_cons_zero, List.set_cons_succ]
    refine wpList_nil ?_
    refine hK4 _ _ ?_
    clear hK4 K4
    refine wp_ret ?_
    go_ret
    exact ⟨rfl, D⟩
  · refine ⟨.bool true, rfl, ?_⟩
    simp only [Act.put, List.setIfInBounds_toArray, List.set_cons_zero, List.set_cons_succ]
    refine wl_yield (o := ⟨_, _, _, _, _, _⟩) (.bool false) (yl_not (by rfl) _ _ rfl true rfl) ?_
    simp only [Act.put, List.setIfInBounds_toArray, List.set_cons_zero, List.set_cons_succ]
    refine wl_yield (o := ⟨_, _, _, _, _, _⟩) (.bool false) (yl_pickF (by rfl) _ _ _ rfl rfl _ rfl) ?_
    simp only [Act.put, List.setIfInBounds_toArray, List.set_cons_zero, List.set_cons_succ]
    refine wl_yield (o := ⟨_, _, _, _, _, _⟩) (.bool false) (yl_move (by rfl) _ rfl _ rfl) ?_
    simp only [Act.put, List.setIfInBounds_toArray, List.set_cons_zero, List.set_cons_succ]
    refine wl_yield (o := ⟨_, _, _, _, _, _⟩) (SC.val t) (yl_set (by rfl) _ rfl _ 0 rfl _ _ _ _ (fun _ h => by subst h; exact StIn.cells IS)) ?_
    simp only [Act.put, List.setIfInBounds_toArray, List.set_cons_zero, List.set_cons_succ]
    refine wl_call (o := ⟨_, _, _, _, _, _⟩) (by rfl) 14 _ _ rfl #[SC.val t] rfl (run_call Try.func14 (by kernel_rfl) (by kernel_rfl)) ?_
    refine (refRightSet_any _ s _ HS).mono ?_
    rintro r v6 ⟨rfl, kb⟩
    replace D := D.trans (kb.mono D.size)
    replace HS := HS.on kb
    replace IS := IS.on kb
    replace IE := IE.on kb
    clear kb
    cases hR : rightSet s
    · refine ⟨.bool false, rfl, ?_⟩
      simp only [Act.put, List.setIfInBounds_toArray, List.set_cons_zero, List.set_cons_succ]
      refine wl_yield (o := ⟨_, _, _, _, _, _⟩) (.bool true) (yl_not (by rfl) _ _ rfl false rfl) ?_
      simp only [Act.put, List.setIfInBounds_toArray, List.set_cons_zero, List.set_cons_succ]
      refine wl_yield (o := ⟨_, _, _, _, _, _⟩) (.bool true) (yl_pickF (by rfl) _ _ _ rfl rfl _ rfl) ?_
      simp only [Act.put, List.setIfInBounds_toArray, List.set_cons_zero, List.set_cons_succ]
      refine wpList_nil ?_
      refine hK3 _ _ ?_
      clear hK3 K3
      refine wp_cond_true rfl ?_
      refine wp_seq_k (fun K4 hK4 => ?_)
      refine wp_region_lit ?_
      refine wl_call (o := ⟨_, _, _, _, _, _⟩) (by rfl) 7 _ _ rfl #[] rfl (run_call Try.func7 (by kernel_rfl) (by kernel_rfl)) ?_
      refine (awake4_any P _).mono ?_
      rintro r v7 ⟨rfl, kb⟩
      replace D := D.trans (kb.mono D.size)
      replace HS := HS.on kb
      replace IS := IS.on kb
      replace IE := IE.on kb
      clear kb
      refine ⟨.bool true, rfl, ?_⟩
      simp only [Act.put, List.setIfInBounds_toArray, List.set_cons_zero, List.set_cons_succ]
      refine wl_yield (o := ⟨_, _, _, _, _, _⟩) (.bool true) (yl_assign (by rfl) _ rfl _ rfl) ?_
      simp only [Act.put, List.setIfInBounds_toArray, List.set_cons_zero, List.set_cons_succ]
      refine wpList_nil ?_
      refine hK4 _ _ ?_
      clear hK4 K4
      refine wp_ret ?_
      go_ret
      exact ⟨rfl, D⟩
    · refine ⟨.bool true, rfl, ?_⟩
      simp only [Act.put, List.setIfInBounds_toArray, List.set_cons_zero, List.set_cons_succ]
      refine wl_yield (o := ⟨_, _, _, _, _, _⟩) (.bool false) (yl_not (by rfl) _ _ rfl true rfl) ?_
      simp only [Act.put, List.setIfInBounds_toArray, List.set_cons_zero, List.set_cons_succ]
      refine wl_yield (o := ⟨_, _, _, _, _, _⟩) (.bool false) (yl_pickF (by rfl) _ _ _ rfl rfl _ rfl) ?_
      simp only [Act.put, List.setIfInBounds_toArray, List.set_cons_zero, List.set_cons_succ]
      refine wpList_nil ?_
      refine hK3 _ _ ?_
      clear hK3 K3
      refine wp_cond_false rfl ?_
      refine wp_skip ?_
      refine hK2 _ _ ?_
      clear hK2 K2
      have hG : Good s := ⟨hR, HS.i64⟩
      have hL := few_len (few1 hF)
      have FS : Fit s := ⟨hG, by omega, by omega⟩
      have FB : FewB (allBx) := allFew
      refine wp_seq_k (fun K4 hK4 => ?_)
      refine wp_region_lit ?_
      refine wl_yield (o := ⟨_, _, _, _, _, _⟩) (.int .i64 x) (yl_move (by rfl) _ rfl _ rfl) ?_
      simp only [Act.put, List.setIfInBounds_toArray, List.set_cons_zero, List.set_cons_succ]
      refine wl_yield (o := ⟨_, _, _, _, _, _⟩) (SC.val t) (yl_set (by rfl) _ rfl _ 0 rfl _ _ _ _ (fun _ h => by subst h; exact StIn.cells IS)) ?_
      simp only [Act.put, List.setIfInBounds_toArray, List.set_cons_zero, List.set_cons_succ]
      refine wl_call (o := ⟨_, _, _, _, _, _⟩) (by rfl) 18 _ _ rfl #[.int .i64 x, SC.val t] rfl (run_call Try.func18 (by kernel_rfl) (by kernel_rfl)) ?_
      refine (P.atom (x) _ s _ (by omega) (by omega) HS FS).mono ?_
      rintro r v7 ⟨⟨u1, rfl, HB⟩, kb⟩
      replace D := D.trans (kb.mono D.size)
      replace HS := HS.on kb
      replace IS := IS.on kb
      replace IE := IE.on kb
      clear kb
      rw [with_out (by omega)] at HB
      obtain ⟨b0, b1, b2, b3, rfl, -⟩ := HB.scs
      refine ⟨bxVal b0 b1 b2 b3, rfl, ?_⟩
      simp only [Act.put, List.setIfInBounds_toArray, List.set_cons_zero, List.set_cons_succ]
      refine wl_newBx (o := ⟨_, _, _, _, _, _⟩) (o2 := ⟨_, _, _, _, _, _⟩) (by rfl) rfl _ _ rfl (fun _ => rfl) (fun _ => rfl) (fun _ => by rfl) (fun v8 gb8 IB kb => ?_)
      simp only [Act.put, List.setIfInBounds_toArray, List.set_cons_zero, List.set_cons_succ]
      replace D := D.trans (kb.mono D.size)
      replace HS := HS.on kb
      replace IS := IS.on kb
      replace IE := IE.on kb
      replace HB := HB.on kb
      clear kb
      refine wpList_nil ?_
      refine hK4 _ _ ?_
      clear hK4 K4
      refine wp_seq_k (fun K5 hK5 => ?_)
      cases hok : hasE allBx e
      · refine wp_region_held_drew (S := fun w' => EvIn w' gb2 e) (by kernel_rfl) IE (fun hHeld => ?_)
        have kb : Below v8.heap.size v8 v8.drew := (Below.refl _ v8).drew
        replace D := D.trans (kb.mono D.size)
        replace HS := HS.on kb
        replace IS := IS.on kb
        replace IE := IE.on kb
        replace HB := HB.on kb
        replace IB := IB.on kb
        clear kb
        generalize v8.drew = v9 at D hHeld HS IS IE HB IB ⊢
        refine wpAnyH_take (i := 1) (oi := ⟨_, _, _, _, _, _⟩) (v := evVal e) rfl (by kernel_rfl) (by kernel_rfl) (by kernel_rfl) (fun _ _ _ h => h) (yl_ev (by rfl) _ rfl _ 0 rfl _ _ _ _ _ _ _ _ _ _ _ _ (fun _ h => EvIn.cells h)) (by assumption) ?_
        simp only [Act.put, List.setIfInBounds_toArray, List.set_cons_zero, List.set_cons_succ]
        refine held_call (o := ⟨_, _, _, _, _, _⟩) 0 (by kernel_rfl) rfl (by rfl) 19 _ _ rfl #[] rfl (run_call Try.func19 (by kernel_rfl) (by kernel_rfl)) ?_
        refine (P.all _).mono ?_
        rintro r v10 ⟨⟨u1, rfl, HG⟩, kb⟩
        replace D := D.trans (kb.mono D.size)
        replace HS := HS.on kb
        replace IS := IS.on kb
        replace IE := IE.on kb
        replace HB := HB.on kb
        replace IB := IB.on kb
        clear kb
        clear hHeld
        obtain ⟨g0, g1, g2, g3, rfl, -⟩ := HG.scs
        refine ⟨bxVal g0 g1 g2 g3, rfl, IE, fun hHeld => ?_⟩
        simp only [Act.put, List.setIfInBounds_toArray, List.set_cons_zero, List.set_cons_succ]
        refine held_call (o := ⟨_, _, _, _, _, _⟩) 2 (by kernel_rfl) rfl (by rfl) 11 _ _ rfl #[bxVal g0 g1 g2 g3, evVal e] rfl (run_call Try.func11 (by kernel_rfl) (by kernel_rfl)) ?_
        refine (refHasBx_any _ _ e _ HG hf).mono ?_
        rintro r v11 ⟨rfl, kb⟩
        replace D := D.trans (kb.mono D.size)
        replace HS := HS.on kb
        replace IS := IS.on kb
        replace IE := IE.on kb
        replace HB := HB.on kb
        replace IB := IB.on kb
        replace HG := HG.on kb
        clear kb
        clear hHeld
        clear HG
        refine ⟨.bool false, ret_bool hok, IE, fun hHeld => ?_⟩
        simp only [Act.put, List.setIfInBounds_toArray, List.set_cons_zero, List.set_cons_succ]
        refine wpAnyH_take (i := 3) (oi := ⟨_, _, _, _, _, _⟩) (v := .bool false) rfl (by kernel_rfl) (by kernel_rfl) (by kernel_rfl) (fun _ _ _ h => h) (yl_assign (by rfl) _ rfl _ rfl) (by assumption) ?_
        simp only [Act.put, List.setIfInBounds_toArray, List.set_cons_zero, List.set_cons_succ]
        refine wpAnyH_done (by kernel_rfl) ?_ _
        clear hHeld
        refine hK5 _ _ ?_
        clear hK5 K5
        refine wp_seq_k (fun K6 hK6 => ?_)
        refine wp_seq_k (fun K7 hK7 => ?_)
        refine wp_region_lit ?_
        refine wl_yield (o := ⟨_, _, _, _, _, _⟩) (.int .i64 x) (yl_move (by rfl) _ rfl _ rfl) ?_
        simp only [Act.put, List.setIfInBounds_toArray, List.set_cons_zero, List.set_cons_succ]
        refine wl_yield (o := ⟨_, _, _, _, _, _⟩) (.bool true) (yl_lssI (by rfl) _ _ _ rfl (x) (0) true rfl rfl (by simp; omega)) ?_
        simp only [Act.put, List.setIfInBounds_toArray, List.set_cons_zero, List.set_cons_succ]
        refine wl_yield (o := ⟨_, _, _, _, _, _⟩) (.bool true) (yl_move (by rfl) _ rfl _ rfl) ?_
        simp only [Act.put, List.setIfInBounds_toArray, List.set_cons_zero, List.set_cons_succ]
        refine wl_yield (o := ⟨_, _, _, _, _, _⟩) undef (yl_undef (by rfl)) ?_
        simp only [Act.put, List.setIfInBounds_toArray, List.set_cons_zero, List.set_cons_succ]
        refine wl_yield (o := ⟨_, _, _, _, _, _⟩) undef (yl_undef (by rfl)) ?_
        simp only [Act.put, List.setIfInBounds_toArray, List.set_cons_zero, List.set_cons_succ]
        refine wl_yield (o := ⟨_, _, _, _, _, _⟩) (.bool true) (yl_pickT (by rfl) _ _ _ rfl rfl _ rfl) ?_
        simp only [Act.put, List.setIfInBounds_toArray, List.set_cons_zero, List.set_cons_succ]
        refine wpList_nil ?_
        refine hK7 _ _ ?_
        clear hK7 K7
        refine wp_cond_true rfl ?_
        refine wp_seq_k (fun K8 hK8 => ?_)
        refine wp_region_held_drew (S := fun w' => BxIn w' gb8 b0 b1 b2 b3 ∧ StIn w' gb1 t) (by kernel_rfl) ⟨IB, IS⟩ (fun hHeld => ?_)
        have kb : Below v11.heap.size v11 v11.drew := (Below.refl _ v11).drew
        replace D := D.trans (kb.mono D.size)
        replace HS := HS.on kb
        replace IS := IS.on kb
        replace IE := IE.on kb
        replace HB := HB.on kb
        replace IB := IB.on kb
        clear kb
        generalize v11.drew = v12 at D hHeld HS IS IE HB IB ⊢
        refine wpAnyH_take (i := 0) (oi := ⟨_, _, _, _, _, _⟩) (v := bxVal b0 b1 b2 b3) rfl (by kernel_rfl) (by kernel_rfl) (by kernel_rfl) (fun _ _ _ h => h) (yl_box (by rfl) _ rfl _ 0 rfl _ _ _ _ _ _ _ _ _ _ _ _ _ _ _ _ (fun _ h => BxIn.cells h.1)) (by assumption) ?_
        simp only [Act.put, List.setIfInBounds_toArray, List.set_cons_zero, List.set_cons_succ]
        refine held_call (o := ⟨_, _, _, _, _, _⟩) 1 (by kernel_rfl) rfl (by rfl) 19 _ _ rfl #[] rfl (run_call Try.func19 (by kernel_rfl) (by kernel_rfl)) ?_
        refine (P.all _).mono ?_
        rintro r v13 ⟨⟨u1, rfl, HG⟩, kb⟩
        replace D := D.trans (kb.mono D.size)
        replace HS := HS.on kb
        replace IS := IS.on kb
        replace IE := IE.on kb
        replace HB := HB.on kb
        replace IB := IB.on kb
        clear kb
        clear hHeld
        obtain ⟨g0, g1, g2, g3, rfl, -⟩ := HG.scs
        refine ⟨bxVal g0 g1 g2 g3, rfl, ⟨IB, IS⟩, fun hHeld => ?_⟩
        simp only [Act.put, List.setIfInBounds_toArray, List.set_cons_zero, List.set_cons_succ]
        refine held_call (o := ⟨_, _, _, _, _, _⟩) 2 (by kernel_rfl) rfl (by rfl) 20 _ _ rfl #[bxVal b0 b1 b2 b3, bxVal g0 g1 g2 g3] rfl (run_call Try.func20 (by kernel_rfl) (by kernel_rfl)) ?_
        refine (P.same _ _ _ _ _ HB HG FB.fit allFew.fit).mono ?_
        rintro r v14 ⟨rfl, kb⟩
        replace D := D.trans (kb.mono D.size)
        replace HS := HS.on kb
        replace IS := IS.on kb
        replace IE := IE.on kb
        replace HB := HB.on kb
        replace IB := IB.on kb
        replace HG := HG.on kb
        clear kb
        clear hHeld
        clear HG
        refine ⟨.bool true, ret_bool (sameBx_refl _), ⟨IB, IS⟩, fun hHeld => ?_⟩
        simp only [Act.put, List.setIfInBounds_toArray, List.set_cons_zero, List.set_cons_succ]
        refine wpAnyH_take (i := 3) (oi := ⟨_, _, _, _, _, _⟩) (v := .bool true) rfl (by kernel_rfl) (by kernel_rfl) (by kernel_rfl) (fun _ _ _ h => h) (yl_move (by rfl) _ rfl _ rfl) (by assumption) ?_
        simp only [Act.put, List.setIfInBounds_toArray, List.set_cons_zero, List.set_cons_succ]
        refine wpAnyH_take (i := 4) (oi := ⟨_, _, _, _, _, _⟩) (v := bxVal b0 b1 b2 b3) rfl (by kernel_rfl) (by kernel_rfl) (by kernel_rfl) (fun _ _ _ h => h) (yl_box (by rfl) _ rfl _ 0 rfl _ _ _ _ _ _ _ _ _ _ _ _ _ _ _ _ (fun _ h => BxIn.cells h.1)) (by assumption) ?_
        simp only [Act.put, List.setIfInBounds_toArray, List.set_cons_zero, List.set_cons_succ]
        refine wpAnyH_take (i := 5) (oi := ⟨_, _, _, _, _, _⟩) (v := .int .i64 x) rfl (by kernel_rfl) (by kernel_rfl) (by kernel_rfl) (fun _ _ _ h => h) (yl_move (by rfl) _ rfl _ rfl) (by assumption) ?_
        simp only [Act.put, List.setIfInBounds_toArray, List.set_cons_zero, List.set_cons_succ]
        refine wpAnyH_take (i := 6) (oi := ⟨_, _, _, _, _, _⟩) (v := SC.val t) rfl (by kernel_rfl) (by kernel_rfl) (by kernel_rfl) (fun _ _ _ h => h) (yl_set (by rfl) _ rfl _ 0 rfl _ _ _ _ (fun _ h => StIn.cells h.2)) (by assumption) ?_
        simp only [Act.put, List.setIfInBounds_toArray, List.set_cons_zero, List.set_cons_succ]
        refine wpAnyH_take (i := 8) (oi := ⟨_, _, _, _, _, _⟩) (v := bxVal b0 b1 b2 b3) rfl (by kernel_rfl) (by kernel_rfl) (by kernel_rfl) (fun _ _ _ h => h) (yl_box (by rfl) _ rfl _ 0 rfl _ _ _ _ _ _ _ _ _ _ _ _ _ _ _ _ (fun _ h => BxIn.cells h.1)) (by assumption) ?_
        simp only [Act.put, List.setIfInBounds_toArray, List.set_cons_zero, List.set_cons_succ]
        refine held_call (o := ⟨_, _, _, _, _, _⟩) 7 (by kernel_rfl) rfl (by rfl) 15 _ _ rfl #[bxVal b0 b1 b2 b3, .int .i64 x, SC.val t] rfl (run_call Try.func15 (by kernel_rfl) (by kernel_rfl)) ?_
        refine (P.with_ _ allBx x _ s _ (by omega) (by omega) HB FB.fit HS FS).mono ?_
        rintro r v15 ⟨⟨u1, rfl, HD⟩, kb⟩
        replace D := D.trans (kb.mono D.size)
        replace HS := HS.on kb
        replace IS := IS.on kb
        replace IE := IE.on kb
        replace HB := HB.on kb
        replace IB := IB.on kb
        clear kb
        clear hHeld
        rw [with_out (by omega)] at HD
        obtain ⟨d0, d1, d2, d3, rfl, -⟩ := HD.scs
        refine ⟨bxVal d0 d1 d2 d3, rfl, ⟨IB, IS⟩, fun hHeld => ?_⟩
        simp only [Act.put, List.setIfInBounds_toArray, List.set_cons_zero, List.set_cons_succ]
        refine held_call (o := ⟨_, _, _, _, _, _⟩) 9 (by kernel_rfl) rfl (by rfl) 20 _ _ rfl #[bxVal d0 d1 d2 d3, bxVal b0 b1 b2 b3] rfl (run_call Try.func20 (by kernel_rfl) (by kernel_rfl)) ?_
        refine (P.same _ _ _ _ _ HD HB FB.fit FB.fit).mono ?_
        rintro r v16 ⟨rfl, kb⟩
        replace D := D.trans (kb.mono D.size)
        replace HS := HS.on kb
        replace IS := IS.on kb
        replace IE := IE.on kb
        replace HB := HB.on kb
        replace IB := IB.on kb
        replace HD := HD.on kb
        clear kb
        clear hHeld
        clear HD
        refine ⟨.bool true, ret_bool (sameBx_refl _), ⟨IB, IS⟩, fun hHeld => ?_⟩
        simp only [Act.put, List.setIfInBounds_toArray, List.set_cons_zero, List.set_cons_succ]
        refine wpAnyH_take (i := 10) (oi := ⟨_, _, _, _, _, _⟩) (v := .bool true) rfl (by kernel_rfl) (by kernel_rfl) (by kernel_rfl) (fun _ _ _ h => h) (yl_pickT (by rfl) _ _ _ rfl rfl _ rfl) (by assumption) ?_
        simp only [Act.put, List.setIfInBounds_toArray, List.set_cons_zero, List.set_cons_succ]
        refine wpAnyH_take (i := 11) (oi := ⟨_, _, _, _, _, _⟩) (v := .bool true) rfl (by kernel_rfl) (by kernel_rfl) (by kernel_rfl) (fun _ _ _ h => h) (yl_assign (by rfl) _ rfl _ rfl) (by assumption) ?_
        simp only [Act.put, List.setIfInBounds_toArray, List.set_cons_zero, List.set_cons_succ]
        refine wpAnyH_done (by kernel_rfl) ?_ _
        clear hHeld
        refine hK8 _ _ ?_
        clear hK8 K8
        refine wp_ret ?_
        go_ret
        exact ⟨rfl, D⟩
      · refine wp_region_held_drew (S := fun w' => EvIn w' gb2 e) (by kernel_rfl) IE (fun hHeld => ?_)
        have kb : Below v8.heap.size v8 v8.drew := (Below.refl _ v8).drew
        replace D := D.trans (kb.mono D.size)
        replace HS := HS.on kb
        replace IS := IS.on kb
        replace IE := IE.on kb
        replace HB := HB.on kb
        replace IB := IB.on kb
        clear kb
        generalize v8.drew = v9 at D hHeld HS IS IE HB IB ⊢
        refine wpAnyH_take (i := 1) (oi := ⟨_, _, _, _, _, _⟩) (v := evVal e) rfl (by kernel_rfl) (by kernel_rfl) (by kernel_rfl) (fun _ _ _ h => h) (yl_ev (by rfl) _ rfl _ 0 rfl _ _ _ _ _ _ _ _ _ _ _ _ (fun _ h => EvIn.cells h)) (by assumption) ?_
        simp only [Act.put, List.setIfInBounds_toArray, List.set_cons_zero, List.set_cons_succ]
        refine held_call (o := ⟨_, _, _, _, _, _⟩) 0 (by kernel_rfl) rfl (by rfl) 19 _ _ rfl #[] rfl (run_call Try.func19 (by kernel_rfl) (by kernel_rfl)) ?_
        refine (P.all _).mono ?_
        rintro r v10 ⟨⟨u1, rfl, HG⟩, kb⟩
        replace D := D.trans (kb.mono D.size)
        replace HS := HS.on kb
        replace IS := IS.on kb
        replace IE := IE.on kb
        replace HB := HB.on kb
        replace IB := IB.on kb
        clear kb
        clear hHeld
        obtain ⟨g0, g1, g2, g3, rfl, -⟩ := HG.scs
        refine ⟨bxVal g0 g1 g2 g3, rfl, IE, fun hHeld => ?_⟩
        simp only [Act.put, List.setIfInBounds_toArray, List.set_cons_zero, List.set_cons_succ]
        refine held_call (o := ⟨_, _, _, _, _, _⟩) 2 (by kernel_rfl) rfl (by rfl) 11 _ _ rfl #[bxVal g0 g1 g2 g3, evVal e] rfl (run_call Try.func11 (by kernel_rfl) (by kernel_rfl)) ?_
        refine (refHasBx_any _ _ e _ HG hf).mono ?_
        rintro r v11 ⟨rfl, kb⟩
        replace D := D.trans (kb.mono D.size)
        replace HS := HS.on kb
        replace IS := IS.on kb
        replace IE := IE.on kb
        replace HB := HB.on kb
        replace IB := IB.on kb
        replace HG := HG.on kb
        clear kb
        clear hHeld
        clear HG
        refine ⟨.bool true, ret_bool hok, IE, fun hHeld => ?_⟩
        simp only [Act.put, List.setIfInBounds_toArray, List.set_cons_zero, List.set_cons_succ]
        refine wpAnyH_take (i := 3) (oi := ⟨_, _, _, _, _, _⟩) (v := .bool true) rfl (by kernel_rfl) (by kernel_rfl) (by kernel_rfl) (fun _ _ _ h => h) (yl_assign (by rfl) _ rfl _ rfl) (by assumption) ?_
        simp only [Act.put, List.setIfInBounds_toArray, List.set_cons_zero, List.set_cons_succ]
        refine wpAnyH_done (by kernel_rfl) ?_ _
        clear hHeld
        refine hK5 _ _ ?_
        clear hK5 K5
        refine wp_seq_k (fun K6 hK6 => ?_)
        refine wp_seq_k (fun K7 hK7 => ?_)
        refine wp_region_lit ?_
        refine wl_yield (o := ⟨_, _, _, _, _, _⟩) (.int .i64 x) (yl_move (by rfl) _ rfl _ rfl) ?_
        simp only [Act.put, List.setIfInBounds_toArray, List.set_cons_zero, List.set_cons_succ]
        refine wl_yield (o := ⟨_, _, _, _, _, _⟩) (.bool true) (yl_lssI (by rfl) _ _ _ rfl (x) (0) true rfl rfl (by simp; omega)) ?_
        simp only [Act.put, List.setIfInBounds_toArray, List.set_cons_zero, List.set_cons_succ]
        refine wl_yield (o := ⟨_, _, _, _, _, _⟩) (.bool true) (yl_move (by rfl) _ rfl _ rfl) ?_
        simp only [Act.put, List.setIfInBounds_toArray, List.set_cons_zero, List.set_cons_succ]
        refine wl_yield (o := ⟨_, _, _, _, _, _⟩) undef (yl_undef (by rfl)) ?_
        simp only [Act.put, List.setIfInBounds_toArray, List.set_cons_zero, List.set_cons_succ]
        refine wl_yield (o := ⟨_, _, _, _, _, _⟩) undef (yl_undef (by rfl)) ?_
        simp only [Act.put, List.setIfInBounds_toArray, List.set_cons_zero, List.set_cons_succ]
        refine wl_yield (o := ⟨_, _, _, _, _, _⟩) (.bool true) (yl_pickT (by rfl) _ _ _ rfl rfl _ rfl) ?_
        simp only [Act.put, List.setIfInBounds_toArray, List.set_cons_zero, List.set_cons_succ]
        refine wpList_nil ?_
        refine hK7 _ _ ?_
        clear hK7 K7
        refine wp_cond_true rfl ?_
        refine wp_seq_k (fun K8 hK8 => ?_)
        refine wp_region_held_drew (S := fun w' => BxIn w' gb8 b0 b1 b2 b3 ∧ StIn w' gb1 t) (by kernel_rfl) ⟨IB, IS⟩ (fun hHeld => ?_)
        have kb : Below v11.heap.size v11 v11.drew := (Below.refl _ v11).drew
        replace D := D.trans (kb.mono D.size)
        replace HS := HS.on kb
        replace IS := IS.on kb
        replace IE := IE.on kb
        replace HB := HB.on kb
        replace IB := IB.on kb
        clear kb
        generalize v11.drew = v12 at D hHeld HS IS IE HB IB ⊢
        refine wpAnyH_take (i := 0) (oi := ⟨_, _, _, _, _, _⟩) (v := bxVal b0 b1 b2 b3) rfl (by kernel_rfl) (by kernel_rfl) (by kernel_rfl) (fun _ _ _ h => h) (yl_box (by rfl) _ rfl _ 0 rfl _ _ _ _ _ _ _ _ _ _ _ _ _ _ _ _ (fun _ h => BxIn.cells h.1)) (by assumption) ?_
        simp only [Act.put, List.setIfInBounds_toArray, List.set_cons_zero, List.set_cons_succ]
        refine held_call (o := ⟨_, _, _, _, _, _⟩) 1 (by kernel_rfl) rfl (by rfl) 19 _ _ rfl #[] rfl (run_call Try.func19 (by kernel_rfl) (by kernel_rfl)) ?_
        refine (P.all _).mono ?_
        rintro r v13 ⟨⟨u1, rfl, HG⟩, kb⟩
        replace D := D.trans (kb.mono D.size)
        replace HS := HS.on kb
        replace IS := IS.on kb
        replace IE := IE.on kb
        replace HB := HB.on kb
        replace IB := IB.on kb
        clear kb
        clear hHeld
        obtain ⟨g0, g1, g2, g3, rfl, -⟩ := HG.scs
        refine ⟨bxVal g0 g1 g2 g3, rfl, ⟨IB, IS⟩, fun hHeld => ?_⟩
        simp only [Act.put, List.setIfInBounds_toArray, List.set_cons_zero, List.set_cons_succ]
        refine held_call (o := ⟨_, _, _, _, _, _⟩) 2 (by kernel_rfl) rfl (by rfl) 20 _ _ rfl #[bxVal b0 b1 b2 b3, bxVal g0 g1 g2 g3] rfl (run_call Try.func20 (by kernel_rfl) (by kernel_rfl)) ?_
        refine (P.same _ _ _ _ _ HB HG FB.fit allFew.fit).mono ?_
        rintro r v14 ⟨rfl, kb⟩
        replace D := D.trans (kb.mono D.size)
        replace HS := HS.on kb
        replace IS := IS.on kb
        replace IE := IE.on kb
        replace HB := HB.on kb
        replace IB := IB.on kb
        replace HG := HG.on kb
        clear kb
        clear hHeld
        clear HG
        refine ⟨.bool true, ret_bool (sameBx_refl _), ⟨IB, IS⟩, fun hHeld => ?_⟩
        simp only [Act.put, List.setIfInBounds_toArray, List.set_cons_zero, List.set_cons_succ]
        refine wpAnyH_take (i := 3) (oi := ⟨_, _, _, _, _, _⟩) (v := .bool true) rfl (by kernel_rfl) (by kernel_rfl) (by kernel_rfl) (fun _ _ _ h => h) (yl_move (by rfl) _ rfl _ rfl) (by assumption) ?_
        simp only [Act.put, List.setIfInBounds_toArray, List.set_cons_zero, List.set_cons_succ]
        refine wpAnyH_take (i := 4) (oi := ⟨_, _, _, _, _, _⟩) (v := bxVal b0 b1 b2 b3) rfl (by kernel_rfl) (by kernel_rfl) (by kernel_rfl) (fun _ _ _ h => h) (yl_box (by rfl) _ rfl _ 0 rfl _ _ _ _ _ _ _ _ _ _ _ _ _ _ _ _ (fun _ h => BxIn.cells h.1)) (by assumption) ?_
        simp only [Act.put, List.setIfInBounds_toArray, List.set_cons_zero, List.set_cons_succ]
        refine wpAnyH_take (i := 5) (oi := ⟨_, _, _, _, _, _⟩) (v := .int .i64 x) rfl (by kernel_rfl) (by kernel_rfl) (by kernel_rfl) (fun _ _ _ h => h) (yl_move (by rfl) _ rfl _ rfl) (by assumption) ?_
        simp only [Act.put, List.setIfInBounds_toArray, List.set_cons_zero, List.set_cons_succ]
        refine wpAnyH_take (i := 6) (oi := ⟨_, _, _, _, _, _⟩) (v := SC.val t) rfl (by kernel_rfl) (by kernel_rfl) (by kernel_rfl) (fun _ _ _ h => h) (yl_set (by rfl) _ rfl _ 0 rfl _ _ _ _ (fun _ h => StIn.cells h.2)) (by assumption) ?_
        simp only [Act.put, List.setIfInBounds_toArray, List.set_cons_zero, List.set_cons_succ]
        refine wpAnyH_take (i := 8) (oi := ⟨_, _, _, _, _, _⟩) (v := bxVal b0 b1 b2 b3) rfl (by kernel_rfl) (by kernel_rfl) (by kernel_rfl) (fun _ _ _ h => h) (yl_box (by rfl) _ rfl _ 0 rfl _ _ _ _ _ _ _ _ _ _ _ _ _ _ _ _ (fun _ h => BxIn.cells h.1)) (by assumption) ?_
        simp only [Act.put, List.setIfInBounds_toArray, List.set_cons_zero, List.set_cons_succ]
        refine held_call (o := ⟨_, _, _, _, _, _⟩) 7 (by kernel_rfl) rfl (by rfl) 15 _ _ rfl #[bxVal b0 b1 b2 b3, .int .i64 x, SC.val t] rfl (run_call Try.func15 (by kernel_rfl) (by kernel_rfl)) ?_
        refine (P.with_ _ allBx x _ s _ (by omega) (by omega) HB FB.fit HS FS).mono ?_
        rintro r v15 ⟨⟨u1, rfl, HD⟩, kb⟩
        replace D := D.trans (kb.mono D.size)
        replace HS := HS.on kb
        replace IS := IS.on kb
        replace IE := IE.on kb
        replace HB := HB.on kb
        replace IB := IB.on kb
        clear kb
        clear hHeld
        rw [with_out (by omega)] at HD
        obtain ⟨d0, d1, d2, d3, rfl, -⟩ := HD.scs
        refine ⟨bxVal d0 d1 d2 d3, rfl, ⟨IB, IS⟩, fun hHeld => ?_⟩
        simp only [Act.put, List.setIfInBounds_toArray, List.set_cons_zero, List.set_cons_succ]
        refine held_call (o := ⟨_, _, _, _, _, _⟩) 9 (by kernel_rfl) rfl (by rfl) 20 _ _ rfl #[bxVal d0 d1 d2 d3, bxVal b0 b1 b2 b3] rfl (run_call Try.func20 (by kernel_rfl) (by kernel_rfl)) ?_
        refine (P.same _ _ _ _ _ HD HB FB.fit FB.fit).mono ?_
        rintro r v16 ⟨rfl, kb⟩
        replace D := D.trans (kb.mono D.size)
        replace HS := HS.on kb
        replace IS := IS.on kb
        replace IE := IE.on kb
        replace HB := HB.on kb
        replace IB := IB.on kb
        replace HD := HD.on kb
        clear kb
        clear hHeld
        clear HD
        refine ⟨.bool true, ret_bool (sameBx_refl _), ⟨IB, IS⟩, fun hHeld => ?_⟩
        simp only [Act.put, List.setIfInBounds_toArray, List.set_cons_zero, List.set_cons_succ]
        refine wpAnyH_take (i := 10) (oi := ⟨_, _, _, _, _, _⟩) (v := .bool true) rfl (by kernel_rfl) (by kernel_rfl) (by kernel_rfl) (fun _ _ _ h => h) (yl_pickT (by rfl) _ _ _ rfl rfl _ rfl) (by assumption) ?_
        simp only [Act.put, List.setIfInBounds_toArray, List.set_cons_zero, List.set_cons_succ]
        refine wpAnyH_take (i := 11) (oi := ⟨_, _, _, _, _, _⟩) (v := .bool true) rfl (by kernel_rfl) (by kernel_rfl) (by kernel_rfl) (fun _ _ _ h => h) (yl_assign (by rfl) _ rfl _ rfl) (by assumption) ?_
        simp only [Act.put, List.setIfInBounds_toArray, List.set_cons_zero, List.set_cons_succ]
        refine wpAnyH_done (by kernel_rfl) ?_ _
        clear hHeld
        refine hK8 _ _ ?_
        clear hK8 K8
        refine wp_ret ?_
        go_ret
        exact ⟨rfl, D⟩
set_option maxHeartbeats 8000000 in
set_option maxRecDepth 100000 in
theorem atoms_high (P : BoxProg) (x : Int) (x0 : -9223372036854775808 ≤ x) (x1 : x ≤ 9223372036854775807) (hx : 3 < x) (u : Value) (s : SetV) (e : EvV) (w : World) (HS : SetAt w u s) (hf : evFit e) (he : inE e) :
    Calls Try.prog 5 #[.int .i64 x, u, evVal e] w fun r w' => r = .returned (.bool true) ∧ Below w.heap.size w w' := by
  obtain ⟨t, rfl⟩ := HS.sc
  have D := Below.refl w.heap.size w
  go_enter Try.func5, Try.ntmps5
  refine wp_seq_k (fun K1 hK1 => ?_)
  refine wp_region_lit ?_
  refine wl_boxSt (o := ⟨_, _, _, _, _, _⟩) (by rfl) _ rfl rfl (fun v1 gb1 IS kb => ?_)
  simp only [Act.put, List.setIfInBounds_toArray, List.set_cons_zero, List.set_cons_succ]
  replace D := D.trans (kb.mono D.size)
  replace HS := HS.on kb
  clear kb
  refine wl_boxEv (o := ⟨_, _, _, _, _, _⟩) (by rfl) _ rfl rfl (fun v2 gb2 IE kb => ?_)
  simp only [Act.put, List.setIfInBounds_toArray, List.set_cons_zero, List.set_cons_succ]
  replace D := D.trans (kb.mono D.size)
  replace HS := HS.on kb
  replace IS := IS.on kb
  clear kb
  refine wl_yield (o := ⟨_, _, _, _, _, _⟩) (.bool false) (yl_assign (by rfl) _ rfl _ rfl) ?_
  simp only [Act.put, List.setIfInBounds_toArray, List.set_cons_zero, List.set_cons_succ]
  refine wpList_nil ?_
  refine hK1 _ _ ?_
  clear hK1 K1
  refine wp_seq_k (fun K2 hK2 => ?_)
  refine wp_seq_k (fun K3 hK3 => ?_)
  refine wp_region_lit ?_
  refine wl_call (o := ⟨_, _, _, _, _, _⟩) (by rfl) 7 _ _ rfl #[] rfl (run_call Try.func7 (by kernel_rfl) (by kernel_rfl)) ?_
  refine (awake4_any P _).mono ?_
  rintro r v3 ⟨rfl, kb⟩
  replace D := D.trans (kb.mono D.size)
  replace HS := HS.on kb
  replace IS := IS.on kb
  replace IE := IE.on kb
  clear kb
  refine ⟨.bool true, rfl, ?_⟩
  simp only [Act.put, List.setIfInBounds_toArray, List.set_cons_zero, List.set_cons_succ]
  refine wl_yield (o := ⟨_, _, _, _, _, _⟩) (.bool false) (yl_not (by rfl) _ _ rfl true rfl) ?_
  simp only [Act.put, List.setIfInBounds_toArray, List.set_cons_zero, List.set_cons_succ]
  refine wl_yield (o := ⟨_, _, _, _, _, _⟩) (.bool false) (yl_move (by rfl) _ rfl _ rfl) ?_
  simp only [Act.put, List.setIfInBounds_toArray, List.set_cons_zero, List.set_cons_succ]
  refine wl_yield (o := ⟨_, _, _, _, _, _⟩) (SC.val t) (yl_set (by rfl) _ rfl _ 0 rfl _ _ _ _ (fun _ h => by subst h; exact StIn.cells IS)) ?_
  simp only [Act.put, List.setIfInBounds_toArray, List.set_cons_zero, List.set_cons_succ]
  refine wl_rowSt1 (o := ⟨_, _, _, _, _, _⟩) (by rfl) _ rfl rfl HS (fun v4 y4 HY kb => ?_)
  simp only [Act.put, List.setIfInBounds_toArray, List.set_cons_zero, List.set_cons_succ]
  replace D := D.trans (kb.mono D.size)
  replace HS := HS.on kb
  replace IS := IS.on kb
  replace IE := IE.on kb
  clear kb
  refine wl_call (o := ⟨_, _, _, _, _, _⟩) (by rfl) 13 _ _ rfl #[y4] rfl (run_call Try.func13 (by kernel_rfl) (by kernel_rfl)) ?_
  refine (refFew_below HY).mono ?_
  rintro r v5 ⟨rfl, kb⟩
  replace D := D.trans (kb.mono D.size)
  replace HS := HS.on kb
  replace IS := IS.on kb
  replace IE := IE.on kb
  clear kb
  cases hF : [s].all fewB
  · refine ⟨.bool false, rfl, ?_⟩
    simp only [Act.put, List.setIfInBounds_toArray, List.set_cons_zero, List.set_cons_succ]
    refine wl_yield (o := ⟨_, _, _, _, _, _⟩) (.bool true) (yl_not (by rfl) _ _ rfl false rfl) ?_
    simp only [Act.put, List.setIfInBounds_toArray, List.set_cons_zero, List.set_cons_succ]
    refine wl_yield (o := ⟨_, _, _, _, _, _⟩) (.bool true) (yl_pickF (by rfl) _ _ _ rfl rfl _ rfl) ?_
    simp only [Act.put, List.setIfInBounds_toArray, List.set_cons_zero, List.set_cons_succ]
    refine wl_yield (o := ⟨_, _, _, _, _, _⟩) (.bool true) (yl_move (by rfl) _ rfl _ rfl) ?_
    simp only [Act.put, List.setIfInBounds_toArray, List.set_cons_zero, List.set_cons_succ]
    refine wl_yield (o := ⟨_, _, _, _, _, _⟩) undef (yl_undef (by rfl)) ?_
    simp only [Act.put, List.setIfInBounds_toArray, List.set_cons_zero, List.set_cons_succ]
    refine wl_yield (o := ⟨_, _, _, _, _, _⟩) undef (yl_undef (by rfl)) ?_
    simp only [Act.put, List.setIfInBounds_toArray, List.set_cons_zero, List.set_cons_succ]
    refine wl_yield (o := ⟨_, _, _, _, _, _⟩) undef (yl_undef (by rfl)) ?_
    simp only [Act.put, List.setIfInBounds_toArray, List.set_cons_zero, List.set_cons_succ]
    refine wl_yield (o := ⟨_, _, _, _, _, _⟩) (.bool true) (yl_pickT (by rfl) _ _ _ rfl rfl _ rfl) ?_
    simp only [Act.put, List.setIfInBounds_toArray, List.set_cons_zero, List.set_cons_succ]
    refine wpList_nil ?_
    refine hK3 _ _ ?_
    clear hK3 K3
    refine wp_cond_true rfl ?_
    refine wp_seq_k (fun K4 hK4 => ?_)
    refine wp_region_lit ?_
    refine wl_call (o := ⟨_, _, _, _, _, _⟩) (by rfl) 7 _ _ rfl #[] rfl (run_call Try.func7 (by kernel_rfl) (by kernel_rfl)) ?_
    refine (awake4_any P _).mono ?_
    rintro r v6 ⟨rfl, kb⟩
    replace D := D.trans (kb.mono D.size)
    replace HS := HS.on kb
    replace IS := IS.on kb
    replace IE := IE.on kb
    clear kb
    refine ⟨.bool true, rfl, ?_⟩
    simp only [Act.put, List.setIfInBounds_toArray, List.set_cons_zero, List.set_cons_succ]
    refine wl_yield (o := ⟨_, _, _, _, _, _⟩) (.bool true) (yl_assign (by rfl) _ rfl _ rfl) ?_
    simp only [Act.put, List.setIfInBounds_toArray, List.set_cons_zero, List.set_cons_succ]
    refine wpList_nil ?_
    refine hK4 _ _ ?_
    clear hK4 K4
    refine wp_ret ?_
    go_ret
    exact ⟨rfl, D⟩
  · refine ⟨.bool true, rfl, ?_⟩
    simp only [Act.put, List.setIfInBounds_toArray, List.set_cons_zero, List.set_cons_succ]
    refine wl_yield (o := ⟨_, _, _, _, _, _⟩) (.bool false) (yl_not (by rfl) _ _ rfl true rfl) ?_
    simp only [Act.put, List.setIfInBounds_toArray, List.set_cons_zero, List.set_cons_succ]
    refine wl_yield (o := ⟨_, _, _, _, _, _⟩) (.bool false) (yl_pickF (by rfl) _ _ _ rfl rfl _ rfl) ?_
    simp only [Act.put, List.setIfInBounds_toArray, List.set_cons_zero, List.set_cons_succ]
    refine wl_yield (o := ⟨_, _, _, _, _, _⟩) (.bool false) (yl_move (by rfl) _ rfl _ rfl) ?_
    simp only [Act.put, List.setIfInBounds_toArray, List.set_cons_zero, List.set_cons_succ]
    refine wl_yield (o := ⟨_, _, _, _, _, _⟩) (SC.val t) (yl_set (by rfl) _ rfl _ 0 rfl _ _ _ _ (fun _ h => by subst h; exact StIn.cells IS)) ?_
    simp only [Act.put, List.setIfInBounds_toArray, List.set_cons_zero, List.set_cons_succ]
    refine wl_call (o := ⟨_, _, _, _, _, _⟩) (by rfl) 14 _ _ rfl #[SC.val t] rfl (run_call Try.func14 (by kernel_rfl) (by kernel_rfl)) ?_
    refine (refRightSet_any _ s _ HS).mono ?_
    rintro r v6 ⟨rfl, kb⟩
    replace D := D.trans (kb.mono D.size)
    replace HS := HS.on kb
    replace IS := IS.on kb
    replace IE := IE.on kb
    clear kb
    cases hR : rightSet s
    · refine ⟨.bool false, rfl, ?_⟩
      simp only [Act.put, List.setIfInBounds_toArray, List.set_cons_zero, List.set_cons_succ]
      refine wl_yield (o := ⟨_, _, _, _, _, _⟩) (.bool true) (yl_not (by rfl) _ _ rfl false rfl) ?_
      simp only [Act.put, List.setIfInBounds_toArray, List.set_cons_zero, List.set_cons_succ]
      refine wl_yield (o := ⟨_, _, _, _, _, _⟩) (.bool true) (yl_pickF (by rfl) _ _ _ rfl rfl _ rfl) ?_
      simp only [Act.put, List.setIfInBounds_toArray, List.set_cons_zero, List.set_cons_succ]
      refine wpList_nil ?_
      refine hK3 _ _ ?_
      clear hK3 K3
      refine wp_cond_true rfl ?_
      refine wp_seq_k (fun K4 hK4 => ?_)
      refine wp_region_lit ?_
      refine wl_call (o := ⟨_, _, _, _, _, _⟩) (by rfl) 7 _ _ rfl #[] rfl (run_call Try.func7 (by kernel_rfl) (by kernel_rfl)) ?_
      refine (awake4_any P _).mono ?_
      rintro r v7 ⟨rfl, kb⟩
      replace D := D.trans (kb.mono D.size)
      replace HS := HS.on kb
      replace IS := IS.on kb
      replace IE := IE.on kb
      clear kb
      refine ⟨.bool true, rfl, ?_⟩
      simp only [Act.put, List.setIfInBounds_toArray, List.set_cons_zero, List.set_cons_succ]
      refine wl_yield (o := ⟨_, _, _, _, _, _⟩) (.bool true) (yl_assign (by rfl) _ rfl _ rfl) ?_
      simp only [Act.put, List.setIfInBounds_toArray, List.set_cons_zero, List.set_cons_succ]
      refine wpList_nil ?_
      refine hK4 _ _ ?_
      clear hK4 K4
      refine wp_ret ?_
      go_ret
      exact ⟨rfl, D⟩
    · refine ⟨.bool true, rfl, ?_⟩
      simp only [Act.put, List.setIfInBounds_toArray, List.set_cons_zero, List.set_cons_succ]
      refine wl_yield (o := ⟨_, _, _, _, _, _⟩) (.bool false) (yl_not (by rfl) _ _ rfl true rfl) ?_
      simp only [Act.put, List.setIfInBounds_toArray, List.set_cons_zero, List.set_cons_succ]
      refine wl_yield (o := ⟨_, _, _, _, _, _⟩) (.bool false) (yl_pickF (by rfl) _ _ _ rfl rfl _ rfl) ?_
      simp only [Act.put, List.setIfInBounds_toArray, List.set_cons_zero, List.set_cons_succ]
      refine wpList_nil ?_
      refine hK3 _ _ ?_
      clear hK3 K3
      refine wp_cond_false rfl ?_
      refine wp_skip ?_
      refine hK2 _ _ ?_
      clear hK2 K2
      have hG : Good s := ⟨hR, HS.i64⟩
      have hL := few_len (few1 hF)
      have FS : Fit s := ⟨hG, by omega, by omega⟩
      have FB : FewB (allBx) := allFew
      refine wp_seq_k (fun K4 hK4 => ?_)
      refine wp_region_lit ?_
      refine wl_yield (o := ⟨_, _, _, _, _, _⟩) (.int .i64 x) (yl_move (by rfl) _ rfl _ rfl) ?_
      simp only [Act.put, List.setIfInBounds_toArray, List.set_cons_zero, List.set_cons_succ]
      refine wl_yield (o := ⟨_, _, _, _, _, _⟩) (SC.val t) (yl_set (by rfl) _ rfl _ 0 rfl _ _ _ _ (fun _ h => by subst h; exact StIn.cells IS)) ?_
      simp only [Act.put, List.setIfInBounds_toArray, List.set_cons_zero, List.set_cons_succ]
      refine wl_call (o := ⟨_, _, _, _, _, _⟩) (by rfl) 18 _ _ rfl #[.int .i64 x, SC.val t] rfl (run_call Try.func18 (by kernel_rfl) (by kernel_rfl)) ?_
      refine (P.atom (x) _ s _ (by omega) (by omega) HS FS).mono ?_
      rintro r v7 ⟨⟨u1, rfl, HB⟩, kb⟩
      replace D := D.trans (kb.mono D.size)
      replace HS := HS.on kb
      replace IS := IS.on kb
      replace IE := IE.on kb
      clear kb
      rw [with_out (by omega)] at HB
      obtain ⟨b0, b1, b2, b3, rfl, -⟩ := HB.scs
      refine ⟨bxVal b0 b1 b2 b3, rfl, ?_⟩
      simp only [Act.put, List.setIfInBounds_toArray, List.set_cons_zero, List.set_cons_succ]
      refine wl_newBx (o := ⟨_, _, _, _, _, _⟩) (o2 := ⟨_, _, _, _, _, _⟩) (by rfl) rfl _ _ rfl (fun _ => rfl) (fun _ => rfl) (fun _ => by rfl) (fun v8 gb8 IB kb => ?_)
      simp only [Act.put, List.setIfInBounds_toArray, List.set_cons_zero, List.set_cons_succ]
      replace D := D.trans (kb.mono D.size)
      replace HS := HS.on kb
      replace IS := IS.on kb
      replace IE := IE.on kb
      replace HB := HB.on kb
      clear kb
      refine wpList_nil ?_
      refine hK4 _ _ ?_
      clear hK4 K4
      refine wp_seq_k (fun K5 hK5 => ?_)
      cases hok : hasE allBx e
      · refine wp_region_held_drew (S := fun w' => EvIn w' gb2 e) (by kernel_rfl) IE (fun hHeld => ?_)
        have kb : Below v8.heap.size v8 v8.drew := (Below.refl _ v8).drew
        replace D := D.trans (kb.mono D.size)
        replace HS := HS.on kb
        replace IS := IS.on kb
        replace IE := IE.on kb
        replace HB := HB.on kb
        replace IB := IB.on kb
        clear kb
        generalize v8.drew = v9 at D hHeld HS IS IE HB IB ⊢
        refine wpAnyH_take (i := 1) (oi := ⟨_, _, _, _, _, _⟩) (v := evVal e) rfl (by kernel_rfl) (by kernel_rfl) (by kernel_rfl) (fun _ _ _ h => h) (yl_ev (by rfl) _ rfl _ 0 rfl _ _ _ _ _ _ _ _ _ _ _ _ (fun _ h => EvIn.cells h)) (by assumption) ?_
        simp only [Act.put, List.setIfInBounds_toArray, List.set_cons_zero, List.set_cons_succ]
        refine held_call (o := ⟨_, _, _, _, _, _⟩) 0 (by kernel_rfl) rfl (by rfl) 19 _ _ rfl #[] rfl (run_call Try.func19 (by kernel_rfl) (by kernel_rfl)) ?_
        refine (P.all _).mono ?_
        rintro r v10 ⟨⟨u1, rfl, HG⟩, kb⟩
        replace D := D.trans (kb.mono D.size)
        replace HS := HS.on kb
        replace IS := IS.on kb
        replace IE := IE.on kb
        replace HB := HB.on kb
        replace IB := IB.on kb
        clear kb
        clear hHeld
        obtain ⟨g0, g1, g2, g3, rfl, -⟩ := HG.scs
        refine ⟨bxVal g0 g1 g2 g3, rfl, IE, fun hHeld => ?_⟩
        simp only [Act.put, List.setIfInBounds_toArray, List.set_cons_zero, List.set_cons_succ]
        refine held_call (o := ⟨_, _, _, _, _, _⟩) 2 (by kernel_rfl) rfl (by rfl) 11 _ _ rfl #[bxVal g0 g1 g2 g3, evVal e] rfl (run_call Try.func11 (by kernel_rfl) (by kernel_rfl)) ?_
        refine (refHasBx_any _ _ e _ HG hf).mono ?_
        rintro r v11 ⟨rfl, kb⟩
        replace D := D.trans (kb.mono D.size)
        replace HS := HS.on kb
        replace IS := IS.on kb
        replace IE := IE.on kb
        replace HB := HB.on kb
        replace IB := IB.on kb
        replace HG := HG.on kb
        clear kb
        clear hHeld
        clear HG
        refine ⟨.bool false, ret_bool hok, IE, fun hHeld => ?_⟩
        simp only [Act.put, List.setIfInBounds_toArray, List.set_cons_zero, List.set_cons_succ]
        refine wpAnyH_take (i := 3) (oi := ⟨_, _, _, _, _, _⟩) (v := .bool false) rfl (by kernel_rfl) (by kernel_rfl) (by kernel_rfl) (fun _ _ _ h => h) (yl_assign (by rfl) _ rfl _ rfl) (by assumption) ?_
        simp only [Act.put, List.setIfInBounds_toArray, List.set_cons_zero, List.set_cons_succ]
        refine wpAnyH_done (by kernel_rfl) ?_ _
        clear hHeld
        refine hK5 _ _ ?_
        clear hK5 K5
        refine wp_seq_k (fun K6 hK6 => ?_)
        refine wp_seq_k (fun K7 hK7 => ?_)
        refine wp_region_lit ?_
        refine wl_yield (o := ⟨_, _, _, _, _, _⟩) (.int .i64 x) (yl_move (by rfl) _ rfl _ rfl) ?_
        simp only [Act.put, List.setIfInBounds_toArray, List.set_cons_zero, List.set_cons_succ]
        refine wl_yield (o := ⟨_, _, _, _, _, _⟩) (.bool false) (yl_lssI (by rfl) _ _ _ rfl (x) (0) false rfl rfl (by simp; omega)) ?_
        simp only [Act.put, List.setIfInBounds_toArray, List.set_cons_zero, List.set_cons_succ]
        refine wl_yield (o := ⟨_, _, _, _, _, _⟩) (.bool false) (yl_move (by rfl) _ rfl _ rfl) ?_
        simp only [Act.put, List.setIfInBounds_toArray, List.set_cons_zero, List.set_cons_succ]
        refine wl_yield (o := ⟨_, _, _, _, _, _⟩) (.int .i64 x) (yl_move (by rfl) _ rfl _ rfl) ?_
        simp only [Act.put, List.setIfInBounds_toArray, List.set_cons_zero, List.set_cons_succ]
        refine wl_yield (o := ⟨_, _, _, _, _, _⟩) (.bool true) (yl_gtrI (by rfl) _ _ _ rfl (x) (3) true rfl rfl (by simp; omega)) ?_
        simp only [Act.put, List.setIfInBounds_toArray, List.set_cons_zero, List.set_cons_succ]
        refine wl_yield (o := ⟨_, _, _, _, _, _⟩) (.bool true) (yl_pickF (by rfl) _ _ _ rfl rfl _ rfl) ?_
        simp only [Act.put, List.setIfInBounds_toArray, List.set_cons_zero, List.set_cons_succ]
        refine wpList_nil ?_
        refine hK7 _ _ ?_
        clear hK7 K7
        refine wp_cond_true rfl ?_
        refine wp_seq_k (fun K8 hK8 => ?_)
        refine wp_region_held_drew (S := fun w' => BxIn w' gb8 b0 b1 b2 b3 ∧ StIn w' gb1 t) (by kernel_rfl) ⟨IB, IS⟩ (fun hHeld => ?_)
        have kb : Below v11.heap.size v11 v11.drew := (Below.refl _ v11).drew
        replace D := D.trans (kb.mono D.size)
        replace HS := HS.on kb
        replace IS := IS.on kb
        replace IE := IE.on kb
        replace HB := HB.on kb
        replace IB := IB.on kb
        clear kb
        generalize v11.drew = v12 at D hHeld HS IS IE HB IB ⊢
        refine wpAnyH_take (i := 0) (oi := ⟨_, _, _, _, _, _⟩) (v := bxVal b0 b1 b2 b3) rfl (by kernel_rfl) (by kernel_rfl) (by kernel_rfl) (fun _ _ _ h => h) (yl_box (by rfl) _ rfl _ 0 rfl _ _ _ _ _ _ _ _ _ _ _ _ _ _ _ _ (fun _ h => BxIn.cells h.1)) (by assumption) ?_
        simp only [Act.put, List.setIfInBounds_toArray, List.set_cons_zero, List.set_cons_succ]
        refine held_call (o := ⟨_, _, _, _, _, _⟩) 1 (by kernel_rfl) rfl (by rfl) 19 _ _ rfl #[] rfl (run_call Try.func19 (by kernel_rfl) (by kernel_rfl)) ?_
        refine (P.all _).mono ?_
        rintro r v13 ⟨⟨u1, rfl, HG⟩, kb⟩
        replace D := D.trans (kb.mono D.size)
        replace HS := HS.on kb
        replace IS := IS.on kb
        replace IE := IE.on kb
        replace HB := HB.on kb
        replace IB := IB.on kb
        clear kb
        clear hHeld
        obtain ⟨g0, g1, g2, g3, rfl, -⟩ := HG.scs
        refine ⟨bxVal g0 g1 g2 g3, rfl, ⟨IB, IS⟩, fun hHeld => ?_⟩
        simp only [Act.put, List.setIfInBounds_toArray, List.set_cons_zero, List.set_cons_succ]
        refine held_call (o := ⟨_, _, _, _, _, _⟩) 2 (by kernel_rfl) rfl (by rfl) 20 _ _ rfl #[bxVal b0 b1 b2 b3, bxVal g0 g1 g2 g3] rfl (run_call Try.func20 (by kernel_rfl) (by kernel_rfl)) ?_
        refine (P.same _ _ _ _ _ HB HG FB.fit allFew.fit).mono ?_
        rintro r v14 ⟨rfl, kb⟩
        replace D := D.trans (kb.mono D.size)
        replace HS := HS.on kb
        replace IS := IS.on kb
        replace IE := IE.on kb
        replace HB := HB.on kb
        replace IB := IB.on kb
        replace HG := HG.on kb
        clear kb
        clear hHeld
        clear HG
        refine ⟨.bool true, ret_bool (sameBx_refl _), ⟨IB, IS⟩, fun hHeld => ?_⟩
        simp only [Act.put, List.setIfInBounds_toArray, List.set_cons_zero, List.set_cons_succ]
        refine wpAnyH_take (i := 3) (oi := ⟨_, _, _, _, _, _⟩) (v := .bool true) rfl (by kernel_rfl) (by kernel_rfl) (by kernel_rfl) (fun _ _ _ h => h) (yl_move (by rfl) _ rfl _ rfl) (by assumption) ?_
        simp only [Act.put, List.setIfInBounds_toArray, List.set_cons_zero, List.set_cons_succ]
        refine wpAnyH_take (i := 4) (oi := ⟨_, _, _, _, _, _⟩) (v := bxVal b0 b1 b2 b3) rfl (by kernel_rfl) (by kernel_rfl) (by kernel_rfl) (fun _ _ _ h => h) (yl_box (by rfl) _ rfl _ 0 rfl _ _ _ _ _ _ _ _ _ _ _ _ _ _ _ _ (fun _ h => BxIn.cells h.1)) (by assumption) ?_
        simp only [Act.put, List.setIfInBounds_toArray, List.set_cons_zero, List.set_cons_succ]
        refine wpAnyH_take (i := 5) (oi := ⟨_, _, _, _, _, _⟩) (v := .int .i64 x) rfl (by kernel_rfl) (by kernel_rfl) (by kernel_rfl) (fun _ _ _ h => h) (yl_move (by rfl) _ rfl _ rfl) (by assumption) ?_
        simp only [Act.put, List.setIfInBounds_toArray, List.set_cons_zero, List.set_cons_succ]
        refine wpAnyH_take (i := 6) (oi := ⟨_, _, _, _, _, _⟩) (v := SC.val t) rfl (by kernel_rfl) (by kernel_rfl) (by kernel_rfl) (fun _ _ _ h => h) (yl_set (by rfl) _ rfl _ 0 rfl _ _ _ _ (fun _ h => StIn.cells h.2)) (by assumption) ?_
        simp only [Act.put, List.setIfInBounds_toArray, List.set_cons_zero, List.set_cons_succ]
        refine wpAnyH_take (i := 8) (oi := ⟨_, _, _, _, _, _⟩) (v := bxVal b0 b1 b2 b3) rfl (by kernel_rfl) (by kernel_rfl) (by kernel_rfl) (fun _ _ _ h => h) (yl_box (by rfl) _ rfl _ 0 rfl _ _ _ _ _ _ _ _ _ _ _ _ _ _ _ _ (fun _ h => BxIn.cells h.1)) (by assumption) ?_
        simp only [Act.put, List.setIfInBounds_toArray, List.set_cons_zero, List.set_cons_succ]
        refine held_call (o := ⟨_, _, _, _, _, _⟩) 7 (by kernel_rfl) rfl (by rfl) 15 _ _ rfl #[bxVal b0 b1 b2 b3, .int .i64 x, SC.val t] rfl (run_call Try.func15 (by kernel_rfl) (by kernel_rfl)) ?_
        refine (P.with_ _ allBx x _ s _ (by omega) (by omega) HB FB.fit HS FS).mono ?_
        rintro r v15 ⟨⟨u1, rfl, HD⟩, kb⟩
        replace D := D.trans (kb.mono D.size)
        replace HS := HS.on kb
        replace IS := IS.on kb
        replace IE := IE.on kb
        replace HB := HB.on kb
        replace IB := IB.on kb
        clear kb
        clear hHeld
        rw [with_out (by omega)] at HD
        obtain ⟨d0, d1, d2, d3, rfl, -⟩ := HD.scs
        refine ⟨bxVal d0 d1 d2 d3, rfl, ⟨IB, IS⟩, fun hHeld => ?_⟩
        simp only [Act.put, List.setIfInBounds_toArray, List.set_cons_zero, List.set_cons_succ]
        refine held_call (o := ⟨_, _, _, _, _, _⟩) 9 (by kernel_rfl) rfl (by rfl) 20 _ _ rfl #[bxVal d0 d1 d2 d3, bxVal b0 b1 b2 b3] rfl (run_call Try.func20 (by kernel_rfl) (by kernel_rfl)) ?_
        refine (P.same _ _ _ _ _ HD HB FB.fit FB.fit).mono ?_
        rintro r v16 ⟨rfl, kb⟩
        replace D := D.trans (kb.mono D.size)
        replace HS := HS.on kb
        replace IS := IS.on kb
        replace IE := IE.on kb
        replace HB := HB.on kb
        replace IB := IB.on kb
        replace HD := HD.on kb
        clear kb
        clear hHeld
        clear HD
        refine ⟨.bool true, ret_bool (sameBx_refl _), ⟨IB, IS⟩, fun hHeld => ?_⟩
        simp only [Act.put, List.setIfInBounds_toArray, List.set_cons_zero, List.set_cons_succ]
        refine wpAnyH_take (i := 10) (oi := ⟨_, _, _, _, _, _⟩) (v := .bool true) rfl (by kernel_rfl) (by kernel_rfl) (by kernel_rfl) (fun _ _ _ h => h) (yl_pickT (by rfl) _ _ _ rfl rfl _ rfl) (by assumption) ?_
        simp only [Act.put, List.setIfInBounds_toArray, List.set_cons_zero, List.set_cons_succ]
        refine wpAnyH_take (i := 11) (oi := ⟨_, _, _, _, _, _⟩) (v := .bool true) rfl (by kernel_rfl) (by kernel_rfl) (by kernel_rfl) (fun _ _ _ h => h) (yl_assign (by rfl) _ rfl _ rfl) (by assumption) ?_
        simp only [Act.put, List.setIfInBounds_toArray, List.set_cons_zero, List.set_cons_succ]
        refine wpAnyH_done (by kernel_rfl) ?_ _
        clear hHeld
        refine hK8 _ _ ?_
        clear hK8 K8
        refine wp_ret ?_
        go_ret
        exact ⟨rfl, D⟩
      · refine wp_region_held_drew (S := fun w' => EvIn w' gb2 e) (by kernel_rfl) IE (fun hHeld => ?_)
        have kb : Below v8.heap.size v8 v8.drew := (Below.refl _ v8).drew
        replace D := D.trans (kb.mono D.size)
        replace HS := HS.on kb
        replace IS := IS.on kb
        replace IE := IE.on kb
        replace HB := HB.on kb
        replace IB := IB.on kb
        clear kb
        generalize v8.drew = v9 at D hHeld HS IS IE HB IB ⊢
        refine wpAnyH_take (i := 1) (oi := ⟨_, _, _, _, _, _⟩) (v := evVal e) rfl (by kernel_rfl) (by kernel_rfl) (by kernel_rfl) (fun _ _ _ h => h) (yl_ev (by rfl) _ rfl _ 0 rfl _ _ _ _ _ _ _ _ _ _ _ _ (fun _ h => EvIn.cells h)) (by assumption) ?_
        simp only [Act.put, List.setIfInBounds_toArray, List.set_cons_zero, List.set_cons_succ]
        refine held_call (o := ⟨_, _, _, _, _, _⟩) 0 (by kernel_rfl) rfl (by rfl) 19 _ _ rfl #[] rfl (run_call Try.func19 (by kernel_rfl) (by kernel_rfl)) ?_
        refine (P.all _).mono ?_
        rintro r v10 ⟨⟨u1, rfl, HG⟩, kb⟩
        replace D := D.trans (kb.mono D.size)
        replace HS := HS.on kb
        replace IS := IS.on kb
        replace IE := IE.on kb
        replace HB := HB.on kb
        replace IB := IB.on kb
        clear kb
        clear hHeld
        obtain ⟨g0, g1, g2, g3, rfl, -⟩ := HG.scs
        refine ⟨bxVal g0 g1 g2 g3, rfl, IE, fun hHeld => ?_⟩
        simp only [Act.put, List.setIfInBounds_toArray, List.set_cons_zero, List.set_cons_succ]
        refine held_call (o := ⟨_, _, _, _, _, _⟩) 2 (by kernel_rfl) rfl (by rfl) 11 _ _ rfl #[bxVal g0 g1 g2 g3, evVal e] rfl (run_call Try.func11 (by kernel_rfl) (by kernel_rfl)) ?_
        refine (refHasBx_any _ _ e _ HG hf).mono ?_
        rintro r v11 ⟨rfl, kb⟩
        replace D := D.trans (kb.mono D.size)
        replace HS := HS.on kb
        replace IS := IS.on kb
        replace IE := IE.on kb
        replace HB := HB.on kb
        replace IB := IB.on kb
        replace HG := HG.on kb
        clear kb
        clear hHeld
        clear HG
        refine ⟨.bool true, ret_bool hok, IE, fun hHeld => ?_⟩
        simp only [Act.put, List.setIfInBounds_toArray, List.set_cons_zero, List.set_cons_succ]
        refine wpAnyH_take (i := 3) (oi := ⟨_, _, _, _, _, _⟩) (v := .bool true) rfl (by kernel_rfl) (by kernel_rfl) (by kernel_rfl) (fun _ _ _ h => h) (yl_assign (by rfl) _ rfl _ rfl) (by assumption) ?_
        simp only [Act.put, List.setIfInBounds_toArray, List.set_cons_zero, List.set_cons_succ]
        refine wpAnyH_done (by kernel_rfl) ?_ _
        clear hHeld
        refine hK5 _ _ ?_
        clear hK5 K5
        refine wp_seq_k (fun K6 hK6 => ?_)
        refine wp_seq_k (fun K7 hK7 => ?_)
        refine wp_region_lit ?_
        refine wl_yield (o := ⟨_, _, _, _, _, _⟩) (.int .i64 x) (yl_move (by rfl) _ rfl _ rfl) ?_
        simp only [Act.put, List.setIfInBounds_toArray, List.set_cons_zero, List.set_cons_succ]
        refine wl_yield (o := ⟨_, _, _, _, _, _⟩) (.bool false) (yl_lssI (by rfl) _ _ _ rfl (x) (0) false rfl rfl (by simp; omega)) ?_
        simp only [Act.put, List.setIfInBounds_toArray, List.set_cons_zero, List.set_cons_succ]
        refine wl_yield (o := ⟨_, _, _, _, _, _⟩) (.bool false) (yl_move (by rfl) _ rfl _ rfl) ?_
        simp only [Act.put, List.setIfInBounds_toArray, List.set_cons_zero, List.set_cons_succ]
        refine wl_yield (o := ⟨_, _, _, _, _, _⟩) (.int .i64 x) (yl_move (by rfl) _ rfl _ rfl) ?_
        simp only [Act.put, List.setIfInBounds_toArray, List.set_cons_zero, List.set_cons_succ]
        refine wl_yield (o := ⟨_, _, _, _, _, _⟩) (.bool true) (yl_gtrI (by rfl) _ _ _ rfl (x) (3) true rfl rfl (by simp; omega)) ?_
        simp only [Act.put, List.setIfInBounds_toArray, List.set_cons_zero, List.set_cons_succ]
        refine wl_yield (o := ⟨_, _, _, _, _, _⟩) (.bool true) (yl_pickF (by rfl) _ _ _ rfl rfl _ rfl) ?_
        simp only [Act.put, List.setIfInBounds_toArray, List.set_cons_zero, List.set_cons_succ]
        refine wpList_nil ?_
        refine hK7 _ _ ?_
        clear hK7 K7
        refine wp_cond_true rfl ?_
        refine wp_seq_k (fun K8 hK8 => ?_)
        refine wp_region_held_drew (S := fun w' => BxIn w' gb8 b0 b1 b2 b3 ∧ StIn w' gb1 t) (by kernel_rfl) ⟨IB, IS⟩ (fun hHeld => ?_)
        have kb : Below v11.heap.size v11 v11.drew := (Below.refl _ v11).drew
        replace D := D.trans (kb.mono D.size)
        replace HS := HS.on kb
        replace IS := IS.on kb
        replace IE := IE.on kb
        replace HB := HB.on kb
        replace IB := IB.on kb
        clear kb
        generalize v11.drew = v12 at D hHeld HS IS IE HB IB ⊢
        refine wpAnyH_take (i := 0) (oi := ⟨_, _, _, _, _, _⟩) (v := bxVal b0 b1 b2 b3) rfl (by kernel_rfl) (by kernel_rfl) (by kernel_rfl) (fun _ _ _ h => h) (yl_box (by rfl) _ rfl _ 0 rfl _ _ _ _ _ _ _ _ _ _ _ _ _ _ _ _ (fun _ h => BxIn.cells h.1)) (by assumption) ?_
        simp only [Act.put, List.setIfInBounds_toArray, List.set_cons_zero, List.set_cons_succ]
        refine held_call (o := ⟨_, _, _, _, _, _⟩) 1 (by kernel_rfl) rfl (by rfl) 19 _ _ rfl #[] rfl (run_call Try.func19 (by kernel_rfl) (by kernel_rfl)) ?_
        refine (P.all _).mono ?_
        rintro r v13 ⟨⟨u1, rfl, HG⟩, kb⟩
        replace D := D.trans (kb.mono D.size)
        replace HS := HS.on kb
        replace IS := IS.on kb
        replace IE := IE.on kb
        replace HB := HB.on kb
        replace IB := IB.on kb
        clear kb
        clear hHeld
        obtain ⟨g0, g1, g2, g3, rfl, -⟩ := HG.scs
        refine ⟨bxVal g0 g1 g2 g3, rfl, ⟨IB, IS⟩, fun hHeld => ?_⟩
        simp only [Act.put, List.setIfInBounds_toArray, List.set_cons_zero, List.set_cons_succ]
        refine held_call (o := ⟨_, _, _, _, _, _⟩) 2 (by kernel_rfl) rfl (by rfl) 20 _ _ rfl #[bxVal b0 b1 b2 b3, bxVal g0 g1 g2 g3] rfl (run_call Try.func20 (by kernel_rfl) (by kernel_rfl)) ?_
        refine (P.same _ _ _ _ _ HB HG FB.fit allFew.fit).mono ?_
        rintro r v14 ⟨rfl, kb⟩
        replace D := D.trans (kb.mono D.size)
        replace HS := HS.on kb
        replace IS := IS.on kb
        replace IE := IE.on kb
        replace HB := HB.on kb
        replace IB := IB.on kb
        replace HG := HG.on kb
        clear kb
        clear hHeld
        clear HG
        refine ⟨.bool true, ret_bool (sameBx_refl _), ⟨IB, IS⟩, fun hHeld => ?_⟩
        simp only [Act.put, List.setIfInBounds_toArray, List.set_cons_zero, List.set_cons_succ]
        refine wpAnyH_take (i := 3) (oi := ⟨_, _, _, _, _, _⟩) (v := .bool true) rfl (by kernel_rfl) (by kernel_rfl) (by kernel_rfl) (fun _ _ _ h => h) (yl_move (by rfl) _ rfl _ rfl) (by assumption) ?_
        simp only [Act.put, List.setIfInBounds_toArray, List.set_cons_zero, List.set_cons_succ]
        refine wpAnyH_take (i := 4) (oi := ⟨_, _, _, _, _, _⟩) (v := bxVal b0 b1 b2 b3) rfl (by kernel_rfl) (by kernel_rfl) (by kernel_rfl) (fun _ _ _ h => h) (yl_box (by rfl) _ rfl _ 0 rfl _ _ _ _ _ _ _ _ _ _ _ _ _ _ _ _ (fun _ h => BxIn.cells h.1)) (by assumption) ?_
        simp only [Act.put, List.setIfInBounds_toArray, List.set_cons_zero, List.set_cons_succ]
        refine wpAnyH_take (i := 5) (oi := ⟨_, _, _, _, _, _⟩) (v := .int .i64 x) rfl (by kernel_rfl) (by kernel_rfl) (by kernel_rfl) (fun _ _ _ h => h) (yl_move (by rfl) _ rfl _ rfl) (by assumption) ?_
        simp only [Act.put, List.setIfInBounds_toArray, List.set_cons_zero, List.set_cons_succ]
        refine wpAnyH_take (i := 6) (oi := ⟨_, _, _, _, _, _⟩) (v := SC.val t) rfl (by kernel_rfl) (by kernel_rfl) (by kernel_rfl) (fun _ _ _ h => h) (yl_set (by rfl) _ rfl _ 0 rfl _ _ _ _ (fun _ h => StIn.cells h.2)) (by assumption) ?_
        simp only [Act.put, List.setIfInBounds_toArray, List.set_cons_zero, List.set_cons_succ]
        refine wpAnyH_take (i := 8) (oi := ⟨_, _, _, _, _, _⟩) (v := bxVal b0 b1 b2 b3) rfl (by kernel_rfl) (by kernel_rfl) (by kernel_rfl) (fun _ _ _ h => h) (yl_box (by rfl) _ rfl _ 0 rfl _ _ _ _ _ _ _ _ _ _ _ _ _ _ _ _ (fun _ h => BxIn.cells h.1)) (by assumption) ?_
        simp only [Act.put, List.setIfInBounds_toArray, List.set_cons_zero, List.set_cons_succ]
        refine held_call (o := ⟨_, _, _, _, _, _⟩) 7 (by kernel_rfl) rfl (by rfl) 15 _ _ rfl #[bxVal b0 b1 b2 b3, .int .i64 x, SC.val t] rfl (run_call Try.func15 (by kernel_rfl) (by kernel_rfl)) ?_
        refine (P.with_ _ allBx x _ s _ (by omega) (by omega) HB FB.fit HS FS).mono ?_
        rintro r v15 ⟨⟨u1, rfl, HD⟩, kb⟩
        replace D := D.trans (kb.mono D.size)
        replace HS := HS.on kb
        replace IS := IS.on kb
        replace IE := IE.on kb
        replace HB := HB.on kb
        replace IB := IB.on kb
        clear kb
        clear hHeld
        rw [with_out (by omega)] at HD
        obtain ⟨d0, d1, d2, d3, rfl, -⟩ := HD.scs
        refine ⟨bxVal d0 d1 d2 d3, rfl, ⟨IB, IS⟩, fun hHeld => ?_⟩
        simp only [Act.put, List.setIfInBounds_toArray, List.set_cons_zero, List.set_cons_succ]
        refine held_call (o := ⟨_, _, _, _, _, _⟩) 9 (by kernel_rfl) rfl (by rfl) 20 _ _ rfl #[bxVal d0 d1 d2 d3, bxVal b0 b1 b2 b3] rfl (run_call Try.func20 (by kernel_rfl) (by kernel_rfl)) ?_
        refine (P.same _ _ _ _ _ HD HB FB.fit FB.fit).mono ?_
        rintro r v16 ⟨rfl, kb⟩
        replace D := D.trans (kb.mono D.size)
        replace HS := HS.on kb
        replace IS := IS.on kb
        replace IE := IE.on kb
        replace HB := HB.on kb
        replace IB := IB.on kb
        replace HD := HD.on kb
        clear kb
        clear hHeld
        clear HD
        refine ⟨.bool true, ret_bool (sameBx_refl _), ⟨IB, IS⟩, fun hHeld => ?_⟩
        simp only [Act.put, List.setIfInBounds_toArray, List.set_cons_zero, List.set_cons_succ]
        refine wpAnyH_take (i := 10) (oi := ⟨_, _, _, _, _, _⟩) (v := .bool true) rfl (by kernel_rfl) (by kernel_rfl) (by kernel_rfl) (fun _ _ _ h => h) (yl_pickT (by rfl) _ _ _ rfl rfl _ rfl) (by assumption) ?_
        simp only [Act.put, List.setIfInBounds_toArray, List.set_cons_zero, List.set_cons_succ]
        refine wpAnyH_take (i := 11) (oi := ⟨_, _, _, _, _, _⟩) (v := .bool true) rfl (by kernel_rfl) (by kernel_rfl) (by kernel_rfl) (fun _ _ _ h => h) (yl_assign (by rfl) _ rfl _ rfl) (by assumption) ?_
        simp only [Act.put, List.setIfInBounds_toArray, List.set_cons_zero, List.set_cons_succ]
        refine wpAnyH_done (by kernel_rfl) ?_ _
        clear hHeld
        refine hK8 _ _ ?_
        clear hK8 K8
        refine wp_ret ?_
        go_ret
        exact ⟨rfl, D⟩
set_option maxHeartbeats 8000000 in
set_option maxRecDepth 100000 in
theorem atoms_0 (P : BoxProg) (u : Value) (s : SetV) (e : EvV) (w : World) (HS : SetAt w u s) (hf : evFit e) (he : inE e) :
    Calls Try.prog 5 #[.int .i64 0, u, evVal e] w fun r w' => r = .returned (.bool true) ∧ Below w.heap.size w w' := by
  obtain ⟨t, rfl⟩ := HS.sc
  have D := Below.refl w.heap.size w
  go_enter Try.func5, Try.ntmps5
  refine wp_seq_k (fun K1 hK1 => ?_)
  refine wp_region_lit ?_
  refine wl_boxSt (o := ⟨_, _, _, _, _, _⟩) (by rfl) _ rfl rfl (fun v1 gb1 IS kb => ?_)
  simp only [Act.put, List.setIfInBounds_toArray, List.set_cons_zero, List.set_cons_succ]
  replace D := D.trans (kb.mono D.size)
  replace HS := HS.on kb
  clear kb
  refine wl_boxEv (o := ⟨_, _, _, _, _, _⟩) (by rfl) _ rfl rfl (fun v2 gb2 IE kb => ?_)
  simp only [Act.put, List.setIfInBounds_toArray, List.set_cons_zero, List.set_cons_succ]
  replace D := D.trans (kb.mono D.size)
  replace HS := HS.on kb
  replace IS := IS.on kb
  clear kb
  refine wl_yield (o := ⟨_, _, _, _, _, _⟩) (.bool false) (yl_assign (by rfl) _ rfl _ rfl) ?_
  simp only [Act.put, List.setIfInBounds_toArray, List.set_cons_zero, List.set_cons_succ]
  refine wpList_nil ?_
  refine hK1 _ _ ?_
  clear hK1 K1
  refine wp_seq_k (fun K2 hK2 => ?_)
  refine wp_seq_k (fun K3 hK3 => ?_)
  refine wp_region_lit ?_
  refine wl_call (o := ⟨_, _, _, _, _, _⟩) (by rfl) 7 _ _ rfl #[] rfl (run_call Try.func7 (by kernel_rfl) (by kernel_rfl)) ?_
  refine (awake4_any P _).mono ?_
  rintro r v3 ⟨rfl, kb⟩
  replace D := D.trans (kb.mono D.size)
  replace HS := HS.on kb
  replace IS := IS.on kb
  replace IE := IE.on kb
  clear kb
  refine ⟨.bool true, rfl, ?_⟩
  simp only [Act.put, List.setIfInBounds_toArray, List.set_cons_zero, List.set_cons_succ]
  refine wl_yield (o := ⟨_, _, _, _, _, _⟩) (.bool false) (yl_not (by rfl) _ _ rfl true rfl) ?_
  simp only [Act.put, List.setIfInBounds_toArray, List.set_cons_zero, List.set_cons_succ]
  refine wl_yield (o := ⟨_, _, _, _, _, _⟩) (.bool false) (yl_move (by rfl) _ rfl _ rfl) ?_
  simp only [Act.put, List.setIfInBounds_toArray, List.set_cons_zero, List.set_cons_succ]
  refine wl_yield (o := ⟨_, _, _, _, _, _⟩) (SC.val t) (yl_set (by rfl) _ rfl _ 0 rfl _ _ _ _ (fun _ h => by subst h; exact StIn.cells IS)) ?_
  simp only [Act.put, List.setIfInBounds_toArray, List.set_cons_zero, List.set_cons_succ]
  refine wl_rowSt1 (o := ⟨_, _, _, _, _, _⟩) (by rfl) _ rfl rfl HS (fun v4 y4 HY kb => ?_)
  simp only [Act.put, List.setIfInBounds_toArray, List.set_cons_zero, List.set_cons_succ]
  replace D := D.trans (kb.mono D.size)
  replace HS := HS.on kb
  replace IS := IS.on kb
  replace IE := IE.on kb
  clear kb
  refine wl_call (o := ⟨_, _, _, _, _, _⟩) (by rfl) 13 _ _ rfl #[y4] rfl (run_call Try.func13 (by kernel_rfl) (by kernel_rfl)) ?_
  refine (refFew_below HY).mono ?_
  rintro r v5 ⟨rfl, kb⟩
  replace D := D.trans (kb.mono D.size)
  replace HS := HS.on kb
  replace IS := IS.on kb
  replace IE := IE.on kb
  clear kb
  cases hF : [s].all fewB
  · refine ⟨.bool false, rfl, ?_⟩
    simp only [Act.put, List.setIfInBounds_toArray, List.set_cons_zero, List.set_cons_succ]
    refine wl_yield (o := ⟨_, _, _, _, _, _⟩) (.bool true) (yl_not (by rfl) _ _ rfl false rfl) ?_
    simp only [Act.put, List.setIfInBounds_toArray, List.set_cons_zero, List.set_cons_succ]
    refine wl_yield (o := ⟨_, _, _, _, _, _⟩) (.bool true) (yl_pickF (by rfl) _ _ _ rfl rfl _ rfl) ?_
    simp only [Act.put, List.setIfInBounds_toArray, List.set_cons_zero, List.set_cons_succ]
    refine wl_yield (o := ⟨_, _, _, _, _, _⟩) (.bool true) (yl_move (by rfl) _ rfl _ rfl) ?_
    simp only [Act.put, List.setIfInBounds_toArray, List.set_cons_zero, List.set_cons_succ]
    refine wl_yield (o := ⟨_, _, _, _, _, _⟩) undef (yl_undef (by rfl)) ?_
    simp only [Act.put, List.setIfInBounds_toArray, List.set_cons_zero, List.set_cons_succ]
    refine wl_yield (o := ⟨_, _, _, _, _, _⟩) undef (yl_undef (by rfl)) ?_
    simp only [Act.put, List.setIfInBounds_toArray, List.set_cons_zero, List.set_cons_succ]
    refine wl_yield (o := ⟨_, _, _, _, _, _⟩) undef (yl_undef (by rfl)) ?_
    simp only [Act.put, List.setIfInBounds_toArray, List.set_cons_zero, List.set_cons_succ]
    refine wl_yield (o := ⟨_, _, _, _, _, _⟩) (.bool true) (yl_pickT (by rfl) _ _ _ rfl rfl _ rfl) ?_
    simp only [Act.put, List.setIfInBounds_toArray, List.set_cons_zero, List.set_cons_succ]
    refine wpList_nil ?_
    refine hK3 _ _ ?_
    clear hK3 K3
    refine wp_cond_true rfl ?_
    refine wp_seq_k (fun K4 hK4 => ?_)
    refine wp_region_lit ?_
    refine wl_call (o := ⟨_, _, _, _, _, _⟩) (by rfl) 7 _ _ rfl #[] rfl (run_call Try.func7 (by kernel_rfl) (by kernel_rfl)) ?_
    refine (awake4_any P _).mono ?_
    rintro r v6 ⟨rfl, kb⟩
    replace D := D.trans (kb.mono D.size)
    replace HS := HS.on kb
    replace IS := IS.on kb
    replace IE := IE.on kb
    clear kb
    refine ⟨.bool true, rfl, ?_⟩
    simp only [Act.put, List.setIfInBounds_toArray, List.set_cons_zero, List.set_cons_succ]
    refine wl_yield (o := ⟨_, _, _, _, _, _⟩) (.bool true) (yl_assign (by rfl) _ rfl _ rfl) ?_
    simp only [Act.put, List.setIfInBounds_toArray, List.set_cons_zero, List.set_cons_succ]
    refine wpList_nil ?_
    refine hK4 _ _ ?_
    clear hK4 K4
    refine wp_ret ?_
    go_ret
    exact ⟨rfl, D⟩
  · refine ⟨.bool true, rfl, ?_⟩
    simp only [Act.put, List.setIfInBounds_toArray, List.set_cons_zero, List.set_cons_succ]
    refine wl_yield (o := ⟨_, _, _, _, _, _⟩) (.bool false) (yl_not (by rfl) _ _ rfl true rfl) ?_
    simp only [Act.put, List.setIfInBounds_toArray, List.set_cons_zero, List.set_cons_succ]
    refine wl_yield (o := ⟨_, _, _, _, _, _⟩) (.bool false) (yl_pickF (by rfl) _ _ _ rfl rfl _ rfl) ?_
    simp only [Act.put, List.setIfInBounds_toArray, List.set_cons_zero, List.set_cons_succ]
    refine wl_yield (o := ⟨_, _, _, _, _, _⟩) (.bool false) (yl_move (by rfl) _ rfl _ rfl) ?_
    simp only [Act.put, List.setIfInBounds_toArray, List.set_cons_zero, List.set_cons_succ]
    refine wl_yield (o := ⟨_, _, _, _, _, _⟩) (SC.val t) (yl_set (by rfl) _ rfl _ 0 rfl _ _ _ _ (fun _ h => by subst h; exact StIn.cells IS)) ?_
    simp only [Act.put, List.setIfInBounds_toArray, List.set_cons_zero, List.set_cons_succ]
    refine wl_call (o := ⟨_, _, _, _, _, _⟩) (by rfl) 14 _ _ rfl #[SC.val t] rfl (run_call Try.func14 (by kernel_rfl) (by kernel_rfl)) ?_
    refine (refRightSet_any _ s _ HS).mono ?_
    rintro r v6 ⟨rfl, kb⟩
    replace D := D.trans (kb.mono D.size)
    replace HS := HS.on kb
    replace IS := IS.on kb
    replace IE := IE.on kb
    clear kb
    cases hR : rightSet s
    · refine ⟨.bool false, rfl, ?_⟩
      simp only [Act.put, List.setIfInBounds_toArray, List.set_cons_zero, List.set_cons_succ]
      refine wl_yield (o := ⟨_, _, _, _, _, _⟩) (.bool true) (yl_not (by rfl) _ _ rfl false rfl) ?_
      simp only [Act.put, List.setIfInBounds_toArray, List.set_cons_zero, List.set_cons_succ]
      refine wl_yield (o := ⟨_, _, _, _, _, _⟩) (.bool true) (yl_pickF (by rfl) _ _ _ rfl rfl _ rfl) ?_
      simp only [Act.put, List.setIfInBounds_toArray, List.set_cons_zero, List.set_cons_succ]
      refine wpList_nil ?_
      refine hK3 _ _ ?_
      clear hK3 K3
      refine wp_cond_true rfl ?_
      refine wp_seq_k (fun K4 hK4 => ?_)
      refine wp_region_lit ?_
      refine wl_call (o := ⟨_, _, _, _, _, _⟩) (by rfl) 7 _ _ rfl #[] rfl (run_call Try.func7 (by kernel_rfl) (by kernel_rfl)) ?_
      refine (awake4_any P _).mono ?_
      rintro r v7 ⟨rfl, kb⟩
      replace D := D.trans (kb.mono D.size)
      replace HS := HS.on kb
      replace IS := IS.on kb
      replace IE := IE.on kb
      clear kb
      refine ⟨.bool true, rfl, ?_⟩
      simp only [Act.put, List.setIfInBounds_toArray, List.set_cons_zero, List.set_cons_succ]
      refine wl_yield (o := ⟨_, _, _, _, _, _⟩) (.bool true) (yl_assign (by rfl) _ rfl _ rfl) ?_
      simp only [Act.put, List.setIfInBounds_toArray, List.set_cons_zero, List.set_cons_succ]
      refine wpList_nil ?_
      refine hK4 _ _ ?_
      clear hK4 K4
      refine wp_ret ?_
      go_ret
      exact ⟨rfl, D⟩
    · refine ⟨.bool true, rfl, ?_⟩
      simp only [Act.put, List.setIfInBounds_toArray, List.set_cons_zero, List.set_cons_succ]
      refine wl_yield (o := ⟨_, _, _, _, _, _⟩) (.bool false) (yl_not (by rfl) _ _ rfl true rfl) ?_
      simp only [Act.put, List.setIfInBounds_toArray, List.set_cons_zero, List.set_cons_succ]
      refine wl_yield (o := ⟨_, _, _, _, _, _⟩) (.bool false) (yl_pickF (by rfl) _ _ _ rfl rfl _ rfl) ?_
      simp only [Act.put, List.setIfInBounds_toArray, List.set_cons_zero, List.set_cons_succ]
      refine wpList_nil ?_
      refine hK3 _ _ ?_
      clear hK3 K3
      refine wp_cond_false rfl ?_
      refine wp_skip ?_
      refine hK2 _ _ ?_
      clear hK2 K2
      have hG : Good s := ⟨hR, HS.i64⟩
      have hL := few_len (few1 hF)
      have FS : Fit s := ⟨hG, by omega, by omega⟩
      have FB : FewB (allBx.put 0 s) := put_few allFew (by omega) hG hL.1 hL.2
      refine wp_seq_k (fun K4 hK4 => ?_)
      refine wp_region_lit ?_
      refine wl_yield (o := ⟨_, _, _, _, _, _⟩) (.int .i64 0) (yl_move (by rfl) _ rfl _ rfl) ?_
      simp only [Act.put, List.setIfInBounds_toArray, List.set_cons_zero, List.set_cons_succ]
      refine wl_yield (o := ⟨_, _, _, _, _, _⟩) (SC.val t) (yl_set (by rfl) _ rfl _ 0 rfl _ _ _ _ (fun _ h => by subst h; exact StIn.cells IS)) ?_
      simp only [Act.put, List.setIfInBounds_toArray, List.set_cons_zero, List.set_cons_succ]
      refine wl_call (o := ⟨_, _, _, _, _, _⟩) (by rfl) 18 _ _ rfl #[.int .i64 0, SC.val t] rfl (run_call Try.func18 (by kernel_rfl) (by kernel_rfl)) ?_
      refine (P.atom (0) _ s _ (by omega) (by omega) HS FS).mono ?_
      rintro r v7 ⟨⟨u1, rfl, HB⟩, kb⟩
      replace D := D.trans (kb.mono D.size)
      replace HS := HS.on kb
      replace IS := IS.on kb
      replace IE := IE.on kb
      clear kb
      replace HB : BoxAt _ _ (allBx.put 0 s) := HB
      obtain ⟨b0, b1, b2, b3, rfl, -⟩ := HB.scs
      refine ⟨bxVal b0 b1 b2 b3, rfl, ?_⟩
      simp only [Act.put, List.setIfInBounds_toArray, List.set_cons_zero, List.set_cons_succ]
      refine wl_newBx (o := ⟨_, _, _, _, _, _⟩) (o2 := ⟨_, _, _, _, _, _⟩) (by rfl) rfl _ _ rfl (fun _ => rfl) (fun _ => rfl) (fun _ => by rfl) (fun v8 gb8 IB kb => ?_)
      simp only [Act.put, List.setIfInBounds_toArray, List.set_cons_zero, List.set_cons_succ]
      replace D := D.trans (kb.mono D.size)
      replace HS := HS.on kb
      replace IS := IS.on kb
      replace IE := IE.on kb
      replace HB := HB.on kb
      clear kb
      refine wpList_nil ?_
      refine hK4 _ _ ?_
      clear hK4 K4
      refine wp_seq_k (fun K5 hK5 => ?_)
      cases hok : hasE allBx e
      · refine wp_region_held_drew (S := fun w' => EvIn w' gb2 e) (by kernel_rfl) IE (fun hHeld => ?_)
        have kb : Below v8.heap.size v8 v8.drew := (Below.refl _ v8).drew
        replace D := D.trans (kb.mono D.size)
        replace HS := HS.on kb
        replace IS := IS.on kb
        replace IE := IE.on kb
        replace HB := HB.on kb
        replace IB := IB.on kb
        clear kb
        generalize v8.drew = v9 at D hHeld HS IS IE HB IB ⊢
        refine wpAnyH_take (i := 1) (oi := ⟨_, _, _, _, _, _⟩) (v := evVal e) rfl (by kernel_rfl) (by kernel_rfl) (by kernel_rfl) (fun _ _ _ h => h) (yl_ev (by rfl) _ rfl _ 0 rfl _ _ _ _ _ _ _ _ _ _ _ _ (fun _ h => EvIn.cells h)) (by assumption) ?_
        simp only [Act.put, List.setIfInBounds_toArray, List.set_cons_zero, List.set_cons_succ]
        refine held_call (o := ⟨_, _, _, _, _, _⟩) 0 (by kernel_rfl) rfl (by rfl) 19 _ _ rfl #[] rfl (run_call Try.func19 (by kernel_rfl) (by kernel_rfl)) ?_
        refine (P.all _).mono ?_
        rintro r v10 ⟨⟨u1, rfl, HG⟩, kb⟩
        replace D := D.trans (kb.mono D.size)
        replace HS := HS.on kb
        replace IS := IS.on kb
        replace IE := IE.on kb
        replace HB := HB.on kb
        replace IB := IB.on kb
        clear kb
        clear hHeld
        obtain ⟨g0, g1, g2, g3, rfl, -⟩ := HG.scs
        refine ⟨bxVal g0 g1 g2 g3, rfl, IE, fun hHeld => ?_⟩
        simp only [Act.put, List.setIfInBounds_toArray, List.set_cons_zero, List.set_cons_succ]
        refine held_call (o := ⟨_, _, _, _, _, _⟩) 2 (by kernel_rfl) rfl (by rfl) 11 _ _ rfl #[bxVal g0 g1 g2 g3, evVal e] rfl (run_call Try.func11 (by kernel_rfl) (by kernel_rfl)) ?_
        refine (refHasBx_any _ _ e _ HG hf).mono ?_
        rintro r v11 ⟨rfl, kb⟩
        replace D := D.trans (kb.mono D.size)
        replace HS := HS.on kb
        replace IS := IS.on kb
        replace IE := IE.on kb
        replace HB := HB.on kb
        replace IB := IB.on kb
        replace HG := HG.on kb
        clear kb
        clear hHeld
        clear HG
        refine ⟨.bool false, ret_bool hok, IE, fun hHeld => ?_⟩
        simp only [Act.put, List.setIfInBounds_toArray, List.set_cons_zero, List.set_cons_succ]
        refine wpAnyH_take (i := 3) (oi := ⟨_, _, _, _, _, _⟩) (v := .bool false) rfl (by kernel_rfl) (by kernel_rfl) (by kernel_rfl) (fun _ _ _ h => h) (yl_assign (by rfl) _ rfl _ rfl) (by assumption) ?_
        simp only [Act.put, List.setIfInBounds_toArray, List.set_cons_zero, List.set_cons_succ]
        refine wpAnyH_done (by kernel_rfl) ?_ _
        clear hHeld
        refine hK5 _ _ ?_
        clear hK5 K5
        refine wp_seq_k (fun K6 hK6 => ?_)
        refine wp_seq_k (fun K7 hK7 => ?_)
        refine wp_region_lit ?_
        refine wl_yield (o := ⟨_, _, _, _, _, _⟩) (.int .i64 0) (yl_move (by rfl) _ rfl _ rfl) ?_
        simp only [Act.put, List.setIfInBounds_toArray, List.set_cons_zero, List.set_cons_succ]
        refine wl_yield (o := ⟨_, _, _, _, _, _⟩) (.bool false) (yl_lssI (by rfl) _ _ _ rfl (0) (0) false rfl rfl (by decide)) ?_
        simp only [Act.put, List.setIfInBounds_toArray, List.set_cons_zero, List.set_cons_succ]
        refine wl_yield (o := ⟨_, _, _, _, _, _⟩) (.bool false) (yl_move (by rfl) _ rfl _ rfl) ?_
        simp only [Act.put, List.setIfInBounds_toArray, List.set_cons_zero, List.set_cons_succ]
        refine wl_yield (o := ⟨_, _, _, _, _, _⟩) (.int .i64 0) (yl_move (by rfl) _ rfl _ rfl) ?_
        simp only [Act.put, List.setIfInBounds_toArray, List.set_cons_zero, List.set_cons_succ]
        refine wl_yield (o := ⟨_, _, _, _, _, _⟩) (.bool false) (yl_gtrI (by rfl) _ _ _ rfl (0) (3) false rfl rfl (by decide)) ?_
        simp only [Act.put, List.setIfInBounds_toArray, List.set_cons_zero, List.set_cons_succ]
        refine wl_yield (o := ⟨_, _, _, _, _, _⟩) (.bool false) (yl_pickF (by rfl) _ _ _ rfl rfl _ rfl) ?_
        simp only [Act.put, List.setIfInBounds_toArray, List.set_cons_zero, List.set_cons_succ]
        refine wpList_nil ?_
        refine hK7 _ _ ?_
        clear hK7 K7
        refine wp_cond_false rfl ?_
        refine wp_skip ?_
        refine hK6 _ _ ?_
        clear hK6 K6
        refine wp_seq_k (fun K8 hK8 => ?_)
        have hat : hasE (allBx.put 0 s) e = (hasE allBx e && hasP s e.v0) := atom_has (s := s) (i := 0) (by omega) he
        replace hat : hasE (allBx.put 0 s) e = false := by rw [hat, hok, Bool.false_and]
        refine wp_region_held_drew (S := fun w' => BxIn w' gb8 b0 b1 b2 b3 ∧ EvIn w' gb2 e ∧ StIn w' gb1 t) (by kernel_rfl) ⟨IB, IE, IS⟩ (fun hHeld => ?_)
        have kb : Below v11.heap.size v11 v11.drew := (Below.refl _ v11).drew
        replace D := D.trans (kb.mono D.size)
        replace HS := HS.on kb
        replace IS := IS.on kb
        replace IE := IE.on kb
        replace HB := HB.on kb
        replace IB := IB.on kb
        clear kb
        generalize v11.drew = v12 at D hHeld HS IS IE HB IB ⊢
        refine wpAnyH_take (i := 0) (oi := ⟨_, _, _, _, _, _⟩) (v := bxVal b0 b1 b2 b3) rfl (by kernel_rfl) (by kernel_rfl) (by kernel_rfl) (fun _ _ _ h => h) (yl_box (by rfl) _ rfl _ 0 rfl _ _ _ _ _ _ _ _ _ _ _ _ _ _ _ _ (fun _ h => BxIn.cells h.1)) (by assumption) ?_
        simp only [Act.put, List.setIfInBounds_toArray, List.set_cons_zero, List.set_cons_succ]
        refine wpAnyH_take (i := 1) (oi := ⟨_, _, _, _, _, _⟩) (v := evVal e) rfl (by kernel_rfl) (by kernel_rfl) (by kernel_rfl) (fun _ _ _ h => h) (yl_ev (by rfl) _ rfl _ 0 rfl _ _ _ _ _ _ _ _ _ _ _ _ (fun _ h => EvIn.cells h.2.1)) (by assumption) ?_
        simp only [Act.put, List.setIfInBounds_toArray, List.set_cons_zero, List.set_cons_succ]
        refine wpAnyH_take (i := 3) (oi := ⟨_, _, _, _, _, _⟩) (v := .bool false) rfl (by kernel_rfl) (by kernel_rfl) (by kernel_rfl) (fun _ _ _ h => h) (yl_move (by rfl) _ rfl _ rfl) (by assumption) ?_
        simp only [Act.put, List.setIfInBounds_toArray, List.set_cons_zero, List.set_cons_succ]
        refine held_call (o := ⟨_, _, _, _, _, _⟩) 2 (by kernel_rfl) rfl (by rfl) 21 _ _ rfl #[bxVal b0 b1 b2 b3, evVal e] rfl (run_call Try.func21 (by kernel_rfl) (by kernel_rfl)) ?_
        refine (P.has _ _ e _ HB FB.fit hf he).mono ?_
        rintro r v13 ⟨rfl, kb⟩
        replace D := D.trans (kb.mono D.size)
        replace HS := HS.on kb
        replace IS := IS.on kb
        replace IE := IE.on kb
        replace HB := HB.on kb
        replace IB := IB.on kb
        clear kb
        clear hHeld
        refine ⟨.bool false, ret_bool hat, ⟨IB, IE, IS⟩, fun hHeld => ?_⟩
        simp only [Act.put, List.setIfInBounds_toArray, List.set_cons_zero, List.set_cons_succ]
        refine wpAnyH_take (i := 4) (oi := ⟨_, _, _, _, _, _⟩) (v := .bool false) rfl (by kernel_rfl) (by kernel_rfl) (by kernel_rfl) (fun _ _ _ h => h) (yl_move (by rfl) _ rfl _ rfl) (by assumption) ?_
        simp only [Act.put, List.setIfInBounds_toArray, List.set_cons_zero, List.set_cons_succ]
        refine wpAnyH_take (i := 5) (oi := ⟨_, _, _, _, _, _⟩) (v := undef) rfl (by kernel_rfl) (by kernel_rfl) (by kernel_rfl) (fun _ _ _ h => h) (yl_undef (by rfl)) (by assumption) ?_
        simp only [Act.put, List.setIfInBounds_toArray, List.set_cons_zero, List.set_cons_succ]
        refine wpAnyH_take (i := 6) (oi := ⟨_, _, _, _, _, _⟩) (v := undef) rfl (by kernel_rfl) (by kernel_rfl) (by kernel_rfl) (fun _ _ _ h => h) (yl_undef (by rfl)) (by assumption) ?_
        simp only [Act.put, List.setIfInBounds_toArray, List.set_cons_zero, List.set_cons_succ]
        refine wpAnyH_take (i := 7) (oi := ⟨_, _, _, _, _, _⟩) (v := undef) rfl (by kernel_rfl) (by kernel_rfl) (by kernel_rfl) (fun _ _ _ h => h) (yl_undef (by rfl)) (by assumption) ?_
        simp only [Act.put, List.setIfInBounds_toArray, List.set_cons_zero, List.set_cons_succ]
        refine wpAnyH_take (i := 8) (oi := ⟨_, _, _, _, _, _⟩) (v := undef) rfl (by kernel_rfl) (by kernel_rfl) (by kernel_rfl) (fun _ _ _ h => h) (yl_undef (by rfl)) (by assumption) ?_
        simp only [Act.put, List.setIfInBounds_toArray, List.set_cons_zero, List.set_cons_succ]
        refine wpAnyH_take (i := 9) (oi := ⟨_, _, _, _, _, _⟩) (v := undef) rfl (by kernel_rfl) (by kernel_rfl) (by kernel_rfl) (fun _ _ _ h => h) (yl_undef (by rfl)) (by assumption) ?_
        simp only [Act.put, List.setIfInBounds_toArray, List.set_cons_zero, List.set_cons_succ]
        refine wpAnyH_take (i := 10) (oi := ⟨_, _, _, _, _, _⟩) (v := .bool false) rfl (by kernel_rfl) (by kernel_rfl) (by kernel_rfl) (fun _ _ _ h => h) (yl_pickF (by rfl) _ _ _ rfl rfl _ rfl) (by assumption) ?_
        simp only [Act.put, List.setIfInBounds_toArray, List.set_cons_zero, List.set_cons_succ]
        refine wpAnyH_take (i := 11) (oi := ⟨_, _, _, _, _, _⟩) (v := .bool true) rfl (by kernel_rfl) (by kernel_rfl) (by kernel_rfl) (fun _ _ _ h => h) (yl_eqB (by rfl) _ _ _ rfl false false rfl rfl) (by assumption) ?_
        simp only [Act.put, List.setIfInBounds_toArray, List.set_cons_zero, List.set_cons_succ]
        refine wpAnyH_take (i := 12) (oi := ⟨_, _, _, _, _, _⟩) (v := .bool true) rfl (by kernel_rfl) (by kernel_rfl) (by kernel_rfl) (fun _ _ _ h => h) (yl_move (by rfl) _ rfl _ rfl) (by assumption) ?_
        simp only [Act.put, List.setIfInBounds_toArray, List.set_cons_zero, List.set_cons_succ]
        refine wpAnyH_take (i := 14) (oi := ⟨_, _, _, _, _, _⟩) (v := .int .i64 0) rfl (by kernel_rfl) (by kernel_rfl) (by kernel_rfl) (fun _ _ _ h => h) (yl_move (by rfl) _ rfl _ rfl) (by assumption) ?_
        simp only [Act.put, List.setIfInBounds_toArray, List.set_cons_zero, List.set_cons_succ]
        refine wpAnyH_take (i := 15) (oi := ⟨_, _, _, _, _, _⟩) (v := SC.val t) rfl (by kernel_rfl) (by kernel_rfl) (by kernel_rfl) (fun _ _ _ h => h) (yl_set (by rfl) _ rfl _ 0 rfl _ _ _ _ (fun _ h => StIn.cells h.2.2)) (by assumption) ?_
        simp only [Act.put, List.setIfInBounds_toArray, List.set_cons_zero, List.set_cons_succ]
        refine wpAnyH_take (i := 17) (oi := ⟨_, _, _, _, _, _⟩) (v := bxVal b0 b1 b2 b3) rfl (by kernel_rfl) (by kernel_rfl) (by kernel_rfl) (fun _ _ _ h => h) (yl_box (by rfl) _ rfl _ 0 rfl _ _ _ _ _ _ _ _ _ _ _ _ _ _ _ _ (fun _ h => BxIn.cells h.1)) (by assumption) ?_
        simp only [Act.put, List.setIfInBounds_toArray, List.set_cons_zero, List.set_cons_succ]
        refine held_call (o := ⟨_, _, _, _, _, _⟩) 13 (by kernel_rfl) rfl (by rfl) 19 _ _ rfl #[] rfl (run_call Try.func19 (by kernel_rfl) (by kernel_rfl)) ?_
        refine (P.all _).mono ?_
        rintro r v14 ⟨⟨u1, rfl, HG⟩, kb⟩
        replace D := D.trans (kb.mono D.size)
        replace HS := HS.on kb
        replace IS := IS.on kb
        replace IE := IE.on kb
        replace HB := HB.on kb
        replace IB := IB.on kb
        clear kb
        clear hHeld
        obtain ⟨g0, g1, g2, g3, rfl, -⟩ := HG.scs
        refine ⟨bxVal g0 g1 g2 g3, rfl, ⟨IB, IE, IS⟩, fun hHeld => ?_⟩
        simp only [Act.put, List.setIfInBounds_toArray, List.set_cons_zero, List.set_cons_succ]
        refine held_call (o := ⟨_, _, _, _, _, _⟩) 16 (by kernel_rfl) rfl (by rfl) 15 _ _ rfl #[bxVal g0 g1 g2 g3, .int .i64 0, SC.val t] rfl (run_call Try.func15 (by kernel_rfl) (by kernel_rfl)) ?_
        refine (P.with_ _ allBx 0 _ s _ (by omega) (by omega) HG allFew.fit HS FS).mono ?_
        rintro r v15 ⟨⟨u1, rfl, HD⟩, kb⟩
        replace D := D.trans (kb.mono D.size)
        replace HS := HS.on kb
        replace IS := IS.on kb
        replace IE := IE.on kb
        replace HB := HB.on kb
        replace IB := IB.on kb
        replace HG := HG.on kb
        clear kb
        clear hHeld
        replace HD : BoxAt _ _ (allBx.put 0 s) := HD
        obtain ⟨d0, d1, d2, d3, rfl, -⟩ := HD.scs
        clear HG
        refine ⟨bxVal d0 d1 d2 d3, rfl, ⟨IB, IE, IS⟩, fun hHeld => ?_⟩
        simp only [Act.put, List.setIfInBounds_toArray, List.set_cons_zero, List.set_cons_succ]
        refine held_call (o := ⟨_, _, _, _, _, _⟩) 18 (by kernel_rfl) rfl (by rfl) 20 _ _ rfl #[bxVal d0 d1 d2 d3, bxVal b0 b1 b2 b3] rfl (run_call Try.func20 (by kernel_rfl) (by kernel_rfl)) ?_
        refine (P.same _ _ _ _ _ HD HB FB.fit FB.fit).mono ?_
        rintro r v16 ⟨rfl, kb⟩
        replace D := D.trans (kb.mono D.size)
        replace HS := HS.on kb
        replace IS := IS.on kb
        replace IE := IE.on kb
        replace HB := HB.on kb
        replace IB := IB.on kb
        replace HD := HD.on kb
        clear kb
        clear hHeld
        clear HD
        refine ⟨.bool true, ret_bool (sameBx_refl _), ⟨IB, IE, IS⟩, fun hHeld => ?_⟩
        simp only [Act.put, List.setIfInBounds_toArray, List.set_cons_zero, List.set_cons_succ]
        refine wpAnyH_take (i := 19) (oi := ⟨_, _, _, _, _, _⟩) (v := .bool true) rfl (by kernel_rfl) (by kernel_rfl) (by kernel_rfl) (fun _ _ _ h => h) (yl_pickT (by rfl) _ _ _ rfl rfl _ rfl) (by assumption) ?_
        simp only [Act.put, List.setIfInBounds_toArray, List.set_cons_zero, List.set_cons_succ]
        refine wpAnyH_take (i := 20) (oi := ⟨_, _, _, _, _, _⟩) (v := .bool true) rfl (by kernel_rfl) (by kernel_rfl) (by kernel_rfl) (fun _ _ _ h => h) (yl_assign (by rfl) _ rfl _ rfl) (by assumption) ?_
        simp only [Act.put, List.setIfInBounds_toArray, List.set_cons_zero, List.set_cons_succ]
        refine wpAnyH_done (by kernel_rfl) ?_ _
        clear hHeld
        refine hK8 _ _ ?_
        clear hK8 K8
        refine wp_ret ?_
        go_ret
        exact ⟨rfl, D⟩
      · refine wp_region_held_drew (S := fun w' => EvIn w' gb2 e) (by kernel_rfl) IE (fun hHeld => ?_)
        have kb : Below v8.heap.size v8 v8.drew := (Below.refl _ v8).drew
        replace D := D.trans (kb.mono D.size)
        replace HS := HS.on kb
        replace IS := IS.on kb
        replace IE := IE.on kb
        replace HB := HB.on kb
        replace IB := IB.on kb
        clear kb
        generalize v8.drew = v9 at D hHeld HS IS IE HB IB ⊢
        refine wpAnyH_take (i := 1) (oi := ⟨_, _, _, _, _, _⟩) (v := evVal e) rfl (by kernel_rfl) (by kernel_rfl) (by kernel_rfl) (fun _ _ _ h => h) (yl_ev (by rfl) _ rfl _ 0 rfl _ _ _ _ _ _ _ _ _ _ _ _ (fun _ h => EvIn.cells h)) (by assumption) ?_
        simp only [Act.put, List.setIfInBounds_toArray, List.set_cons_zero, List.set_cons_succ]
        refine held_call (o := ⟨_, _, _, _, _, _⟩) 0 (by kernel_rfl) rfl (by rfl) 19 _ _ rfl #[] rfl (run_call Try.func19 (by kernel_rfl) (by kernel_rfl)) ?_
        refine (P.all _).mono ?_
        rintro r v10 ⟨⟨u1, rfl, HG⟩, kb⟩
        replace D := D.trans (kb.mono D.size)
        replace HS := HS.on kb
        replace IS := IS.on kb
        replace IE := IE.on kb
        replace HB := HB.on kb
        replace IB := IB.on kb
        clear kb
        clear hHeld
        obtain ⟨g0, g1, g2, g3, rfl, -⟩ := HG.scs
        refine ⟨bxVal g0 g1 g2 g3, rfl, IE, fun hHeld => ?_⟩
        simp only [Act.put, List.setIfInBounds_toArray, List.set_cons_zero, List.set_cons_succ]
        refine held_call (o := ⟨_, _, _, _, _, _⟩) 2 (by kernel_rfl) rfl (by rfl) 11 _ _ rfl #[bxVal g0 g1 g2 g3, evVal e] rfl (run_call Try.func11 (by kernel_rfl) (by kernel_rfl)) ?_
        refine (refHasBx_any _ _ e _ HG hf).mono ?_
        rintro r v11 ⟨rfl, kb⟩
        replace D := D.trans (kb.mono D.size)
        replace HS := HS.on kb
        replace IS := IS.on kb
        replace IE := IE.on kb
        replace HB := HB.on kb
        replace IB := IB.on kb
        replace HG := HG.on kb
        clear kb
        clear hHeld
        clear HG
        refine ⟨.bool true, ret_bool hok, IE, fun hHeld => ?_⟩
        simp only [Act.put, List.setIfInBounds_toArray, List.set_cons_zero, List.set_cons_succ]
        refine wpAnyH_take (i := 3) (oi := ⟨_, _, _, _, _, _⟩) (v := .bool true) rfl (by kernel_rfl) (by kernel_rfl) (by kernel_rfl) (fun _ _ _ h => h) (yl_assign (by rfl) _ rfl _ rfl) (by assumption) ?_
        simp only [Act.put, List.setIfInBounds_toArray, List.set_cons_zero, List.set_cons_succ]
        refine wpAnyH_done (by kernel_rfl) ?_ _
        clear hHeld
        refine hK5 _ _ ?_
        clear hK5 K5
        refine wp_seq_k (fun K6 hK6 => ?_)
        refine wp_seq_k (fun K7 hK7 => ?_)
        refine wp_region_lit ?_
        refine wl_yield (o := ⟨_, _, _, _, _, _⟩) (.int .i64 0) (yl_move (by rfl) _ rfl _ rfl) ?_
        simp only [Act.put, List.setIfInBounds_toArray, List.set_cons_zero, List.set_cons_succ]
        refine wl_yield (o := ⟨_, _, _, _, _, _⟩) (.bool false) (yl_lssI (by rfl) _ _ _ rfl (0) (0) false rfl rfl (by decide)) ?_
        simp only [Act.put, List.setIfInBounds_toArray, List.set_cons_zero, List.set_cons_succ]
        refine wl_yield (o := ⟨_, _, _, _, _, _⟩) (.bool false) (yl_move (by rfl) _ rfl _ rfl) ?_
        simp only [Act.put, List.setIfInBounds_toArray, List.set_cons_zero, List.set_cons_succ]
        refine wl_yield (o := ⟨_, _, _, _, _, _⟩) (.int .i64 0) (yl_move (by rfl) _ rfl _ rfl) ?_
        simp only [Act.put, List.setIfInBounds_toArray, List.set_cons_zero, List.set_cons_succ]
        refine wl_yield (o := ⟨_, _, _, _, _, _⟩) (.bool false) (yl_gtrI (by rfl) _ _ _ rfl (0) (3) false rfl rfl (by decide)) ?_
        simp only [Act.put, List.setIfInBounds_toArray, List.set_cons_zero, List.set_cons_succ]
        refine wl_yield (o := ⟨_, _, _, _, _, _⟩) (.bool false) (yl_pickF (by rfl) _ _ _ rfl rfl _ rfl) ?_
        simp only [Act.put, List.setIfInBounds_toArray, List.set_cons_zero, List.set_cons_succ]
        refine wpList_nil ?_
        refine hK7 _ _ ?_
        clear hK7 K7
        refine wp_cond_false rfl ?_
        refine wp_skip ?_
        refine hK6 _ _ ?_
        clear hK6 K6
        refine wp_seq_k (fun K8 hK8 => ?_)
        have hat : hasE (allBx.put 0 s) e = (hasE allBx e && hasP s e.v0) := atom_has (s := s) (i := 0) (by omega) he
        rw [hok, Bool.true_and] at hat
        cases hp : hasP s e.v0
        · rw [hp] at hat
          refine wp_region_held_drew (S := fun w' => BxIn w' gb8 b0 b1 b2 b3 ∧ EvIn w' gb2 e ∧ StIn w' gb1 t) (by kernel_rfl) ⟨IB, IE, IS⟩ (fun hHeld => ?_)
          have kb : Below v11.heap.size v11 v11.drew := (Below.refl _ v11).drew
          replace D := D.trans (kb.mono D.size)
          replace HS := HS.on kb
          replace IS := IS.on kb
          replace IE := IE.on kb
          replace HB := HB.on kb
          replace IB := IB.on kb
          clear kb
          generalize v11.drew = v12 at D hHeld HS IS IE HB IB ⊢
          refine wpAnyH_take (i := 0) (oi := ⟨_, _, _, _, _, _⟩) (v := bxVal b0 b1 b2 b3) rfl (by kernel_rfl) (by kernel_rfl) (by kernel_rfl) (fun _ _ _ h => h) (yl_box (by rfl) _ rfl _ 0 rfl _ _ _ _ _ _ _ _ _ _ _ _ _ _ _ _ (fun _ h => BxIn.cells h.1)) (by assumption) ?_
          simp only [Act.put, List.setIfInBounds_toArray, List.set_cons_zero, List.set_cons_succ]
          refine wpAnyH_take (i := 1) (oi := ⟨_, _, _, _, _, _⟩) (v := evVal e) rfl (by kernel_rfl) (by kernel_rfl) (by kernel_rfl) (fun _ _ _ h => h) (yl_ev (by rfl) _ rfl _ 0 rfl _ _ _ _ _ _ _ _ _ _ _ _ (fun _ h => EvIn.cells h.2.1)) (by assumption) ?_
          simp only [Act.put, List.setIfInBounds_toArray, List.set_cons_zero, List.set_cons_succ]
          refine wpAnyH_take (i := 3) (oi := ⟨_, _, _, _, _, _⟩) (v := .bool true) rfl (by kernel_rfl) (by kernel_rfl) (by kernel_rfl) (fun _ _ _ h => h) (yl_move (by rfl) _ rfl _ rfl) (by assumption) ?_
          simp only [Act.put, List.setIfInBounds_toArray, List.set_cons_zero, List.set_cons_succ]
          refine held_call (o := ⟨_, _, _, _, _, _⟩) 2 (by kernel_rfl) rfl (by rfl) 21 _ _ rfl #[bxVal b0 b1 b2 b3, evVal e] rfl (run_call Try.func21 (by kernel_rfl) (by kernel_rfl)) ?_
          refine (P.has _ _ e _ HB FB.fit hf he).mono ?_
          rintro r v13 ⟨rfl, kb⟩
          replace D := D.trans (kb.mono D.size)
          replace HS := HS.on kb
          replace IS := IS.on kb
          replace IE := IE.on kb
          replace HB := HB.on kb
          replace IB := IB.on kb
          clear kb
          clear hHeld
          refine ⟨.bool false, ret_bool hat, ⟨IB, IE, IS⟩, fun hHeld => ?_⟩
          simp only [Act.put, List.setIfInBounds_toArray, List.set_cons_zero, List.set_cons_succ]
          refine wpAnyH_take (i := 4) (oi := ⟨_, _, _, _, _, _⟩) (v := .bool true) rfl (by kernel_rfl) (by kernel_rfl) (by kernel_rfl) (fun _ _ _ h => h) (yl_move (by rfl) _ rfl _ rfl) (by assumption) ?_
          simp only [Act.put, List.setIfInBounds_toArray, List.set_cons_zero, List.set_cons_succ]
          refine wpAnyH_take (i := 5) (oi := ⟨_, _, _, _, _, _⟩) (v := SC.val t) rfl (by kernel_rfl) (by kernel_rfl) (by kernel_rfl) (fun _ _ _ h => h) (yl_set (by rfl) _ rfl _ 0 rfl _ _ _ _ (fun _ h => StIn.cells h.2.2)) (by assumption) ?_
          simp only [Act.put, List.setIfInBounds_toArray, List.set_cons_zero, List.set_cons_succ]
          refine wpAnyH_take (i := 6) (oi := ⟨_, _, _, _, _, _⟩) (v := .int .i64 0) rfl (by kernel_rfl) (by kernel_rfl) (by kernel_rfl) (fun _ _ _ h => h) (yl_move (by rfl) _ rfl _ rfl) (by assumption) ?_
          simp only [Act.put, List.setIfInBounds_toArray, List.set_cons_zero, List.set_cons_succ]
          refine wpAnyH_take (i := 7) (oi := ⟨_, _, _, _, _, _⟩) (v := .pointer (some ⟨gb2, 0, none⟩)) rfl (by kernel_rfl) (by kernel_rfl) (by kernel_rfl) (fun _ _ _ h => h) (yl_atEv (by rfl) _ _ rfl _ 0 rfl rfl (by omega)) (by assumption) ?_
          simp only [Act.put, List.setIfInBounds_toArray, List.set_cons_zero, List.set_cons_succ]
          refine wpAnyH_take (i := 8) (oi := ⟨_, _, _, _, _, _⟩) (v := .agg #[.int .i64 e.v0.1, .int .i64 e.v0.2.1, .string e.v0.2.2]) rfl (by kernel_rfl) (by kernel_rfl) (by kernel_rfl) (fun _ _ _ h => h) (yl_val (by rfl) _ rfl _ 0 rfl _ _ _ (fun _ h => EvIn.at0 h.2.1)) (by assumption) ?_
          simp only [Act.put, List.setIfInBounds_toArray, List.set_cons_zero, List.set_cons_succ]
          refine held_call (o := ⟨_, _, _, _, _, _⟩) 9 (by kernel_rfl) rfl (by rfl) 22 _ _ rfl #[SC.val t, .agg #[.int .i64 e.v0.1, .int .i64 e.v0.2.1, .string e.v0.2.2]] rfl (run_call Try.func22 (by kernel_rfl) (by kernel_rfl)) ?_
          refine (refHas_any _ s e.v0.1 e.v0.2.1 e.v0.2.2 _ HS hf.1).mono ?_
          rintro r v14 ⟨rfl, kb⟩
          replace D := D.trans (kb.mono D.size)
          replace HS := HS.on kb
          replace IS := IS.on kb
          replace IE := IE.on kb
          replace HB := HB.on kb
          replace IB := IB.on kb
          clear kb
          clear hHeld
          refine ⟨.bool false, ret_bool hp, ⟨IB, IE, IS⟩, fun hHeld => ?_⟩
          simp only [Act.put, List.setIfInBounds_toArray, List.set_cons_zero, List.set_cons_succ]
          refine wpAnyH_take (i := 10) (oi := ⟨_, _, _, _, _, _⟩) (v := .bool false) rfl (by kernel_rfl) (by kernel_rfl) (by kernel_rfl) (fun _ _ _ h => h) (yl_pickT (by rfl) _ _ _ rfl rfl _ rfl) (by assumption) ?_
          simp only [Act.put, List.setIfInBounds_toArray, List.set_cons_zero, List.set_cons_succ]
          refine wpAnyH_take (i := 11) (oi := ⟨_, _, _, _, _, _⟩) (v := .bool true) rfl (by kernel_rfl) (by kernel_rfl) (by kernel_rfl) (fun _ _ _ h => h) (yl_eqB (by rfl) _ _ _ rfl false false rfl rfl) (by assumption) ?_
          simp only [Act.put, List.setIfInBounds_toArray, List.set_cons_zero, List.set_cons_succ]
          refine wpAnyH_take (i := 12) (oi := ⟨_, _, _, _, _, _⟩) (v := .bool true) rfl (by kernel_rfl) (by kernel_rfl) (by kernel_rfl) (fun _ _ _ h => h) (yl_move (by rfl) _ rfl _ rfl) (by assumption) ?_
          simp only [Act.put, List.setIfInBounds_toArray, List.set_cons_zero, List.set_cons_succ]
          refine wpAnyH_take (i := 14) (oi := ⟨_, _, _, _, _, _⟩) (v := .int .i64 0) rfl (by kernel_rfl) (by kernel_rfl) (by kernel_rfl) (fun _ _ _ h => h) (yl_move (by rfl) _ rfl _ rfl) (by assumption) ?_
          simp only [Act.put, List.setIfInBounds_toArray, List.set_cons_zero, List.set_cons_succ]
          refine wpAnyH_take (i := 15) (oi := ⟨_, _, _, _, _, _⟩) (v := SC.val t) rfl (by kernel_rfl) (by kernel_rfl) (by kernel_rfl) (fun _ _ _ h => h) (yl_set (by rfl) _ rfl _ 0 rfl _ _ _ _ (fun _ h => StIn.cells h.2.2)) (by assumption) ?_
          simp only [Act.put, List.setIfInBounds_toArray, List.set_cons_zero, List.set_cons_succ]
          refine wpAnyH_take (i := 17) (oi := ⟨_, _, _, _, _, _⟩) (v := bxVal b0 b1 b2 b3) rfl (by kernel_rfl) (by kernel_rfl) (by kernel_rfl) (fun _ _ _ h => h) (yl_box (by rfl) _ rfl _ 0 rfl _ _ _ _ _ _ _ _ _ _ _ _ _ _ _ _ (fun _ h => BxIn.cells h.1)) (by assumption) ?_
          simp only [Act.put, List.setIfInBounds_toArray, List.set_cons_zero, List.set_cons_succ]
          refine held_call (o := ⟨_, _, _, _, _, _⟩) 13 (by kernel_rfl) rfl (by rfl) 19 _ _ rfl #[] rfl (run_call Try.func19 (by kernel_rfl) (by kernel_rfl)) ?_
          refine (P.all _).mono ?_
          rintro r v15 ⟨⟨u1, rfl, HG⟩, kb⟩
          replace D := D.trans (kb.mono D.size)
          replace HS := HS.on kb
          replace IS := IS.on kb
          replace IE := IE.on kb
          replace HB := HB.on kb
          replace IB := IB.on kb
          clear kb
          clear hHeld
          obtain ⟨g0, g1, g2, g3, rfl, -⟩ := HG.scs
          refine ⟨bxVal g0 g1 g2 g3, rfl, ⟨IB, IE, IS⟩, fun hHeld => ?_⟩
          simp only [Act.put, List.setIfInBounds_toArray, List.set_cons_zero, List.set_cons_succ]
          refine held_call (o := ⟨_, _, _, _, _, _⟩) 16 (by kernel_rfl) rfl (by rfl) 15 _ _ rfl #[bxVal g0 g1 g2 g3, .int .i64 0, SC.val t] rfl (run_call Try.func15 (by kernel_rfl) (by kernel_rfl)) ?_
          refine (P.with_ _ allBx 0 _ s _ (by omega) (by omega) HG allFew.fit HS FS).mono ?_
          rintro r v16 ⟨⟨u1, rfl, HD⟩, kb⟩
          replace D := D.trans (kb.mono D.size)
          replace HS := HS.on kb
          replace IS := IS.on kb
          replace IE := IE.on kb
          replace HB := HB.on kb
          replace IB := IB.on kb
          replace HG := HG.on kb
          clear kb
          clear hHeld
          replace HD : BoxAt _ _ (allBx.put 0 s) := HD
          obtain ⟨d0, d1, d2, d3, rfl, -⟩ := HD.scs
          clear HG
          refine ⟨bxVal d0 d1 d2 d3, rfl, ⟨IB, IE, IS⟩, fun hHeld => ?_⟩
          simp only [Act.put, List.setIfInBounds_toArray, List.set_cons_zero, List.set_cons_succ]
          refine held_call (o := ⟨_, _, _, _, _, _⟩) 18 (by kernel_rfl) rfl (by rfl) 20 _ _ rfl #[bxVal d0 d1 d2 d3, bxVal b0 b1 b2 b3] rfl (run_call Try.func20 (by kernel_rfl) (by kernel_rfl)) ?_
          refine (P.same _ _ _ _ _ HD HB FB.fit FB.fit).mono ?_
          rintro r v17 ⟨rfl, kb⟩
          replace D := D.trans (kb.mono D.size)
          replace HS := HS.on kb
          replace IS := IS.on kb
          replace IE := IE.on kb
          replace HB := HB.on kb
          replace IB := IB.on kb
          replace HD := HD.on kb
          clear kb
          clear hHeld
          clear HD
          refine ⟨.bool true, ret_bool (sameBx_refl _), ⟨IB, IE, IS⟩, fun hHeld => ?_⟩
          simp only [Act.put, List.setIfInBounds_toArray, List.set_cons_zero, List.set_cons_succ]
          refine wpAnyH_take (i := 19) (oi := ⟨_, _, _, _, _, _⟩) (v := .bool true) rfl (by kernel_rfl) (by kernel_rfl) (by kernel_rfl) (fun _ _ _ h => h) (yl_pickT (by rfl) _ _ _ rfl rfl _ rfl) (by assumption) ?_
          simp only [Act.put, List.setIfInBounds_toArray, List.set_cons_zero, List.set_cons_succ]
          refine wpAnyH_take (i := 20) (oi := ⟨_, _, _, _, _, _⟩) (v := .bool true) rfl (by kernel_rfl) (by kernel_rfl) (by kernel_rfl) (fun _ _ _ h => h) (yl_assign (by rfl) _ rfl _ rfl) (by assumption) ?_
          simp only [Act.put, List.setIfInBounds_toArray, List.set_cons_zero, List.set_cons_succ]
          refine wpAnyH_done (by kernel_rfl) ?_ _
          clear hHeld
          refine hK8 _ _ ?_
          clear hK8 K8
          refine wp_ret ?_
          go_ret
          exact ⟨rfl, D⟩
        · rw [hp] at hat
          refine wp_region_held_drew (S := fun w' => BxIn w' gb8 b0 b1 b2 b3 ∧ EvIn w' gb2 e ∧ StIn w' gb1 t) (by kernel_rfl) ⟨IB, IE, IS⟩ (fun hHeld => ?_)
          have kb : Below v11.heap.size v11 v11.drew := (Below.refl _ v11).drew
          replace D := D.trans (kb.mono D.size)
          replace HS := HS.on kb
          replace IS := IS.on kb
          replace IE := IE.on kb
          replace HB := HB.on kb
          replace IB := IB.on kb
          clear kb
          generalize v11.drew = v12 at D hHeld HS IS IE HB IB ⊢
          refine wpAnyH_take (i := 0) (oi := ⟨_, _, _, _, _, _⟩) (v := bxVal b0 b1 b2 b3) rfl (by kernel_rfl) (by kernel_rfl) (by kernel_rfl) (fun _ _ _ h => h) (yl_box (by rfl) _ rfl _ 0 rfl _ _ _ _ _ _ _ _ _ _ _ _ _ _ _ _ (fun _ h => BxIn.cells h.1)) (by assumption) ?_
          simp only [Act.put, List.setIfInBounds_toArray, List.set_cons_zero, List.set_cons_succ]
          refine wpAnyH_take (i := 1) (oi := ⟨_, _, _, _, _, _⟩) (v := evVal e) rfl (by kernel_rfl) (by kernel_rfl) (by kernel_rfl) (fun _ _ _ h => h) (yl_ev (by rfl) _ rfl _ 0 rfl _ _ _ _ _ _ _ _ _ _ _ _ (fun _ h => EvIn.cells h.2.1)) (by assumption) ?_
          simp only [Act.put, List.setIfInBounds_toArray, List.set_cons_zero, List.set_cons_succ]
          refine wpAnyH_take (i := 3) (oi := ⟨_, _, _, _, _, _⟩) (v := .bool true) rfl (by kernel_rfl) (by kernel_rfl) (by kernel_rfl) (fun _ _ _ h => h) (yl_move (by rfl) _ rfl _ rfl) (by assumption) ?_
          simp only [Act.put, List.setIfInBounds_toArray, List.set_cons_zero, List.set_cons_succ]
          refine held_call (o := ⟨_, _, _, _, _, _⟩) 2 (by kernel_rfl) rfl (by rfl) 21 _ _ rfl #[bxVal b0 b1 b2 b3, evVal e] rfl (run_call Try.func21 (by kernel_rfl) (by kernel_rfl)) ?_
          refine (P.has _ _ e _ HB FB.fit hf he).mono ?_
          rintro r v13 ⟨rfl, kb⟩
          replace D := D.trans (kb.mono D.size)
          replace HS := HS.on kb
          replace IS := IS.on kb
          replace IE := IE.on kb
          replace HB := HB.on kb
          replace IB := IB.on kb
          clear kb
          clear hHeld
          refine ⟨.bool true, ret_bool hat, ⟨IB, IE, IS⟩, fun hHeld => ?_⟩
          simp only [Act.put, List.setIfInBounds_toArray, List.set_cons_zero, List.set_cons_succ]
          refine wpAnyH_take (i := 4) (oi := ⟨_, _, _, _, _, _⟩) (v := .bool true) rfl (by kernel_rfl) (by kernel_rfl) (by kernel_rfl) (fun _ _ _ h => h) (yl_move (by rfl) _ rfl _ rfl) (by assumption) ?_
          simp only [Act.put, List.setIfInBounds_toArray, List.set_cons_zero, List.set_cons_succ]
          refine wpAnyH_take (i := 5) (oi := ⟨_, _, _, _, _, _⟩) (v := SC.val t) rfl (by kernel_rfl) (by kernel_rfl) (by kernel_rfl) (fun _ _ _ h => h) (yl_set (by rfl) _ rfl _ 0 rfl _ _ _ _ (fun _ h => StIn.cells h.2.2)) (by assumption) ?_
          simp only [Act.put, List.setIfInBounds_toArray, List.set_cons_zero, List.set_cons_succ]
          refine wpAnyH_take (i := 6) (oi := ⟨_, _, _, _, _, _⟩) (v := .int .i64 0) rfl (by kernel_rfl) (by kernel_rfl) (by kernel_rfl) (fun _ _ _ h => h) (yl_move (by rfl) _ rfl _ rfl) (by assumption) ?_
          simp only [Act.put, List.setIfInBounds_toArray, List.set_cons_zero, List.set_cons_succ]
          refine wpAnyH_take (i := 7) (oi := ⟨_, _, _, _, _, _⟩) (v := .pointer (some ⟨gb2, 0, none⟩)) rfl (by kernel_rfl) (by kernel_rfl) (by kernel_rfl) (fun _ _ _ h => h) (yl_atEv (by rfl) _ _ rfl _ 0 rfl rfl (by omega)) (by assumption) ?_
          simp only [Act.put, List.setIfInBounds_toArray, List.set_cons_zero, List.set_cons_succ]
          refine wpAnyH_take (i := 8) (oi := ⟨_, _, _, _, _, _⟩) (v := .agg #[.int .i64 e.v0.1, .int .i64 e.v0.2.1, .string e.v0.2.2]) rfl (by kernel_rfl) (by kernel_rfl) (by kernel_rfl) (fun _ _ _ h => h) (yl_val (by rfl) _ rfl _ 0 rfl _ _ _ (fun _ h => EvIn.at0 h.2.1)) (by assumption) ?_
          simp only [Act.put, List.setIfInBounds_toArray, List.set_cons_zero, List.set_cons_succ]
          refine held_call (o := ⟨_, _, _, _, _, _⟩) 9 (by kernel_rfl) rfl (by rfl) 22 _ _ rfl #[SC.val t, .agg #[.int .i64 e.v0.1, .int .i64 e.v0.2.1, .string e.v0.2.2]] rfl (run_call Try.func22 (by kernel_rfl) (by kernel_rfl)) ?_
          refine (refHas_any _ s e.v0.1 e.v0.2.1 e.v0.2.2 _ HS hf.1).mono ?_
          rintro r v14 ⟨rfl, kb⟩
          replace D := D.trans (kb.mono D.size)
          replace HS := HS.on kb
          replace IS := IS.on kb
          replace IE := IE.on kb
          replace HB := HB.on kb
          replace IB := IB.on kb
          clear kb
          clear hHeld
          refine ⟨.bool true, ret_bool hp, ⟨IB, IE, IS⟩, fun hHeld => ?_⟩
          simp only [Act.put, List.setIfInBounds_toArray, List.set_cons_zero, List.set_cons_succ]
          refine wpAnyH_take (i := 10) (oi := ⟨_, _, _, _, _, _⟩) (v := .bool true) rfl (by kernel_rfl) (by kernel_rfl) (by kernel_rfl) (fun _ _ _ h => h) (yl_pickT (by rfl) _ _ _ rfl rfl _ rfl) (by assumption) ?_
          simp only [Act.put, List.setIfInBounds_toArray, List.set_cons_zero, List.set_cons_succ]
          refine wpAnyH_take (i := 11) (oi := ⟨_, _, _, _, _, _⟩) (v := .bool true) rfl (by kernel_rfl) (by kernel_rfl) (by kernel_rfl) (fun _ _ _ h => h) (yl_eqB (by rfl) _ _ _ rfl true true rfl rfl) (by assumption) ?_
          simp only [Act.put, List.setIfInBounds_toArray, List.set_cons_zero, List.set_cons_succ]
          refine wpAnyH_take (i := 12) (oi := ⟨_, _, _, _, _, _⟩) (v := .bool true) rfl (by kernel_rfl) (by kernel_rfl) (by kernel_rfl) (fun _ _ _ h => h) (yl_move (by rfl) _ rfl _ rfl) (by assumption) ?_
          simp only [Act.put, List.setIfInBounds_toArray, List.set_cons_zero, List.set_cons_succ]
          refine wpAnyH_take (i := 14) (oi := ⟨_, _, _, _, _, _⟩) (v := .int .i64 0) rfl (by kernel_rfl) (by kernel_rfl) (by kernel_rfl) (fun _ _ _ h => h) (yl_move (by rfl) _ rfl _ rfl) (by assumption) ?_
          simp only [Act.put, List.setIfInBounds_toArray, List.set_cons_zero, List.set_cons_succ]
          refine wpAnyH_take (i := 15) (oi := ⟨_, _, _, _, _, _⟩) (v := SC.val t) rfl (by kernel_rfl) (by kernel_rfl) (by kernel_rfl) (fun _ _ _ h => h) (yl_set (by rfl) _ rfl _ 0 rfl _ _ _ _ (fun _ h => StIn.cells h.2.2)) (by assumption) ?_
          simp only [Act.put, List.setIfInBounds_toArray, List.set_cons_zero, List.set_cons_succ]
          refine wpAnyH_take (i := 17) (oi := ⟨_, _, _, _, _, _⟩) (v := bxVal b0 b1 b2 b3) rfl (by kernel_rfl) (by kernel_rfl) (by kernel_rfl) (fun _ _ _ h => h) (yl_box (by rfl) _ rfl _ 0 rfl _ _ _ _ _ _ _ _ _ _ _ _ _ _ _ _ (fun _ h => BxIn.cells h.1)) (by assumption) ?_
          simp only [Act.put, List.setIfInBounds_toArray, List.set_cons_zero, List.set_cons_succ]
          refine held_call (o := ⟨_, _, _, _, _, _⟩) 13 (by kernel_rfl) rfl (by rfl) 19 _ _ rfl #[] rfl (run_call Try.func19 (by kernel_rfl) (by kernel_rfl)) ?_
          refine (P.all _).mono ?_
          rintro r v15 ⟨⟨u1, rfl, HG⟩, kb⟩
          replace D := D.trans (kb.mono D.size)
          replace HS := HS.on kb
          replace IS := IS.on kb
          replace IE := IE.on kb
          replace HB := HB.on kb
          replace IB := IB.on kb
          clear kb
          clear hHeld
          obtain ⟨g0, g1, g2, g3, rfl, -⟩ := HG.scs
          refine ⟨bxVal g0 g1 g2 g3, rfl, ⟨IB, IE, IS⟩, fun hHeld => ?_⟩
          simp only [Act.put, List.setIfInBounds_toArray, List.set_cons_zero, List.set_cons_succ]
          refine held_call (o := ⟨_, _, _, _, _, _⟩) 16 (by kernel_rfl) rfl (by rfl) 15 _ _ rfl #[bxVal g0 g1 g2 g3, .int .i64 0, SC.val t] rfl (run_call Try.func15 (by kernel_rfl) (by kernel_rfl)) ?_
          refine (P.with_ _ allBx 0 _ s _ (by omega) (by omega) HG allFew.fit HS FS).mono ?_
          rintro r v16 ⟨⟨u1, rfl, HD⟩, kb⟩
          replace D := D.trans (kb.mono D.size)
          replace HS := HS.on kb
          replace IS := IS.on kb
          replace IE := IE.on kb
          replace HB := HB.on kb
          replace IB := IB.on kb
          replace HG := HG.on kb
          clear kb
          clear hHeld
          replace HD : BoxAt _ _ (allBx.put 0 s) := HD
          obtain ⟨d0, d1, d2, d3, rfl, -⟩ := HD.scs
          clear HG
          refine ⟨bxVal d0 d1 d2 d3, rfl, ⟨IB, IE, IS⟩, fun hHeld => ?_⟩
          simp only [Act.put, List.setIfInBounds_toArray, List.set_cons_zero, List.set_cons_succ]
          refine held_call (o := ⟨_, _, _, _, _, _⟩) 18 (by kernel_rfl) rfl (by rfl) 20 _ _ rfl #[bxVal d0 d1 d2 d3, bxVal b0 b1 b2 b3] rfl (run_call Try.func20 (by kernel_rfl) (by kernel_rfl)) ?_
          refine (P.same _ _ _ _ _ HD HB FB.fit FB.fit).mono ?_
          rintro r v17 ⟨rfl, kb⟩
          replace D := D.trans (kb.mono D.size)
          replace HS := HS.on kb
          replace IS := IS.on kb
          replace IE := IE.on kb
          replace HB := HB.on kb
          replace IB := IB.on kb
          replace HD := HD.on kb
          clear kb
          clear hHeld
          clear HD
          refine ⟨.bool true, ret_bool (sameBx_refl _), ⟨IB, IE, IS⟩, fun hHeld => ?_⟩
          simp only [Act.put, List.setIfInBounds_toArray, List.set_cons_zero, List.set_cons_succ]
          refine wpAnyH_take (i := 19) (oi := ⟨_, _, _, _, _, _⟩) (v := .bool true) rfl (by kernel_rfl) (by kernel_rfl) (by kernel_rfl) (fun _ _ _ h => h) (yl_pickT (by rfl) _ _ _ rfl rfl _ rfl) (by assumption) ?_
          simp only [Act.put, List.setIfInBounds_toArray, List.set_cons_zero, List.set_cons_succ]
          refine wpAnyH_take (i := 20) (oi := ⟨_, _, _, _, _, _⟩) (v := .bool true) rfl (by kernel_rfl) (by kernel_rfl) (by kernel_rfl) (fun _ _ _ h => h) (yl_assign (by rfl) _ rfl _ rfl) (by assumption) ?_
          simp only [Act.put, List.setIfInBounds_toArray, List.set_cons_zero, List.set_cons_succ]
          refine wpAnyH_done (by kernel_rfl) ?_ _
          clear hHeld
          refine hK8 _ _ ?_
          clear hK8 K8
          refine wp_ret ?_
          go_ret
          exact ⟨rfl, D⟩
set_option maxHeartbeats 8000000 in
set_option maxRecDepth 100000 in
theorem atoms_1 (P : BoxProg) (u : Value) (s : SetV) (e : EvV) (w : World) (HS : SetAt w u s) (hf : evFit e) (he : inE e) :
    Calls Try.prog 5 #[.int .i64 1, u, evVal e] w fun r w' => r = .returned (.bool true) ∧ Below w.heap.size w w' := by
  obtain ⟨t, rfl⟩ := HS.sc
  have D := Below.refl w.heap.size w
  go_enter Try.func5, Try.ntmps5
  refine wp_seq_k (fun K1 hK1 => ?_)
  refine wp_region_lit ?_
  refine wl_boxSt (o := ⟨_, _, _, _, _, _⟩) (by rfl) _ rfl rfl (fun v1 gb1 IS kb => ?_)
  simp only [Act.put, List.setIfInBounds_toArray, List.set_cons_zero, List.set_cons_succ]
  replace D := D.trans (kb.mono D.size)
  replace HS := HS.on kb
  clear kb
  refine wl_boxEv (o := ⟨_, _, _, _, _, _⟩) (by rfl) _ rfl rfl (fun v2 gb2 IE kb => ?_)
  simp only [Act.put, List.setIfInBounds_toArray, List.set_cons_zero, List.set_cons_succ]
  replace D := D.trans (kb.mono D.size)
  replace HS := HS.on kb
  replace IS := IS.on kb
  clear kb
  refine wl_yield (o := ⟨_, _, _, _, _, _⟩) (.bool false) (yl_assign (by rfl) _ rfl _ rfl) ?_
  simp only [Act.put, List.setIfInBounds_toArray, List.set_cons_zero, List.set_cons_succ]
  refine wpList_nil ?_
  refine hK1 _ _ ?_
  clear hK1 K1
  refine wp_seq_k (fun K2 hK2 => ?_)
  refine wp_seq_k (fun K3 hK3 => ?_)
  refine wp_region_lit ?_
  refine wl_call (o := ⟨_, _, _, _, _, _⟩) (by rfl) 7 _ _ rfl #[] rfl (run_call Try.func7 (by kernel_rfl) (by kernel_rfl)) ?_
  refine (awake4_any P _).mono ?_
  rintro r v3 ⟨rfl, kb⟩
  replace D := D.trans (kb.mono D.size)
  replace HS := HS.on kb
  replace IS := IS.on kb
  replace IE := IE.on kb
  clear kb
  refine ⟨.bool true, rfl, ?_⟩
  simp only [Act.put, List.setIfInBounds_toArray, List.set_cons_zero, List.set_cons_succ]
  refine wl_yield (o := ⟨_, _, _, _, _, _⟩) (.bool false) (yl_not (by rfl) _ _ rfl true rfl) ?_
  simp only [Act.put, List.setIfInBounds_toArray, List.set_cons_zero, List.set_cons_succ]
  refine wl_yield (o := ⟨_, _, _, _, _, _⟩) (.bool false) (yl_move (by rfl) _ rfl _ rfl) ?_
  simp only [Act.put, List.setIfInBounds_toArray, List.set_cons_zero, List.set_cons_succ]
  refine wl_yield (o := ⟨_, _, _, _, _, _⟩) (SC.val t) (yl_set (by rfl) _ rfl _ 0 rfl _ _ _ _ (fun _ h => by subst h; exact StIn.cells IS)) ?_
  simp only [Act.put, List.setIfInBounds_toArray, List.set_cons_zero, List.set_cons_succ]
  refine wl_rowSt1 (o := ⟨_, _, _, _, _, _⟩) (by rfl) _ rfl rfl HS (fun v4 y4 HY kb => ?_)
  simp only [Act.put, List.setIfInBounds_toArray, List.set_cons_zero, List.set_cons_succ]
  replace D := D.trans (kb.mono D.size)
  replace HS := HS.on kb
  replace IS := IS.on kb
  replace IE := IE.on kb
  clear kb
  refine wl_call (o := ⟨_, _, _, _, _, _⟩) (by rfl) 13 _ _ rfl #[y4] rfl (run_call Try.func13 (by kernel_rfl) (by kernel_rfl)) ?_
  refine (refFew_below HY).mono ?_
  rintro r v5 ⟨rfl, kb⟩
  replace D := D.trans (kb.mono D.size)
  replace HS := HS.on kb
  replace IS := IS.on kb
  replace IE := IE.on kb
  clear kb
  cases hF : [s].all fewB
  · refine ⟨.bool false, rfl, ?_⟩
    simp only [Act.put, List.setIfInBounds_toArray, List.set_cons_zero, List.set_cons_succ]
    refine wl_yield (o := ⟨_, _, _, _, _, _⟩) (.bool true) (yl_not (by rfl) _ _ rfl false rfl) ?_
    simp only [Act.put, List.setIfInBounds_toArray, List.set_cons_zero, List.set_cons_succ]
    refine wl_yield (o := ⟨_, _, _, _, _, _⟩) (.bool true) (yl_pickF (by rfl) _ _ _ rfl rfl _ rfl) ?_
    simp only [Act.put, List.setIfInBounds_toArray, List.set_cons_zero, List.set_cons_succ]
    refine wl_yield (o := ⟨_, _, _, _, _, _⟩) (.bool true) (yl_move (by rfl) _ rfl _ rfl) ?_
    simp only [Act.put, List.setIfInBounds_toArray, List.set_cons_zero, List.set_cons_succ]
    refine wl_yield (o := ⟨_, _, _, _, _, _⟩) undef (yl_undef (by rfl)) ?_
    simp only [Act.put, List.setIfInBounds_toArray, List.set_cons_zero, List.set_cons_succ]
    refine wl_yield (o := ⟨_, _, _, _, _, _⟩) undef (yl_undef (by rfl)) ?_
    simp only [Act.put, List.setIfInBounds_toArray, List.set_cons_zero, List.set_cons_succ]
    refine wl_yield (o := ⟨_, _, _, _, _, _⟩) undef (yl_undef (by rfl)) ?_
    simp only [Act.put, List.setIfInBounds_toArray, List.set_cons_zero, List.set_cons_succ]
    refine wl_yield (o := ⟨_, _, _, _, _, _⟩) (.bool true) (yl_pickT (by rfl) _ _ _ rfl rfl _ rfl) ?_
    simp only [Act.put, List.setIfInBounds_toArray, List.set_cons_zero, List.set_cons_succ]
    refine wpList_nil ?_
    refine hK3 _ _ ?_
    clear hK3 K3
    refine wp_cond_true rfl ?_
    refine wp_seq_k (fun K4 hK4 => ?_)
    refine wp_region_lit ?_
    refine wl_call (o := ⟨_, _, _, _, _, _⟩) (by rfl) 7 _ _ rfl #[] rfl (run_call Try.func7 (by kernel_rfl) (by kernel_rfl)) ?_
    refine (awake4_any P _).mono ?_
    rintro r v6 ⟨rfl, kb⟩
    replace D := D.trans (kb.mono D.size)
    replace HS := HS.on kb
    replace IS := IS.on kb
    replace IE := IE.on kb
    clear kb
    refine ⟨.bool true, rfl, ?_⟩
    simp only [Act.put, List.setIfInBounds_toArray, List.set_cons_zero, List.set_cons_succ]
    refine wl_yield (o := ⟨_, _, _, _, _, _⟩) (.bool true) (yl_assign (by rfl) _ rfl _ rfl) ?_
    simp only [Act.put, List.setIfInBounds_toArray, List.set_cons_zero, List.set_cons_succ]
    refine wpList_nil ?_
    refine hK4 _ _ ?_
    clear hK4 K4
    refine wp_ret ?_
    go_ret
    exact ⟨rfl, D⟩
  · refine ⟨.bool true, rfl, ?_⟩
    simp only [Act.put, List.setIfInBounds_toArray, List.set_cons_zero, List.set_cons_succ]
    refine wl_yield (o := ⟨_, _, _, _, _, _⟩) (.bool false) (yl_not (by rfl) _ _ rfl true rfl) ?_
    simp only [Act.put, List.setIfInBounds_toArray, List.set_cons_zero, List.set_cons_succ]
    refine wl_yield (o := ⟨_, _, _, _, _, _⟩) (.bool false) (yl_pickF (by rfl) _ _ _ rfl rfl _ rfl) ?_
    simp only [Act.put, List.setIfInBounds_toArray, List.set_cons_zero, List.set_cons_succ]
    refine wl_yield (o := ⟨_, _, _, _, _, _⟩) (.bool false) (yl_move (by rfl) _ rfl _ rfl) ?_
    simp only [Act.put, List.setIfInBounds_toArray, List.set_cons_zero, List.set_cons_succ]
    refine wl_yield (o := ⟨_, _, _, _, _, _⟩) (SC.val t) (yl_set (by rfl) _ rfl _ 0 rfl _ _ _ _ (fun _ h => by subst h; exact StIn.cells IS)) ?_
    simp only [Act.put, List.setIfInBounds_toArray, List.set_cons_zero, List.set_cons_succ]
    refine wl_call (o := ⟨_, _, _, _, _, _⟩) (by rfl) 14 _ _ rfl #[SC.val t] rfl (run_call Try.func14 (by kernel_rfl) (by kernel_rfl)) ?_
    refine (refRightSet_any _ s _ HS).mono ?_
    rintro r v6 ⟨rfl, kb⟩
    replace D := D.trans (kb.mono D.size)
    replace HS := HS.on kb
    replace IS := IS.on kb
    replace IE := IE.on kb
    clear kb
    cases hR : rightSet s
    · refine ⟨.bool false, rfl, ?_⟩
      simp only [Act.put, List.setIfInBounds_toArray, List.set_cons_zero, List.set_cons_succ]
      refine wl_yield (o := ⟨_, _, _, _, _, _⟩) (.bool true) (yl_not (by rfl) _ _ rfl false rfl) ?_
      simp only [Act.put, List.setIfInBounds_toArray, List.set_cons_zero, List.set_cons_succ]
      refine wl_yield (o := ⟨_, _, _, _, _, _⟩) (.bool true) (yl_pickF (by rfl) _ _ _ rfl rfl _ rfl) ?_
      simp only [Act.put, List.setIfInBounds_toArray, List.set_cons_zero, List.set_cons_succ]
      refine wpList_nil ?_
      refine hK3 _ _ ?_
      clear hK3 K3
      refine wp_cond_true rfl ?_
      refine wp_seq_k (fun K4 hK4 => ?_)
      refine wp_region_lit ?_
      refine wl_call (o := ⟨_, _, _, _, _, _⟩) (by rfl) 7 _ _ rfl #[] rfl (run_call Try.func7 (by kernel_rfl) (by kernel_rfl)) ?_
      refine (awake4_any P _).mono ?_
      rintro r v7 ⟨rfl, kb⟩
      replace D := D.trans (kb.mono D.size)
      replace HS := HS.on kb
      replace IS := IS.on kb
      replace IE := IE.on kb
      clear kb
      refine ⟨.bool true, rfl, ?_⟩
      simp only [Act.put, List.setIfInBounds_toArray, List.set_cons_zero, List.set_cons_succ]
      refine wl_yield (o := ⟨_, _, _, _, _, _⟩) (.bool true) (yl_assign (by rfl) _ rfl _ rfl) ?_
      simp only [Act.put, List.setIfInBounds_toArray, List.set_cons_zero, List.set_cons_succ]
      refine wpList_nil ?_
      refine hK4 _ _ ?_
      clear hK4 K4
      refine wp_ret ?_
      go_ret
      exact ⟨rfl, D⟩
    · refine ⟨.bool true, rfl, ?_⟩
      simp only [Act.put, List.setIfInBounds_toArray, List.set_cons_zero, List.set_cons_succ]
      refine wl_yield (o := ⟨_, _, _, _, _, _⟩) (.bool false) (yl_not (by rfl) _ _ rfl true rfl) ?_
      simp only [Act.put, List.setIfInBounds_toArray, List.set_cons_zero, List.set_cons_succ]
      refine wl_yield (o := ⟨_, _, _, _, _, _⟩) (.bool false) (yl_pickF (by rfl) _ _ _ rfl rfl _ rfl) ?_
      simp only [Act.put, List.setIfInBounds_toArray, List.set_cons_zero, List.set_cons_succ]
      refine wpList_nil ?_
      refine hK3 _ _ ?_
      clear hK3 K3
      refine wp_cond_false rfl ?_
      refine wp_skip ?_
      refine hK2 _ _ ?_
      clear hK2 K2
      have hG : Good s := ⟨hR, HS.i64⟩
      have hL := few_len (few1 hF)
      have FS : Fit s := ⟨hG, by omega, by omega⟩
      have FB : FewB (allBx.put 1 s) := put_few allFew (by omega) hG hL.1 hL.2
      refine wp_seq_k (fun K4 hK4 => ?_)
      refine wp_region_lit ?_
      refine wl_yield (o := ⟨_, _, _, _, _, _⟩) (.int .i64 1) (yl_move (by rfl) _ rfl _ rfl) ?_
      simp only [Act.put, List.setIfInBounds_toArray, List.set_cons_zero, List.set_cons_succ]
      refine wl_yield (o := ⟨_, _, _, _, _, _⟩) (SC.val t) (yl_set (by rfl) _ rfl _ 0 rfl _ _ _ _ (fun _ h => by subst h; exact StIn.cells IS)) ?_
      simp only [Act.put, List.setIfInBounds_toArray, List.set_cons_zero, List.set_cons_succ]
      refine wl_call (o := ⟨_, _, _, _, _, _⟩) (by rfl) 18 _ _ rfl #[.int .i64 1, SC.val t] rfl (run_call Try.func18 (by kernel_rfl) (by kernel_rfl)) ?_
      refine (P.atom (1) _ s _ (by omega) (by omega) HS FS).mono ?_
      rintro r v7 ⟨⟨u1, rfl, HB⟩, kb⟩
      replace D := D.trans (kb.mono D.size)
      replace HS := HS.on kb
      replace IS := IS.on kb
      replace IE := IE.on kb
      clear kb
      replace HB : BoxAt _ _ (allBx.put 1 s) := HB
      obtain ⟨b0, b1, b2, b3, rfl, -⟩ := HB.scs
      refine ⟨bxVal b0 b1 b2 b3, rfl, ?_⟩
      simp only [Act.put, List.setIfInBounds_toArray, List.set_cons_zero, List.set_cons_succ]
      refine wl_newBx (o := ⟨_, _, _, _, _, _⟩) (o2 := ⟨_, _, _, _, _, _⟩) (by rfl) rfl _ _ rfl (fun _ => rfl) (fun _ => rfl) (fun _ => by rfl) (fun v8 gb8 IB kb => ?_)
      simp only [Act.put, List.setIfInBounds_toArray, List.set_cons_zero, List.set_cons_succ]
      replace D := D.trans (kb.mono D.size)
      replace HS := HS.on kb
      replace IS := IS.on kb
      replace IE := IE.on kb
      replace HB := HB.on kb
      clear kb
      refine wpList_nil ?_
      refine hK4 _ _ ?_
      clear hK4 K4
      refine wp_seq_k (fun K5 hK5 => ?_)
      cases hok : hasE allBx e
      · refine wp_region_held_drew (S := fun w' => EvIn w' gb2 e) (by kernel_rfl) IE (fun hHeld => ?_)
        have kb : Below v8.heap.size v8 v8.drew := (Below.refl _ v8).drew
        replace D := D.trans (kb.mono D.size)
        replace HS := HS.on kb
        replace IS := IS.on kb
        replace IE := IE.on kb
        replace HB := HB.on kb
        replace IB := IB.on kb
        clear kb
        generalize v8.drew = v9 at D hHeld HS IS IE HB IB ⊢
        refine wpAnyH_take (i := 1) (oi := ⟨_, _, _, _, _, _⟩) (v := evVal e) rfl (by kernel_rfl) (by kernel_rfl) (by kernel_rfl) (fun _ _ _ h => h) (yl_ev (by rfl) _ rfl _ 0 rfl _ _ _ _ _ _ _ _ _ _ _ _ (fun _ h => EvIn.cells h)) (by assumption) ?_
        simp only [Act.put, List.setIfInBounds_toArray, List.set_cons_zero, List.set_cons_succ]
        refine held_call (o := ⟨_, _, _, _, _, _⟩) 0 (by kernel_rfl) rfl (by rfl) 19 _ _ rfl #[] rfl (run_call Try.func19 (by kernel_rfl) (by kernel_rfl)) ?_
        refine (P.all _).mono ?_
        rintro r v10 ⟨⟨u1, rfl, HG⟩, kb⟩
        replace D := D.trans (kb.mono D.size)
        replace HS := HS.on kb
        replace IS := IS.on kb
        replace IE := IE.on kb
        replace HB := HB.on kb
        replace IB := IB.on kb
        clear kb
        clear hHeld
        obtain ⟨g0, g1, g2, g3, rfl, -⟩ := HG.scs
        refine ⟨bxVal g0 g1 g2 g3, rfl, IE, fun hHeld => ?_⟩
        simp only [Act.put, List.setIfInBounds_toArray, List.set_cons_zero, List.set_cons_succ]
        refine held_call (o := ⟨_, _, _, _, _, _⟩) 2 (by kernel_rfl) rfl (by rfl) 11 _ _ rfl #[bxVal g0 g1 g2 g3, evVal e] rfl (run_call Try.func11 (by kernel_rfl) (by kernel_rfl)) ?_
        refine (refHasBx_any _ _ e _ HG hf).mono ?_
        rintro r v11 ⟨rfl, kb⟩
        replace D := D.trans (kb.mono D.size)
        replace HS := HS.on kb
        replace IS := IS.on kb
        replace IE := IE.on kb
        replace HB := HB.on kb
        replace IB := IB.on kb
        replace HG := HG.on kb
        clear kb
        clear hHeld
        clear HG
        refine ⟨.bool false, ret_bool hok, IE, fun hHeld => ?_⟩
        simp only [Act.put, List.setIfInBounds_toArray, List.set_cons_zero, List.set_cons_succ]
        refine wpAnyH_take (i := 3) (oi := ⟨_, _, _, _, _, _⟩) (v := .bool false) rfl (by kernel_rfl) (by kernel_rfl) (by kernel_rfl) (fun _ _ _ h => h) (yl_assign (by rfl) _ rfl _ rfl) (by assumption) ?_
        simp only [Act.put, List.setIfInBounds_toArray, List.set_cons_zero, List.set_cons_succ]
        refine wpAnyH_done (by kernel_rfl) ?_ _
        clear hHeld
        refine hK5 _ _ ?_
        clear hK5 K5
        refine wp_seq_k (fun K6 hK6 => ?_)
        refine wp_seq_k (fun K7 hK7 => ?_)
        refine wp_region_lit ?_
        refine wl_yield (o := ⟨_, _, _, _, _, _⟩) (.int .i64 1) (yl_move (by rfl) _ rfl _ rfl) ?_
        simp only [Act.put, List.setIfInBounds_toArray, List.set_cons_zero, List.set_cons_succ]
        refine wl_yield (o := ⟨_, _, _, _, _, _⟩) (.bool false) (yl_lssI (by rfl) _ _ _ rfl (1) (0) false rfl rfl (by decide)) ?_
        simp only [Act.put, List.setIfInBounds_toArray, List.set_cons_zero, List.set_cons_succ]
        refine wl_yield (o := ⟨_, _, _, _, _, _⟩) (.bool false) (yl_move (by rfl) _ rfl _ rfl) ?_
        simp only [Act.put, List.setIfInBounds_toArray, List.set_cons_zero, List.set_cons_succ]
        refine wl_yield (o := ⟨_, _, _, _, _, _⟩) (.int .i64 1) (yl_move (by rfl) _ rfl _ rfl) ?_
        simp only [Act.put, List.setIfInBounds_toArray, List.set_cons_zero, List.set_cons_succ]
        refine wl_yield (o := ⟨_, _, _, _, _, _⟩) (.bool false) (yl_gtrI (by rfl) _ _ _ rfl (1) (3) false rfl rfl (by decide)) ?_
        simp only [Act.put, List.setIfInBounds_toArray, List.set_cons_zero, List.set_cons_succ]
        refine wl_yield (o := ⟨_, _, _, _, _, _⟩) (.bool false) (yl_pickF (by rfl) _ _ _ rfl rfl _ rfl) ?_
        simp only [Act.put, List.setIfInBounds_toArray, List.set_cons_zero, List.set_cons_succ]
        refine wpList_nil ?_
        refine hK7 _ _ ?_
        clear hK7 K7
        refine wp_cond_false rfl ?_
        refine wp_skip ?_
        refine hK6 _ _ ?_
        clear hK6 K6
        refine wp_seq_k (fun K8 hK8 => ?_)
        have hat : hasE (allBx.put 1 s) e = (hasE allBx e && hasP s e.v1) := atom_has (s := s) (i := 1) (by omega) he
        replace hat : hasE (allBx.put 1 s) e = false := by rw [hat, hok, Bool.false_and]
        refine wp_region_held_drew (S := fun w' => BxIn w' gb8 b0 b1 b2 b3 ∧ EvIn w' gb2 e ∧ StIn w' gb1 t) (by kernel_rfl) ⟨IB, IE, IS⟩ (fun hHeld => ?_)
        have kb : Below v11.heap.size v11 v11.drew := (Below.refl _ v11).drew
        replace D := D.trans (kb.mono D.size)
        replace HS := HS.on kb
        replace IS := IS.on kb
        replace IE := IE.on kb
        replace HB := HB.on kb
        replace IB := IB.on kb
        clear kb
        generalize v11.drew = v12 at D hHeld HS IS IE HB IB ⊢
        refine wpAnyH_take (i := 0) (oi := ⟨_, _, _, _, _, _⟩) (v := bxVal b0 b1 b2 b3) rfl (by kernel_rfl) (by kernel_rfl) (by kernel_rfl) (fun _ _ _ h => h) (yl_box (by rfl) _ rfl _ 0 rfl _ _ _ _ _ _ _ _ _ _ _ _ _ _ _ _ (fun _ h => BxIn.cells h.1)) (by assumption) ?_
        simp only [Act.put, List.setIfInBounds_toArray, List.set_cons_zero, List.set_cons_succ]
        refine wpAnyH_take (i := 1) (oi := ⟨_, _, _, _, _, _⟩) (v := evVal e) rfl (by kernel_rfl) (by kernel_rfl) (by kernel_rfl) (fun _ _ _ h => h) (yl_ev (by rfl) _ rfl _ 0 rfl _ _ _ _ _ _ _ _ _ _ _ _ (fun _ h => EvIn.cells h.2.1)) (by assumption) ?_
        simp only [Act.put, List.setIfInBounds_toArray, List.set_cons_zero, List.set_cons_succ]
        refine wpAnyH_take (i := 3) (oi := ⟨_, _, _, _, _, _⟩) (v := .bool false) rfl (by kernel_rfl) (by kernel_rfl) (by kernel_rfl) (fun _ _ _ h => h) (yl_move (by rfl) _ rfl _ rfl) (by assumption) ?_
        simp only [Act.put, List.setIfInBounds_toArray, List.set_cons_zero, List.set_cons_succ]
        refine held_call (o := ⟨_, _, _, _, _, _⟩) 2 (by kernel_rfl) rfl (by rfl) 21 _ _ rfl #[bxVal b0 b1 b2 b3, evVal e] rfl (run_call Try.func21 (by kernel_rfl) (by kernel_rfl)) ?_
        refine (P.has _ _ e _ HB FB.fit hf he).mono ?_
        rintro r v13 ⟨rfl, kb⟩
        replace D := D.trans (kb.mono D.size)
        replace HS := HS.on kb
        replace IS := IS.on kb
        replace IE := IE.on kb
        replace HB := HB.on kb
        replace IB := IB.on kb
        clear kb
        clear hHeld
        refine ⟨.bool false, ret_bool hat, ⟨IB, IE, IS⟩, fun hHeld => ?_⟩
        simp only [Act.put, List.setIfInBounds_toArray, List.set_cons_zero, List.set_cons_succ]
        refine wpAnyH_take (i := 4) (oi := ⟨_, _, _, _, _, _⟩) (v := .bool false) rfl (by kernel_rfl) (by kernel_rfl) (by kernel_rfl) (fun _ _ _ h => h) (yl_move (by rfl) _ rfl _ rfl) (by assumption) ?_
        simp only [Act.put, List.setIfInBounds_toArray, List.set_cons_zero, List.set_cons_succ]
        refine wpAnyH_take (i := 5) (oi := ⟨_, _, _, _, _, _⟩) (v := undef) rfl (by kernel_rfl) (by kernel_rfl) (by kernel_rfl) (fun _ _ _ h => h) (yl_undef (by rfl)) (by assumption) ?_
        simp only [Act.put, List.setIfInBounds_toArray, List.set_cons_zero, List.set_cons_succ]
        refine wpAnyH_take (i := 6) (oi := ⟨_, _, _, _, _, _⟩) (v := undef) rfl (by kernel_rfl) (by kernel_rfl) (by kernel_rfl) (fun _ _ _ h => h) (yl_undef (by rfl)) (by assumption) ?_
        simp only [Act.put, List.setIfInBounds_toArray, List.set_cons_zero, List.set_cons_succ]
        refine wpAnyH_take (i := 7) (oi := ⟨_, _, _, _, _, _⟩) (v := undef) rfl (by kernel_rfl) (by kernel_rfl) (by kernel_rfl) (fun _ _ _ h => h) (yl_undef (by rfl)) (by assumption) ?_
        simp only [Act.put, List.setIfInBounds_toArray, List.set_cons_zero, List.set_cons_succ]
        refine wpAnyH_take (i := 8) (oi := ⟨_, _, _, _, _, _⟩) (v := undef) rfl (by kernel_rfl) (by kernel_rfl) (by kernel_rfl) (fun _ _ _ h => h) (yl_undef (by rfl)) (by assumption) ?_
        simp only [Act.put, List.setIfInBounds_toArray, List.set_cons_zero, List.set_cons_succ]
        refine wpAnyH_take (i := 9) (oi := ⟨_, _, _, _, _, _⟩) (v := undef) rfl (by kernel_rfl) (by kernel_rfl) (by kernel_rfl) (fun _ _ _ h => h) (yl_undef (by rfl)) (by assumption) ?_
        simp only [Act.put, List.setIfInBounds_toArray, List.set_cons_zero, List.set_cons_succ]
        refine wpAnyH_take (i := 10) (oi := ⟨_, _, _, _, _, _⟩) (v := .bool false) rfl (by kernel_rfl) (by kernel_rfl) (by kernel_rfl) (fun _ _ _ h => h) (yl_pickF (by rfl) _ _ _ rfl rfl _ rfl) (by assumption) ?_
        simp only [Act.put, List.setIfInBounds_toArray, List.set_cons_zero, List.set_cons_succ]
        refine wpAnyH_take (i := 11) (oi := ⟨_, _, _, _, _, _⟩) (v := .bool true) rfl (by kernel_rfl) (by kernel_rfl) (by kernel_rfl) (fun _ _ _ h => h) (yl_eqB (by rfl) _ _ _ rfl false false rfl rfl) (by assumption) ?_
        simp only [Act.put, List.setIfInBounds_toArray, List.set_cons_zero, List.set_cons_succ]
        refine wpAnyH_take (i := 12) (oi := ⟨_, _, _, _, _, _⟩) (v := .bool true) rfl (by kernel_rfl) (by kernel_rfl) (by kernel_rfl) (fun _ _ _ h => h) (yl_move (by rfl) _ rfl _ rfl) (by assumption) ?_
        simp only [Act.put, List.setIfInBounds_toArray, List.set_cons_zero, List.set_cons_succ]
        refine wpAnyH_take (i := 14) (oi := ⟨_, _, _, _, _, _⟩) (v := .int .i64 1) rfl (by kernel_rfl) (by kernel_rfl) (by kernel_rfl) (fun _ _ _ h => h) (yl_move (by rfl) _ rfl _ rfl) (by assumption) ?_
        simp only [Act.put, List.setIfInBounds_toArray, List.set_cons_zero, List.set_cons_succ]
        refine wpAnyH_take (i := 15) (oi := ⟨_, _, _, _, _, _⟩) (v := SC.val t) rfl (by kernel_rfl) (by kernel_rfl) (by kernel_rfl) (fun _ _ _ h => h) (yl_set (by rfl) _ rfl _ 0 rfl _ _ _ _ (fun _ h => StIn.cells h.2.2)) (by assumption) ?_
        simp only [Act.put, List.setIfInBounds_toArray, List.set_cons_zero, List.set_cons_succ]
        refine wpAnyH_take (i := 17) (oi := ⟨_, _, _, _, _, _⟩) (v := bxVal b0 b1 b2 b3) rfl (by kernel_rfl) (by kernel_rfl) (by kernel_rfl) (fun _ _ _ h => h) (yl_box (by rfl) _ rfl _ 0 rfl _ _ _ _ _ _ _ _ _ _ _ _ _ _ _ _ (fun _ h => BxIn.cells h.1)) (by assumption) ?_
        simp only [Act.put, List.setIfInBounds_toArray, List.set_cons_zero, List.set_cons_succ]
        refine held_call (o := ⟨_, _, _, _, _, _⟩) 13 (by kernel_rfl) rfl (by rfl) 19 _ _ rfl #[] rfl (run_call Try.func19 (by kernel_rfl) (by kernel_rfl)) ?_
        refine (P.all _).mono ?_
        rintro r v14 ⟨⟨u1, rfl, HG⟩, kb⟩
        replace D := D.trans (kb.mono D.size)
        replace HS := HS.on kb
        replace IS := IS.on kb
        replace IE := IE.on kb
        replace HB := HB.on kb
        replace IB := IB.on kb
        clear kb
        clear hHeld
        obtain ⟨g0, g1, g2, g3, rfl, -⟩ := HG.scs
        refine ⟨bxVal g0 g1 g2 g3, rfl, ⟨IB, IE, IS⟩, fun hHeld => ?_⟩
        simp only [Act.put, List.setIfInBounds_toArray, List.set_cons_zero, List.set_cons_succ]
        refine held_call (o := ⟨_, _, _, _, _, _⟩) 16 (by kernel_rfl) rfl (by rfl) 15 _ _ rfl #[bxVal g0 g1 g2 g3, .int .i64 1, SC.val t] rfl (run_call Try.func15 (by kernel_rfl) (by kernel_rfl)) ?_
        refine (P.with_ _ allBx 1 _ s _ (by omega) (by omega) HG allFew.fit HS FS).mono ?_
        rintro r v15 ⟨⟨u1, rfl, HD⟩, kb⟩
        replace D := D.trans (kb.mono D.size)
        replace HS := HS.on kb
        replace IS := IS.on kb
        replace IE := IE.on kb
        replace HB := HB.on kb
        replace IB := IB.on kb
        replace HG := HG.on kb
        clear kb
        clear hHeld
        replace HD : BoxAt _ _ (allBx.put 1 s) := HD
        obtain ⟨d0, d1, d2, d3, rfl, -⟩ := HD.scs
        clear HG
        refine ⟨bxVal d0 d1 d2 d3, rfl, ⟨IB, IE, IS⟩, fun hHeld => ?_⟩
        simp only [Act.put, List.setIfInBounds_toArray, List.set_cons_zero, List.set_cons_succ]
        refine held_call (o := ⟨_, _, _, _, _, _⟩) 18 (by kernel_rfl) rfl (by rfl) 20 _ _ rfl #[bxVal d0 d1 d2 d3, bxVal b0 b1 b2 b3] rfl (run_call Try.func20 (by kernel_rfl) (by kernel_rfl)) ?_
        refine (P.same _ _ _ _ _ HD HB FB.fit FB.fit).mono ?_
        rintro r v16 ⟨rfl, kb⟩
        replace D := D.trans (kb.mono D.size)
        replace HS := HS.on kb
        replace IS := IS.on kb
        replace IE := IE.on kb
        replace HB := HB.on kb
        replace IB := IB.on kb
        replace HD := HD.on kb
        clear kb
        clear hHeld
        clear HD
        refine ⟨.bool true, ret_bool (sameBx_refl _), ⟨IB, IE, IS⟩, fun hHeld => ?_⟩
        simp only [Act.put, List.setIfInBounds_toArray, List.set_cons_zero, List.set_cons_succ]
        refine wpAnyH_take (i := 19) (oi := ⟨_, _, _, _, _, _⟩) (v := .bool true) rfl (by kernel_rfl) (by kernel_rfl) (by kernel_rfl) (fun _ _ _ h => h) (yl_pickT (by rfl) _ _ _ rfl rfl _ rfl) (by assumption) ?_
        simp only [Act.put, List.setIfInBounds_toArray, List.set_cons_zero, List.set_cons_succ]
        refine wpAnyH_take (i := 20) (oi := ⟨_, _, _, _, _, _⟩) (v := .bool true) rfl (by kernel_rfl) (by kernel_rfl) (by kernel_rfl) (fun _ _ _ h => h) (yl_assign (by rfl) _ rfl _ rfl) (by assumption) ?_
        simp only [Act.put, List.setIfInBounds_toArray, List.set_cons_zero, List.set_cons_succ]
        refine wpAnyH_done (by kernel_rfl) ?_ _
        clear hHeld
        refine hK8 _ _ ?_
        clear hK8 K8
        refine wp_ret ?_
        go_ret
        exact ⟨rfl, D⟩
      · refine wp_region_held_drew (S := fun w' => EvIn w' gb2 e) (by kernel_rfl) IE (fun hHeld => ?_)
        have kb : Below v8.heap.size v8 v8.drew := (Below.refl _ v8).drew
        replace D := D.trans (kb.mono D.size)
        replace HS := HS.on kb
        replace IS := IS.on kb
        replace IE := IE.on kb
        replace HB := HB.on kb
        replace IB := IB.on kb
        clear kb
        generalize v8.drew = v9 at D hHeld HS IS IE HB IB ⊢
        refine wpAnyH_take (i := 1) (oi := ⟨_, _, _, _, _, _⟩) (v := evVal e) rfl (by kernel_rfl) (by kernel_rfl) (by kernel_rfl) (fun _ _ _ h => h) (yl_ev (by rfl) _ rfl _ 0 rfl _ _ _ _ _ _ _ _ _ _ _ _ (fun _ h => EvIn.cells h)) (by assumption) ?_
        simp only [Act.put, List.setIfInBounds_toArray, List.set_cons_zero, List.set_cons_succ]
        refine held_call (o := ⟨_, _, _, _, _, _⟩) 0 (by kernel_rfl) rfl (by rfl) 19 _ _ rfl #[] rfl (run_call Try.func19 (by kernel_rfl) (by kernel_rfl)) ?_
        refine (P.all _).mono ?_
        rintro r v10 ⟨⟨u1, rfl, HG⟩, kb⟩
        replace D := D.trans (kb.mono D.size)
        replace HS := HS.on kb
        replace IS := IS.on kb
        replace IE := IE.on kb
        replace HB := HB.on kb
        replace IB := IB.on kb
        clear kb
        clear hHeld
        obtain ⟨g0, g1, g2, g3, rfl, -⟩ := HG.scs
        refine ⟨bxVal g0 g1 g2 g3, rfl, IE, fun hHeld => ?_⟩
        simp only [Act.put, List.setIfInBounds_toArray, List.set_cons_zero, List.set_cons_succ]
        refine held_call (o := ⟨_, _, _, _, _, _⟩) 2 (by kernel_rfl) rfl (by rfl) 11 _ _ rfl #[bxVal g0 g1 g2 g3, evVal e] rfl (run_call Try.func11 (by kernel_rfl) (by kernel_rfl)) ?_
        refine (refHasBx_any _ _ e _ HG hf).mono ?_
        rintro r v11 ⟨rfl, kb⟩
        replace D := D.trans (kb.mono D.size)
        replace HS := HS.on kb
        replace IS := IS.on kb
        replace IE := IE.on kb
        replace HB := HB.on kb
        replace IB := IB.on kb
        replace HG := HG.on kb
        clear kb
        clear hHeld
        clear HG
        refine ⟨.bool true, ret_bool hok, IE, fun hHeld => ?_⟩
        simp only [Act.put, List.setIfInBounds_toArray, List.set_cons_zero, List.set_cons_succ]
        refine wpAnyH_take (i := 3) (oi := ⟨_, _, _, _, _, _⟩) (v := .bool true) rfl (by kernel_rfl) (by kernel_rfl) (by kernel_rfl) (fun _ _ _ h => h) (yl_assign (by rfl) _ rfl _ rfl) (by assumption) ?_
        simp only [Act.put, List.setIfInBounds_toArray, List.set_cons_zero, List.set_cons_succ]
        refine wpAnyH_done (by kernel_rfl) ?_ _
        clear hHeld
        refine hK5 _ _ ?_
        clear hK5 K5
        refine wp_seq_k (fun K6 hK6 => ?_)
        refine wp_seq_k (fun K7 hK7 => ?_)
        refine wp_region_lit ?_
        refine wl_yield (o := ⟨_, _, _, _, _, _⟩) (.int .i64 1) (yl_move (by rfl) _ rfl _ rfl) ?_
        simp only [Act.put, List.setIfInBounds_toArray, List.set_cons_zero, List.set_cons_succ]
        refine wl_yield (o := ⟨_, _, _, _, _, _⟩) (.bool false) (yl_lssI (by rfl) _ _ _ rfl (1) (0) false rfl rfl (by decide)) ?_
        simp only [Act.put, List.setIfInBounds_toArray, List.set_cons_zero, List.set_cons_succ]
        refine wl_yield (o := ⟨_, _, _, _, _, _⟩) (.bool false) (yl_move (by rfl) _ rfl _ rfl) ?_
        simp only [Act.put, List.setIfInBounds_toArray, List.set_cons_zero, List.set_cons_succ]
        refine wl_yield (o := ⟨_, _, _, _, _, _⟩) (.int .i64 1) (yl_move (by rfl) _ rfl _ rfl) ?_
        simp only [Act.put, List.setIfInBounds_toArray, List.set_cons_zero, List.set_cons_succ]
        refine wl_yield (o := ⟨_, _, _, _, _, _⟩) (.bool false) (yl_gtrI (by rfl) _ _ _ rfl (1) (3) false rfl rfl (by decide)) ?_
        simp only [Act.put, List.setIfInBounds_toArray, List.set_cons_zero, List.set_cons_succ]
        refine wl_yield (o := ⟨_, _, _, _, _, _⟩) (.bool false) (yl_pickF (by rfl) _ _ _ rfl rfl _ rfl) ?_
        simp only [Act.put, List.setIfInBounds_toArray, List.set_cons_zero, List.set_cons_succ]
        refine wpList_nil ?_
        refine hK7 _ _ ?_
        clear hK7 K7
        refine wp_cond_false rfl ?_
        refine wp_skip ?_
        refine hK6 _ _ ?_
        clear hK6 K6
        refine wp_seq_k (fun K8 hK8 => ?_)
        have hat : hasE (allBx.put 1 s) e = (hasE allBx e && hasP s e.v1) := atom_has (s := s) (i := 1) (by omega) he
        rw [hok, Bool.true_and] at hat
        cases hp : hasP s e.v1
        · rw [hp] at hat
          refine wp_region_held_drew (S := fun w' => BxIn w' gb8 b0 b1 b2 b3 ∧ EvIn w' gb2 e ∧ StIn w' gb1 t) (by kernel_rfl) ⟨IB, IE, IS⟩ (fun hHeld => ?_)
          have kb : Below v11.heap.size v11 v11.drew := (Below.refl _ v11).drew
          replace D := D.trans (kb.mono D.size)
          replace HS := HS.on kb
          replace IS := IS.on kb
          replace IE := IE.on kb
          replace HB := HB.on kb
          replace IB := IB.on kb
          clear kb
          generalize v11.drew = v12 at D hHeld HS IS IE HB IB ⊢
          refine wpAnyH_take (i := 0) (oi := ⟨_, _, _, _, _, _⟩) (v := bxVal b0 b1 b2 b3) rfl (by kernel_rfl) (by kernel_rfl) (by kernel_rfl) (fun _ _ _ h => h) (yl_box (by rfl) _ rfl _ 0 rfl _ _ _ _ _ _ _ _ _ _ _ _ _ _ _ _ (fun _ h => BxIn.cells h.1)) (by assumption) ?_
          simp only [Act.put, List.setIfInBounds_toArray, List.set_cons_zero, List.set_cons_succ]
          refine wpAnyH_take (i := 1) (oi := ⟨_, _, _, _, _, _⟩) (v := evVal e) rfl (by kernel_rfl) (by kernel_rfl) (by kernel_rfl) (fun _ _ _ h => h) (yl_ev (by rfl) _ rfl _ 0 rfl _ _ _ _ _ _ _ _ _ _ _ _ (fun _ h => EvIn.cells h.2.1)) (by assumption) ?_
          simp only [Act.put, List.setIfInBounds_toArray, List.set_cons_zero, List.set_cons_succ]
          refine wpAnyH_take (i := 3) (oi := ⟨_, _, _, _, _, _⟩) (v := .bool true) rfl (by kernel_rfl) (by kernel_rfl) (by kernel_rfl) (fun _ _ _ h => h) (yl_move (by rfl) _ rfl _ rfl) (by assumption) ?_
          simp only [Act.put, List.setIfInBounds_toArray, List.set_cons_zero, List.set_cons_succ]
          refine held_call (o := ⟨_, _, _, _, _, _⟩) 2 (by kernel_rfl) rfl (by rfl) 21 _ _ rfl #[bxVal b0 b1 b2 b3, evVal e] rfl (run_call Try.func21 (by kernel_rfl) (by kernel_rfl)) ?_
          refine (P.has _ _ e _ HB FB.fit hf he).mono ?_
          rintro r v13 ⟨rfl, kb⟩
          replace D := D.trans (kb.mono D.size)
          replace HS := HS.on kb
          replace IS := IS.on kb
          replace IE := IE.on kb
          replace HB := HB.on kb
          replace IB := IB.on kb
          clear kb
          clear hHeld
          refine ⟨.bool false, ret_bool hat, ⟨IB, IE, IS⟩, fun hHeld => ?_⟩
          simp only [Act.put, List.setIfInBounds_toArray, List.set_cons_zero, List.set_cons_succ]
          refine wpAnyH_take (i := 4) (oi := ⟨_, _, _, _, _, _⟩) (v := .bool true) rfl (by kernel_rfl) (by kernel_rfl) (by kernel_rfl) (fun _ _ _ h => h) (yl_move (by rfl) _ rfl _ rfl) (by assumption) ?_
          simp only [Act.put, List.setIfInBounds_toArray, List.set_cons_zero, List.set_cons_succ]
          refine wpAnyH_take (i := 5) (oi := ⟨_, _, _, _, _, _⟩) (v := SC.val t) rfl (by kernel_rfl) (by kernel_rfl) (by kernel_rfl) (fun _ _ _ h => h) (yl_set (by rfl) _ rfl _ 0 rfl _ _ _ _ (fun _ h => StIn.cells h.2.2)) (by assumption) ?_
          simp only [Act.put, List.setIfInBounds_toArray, List.set_cons_zero, List.set_cons_succ]
          refine wpAnyH_take (i := 6) (oi := ⟨_, _, _, _, _, _⟩) (v := .int .i64 1) rfl (by kernel_rfl) (by kernel_rfl) (by kernel_rfl) (fun _ _ _ h => h) (yl_move (by rfl) _ rfl _ rfl) (by assumption) ?_
          simp only [Act.put, List.setIfInBounds_toArray, List.set_cons_zero, List.set_cons_succ]
          refine wpAnyH_take (i := 7) (oi := ⟨_, _, _, _, _, _⟩) (v := .pointer (some ⟨gb2, 3, none⟩)) rfl (by kernel_rfl) (by kernel_rfl) (by kernel_rfl) (fun _ _ _ h => h) (yl_atEv (by rfl) _ _ rfl _ 1 rfl rfl (by omega)) (by assumption) ?_
          simp only [Act.put, List.setIfInBounds_toArray, List.set_cons_zero, List.set_cons_succ]
          refine wpAnyH_take (i := 8) (oi := ⟨_, _, _, _, _, _⟩) (v := .agg #[.int .i64 e.v1.1, .int .i64 e.v1.2.1, .string e.v1.2.2]) rfl (by kernel_rfl) (by kernel_rfl) (by kernel_rfl) (fun _ _ _ h => h) (yl_val (by rfl) _ rfl _ 3 rfl _ _ _ (fun _ h => EvIn.at1 h.2.1)) (by assumption) ?_
          simp only [Act.put, List.setIfInBounds_toArray, List.set_cons_zero, List.set_cons_succ]
          refine held_call (o := ⟨_, _, _, _, _, _⟩) 9 (by kernel_rfl) rfl (by rfl) 22 _ _ rfl #[SC.val t, .agg #[.int .i64 e.v1.1, .int .i64 e.v1.2.1, .string e.v1.2.2]] rfl (run_call Try.func22 (by kernel_rfl) (by kernel_rfl)) ?_
          refine (refHas_any _ s e.v1.1 e.v1.2.1 e.v1.2.2 _ HS hf.2.1).mono ?_
          rintro r v14 ⟨rfl, kb⟩
          replace D := D.trans (kb.mono D.size)
          replace HS := HS.on kb
          replace IS := IS.on kb
          replace IE := IE.on kb
          replace HB := HB.on kb
          replace IB := IB.on kb
          clear kb
          clear hHeld
          refine ⟨.bool false, ret_bool hp, ⟨IB, IE, IS⟩, fun hHeld => ?_⟩
          simp only [Act.put, List.setIfInBounds_toArray, List.set_cons_zero, List.set_cons_succ]
          refine wpAnyH_take (i := 10) (oi := ⟨_, _, _, _, _, _⟩) (v := .bool false) rfl (by kernel_rfl) (by kernel_rfl) (by kernel_rfl) (fun _ _ _ h => h) (yl_pickT (by rfl) _ _ _ rfl rfl _ rfl) (by assumption) ?_
          simp only [Act.put, List.setIfInBounds_toArray, List.set_cons_zero, List.set_cons_succ]
          refine wpAnyH_take (i := 11) (oi := ⟨_, _, _, _, _, _⟩) (v := .bool true) rfl (by kernel_rfl) (by kernel_rfl) (by kernel_rfl) (fun _ _ _ h => h) (yl_eqB (by rfl) _ _ _ rfl false false rfl rfl) (by assumption) ?_
          simp only [Act.put, List.setIfInBounds_toArray, List.set_cons_zero, List.set_cons_succ]
          refine wpAnyH_take (i := 12) (oi := ⟨_, _, _, _, _, _⟩) (v := .bool true) rfl (by kernel_rfl) (by kernel_rfl) (by kernel_rfl) (fun _ _ _ h => h) (yl_move (by rfl) _ rfl _ rfl) (by assumption) ?_
          simp only [Act.put, List.setIfInBounds_toArray, List.set_cons_zero, List.set_cons_succ]
          refine wpAnyH_take (i := 14) (oi := ⟨_, _, _, _, _, _⟩) (v := .int .i64 1) rfl (by kernel_rfl) (by kernel_rfl) (by kernel_rfl) (fun _ _ _ h => h) (yl_move (by rfl) _ rfl _ rfl) (by assumption) ?_
          simp only [Act.put, List.setIfInBounds_toArray, List.set_cons_zero, List.set_cons_succ]
          refine wpAnyH_take (i := 15) (oi := ⟨_, _, _, _, _, _⟩) (v := SC.val t) rfl (by kernel_rfl) (by kernel_rfl) (by kernel_rfl) (fun _ _ _ h => h) (yl_set (by rfl) _ rfl _ 0 rfl _ _ _ _ (fun _ h => StIn.cells h.2.2)) (by assumption) ?_
          simp only [Act.put, List.setIfInBounds_toArray, List.set_cons_zero, List.set_cons_succ]
          refine wpAnyH_take (i := 17) (oi := ⟨_, _, _, _, _, _⟩) (v := bxVal b0 b1 b2 b3) rfl (by kernel_rfl) (by kernel_rfl) (by kernel_rfl) (fun _ _ _ h => h) (yl_box (by rfl) _ rfl _ 0 rfl _ _ _ _ _ _ _ _ _ _ _ _ _ _ _ _ (fun _ h => BxIn.cells h.1)) (by assumption) ?_
          simp only [Act.put, List.setIfInBounds_toArray, List.set_cons_zero, List.set_cons_succ]
          refine held_call (o := ⟨_, _, _, _, _, _⟩) 13 (by kernel_rfl) rfl (by rfl) 19 _ _ rfl #[] rfl (run_call Try.func19 (by kernel_rfl) (by kernel_rfl)) ?_
          refine (P.all _).mono ?_
          rintro r v15 ⟨⟨u1, rfl, HG⟩, kb⟩
          replace D := D.trans (kb.mono D.size)
          replace HS := HS.on kb
          replace IS := IS.on kb
          replace IE := IE.on kb
          replace HB := HB.on kb
          replace IB := IB.on kb
          clear kb
          clear hHeld
          obtain ⟨g0, g1, g2, g3, rfl, -⟩ := HG.scs
          refine ⟨bxVal g0 g1 g2 g3, rfl, ⟨IB, IE, IS⟩, fun hHeld => ?_⟩
          simp only [Act.put, List.setIfInBounds_toArray, List.set_cons_zero, List.set_cons_succ]
          refine held_call (o := ⟨_, _, _, _, _, _⟩) 16 (by kernel_rfl) rfl (by rfl) 15 _ _ rfl #[bxVal g0 g1 g2 g3, .int .i64 1, SC.val t] rfl (run_call Try.func15 (by kernel_rfl) (by kernel_rfl)) ?_
          refine (P.with_ _ allBx 1 _ s _ (by omega) (by omega) HG allFew.fit HS FS).mono ?_
          rintro r v16 ⟨⟨u1, rfl, HD⟩, kb⟩
          replace D := D.trans (kb.mono D.size)
          replace HS := HS.on kb
          replace IS := IS.on kb
          replace IE := IE.on kb
          replace HB := HB.on kb
          replace IB := IB.on kb
          replace HG := HG.on kb
          clear kb
          clear hHeld
          replace HD : BoxAt _ _ (allBx.put 1 s) := HD
          obtain ⟨d0, d1, d2, d3, rfl, -⟩ := HD.scs
          clear HG
          refine ⟨bxVal d0 d1 d2 d3, rfl, ⟨IB, IE, IS⟩, fun hHeld => ?_⟩
          simp only [Act.put, List.setIfInBounds_toArray, List.set_cons_zero, List.set_cons_succ]
          refine held_call (o := ⟨_, _, _, _, _, _⟩) 18 (by kernel_rfl) rfl (by rfl) 20 _ _ rfl #[bxVal d0 d1 d2 d3, bxVal b0 b1 b2 b3] rfl (run_call Try.func20 (by kernel_rfl) (by kernel_rfl)) ?_
          refine (P.same _ _ _ _ _ HD HB FB.fit FB.fit).mono ?_
          rintro r v17 ⟨rfl, kb⟩
          replace D := D.trans (kb.mono D.size)
          replace HS := HS.on kb
          replace IS := IS.on kb
          replace IE := IE.on kb
          replace HB := HB.on kb
          replace IB := IB.on kb
          replace HD := HD.on kb
          clear kb
          clear hHeld
          clear HD
          refine ⟨.bool true, ret_bool (sameBx_refl _), ⟨IB, IE, IS⟩, fun hHeld => ?_⟩
          simp only [Act.put, List.setIfInBounds_toArray, List.set_cons_zero, List.set_cons_succ]
          refine wpAnyH_take (i := 19) (oi := ⟨_, _, _, _, _, _⟩) (v := .bool true) rfl (by kernel_rfl) (by kernel_rfl) (by kernel_rfl) (fun _ _ _ h => h) (yl_pickT (by rfl) _ _ _ rfl rfl _ rfl) (by assumption) ?_
          simp only [Act.put, List.setIfInBounds_toArray, List.set_cons_zero, List.set_cons_succ]
          refine wpAnyH_take (i := 20) (oi := ⟨_, _, _, _, _, _⟩) (v := .bool true) rfl (by kernel_rfl) (by kernel_rfl) (by kernel_rfl) (fun _ _ _ h => h) (yl_assign (by rfl) _ rfl _ rfl) (by assumption) ?_
          simp only [Act.put, List.setIfInBounds_toArray, List.set_cons_zero, List.set_cons_succ]
          refine wpAnyH_done (by kernel_rfl) ?_ _
          clear hHeld
          refine hK8 _ _ ?_
          clear hK8 K8
          refine wp_ret ?_
          go_ret
          exact ⟨rfl, D⟩
        · rw [hp] at hat
          refine wp_region_held_drew (S := fun w' => BxIn w' gb8 b0 b1 b2 b3 ∧ EvIn w' gb2 e ∧ StIn w' gb1 t) (by kernel_rfl) ⟨IB, IE, IS⟩ (fun hHeld => ?_)
          have kb : Below v11.heap.size v11 v11.drew := (Below.refl _ v11).drew
          replace D := D.trans (kb.mono D.size)
          replace HS := HS.on kb
          replace IS := IS.on kb
          replace IE := IE.on kb
          replace HB := HB.on kb
          replace IB := IB.on kb
          clear kb
          generalize v11.drew = v12 at D hHeld HS IS IE HB IB ⊢
          refine wpAnyH_take (i := 0) (oi := ⟨_, _, _, _, _, _⟩) (v := bxVal b0 b1 b2 b3) rfl (by kernel_rfl) (by kernel_rfl) (by kernel_rfl) (fun _ _ _ h => h) (yl_box (by rfl) _ rfl _ 0 rfl _ _ _ _ _ _ _ _ _ _ _ _ _ _ _ _ (fun _ h => BxIn.cells h.1)) (by assumption) ?_
          simp only [Act.put, List.setIfInBounds_toArray, List.set_cons_zero, List.set_cons_succ]
          refine wpAnyH_take (i := 1) (oi := ⟨_, _, _, _, _, _⟩) (v := evVal e) rfl (by kernel_rfl) (by kernel_rfl) (by kernel_rfl) (fun _ _ _ h => h) (yl_ev (by rfl) _ rfl _ 0 rfl _ _ _ _ _ _ _ _ _ _ _ _ (fun _ h => EvIn.cells h.2.1)) (by assumption) ?_
          simp only [Act.put, List.setIfInBounds_toArray, List.set_cons_zero, List.set_cons_succ]
          refine wpAnyH_take (i := 3) (oi := ⟨_, _, _, _, _, _⟩) (v := .bool true) rfl (by kernel_rfl) (by kernel_rfl) (by kernel_rfl) (fun _ _ _ h => h) (yl_move (by rfl) _ rfl _ rfl) (by assumption) ?_
          simp only [Act.put, List.setIfInBounds_toArray, List.set_cons_zero, List.set_cons_succ]
          refine held_call (o := ⟨_, _, _, _, _, _⟩) 2 (by kernel_rfl) rfl (by rfl) 21 _ _ rfl #[bxVal b0 b1 b2 b3, evVal e] rfl (run_call Try.func21 (by kernel_rfl) (by kernel_rfl)) ?_
          refine (P.has _ _ e _ HB FB.fit hf he).mono ?_
          rintro r v13 ⟨rfl, kb⟩
          replace D := D.trans (kb.mono D.size)
          replace HS := HS.on kb
          replace IS := IS.on kb
          replace IE := IE.on kb
          replace HB := HB.on kb
          replace IB := IB.on kb
          clear kb
          clear hHeld
          refine ⟨.bool true, ret_bool hat, ⟨IB, IE, IS⟩, fun hHeld => ?_⟩
          simp only [Act.put, List.setIfInBounds_toArray, List.set_cons_zero, List.set_cons_succ]
          refine wpAnyH_take (i := 4) (oi := ⟨_, _, _, _, _, _⟩) (v := .bool true) rfl (by kernel_rfl) (by kernel_rfl) (by kernel_rfl) (fun _ _ _ h => h) (yl_move (by rfl) _ rfl _ rfl) (by assumption) ?_
          simp only [Act.put, List.setIfInBounds_toArray, List.set_cons_zero, List.set_cons_succ]
          refine wpAnyH_take (i := 5) (oi := ⟨_, _, _, _, _, _⟩) (v := SC.val t) rfl (by kernel_rfl) (by kernel_rfl) (by kernel_rfl) (fun _ _ _ h => h) (yl_set (by rfl) _ rfl _ 0 rfl _ _ _ _ (fun _ h => StIn.cells h.2.2)) (by assumption) ?_
          simp only [Act.put, List.setIfInBounds_toArray, List.set_cons_zero, List.set_cons_succ]
          refine wpAnyH_take (i := 6) (oi := ⟨_, _, _, _, _, _⟩) (v := .int .i64 1) rfl (by kernel_rfl) (by kernel_rfl) (by kernel_rfl) (fun _ _ _ h => h) (yl_move (by rfl) _ rfl _ rfl) (by assumption) ?_
          simp only [Act.put, List.setIfInBounds_toArray, List.set_cons_zero, List.set_cons_succ]
          refine wpAnyH_take (i := 7) (oi := ⟨_, _, _, _, _, _⟩) (v := .pointer (some ⟨gb2, 3, none⟩)) rfl (by kernel_rfl) (by kernel_rfl) (by kernel_rfl) (fun _ _ _ h => h) (yl_atEv (by rfl) _ _ rfl _ 1 rfl rfl (by omega)) (by assumption) ?_
          simp only [Act.put, List.setIfInBounds_toArray, List.set_cons_zero, List.set_cons_succ]
          refine wpAnyH_take (i := 8) (oi := ⟨_, _, _, _, _, _⟩) (v := .agg #[.int .i64 e.v1.1, .int .i64 e.v1.2.1, .string e.v1.2.2]) rfl (by kernel_rfl) (by kernel_rfl) (by kernel_rfl) (fun _ _ _ h => h) (yl_val (by rfl) _ rfl _ 3 rfl _ _ _ (fun _ h => EvIn.at1 h.2.1)) (by assumption) ?_
          simp only [Act.put, List.setIfInBounds_toArray, List.set_cons_zero, List.set_cons_succ]
          refine held_call (o := ⟨_, _, _, _, _, _⟩) 9 (by kernel_rfl) rfl (by rfl) 22 _ _ rfl #[SC.val t, .agg #[.int .i64 e.v1.1, .int .i64 e.v1.2.1, .string e.v1.2.2]] rfl (run_call Try.func22 (by kernel_rfl) (by kernel_rfl)) ?_
          refine (refHas_any _ s e.v1.1 e.v1.2.1 e.v1.2.2 _ HS hf.2.1).mono ?_
          rintro r v14 ⟨rfl, kb⟩
          replace D := D.trans (kb.mono D.size)
          replace HS := HS.on kb
          replace IS := IS.on kb
          replace IE := IE.on kb
          replace HB := HB.on kb
          replace IB := IB.on kb
          clear kb
          clear hHeld
          refine ⟨.bool true, ret_bool hp, ⟨IB, IE, IS⟩, fun hHeld => ?_⟩
          simp only [Act.put, List.setIfInBounds_toArray, List.set_cons_zero, List.set_cons_succ]
          refine wpAnyH_take (i := 10) (oi := ⟨_, _, _, _, _, _⟩) (v := .bool true) rfl (by kernel_rfl) (by kernel_rfl) (by kernel_rfl) (fun _ _ _ h => h) (yl_pickT (by rfl) _ _ _ rfl rfl _ rfl) (by assumption) ?_
          simp only [Act.put, List.setIfInBounds_toArray, List.set_cons_zero, List.set_cons_succ]
          refine wpAnyH_take (i := 11) (oi := ⟨_, _, _, _, _, _⟩) (v := .bool true) rfl (by kernel_rfl) (by kernel_rfl) (by kernel_rfl) (fun _ _ _ h => h) (yl_eqB (by rfl) _ _ _ rfl true true rfl rfl) (by assumption) ?_
          simp only [Act.put, List.setIfInBounds_toArray, List.set_cons_zero, List.set_cons_succ]
          refine wpAnyH_take (i := 12) (oi := ⟨_, _, _, _, _, _⟩) (v := .bool true) rfl (by kernel_rfl) (by kernel_rfl) (by kernel_rfl) (fun _ _ _ h => h) (yl_move (by rfl) _ rfl _ rfl) (by assumption) ?_
          simp only [Act.put, List.setIfInBounds_toArray, List.set_cons_zero, List.set_cons_succ]
          refine wpAnyH_take (i := 14) (oi := ⟨_, _, _, _, _, _⟩) (v := .int .i64 1) rfl (by kernel_rfl) (by kernel_rfl) (by kernel_rfl) (fun _ _ _ h => h) (yl_move (by rfl) _ rfl _ rfl) (by assumption) ?_
          simp only [Act.put, List.setIfInBounds_toArray, List.set_cons_zero, List.set_cons_succ]
          refine wpAnyH_take (i := 15) (oi := ⟨_, _, _, _, _, _⟩) (v := SC.val t) rfl (by kernel_rfl) (by kernel_rfl) (by kernel_rfl) (fun _ _ _ h => h) (yl_set (by rfl) _ rfl _ 0 rfl _ _ _ _ (fun _ h => StIn.cells h.2.2)) (by assumption) ?_
          simp only [Act.put, List.setIfInBounds_toArray, List.set_cons_zero, List.set_cons_succ]
          refine wpAnyH_take (i := 17) (oi := ⟨_, _, _, _, _, _⟩) (v := bxVal b0 b1 b2 b3) rfl (by kernel_rfl) (by kernel_rfl) (by kernel_rfl) (fun _ _ _ h => h) (yl_box (by rfl) _ rfl _ 0 rfl _ _ _ _ _ _ _ _ _ _ _ _ _ _ _ _ (fun _ h => BxIn.cells h.1)) (by assumption) ?_
          simp only [Act.put, List.setIfInBounds_toArray, List.set_cons_zero, List.set_cons_succ]
          refine held_call (o := ⟨_, _, _, _, _, _⟩) 13 (by kernel_rfl) rfl (by rfl) 19 _ _ rfl #[] rfl (run_call Try.func19 (by kernel_rfl) (by kernel_rfl)) ?_
          refine (P.all _).mono ?_
          rintro r v15 ⟨⟨u1, rfl, HG⟩, kb⟩
          replace D := D.trans (kb.mono D.size)
          replace HS := HS.on kb
          replace IS := IS.on kb
          replace IE := IE.on kb
          replace HB := HB.on kb
          replace IB := IB.on kb
          clear kb
          clear hHeld
          obtain ⟨g0, g1, g2, g3, rfl, -⟩ := HG.scs
          refine ⟨bxVal g0 g1 g2 g3, rfl, ⟨IB, IE, IS⟩, fun hHeld => ?_⟩
          simp only [Act.put, List.setIfInBounds_toArray, List.set_cons_zero, List.set_cons_succ]
          refine held_call (o := ⟨_, _, _, _, _, _⟩) 16 (by kernel_rfl) rfl (by rfl) 15 _ _ rfl #[bxVal g0 g1 g2 g3, .int .i64 1, SC.val t] rfl (run_call Try.func15 (by kernel_rfl) (by kernel_rfl)) ?_
          refine (P.with_ _ allBx 1 _ s _ (by omega) (by omega) HG allFew.fit HS FS).mono ?_
          rintro r v16 ⟨⟨u1, rfl, HD⟩, kb⟩
          replace D := D.trans (kb.mono D.size)
          replace HS := HS.on kb
          replace IS := IS.on kb
          replace IE := IE.on kb
          replace HB := HB.on kb
          replace IB := IB.on kb
          replace HG := HG.on kb
          clear kb
          clear hHeld
          replace HD : BoxAt _ _ (allBx.put 1 s) := HD
          obtain ⟨d0, d1, d2, d3, rfl, -⟩ := HD.scs
          clear HG
          refine ⟨bxVal d0 d1 d2 d3, rfl, ⟨IB, IE, IS⟩, fun hHeld => ?_⟩
          simp only [Act.put, List.setIfInBounds_toArray, List.set_cons_zero, List.set_cons_succ]
          refine held_call (o := ⟨_, _, _, _, _, _⟩) 18 (by kernel_rfl) rfl (by rfl) 20 _ _ rfl #[bxVal d0 d1 d2 d3, bxVal b0 b1 b2 b3] rfl (run_call Try.func20 (by kernel_rfl) (by kernel_rfl)) ?_
          refine (P.same _ _ _ _ _ HD HB FB.fit FB.fit).mono ?_
          rintro r v17 ⟨rfl, kb⟩
          replace D := D.trans (kb.mono D.size)
          replace HS := HS.on kb
          replace IS := IS.on kb
          replace IE := IE.on kb
          replace HB := HB.on kb
          replace IB := IB.on kb
          replace HD := HD.on kb
          clear kb
          clear hHeld
          clear HD
          refine ⟨.bool true, ret_bool (sameBx_refl _), ⟨IB, IE, IS⟩, fun hHeld => ?_⟩
          simp only [Act.put, List.setIfInBounds_toArray, List.set_cons_zero, List.set_cons_succ]
          refine wpAnyH_take (i := 19) (oi := ⟨_, _, _, _, _, _⟩) (v := .bool true) rfl (by kernel_rfl) (by kernel_rfl) (by kernel_rfl) (fun _ _ _ h => h) (yl_pickT (by rfl) _ _ _ rfl rfl _ rfl) (by assumption) ?_
          simp only [Act.put, List.setIfInBounds_toArray, List.set_cons_zero, List.set_cons_succ]
          refine wpAnyH_take (i := 20) (oi := ⟨_, _, _, _, _, _⟩) (v := .bool true) rfl (by kernel_rfl) (by kernel_rfl) (by kernel_rfl) (fun _ _ _ h => h) (yl_assign (by rfl) _ rfl _ rfl) (by assumption) ?_
          simp only [Act.put, List.setIfInBounds_toArray, List.set_cons_zero, List.set_cons_succ]
          refine wpAnyH_done (by kernel_rfl) ?_ _
          clear hHeld
          refine hK8 _ _ ?_
          clear hK8 K8
          refine wp_ret ?_
          go_ret
          exact ⟨rfl, D⟩
set_option maxHeartbeats 8000000 in
set_option maxRecDepth 100000 in
theorem atoms_2 (P : BoxProg) (u : Value) (s : SetV) (e : EvV) (w : World) (HS : SetAt w u s) (hf : evFit e) (he : inE e) :
    Calls Try.prog 5 #[.int .i64 2, u, evVal e] w fun r w' => r = .returned (.bool true) ∧ Below w.heap.size w w' := by
  obtain ⟨t, rfl⟩ := HS.sc
  have D := Below.refl w.heap.size w
  go_enter Try.func5, Try.ntmps5
  refine wp_seq_k (fun K1 hK1 => ?_)
  refine wp_region_lit ?_
  refine wl_boxSt (o := ⟨_, _, _, _, _, _⟩) (by rfl) _ rfl rfl (fun v1 gb1 IS kb => ?_)
  simp only [Act.put, List.setIfInBounds_toArray, List.set_cons_zero, List.set_cons_succ]
  replace D := D.trans (kb.mono D.size)
  replace HS := HS.on kb
  clear kb
  refine wl_boxEv (o := ⟨_, _, _, _, _, _⟩) (by rfl) _ rfl rfl (fun v2 gb2 IE kb => ?_)
  simp only [Act.put, List.setIfInBounds_toArray, List.set_cons_zero, List.set_cons_succ]
  replace D := D.trans (kb.mono D.size)
  replace HS := HS.on kb
  replace IS := IS.on kb
  clear kb
  refine wl_yield (o := ⟨_, _, _, _, _, _⟩) (.bool false) (yl_assign (by rfl) _ rfl _ rfl) ?_
  simp only [Act.put, List.setIfInBounds_toArray, List.set_cons_zero, List.set_cons_succ]
  refine wpList_nil ?_
  refine hK1 _ _ ?_
  clear hK1 K1
  refine wp_seq_k (fun K2 hK2 => ?_)
  refine wp_seq_k (fun K3 hK3 => ?_)
  refine wp_region_lit ?_
  refine wl_call (o := ⟨_, _, _, _, _, _⟩) (by rfl) 7 _ _ rfl #[] rfl (run_call Try.func7 (by kernel_rfl) (by kernel_rfl)) ?_
  refine (awake4_any P _).mono ?_
  rintro r v3 ⟨rfl, kb⟩
  replace D := D.trans (kb.mono D.size)
  replace HS := HS.on kb
  replace IS := IS.on kb
  replace IE := IE.on kb
  clear kb
  refine ⟨.bool true, rfl, ?_⟩
  simp only [Act.put, List.setIfInBounds_toArray, List.set_cons_zero, List.set_cons_succ]
  refine wl_yield (o := ⟨_, _, _, _, _, _⟩) (.bool false) (yl_not (by rfl) _ _ rfl true rfl) ?_
  simp only [Act.put, List.setIfInBounds_toArray, List.set_cons_zero, List.set_cons_succ]
  refine wl_yield (o := ⟨_, _, _, _, _, _⟩) (.bool false) (yl_move (by rfl) _ rfl _ rfl) ?_
  simp only [Act.put, List.setIfInBounds_toArray, List.set_cons_zero, List.set_cons_succ]
  refine wl_yield (o := ⟨_, _, _, _, _, _⟩) (SC.val t) (yl_set (by rfl) _ rfl _ 0 rfl _ _ _ _ (fun _ h => by subst h; exact StIn.cells IS)) ?_
  simp only [Act.put, List.setIfInBounds_toArray, List.set_cons_zero, List.set_cons_succ]
  refine wl_rowSt1 (o := ⟨_, _, _, _, _, _⟩) (by rfl) _ rfl rfl HS (fun v4 y4 HY kb => ?_)
  simp only [Act.put, List.setIfInBounds_toArray, List.set_cons_zero, List.set_cons_succ]
  replace D := D.trans (kb.mono D.size)
  replace HS := HS.on kb
  replace IS := IS.on kb
  replace IE := IE.on kb
  clear kb
  refine wl_call (o := ⟨_, _, _, _, _, _⟩) (by rfl) 13 _ _ rfl #[y4] rfl (run_call Try.func13 (by kernel_rfl) (by kernel_rfl)) ?_
  refine (refFew_below HY).mono ?_
  rintro r v5 ⟨rfl, kb⟩
  replace D := D.trans (kb.mono D.size)
  replace HS := HS.on kb
  replace IS := IS.on kb
  replace IE := IE.on kb
  clear kb
  cases hF : [s].all fewB
  · refine ⟨.bool false, rfl, ?_⟩
    simp only [Act.put, List.setIfInBounds_toArray, List.set_cons_zero, List.set_cons_succ]
    refine wl_yield (o := ⟨_, _, _, _, _, _⟩) (.bool true) (yl_not (by rfl) _ _ rfl false rfl) ?_
    simp only [Act.put, List.setIfInBounds_toArray, List.set_cons_zero, List.set_cons_succ]
    refine wl_yield (o := ⟨_, _, _, _, _, _⟩) (.bool true) (yl_pickF (by rfl) _ _ _ rfl rfl _ rfl) ?_
    simp only [Act.put, List.setIfInBounds_toArray, List.set_cons_zero, List.set_cons_succ]
    refine wl_yield (o := ⟨_, _, _, _, _, _⟩) (.bool true) (yl_move (by rfl) _ rfl _ rfl) ?_
    simp only [Act.put, List.setIfInBounds_toArray, List.set_cons_zero, List.set_cons_succ]
    refine wl_yield (o := ⟨_, _, _, _, _, _⟩) undef (yl_undef (by rfl)) ?_
    simp only [Act.put, List.setIfInBounds_toArray, List.set_cons_zero, List.set_cons_succ]
    refine wl_yield (o := ⟨_, _, _, _, _, _⟩) undef (yl_undef (by rfl)) ?_
    simp only [Act.put, List.setIfInBounds_toArray, List.set_cons_zero, List.set_cons_succ]
    refine wl_yield (o := ⟨_, _, _, _, _, _⟩) undef (yl_undef (by rfl)) ?_
    simp only [Act.put, List.setIfInBounds_toArray, List.set_cons_zero, List.set_cons_succ]
    refine wl_yield (o := ⟨_, _, _, _, _, _⟩) (.bool true) (yl_pickT (by rfl) _ _ _ rfl rfl _ rfl) ?_
    simp only [Act.put, List.setIfInBounds_toArray, List.set_cons_zero, List.set_cons_succ]
    refine wpList_nil ?_
    refine hK3 _ _ ?_
    clear hK3 K3
    refine wp_cond_true rfl ?_
    refine wp_seq_k (fun K4 hK4 => ?_)
    refine wp_region_lit ?_
    refine wl_call (o := ⟨_, _, _, _, _, _⟩) (by rfl) 7 _ _ rfl #[] rfl (run_call Try.func7 (by kernel_rfl) (by kernel_rfl)) ?_
    refine (awake4_any P _).mono ?_
    rintro r v6 ⟨rfl, kb⟩
    replace D := D.trans (kb.mono D.size)
    replace HS := HS.on kb
    replace IS := IS.on kb
    replace IE := IE.on kb
    clear kb
    refine ⟨.bool true, rfl, ?_⟩
    simp only [Act.put, List.setIfInBounds_toArray, List.set_cons_zero, List.set_cons_succ]
    refine wl_yield (o := ⟨_, _, _, _, _, _⟩) (.bool true) (yl_assign (by rfl) _ rfl _ rfl) ?_
    simp only [Act.put, List.setIfInBounds_toArray, List.set_cons_zero, List.set_cons_succ]
    refine wpList_nil ?_
    refine hK4 _ _ ?_
    clear hK4 K4
    refine wp_ret ?_
    go_ret
    exact ⟨rfl, D⟩
  · refine ⟨.bool true, rfl, ?_⟩
    simp only [Act.put, List.setIfInBounds_toArray, List.set_cons_zero, List.set_cons_succ]
    refine wl_yield (o := ⟨_, _, _, _, _, _⟩) (.bool false) (yl_not (by rfl) _ _ rfl true rfl) ?_
    simp only [Act.put, List.setIfInBounds_toArray, List.set_cons_zero, List.set_cons_succ]
    refine wl_yield (o := ⟨_, _, _, _, _, _⟩) (.bool false) (yl_pickF (by rfl) _ _ _ rfl rfl _ rfl) ?_
    simp only [Act.put, List.setIfInBounds_toArray, List.set_cons_zero, List.set_cons_succ]
    refine wl_yield (o := ⟨_, _, _, _, _, _⟩) (.bool false) (yl_move (by rfl) _ rfl _ rfl) ?_
    simp only [Act.put, List.setIfInBounds_toArray, List.set_cons_zero, List.set_cons_succ]
    refine wl_yield (o := ⟨_, _, _, _, _, _⟩) (SC.val t) (yl_set (by rfl) _ rfl _ 0 rfl _ _ _ _ (fun _ h => by subst h; exact StIn.cells IS)) ?_
    simp only [Act.put, List.setIfInBounds_toArray, List.set_cons_zero, List.set_cons_succ]
    refine wl_call (o := ⟨_, _, _, _, _, _⟩) (by rfl) 14 _ _ rfl #[SC.val t] rfl (run_call Try.func14 (by kernel_rfl) (by kernel_rfl)) ?_
    refine (refRightSet_any _ s _ HS).mono ?_
    rintro r v6 ⟨rfl, kb⟩
    replace D := D.trans (kb.mono D.size)
    replace HS := HS.on kb
    replace IS := IS.on kb
    replace IE := IE.on kb
    clear kb
    cases hR : rightSet s
    · refine ⟨.bool false, rfl, ?_⟩
      simp only [Act.put, List.setIfInBounds_toArray, List.set_cons_zero, List.set_cons_succ]
      refine wl_yield (o := ⟨_, _, _, _, _, _⟩) (.bool true) (yl_not (by rfl) _ _ rfl false rfl) ?_
      simp only [Act.put, List.setIfInBounds_toArray, List.set_cons_zero, List.set_cons_succ]
      refine wl_yield (o := ⟨_, _, _, _, _, _⟩) (.bool true) (yl_pickF (by rfl) _ _ _ rfl rfl _ rfl) ?_
      simp only [Act.put, List.setIfInBounds_toArray, List.set_cons_zero, List.set_cons_succ]
      refine wpList_nil ?_
      refine hK3 _ _ ?_
      clear hK3 K3
      refine wp_cond_true rfl ?_
      refine wp_seq_k (fun K4 hK4 => ?_)
      refine wp_region_lit ?_
      refine wl_call (o := ⟨_, _, _, _, _, _⟩) (by rfl) 7 _ _ rfl #[] rfl (run_call Try.func7 (by kernel_rfl) (by kernel_rfl)) ?_
      refine (awake4_any P _).mono ?_
      rintro r v7 ⟨rfl, kb⟩
      replace D := D.trans (kb.mono D.size)
      replace HS := HS.on kb
      replace IS := IS.on kb
      replace IE := IE.on kb
      clear kb
      refine ⟨.bool true, rfl, ?_⟩
      simp only [Act.put, List.setIfInBounds_toArray, List.set_cons_zero, List.set_cons_succ]
      refine wl_yield (o := ⟨_, _, _, _, _, _⟩) (.bool true) (yl_assign (by rfl) _ rfl _ rfl) ?_
      simp only [Act.put, List.setIfInBounds_toArray, List.set_cons_zero, List.set_cons_succ]
      refine wpList_nil ?_
      refine hK4 _ _ ?_
      clear hK4 K4
      refine wp_ret ?_
      go_ret
      exact ⟨rfl, D⟩
    · refine ⟨.bool true, rfl, ?_⟩
      simp only [Act.put, List.setIfInBounds_toArray, List.set_cons_zero, List.set_cons_succ]
      refine wl_yield (o := ⟨_, _, _, _, _, _⟩) (.bool false) (yl_not (by rfl) _ _ rfl true rfl) ?_
      simp only [Act.put, List.setIfInBounds_toArray, List.set_cons_zero, List.set_cons_succ]
      refine wl_yield (o := ⟨_, _, _, _, _, _⟩) (.bool false) (yl_pickF (by rfl) _ _ _ rfl rfl _ rfl) ?_
      simp only [Act.put, List.setIfInBounds_toArray, List.set_cons_zero, List.set_cons_succ]
      refine wpList_nil ?_
      refine hK3 _ _ ?_
      clear hK3 K3
      refine wp_cond_false rfl ?_
      refine wp_skip ?_
      refine hK2 _ _ ?_
      clear hK2 K2
      have hG : Good s := ⟨hR, HS.i64⟩
      have hL := few_len (few1 hF)
      have FS : Fit s := ⟨hG, by omega, by omega⟩
      have FB : FewB (allBx.put 2 s) := put_few allFew (by omega) hG hL.1 hL.2
      refine wp_seq_k (fun K4 hK4 => ?_)
      refine wp_region_lit ?_
      refine wl_yield (o := ⟨_, _, _, _, _, _⟩) (.int .i64 2) (yl_move (by rfl) _ rfl _ rfl) ?_
      simp only [Act.put, List.setIfInBounds_toArray, List.set_cons_zero, List.set_cons_succ]
      refine wl_yield (o := ⟨_, _, _, _, _, _⟩) (SC.val t) (yl_set (by rfl) _ rfl _ 0 rfl _ _ _ _ (fun _ h => by subst h; exact StIn.cells IS)) ?_
      simp only [Act.put, List.setIfInBounds_toArray, List.set_cons_zero, List.set_cons_succ]
      refine wl_call (o := ⟨_, _, _, _, _, _⟩) (by rfl) 18 _ _ rfl #[.int .i64 2, SC.val t] rfl (run_call Try.func18 (by kernel_rfl) (by kernel_rfl)) ?_
      refine (P.atom (2) _ s _ (by omega) (by omega) HS FS).mono ?_
      rintro r v7 ⟨⟨u1, rfl, HB⟩, kb⟩
      replace D := D.trans (kb.mono D.size)
      replace HS := HS.on kb
      replace IS := IS.on kb
      replace IE := IE.on kb
      clear kb
      replace HB : BoxAt _ _ (allBx.put 2 s) := HB
      obtain ⟨b0, b1, b2, b3, rfl, -⟩ := HB.scs
      refine ⟨bxVal b0 b1 b2 b3, rfl, ?_⟩
      simp only [Act.put, List.setIfInBounds_toArray, List.set_cons_zero, List.set_cons_succ]
      refine wl_newBx (o := ⟨_, _, _, _, _, _⟩) (o2 := ⟨_, _, _, _, _, _⟩) (by rfl) rfl _ _ rfl (fun _ => rfl) (fun _ => rfl) (fun _ => by rfl) (fun v8 gb8 IB kb => ?_)
      simp only [Act.put, List.setIfInBounds_toArray, List.set_cons_zero, List.set_cons_succ]
      replace D := D.trans (kb.mono D.size)
      replace HS := HS.on kb
      replace IS := IS.on kb
      replace IE := IE.on kb
      replace HB := HB.on kb
      clear kb
      refine wpList_nil ?_
      refine hK4 _ _ ?_
      clear hK4 K4
      refine wp_seq_k (fun K5 hK5 => ?_)
      cases hok : hasE allBx e
      · refine wp_region_held_drew (S := fun w' => EvIn w' gb2 e) (by kernel_rfl) IE (fun hHeld => ?_)
        have kb : Below v8.heap.size v8 v8.drew := (Below.refl _ v8).drew
        replace D := D.trans (kb.mono D.size)
        replace HS := HS.on kb
        replace IS := IS.on kb
        replace IE := IE.on kb
        replace HB := HB.on kb
        replace IB := IB.on kb
        clear kb
        generalize v8.drew = v9 at D hHeld HS IS IE HB IB ⊢
        refine wpAnyH_take (i := 1) (oi := ⟨_, _, _, _, _, _⟩) (v := evVal e) rfl (by kernel_rfl) (by kernel_rfl) (by kernel_rfl) (fun _ _ _ h => h) (yl_ev (by rfl) _ rfl _ 0 rfl _ _ _ _ _ _ _ _ _ _ _ _ (fun _ h => EvIn.cells h)) (by assumption) ?_
        simp only [Act.put, List.setIfInBounds_toArray, List.set_cons_zero, List.set_cons_succ]
        refine held_call (o := ⟨_, _, _, _, _, _⟩) 0 (by kernel_rfl) rfl (by rfl) 19 _ _ rfl #[] rfl (run_call Try.func19 (by kernel_rfl) (by kernel_rfl)) ?_
        refine (P.all _).mono ?_
        rintro r v10 ⟨⟨u1, rfl, HG⟩, kb⟩
        replace D := D.trans (kb.mono D.size)
        replace HS := HS.on kb
        replace IS := IS.on kb
        replace IE := IE.on kb
        replace HB := HB.on kb
        replace IB := IB.on kb
        clear kb
        clear hHeld
        obtain ⟨g0, g1, g2, g3, rfl, -⟩ := HG.scs
        refine ⟨bxVal g0 g1 g2 g3, rfl, IE, fun hHeld => ?_⟩
        simp only [Act.put, List.setIfInBounds_toArray, List.set_cons_zero, List.set_cons_succ]
        refine held_call (o := ⟨_, _, _, _, _, _⟩) 2 (by kernel_rfl) rfl (by rfl) 11 _ _ rfl #[bxVal g0 g1 g2 g3, evVal e] rfl (run_call Try.func11 (by kernel_rfl) (by kernel_rfl)) ?_
        refine (refHasBx_any _ _ e _ HG hf).mono ?_
        rintro r v11 ⟨rfl, kb⟩
        replace D := D.trans (kb.mono D.size)
        replace HS := HS.on kb
        replace IS := IS.on kb
        replace IE := IE.on kb
        replace HB := HB.on kb
        replace IB := IB.on kb
        replace HG := HG.on kb
        clear kb
        clear hHeld
        clear HG
        refine ⟨.bool false, ret_bool hok, IE, fun hHeld => ?_⟩
        simp only [Act.put, List.setIfInBounds_toArray, List.set_cons_zero, List.set_cons_succ]
        refine wpAnyH_take (i := 3) (oi := ⟨_, _, _, _, _, _⟩) (v := .bool false) rfl (by kernel_rfl) (by kernel_rfl) (by kernel_rfl) (fun _ _ _ h => h) (yl_assign (by rfl) _ rfl _ rfl) (by assumption) ?_
        simp only [Act.put, List.setIfInBounds_toArray, List.set_cons_zero, List.set_cons_succ]
        refine wpAnyH_done (by kernel_rfl) ?_ _
        clear hHeld
        refine hK5 _ _ ?_
        clear hK5 K5
        refine wp_seq_k (fun K6 hK6 => ?_)
        refine wp_seq_k (fun K7 hK7 => ?_)
        refine wp_region_lit ?_
        refine wl_yield (o := ⟨_, _, _, _, _, _⟩) (.int .i64 2) (yl_move (by rfl) _ rfl _ rfl) ?_
        simp only [Act.put, List.setIfInBounds_toArray, List.set_cons_zero, List.set_cons_succ]
        refine wl_yield (o := ⟨_, _, _, _, _, _⟩) (.bool false) (yl_lssI (by rfl) _ _ _ rfl (2) (0) false rfl rfl (by decide)) ?_
        simp only [Act.put, List.setIfInBounds_toArray, List.set_cons_zero, List.set_cons_succ]
        refine wl_yield (o := ⟨_, _, _, _, _, _⟩) (.bool false) (yl_move (by rfl) _ rfl _ rfl) ?_
        simp only [Act.put, List.setIfInBounds_toArray, List.set_cons_zero, List.set_cons_succ]
        refine wl_yield (o := ⟨_, _, _, _, _, _⟩) (.int .i64 2) (yl_move (by rfl) _ rfl _ rfl) ?_
        simp only [Act.put, List.setIfInBounds_toArray, List.set_cons_zero, List.set_cons_succ]
        refine wl_yield (o := ⟨_, _, _, _, _, _⟩) (.bool false) (yl_gtrI (by rfl) _ _ _ rfl (2) (3) false rfl rfl (by decide)) ?_
        simp only [Act.put, List.setIfInBounds_toArray, List.set_cons_zero, List.set_cons_succ]
        refine wl_yield (o := ⟨_, _, _, _, _, _⟩) (.bool false) (yl_pickF (by rfl) _ _ _ rfl rfl _ rfl) ?_
        simp only [Act.put, List.setIfInBounds_toArray, List.set_cons_zero, List.set_cons_succ]
        refine wpList_nil ?_
        refine hK7 _ _ ?_
        clear hK7 K7
        refine wp_cond_false rfl ?_
        refine wp_skip ?_
        refine hK6 _ _ ?_
        clear hK6 K6
        refine wp_seq_k (fun K8 hK8 => ?_)
        have hat : hasE (allBx.put 2 s) e = (hasE allBx e && hasP s e.v2) := atom_has (s := s) (i := 2) (by omega) he
        replace hat : hasE (allBx.put 2 s) e = false := by rw [hat, hok, Bool.false_and]
        refine wp_region_held_drew (S := fun w' => BxIn w' gb8 b0 b1 b2 b3 ∧ EvIn w' gb2 e ∧ StIn w' gb1 t) (by kernel_rfl) ⟨IB, IE, IS⟩ (fun hHeld => ?_)
        have kb : Below v11.heap.size v11 v11.drew := (Below.refl _ v11).drew
        replace D := D.trans (kb.mono D.size)
        replace HS := HS.on kb
        replace IS := IS.on kb
        replace IE := IE.on kb
        replace HB := HB.on kb
        replace IB := IB.on kb
        clear kb
        generalize v11.drew = v12 at D hHeld HS IS IE HB IB ⊢
        refine wpAnyH_take (i := 0) (oi := ⟨_, _, _, _, _, _⟩) (v := bxVal b0 b1 b2 b3) rfl (by kernel_rfl) (by kernel_rfl) (by kernel_rfl) (fun _ _ _ h => h) (yl_box (by rfl) _ rfl _ 0 rfl _ _ _ _ _ _ _ _ _ _ _ _ _ _ _ _ (fun _ h => BxIn.cells h.1)) (by assumption) ?_
        simp only [Act.put, List.setIfInBounds_toArray, List.set_cons_zero, List.set_cons_succ]
        refine wpAnyH_take (i := 1) (oi := ⟨_, _, _, _, _, _⟩) (v := evVal e) rfl (by kernel_rfl) (by kernel_rfl) (by kernel_rfl) (fun _ _ _ h => h) (yl_ev (by rfl) _ rfl _ 0 rfl _ _ _ _ _ _ _ _ _ _ _ _ (fun _ h => EvIn.cells h.2.1)) (by assumption) ?_
        simp only [Act.put, List.setIfInBounds_toArray, List.set_cons_zero, List.set_cons_succ]
        refine wpAnyH_take (i := 3) (oi := ⟨_, _, _, _, _, _⟩) (v := .bool false) rfl (by kernel_rfl) (by kernel_rfl) (by kernel_rfl) (fun _ _ _ h => h) (yl_move (by rfl) _ rfl _ rfl) (by assumption) ?_
        simp only [Act.put, List.setIfInBounds_toArray, List.set_cons_zero, List.set_cons_succ]
        refine held_call (o := ⟨_, _, _, _, _, _⟩) 2 (by kernel_rfl) rfl (by rfl) 21 _ _ rfl #[bxVal b0 b1 b2 b3, evVal e] rfl (run_call Try.func21 (by kernel_rfl) (by kernel_rfl)) ?_
        refine (P.has _ _ e _ HB FB.fit hf he).mono ?_
        rintro r v13 ⟨rfl, kb⟩
        replace D := D.trans (kb.mono D.size)
        replace HS := HS.on kb
        replace IS := IS.on kb
        replace IE := IE.on kb
        replace HB := HB.on kb
        replace IB := IB.on kb
        clear kb
        clear hHeld
        refine ⟨.bool false, ret_bool hat, ⟨IB, IE, IS⟩, fun hHeld => ?_⟩
        simp only [Act.put, List.setIfInBounds_toArray, List.set_cons_zero, List.set_cons_succ]
        refine wpAnyH_take (i := 4) (oi := ⟨_, _, _, _, _, _⟩) (v := .bool false) rfl (by kernel_rfl) (by kernel_rfl) (by kernel_rfl) (fun _ _ _ h => h) (yl_move (by rfl) _ rfl _ rfl) (by assumption) ?_
        simp only [Act.put, List.setIfInBounds_toArray, List.set_cons_zero, List.set_cons_succ]
        refine wpAnyH_take (i := 5) (oi := ⟨_, _, _, _, _, _⟩) (v := undef) rfl (by kernel_rfl) (by kernel_rfl) (by kernel_rfl) (fun _ _ _ h => h) (yl_undef (by rfl)) (by assumption) ?_
        simp only [Act.put, List.setIfInBounds_toArray, List.set_cons_zero, List.set_cons_succ]
        refine wpAnyH_take (i := 6) (oi := ⟨_, _, _, _, _, _⟩) (v := undef) rfl (by kernel_rfl) (by kernel_rfl) (by kernel_rfl) (fun _ _ _ h => h) (yl_undef (by rfl)) (by assumption) ?_
        simp only [Act.put, List.setIfInBounds_toArray, List.set_cons_zero, List.set_cons_succ]
        refine wpAnyH_take (i := 7) (oi := ⟨_, _, _, _, _, _⟩) (v := undef) rfl (by kernel_rfl) (by kernel_rfl) (by kernel_rfl) (fun _ _ _ h => h) (yl_undef (by rfl)) (by assumption) ?_
        simp only [Act.put, List.setIfInBounds_toArray, List.set_cons_zero, List.set_cons_succ]
        refine wpAnyH_take (i := 8) (oi := ⟨_, _, _, _, _, _⟩) (v := undef) rfl (by kernel_rfl) (by kernel_rfl) (by kernel_rfl) (fun _ _ _ h => h) (yl_undef (by rfl)) (by assumption) ?_
        simp only [Act.put, List.setIfInBounds_toArray, List.set_cons_zero, List.set_cons_succ]
        refine wpAnyH_take (i := 9) (oi := ⟨_, _, _, _, _, _⟩) (v := undef) rfl (by kernel_rfl) (by kernel_rfl) (by kernel_rfl) (fun _ _ _ h => h) (yl_undef (by rfl)) (by assumption) ?_
        simp only [Act.put, List.setIfInBounds_toArray, List.set_cons_zero, List.set_cons_succ]
        refine wpAnyH_take (i := 10) (oi := ⟨_, _, _, _, _, _⟩) (v := .bool false) rfl (by kernel_rfl) (by kernel_rfl) (by kernel_rfl) (fun _ _ _ h => h) (yl_pickF (by rfl) _ _ _ rfl rfl _ rfl) (by assumption) ?_
        simp only [Act.put, List.setIfInBounds_toArray, List.set_cons_zero, List.set_cons_succ]
        refine wpAnyH_take (i := 11) (oi := ⟨_, _, _, _, _, _⟩) (v := .bool true) rfl (by kernel_rfl) (by kernel_rfl) (by kernel_rfl) (fun _ _ _ h => h) (yl_eqB (by rfl) _ _ _ rfl false false rfl rfl) (by assumption) ?_
        simp only [Act.put, List.setIfInBounds_toArray, List.set_cons_zero, List.set_cons_succ]
        refine wpAnyH_take (i := 12) (oi := ⟨_, _, _, _, _, _⟩) (v := .bool true) rfl (by kernel_rfl) (by kernel_rfl) (by kernel_rfl) (fun _ _ _ h => h) (yl_move (by rfl) _ rfl _ rfl) (by assumption) ?_
        simp only [Act.put, List.setIfInBounds_toArray, List.set_cons_zero, List.set_cons_succ]
        refine wpAnyH_take (i := 14) (oi := ⟨_, _, _, _, _, _⟩) (v := .int .i64 2) rfl (by kernel_rfl) (by kernel_rfl) (by kernel_rfl) (fun _ _ _ h => h) (yl_move (by rfl) _ rfl _ rfl) (by assumption) ?_
        simp only [Act.put, List.setIfInBounds_toArray, List.set_cons_zero, List.set_cons_succ]
        refine wpAnyH_take (i := 15) (oi := ⟨_, _, _, _, _, _⟩) (v := SC.val t) rfl (by kernel_rfl) (by kernel_rfl) (by kernel_rfl) (fun _ _ _ h => h) (yl_set (by rfl) _ rfl _ 0 rfl _ _ _ _ (fun _ h => StIn.cells h.2.2)) (by assumption) ?_
        simp only [Act.put, List.setIfInBounds_toArray, List.set_cons_zero, List.set_cons_succ]
        refine wpAnyH_take (i := 17) (oi := ⟨_, _, _, _, _, _⟩) (v := bxVal b0 b1 b2 b3) rfl (by kernel_rfl) (by kernel_rfl) (by kernel_rfl) (fun _ _ _ h => h) (yl_box (by rfl) _ rfl _ 0 rfl _ _ _ _ _ _ _ _ _ _ _ _ _ _ _ _ (fun _ h => BxIn.cells h.1)) (by assumption) ?_
        simp only [Act.put, List.setIfInBounds_toArray, List.set_cons_zero, List.set_cons_succ]
        refine held_call (o := ⟨_, _, _, _, _, _⟩) 13 (by kernel_rfl) rfl (by rfl) 19 _ _ rfl #[] rfl (run_call Try.func19 (by kernel_rfl) (by kernel_rfl)) ?_
        refine (P.all _).mono ?_
        rintro r v14 ⟨⟨u1, rfl, HG⟩, kb⟩
        replace D := D.trans (kb.mono D.size)
        replace HS := HS.on kb
        replace IS := IS.on kb
        replace IE := IE.on kb
        replace HB := HB.on kb
        replace IB := IB.on kb
        clear kb
        clear hHeld
        obtain ⟨g0, g1, g2, g3, rfl, -⟩ := HG.scs
        refine ⟨bxVal g0 g1 g2 g3, rfl, ⟨IB, IE, IS⟩, fun hHeld => ?_⟩
        simp only [Act.put, List.setIfInBounds_toArray, List.set_cons_zero, List.set_cons_succ]
        refine held_call (o := ⟨_, _, _, _, _, _⟩) 16 (by kernel_rfl) rfl (by rfl) 15 _ _ rfl #[bxVal g0 g1 g2 g3, .int .i64 2, SC.val t] rfl (run_call Try.func15 (by kernel_rfl) (by kernel_rfl)) ?_
        refine (P.with_ _ allBx 2 _ s _ (by omega) (by omega) HG allFew.fit HS FS).mono ?_
        rintro r v15 ⟨⟨u1, rfl, HD⟩, kb⟩
        replace D := D.trans (kb.mono D.size)
        replace HS := HS.on kb
        replace IS := IS.on kb
        replace IE := IE.on kb
        replace HB := HB.on kb
        replace IB := IB.on kb
        replace HG := HG.on kb
        clear kb
        clear hHeld
        replace HD : BoxAt _ _ (allBx.put 2 s) := HD
        obtain ⟨d0, d1, d2, d3, rfl, -⟩ := HD.scs
        clear HG
        refine ⟨bxVal d0 d1 d2 d3, rfl, ⟨IB, IE, IS⟩, fun hHeld => ?_⟩
        simp only [Act.put, List.setIfInBounds_toArray, List.set_cons_zero, List.set_cons_succ]
        refine held_call (o := ⟨_, _, _, _, _, _⟩) 18 (by kernel_rfl) rfl (by rfl) 20 _ _ rfl #[bxVal d0 d1 d2 d3, bxVal b0 b1 b2 b3] rfl (run_call Try.func20 (by kernel_rfl) (by kernel_rfl)) ?_
        refine (P.same _ _ _ _ _ HD HB FB.fit FB.fit).mono ?_
        rintro r v16 ⟨rfl, kb⟩
        replace D := D.trans (kb.mono D.size)
        replace HS := HS.on kb
        replace IS := IS.on kb
        replace IE := IE.on kb
        replace HB := HB.on kb
        replace IB := IB.on kb
        replace HD := HD.on kb
        clear kb
        clear hHeld
        clear HD
        refine ⟨.bool true, ret_bool (sameBx_refl _), ⟨IB, IE, IS⟩, fun hHeld => ?_⟩
        simp only [Act.put, List.setIfInBounds_toArray, List.set_cons_zero, List.set_cons_succ]
        refine wpAnyH_take (i := 19) (oi := ⟨_, _, _, _, _, _⟩) (v := .bool true) rfl (by kernel_rfl) (by kernel_rfl) (by kernel_rfl) (fun _ _ _ h => h) (yl_pickT (by rfl) _ _ _ rfl rfl _ rfl) (by assumption) ?_
        simp only [Act.put, List.setIfInBounds_toArray, List.set_cons_zero, List.set_cons_succ]
        refine wpAnyH_take (i := 20) (oi := ⟨_, _, _, _, _, _⟩) (v := .bool true) rfl (by kernel_rfl) (by kernel_rfl) (by kernel_rfl) (fun _ _ _ h => h) (yl_assign (by rfl) _ rfl _ rfl) (by assumption) ?_
        simp only [Act.put, List.setIfInBounds_toArray, List.set_cons_zero, List.set_cons_succ]
        refine wpAnyH_done (by kernel_rfl) ?_ _
        clear hHeld
        refine hK8 _ _ ?_
        clear hK8 K8
        refine wp_ret ?_
        go_ret
        exact ⟨rfl, D⟩
      · refine wp_region_held_drew (S := fun w' => EvIn w' gb2 e) (by kernel_rfl) IE (fun hHeld => ?_)
        have kb : Below v8.heap.size v8 v8.drew := (Below.refl _ v8).drew
        replace D := D.trans (kb.mono D.size)
        replace HS := HS.on kb
        replace IS := IS.on kb
        replace IE := IE.on kb
        replace HB := HB.on kb
        replace IB := IB.on kb
        clear kb
        generalize v8.drew = v9 at D hHeld HS IS IE HB IB ⊢
        refine wpAnyH_take (i := 1) (oi := ⟨_, _, _, _, _, _⟩) (v := evVal e) rfl (by kernel_rfl) (by kernel_rfl) (by kernel_rfl) (fun _ _ _ h => h) (yl_ev (by rfl) _ rfl _ 0 rfl _ _ _ _ _ _ _ _ _ _ _ _ (fun _ h => EvIn.cells h)) (by assumption) ?_
        simp only [Act.put, List.setIfInBounds_toArray, List.set_cons_zero, List.set_cons_succ]
        refine held_call (o := ⟨_, _, _, _, _, _⟩) 0 (by kernel_rfl) rfl (by rfl) 19 _ _ rfl #[] rfl (run_call Try.func19 (by kernel_rfl) (by kernel_rfl)) ?_
        refine (P.all _).mono ?_
        rintro r v10 ⟨⟨u1, rfl, HG⟩, kb⟩
        replace D := D.trans (kb.mono D.size)
        replace HS := HS.on kb
        replace IS := IS.on kb
        replace IE := IE.on kb
        replace HB := HB.on kb
        replace IB := IB.on kb
        clear kb
        clear hHeld
        obtain ⟨g0, g1, g2, g3, rfl, -⟩ := HG.scs
        refine ⟨bxVal g0 g1 g2 g3, rfl, IE, fun hHeld => ?_⟩
        simp only [Act.put, List.setIfInBounds_toArray, List.set_cons_zero, List.set_cons_succ]
        refine held_call (o := ⟨_, _, _, _, _, _⟩) 2 (by kernel_rfl) rfl (by rfl) 11 _ _ rfl #[bxVal g0 g1 g2 g3, evVal e] rfl (run_call Try.func11 (by kernel_rfl) (by kernel_rfl)) ?_
        refine (refHasBx_any _ _ e _ HG hf).mono ?_
        rintro r v11 ⟨rfl, kb⟩
        replace D := D.trans (kb.mono D.size)
        replace HS := HS.on kb
        replace IS := IS.on kb
        replace IE := IE.on kb
        replace HB := HB.on kb
        replace IB := IB.on kb
        replace HG := HG.on kb
        clear kb
        clear hHeld
        clear HG
        refine ⟨.bool true, ret_bool hok, IE, fun hHeld => ?_⟩
        simp only [Act.put, List.setIfInBounds_toArray, List.set_cons_zero, List.set_cons_succ]
        refine wpAnyH_take (i := 3) (oi := ⟨_, _, _, _, _, _⟩) (v := .bool true) rfl (by kernel_rfl) (by kernel_rfl) (by kernel_rfl) (fun _ _ _ h => h) (yl_assign (by rfl) _ rfl _ rfl) (by assumption) ?_
        simp only [Act.put, List.setIfInBounds_toArray, List.set_cons_zero, List.set_cons_succ]
        refine wpAnyH_done (by kernel_rfl) ?_ _
        clear hHeld
        refine hK5 _ _ ?_
        clear hK5 K5
        refine wp_seq_k (fun K6 hK6 => ?_)
        refine wp_seq_k (fun K7 hK7 => ?_)
        refine wp_region_lit ?_
        refine wl_yield (o := ⟨_, _, _, _, _, _⟩) (.int .i64 2) (yl_move (by rfl) _ rfl _ rfl) ?_
        simp only [Act.put, List.setIfInBounds_toArray, List.set_cons_zero, List.set_cons_succ]
        refine wl_yield (o := ⟨_, _, _, _, _, _⟩) (.bool false) (yl_lssI (by rfl) _ _ _ rfl (2) (0) false rfl rfl (by decide)) ?_
        simp only [Act.put, List.setIfInBounds_toArray, List.set_cons_zero, List.set_cons_succ]
        refine wl_yield (o := ⟨_, _, _, _, _, _⟩) (.bool false) (yl_move (by rfl) _ rfl _ rfl) ?_
        simp only [Act.put, List.setIfInBounds_toArray, List.set_cons_zero, List.set_cons_succ]
        refine wl_yield (o := ⟨_, _, _, _, _, _⟩) (.int .i64 2) (yl_move (by rfl) _ rfl _ rfl) ?_
        simp only [Act.put, List.setIfInBounds_toArray, List.set_cons_zero, List.set_cons_succ]
        refine wl_yield (o := ⟨_, _, _, _, _, _⟩) (.bool false) (yl_gtrI (by rfl) _ _ _ rfl (2) (3) false rfl rfl (by decide)) ?_
        simp only [Act.put, List.setIfInBounds_toArray, List.set_cons_zero, List.set_cons_succ]
        refine wl_yield (o := ⟨_, _, _, _, _, _⟩) (.bool false) (yl_pickF (by rfl) _ _ _ rfl rfl _ rfl) ?_
        simp only [Act.put, List.setIfInBounds_toArray, List.set_cons_zero, List.set_cons_succ]
        refine wpList_nil ?_
        refine hK7 _ _ ?_
        clear hK7 K7
        refine wp_cond_false rfl ?_
        refine wp_skip ?_
        refine hK6 _ _ ?_
        clear hK6 K6
        refine wp_seq_k (fun K8 hK8 => ?_)
        have hat : hasE (allBx.put 2 s) e = (hasE allBx e && hasP s e.v2) := atom_has (s := s) (i := 2) (by omega) he
        rw [hok, Bool.true_and] at hat
        cases hp : hasP s e.v2
        · rw [hp] at hat
          refine wp_region_held_drew (S := fun w' => BxIn w' gb8 b0 b1 b2 b3 ∧ EvIn w' gb2 e ∧ StIn w' gb1 t) (by kernel_rfl) ⟨IB, IE, IS⟩ (fun hHeld => ?_)
          have kb : Below v11.heap.size v11 v11.drew := (Below.refl _ v11).drew
          replace D := D.trans (kb.mono D.size)
          replace HS := HS.on kb
          replace IS := IS.on kb
          replace IE := IE.on kb
          replace HB := HB.on kb
          replace IB := IB.on kb
          clear kb
          generalize v11.drew = v12 at D hHeld HS IS IE HB IB ⊢
          refine wpAnyH_take (i := 0) (oi := ⟨_, _, _, _, _, _⟩) (v := bxVal b0 b1 b2 b3) rfl (by kernel_rfl) (by kernel_rfl) (by kernel_rfl) (fun _ _ _ h => h) (yl_box (by rfl) _ rfl _ 0 rfl _ _ _ _ _ _ _ _ _ _ _ _ _ _ _ _ (fun _ h => BxIn.cells h.1)) (by assumption) ?_
          simp only [Act.put, List.setIfInBounds_toArray, List.set_cons_zero, List.set_cons_succ]
          refine wpAnyH_take (i := 1) (oi := ⟨_, _, _, _, _, _⟩) (v := evVal e) rfl (by kernel_rfl) (by kernel_rfl) (by kernel_rfl) (fun _ _ _ h => h) (yl_ev (by rfl) _ rfl _ 0 rfl _ _ _ _ _ _ _ _ _ _ _ _ (fun _ h => EvIn.cells h.2.1)) (by assumption) ?_
          simp only [Act.put, List.setIfInBounds_toArray, List.set_cons_zero, List.set_cons_succ]
          refine wpAnyH_take (i := 3) (oi := ⟨_, _, _, _, _, _⟩) (v := .bool true) rfl (by kernel_rfl) (by kernel_rfl) (by kernel_rfl) (fun _ _ _ h => h) (yl_move (by rfl) _ rfl _ rfl) (by assumption) ?_
          simp only [Act.put, List.setIfInBounds_toArray, List.set_cons_zero, List.set_cons_succ]
          refine held_call (o := ⟨_, _, _, _, _, _⟩) 2 (by kernel_rfl) rfl (by rfl) 21 _ _ rfl #[bxVal b0 b1 b2 b3, evVal e] rfl (run_call Try.func21 (by kernel_rfl) (by kernel_rfl)) ?_
          refine (P.has _ _ e _ HB FB.fit hf he).mono ?_
          rintro r v13 ⟨rfl, kb⟩
          replace D := D.trans (kb.mono D.size)
          replace HS := HS.on kb
          replace IS := IS.on kb
          replace IE := IE.on kb
          replace HB := HB.on kb
          replace IB := IB.on kb
          clear kb
          clear hHeld
          refine ⟨.bool false, ret_bool hat, ⟨IB, IE, IS⟩, fun hHeld => ?_⟩
          simp only [Act.put, List.setIfInBounds_toArray, List.set_cons_zero, List.set_cons_succ]
          refine wpAnyH_take (i := 4) (oi := ⟨_, _, _, _, _, _⟩) (v := .bool true) rfl (by kernel_rfl) (by kernel_rfl) (by kernel_rfl) (fun _ _ _ h => h) (yl_move (by rfl) _ rfl _ rfl) (by assumption) ?_
          simp only [Act.put, List.setIfInBounds_toArray, List.set_cons_zero, List.set_cons_succ]
          refine wpAnyH_take (i := 5) (oi := ⟨_, _, _, _, _, _⟩) (v := SC.val t) rfl (by kernel_rfl) (by kernel_rfl) (by kernel_rfl) (fun _ _ _ h => h) (yl_set (by rfl) _ rfl _ 0 rfl _ _ _ _ (fun _ h => StIn.cells h.2.2)) (by assumption) ?_
          simp only [Act.put, List.setIfInBounds_toArray, List.set_cons_zero, List.set_cons_succ]
          refine wpAnyH_take (i := 6) (oi := ⟨_, _, _, _, _, _⟩) (v := .int .i64 2) rfl (by kernel_rfl) (by kernel_rfl) (by kernel_rfl) (fun _ _ _ h => h) (yl_move (by rfl) _ rfl _ rfl) (by assumption) ?_
          simp only [Act.put, List.setIfInBounds_toArray, List.set_cons_zero, List.set_cons_succ]
          refine wpAnyH_take (i := 7) (oi := ⟨_, _, _, _, _, _⟩) (v := .pointer (some ⟨gb2, 6, none⟩)) rfl (by kernel_rfl) (by kernel_rfl) (by kernel_rfl) (fun _ _ _ h => h) (yl_atEv (by rfl) _ _ rfl _ 2 rfl rfl (by omega)) (by assumption) ?_
          simp only [Act.put, List.setIfInBounds_toArray, List.set_cons_zero, List.set_cons_succ]
          refine wpAnyH_take (i := 8) (oi := ⟨_, _, _, _, _, _⟩) (v := .agg #[.int .i64 e.v2.1, .int .i64 e.v2.2.1, .string e.v2.2.2]) rfl (by kernel_rfl) (by kernel_rfl) (by kernel_rfl) (fun _ _ _ h => h) (yl_val (by rfl) _ rfl _ 6 rfl _ _ _ (fun _ h => EvIn.at2 h.2.1)) (by assumption) ?_
          simp only [Act.put, List.setIfInBounds_toArray, List.set_cons_zero, List.set_cons_succ]
          refine held_call (o := ⟨_, _, _, _, _, _⟩) 9 (by kernel_rfl) rfl (by rfl) 22 _ _ rfl #[SC.val t, .agg #[.int .i64 e.v2.1, .int .i64 e.v2.2.1, .string e.v2.2.2]] rfl (run_call Try.func22 (by kernel_rfl) (by kernel_rfl)) ?_
          refine (refHas_any _ s e.v2.1 e.v2.2.1 e.v2.2.2 _ HS hf.2.2.1).mono ?_
          rintro r v14 ⟨rfl, kb⟩
          replace D := D.trans (kb.mono D.size)
          replace HS := HS.on kb
          replace IS := IS.on kb
          replace IE := IE.on kb
          replace HB := HB.on kb
          replace IB := IB.on kb
          clear kb
          clear hHeld
          refine ⟨.bool false, ret_bool hp, ⟨IB, IE, IS⟩, fun hHeld => ?_⟩
          simp only [Act.put, List.setIfInBounds_toArray, List.set_cons_zero, List.set_cons_succ]
          refine wpAnyH_take (i := 10) (oi := ⟨_, _, _, _, _, _⟩) (v := .bool false) rfl (by kernel_rfl) (by kernel_rfl) (by kernel_rfl) (fun _ _ _ h => h) (yl_pickT (by rfl) _ _ _ rfl rfl _ rfl) (by assumption) ?_
          simp only [Act.put, List.setIfInBounds_toArray, List.set_cons_zero, List.set_cons_succ]
          refine wpAnyH_take (i := 11) (oi := ⟨_, _, _, _, _, _⟩) (v := .bool true) rfl (by kernel_rfl) (by kernel_rfl) (by kernel_rfl) (fun _ _ _ h => h) (yl_eqB (by rfl) _ _ _ rfl false false rfl rfl) (by assumption) ?_
          simp only [Act.put, List.setIfInBounds_toArray, List.set_cons_zero, List.set_cons_succ]
          refine wpAnyH_take (i := 12) (oi := ⟨_, _, _, _, _, _⟩) (v := .bool true) rfl (by kernel_rfl) (by kernel_rfl) (by kernel_rfl) (fun _ _ _ h => h) (yl_move (by rfl) _ rfl _ rfl) (by assumption) ?_
          simp only [Act.put, List.setIfInBounds_toArray, List.set_cons_zero, List.set_cons_succ]
          refine wpAnyH_take (i := 14) (oi := ⟨_, _, _, _, _, _⟩) (v := .int .i64 2) rfl (by kernel_rfl) (by kernel_rfl) (by kernel_rfl) (fun _ _ _ h => h) (yl_move (by rfl) _ rfl _ rfl) (by assumption) ?_
          simp only [Act.put, List.setIfInBounds_toArray, List.set_cons_zero, List.set_cons_succ]
          refine wpAnyH_take (i := 15) (oi := ⟨_, _, _, _, _, _⟩) (v := SC.val t) rfl (by kernel_rfl) (by kernel_rfl) (by kernel_rfl) (fun _ _ _ h => h) (yl_set (by rfl) _ rfl _ 0 rfl _ _ _ _ (fun _ h => StIn.cells h.2.2)) (by assumption) ?_
          simp only [Act.put, List.setIfInBounds_toArray, List.set_cons_zero, List.set_cons_succ]
          refine wpAnyH_take (i := 17) (oi := ⟨_, _, _, _, _, _⟩) (v := bxVal b0 b1 b2 b3) rfl (by kernel_rfl) (by kernel_rfl) (by kernel_rfl) (fun _ _ _ h => h) (yl_box (by rfl) _ rfl _ 0 rfl _ _ _ _ _ _ _ _ _ _ _ _ _ _ _ _ (fun _ h => BxIn.cells h.1)) (by assumption) ?_
          simp only [Act.put, List.setIfInBounds_toArray, List.set_cons_zero, List.set_cons_succ]
          refine held_call (o := ⟨_, _, _, _, _, _⟩) 13 (by kernel_rfl) rfl (by rfl) 19 _ _ rfl #[] rfl (run_call Try.func19 (by kernel_rfl) (by kernel_rfl)) ?_
          refine (P.all _).mono ?_
          rintro r v15 ⟨⟨u1, rfl, HG⟩, kb⟩
          replace D := D.trans (kb.mono D.size)
          replace HS := HS.on kb
          replace IS := IS.on kb
          replace IE := IE.on kb
          replace HB := HB.on kb
          replace IB := IB.on kb
          clear kb
          clear hHeld
          obtain ⟨g0, g1, g2, g3, rfl, -⟩ := HG.scs
          refine ⟨bxVal g0 g1 g2 g3, rfl, ⟨IB, IE, IS⟩, fun hHeld => ?_⟩
          simp only [Act.put, List.setIfInBounds_toArray, List.set_cons_zero, List.set_cons_succ]
          refine held_call (o := ⟨_, _, _, _, _, _⟩) 16 (by kernel_rfl) rfl (by rfl) 15 _ _ rfl #[bxVal g0 g1 g2 g3, .int .i64 2, SC.val t] rfl (run_call Try.func15 (by kernel_rfl) (by kernel_rfl)) ?_
          refine (P.with_ _ allBx 2 _ s _ (by omega) (by omega) HG allFew.fit HS FS).mono ?_
          rintro r v16 ⟨⟨u1, rfl, HD⟩, kb⟩
          replace D := D.trans (kb.mono D.size)
          replace HS := HS.on kb
          replace IS := IS.on kb
          replace IE := IE.on kb
          replace HB := HB.on kb
          replace IB := IB.on kb
          replace HG := HG.on kb
          clear kb
          clear hHeld
          replace HD : BoxAt _ _ (allBx.put 2 s) := HD
          obtain ⟨d0, d1, d2, d3, rfl, -⟩ := HD.scs
          clear HG
          refine ⟨bxVal d0 d1 d2 d3, rfl, ⟨IB, IE, IS⟩, fun hHeld => ?_⟩
          simp only [Act.put, List.setIfInBounds_toArray, List.set_cons_zero, List.set_cons_succ]
          refine held_call (o := ⟨_, _, _, _, _, _⟩) 18 (by kernel_rfl) rfl (by rfl) 20 _ _ rfl #[bxVal d0 d1 d2 d3, bxVal b0 b1 b2 b3] rfl (run_call Try.func20 (by kernel_rfl) (by kernel_rfl)) ?_
          refine (P.same _ _ _ _ _ HD HB FB.fit FB.fit).mono ?_
          rintro r v17 ⟨rfl, kb⟩
          replace D := D.trans (kb.mono D.size)
          replace HS := HS.on kb
          replace IS := IS.on kb
          replace IE := IE.on kb
          replace HB := HB.on kb
          replace IB := IB.on kb
          replace HD := HD.on kb
          clear kb
          clear hHeld
          clear HD
          refine ⟨.bool true, ret_bool (sameBx_refl _), ⟨IB, IE, IS⟩, fun hHeld => ?_⟩
          simp only [Act.put, List.setIfInBounds_toArray, List.set_cons_zero, List.set_cons_succ]
          refine wpAnyH_take (i := 19) (oi := ⟨_, _, _, _, _, _⟩) (v := .bool true) rfl (by kernel_rfl) (by kernel_rfl) (by kernel_rfl) (fun _ _ _ h => h) (yl_pickT (by rfl) _ _ _ rfl rfl _ rfl) (by assumption) ?_
          simp only [Act.put, List.setIfInBounds_toArray, List.set_cons_zero, List.set_cons_succ]
          refine wpAnyH_take (i := 20) (oi := ⟨_, _, _, _, _, _⟩) (v := .bool true) rfl (by kernel_rfl) (by kernel_rfl) (by kernel_rfl) (fun _ _ _ h => h) (yl_assign (by rfl) _ rfl _ rfl) (by assumption) ?_
          simp only [Act.put, List.setIfInBounds_toArray, List.set_cons_zero, List.set_cons_succ]
          refine wpAnyH_done (by kernel_rfl) ?_ _
          clear hHeld
          refine hK8 _ _ ?_
          clear hK8 K8
          refine wp_ret ?_
          go_ret
          exact ⟨rfl, D⟩
        · rw [hp] at hat
          refine wp_region_held_drew (S := fun w' => BxIn w' gb8 b0 b1 b2 b3 ∧ EvIn w' gb2 e ∧ StIn w' gb1 t) (by kernel_rfl) ⟨IB, IE, IS⟩ (fun hHeld => ?_)
          have kb : Below v11.heap.size v11 v11.drew := (Below.refl _ v11).drew
          replace D := D.trans (kb.mono D.size)
          replace HS := HS.on kb
          replace IS := IS.on kb
          replace IE := IE.on kb
          replace HB := HB.on kb
          replace IB := IB.on kb
          clear kb
          generalize v11.drew = v12 at D hHeld HS IS IE HB IB ⊢
          refine wpAnyH_take (i := 0) (oi := ⟨_, _, _, _, _, _⟩) (v := bxVal b0 b1 b2 b3) rfl (by kernel_rfl) (by kernel_rfl) (by kernel_rfl) (fun _ _ _ h => h) (yl_box (by rfl) _ rfl _ 0 rfl _ _ _ _ _ _ _ _ _ _ _ _ _ _ _ _ (fun _ h => BxIn.cells h.1)) (by assumption) ?_
          simp only [Act.put, List.setIfInBounds_toArray, List.set_cons_zero, List.set_cons_succ]
          refine wpAnyH_take (i := 1) (oi := ⟨_, _, _, _, _, _⟩) (v := evVal e) rfl (by kernel_rfl) (by kernel_rfl) (by kernel_rfl) (fun _ _ _ h => h) (yl_ev (by rfl) _ rfl _ 0 rfl _ _ _ _ _ _ _ _ _ _ _ _ (fun _ h => EvIn.cells h.2.1)) (by assumption) ?_
          simp only [Act.put, List.setIfInBounds_toArray, List.set_cons_zero, List.set_cons_succ]
          refine wpAnyH_take (i := 3) (oi := ⟨_, _, _, _, _, _⟩) (v := .bool true) rfl (by kernel_rfl) (by kernel_rfl) (by kernel_rfl) (fun _ _ _ h => h) (yl_move (by rfl) _ rfl _ rfl) (by assumption) ?_
          simp only [Act.put, List.setIfInBounds_toArray, List.set_cons_zero, List.set_cons_succ]
          refine held_call (o := ⟨_, _, _, _, _, _⟩) 2 (by kernel_rfl) rfl (by rfl) 21 _ _ rfl #[bxVal b0 b1 b2 b3, evVal e] rfl (run_call Try.func21 (by kernel_rfl) (by kernel_rfl)) ?_
          refine (P.has _ _ e _ HB FB.fit hf he).mono ?_
          rintro r v13 ⟨rfl, kb⟩
          replace D := D.trans (kb.mono D.size)
          replace HS := HS.on kb
          replace IS := IS.on kb
          replace IE := IE.on kb
          replace HB := HB.on kb
          replace IB := IB.on kb
          clear kb
          clear hHeld
          refine ⟨.bool true, ret_bool hat, ⟨IB, IE, IS⟩, fun hHeld => ?_⟩
          simp only [Act.put, List.setIfInBounds_toArray, List.set_cons_zero, List.set_cons_succ]
          refine wpAnyH_take (i := 4) (oi := ⟨_, _, _, _, _, _⟩) (v := .bool true) rfl (by kernel_rfl) (by kernel_rfl) (by kernel_rfl) (fun _ _ _ h => h) (yl_move (by rfl) _ rfl _ rfl) (by assumption) ?_
          simp only [Act.put, List.setIfInBounds_toArray, List.set_cons_zero, List.set_cons_succ]
          refine wpAnyH_take (i := 5) (oi := ⟨_, _, _, _, _, _⟩) (v := SC.val t) rfl (by kernel_rfl) (by kernel_rfl) (by kernel_rfl) (fun _ _ _ h => h) (yl_set (by rfl) _ rfl _ 0 rfl _ _ _ _ (fun _ h => StIn.cells h.2.2)) (by assumption) ?_
          simp only [Act.put, List.setIfInBounds_toArray, List.set_cons_zero, List.set_cons_succ]
          refine wpAnyH_take (i := 6) (oi := ⟨_, _, _, _, _, _⟩) (v := .int .i64 2) rfl (by kernel_rfl) (by kernel_rfl) (by kernel_rfl) (fun _ _ _ h => h) (yl_move (by rfl) _ rfl _ rfl) (by assumption) ?_
          simp only [Act.put, List.setIfInBounds_toArray, List.set_cons_zero, List.set_cons_succ]
          refine wpAnyH_take (i := 7) (oi := ⟨_, _, _, _, _, _⟩) (v := .pointer (some ⟨gb2, 6, none⟩)) rfl (by kernel_rfl) (by kernel_rfl) (by kernel_rfl) (fun _ _ _ h => h) (yl_atEv (by rfl) _ _ rfl _ 2 rfl rfl (by omega)) (by assumption) ?_
          simp only [Act.put, List.setIfInBounds_toArray, List.set_cons_zero, List.set_cons_succ]
          refine wpAnyH_take (i := 8) (oi := ⟨_, _, _, _, _, _⟩) (v := .agg #[.int .i64 e.v2.1, .int .i64 e.v2.2.1, .string e.v2.2.2]) rfl (by kernel_rfl) (by kernel_rfl) (by kernel_rfl) (fun _ _ _ h => h) (yl_val (by rfl) _ rfl _ 6 rfl _ _ _ (fun _ h => EvIn.at2 h.2.1)) (by assumption) ?_
          simp only [Act.put, List.setIfInBounds_toArray, List.set_cons_zero, List.set_cons_succ]
          refine held_call (o := ⟨_, _, _, _, _, _⟩) 9 (by kernel_rfl) rfl (by rfl) 22 _ _ rfl #[SC.val t, .agg #[.int .i64 e.v2.1, .int .i64 e.v2.2.1, .string e.v2.2.2]] rfl (run_call Try.func22 (by kernel_rfl) (by kernel_rfl)) ?_
          refine (refHas_any _ s e.v2.1 e.v2.2.1 e.v2.2.2 _ HS hf.2.2.1).mono ?_
          rintro r v14 ⟨rfl, kb⟩
          replace D := D.trans (kb.mono D.size)
          replace HS := HS.on kb
          replace IS := IS.on kb
          replace IE := IE.on kb
          replace HB := HB.on kb
          replace IB := IB.on kb
          clear kb
          clear hHeld
          refine ⟨.bool true, ret_bool hp, ⟨IB, IE, IS⟩, fun hHeld => ?_⟩
          simp only [Act.put, List.setIfInBounds_toArray, List.set_cons_zero, List.set_cons_succ]
          refine wpAnyH_take (i := 10) (oi := ⟨_, _, _, _, _, _⟩) (v := .bool true) rfl (by kernel_rfl) (by kernel_rfl) (by kernel_rfl) (fun _ _ _ h => h) (yl_pickT (by rfl) _ _ _ rfl rfl _ rfl) (by assumption) ?_
          simp only [Act.put, List.setIfInBounds_toArray, List.set_cons_zero, List.set_cons_succ]
          refine wpAnyH_take (i := 11) (oi := ⟨_, _, _, _, _, _⟩) (v := .bool true) rfl (by kernel_rfl) (by kernel_rfl) (by kernel_rfl) (fun _ _ _ h => h) (yl_eqB (by rfl) _ _ _ rfl true true rfl rfl) (by assumption) ?_
          simp only [Act.put, List.setIfInBounds_toArray, List.set_cons_zero, List.set_cons_succ]
          refine wpAnyH_take (i := 12) (oi := ⟨_, _, _, _, _, _⟩) (v := .bool true) rfl (by kernel_rfl) (by kernel_rfl) (by kernel_rfl) (fun _ _ _ h => h) (yl_move (by rfl) _ rfl _ rfl) (by assumption) ?_
          simp only [Act.put, List.setIfInBounds_toArray, List.set_cons_zero, List.set_cons_succ]
          refine wpAnyH_take (i := 14) (oi := ⟨_, _, _, _, _, _⟩) (v := .int .i64 2) rfl (by kernel_rfl) (by kernel_rfl) (by kernel_rfl) (fun _ _ _ h => h) (yl_move (by rfl) _ rfl _ rfl) (by assumption) ?_
          simp only [Act.put, List.setIfInBounds_toArray, List.set_cons_zero, List.set_cons_succ]
          refine wpAnyH_take (i := 15) (oi := ⟨_, _, _, _, _, _⟩) (v := SC.val t) rfl (by kernel_rfl) (by kernel_rfl) (by kernel_rfl) (fun _ _ _ h => h) (yl_set (by rfl) _ rfl _ 0 rfl _ _ _ _ (fun _ h => StIn.cells h.2.2)) (by assumption) ?_
          simp only [Act.put, List.setIfInBounds_toArray, List.set_cons_zero, List.set_cons_succ]
          refine wpAnyH_take (i := 17) (oi := ⟨_, _, _, _, _, _⟩) (v := bxVal b0 b1 b2 b3) rfl (by kernel_rfl) (by kernel_rfl) (by kernel_rfl) (fun _ _ _ h => h) (yl_box (by rfl) _ rfl _ 0 rfl _ _ _ _ _ _ _ _ _ _ _ _ _ _ _ _ (fun _ h => BxIn.cells h.1)) (by assumption) ?_
          simp only [Act.put, List.setIfInBounds_toArray, List.set_cons_zero, List.set_cons_succ]
          refine held_call (o := ⟨_, _, _, _, _, _⟩) 13 (by kernel_rfl) rfl (by rfl) 19 _ _ rfl #[] rfl (run_call Try.func19 (by kernel_rfl) (by kernel_rfl)) ?_
          refine (P.all _).mono ?_
          rintro r v15 ⟨⟨u1, rfl, HG⟩, kb⟩
          replace D := D.trans (kb.mono D.size)
          replace HS := HS.on kb
          replace IS := IS.on kb
          replace IE := IE.on kb
          replace HB := HB.on kb
          replace IB := IB.on kb
          clear kb
          clear hHeld
          obtain ⟨g0, g1, g2, g3, rfl, -⟩ := HG.scs
          refine ⟨bxVal g0 g1 g2 g3, rfl, ⟨IB, IE, IS⟩, fun hHeld => ?_⟩
          simp only [Act.put, List.setIfInBounds_toArray, List.set_cons_zero, List.set_cons_succ]
          refine held_call (o := ⟨_, _, _, _, _, _⟩) 16 (by kernel_rfl) rfl (by rfl) 15 _ _ rfl #[bxVal g0 g1 g2 g3, .int .i64 2, SC.val t] rfl (run_call Try.func15 (by kernel_rfl) (by kernel_rfl)) ?_
          refine (P.with_ _ allBx 2 _ s _ (by omega) (by omega) HG allFew.fit HS FS).mono ?_
          rintro r v16 ⟨⟨u1, rfl, HD⟩, kb⟩
          replace D := D.trans (kb.mono D.size)
          replace HS := HS.on kb
          replace IS := IS.on kb
          replace IE := IE.on kb
          replace HB := HB.on kb
          replace IB := IB.on kb
          replace HG := HG.on kb
          clear kb
          clear hHeld
          replace HD : BoxAt _ _ (allBx.put 2 s) := HD
          obtain ⟨d0, d1, d2, d3, rfl, -⟩ := HD.scs
          clear HG
          refine ⟨bxVal d0 d1 d2 d3, rfl, ⟨IB, IE, IS⟩, fun hHeld => ?_⟩
          simp only [Act.put, List.setIfInBounds_toArray, List.set_cons_zero, List.set_cons_succ]
          refine held_call (o := ⟨_, _, _, _, _, _⟩) 18 (by kernel_rfl) rfl (by rfl) 20 _ _ rfl #[bxVal d0 d1 d2 d3, bxVal b0 b1 b2 b3] rfl (run_call Try.func20 (by kernel_rfl) (by kernel_rfl)) ?_
          refine (P.same _ _ _ _ _ HD HB FB.fit FB.fit).mono ?_
          rintro r v17 ⟨rfl, kb⟩
          replace D := D.trans (kb.mono D.size)
          replace HS := HS.on kb
          replace IS := IS.on kb
          replace IE := IE.on kb
          replace HB := HB.on kb
          replace IB := IB.on kb
          replace HD := HD.on kb
          clear kb
          clear hHeld
          clear HD
          refine ⟨.bool true, ret_bool (sameBx_refl _), ⟨IB, IE, IS⟩, fun hHeld => ?_⟩
          simp only [Act.put, List.setIfInBounds_toArray, List.set_cons_zero, List.set_cons_succ]
          refine wpAnyH_take (i := 19) (oi := ⟨_, _, _, _, _, _⟩) (v := .bool true) rfl (by kernel_rfl) (by kernel_rfl) (by kernel_rfl) (fun _ _ _ h => h) (yl_pickT (by rfl) _ _ _ rfl rfl _ rfl) (by assumption) ?_
          simp only [Act.put, List.setIfInBounds_toArray, List.set_cons_zero, List.set_cons_succ]
          refine wpAnyH_take (i := 20) (oi := ⟨_, _, _, _, _, _⟩) (v := .bool true) rfl (by kernel_rfl) (by kernel_rfl) (by kernel_rfl) (fun _ _ _ h => h) (yl_assign (by rfl) _ rfl _ rfl) (by assumption) ?_
          simp only [Act.put, List.setIfInBounds_toArray, List.set_cons_zero, List.set_cons_succ]
          refine wpAnyH_done (by kernel_rfl) ?_ _
          clear hHeld
          refine hK8 _ _ ?_
          clear hK8 K8
          refine wp_ret ?_
          go_ret
          exact ⟨rfl, D⟩
set_option maxHeartbeats 8000000 in
set_option maxRecDepth 100000 in
theorem atoms_3 (P : BoxProg) (u : Value) (s : SetV) (e : EvV) (w : World) (HS : SetAt w u s) (hf : evFit e) (he : inE e) :
    Calls Try.prog 5 #[.int .i64 3, u, evVal e] w fun r w' => r = .returned (.bool true) ∧ Below w.heap.size w w' := by
  obtain ⟨t, rfl⟩ := HS.sc
  have D := Below.refl w.heap.size w
  go_enter Try.func5, Try.ntmps5
  refine wp_seq_k (fun K1 hK1 => ?_)
  refine wp_region_lit ?_
  refine wl_boxSt (o := ⟨_, _, _, _, _, _⟩) (by rfl) _ rfl rfl (fun v1 gb1 IS kb => ?_)
  simp only [Act.put, List.setIfInBounds_toArray, List.set_cons_zero, List.set_cons_succ]
  replace D := D.trans (kb.mono D.size)
  replace HS := HS.on kb
  clear kb
  refine wl_boxEv (o := ⟨_, _, _, _, _, _⟩) (by rfl) _ rfl rfl (fun v2 gb2 IE kb => ?_)
  simp only [Act.put, List.setIfInBounds_toArray, List.set_cons_zero, List.set_cons_succ]
  replace D := D.trans (kb.mono D.size)
  replace HS := HS.on kb
  replace IS := IS.on kb
  clear kb
  refine wl_yield (o := ⟨_, _, _, _, _, _⟩) (.bool false) (yl_assign (by rfl) _ rfl _ rfl) ?_
  simp only [Act.put, List.setIfInBounds_toArray, List.set_cons_zero, List.set_cons_succ]
  refine wpList_nil ?_
  refine hK1 _ _ ?_
  clear hK1 K1
  refine wp_seq_k (fun K2 hK2 => ?_)
  refine wp_seq_k (fun K3 hK3 => ?_)
  refine wp_region_lit ?_
  refine wl_call (o := ⟨_, _, _, _, _, _⟩) (by rfl) 7 _ _ rfl #[] rfl (run_call Try.func7 (by kernel_rfl) (by kernel_rfl)) ?_
  refine (awake4_any P _).mono ?_
  rintro r v3 ⟨rfl, kb⟩
  replace D := D.trans (kb.mono D.size)
  replace HS := HS.on kb
  replace IS := IS.on kb
  replace IE := IE.on kb
  clear kb
  refine ⟨.bool true, rfl, ?_⟩
  simp only [Act.put, List.setIfInBounds_toArray, List.set_cons_zero, List.set_cons_succ]
  refine wl_yield (o := ⟨_, _, _, _, _, _⟩) (.bool false) (yl_not (by rfl) _ _ rfl true rfl) ?_
  simp only [Act.put, List.setIfInBounds_toArray, List.set_cons_zero, List.set_cons_succ]
  refine wl_yield (o := ⟨_, _, _, _, _, _⟩) (.bool false) (yl_move (by rfl) _ rfl _ rfl) ?_
  simp only [Act.put, List.setIfInBounds_toArray, List.set_cons_zero, List.set_cons_succ]
  refine wl_yield (o := ⟨_, _, _, _, _, _⟩) (SC.val t) (yl_set (by rfl) _ rfl _ 0 rfl _ _ _ _ (fun _ h => by subst h; exact StIn.cells IS)) ?_
  simp only [Act.put, List.setIfInBounds_toArray, List.set_cons_zero, List.set_cons_succ]
  refine wl_rowSt1 (o := ⟨_, _, _, _, _, _⟩) (by rfl) _ rfl rfl HS (fun v4 y4 HY kb => ?_)
  simp only [Act.put, List.setIfInBounds_toArray, List.set_cons_zero, List.set_cons_succ]
  replace D := D.trans (kb.mono D.size)
  replace HS := HS.on kb
  replace IS := IS.on kb
  replace IE := IE.on kb
  clear kb
  refine wl_call (o := ⟨_, _, _, _, _, _⟩) (by rfl) 13 _ _ rfl #[y4] rfl (run_call Try.func13 (by kernel_rfl) (by kernel_rfl)) ?_
  refine (refFew_below HY).mono ?_
  rintro r v5 ⟨rfl, kb⟩
  replace D := D.trans (kb.mono D.size)
  replace HS := HS.on kb
  replace IS := IS.on kb
  replace IE := IE.on kb
  clear kb
  cases hF : [s].all fewB
  · refine ⟨.bool false, rfl, ?_⟩
    simp only [Act.put, List.setIfInBounds_toArray, List.set_cons_zero, List.set_cons_succ]
    refine wl_yield (o := ⟨_, _, _, _, _, _⟩) (.bool true) (yl_not (by rfl) _ _ rfl false rfl) ?_
    simp only [Act.put, List.setIfInBounds_toArray, List.set_cons_zero, List.set_cons_succ]
    refine wl_yield (o := ⟨_, _, _, _, _, _⟩) (.bool true) (yl_pickF (by rfl) _ _ _ rfl rfl _ rfl) ?_
    simp only [Act.put, List.setIfInBounds_toArray, List.set_cons_zero, List.set_cons_succ]
    refine wl_yield (o := ⟨_, _, _, _, _, _⟩) (.bool true) (yl_move (by rfl) _ rfl _ rfl) ?_
    simp only [Act.put, List.setIfInBounds_toArray, List.set_cons_zero, List.set_cons_succ]
    refine wl_yield (o := ⟨_, _, _, _, _, _⟩) undef (yl_undef (by rfl)) ?_
    simp only [Act.put, List.setIfInBounds_toArray, List.set_cons_zero, List.set_cons_succ]
    refine wl_yield (o := ⟨_, _, _, _, _, _⟩) undef (yl_undef (by rfl)) ?_
    simp only [Act.put, List.setIfInBounds_toArray, List.set_cons_zero, List.set_cons_succ]
    refine wl_yield (o := ⟨_, _, _, _, _, _⟩) undef (yl_undef (by rfl)) ?_
    simp only [Act.put, List.setIfInBounds_toArray, List.set_cons_zero, List.set_cons_succ]
    refine wl_yield (o := ⟨_, _, _, _, _, _⟩) (.bool true) (yl_pickT (by rfl) _ _ _ rfl rfl _ rfl) ?_
    simp only [Act.put, List.setIfInBounds_toArray, List.set_cons_zero, List.set_cons_succ]
    refine wpList_nil ?_
    refine hK3 _ _ ?_
    clear hK3 K3
    refine wp_cond_true rfl ?_
    refine wp_seq_k (fun K4 hK4 => ?_)
    refine wp_region_lit ?_
    refine wl_call (o := ⟨_, _, _, _, _, _⟩) (by rfl) 7 _ _ rfl #[] rfl (run_call Try.func7 (by kernel_rfl) (by kernel_rfl)) ?_
    refine (awake4_any P _).mono ?_
    rintro r v6 ⟨rfl, kb⟩
    replace D := D.trans (kb.mono D.size)
    replace HS := HS.on kb
    replace IS := IS.on kb
    replace IE := IE.on kb
    clear kb
    refine ⟨.bool true, rfl, ?_⟩
    simp only [Act.put, List.setIfInBounds_toArray, List.set_cons_zero, List.set_cons_succ]
    refine wl_yield (o := ⟨_, _, _, _, _, _⟩) (.bool true) (yl_assign (by rfl) _ rfl _ rfl) ?_
    simp only [Act.put, List.setIfInBounds_toArray, List.set_cons_zero, List.set_cons_succ]
    refine wpList_nil ?_
    refine hK4 _ _ ?_
    clear hK4 K4
    refine wp_ret ?_
    go_ret
    exact ⟨rfl, D⟩
  · refine ⟨.bool true, rfl, ?_⟩
    simp only [Act.put, List.setIfInBounds_toArray, List.set_cons_zero, List.set_cons_succ]
    refine wl_yield (o := ⟨_, _, _, _, _, _⟩) (.bool false) (yl_not (by rfl) _ _ rfl true rfl) ?_
    simp only [Act.put, List.setIfInBounds_toArray, List.set_cons_zero, List.set_cons_succ]
    refine wl_yield (o := ⟨_, _, _, _, _, _⟩) (.bool false) (yl_pickF (by rfl) _ _ _ rfl rfl _ rfl) ?_
    simp only [Act.put, List.setIfInBounds_toArray, List.set_cons_zero, List.set_cons_succ]
    refine wl_yield (o := ⟨_, _, _, _, _, _⟩) (.bool false) (yl_move (by rfl) _ rfl _ rfl) ?_
    simp only [Act.put, List.setIfInBounds_toArray, List.set_cons_zero, List.set_cons_succ]
    refine wl_yield (o := ⟨_, _, _, _, _, _⟩) (SC.val t) (yl_set (by rfl) _ rfl _ 0 rfl _ _ _ _ (fun _ h => by subst h; exact StIn.cells IS)) ?_
    simp only [Act.put, List.setIfInBounds_toArray, List.set_cons_zero, List.set_cons_succ]
    refine wl_call (o := ⟨_, _, _, _, _, _⟩) (by rfl) 14 _ _ rfl #[SC.val t] rfl (run_call Try.func14 (by kernel_rfl) (by kernel_rfl)) ?_
    refine (refRightSet_any _ s _ HS).mono ?_
    rintro r v6 ⟨rfl, kb⟩
    replace D := D.trans (kb.mono D.size)
    replace HS := HS.on kb
    replace IS := IS.on kb
    replace IE := IE.on kb
    clear kb
    cases hR : rightSet s
    · refine ⟨.bool false, rfl, ?_⟩
      simp only [Act.put, List.setIfInBounds_toArray, List.set_cons_zero, List.set_cons_succ]
      refine wl_yield (o := ⟨_, _, _, _, _, _⟩) (.bool true) (yl_not (by rfl) _ _ rfl false rfl) ?_
      simp only [Act.put, List.setIfInBounds_toArray, List.set_cons_zero, List.set_cons_succ]
      refine wl_yield (o := ⟨_, _, _, _, _, _⟩) (.bool true) (yl_pickF (by rfl) _ _ _ rfl rfl _ rfl) ?_
      simp only [Act.put, List.setIfInBounds_toArray, List.set_cons_zero, List.set_cons_succ]
      refine wpList_nil ?_
      refine hK3 _ _ ?_
      clear hK3 K3
      refine wp_cond_true rfl ?_
      refine wp_seq_k (fun K4 hK4 => ?_)
      refine wp_region_lit ?_
      refine wl_call (o := ⟨_, _, _, _, _, _⟩) (by rfl) 7 _ _ rfl #[] rfl (run_call Try.func7 (by kernel_rfl) (by kernel_rfl)) ?_
      refine (awake4_any P _).mono ?_
      rintro r v7 ⟨rfl, kb⟩
      replace D := D.trans (kb.mono D.size)
      replace HS := HS.on kb
      replace IS := IS.on kb
      replace IE := IE.on kb
      clear kb
      refine ⟨.bool true, rfl, ?_⟩
      simp only [Act.put, List.setIfInBounds_toArray, List.set_cons_zero, List.set_cons_succ]
      refine wl_yield (o := ⟨_, _, _, _, _, _⟩) (.bool true) (yl_assign (by rfl) _ rfl _ rfl) ?_
      simp only [Act.put, List.setIfInBounds_toArray, List.set_cons_zero, List.set_cons_succ]
      refine wpList_nil ?_
      refine hK4 _ _ ?_
      clear hK4 K4
      refine wp_ret ?_
      go_ret
      exact ⟨rfl, D⟩
    · refine ⟨.bool true, rfl, ?_⟩
      simp only [Act.put, List.setIfInBounds_toArray, List.set_cons_zero, List.set_cons_succ]
      refine wl_yield (o := ⟨_, _, _, _, _, _⟩) (.bool false) (yl_not (by rfl) _ _ rfl true rfl) ?_
      simp only [Act.put, List.setIfInBounds_toArray, List.set_cons_zero, List.set_cons_succ]
      refine wl_yield (o := ⟨_, _, _, _, _, _⟩) (.bool false) (yl_pickF (by rfl) _ _ _ rfl rfl _ rfl) ?_
      simp only [Act.put, List.setIfInBounds_toArray, List.set_cons_zero, List.set_cons_succ]
      refine wpList_nil ?_
      refine hK3 _ _ ?_
      clear hK3 K3
      refine wp_cond_false rfl ?_
      refine wp_skip ?_
      refine hK2 _ _ ?_
      clear hK2 K2
      have hG : Good s := ⟨hR, HS.i64⟩
      have hL := few_len (few1 hF)
      have FS : Fit s := ⟨hG, by omega, by omega⟩
      have FB : FewB (allBx.put 3 s) := put_few allFew (by omega) hG hL.1 hL.2
      refine wp_seq_k (fun K4 hK4 => ?_)
      refine wp_region_lit ?_
      refine wl_yield (o := ⟨_, _, _, _, _, _⟩) (.int .i64 3) (yl_move (by rfl) _ rfl _ rfl) ?_
      simp only [Act.put, List.setIfInBounds_toArray, List.set_cons_zero, List.set_cons_succ]
      refine wl_yield (o := ⟨_, _, _, _, _, _⟩) (SC.val t) (yl_set (by rfl) _ rfl _ 0 rfl _ _ _ _ (fun _ h => by subst h; exact StIn.cells IS)) ?_
      simp only [Act.put, List.setIfInBounds_toArray, List.set_cons_zero, List.set_cons_succ]
      refine wl_call (o := ⟨_, _, _, _, _, _⟩) (by rfl) 18 _ _ rfl #[.int .i64 3, SC.val t] rfl (run_call Try.func18 (by kernel_rfl) (by kernel_rfl)) ?_
      refine (P.atom (3) _ s _ (by omega) (by omega) HS FS).mono ?_
      rintro r v7 ⟨⟨u1, rfl, HB⟩, kb⟩
      replace D := D.trans (kb.mono D.size)
      replace HS := HS.on kb
      replace IS := IS.on kb
      replace IE := IE.on kb
      clear kb
      replace HB : BoxAt _ _ (allBx.put 3 s) := HB
      obtain ⟨b0, b1, b2, b3, rfl, -⟩ := HB.scs
      refine ⟨bxVal b0 b1 b2 b3, rfl, ?_⟩
      simp only [Act.put, List.setIfInBounds_toArray, List.set_cons_zero, List.set_cons_succ]
      refine wl_newBx (o := ⟨_, _, _, _, _, _⟩) (o2 := ⟨_, _, _, _, _, _⟩) (by rfl) rfl _ _ rfl (fun _ => rfl) (fun _ => rfl) (fun _ => by rfl) (fun v8 gb8 IB kb => ?_)
      simp only [Act.put, List.setIfInBounds_toArray, List.set_cons_zero, List.set_cons_succ]
      replace D := D.trans (kb.mono D.size)
      replace HS := HS.on kb
      replace IS := IS.on kb
      replace IE := IE.on kb
      replace HB := HB.on kb
      clear kb
      refine wpList_nil ?_
      refine hK4 _ _ ?_
      clear hK4 K4
      refine wp_seq_k (fun K5 hK5 => ?_)
      cases hok : hasE allBx e
      · refine wp_region_held_drew (S := fun w' => EvIn w' gb2 e) (by kernel_rfl) IE (fun hHeld => ?_)
        have kb : Below v8.heap.size v8 v8.drew := (Below.refl _ v8).drew
        replace D := D.trans (kb.mono D.size)
        replace HS := HS.on kb
        replace IS := IS.on kb
        replace IE := IE.on kb
        replace HB := HB.on kb
        replace IB := IB.on kb
        clear kb
        generalize v8.drew = v9 at D hHeld HS IS IE HB IB ⊢
        refine wpAnyH_take (i := 1) (oi := ⟨_, _, _, _, _, _⟩) (v := evVal e) rfl (by kernel_rfl) (by kernel_rfl) (by kernel_rfl) (fun _ _ _ h => h) (yl_ev (by rfl) _ rfl _ 0 rfl _ _ _ _ _ _ _ _ _ _ _ _ (fun _ h => EvIn.cells h)) (by assumption) ?_
        simp only [Act.put, List.setIfInBounds_toArray, List.set_cons_zero, List.set_cons_succ]
        refine held_call (o := ⟨_, _, _, _, _, _⟩) 0 (by kernel_rfl) rfl (by rfl) 19 _ _ rfl #[] rfl (run_call Try.func19 (by kernel_rfl) (by kernel_rfl)) ?_
        refine (P.all _).mono ?_
        rintro r v10 ⟨⟨u1, rfl, HG⟩, kb⟩
        replace D := D.trans (kb.mono D.size)
        replace HS := HS.on kb
        replace IS := IS.on kb
        replace IE := IE.on kb
        replace HB := HB.on kb
        replace IB := IB.on kb
        clear kb
        clear hHeld
        obtain ⟨g0, g1, g2, g3, rfl, -⟩ := HG.scs
        refine ⟨bxVal g0 g1 g2 g3, rfl, IE, fun hHeld => ?_⟩
        simp only [Act.put, List.setIfInBounds_toArray, List.set_cons_zero, List.set_cons_succ]
        refine held_call (o := ⟨_, _, _, _, _, _⟩) 2 (by kernel_rfl) rfl (by rfl) 11 _ _ rfl #[bxVal g0 g1 g2 g3, evVal e] rfl (run_call Try.func11 (by kernel_rfl) (by kernel_rfl)) ?_
        refine (refHasBx_any _ _ e _ HG hf).mono ?_
        rintro r v11 ⟨rfl, kb⟩
        replace D := D.trans (kb.mono D.size)
        replace HS := HS.on kb
        replace IS := IS.on kb
        replace IE := IE.on kb
        replace HB := HB.on kb
        replace IB := IB.on kb
        replace HG := HG.on kb
        clear kb
        clear hHeld
        clear HG
        refine ⟨.bool false, ret_bool hok, IE, fun hHeld => ?_⟩
        simp only [Act.put, List.setIfInBounds_toArray, List.set_cons_zero, List.set_cons_succ]
        refine wpAnyH_take (i := 3) (oi := ⟨_, _, _, _, _, _⟩) (v := .bool false) rfl (by kernel_rfl) (by kernel_rfl) (by kernel_rfl) (fun _ _ _ h => h) (yl_assign (by rfl) _ rfl _ rfl) (by assumption) ?_
        simp only [Act.put, List.setIfInBounds_toArray, List.set_cons_zero, List.set_cons_succ]
        refine wpAnyH_done (by kernel_rfl) ?_ _
        clear hHeld
        refine hK5 _ _ ?_
        clear hK5 K5
        refine wp_seq_k (fun K6 hK6 => ?_)
        refine wp_seq_k (fun K7 hK7 => ?_)
        refine wp_region_lit ?_
        refine wl_yield (o := ⟨_, _, _, _, _, _⟩) (.int .i64 3) (yl_move (by rfl) _ rfl _ rfl) ?_
        simp only [Act.put, List.setIfInBounds_toArray, List.set_cons_zero, List.set_cons_succ]
        refine wl_yield (o := ⟨_, _, _, _, _, _⟩) (.bool false) (yl_lssI (by rfl) _ _ _ rfl (3) (0) false rfl rfl (by decide)) ?_
        simp only [Act.put, List.setIfInBounds_toArray, List.set_cons_zero, List.set_cons_succ]
        refine wl_yield (o := ⟨_, _, _, _, _, _⟩) (.bool false) (yl_move (by rfl) _ rfl _ rfl) ?_
        simp only [Act.put, List.setIfInBounds_toArray, List.set_cons_zero, List.set_cons_succ]
        refine wl_yield (o := ⟨_, _, _, _, _, _⟩) (.int .i64 3) (yl_move (by rfl) _ rfl _ rfl) ?_
        simp only [Act.put, List.setIfInBounds_toArray, List.set_cons_zero, List.set_cons_succ]
        refine wl_yield (o := ⟨_, _, _, _, _, _⟩) (.bool false) (yl_gtrI (by rfl) _ _ _ rfl (3) (3) false rfl rfl (by decide)) ?_
        simp only [Act.put, List.setIfInBounds_toArray, List.set_cons_zero, List.set_cons_succ]
        refine wl_yield (o := ⟨_, _, _, _, _, _⟩) (.bool false) (yl_pickF (by rfl) _ _ _ rfl rfl _ rfl) ?_
        simp only [Act.put, List.setIfInBounds_toArray, List.set_cons_zero, List.set_cons_succ]
        refine wpList_nil ?_
        refine hK7 _ _ ?_
        clear hK7 K7
        refine wp_cond_false rfl ?_
        refine wp_skip ?_
        refine hK6 _ _ ?_
        clear hK6 K6
        refine wp_seq_k (fun K8 hK8 => ?_)
        have hat : hasE (allBx.put 3 s) e = (hasE allBx e && hasP s e.v3) := atom_has (s := s) (i := 3) (by omega) he
        replace hat : hasE (allBx.put 3 s) e = false := by rw [hat, hok, Bool.false_and]
        refine wp_region_held_drew (S := fun w' => BxIn w' gb8 b0 b1 b2 b3 ∧ EvIn w' gb2 e ∧ StIn w' gb1 t) (by kernel_rfl) ⟨IB, IE, IS⟩ (fun hHeld => ?_)
        have kb : Below v11.heap.size v11 v11.drew := (Below.refl _ v11).drew
        replace D := D.trans (kb.mono D.size)
        replace HS := HS.on kb
        replace IS := IS.on kb
        replace IE := IE.on kb
        replace HB := HB.on kb
        replace IB := IB.on kb
        clear kb
        generalize v11.drew = v12 at D hHeld HS IS IE HB IB ⊢
        refine wpAnyH_take (i := 0) (oi := ⟨_, _, _, _, _, _⟩) (v := bxVal b0 b1 b2 b3) rfl (by kernel_rfl) (by kernel_rfl) (by kernel_rfl) (fun _ _ _ h => h) (yl_box (by rfl) _ rfl _ 0 rfl _ _ _ _ _ _ _ _ _ _ _ _ _ _ _ _ (fun _ h => BxIn.cells h.1)) (by assumption) ?_
        simp only [Act.put, List.setIfInBounds_toArray, List.set_cons_zero, List.set_cons_succ]
        refine wpAnyH_take (i := 1) (oi := ⟨_, _, _, _, _, _⟩) (v := evVal e) rfl (by kernel_rfl) (by kernel_rfl) (by kernel_rfl) (fun _ _ _ h => h) (yl_ev (by rfl) _ rfl _ 0 rfl _ _ _ _ _ _ _ _ _ _ _ _ (fun _ h => EvIn.cells h.2.1)) (by assumption) ?_
        simp only [Act.put, List.setIfInBounds_toArray, List.set_cons_zero, List.set_cons_succ]
        refine wpAnyH_take (i := 3) (oi := ⟨_, _, _, _, _, _⟩) (v := .bool false) rfl (by kernel_rfl) (by kernel_rfl) (by kernel_rfl) (fun _ _ _ h => h) (yl_move (by rfl) _ rfl _ rfl) (by assumption) ?_
        simp only [Act.put, List.setIfInBounds_toArray, List.set_cons_zero, List.set_cons_succ]
        refine held_call (o := ⟨_, _, _, _, _, _⟩) 2 (by kernel_rfl) rfl (by rfl) 21 _ _ rfl #[bxVal b0 b1 b2 b3, evVal e] rfl (run_call Try.func21 (by kernel_rfl) (by kernel_rfl)) ?_
        refine (P.has _ _ e _ HB FB.fit hf he).mono ?_
        rintro r v13 ⟨rfl, kb⟩
        replace D := D.trans (kb.mono D.size)
        replace HS := HS.on kb
        replace IS := IS.on kb
        replace IE := IE.on kb
        replace HB := HB.on kb
        replace IB := IB.on kb
        clear kb
        clear hHeld
        refine ⟨.bool false, ret_bool hat, ⟨IB, IE, IS⟩, fun hHeld => ?_⟩
        simp only [Act.put, List.setIfInBounds_toArray, List.set_cons_zero, List.set_cons_succ]
        refine wpAnyH_take (i := 4) (oi := ⟨_, _, _, _, _, _⟩) (v := .bool false) rfl (by kernel_rfl) (by kernel_rfl) (by kernel_rfl) (fun _ _ _ h => h) (yl_move (by rfl) _ rfl _ rfl) (by assumption) ?_
        simp only [Act.put, List.setIfInBounds_toArray, List.set_cons_zero, List.set_cons_succ]
        refine wpAnyH_take (i := 5) (oi := ⟨_, _, _, _, _, _⟩) (v := undef) rfl (by kernel_rfl) (by kernel_rfl) (by kernel_rfl) (fun _ _ _ h => h) (yl_undef (by rfl)) (by assumption) ?_
        simp only [Act.put, List.setIfInBounds_toArray, List.set_cons_zero, List.set_cons_succ]
        refine wpAnyH_take (i := 6) (oi := ⟨_, _, _, _, _, _⟩) (v := undef) rfl (by kernel_rfl) (by kernel_rfl) (by kernel_rfl) (fun _ _ _ h => h) (yl_undef (by rfl)) (by assumption) ?_
        simp only [Act.put, List.setIfInBounds_toArray, List.set_cons_zero, List.set_cons_succ]
        refine wpAnyH_take (i := 7) (oi := ⟨_, _, _, _, _, _⟩) (v := undef) rfl (by kernel_rfl) (by kernel_rfl) (by kernel_rfl) (fun _ _ _ h => h) (yl_undef (by rfl)) (by assumption) ?_
        simp only [Act.put, List.setIfInBounds_toArray, List.set_cons_zero, List.set_cons_succ]
        refine wpAnyH_take (i := 8) (oi := ⟨_, _, _, _, _, _⟩) (v := undef) rfl (by kernel_rfl) (by kernel_rfl) (by kernel_rfl) (fun _ _ _ h => h) (yl_undef (by rfl)) (by assumption) ?_
        simp only [Act.put, List.setIfInBounds_toArray, List.set_cons_zero, List.set_cons_succ]
        refine wpAnyH_take (i := 9) (oi := ⟨_, _, _, _, _, _⟩) (v := undef) rfl (by kernel_rfl) (by kernel_rfl) (by kernel_rfl) (fun _ _ _ h => h) (yl_undef (by rfl)) (by assumption) ?_
        simp only [Act.put, List.setIfInBounds_toArray, List.set_cons_zero, List.set_cons_succ]
        refine wpAnyH_take (i := 10) (oi := ⟨_, _, _, _, _, _⟩) (v := .bool false) rfl (by kernel_rfl) (by kernel_rfl) (by kernel_rfl) (fun _ _ _ h => h) (yl_pickF (by rfl) _ _ _ rfl rfl _ rfl) (by assumption) ?_
        simp only [Act.put, List.setIfInBounds_toArray, List.set_cons_zero, List.set_cons_succ]
        refine wpAnyH_take (i := 11) (oi := ⟨_, _, _, _, _, _⟩) (v := .bool true) rfl (by kernel_rfl) (by kernel_rfl) (by kernel_rfl) (fun _ _ _ h => h) (yl_eqB (by rfl) _ _ _ rfl false false rfl rfl) (by assumption) ?_
        simp only [Act.put, List.setIfInBounds_toArray, List.set_cons_zero, List.set_cons_succ]
        refine wpAnyH_take (i := 12) (oi := ⟨_, _, _, _, _, _⟩) (v := .bool true) rfl (by kernel_rfl) (by kernel_rfl) (by kernel_rfl) (fun _ _ _ h => h) (yl_move (by rfl) _ rfl _ rfl) (by assumption) ?_
        simp only [Act.put, List.setIfInBounds_toArray, List.set_cons_zero, List.set_cons_succ]
        refine wpAnyH_take (i := 14) (oi := ⟨_, _, _, _, _, _⟩) (v := .int .i64 3) rfl (by kernel_rfl) (by kernel_rfl) (by kernel_rfl) (fun _ _ _ h => h) (yl_move (by rfl) _ rfl _ rfl) (by assumption) ?_
        simp only [Act.put, List.setIfInBounds_toArray, List.set_cons_zero, List.set_cons_succ]
        refine wpAnyH_take (i := 15) (oi := ⟨_, _, _, _, _, _⟩) (v := SC.val t) rfl (by kernel_rfl) (by kernel_rfl) (by kernel_rfl) (fun _ _ _ h => h) (yl_set (by rfl) _ rfl _ 0 rfl _ _ _ _ (fun _ h => StIn.cells h.2.2)) (by assumption) ?_
        simp only [Act.put, List.setIfInBounds_toArray, List.set_cons_zero, List.set_cons_succ]
        refine wpAnyH_take (i := 17) (oi := ⟨_, _, _, _, _, _⟩) (v := bxVal b0 b1 b2 b3) rfl (by kernel_rfl) (by kernel_rfl) (by kernel_rfl) (fun _ _ _ h => h) (yl_box (by rfl) _ rfl _ 0 rfl _ _ _ _ _ _ _ _ _ _ _ _ _ _ _ _ (fun _ h => BxIn.cells h.1)) (by assumption) ?_
        simp only [Act.put, List.setIfInBounds_toArray, List.set_cons_zero, List.set_cons_succ]
        refine held_call (o := ⟨_, _, _, _, _, _⟩) 13 (by kernel_rfl) rfl (by rfl) 19 _ _ rfl #[] rfl (run_call Try.func19 (by kernel_rfl) (by kernel_rfl)) ?_
        refine (P.all _).mono ?_
        rintro r v14 ⟨⟨u1, rfl, HG⟩, kb⟩
        replace D := D.trans (kb.mono D.size)
        replace HS := HS.on kb
        replace IS := IS.on kb
        replace IE := IE.on kb
        replace HB := HB.on kb
        replace IB := IB.on kb
        clear kb
        clear hHeld
        obtain ⟨g0, g1, g2, g3, rfl, -⟩ := HG.scs
        refine ⟨bxVal g0 g1 g2 g3, rfl, ⟨IB, IE, IS⟩, fun hHeld => ?_⟩
        simp only [Act.put, List.setIfInBounds_toArray, List.set_cons_zero, List.set_cons_succ]
        refine held_call (o := ⟨_, _, _, _, _, _⟩) 16 (by kernel_rfl) rfl (by rfl) 15 _ _ rfl #[bxVal g0 g1 g2 g3, .int .i64 3, SC.val t] rfl (run_call Try.func15 (by kernel_rfl) (by kernel_rfl)) ?_
        refine (P.with_ _ allBx 3 _ s _ (by omega) (by omega) HG allFew.fit HS FS).mono ?_
        rintro r v15 ⟨⟨u1, rfl, HD⟩, kb⟩
        replace D := D.trans (kb.mono D.size)
        replace HS := HS.on kb
        replace IS := IS.on kb
        replace IE := IE.on kb
        replace HB := HB.on kb
        replace IB := IB.on kb
        replace HG := HG.on kb
        clear kb
        clear hHeld
        replace HD : BoxAt _ _ (allBx.put 3 s) := HD
        obtain ⟨d0, d1, d2, d3, rfl, -⟩ := HD.scs
        clear HG
        refine ⟨bxVal d0 d1 d2 d3, rfl, ⟨IB, IE, IS⟩, fun hHeld => ?_⟩
        simp only [Act.put, List.setIfInBounds_toArray, List.set_cons_zero, List.set_cons_succ]
        refine held_call (o := ⟨_, _, _, _, _, _⟩) 18 (by kernel_rfl) rfl (by rfl) 20 _ _ rfl #[bxVal d0 d1 d2 d3, bxVal b0 b1 b2 b3] rfl (run_call Try.func20 (by kernel_rfl) (by kernel_rfl)) ?_
        refine (P.same _ _ _ _ _ HD HB FB.fit FB.fit).mono ?_
        rintro r v16 ⟨rfl, kb⟩
        replace D := D.trans (kb.mono D.size)
        replace HS := HS.on kb
        replace IS := IS.on kb
        replace IE := IE.on kb
        replace HB := HB.on kb
        replace IB := IB.on kb
        replace HD := HD.on kb
        clear kb
        clear hHeld
        clear HD
        refine ⟨.bool true, ret_bool (sameBx_refl _), ⟨IB, IE, IS⟩, fun hHeld => ?_⟩
        simp only [Act.put, List.setIfInBounds_toArray, List.set_cons_zero, List.set_cons_succ]
        refine wpAnyH_take (i := 19) (oi := ⟨_, _, _, _, _, _⟩) (v := .bool true) rfl (by kernel_rfl) (by kernel_rfl) (by kernel_rfl) (fun _ _ _ h => h) (yl_pickT (by rfl) _ _ _ rfl rfl _ rfl) (by assumption) ?_
        simp only [Act.put, List.setIfInBounds_toArray, List.set_cons_zero, List.set_cons_succ]
        refine wpAnyH_take (i := 20) (oi := ⟨_, _, _, _, _, _⟩) (v := .bool true) rfl (by kernel_rfl) (by kernel_rfl) (by kernel_rfl) (fun _ _ _ h => h) (yl_assign (by rfl) _ rfl _ rfl) (by assumption) ?_
        simp only [Act.put, List.setIfInBounds_toArray, List.set_cons_zero, List.set_cons_succ]
        refine wpAnyH_done (by kernel_rfl) ?_ _
        clear hHeld
        refine hK8 _ _ ?_
        clear hK8 K8
        refine wp_ret ?_
        go_ret
        exact ⟨rfl, D⟩
      · refine wp_region_held_drew (S := fun w' => EvIn w' gb2 e) (by kernel_rfl) IE (fun hHeld => ?_)
        have kb : Below v8.heap.size v8 v8.drew := (Below.refl _ v8).drew
        replace D := D.trans (kb.mono D.size)
        replace HS := HS.on kb
        replace IS := IS.on kb
        replace IE := IE.on kb
        replace HB := HB.on kb
        replace IB := IB.on kb
        clear kb
        generalize v8.drew = v9 at D hHeld HS IS IE HB IB ⊢
        refine wpAnyH_take (i := 1) (oi := ⟨_, _, _, _, _, _⟩) (v := evVal e) rfl (by kernel_rfl) (by kernel_rfl) (by kernel_rfl) (fun _ _ _ h => h) (yl_ev (by rfl) _ rfl _ 0 rfl _ _ _ _ _ _ _ _ _ _ _ _ (fun _ h => EvIn.cells h)) (by assumption) ?_
        simp only [Act.put, List.setIfInBounds_toArray, List.set_cons_zero, List.set_cons_succ]
        refine held_call (o := ⟨_, _, _, _, _, _⟩) 0 (by kernel_rfl) rfl (by rfl) 19 _ _ rfl #[] rfl (run_call Try.func19 (by kernel_rfl) (by kernel_rfl)) ?_
        refine (P.all _).mono ?_
        rintro r v10 ⟨⟨u1, rfl, HG⟩, kb⟩
        replace D := D.trans (kb.mono D.size)
        replace HS := HS.on kb
        replace IS := IS.on kb
        replace IE := IE.on kb
        replace HB := HB.on kb
        replace IB := IB.on kb
        clear kb
        clear hHeld
        obtain ⟨g0, g1, g2, g3, rfl, -⟩ := HG.scs
        refine ⟨bxVal g0 g1 g2 g3, rfl, IE, fun hHeld => ?_⟩
        simp only [Act.put, List.setIfInBounds_toArray, List.set_cons_zero, List.set_cons_succ]
        refine held_call (o := ⟨_, _, _, _, _, _⟩) 2 (by kernel_rfl) rfl (by rfl) 11 _ _ rfl #[bxVal g0 g1 g2 g3, evVal e] rfl (run_call Try.func11 (by kernel_rfl) (by kernel_rfl)) ?_
        refine (refHasBx_any _ _ e _ HG hf).mono ?_
        rintro r v11 ⟨rfl, kb⟩
        replace D := D.trans (kb.mono D.size)
        replace HS := HS.on kb
        replace IS := IS.on kb
        replace IE := IE.on kb
        replace HB := HB.on kb
        replace IB := IB.on kb
        replace HG := HG.on kb
        clear kb
        clear hHeld
        clear HG
        refine ⟨.bool true, ret_bool hok, IE, fun hHeld => ?_⟩
        simp only [Act.put, List.setIfInBounds_toArray, List.set_cons_zero, List.set_cons_succ]
        refine wpAnyH_take (i := 3) (oi := ⟨_, _, _, _, _, _⟩) (v := .bool true) rfl (by kernel_rfl) (by kernel_rfl) (by kernel_rfl) (fun _ _ _ h => h) (yl_assign (by rfl) _ rfl _ rfl) (by assumption) ?_
        simp only [Act.put, List.setIfInBounds_toArray, List.set_cons_zero, List.set_cons_succ]
        refine wpAnyH_done (by kernel_rfl) ?_ _
        clear hHeld
        refine hK5 _ _ ?_
        clear hK5 K5
        refine wp_seq_k (fun K6 hK6 => ?_)
        refine wp_seq_k (fun K7 hK7 => ?_)
        refine wp_region_lit ?_
        refine wl_yield (o := ⟨_, _, _, _, _, _⟩) (.int .i64 3) (yl_move (by rfl) _ rfl _ rfl) ?_
        simp only [Act.put, List.setIfInBounds_toArray, List.set_cons_zero, List.set_cons_succ]
        refine wl_yield (o := ⟨_, _, _, _, _, _⟩) (.bool false) (yl_lssI (by rfl) _ _ _ rfl (3) (0) false rfl rfl (by decide)) ?_
        simp only [Act.put, List.setIfInBounds_toArray, List.set_cons_zero, List.set_cons_succ]
        refine wl_yield (o := ⟨_, _, _, _, _, _⟩) (.bool false) (yl_move (by rfl) _ rfl _ rfl) ?_
        simp only [Act.put, List.setIfInBounds_toArray, List.set_cons_zero, List.set_cons_succ]
        refine wl_yield (o := ⟨_, _, _, _, _, _⟩) (.int .i64 3) (yl_move (by rfl) _ rfl _ rfl) ?_
        simp only [Act.put, List.setIfInBounds_toArray, List.set_cons_zero, List.set_cons_succ]
        refine wl_yield (o := ⟨_, _, _, _, _, _⟩) (.bool false) (yl_gtrI (by rfl) _ _ _ rfl (3) (3) false rfl rfl (by decide)) ?_
        simp only [Act.put, List.setIfInBounds_toArray, List.set_cons_zero, List.set_cons_succ]
        refine wl_yield (o := ⟨_, _, _, _, _, _⟩) (.bool false) (yl_pickF (by rfl) _ _ _ rfl rfl _ rfl) ?_
        simp only [Act.put, List.setIfInBounds_toArray, List.set_cons_zero, List.set_cons_succ]
        refine wpList_nil ?_
        refine hK7 _ _ ?_
        clear hK7 K7
        refine wp_cond_false rfl ?_
        refine wp_skip ?_
        refine hK6 _ _ ?_
        clear hK6 K6
        refine wp_seq_k (fun K8 hK8 => ?_)
        have hat : hasE (allBx.put 3 s) e = (hasE allBx e && hasP s e.v3) := atom_has (s := s) (i := 3) (by omega) he
        rw [hok, Bool.true_and] at hat
        cases hp : hasP s e.v3
        · rw [hp] at hat
          refine wp_region_held_drew (S := fun w' => BxIn w' gb8 b0 b1 b2 b3 ∧ EvIn w' gb2 e ∧ StIn w' gb1 t) (by kernel_rfl) ⟨IB, IE, IS⟩ (fun hHeld => ?_)
          have kb : Below v11.heap.size v11 v11.drew := (Below.refl _ v11).drew
          replace D := D.trans (kb.mono D.size)
          replace HS := HS.on kb
          replace IS := IS.on kb
          replace IE := IE.on kb
          replace HB := HB.on kb
          replace IB := IB.on kb
          clear kb
          generalize v11.drew = v12 at D hHeld HS IS IE HB IB ⊢
          refine wpAnyH_take (i := 0) (oi := ⟨_, _, _, _, _, _⟩) (v := bxVal b0 b1 b2 b3) rfl (by kernel_rfl) (by kernel_rfl) (by kernel_rfl) (fun _ _ _ h => h) (yl_box (by rfl) _ rfl _ 0 rfl _ _ _ _ _ _ _ _ _ _ _ _ _ _ _ _ (fun _ h => BxIn.cells h.1)) (by assumption) ?_
          simp only [Act.put, List.setIfInBounds_toArray, List.set_cons_zero, List.set_cons_succ]
          refine wpAnyH_take (i := 1) (oi := ⟨_, _, _, _, _, _⟩) (v := evVal e) rfl (by kernel_rfl) (by kernel_rfl) (by kernel_rfl) (fun _ _ _ h => h) (yl_ev (by rfl) _ rfl _ 0 rfl _ _ _ _ _ _ _ _ _ _ _ _ (fun _ h => EvIn.cells h.2.1)) (by assumption) ?_
          simp only [Act.put, List.setIfInBounds_toArray, List.set_cons_zero, List.set_cons_succ]
          refine wpAnyH_take (i := 3) (oi := ⟨_, _, _, _, _, _⟩) (v := .bool true) rfl (by kernel_rfl) (by kernel_rfl) (by kernel_rfl) (fun _ _ _ h => h) (yl_move (by rfl) _ rfl _ rfl) (by assumption) ?_
          simp only [Act.put, List.setIfInBounds_toArray, List.set_cons_zero, List.set_cons_succ]
          refine held_call (o := ⟨_, _, _, _, _, _⟩) 2 (by kernel_rfl) rfl (by rfl) 21 _ _ rfl #[bxVal b0 b1 b2 b3, evVal e] rfl (run_call Try.func21 (by kernel_rfl) (by kernel_rfl)) ?_
          refine (P.has _ _ e _ HB FB.fit hf he).mono ?_
          rintro r v13 ⟨rfl, kb⟩
          replace D := D.trans (kb.mono D.size)
          replace HS := HS.on kb
          replace IS := IS.on kb
          replace IE := IE.on kb
          replace HB := HB.on kb
          replace IB := IB.on kb
          clear kb
          clear hHeld
          refine ⟨.bool false, ret_bool hat, ⟨IB, IE, IS⟩, fun hHeld => ?_⟩
          simp only [Act.put, List.setIfInBounds_toArray, List.set_cons_zero, List.set_cons_succ]
          refine wpAnyH_take (i := 4) (oi := ⟨_, _, _, _, _, _⟩) (v := .bool true) rfl (by kernel_rfl) (by kernel_rfl) (by kernel_rfl) (fun _ _ _ h => h) (yl_move (by rfl) _ rfl _ rfl) (by assumption) ?_
          simp only [Act.put, List.setIfInBounds_toArray, List.set_cons_zero, List.set_cons_succ]
          refine wpAnyH_take (i := 5) (oi := ⟨_, _, _, _, _, _⟩) (v := SC.val t) rfl (by kernel_rfl) (by kernel_rfl) (by kernel_rfl) (fun _ _ _ h => h) (yl_set (by rfl) _ rfl _ 0 rfl _ _ _ _ (fun _ h => StIn.cells h.2.2)) (by assumption) ?_
          simp only [Act.put, List.setIfInBounds_toArray, List.set_cons_zero, List.set_cons_succ]
          refine wpAnyH_take (i := 6) (oi := ⟨_, _, _, _, _, _⟩) (v := .int .i64 3) rfl (by kernel_rfl) (by kernel_rfl) (by kernel_rfl) (fun _ _ _ h => h) (yl_move (by rfl) _ rfl _ rfl) (by assumption) ?_
          simp only [Act.put, List.setIfInBounds_toArray, List.set_cons_zero, List.set_cons_succ]
          refine wpAnyH_take (i := 7) (oi := ⟨_, _, _, _, _, _⟩) (v := .pointer (some ⟨gb2, 9, none⟩)) rfl (by kernel_rfl) (by kernel_rfl) (by kernel_rfl) (fun _ _ _ h => h) (yl_atEv (by rfl) _ _ rfl _ 3 rfl rfl (by omega)) (by assumption) ?_
          simp only [Act.put, List.setIfInBounds_toArray, List.set_cons_zero, List.set_cons_succ]
          refine wpAnyH_take (i := 8) (oi := ⟨_, _, _, _, _, _⟩) (v := .agg #[.int .i64 e.v3.1, .int .i64 e.v3.2.1, .string e.v3.2.2]) rfl (by kernel_rfl) (by kernel_rfl) (by kernel_rfl) (fun _ _ _ h => h) (yl_val (by rfl) _ rfl _ 9 rfl _ _ _ (fun _ h => EvIn.at3 h.2.1)) (by assumption) ?_
          simp only [Act.put, List.setIfInBounds_toArray, List.set_cons_zero, List.set_cons_succ]
          refine held_call (o := ⟨_, _, _, _, _, _⟩) 9 (by kernel_rfl) rfl (by rfl) 22 _ _ rfl #[SC.val t, .agg #[.int .i64 e.v3.1, .int .i64 e.v3.2.1, .string e.v3.2.2]] rfl (run_call Try.func22 (by kernel_rfl) (by kernel_rfl)) ?_
          refine (refHas_any _ s e.v3.1 e.v3.2.1 e.v3.2.2 _ HS hf.2.2.2).mono ?_
          rintro r v14 ⟨rfl, kb⟩
          replace D := D.trans (kb.mono D.size)
          replace HS := HS.on kb
          replace IS := IS.on kb
          replace IE := IE.on kb
          replace HB := HB.on kb
          replace IB := IB.on kb
          clear kb
          clear hHeld
          refine ⟨.bool false, ret_bool hp, ⟨IB, IE, IS⟩, fun hHeld => ?_⟩
          simp only [Act.put, List.setIfInBounds_toArray, List.set_cons_zero, List.set_cons_succ]
          refine wpAnyH_take (i := 10) (oi := ⟨_, _, _, _, _, _⟩) (v := .bool false) rfl (by kernel_rfl) (by kernel_rfl) (by kernel_rfl) (fun _ _ _ h => h) (yl_pickT (by rfl) _ _ _ rfl rfl _ rfl) (by assumption) ?_
          simp only [Act.put, List.setIfInBounds_toArray, List.set_cons_zero, List.set_cons_succ]
          refine wpAnyH_take (i := 11) (oi := ⟨_, _, _, _, _, _⟩) (v := .bool true) rfl (by kernel_rfl) (by kernel_rfl) (by kernel_rfl) (fun _ _ _ h => h) (yl_eqB (by rfl) _ _ _ rfl false false rfl rfl) (by assumption) ?_
          simp only [Act.put, List.setIfInBounds_toArray, List.set_cons_zero, List.set_cons_succ]
          refine wpAnyH_take (i := 12) (oi := ⟨_, _, _, _, _, _⟩) (v := .bool true) rfl (by kernel_rfl) (by kernel_rfl) (by kernel_rfl) (fun _ _ _ h => h) (yl_move (by rfl) _ rfl _ rfl) (by assumption) ?_
          simp only [Act.put, List.setIfInBounds_toArray, List.set_cons_zero, List.set_cons_succ]
          refine wpAnyH_take (i := 14) (oi := ⟨_, _, _, _, _, _⟩) (v := .int .i64 3) rfl (by kernel_rfl) (by kernel_rfl) (by kernel_rfl) (fun _ _ _ h => h) (yl_move (by rfl) _ rfl _ rfl) (by assumption) ?_
          simp only [Act.put, List.setIfInBounds_toArray, List.set_cons_zero, List.set_cons_succ]
          refine wpAnyH_take (i := 15) (oi := ⟨_, _, _, _, _, _⟩) (v := SC.val t) rfl (by kernel_rfl) (by kernel_rfl) (by kernel_rfl) (fun _ _ _ h => h) (yl_set (by rfl) _ rfl _ 0 rfl _ _ _ _ (fun _ h => StIn.cells h.2.2)) (by assumption) ?_
          simp only [Act.put, List.setIfInBounds_toArray, List.set_cons_zero, List.set_cons_succ]
          refine wpAnyH_take (i := 17) (oi := ⟨_, _, _, _, _, _⟩) (v := bxVal b0 b1 b2 b3) rfl (by kernel_rfl) (by kernel_rfl) (by kernel_rfl) (fun _ _ _ h => h) (yl_box (by rfl) _ rfl _ 0 rfl _ _ _ _ _ _ _ _ _ _ _ _ _ _ _ _ (fun _ h => BxIn.cells h.1)) (by assumption) ?_
          simp only [Act.put, List.setIfInBounds_toArray, List.set_cons_zero, List.set_cons_succ]
          refine held_call (o := ⟨_, _, _, _, _, _⟩) 13 (by kernel_rfl) rfl (by rfl) 19 _ _ rfl #[] rfl (run_call Try.func19 (by kernel_rfl) (by kernel_rfl)) ?_
          refine (P.all _).mono ?_
          rintro r v15 ⟨⟨u1, rfl, HG⟩, kb⟩
          replace D := D.trans (kb.mono D.size)
          replace HS := HS.on kb
          replace IS := IS.on kb
          replace IE := IE.on kb
          replace HB := HB.on kb
          replace IB := IB.on kb
          clear kb
          clear hHeld
          obtain ⟨g0, g1, g2, g3, rfl, -⟩ := HG.scs
          refine ⟨bxVal g0 g1 g2 g3, rfl, ⟨IB, IE, IS⟩, fun hHeld => ?_⟩
          simp only [Act.put, List.setIfInBounds_toArray, List.set_cons_zero, List.set_cons_succ]
          refine held_call (o := ⟨_, _, _, _, _, _⟩) 16 (by kernel_rfl) rfl (by rfl) 15 _ _ rfl #[bxVal g0 g1 g2 g3, .int .i64 3, SC.val t] rfl (run_call Try.func15 (by kernel_rfl) (by kernel_rfl)) ?_
          refine (P.with_ _ allBx 3 _ s _ (by omega) (by omega) HG allFew.fit HS FS).mono ?_
          rintro r v16 ⟨⟨u1, rfl, HD⟩, kb⟩
          replace D := D.trans (kb.mono D.size)
          replace HS := HS.on kb
          replace IS := IS.on kb
          replace IE := IE.on kb
          replace HB := HB.on kb
          replace IB := IB.on kb
          replace HG := HG.on kb
          clear kb
          clear hHeld
          replace HD : BoxAt _ _ (allBx.put 3 s) := HD
          obtain ⟨d0, d1, d2, d3, rfl, -⟩ := HD.scs
          clear HG
          refine ⟨bxVal d0 d1 d2 d3, rfl, ⟨IB, IE, IS⟩, fun hHeld => ?_⟩
          simp only [Act.put, List.setIfInBounds_toArray, List.set_cons_zero, List.set_cons_succ]
          refine held_call (o := ⟨_, _, _, _, _, _⟩) 18 (by kernel_rfl) rfl (by rfl) 20 _ _ rfl #[bxVal d0 d1 d2 d3, bxVal b0 b1 b2 b3] rfl (run_call Try.func20 (by kernel_rfl) (by kernel_rfl)) ?_
          refine (P.same _ _ _ _ _ HD HB FB.fit FB.fit).mono ?_
          rintro r v17 ⟨rfl, kb⟩
          replace D := D.trans (kb.mono D.size)
          replace HS := HS.on kb
          replace IS := IS.on kb
          replace IE := IE.on kb
          replace HB := HB.on kb
          replace IB := IB.on kb
          replace HD := HD.on kb
          clear kb
          clear hHeld
          clear HD
          refine ⟨.bool true, ret_bool (sameBx_refl _), ⟨IB, IE, IS⟩, fun hHeld => ?_⟩
          simp only [Act.put, List.setIfInBounds_toArray, List.set_cons_zero, List.set_cons_succ]
          refine wpAnyH_take (i := 19) (oi := ⟨_, _, _, _, _, _⟩) (v := .bool true) rfl (by kernel_rfl) (by kernel_rfl) (by kernel_rfl) (fun _ _ _ h => h) (yl_pickT (by rfl) _ _ _ rfl rfl _ rfl) (by assumption) ?_
          simp only [Act.put, List.setIfInBounds_toArray, List.set_cons_zero, List.set_cons_succ]
          refine wpAnyH_take (i := 20) (oi := ⟨_, _, _, _, _, _⟩) (v := .bool true) rfl (by kernel_rfl) (by kernel_rfl) (by kernel_rfl) (fun _ _ _ h => h) (yl_assign (by rfl) _ rfl _ rfl) (by assumption) ?_
          simp only [Act.put, List.setIfInBounds_toArray, List.set_cons_zero, List.set_cons_succ]
          refine wpAnyH_done (by kernel_rfl) ?_ _
          clear hHeld
          refine hK8 _ _ ?_
          clear hK8 K8
          refine wp_ret ?_
          go_ret
          exact ⟨rfl, D⟩
        · rw [hp] at hat
          refine wp_region_held_drew (S := fun w' => BxIn w' gb8 b0 b1 b2 b3 ∧ EvIn w' gb2 e ∧ StIn w' gb1 t) (by kernel_rfl) ⟨IB, IE, IS⟩ (fun hHeld => ?_)
          have kb : Below v11.heap.size v11 v11.drew := (Below.refl _ v11).drew
          replace D := D.trans (kb.mono D.size)
          replace HS := HS.on kb
          replace IS := IS.on kb
          replace IE := IE.on kb
          replace HB := HB.on kb
          replace IB := IB.on kb
          clear kb
          generalize v11.drew = v12 at D hHeld HS IS IE HB IB ⊢
          refine wpAnyH_take (i := 0) (oi := ⟨_, _, _, _, _, _⟩) (v := bxVal b0 b1 b2 b3) rfl (by kernel_rfl) (by kernel_rfl) (by kernel_rfl) (fun _ _ _ h => h) (yl_box (by rfl) _ rfl _ 0 rfl _ _ _ _ _ _ _ _ _ _ _ _ _ _ _ _ (fun _ h => BxIn.cells h.1)) (by assumption) ?_
          simp only [Act.put, List.setIfInBounds_toArray, List.set_cons_zero, List.set_cons_succ]
          refine wpAnyH_take (i := 1) (oi := ⟨_, _, _, _, _, _⟩) (v := evVal e) rfl (by kernel_rfl) (by kernel_rfl) (by kernel_rfl) (fun _ _ _ h => h) (yl_ev (by rfl) _ rfl _ 0 rfl _ _ _ _ _ _ _ _ _ _ _ _ (fun _ h => EvIn.cells h.2.1)) (by assumption) ?_
          simp only [Act.put, List.setIfInBounds_toArray, List.set_cons_zero, List.set_cons_succ]
          refine wpAnyH_take (i := 3) (oi := ⟨_, _, _, _, _, _⟩) (v := .bool true) rfl (by kernel_rfl) (by kernel_rfl) (by kernel_rfl) (fun _ _ _ h => h) (yl_move (by rfl) _ rfl _ rfl) (by assumption) ?_
          simp only [Act.put, List.setIfInBounds_toArray, List.set_cons_zero, List.set_cons_succ]
          refine held_call (o := ⟨_, _, _, _, _, _⟩) 2 (by kernel_rfl) rfl (by rfl) 21 _ _ rfl #[bxVal b0 b1 b2 b3, evVal e] rfl (run_call Try.func21 (by kernel_rfl) (by kernel_rfl)) ?_
          refine (P.has _ _ e _ HB FB.fit hf he).mono ?_
          rintro r v13 ⟨rfl, kb⟩
          replace D := D.trans (kb.mono D.size)
          replace HS := HS.on kb
          replace IS := IS.on kb
          replace IE := IE.on kb
          replace HB := HB.on kb
          replace IB := IB.on kb
          clear kb
          clear hHeld
          refine ⟨.bool true, ret_bool hat, ⟨IB, IE, IS⟩, fun hHeld => ?_⟩
          simp only [Act.put, List.setIfInBounds_toArray, List.set_cons_zero, List.set_cons_succ]
          refine wpAnyH_take (i := 4) (oi := ⟨_, _, _, _, _, _⟩) (v := .bool true) rfl (by kernel_rfl) (by kernel_rfl) (by kernel_rfl) (fun _ _ _ h => h) (yl_move (by rfl) _ rfl _ rfl) (by assumption) ?_
          simp only [Act.put, List.setIfInBounds_toArray, List.set_cons_zero, List.set_cons_succ]
          refine wpAnyH_take (i := 5) (oi := ⟨_, _, _, _, _, _⟩) (v := SC.val t) rfl (by kernel_rfl) (by kernel_rfl) (by kernel_rfl) (fun _ _ _ h => h) (yl_set (by rfl) _ rfl _ 0 rfl _ _ _ _ (fun _ h => StIn.cells h.2.2)) (by assumption) ?_
          simp only [Act.put, List.setIfInBounds_toArray, List.set_cons_zero, List.set_cons_succ]
          refine wpAnyH_take (i := 6) (oi := ⟨_, _, _, _, _, _⟩) (v := .int .i64 3) rfl (by kernel_rfl) (by kernel_rfl) (by kernel_rfl) (fun _ _ _ h => h) (yl_move (by rfl) _ rfl _ rfl) (by assumption) ?_
          simp only [Act.put, List.setIfInBounds_toArray, List.set_cons_zero, List.set_cons_succ]
          refine wpAnyH_take (i := 7) (oi := ⟨_, _, _, _, _, _⟩) (v := .pointer (some ⟨gb2, 9, none⟩)) rfl (by kernel_rfl) (by kernel_rfl) (by kernel_rfl) (fun _ _ _ h => h) (yl_atEv (by rfl) _ _ rfl _ 3 rfl rfl (by omega)) (by assumption) ?_
          simp only [Act.put, List.setIfInBounds_toArray, List.set_cons_zero, List.set_cons_succ]
          refine wpAnyH_take (i := 8) (oi := ⟨_, _, _, _, _, _⟩) (v := .agg #[.int .i64 e.v3.1, .int .i64 e.v3.2.1, .string e.v3.2.2]) rfl (by kernel_rfl) (by kernel_rfl) (by kernel_rfl) (fun _ _ _ h => h) (yl_val (by rfl) _ rfl _ 9 rfl _ _ _ (fun _ h => EvIn.at3 h.2.1)) (by assumption) ?_
          simp only [Act.put, List.setIfInBounds_toArray, List.set_cons_zero, List.set_cons_succ]
          refine held_call (o := ⟨_, _, _, _, _, _⟩) 9 (by kernel_rfl) rfl (by rfl) 22 _ _ rfl #[SC.val t, .agg #[.int .i64 e.v3.1, .int .i64 e.v3.2.1, .string e.v3.2.2]] rfl (run_call Try.func22 (by kernel_rfl) (by kernel_rfl)) ?_
          refine (refHas_any _ s e.v3.1 e.v3.2.1 e.v3.2.2 _ HS hf.2.2.2).mono ?_
          rintro r v14 ⟨rfl, kb⟩
          replace D := D.trans (kb.mono D.size)
          replace HS := HS.on kb
          replace IS := IS.on kb
          replace IE := IE.on kb
          replace HB := HB.on kb
          replace IB := IB.on kb
          clear kb
          clear hHeld
          refine ⟨.bool true, ret_bool hp, ⟨IB, IE, IS⟩, fun hHeld => ?_⟩
          simp only [Act.put, List.setIfInBounds_toArray, List.set_cons_zero, List.set_cons_succ]
          refine wpAnyH_take (i := 10) (oi := ⟨_, _, _, _, _, _⟩) (v := .bool true) rfl (by kernel_rfl) (by kernel_rfl) (by kernel_rfl) (fun _ _ _ h => h) (yl_pickT (by rfl) _ _ _ rfl rfl _ rfl) (by assumption) ?_
          simp only [Act.put, List.setIfInBounds_toArray, List.set_cons_zero, List.set_cons_succ]
          refine wpAnyH_take (i := 11) (oi := ⟨_, _, _, _, _, _⟩) (v := .bool true) rfl (by kernel_rfl) (by kernel_rfl) (by kernel_rfl) (fun _ _ _ h => h) (yl_eqB (by rfl) _ _ _ rfl true true rfl rfl) (by assumption) ?_
          simp only [Act.put, List.setIfInBounds_toArray, List.set_cons_zero, List.set_cons_succ]
          refine wpAnyH_take (i := 12) (oi := ⟨_, _, _, _, _, _⟩) (v := .bool true) rfl (by kernel_rfl) (by kernel_rfl) (by kernel_rfl) (fun _ _ _ h => h) (yl_move (by rfl) _ rfl _ rfl) (by assumption) ?_
          simp only [Act.put, List.setIfInBounds_toArray, List.set_cons_zero, List.set_cons_succ]
          refine wpAnyH_take (i := 14) (oi := ⟨_, _, _, _, _, _⟩) (v := .int .i64 3) rfl (by kernel_rfl) (by kernel_rfl) (by kernel_rfl) (fun _ _ _ h => h) (yl_move (by rfl) _ rfl _ rfl) (by assumption) ?_
          simp only [Act.put, List.setIfInBounds_toArray, List.set_cons_zero, List.set_cons_succ]
          refine wpAnyH_take (i := 15) (oi := ⟨_, _, _, _, _, _⟩) (v := SC.val t) rfl (by kernel_rfl) (by kernel_rfl) (by kernel_rfl) (fun _ _ _ h => h) (yl_set (by rfl) _ rfl _ 0 rfl _ _ _ _ (fun _ h => StIn.cells h.2.2)) (by assumption) ?_
          simp only [Act.put, List.setIfInBounds_toArray, List.set_cons_zero, List.set_cons_succ]
          refine wpAnyH_take (i := 17) (oi := ⟨_, _, _, _, _, _⟩) (v := bxVal b0 b1 b2 b3) rfl (by kernel_rfl) (by kernel_rfl) (by kernel_rfl) (fun _ _ _ h => h) (yl_box (by rfl) _ rfl _ 0 rfl _ _ _ _ _ _ _ _ _ _ _ _ _ _ _ _ (fun _ h => BxIn.cells h.1)) (by assumption) ?_
          simp only [Act.put, List.setIfInBounds_toArray, List.set_cons_zero, List.set_cons_succ]
          refine held_call (o := ⟨_, _, _, _, _, _⟩) 13 (by kernel_rfl) rfl (by rfl) 19 _ _ rfl #[] rfl (run_call Try.func19 (by kernel_rfl) (by kernel_rfl)) ?_
          refine (P.all _).mono ?_
          rintro r v15 ⟨⟨u1, rfl, HG⟩, kb⟩
          replace D := D.trans (kb.mono D.size)
          replace HS := HS.on kb
          replace IS := IS.on kb
          replace IE := IE.on kb
          replace HB := HB.on kb
          replace IB := IB.on kb
          clear kb
          clear hHeld
          obtain ⟨g0, g1, g2, g3, rfl, -⟩ := HG.scs
          refine ⟨bxVal g0 g1 g2 g3, rfl, ⟨IB, IE, IS⟩, fun hHeld => ?_⟩
          simp only [Act.put, List.setIfInBounds_toArray, List.set_cons_zero, List.set_cons_succ]
          refine held_call (o := ⟨_, _, _, _, _, _⟩) 16 (by kernel_rfl) rfl (by rfl) 15 _ _ rfl #[bxVal g0 g1 g2 g3, .int .i64 3, SC.val t] rfl (run_call Try.func15 (by kernel_rfl) (by kernel_rfl)) ?_
          refine (P.with_ _ allBx 3 _ s _ (by omega) (by omega) HG allFew.fit HS FS).mono ?_
          rintro r v16 ⟨⟨u1, rfl, HD⟩, kb⟩
          replace D := D.trans (kb.mono D.size)
          replace HS := HS.on kb
          replace IS := IS.on kb
          replace IE := IE.on kb
          replace HB := HB.on kb
          replace IB := IB.on kb
          replace HG := HG.on kb
          clear kb
          clear hHeld
          replace HD : BoxAt _ _ (allBx.put 3 s) := HD
          obtain ⟨d0, d1, d2, d3, rfl, -⟩ := HD.scs
          clear HG
          refine ⟨bxVal d0 d1 d2 d3, rfl, ⟨IB, IE, IS⟩, fun hHeld => ?_⟩
          simp only [Act.put, List.setIfInBounds_toArray, List.set_cons_zero, List.set_cons_succ]
          refine held_call (o := ⟨_, _, _, _, _, _⟩) 18 (by kernel_rfl) rfl (by rfl) 20 _ _ rfl #[bxVal d0 d1 d2 d3, bxVal b0 b1 b2 b3] rfl (run_call Try.func20 (by kernel_rfl) (by kernel_rfl)) ?_
          refine (P.same _ _ _ _ _ HD HB FB.fit FB.fit).mono ?_
          rintro r v17 ⟨rfl, kb⟩
          replace D := D.trans (kb.mono D.size)
          replace HS := HS.on kb
          replace IS := IS.on kb
          replace IE := IE.on kb
          replace HB := HB.on kb
          replace IB := IB.on kb
          replace HD := HD.on kb
          clear kb
          clear hHeld
          clear HD
          refine ⟨.bool true, ret_bool (sameBx_refl _), ⟨IB, IE, IS⟩, fun hHeld => ?_⟩
          simp only [Act.put, List.setIfInBounds_toArray, List.set_cons_zero, List.set_cons_succ]
          refine wpAnyH_take (i := 19) (oi := ⟨_, _, _, _, _, _⟩) (v := .bool true) rfl (by kernel_rfl) (by kernel_rfl) (by kernel_rfl) (fun _ _ _ h => h) (yl_pickT (by rfl) _ _ _ rfl rfl _ rfl) (by assumption) ?_
          simp only [Act.put, List.setIfInBounds_toArray, List.set_cons_zero, List.set_cons_succ]
          refine wpAnyH_take (i := 20) (oi := ⟨_, _, _, _, _, _⟩) (v := .bool true) rfl (by kernel_rfl) (by kernel_rfl) (by kernel_rfl) (fun _ _ _ h => h) (yl_assign (by rfl) _ rfl _ rfl) (by assumption) ?_
          simp only [Act.put, List.setIfInBounds_toArray, List.set_cons_zero, List.set_cons_succ]
          refine wpAnyH_done (by kernel_rfl) ?_ _
          clear hHeld
          refine hK8 _ _ ?_
          clear hK8 K8
          refine wp_ret ?_
          go_ret
          exact ⟨rfl, D⟩
theorem boxAtoms_walk (P : BoxProg) (x : Int) (x0 : -9223372036854775808 ≤ x) (x1 : x ≤ 9223372036854775807) (u : Value) (s : SetV) (e : EvV) (w : World) (HS : SetAt w u s) (hf : evFit e) (he : inE e) :
    Calls Try.prog 5 #[.int .i64 x, u, evVal e] w fun r w' => r = .returned (.bool true) ∧ Below w.heap.size w w' := by
  rcases (by omega : x < 0 ∨ x = 0 ∨ x = 1 ∨ x = 2 ∨ x = 3 ∨ 3 < x) with hx | rfl | rfl | rfl | rfl | hx
  · exact atoms_low P x x0 x1 hx u s e w HS hf he
  · exact atoms_0 P u s e w HS hf he
  · exact atoms_1 P u s e w HS hf he
  · exact atoms_2 P u s e w HS hf he
  · exact atoms_3 P u s e w HS hf he
  · exact atoms_high P x x0 x1 hx u s e w HS hf he
end Go.Proofs.Yteahjihmpchcbaa
