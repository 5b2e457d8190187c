/-
  The law DnfOrs.
-/
import Derived.Test.YtlfhpocfacaaeaaGreatQ6
set_option linter.unusedSimpArgs false
set_option linter.unusedVariables false
namespace Go.Proofs.YtlfhpocfacaaeaaGreat
open Go.RowKit

theorem cp_two {n : Nat} {x y : ExV} (h : cpX n x) (h' : cpX n y) : ∀ z ∈ [x, y], cpX n z := fun z hz => by
  simp only [List.mem_cons, List.not_mem_nil, or_false] at hz
  rcases hz with rfl | rfl
  · exact h
  · exact h'
set_option maxHeartbeats 8000000 in
set_option maxRecDepth 100000 in
theorem dnfOrs_law (n m : Nat) (c d : EC) (x y : ExV) (e : EvV) (w : World) (hx : Xp n w c x) (hy : Xp m w d y) (hf : evFit e) (he : inE e) :
    Calls Tryz.prog 8 #[c.val, d.val, evVal e] w fun r w' => r = .returned (.bool true) ∧ Below w.heap.size w w' := by
  have D := Below.refl w.heap.size w
  go_enter Tryz.func8, Tryz.ntmps8
  refine wp_seq_k (fun K1 hK1 => ?_)
  refine wp_region_lit ?_
  refine wl_boxEx (o := ⟨_, _, _, _, _, _⟩) (by rfl) _ rfl rfl (fun v1 gb1 HB kb => ?_)
  simp only [Act.put, List.setIfInBounds_toArray, List.set_cons_zero, List.set_cons_succ]
  replace D := D.trans (kb.mono D.size)
  replace hx := hx.on kb
  replace hy := hy.on kb
  clear kb
  refine wl_boxEx (o := ⟨_, _, _, _, _, _⟩) (by rfl) _ rfl rfl (fun v2 gb2 HC kb => ?_)
  simp only [Act.put, List.setIfInBounds_toArray, List.set_cons_zero, List.set_cons_succ]
  replace D := D.trans (kb.mono D.size)
  replace hx := hx.on kb
  replace hy := hy.on kb
  replace HB := HB.on kb
  clear kb
  refine wl_evBox (o := ⟨_, _, _, _, _, _⟩) (by rfl) _ rfl rfl (fun v3 gb3 HE kb => ?_)
  simp only [Act.put, List.setIfInBounds_toArray, List.set_cons_zero, List.set_cons_succ]
  replace D := D.trans (kb.mono D.size)
  replace hx := hx.on kb
  replace hy := hy.on kb
  replace HB := HB.on kb
  replace HC := HC.on kb
  clear kb
  refine wl_yield (o := ⟨_, _, _, _, _, _⟩) (.bool false) (yl_assign (by rfl) _ rfl _ rfl) ?_
  simp only [Act.put, List.setIfInBounds_toArray, List.set_cons_zero, List.set_cons_succ]
  refine wpList_nil ?_
  refine hK1 _ _ ?_
  clear hK1 K1
  refine wp_seq_k (fun K2 hK2 => ?_)
  refine wp_seq_k (fun K3 hK3 => ?_)
  refine wp_region_lit ?_
  refine wl_call (o := ⟨_, _, _, _, _, _⟩) (by rfl) 10 _ _ rfl #[] rfl (run_call Tryz.func10 (by kernel_rfl) (by kernel_rfl)) ?_
  refine (awake6_any _).mono ?_
  rintro r v4 ⟨rfl, kb⟩
  replace D := D.trans (kb.mono D.size)
  replace hx := hx.on kb
  replace hy := hy.on kb
  replace HB := HB.on kb
  replace HC := HC.on kb
  replace HE := HE.on kb
  clear kb
  refine ⟨.bool true, rfl, ?_⟩
  simp only [Act.put, List.setIfInBounds_toArray, List.set_cons_zero, List.set_cons_succ]
  refine wl_yield (o := ⟨_, _, _, _, _, _⟩) (.bool false) (yl_not (by rfl) _ _ rfl true rfl) ?_
  simp only [Act.put, List.setIfInBounds_toArray, List.set_cons_zero, List.set_cons_succ]
  refine wl_yield (o := ⟨_, _, _, _, _, _⟩) (.bool false) (yl_move (by rfl) _ rfl _ rfl) ?_
  simp only [Act.put, List.setIfInBounds_toArray, List.set_cons_zero, List.set_cons_succ]
  refine wl_yield (o := ⟨_, _, _, _, _, _⟩) (EC.val c) (yl_ex (by rfl) _ rfl _ 0 rfl _ (fun _ h => by subst h; exact ExIn.ec HB)) ?_
  simp only [Act.put, List.setIfInBounds_toArray, List.set_cons_zero, List.set_cons_succ]
  refine wl_call (o := ⟨_, _, _, _, _, _⟩) (by rfl) 11 _ _ rfl #[EC.val c] rfl (run_call Tryz.func11 (by kernel_rfl) (by kernel_rfl)) ?_
  refine (c_refFew hx).mono ?_
  rintro r v5 ⟨rfl, kb⟩
  replace D := D.trans (kb.mono D.size)
  replace hx := hx.on kb
  replace hy := hy.on kb
  replace HB := HB.on kb
  replace HC := HC.on kb
  replace HE := HE.on kb
  clear kb
  cases hq : fewX n x
  · refine ⟨.bool false, rfl, ?_⟩
    simp only [Act.put, List.setIfInBounds_toArray, List.set_cons_zero, List.set_cons_succ]
    refine wl_yield (o := ⟨_, _, _, _, _, _⟩) (.bool true) (yl_not (by rfl) _ _ rfl false rfl) ?_
    simp only [Act.put, List.setIfInBounds_toArray, List.set_cons_zero, List.set_cons_succ]
    refine wl_yield (o := ⟨_, _, _, _, _, _⟩) (.bool true) (yl_pickF (by rfl) _ _ _ rfl rfl _ rfl) ?_
    simp only [Act.put, List.setIfInBounds_toArray, List.set_cons_zero, List.set_cons_succ]
    refine wl_yield (o := ⟨_, _, _, _, _, _⟩) (.bool true) (yl_move (by rfl) _ rfl _ rfl) ?_
    simp only [Act.put, List.setIfInBounds_toArray, List.set_cons_zero, List.set_cons_succ]
    with_reducible refine wl_yield (o := ⟨_, _, _, _, _, _⟩) undef (yl_undef (by kernel_rfl)) ?_
    simp only [Act.put, List.setIfInBounds_toArray, List.set_cons_zero, List.set_cons_succ]
    with_reducible refine wl_yield (o := ⟨_, _, _, _, _, _⟩) undef (yl_undef (by kernel_rfl)) ?_
    simp only [Act.put, List.setIfInBounds_toArray, List.set_cons_zero, List.set_cons_succ]
    with_reducible refine wl_yield (o := ⟨_, _, _, _, _, _⟩) undef (yl_undef (by kernel_rfl)) ?_
    simp only [Act.put, List.setIfInBounds_toArray, List.set_cons_zero, List.set_cons_succ]
    refine wl_yield (o := ⟨_, _, _, _, _, _⟩) (.bool true) (yl_pickT (by rfl) _ _ _ rfl rfl _ rfl) ?_
    simp only [Act.put, List.setIfInBounds_toArray, List.set_cons_zero, List.set_cons_succ]
    refine wpList_nil ?_
    refine hK3 _ _ ?_
    clear hK3 K3
    refine wp_cond_true rfl ?_
    refine wp_seq_k (fun K4 hK4 => ?_)
    refine wp_region_lit ?_
    refine wl_call (o := ⟨_, _, _, _, _, _⟩) (by rfl) 10 _ _ rfl #[] rfl (run_call Tryz.func10 (by kernel_rfl) (by kernel_rfl)) ?_
    refine (awake6_any _).mono ?_
    rintro r v6 ⟨rfl, kb⟩
    replace D := D.trans (kb.mono D.size)
    replace hx := hx.on kb
    replace hy := hy.on kb
    replace HB := HB.on kb
    replace HC := HC.on kb
    replace HE := HE.on kb
    clear kb
    refine ⟨.bool true, rfl, ?_⟩
    simp only [Act.put, List.setIfInBounds_toArray, List.set_cons_zero, List.set_cons_succ]
    refine wl_yield (o := ⟨_, _, _, _, _, _⟩) (.bool true) (yl_assign (by rfl) _ rfl _ rfl) ?_
    simp only [Act.put, List.setIfInBounds_toArray, List.set_cons_zero, List.set_cons_succ]
    refine wpList_nil ?_
    refine hK4 _ _ ?_
    clear hK4 K4
    refine wp_ret ?_
    go_ret
    exact ⟨rfl, D⟩
  · refine ⟨.bool true, rfl, ?_⟩
    simp only [Act.put, List.setIfInBounds_toArray, List.set_cons_zero, List.set_cons_succ]
    refine wl_yield (o := ⟨_, _, _, _, _, _⟩) (.bool false) (yl_not (by rfl) _ _ rfl true rfl) ?_
    simp only [Act.put, List.setIfInBounds_toArray, List.set_cons_zero, List.set_cons_succ]
    refine wl_yield (o := ⟨_, _, _, _, _, _⟩) (.bool false) (yl_pickF (by rfl) _ _ _ rfl rfl _ rfl) ?_
    simp only [Act.put, List.setIfInBounds_toArray, List.set_cons_zero, List.set_cons_succ]
    refine wl_yield (o := ⟨_, _, _, _, _, _⟩) (.bool false) (yl_move (by rfl) _ rfl _ rfl) ?_
    simp only [Act.put, List.setIfInBounds_toArray, List.set_cons_zero, List.set_cons_succ]
    refine wl_yield (o := ⟨_, _, _, _, _, _⟩) (EC.val d) (yl_ex (by rfl) _ rfl _ 0 rfl _ (fun _ h => by subst h; exact ExIn.ec HC)) ?_
    simp only [Act.put, List.setIfInBounds_toArray, List.set_cons_zero, List.set_cons_succ]
    refine wl_call (o := ⟨_, _, _, _, _, _⟩) (by rfl) 11 _ _ rfl #[EC.val d] rfl (run_call Tryz.func11 (by kernel_rfl) (by kernel_rfl)) ?_
    refine (c_refFew hy).mono ?_
    rintro r v6 ⟨rfl, kb⟩
    replace D := D.trans (kb.mono D.size)
    replace hx := hx.on kb
    replace hy := hy.on kb
    replace HB := HB.on kb
    replace HC := HC.on kb
    replace HE := HE.on kb
    clear kb
    cases hq2 : fewX m y
    · refine ⟨.bool false, rfl, ?_⟩
      simp only [Act.put, List.setIfInBounds_toArray, List.set_cons_zero, List.set_cons_succ]
      refine wl_yield (o := ⟨_, _, _, _, _, _⟩) (.bool true) (yl_not (by rfl) _ _ rfl false rfl) ?_
      simp only [Act.put, List.setIfInBounds_toArray, List.set_cons_zero, List.set_cons_succ]
      refine wl_yield (o := ⟨_, _, _, _, _, _⟩) (.bool true) (yl_pickF (by rfl) _ _ _ rfl rfl _ rfl) ?_
      simp only [Act.put, List.setIfInBounds_toArray, List.set_cons_zero, List.set_cons_succ]
      refine wpList_nil ?_
      refine hK3 _ _ ?_
      clear hK3 K3
      refine wp_cond_true rfl ?_
      refine wp_seq_k (fun K4 hK4 => ?_)
      refine wp_region_lit ?_
      refine wl_call (o := ⟨_, _, _, _, _, _⟩) (by rfl) 10 _ _ rfl #[] rfl (run_call Tryz.func10 (by kernel_rfl) (by kernel_rfl)) ?_
      refine (awake6_any _).mono ?_
      rintro r v7 ⟨rfl, kb⟩
      replace D := D.trans (kb.mono D.size)
      replace hx := hx.on kb
      replace hy := hy.on kb
      replace HB := HB.on kb
      replace HC := HC.on kb
      replace HE := HE.on kb
      clear kb
      refine ⟨.bool true, rfl, ?_⟩
      simp only [Act.put, List.setIfInBounds_toArray, List.set_cons_zero, List.set_cons_succ]
      refine wl_yield (o := ⟨_, _, _, _, _, _⟩) (.bool true) (yl_assign (by rfl) _ rfl _ rfl) ?_
      simp only [Act.put, List.setIfInBounds_toArray, List.set_cons_zero, List.set_cons_succ]
      refine wpList_nil ?_
      refine hK4 _ _ ?_
      clear hK4 K4
      refine wp_ret ?_
      go_ret
      exact ⟨rfl, D⟩
    · refine ⟨.bool true, rfl, ?_⟩
      simp only [Act.put, List.setIfInBounds_toArray, List.set_cons_zero, List.set_cons_succ]
      refine wl_yield (o := ⟨_, _, _, _, _, _⟩) (.bool false) (yl_not (by rfl) _ _ rfl true rfl) ?_
      simp only [Act.put, List.setIfInBounds_toArray, List.set_cons_zero, List.set_cons_succ]
      refine wl_yield (o := ⟨_, _, _, _, _, _⟩) (.bool false) (yl_pickF (by rfl) _ _ _ rfl rfl _ rfl) ?_
      simp only [Act.put, List.setIfInBounds_toArray, List.set_cons_zero, List.set_cons_succ]
      refine wpList_nil ?_
      refine hK3 _ _ ?_
      clear hK3 K3
      refine wp_cond_false rfl ?_
      refine wp_skip ?_
      refine hK2 _ _ ?_
      clear hK2 K2
      refine wp_seq_k (fun K4 hK4 => ?_)
      refine wp_region_lit ?_
      refine wl_yield (o := ⟨_, _, _, _, _, _⟩) (EC.val c) (yl_ex (by rfl) _ rfl _ 0 rfl _ (fun _ h => by subst h; exact ExIn.ec HB)) ?_
      simp only [Act.put, List.setIfInBounds_toArray, List.set_cons_zero, List.set_cons_succ]
      refine wl_call (o := ⟨_, _, _, _, _, _⟩) (by rfl) 12 _ _ rfl #[EC.val c] rfl (run_call Tryz.func12 (by kernel_rfl) (by kernel_rfl)) ?_
      refine (dnfOf_has 19 _ x _ (few_cp hx hq).1 (by omega)).mono ?_
      rintro r v7 ⟨⟨l1, z1, p1, c1, rfl, hb1, fl1, hh1, hv1, ho1⟩, kb⟩
      replace D := D.trans (kb.mono D.size)
      replace hx := hx.on kb
      replace hy := hy.on kb
      replace HB := HB.on kb
      replace HC := HC.on kb
      replace HE := HE.on kb
      clear kb
      by_cases hA : z1 = 0
      · refine ⟨.tuple #[.slice p1 l1.length c1, .int .i64 z1], rfl, ?_⟩
        simp only [Act.put, List.setIfInBounds_toArray, List.set_cons_zero, List.set_cons_succ]
        refine wl_yield (o := ⟨_, _, _, _, _, _⟩) (.tuple #[.slice p1 l1.length c1, .int .i64 z1]) (yl_move (by rfl) _ rfl _ rfl) ?_
        simp only [Act.put, List.setIfInBounds_toArray, List.set_cons_zero, List.set_cons_succ]
        refine wl_yield (o := ⟨_, _, _, _, _, _⟩) (.slice p1 l1.length c1) (yl_extract0 (by rfl) _ rfl _ _ rfl) ?_
        simp only [Act.put, List.setIfInBounds_toArray, List.set_cons_zero, List.set_cons_succ]
        refine wl_yield (o := ⟨_, _, _, _, _, _⟩) (.int .i64 z1) (yl_extract1 (by rfl) _ rfl _ _ rfl) ?_
        simp only [Act.put, List.setIfInBounds_toArray, List.set_cons_zero, List.set_cons_succ]
        refine wl_yield (o := ⟨_, _, _, _, _, _⟩) (.slice p1 l1.length c1) (yl_assign (by rfl) _ rfl _ rfl) ?_
        simp only [Act.put, List.setIfInBounds_toArray, List.set_cons_zero, List.set_cons_succ]
        refine wl_yield (o := ⟨_, _, _, _, _, _⟩) (.int .i64 z1) (yl_assign (by rfl) _ rfl _ rfl) ?_
        simp only [Act.put, List.setIfInBounds_toArray, List.set_cons_zero, List.set_cons_succ]
        refine wpList_nil ?_
        refine hK4 _ _ ?_
        clear hK4 K4
        refine wp_seq_k (fun K5 hK5 => ?_)
        refine wp_region_lit ?_
        refine wl_yield (o := ⟨_, _, _, _, _, _⟩) (EC.val d) (yl_ex (by rfl) _ rfl _ 0 rfl _ (fun _ h => by subst h; exact ExIn.ec HC)) ?_
        simp only [Act.put, List.setIfInBounds_toArray, List.set_cons_zero, List.set_cons_succ]
        refine wl_call (o := ⟨_, _, _, _, _, _⟩) (by rfl) 12 _ _ rfl #[EC.val d] rfl (run_call Tryz.func12 (by kernel_rfl) (by kernel_rfl)) ?_
        refine (dnfOf_has 19 _ y _ (few_cp hy hq2).1 (by omega)).mono ?_
        rintro r v8 ⟨⟨l2, z2, p2, c2, rfl, hb2, fl2, hh2, hv2, ho2⟩, kb⟩
        replace D := D.trans (kb.mono D.size)
        replace hx := hx.on kb
        replace hy := hy.on kb
        replace HB := HB.on kb
        replace HC := HC.on kb
        replace HE := HE.on kb
        replace hb1 := hb1.on kb
        clear kb
        by_cases hB : z2 = 0
        · refine ⟨.tuple #[.slice p2 l2.length c2, .int .i64 z2], rfl, ?_⟩
          simp only [Act.put, List.setIfInBounds_toArray, List.set_cons_zero, List.set_cons_succ]
          refine wl_yield (o := ⟨_, _, _, _, _, _⟩) (.tuple #[.slice p2 l2.length c2, .int .i64 z2]) (yl_move (by rfl) _ rfl _ rfl) ?_
          simp only [Act.put, List.setIfInBounds_toArray, List.set_cons_zero, List.set_cons_succ]
          refine wl_yield (o := ⟨_, _, _, _, _, _⟩) (.slice p2 l2.length c2) (yl_extract0 (by rfl) _ rfl _ _ rfl) ?_
          simp only [Act.put, List.setIfInBounds_toArray, List.set_cons_zero, List.set_cons_succ]
          refine wl_yield (o := ⟨_, _, _, _, _, _⟩) (.int .i64 z2) (yl_extract1 (by rfl) _ rfl _ _ rfl) ?_
          simp only [Act.put, List.setIfInBounds_toArray, List.set_cons_zero, List.set_cons_succ]
          refine wl_yield (o := ⟨_, _, _, _, _, _⟩) (.slice p2 l2.length c2) (yl_assign (by rfl) _ rfl _ rfl) ?_
          simp only [Act.put, List.setIfInBounds_toArray, List.set_cons_zero, List.set_cons_succ]
          refine wl_yield (o := ⟨_, _, _, _, _, _⟩) (.int .i64 z2) (yl_assign (by rfl) _ rfl _ rfl) ?_
          simp only [Act.put, List.setIfInBounds_toArray, List.set_cons_zero, List.set_cons_succ]
          refine wpList_nil ?_
          refine hK5 _ _ ?_
          clear hK5 K5
          refine wp_seq_k (fun K6 hK6 => ?_)
          refine wp_region_lit ?_
          refine wl_yield (o := ⟨_, _, _, _, _, _⟩) (EC.val c) (yl_ex (by rfl) _ rfl _ 0 rfl _ (fun _ h => by subst h; exact ExIn.ec HB)) ?_
          simp only [Act.put, List.setIfInBounds_toArray, List.set_cons_zero, List.set_cons_succ]
          refine wl_yield (o := ⟨_, _, _, _, _, _⟩) (EC.val d) (yl_ex (by rfl) _ rfl _ 0 rfl _ (fun _ h => by subst h; exact ExIn.ec HC)) ?_
          simp only [Act.put, List.setIfInBounds_toArray, List.set_cons_zero, List.set_cons_succ]
          refine wl_row2X (o := ⟨_, _, _, _, _, _⟩) (by rfl) _ _ rfl rfl rfl (few_cp hx hq).1 (few_cp hy hq2).1 (fun v9 pr5 HR5 kb => ?_)
          simp only [Act.put, List.setIfInBounds_toArray, List.set_cons_zero, List.set_cons_succ]
          replace D := D.trans (kb.mono D.size)
          replace hx := hx.on kb
          replace hy := hy.on kb
          replace HB := HB.on kb
          replace HC := HC.on kb
          replace HE := HE.on kb
          replace hb1 := hb1.on kb
          replace hb2 := hb2.on kb
          clear kb
          refine wl_call (o := ⟨_, _, _, _, _, _⟩) (by rfl) 28 _ _ rfl #[.slice pr5 2 2] rfl (run_call Tryz.func28 (by kernel_rfl) (by kernel_rfl)) ?_
          refine (c_or HR5 (by simp) (cp_two (few_cp hx hq).2 (few_cp hy hq2).2)).mono ?_
          rintro r v10 ⟨⟨o1, rfl, HO⟩, kb⟩
          replace D := D.trans (kb.mono D.size)
          replace hx := hx.on kb
          replace hy := hy.on kb
          replace HB := HB.on kb
          replace HC := HC.on kb
          replace HE := HE.on kb
          replace hb1 := hb1.on kb
          replace hb2 := hb2.on kb
          clear kb
          refine ⟨EC.val o1, rfl, ?_⟩
          simp only [Act.put, List.setIfInBounds_toArray, List.set_cons_zero, List.set_cons_succ]
          refine wl_call (o := ⟨_, _, _, _, _, _⟩) (by rfl) 12 _ _ rfl #[EC.val o1] rfl (run_call Tryz.func12 (by kernel_rfl) (by kernel_rfl)) ?_
          refine (dnfOf_has 20 _ (orX [x, y]) _ HO (by omega)).mono ?_
          rintro r v11 ⟨⟨l3, z3, p3, c3, rfl, hb3, fl3, hh3, hv3, ho3⟩, kb⟩
          replace D := D.trans (kb.mono D.size)
          replace hx := hx.on kb
          replace hy := hy.on kb
          replace HB := HB.on kb
          replace HC := HC.on kb
          replace HE := HE.on kb
          replace hb1 := hb1.on kb
          replace hb2 := hb2.on kb
          replace HO := HO.on kb
          clear kb
          by_cases hO : z3 = 0
          · refine ⟨.tuple #[.slice p3 l3.length c3, .int .i64 z3], rfl, ?_⟩
            simp only [Act.put, List.setIfInBounds_toArray, List.set_cons_zero, List.set_cons_succ]
            refine wl_yield (o := ⟨_, _, _, _, _, _⟩) (.tuple #[.slice p3 l3.length c3, .int .i64 z3]) (yl_move (by rfl) _ rfl _ rfl) ?_
            simp only [Act.put, List.setIfInBounds_toArray, List.set_cons_zero, List.set_cons_succ]
            refine wl_yield (o := ⟨_, _, _, _, _, _⟩) (.slice p3 l3.length c3) (yl_extract0 (by rfl) _ rfl _ _ rfl) ?_
            simp only [Act.put, List.setIfInBounds_toArray, List.set_cons_zero, List.set_cons_succ]
            refine wl_yield (o := ⟨_, _, _, _, _, _⟩) (.int .i64 z3) (yl_extract1 (by rfl) _ rfl _ _ rfl) ?_
            simp only [Act.put, List.setIfInBounds_toArray, List.set_cons_zero, List.set_cons_succ]
            refine wl_yield (o := ⟨_, _, _, _, _, _⟩) (.slice p3 l3.length c3) (yl_assign (by rfl) _ rfl _ rfl) ?_
            simp only [Act.put, List.setIfInBounds_toArray, List.set_cons_zero, List.set_cons_succ]
            refine wl_yield (o := ⟨_, _, _, _, _, _⟩) (.int .i64 z3) (yl_assign (by rfl) _ rfl _ rfl) ?_
            simp only [Act.put, List.setIfInBounds_toArray, List.set_cons_zero, List.set_cons_succ]
            refine wpList_nil ?_
            refine hK6 _ _ ?_
            clear hK6 K6
            refine wp_seq_k (fun K7 hK7 => ?_)
            refine wp_region_lit ?_
            refine wl_yield (o := ⟨_, _, _, _, _, _⟩) (EC.val c) (yl_ex (by rfl) _ rfl _ 0 rfl _ (fun _ h => by subst h; exact ExIn.ec HB)) ?_
            simp only [Act.put, List.setIfInBounds_toArray, List.set_cons_zero, List.set_cons_succ]
            refine wl_yield (o := ⟨_, _, _, _, _, _⟩) (EC.val d) (yl_ex (by rfl) _ rfl _ 0 rfl _ (fun _ h => by subst h; exact ExIn.ec HC)) ?_
            simp only [Act.put, List.setIfInBounds_toArray, List.set_cons_zero, List.set_cons_succ]
            refine wl_row2X (o := ⟨_, _, _, _, _, _⟩) (by rfl) _ _ rfl rfl rfl (few_cp hx hq).1 (few_cp hy hq2).1 (fun v12 pr6 HR6 kb => ?_)
            simp only [Act.put, List.setIfInBounds_toArray, List.set_cons_zero, List.set_cons_succ]
            replace D := D.trans (kb.mono D.size)
            replace hx := hx.on kb
            replace hy := hy.on kb
            replace HB := HB.on kb
            replace HC := HC.on kb
            replace HE := HE.on kb
            replace hb1 := hb1.on kb
            replace hb2 := hb2.on kb
            replace HO := HO.on kb
            replace hb3 := hb3.on kb
            clear kb
            refine wl_call (o := ⟨_, _, _, _, _, _⟩) (by rfl) 27 _ _ rfl #[.slice pr6 2 2] rfl (run_call Tryz.func27 (by kernel_rfl) (by kernel_rfl)) ?_
            refine (c_and HR6 (by simp) (cp_two (few_cp hx hq).2 (few_cp hy hq2).2)).mono ?_
            rintro r v13 ⟨⟨n1, rfl, HN⟩, kb⟩
            replace D := D.trans (kb.mono D.size)
            replace hx := hx.on kb
            replace hy := hy.on kb
            replace HB := HB.on kb
            replace HC := HC.on kb
            replace HE := HE.on kb
            replace hb1 := hb1.on kb
            replace hb2 := hb2.on kb
            replace HO := HO.on kb
            replace hb3 := hb3.on kb
            clear kb
            refine ⟨EC.val n1, rfl, ?_⟩
            simp only [Act.put, List.setIfInBounds_toArray, List.set_cons_zero, List.set_cons_succ]
            refine wl_call (o := ⟨_, _, _, _, _, _⟩) (by rfl) 12 _ _ rfl #[EC.val n1] rfl (run_call Tryz.func12 (by kernel_rfl) (by kernel_rfl)) ?_
            refine (dnfOf_has 20 _ (andX [x, y]) _ HN (by omega)).mono ?_
            rintro r v14 ⟨⟨l4, z4, p4, c4, rfl, hb4, fl4, hh4, hv4, ho4⟩, kb⟩
            replace D := D.trans (kb.mono D.size)
            replace hx := hx.on kb
            replace hy := hy.on kb
            replace HB := HB.on kb
            replace HC := HC.on kb
            replace HE := HE.on kb
            replace hb1 := hb1.on kb
            replace hb2 := hb2.on kb
            replace HO := HO.on kb
            replace hb3 := hb3.on kb
            replace HN := HN.on kb
            clear kb
            by_cases hN : z4 = 0
            · refine ⟨.tuple #[.slice p4 l4.length c4, .int .i64 z4], rfl, ?_⟩
              simp only [Act.put, List.setIfInBounds_toArray, List.set_cons_zero, List.set_cons_succ]
              refine wl_yield (o := ⟨_, _, _, _, _, _⟩) (.tuple #[.slice p4 l4.length c4, .int .i64 z4]) (yl_move (by rfl) _ rfl _ rfl) ?_
              simp only [Act.put, List.setIfInBounds_toArray, List.set_cons_zero, List.set_cons_succ]
              refine wl_yield (o := ⟨_, _, _, _, _, _⟩) (.slice p4 l4.length c4) (yl_extract0 (by rfl) _ rfl _ _ rfl) ?_
              simp only [Act.put, List.setIfInBounds_toArray, List.set_cons_zero, List.set_cons_succ]
              refine wl_yield (o := ⟨_, _, _, _, _, _⟩) (.int .i64 z4) (yl_extract1 (by rfl) _ rfl _ _ rfl) ?_
              simp only [Act.put, List.setIfInBounds_toArray, List.set_cons_zero, List.set_cons_succ]
              refine wl_yield (o := ⟨_, _, _, _, _, _⟩) (.slice p4 l4.length c4) (yl_assign (by rfl) _ rfl _ rfl) ?_
              simp only [Act.put, List.setIfInBounds_toArray, List.set_cons_zero, List.set_cons_succ]
              refine wl_yield (o := ⟨_, _, _, _, _, _⟩) (.int .i64 z4) (yl_assign (by rfl) _ rfl _ rfl) ?_
              simp only [Act.put, List.setIfInBounds_toArray, List.set_cons_zero, List.set_cons_succ]
              refine wpList_nil ?_
              refine hK7 _ _ ?_
              clear hK7 K7
              refine wp_seq_k (fun K8 hK8 => ?_)
              refine wp_seq_k (fun K9 hK9 => ?_)
              refine wp_region_lit ?_
              refine wl_yield (o := ⟨_, _, _, _, _, _⟩) (.int .i64 z1) (yl_move (by rfl) _ rfl _ rfl) ?_
              simp only [Act.put, List.setIfInBounds_toArray, List.set_cons_zero, List.set_cons_succ]
              refine wl_yield (o := ⟨_, _, _, _, _, _⟩) (.bool false) (yl_neqE (by rfl) _ _ _ rfl (z1) (0) false rfl rfl (decide_eq_false (fun h => h hA))) ?_
              simp only [Act.put, List.setIfInBounds_toArray, List.set_cons_zero, List.set_cons_succ]
              refine wl_yield (o := ⟨_, _, _, _, _, _⟩) (.bool false) (yl_move (by rfl) _ rfl _ rfl) ?_
              simp only [Act.put, List.setIfInBounds_toArray, List.set_cons_zero, List.set_cons_succ]
              refine wl_yield (o := ⟨_, _, _, _, _, _⟩) (.int .i64 z2) (yl_move (by rfl) _ rfl _ rfl) ?_
              simp only [Act.put, List.setIfInBounds_toArray, List.set_cons_zero, List.set_cons_succ]
              refine wl_yield (o := ⟨_, _, _, _, _, _⟩) (.bool false) (yl_neqE (by rfl) _ _ _ rfl (z2) (0) false rfl rfl (decide_eq_false (fun h => h hB))) ?_
              simp only [Act.put, List.setIfInBounds_toArray, List.set_cons_zero, List.set_cons_succ]
              refine wl_yield (o := ⟨_, _, _, _, _, _⟩) (.bool false) (yl_pickF (by rfl) _ _ _ rfl rfl _ rfl) ?_
              simp only [Act.put, List.setIfInBounds_toArray, List.set_cons_zero, List.set_cons_succ]
              refine wpList_nil ?_
              refine hK9 _ _ ?_
              clear hK9 K9
              refine wp_cond_false rfl ?_
              refine wp_skip ?_
              refine hK8 _ _ ?_
              clear hK8 K8
              refine wp_seq_k (fun K10 hK10 => ?_)
              refine wp_region_held_drew (S := fun w' => EvIn w' gb3 e) (by kernel_rfl) HE (fun hHeld => ?_)
              have kb : Below v14.heap.size v14 v14.drew := (Below.refl _ v14).drew
              replace D := D.trans (kb.mono D.size)
              replace hx := hx.on kb
              replace hy := hy.on kb
              replace HB := HB.on kb
              replace HC := HC.on kb
              replace HE := HE.on kb
              replace hb1 := hb1.on kb
              replace hb2 := hb2.on kb
              replace HO := HO.on kb
              replace hb3 := hb3.on kb
              replace HN := HN.on kb
              replace hb4 := hb4.on kb
              clear kb
              generalize v14.drew = v15 at D hHeld hx hy HB HC HE hb1 hb2 HO hb3 HN hb4 ⊢
              refine wpAnyH_take (i := 0) (oi := ⟨_, _, _, _, _, _⟩) (v := .slice p1 l1.length c1) rfl (by kernel_rfl) (by kernel_rfl) (by kernel_rfl) (fun _ _ _ h => h) (yl_move (by rfl) _ rfl _ rfl) (by assumption) ?_
              simp only [Act.put, List.setIfInBounds_toArray, List.set_cons_zero, List.set_cons_succ]
              refine wpAnyH_take (i := 1) (oi := ⟨_, _, _, _, _, _⟩) (v := evVal e) rfl (by kernel_rfl) (by kernel_rfl) (by kernel_rfl) (fun _ _ _ h => h) (yl_ev (by rfl) _ rfl _ 0 rfl _ _ _ _ _ _ _ _ _ _ _ _ (fun _ h => evCells h)) (by assumption) ?_
              simp only [Act.put, List.setIfInBounds_toArray, List.set_cons_zero, List.set_cons_succ]
              refine wpAnyH_take (i := 3) (oi := ⟨_, _, _, _, _, _⟩) (v := .slice p2 l2.length c2) rfl (by kernel_rfl) (by kernel_rfl) (by kernel_rfl) (fun _ _ _ h => h) (yl_move (by rfl) _ rfl _ rfl) (by assumption) ?_
              simp only [Act.put, List.setIfInBounds_toArray, List.set_cons_zero, List.set_cons_succ]
              refine wpAnyH_take (i := 4) (oi := ⟨_, _, _, _, _, _⟩) (v := evVal e) rfl (by kernel_rfl) (by kernel_rfl) (by kernel_rfl) (fun _ _ _ h => h) (yl_ev (by rfl) _ rfl _ 0 rfl _ _ _ _ _ _ _ _ _ _ _ _ (fun _ h => evCells h)) (by assumption) ?_
              simp only [Act.put, List.setIfInBounds_toArray, List.set_cons_zero, List.set_cons_succ]
              refine held_call (o := ⟨_, _, _, _, _, _⟩) 2 (by kernel_rfl) rfl (by rfl) 15 _ _ rfl #[.slice p1 l1.length c1, evVal e] rfl (run_call Tryz.func15 (by kernel_rfl) (by kernel_rfl)) ?_
              refine (progHas_any _ l1 e _ hb1 fl1 hf he).mono ?_
              rintro r v16 ⟨rfl, kb⟩
              replace D := D.trans (kb.mono D.size)
              replace hx := hx.on kb
              replace hy := hy.on kb
              replace HB := HB.on kb
              replace HC := HC.on kb
              replace HE := HE.on kb
              replace hb1 := hb1.on kb
              replace hb2 := hb2.on kb
              replace HO := HO.on kb
              replace hb3 := hb3.on kb
              replace HN := HN.on kb
              replace hb4 := hb4.on kb
              clear kb
              clear hHeld
              cases hF : hasL l1 e
              · refine ⟨.bool false, rfl, HE, fun hHeld => ?_⟩
                simp only [Act.put, List.setIfInBounds_toArray, List.set_cons_zero, List.set_cons_succ]
                refine held_call (o := ⟨_, _, _, _, _, _⟩) 5 (by kernel_rfl) rfl (by rfl) 15 _ _ rfl #[.slice p2 l2.length c2, evVal e] rfl (run_call Tryz.func15 (by kernel_rfl) (by kernel_rfl)) ?_
                refine (progHas_any _ l2 e _ hb2 fl2 hf he).mono ?_
                rintro r v17 ⟨rfl, kb⟩
                replace D := D.trans (kb.mono D.size)
                replace hx := hx.on kb
                replace hy := hy.on kb
                replace HB := HB.on kb
                replace HC := HC.on kb
                replace HE := HE.on kb
                replace hb1 := hb1.on kb
                replace hb2 := hb2.on kb
                replace HO := HO.on kb
                replace hb3 := hb3.on kb
                replace HN := HN.on kb
                replace hb4 := hb4.on kb
                clear kb
                clear hHeld
                cases hG : hasL l2 e
                · refine ⟨.bool false, rfl, HE, fun hHeld => ?_⟩
                  simp only [Act.put, List.setIfInBounds_toArray, List.set_cons_zero, List.set_cons_succ]
                  refine wpAnyH_take (i := 6) (oi := ⟨_, _, _, _, _, _⟩) (v := .bool false) rfl (by kernel_rfl) (by kernel_rfl) (by kernel_rfl) (fun _ _ _ h => h) (yl_assign (by rfl) _ rfl _ rfl) (by assumption) ?_
                  simp only [Act.put, List.setIfInBounds_toArray, List.set_cons_zero, List.set_cons_succ]
                  refine wpAnyH_take (i := 7) (oi := ⟨_, _, _, _, _, _⟩) (v := .bool false) rfl (by kernel_rfl) (by kernel_rfl) (by kernel_rfl) (fun _ _ _ h => h) (yl_assign (by rfl) _ rfl _ rfl) (by assumption) ?_
                  simp only [Act.put, List.setIfInBounds_toArray, List.set_cons_zero, List.set_cons_succ]
                  refine wpAnyH_done (by kernel_rfl) ?_ _
                  clear hHeld
                  refine hK10 _ _ ?_
                  clear hK10 K10
                  refine wp_seq_k (fun K11 hK11 => ?_)
                  refine wp_region_lit ?_
                  refine wl_yield (o := ⟨_, _, _, _, _, _⟩) (.int .i64 z3) (yl_move (by rfl) _ rfl _ rfl) ?_
                  simp only [Act.put, List.setIfInBounds_toArray, List.set_cons_zero, List.set_cons_succ]
                  refine wl_yield (o := ⟨_, _, _, _, _, _⟩) (.bool false) (yl_neqE (by rfl) _ _ _ rfl (z3) (0) false rfl rfl (decide_eq_false (fun h => h hO))) ?_
                  simp only [Act.put, List.setIfInBounds_toArray, List.set_cons_zero, List.set_cons_succ]
                  refine wl_yield (o := ⟨_, _, _, _, _, _⟩) (.bool false) (yl_move (by rfl) _ rfl _ rfl) ?_
                  simp only [Act.put, List.setIfInBounds_toArray, List.set_cons_zero, List.set_cons_succ]
                  refine wl_yield (o := ⟨_, _, _, _, _, _⟩) (.slice p3 l3.length c3) (yl_move (by rfl) _ rfl _ rfl) ?_
                  simp only [Act.put, List.setIfInBounds_toArray, List.set_cons_zero, List.set_cons_succ]
                  refine wl_yield (o := ⟨_, _, _, _, _, _⟩) (evVal e) (yl_ev (by rfl) _ rfl _ 0 rfl _ _ _ _ _ _ _ _ _ _ _ _ (fun _ h => by subst h; exact evCells HE)) ?_
                  simp only [Act.put, List.setIfInBounds_toArray, List.set_cons_zero, List.set_cons_succ]
                  refine wl_call (o := ⟨_, _, _, _, _, _⟩) (by rfl) 15 _ _ rfl #[.slice p3 l3.length c3, evVal e] rfl (run_call Tryz.func15 (by kernel_rfl) (by kernel_rfl)) ?_
                  refine (progHas_any _ l3 e _ hb3 fl3 hf he).mono ?_
                  rintro r v18 ⟨rfl, kb⟩
                  replace D := D.trans (kb.mono D.size)
                  replace hx := hx.on kb
                  replace hy := hy.on kb
                  replace HB := HB.on kb
                  replace HC := HC.on kb
                  replace HE := HE.on kb
                  replace hb1 := hb1.on kb
                  replace hb2 := hb2.on kb
                  replace HO := HO.on kb
                  replace hb3 := hb3.on kb
                  replace HN := HN.on kb
                  replace hb4 := hb4.on kb
                  clear kb
                  refine ⟨.bool false, ret_bool (by rw [dnf_or (hh1 hA).1 (hh2 hB).1 (hh3 hO).1 ((hh1 hA).2 e he) ((hh2 hB).2 e he) ((hh3 hO).2 e he), hF, hG]; rfl), ?_⟩
                  simp only [Act.put, List.setIfInBounds_toArray, List.set_cons_zero, List.set_cons_succ]
                  refine wl_yield (o := ⟨_, _, _, _, _, _⟩) (.bool false) (yl_move (by rfl) _ rfl _ rfl) ?_
                  simp only [Act.put, List.setIfInBounds_toArray, List.set_cons_zero, List.set_cons_succ]
                  refine wl_yield (o := ⟨_, _, _, _, _, _⟩) (.bool false) (yl_move (by rfl) _ rfl _ rfl) ?_
                  simp only [Act.put, List.setIfInBounds_toArray, List.set_cons_zero, List.set_cons_succ]
                  refine wl_yield (o := ⟨_, _, _, _, _, _⟩) (.bool false) (yl_move (by rfl) _ rfl _ rfl) ?_
                  simp only [Act.put, List.setIfInBounds_toArray, List.set_cons_zero, List.set_cons_succ]
                  refine wl_yield (o := ⟨_, _, _, _, _, _⟩) (.bool false) (yl_pickF (by rfl) _ _ _ rfl rfl _ rfl) ?_
                  simp only [Act.put, List.setIfInBounds_toArray, List.set_cons_zero, List.set_cons_succ]
                  refine wl_yield (o := ⟨_, _, _, _, _, _⟩) (.bool true) (yl_eqB (by rfl) _ _ _ rfl false false rfl rfl) ?_
                  simp only [Act.put, List.setIfInBounds_toArray, List.set_cons_zero, List.set_cons_succ]
                  refine wl_yield (o := ⟨_, _, _, _, _, _⟩) (.bool true) (yl_pickF (by rfl) _ _ _ rfl rfl _ rfl) ?_
                  simp only [Act.put, List.setIfInBounds_toArray, List.set_cons_zero, List.set_cons_succ]
                  refine wl_yield (o := ⟨_, _, _, _, _, _⟩) (.bool true) (yl_move (by rfl) _ rfl _ rfl) ?_
                  simp only [Act.put, List.setIfInBounds_toArray, List.set_cons_zero, List.set_cons_succ]
                  refine wl_yield (o := ⟨_, _, _, _, _, _⟩) (.int .i64 z4) (yl_move (by rfl) _ rfl _ rfl) ?_
                  simp only [Act.put, List.setIfInBounds_toArray, List.set_cons_zero, List.set_cons_succ]
                  refine wl_yield (o := ⟨_, _, _, _, _, _⟩) (.bool false) (yl_neqE (by rfl) _ _ _ rfl (z4) (0) false rfl rfl (decide_eq_false (fun h => h hN))) ?_
                  simp only [Act.put, List.setIfInBounds_toArray, List.set_cons_zero, List.set_cons_succ]
                  refine wl_yield (o := ⟨_, _, _, _, _, _⟩) (.bool false) (yl_move (by rfl) _ rfl _ rfl) ?_
                  simp only [Act.put, List.setIfInBounds_toArray, List.set_cons_zero, List.set_cons_succ]
                  refine wl_yield (o := ⟨_, _, _, _, _, _⟩) (.slice p4 l4.length c4) (yl_move (by rfl) _ rfl _ rfl) ?_
                  simp only [Act.put, List.setIfInBounds_toArray, List.set_cons_zero, List.set_cons_succ]
                  refine wl_yield (o := ⟨_, _, _, _, _, _⟩) (evVal e) (yl_ev (by rfl) _ rfl _ 0 rfl _ _ _ _ _ _ _ _ _ _ _ _ (fun _ h => by subst h; exact evCells HE)) ?_
                  simp only [Act.put, List.setIfInBounds_toArray, List.set_cons_zero, List.set_cons_succ]
                  refine wl_call (o := ⟨_, _, _, _, _, _⟩) (by rfl) 15 _ _ rfl #[.slice p4 l4.length c4, evVal e] rfl (run_call Tryz.func15 (by kernel_rfl) (by kernel_rfl)) ?_
                  refine (progHas_any _ l4 e _ hb4 fl4 hf he).mono ?_
                  rintro r v19 ⟨rfl, kb⟩
                  replace D := D.trans (kb.mono D.size)
                  replace hx := hx.on kb
                  replace hy := hy.on kb
                  replace HB := HB.on kb
                  replace HC := HC.on kb
                  replace HE := HE.on kb
                  replace hb1 := hb1.on kb
                  replace hb2 := hb2.on kb
                  replace HO := HO.on kb
                  replace hb3 := hb3.on kb
                  replace HN := HN.on kb
                  replace hb4 := hb4.on kb
                  clear kb
                  refine ⟨.bool false, ret_bool (by rw [dnf_and (hh1 hA).1 (hh2 hB).1 (hh4 hN).1 ((hh1 hA).2 e he) ((hh2 hB).2 e he) ((hh4 hN).2 e he), hF, hG]; rfl), ?_⟩
                  simp only [Act.put, List.setIfInBounds_toArray, List.set_cons_zero, List.set_cons_succ]
                  refine wl_yield (o := ⟨_, _, _, _, _, _⟩) (.bool false) (yl_move (by rfl) _ rfl _ rfl) ?_
                  simp only [Act.put, List.setIfInBounds_toArray, List.set_cons_zero, List.set_cons_succ]
                  refine wl_yield (o := ⟨_, _, _, _, _, _⟩) (.bool false) (yl_move (by rfl) _ rfl _ rfl) ?_
                  simp only [Act.put, List.setIfInBounds_toArray, List.set_cons_zero, List.set_cons_succ]
                  with_reducible refine wl_yield (o := ⟨_, _, _, _, _, _⟩) undef (yl_undef (by kernel_rfl)) ?_
                  simp only [Act.put, List.setIfInBounds_toArray, List.set_cons_zero, List.set_cons_succ]
                  refine wl_yield (o := ⟨_, _, _, _, _, _⟩) (.bool false) (yl_pickF (by rfl) _ _ _ rfl rfl _ rfl) ?_
                  simp only [Act.put, List.setIfInBounds_toArray, List.set_cons_zero, List.set_cons_succ]
                  refine wl_yield (o := ⟨_, _, _, _, _, _⟩) (.bool true) (yl_eqB (by rfl) _ _ _ rfl false false rfl rfl) ?_
                  simp only [Act.put, List.setIfInBounds_toArray, List.set_cons_zero, List.set_cons_succ]
                  refine wl_yield (o := ⟨_, _, _, _, _, _⟩) (.bool true) (yl_pickF (by rfl) _ _ _ rfl rfl _ rfl) ?_
                  simp only [Act.put, List.setIfInBounds_toArray, List.set_cons_zero, List.set_cons_succ]
                  refine wl_yield (o := ⟨_, _, _, _, _, _⟩) (.bool true) (yl_pickT (by rfl) _ _ _ rfl rfl _ rfl) ?_
                  simp only [Act.put, List.setIfInBounds_toArray, List.set_cons_zero, List.set_cons_succ]
                  refine wl_yield (o := ⟨_, _, _, _, _, _⟩) (.bool true) (yl_assign (by rfl) _ rfl _ rfl) ?_
                  simp only [Act.put, List.setIfInBounds_toArray, List.set_cons_zero, List.set_cons_succ]
                  refine wpList_nil ?_
                  refine hK11 _ _ ?_
                  clear hK11 K11
                  refine wp_ret ?_
                  go_ret
                  exact ⟨rfl, D⟩
                · refine ⟨.bool true, rfl, HE, fun hHeld => ?_⟩
                  simp only [Act.put, List.setIfInBounds_toArray, List.set_cons_zero, List.set_cons_succ]
                  refine wpAnyH_take (i := 6) (oi := ⟨_, _, _, _, _, _⟩) (v := .bool false) rfl (by kernel_rfl) (by kernel_rfl) (by kernel_rfl) (fun _ _ _ h => h) (yl_assign (by rfl) _ rfl _ rfl) (by assumption) ?_
                  simp only [Act.put, List.setIfInBounds_toArray, List.set_cons_zero, List.set_cons_succ]
                  refine wpAnyH_take (i := 7) (oi := ⟨_, _, _, _, _, _⟩) (v := .bool true) rfl (by kernel_rfl) (by kernel_rfl) (by kernel_rfl) (fun _ _ _ h => h) (yl_assign (by rfl) _ rfl _ rfl) (by assumption) ?_
                  simp only [Act.put, List.setIfInBounds_toArray, List.set_cons_zero, List.set_cons_succ]
                  refine wpAnyH_done (by kernel_rfl) ?_ _
                  clear hHeld
                  refine hK10 _ _ ?_
                  clear hK10 K10
                  refine wp_seq_k (fun K11 hK11 => ?_)
                  refine wp_region_lit ?_
                  refine wl_yield (o := ⟨_, _, _, _, _, _⟩) (.int .i64 z3) (yl_move (by rfl) _ rfl _ rfl) ?_
                  simp only [Act.put, List.setIfInBounds_toArray, List.set_cons_zero, List.set_cons_succ]
                  refine wl_yield (o := ⟨_, _, _, _, _, _⟩) (.bool false) (yl_neqE (by rfl) _ _ _ rfl (z3) (0) false rfl rfl (decide_eq_false (fun h => h hO))) ?_
                  simp only [Act.put, List.setIfInBounds_toArray, List.set_cons_zero, List.set_cons_succ]
                  refine wl_yield (o := ⟨_, _, _, _, _, _⟩) (.bool false) (yl_move (by rfl) _ rfl _ rfl) ?_
                  simp only [Act.put, List.setIfInBounds_toArray, List.set_cons_zero, List.set_cons_succ]
                  refine wl_yield (o := ⟨_, _, _, _, _, _⟩) (.slice p3 l3.length c3) (yl_move (by rfl) _ rfl _ rfl) ?_
                  simp only [Act.put, List.setIfInBounds_toArray, List.set_cons_zero, List.set_cons_succ]
                  refine wl_yield (o := ⟨_, _, _, _, _, _⟩) (evVal e) (yl_ev (by rfl) _ rfl _ 0 rfl _ _ _ _ _ _ _ _ _ _ _ _ (fun _ h => by subst h; exact evCells HE)) ?_
                  simp only [Act.put, List.setIfInBounds_toArray, List.set_cons_zero, List.set_cons_succ]
                  refine wl_call (o := ⟨_, _, _, _, _, _⟩) (by rfl) 15 _ _ rfl #[.slice p3 l3.length c3, evVal e] rfl (run_call Tryz.func15 (by kernel_rfl) (by kernel_rfl)) ?_
                  refine (progHas_any _ l3 e _ hb3 fl3 hf he).mono ?_
                  rintro r v18 ⟨rfl, kb⟩
                  replace D := D.trans (kb.mono D.size)
                  replace hx := hx.on kb
                  replace hy := hy.on kb
                  replace HB := HB.on kb
                  replace HC := HC.on kb
                  replace HE := HE.on kb
                  replace hb1 := hb1.on kb
                  replace hb2 := hb2.on kb
                  replace HO := HO.on kb
                  replace hb3 := hb3.on kb
                  replace HN := HN.on kb
                  replace hb4 := hb4.on kb
                  clear kb
                  refine ⟨.bool true, ret_bool (by rw [dnf_or (hh1 hA).1 (hh2 hB).1 (hh3 hO).1 ((hh1 hA).2 e he) ((hh2 hB).2 e he) ((hh3 hO).2 e he), hF, hG]; rfl), ?_⟩
                  simp only [Act.put, List.setIfInBounds_toArray, List.set_cons_zero, List.set_cons_succ]
                  refine wl_yield (o := ⟨_, _, _, _, _, _⟩) (.bool false) (yl_move (by rfl) _ rfl _ rfl) ?_
                  simp only [Act.put, List.setIfInBounds_toArray, List.set_cons_zero, List.set_cons_succ]
                  refine wl_yield (o := ⟨_, _, _, _, _, _⟩) (.bool false) (yl_move (by rfl) _ rfl _ rfl) ?_
                  simp only [Act.put, List.setIfInBounds_toArray, List.set_cons_zero, List.set_cons_succ]
                  refine wl_yield (o := ⟨_, _, _, _, _, _⟩) (.bool true) (yl_move (by rfl) _ rfl _ rfl) ?_
                  simp only [Act.put, List.setIfInBounds_toArray, List.set_cons_zero, List.set_cons_succ]
                  refine wl_yield (o := ⟨_, _, _, _, _, _⟩) (.bool true) (yl_pickF (by rfl) _ _ _ rfl rfl _ rfl) ?_
                  simp only [Act.put, List.setIfInBounds_toArray, List.set_cons_zero, List.set_cons_succ]
                  refine wl_yield (o := ⟨_, _, _, _, _, _⟩) (.bool true) (yl_eqB (by rfl) _ _ _ rfl true true rfl rfl) ?_
                  simp only [Act.put, List.setIfInBounds_toArray, List.set_cons_zero, List.set_cons_succ]
                  refine wl_yield (o := ⟨_, _, _, _, _, _⟩) (.bool true) (yl_pickF (by rfl) _ _ _ rfl rfl _ rfl) ?_
                  simp only [Act.put, List.setIfInBounds_toArray, List.set_cons_zero, List.set_cons_succ]
                  refine wl_yield (o := ⟨_, _, _, _, _, _⟩) (.bool true) (yl_move (by rfl) _ rfl _ rfl) ?_
                  simp only [Act.put, List.setIfInBounds_toArray, List.set_cons_zero, List.set_cons_succ]
                  refine wl_yield (o := ⟨_, _, _, _, _, _⟩) (.int .i64 z4) (yl_move (by rfl) _ rfl _ rfl) ?_
                  simp only [Act.put, List.setIfInBounds_toArray, List.set_cons_zero, List.set_cons_succ]
                  refine wl_yield (o := ⟨_, _, _, _, _, _⟩) (.bool false) (yl_neqE (by rfl) _ _ _ rfl (z4) (0) false rfl rfl (decide_eq_false (fun h => h hN))) ?_
                  simp only [Act.put, List.setIfInBounds_toArray, List.set_cons_zero, List.set_cons_succ]
                  refine wl_yield (o := ⟨_, _, _, _, _, _⟩) (.bool false) (yl_move (by rfl) _ rfl _ rfl) ?_
                  simp only [Act.put, List.setIfInBounds_toArray, List.set_cons_zero, List.set_cons_succ]
                  refine wl_yield (o := ⟨_, _, _, _, _, _⟩) (.slice p4 l4.length c4) (yl_move (by rfl) _ rfl _ rfl) ?_
                  simp only [Act.put, List.setIfInBounds_toArray, List.set_cons_zero, List.set_cons_succ]
                  refine wl_yield (o := ⟨_, _, _, _, _, _⟩) (evVal e) (yl_ev (by rfl) _ rfl _ 0 rfl _ _ _ _ _ _ _ _ _ _ _ _ (fun _ h => by subst h; exact evCells HE)) ?_
                  simp only [Act.put, List.setIfInBounds_toArray, List.set_cons_zero, List.set_cons_succ]
                  refine wl_call (o := ⟨_, _, _, _, _, _⟩) (by rfl) 15 _ _ rfl #[.slice p4 l4.length c4, evVal e] rfl (run_call Tryz.func15 (by kernel_rfl) (by kernel_rfl)) ?_
                  refine (progHas_any _ l4 e _ hb4 fl4 hf he).mono ?_
                  rintro r v19 ⟨rfl, kb⟩
                  replace D := D.trans (kb.mono D.size)
                  replace hx := hx.on kb
                  replace hy := hy.on kb
                  replace HB := HB.on kb
                  replace HC := HC.on kb
                  replace HE := HE.on kb
                  replace hb1 := hb1.on kb
                  replace hb2 := hb2.on kb
                  replace HO := HO.on kb
                  replace hb3 := hb3.on kb
                  replace HN := HN.on kb
                  replace hb4 := hb4.on kb
                  clear kb
                  refine ⟨.bool false, ret_bool (by rw [dnf_and (hh1 hA).1 (hh2 hB).1 (hh4 hN).1 ((hh1 hA).2 e he) ((hh2 hB).2 e he) ((hh4 hN).2 e he), hF, hG]; rfl), ?_⟩
                  simp only [Act.put, List.setIfInBounds_toArray, List.set_cons_zero, List.set_cons_succ]
                  refine wl_yield (o := ⟨_, _, _, _, _, _⟩) (.bool false) (yl_move (by rfl) _ rfl _ rfl) ?_
                  simp only [Act.put, List.setIfInBounds_toArray, List.set_cons_zero, List.set_cons_succ]
                  refine wl_yield (o := ⟨_, _, _, _, _, _⟩) (.bool false) (yl_move (by rfl) _ rfl _ rfl) ?_
                  simp only [Act.put, List.setIfInBounds_toArray, List.set_cons_zero, List.set_cons_succ]
                  with_reducible refine wl_yield (o := ⟨_, _, _, _, _, _⟩) undef (yl_undef (by kernel_rfl)) ?_
                  simp only [Act.put, List.setIfInBounds_toArray, List.set_cons_zero, List.set_cons_succ]
                  refine wl_yield (o := ⟨_, _, _, _, _, _⟩) (.bool false) (yl_pickF (by rfl) _ _ _ rfl rfl _ rfl) ?_
                  simp only [Act.put, List.setIfInBounds_toArray, List.set_cons_zero, List.set_cons_succ]
                  refine wl_yield (o := ⟨_, _, _, _, _, _⟩) (.bool true) (yl_eqB (by rfl) _ _ _ rfl false false rfl rfl) ?_
                  simp only [Act.put, List.setIfInBounds_toArray, List.set_cons_zero, List.set_cons_succ]
                  refine wl_yield (o := ⟨_, _, _, _, _, _⟩) (.bool true) (yl_pickF (by rfl) _ _ _ rfl rfl _ rfl) ?_
                  simp only [Act.put, List.setIfInBounds_toArray, List.set_cons_zero, List.set_cons_succ]
                  refine wl_yield (o := ⟨_, _, _, _, _, _⟩) (.bool true) (yl_pickT (by rfl) _ _ _ rfl rfl _ rfl) ?_
                  simp only [Act.put, List.setIfInBounds_toArray, List.set_cons_zero, List.set_cons_succ]
                  refine wl_yield (o := ⟨_, _, _, _, _, _⟩) (.bool true) (yl_assign (by rfl) _ rfl _ rfl) ?_
                  simp only [Act.put, List.setIfInBounds_toArray, List.set_cons_zero, List.set_cons_succ]
                  refine wpList_nil ?_
                  refine hK11 _ _ ?_
                  clear hK11 K11
                  refine wp_ret ?_
                  go_ret
                  exact ⟨rfl, D⟩
              · refine ⟨.bool true, rfl, HE, fun hHeld => ?_⟩
                simp only [Act.put, List.setIfInBounds_toArray, List.set_cons_zero, List.set_cons_succ]
                refine held_call (o := ⟨_, _, _, _, _, _⟩) 5 (by kernel_rfl) rfl (by rfl) 15 _ _ rfl #[.slice p2 l2.length c2, evVal e] rfl (run_call Tryz.func15 (by kernel_rfl) (by kernel_rfl)) ?_
                refine (progHas_any _ l2 e _ hb2 fl2 hf he).mono ?_
                rintro r v17 ⟨rfl, kb⟩
                replace D := D.trans (kb.mono D.size)
                replace hx := hx.on kb
                replace hy := hy.on kb
                replace HB := HB.on kb
                replace HC := HC.on kb
                replace HE := HE.on kb
                replace hb1 := hb1.on kb
                replace hb2 := hb2.on kb
                replace HO := HO.on kb
                replace hb3 := hb3.on kb
                replace HN := HN.on kb
                replace hb4 := hb4.on kb
                clear kb
                clear hHeld
                cases hG : hasL l2 e
                · refine ⟨.bool false, rfl, HE, fun hHeld => ?_⟩
                  simp only [Act.put, List.setIfInBounds_toArray, List.set_cons_zero, List.set_cons_succ]
                  refine wpAnyH_take (i := 6) (oi := ⟨_, _, _, _, _, _⟩) (v := .bool true) rfl (by kernel_rfl) (by kernel_rfl) (by kernel_rfl) (fun _ _ _ h => h) (yl_assign (by rfl) _ rfl _ rfl) (by assumption) ?_
                  simp only [Act.put, List.setIfInBounds_toArray, List.set_cons_zero, List.set_cons_succ]
                  refine wpAnyH_take (i := 7) (oi := ⟨_, _, _, _, _, _⟩) (v := .bool false) rfl (by kernel_rfl) (by kernel_rfl) (by kernel_rfl) (fun _ _ _ h => h) (yl_assign (by rfl) _ rfl _ rfl) (by assumption) ?_
                  simp only [Act.put, List.setIfInBounds_toArray, List.set_cons_zero, List.set_cons_succ]
                  refine wpAnyH_done (by kernel_rfl) ?_ _
                  clear hHeld
                  refine hK10 _ _ ?_
                  clear hK10 K10
                  refine wp_seq_k (fun K11 hK11 => ?_)
                  refine wp_region_lit ?_
                  refine wl_yield (o := ⟨_, _, _, _, _, _⟩) (.int .i64 z3) (yl_move (by rfl) _ rfl _ rfl) ?_
                  simp only [Act.put, List.setIfInBounds_toArray, List.set_cons_zero, List.set_cons_succ]
                  refine wl_yield (o := ⟨_, _, _, _, _, _⟩) (.bool false) (yl_neqE (by rfl) _ _ _ rfl (z3) (0) false rfl rfl (decide_eq_false (fun h => h hO))) ?_
                  simp only [Act.put, List.setIfInBounds_toArray, List.set_cons_zero, List.set_cons_succ]
                  refine wl_yield (o := ⟨_, _, _, _, _, _⟩) (.bool false) (yl_move (by rfl) _ rfl _ rfl) ?_
                  simp only [Act.put, List.setIfInBounds_toArray, List.set_cons_zero, List.set_cons_succ]
                  refine wl_yield (o := ⟨_, _, _, _, _, _⟩) (.slice p3 l3.length c3) (yl_move (by rfl) _ rfl _ rfl) ?_
                  simp only [Act.put, List.setIfInBounds_toArray, List.set_cons_zero, List.set_cons_succ]
                  refine wl_yield (o := ⟨_, _, _, _, _, _⟩) (evVal e) (yl_ev (by rfl) _ rfl _ 0 rfl _ _ _ _ _ _ _ _ _ _ _ _ (fun _ h => by subst h; exact evCells HE)) ?_
                  simp only [Act.put, List.setIfInBounds_toArray, List.set_cons_zero, List.set_cons_succ]
                  refine wl_call (o := ⟨_, _, _, _, _, _⟩) (by rfl) 15 _ _ rfl #[.slice p3 l3.length c3, evVal e] rfl (run_call Tryz.func15 (by kernel_rfl) (by kernel_rfl)) ?_
                  refine (progHas_any _ l3 e _ hb3 fl3 hf he).mono ?_
                  rintro r v18 ⟨rfl, kb⟩
                  replace D := D.trans (kb.mono D.size)
                  replace hx := hx.on kb
                  replace hy := hy.on kb
                  replace HB := HB.on kb
                  replace HC := HC.on kb
                  replace HE := HE.on kb
                  replace hb1 := hb1.on kb
                  replace hb2 := hb2.on kb
                  replace HO := HO.on kb
                  replace hb3 := hb3.on kb
                  replace HN := HN.on kb
                  replace hb4 := hb4.on kb
                  clear kb
                  refine ⟨.bool true, ret_bool (by rw [dnf_or (hh1 hA).1 (hh2 hB).1 (hh3 hO).1 ((hh1 hA).2 e he) ((hh2 hB).2 e he) ((hh3 hO).2 e he), hF, hG]; rfl), ?_⟩
                  simp only [Act.put, List.setIfInBounds_toArray, List.set_cons_zero, List.set_cons_succ]
                  refine wl_yield (o := ⟨_, _, _, _, _, _⟩) (.bool true) (yl_move (by rfl) _ rfl _ rfl) ?_
                  simp only [Act.put, List.setIfInBounds_toArray, List.set_cons_zero, List.set_cons_succ]
                  refine wl_yield (o := ⟨_, _, _, _, _, _⟩) (.bool true) (yl_move (by rfl) _ rfl _ rfl) ?_
                  simp only [Act.put, List.setIfInBounds_toArray, List.set_cons_zero, List.set_cons_succ]
                  with_reducible refine wl_yield (o := ⟨_, _, _, _, _, _⟩) undef (yl_undef (by kernel_rfl)) ?_
                  simp only [Act.put, List.setIfInBounds_toArray, List.set_cons_zero, List.set_cons_succ]
                  refine wl_yield (o := ⟨_, _, _, _, _, _⟩) (.bool true) (yl_pickT (by rfl) _ _ _ rfl rfl _ rfl) ?_
                  simp only [Act.put, List.setIfInBounds_toArray, List.set_cons_zero, List.set_cons_succ]
                  refine wl_yield (o := ⟨_, _, _, _, _, _⟩) (.bool true) (yl_eqB (by rfl) _ _ _ rfl true true rfl rfl) ?_
                  simp only [Act.put, List.setIfInBounds_toArray, List.set_cons_zero, List.set_cons_succ]
                  refine wl_yield (o := ⟨_, _, _, _, _, _⟩) (.bool true) (yl_pickF (by rfl) _ _ _ rfl rfl _ rfl) ?_
                  simp only [Act.put, List.setIfInBounds_toArray, List.set_cons_zero, List.set_cons_succ]
                  refine wl_yield (o := ⟨_, _, _, _, _, _⟩) (.bool true) (yl_move (by rfl) _ rfl _ rfl) ?_
                  simp only [Act.put, List.setIfInBounds_toArray, List.set_cons_zero, List.set_cons_succ]
                  refine wl_yield (o := ⟨_, _, _, _, _, _⟩) (.int .i64 z4) (yl_move (by rfl) _ rfl _ rfl) ?_
                  simp only [Act.put, List.setIfInBounds_toArray, List.set_cons_zero, List.set_cons_succ]
                  refine wl_yield (o := ⟨_, _, _, _, _, _⟩) (.bool false) (yl_neqE (by rfl) _ _ _ rfl (z4) (0) false rfl rfl (decide_eq_false (fun h => h hN))) ?_
                  simp only [Act.put, List.setIfInBounds_toArray, List.set_cons_zero, List.set_cons_succ]
                  refine wl_yield (o := ⟨_, _, _, _, _, _⟩) (.bool false) (yl_move (by rfl) _ rfl _ rfl) ?_
                  simp only [Act.put, List.setIfInBounds_toArray, List.set_cons_zero, List.set_cons_succ]
                  refine wl_yield (o := ⟨_, _, _, _, _, _⟩) (.slice p4 l4.length c4) (yl_move (by rfl) _ rfl _ rfl) ?_
                  simp only [Act.put, List.setIfInBounds_toArray, List.set_cons_zero, List.set_cons_succ]
                  refine wl_yield (o := ⟨_, _, _, _, _, _⟩) (evVal e) (yl_ev (by rfl) _ rfl _ 0 rfl _ _ _ _ _ _ _ _ _ _ _ _ (fun _ h => by subst h; exact evCells HE)) ?_
                  simp only [Act.put, List.setIfInBounds_toArray, List.set_cons_zero, List.set_cons_succ]
                  refine wl_call (o := ⟨_, _, _, _, _, _⟩) (by rfl) 15 _ _ rfl #[.slice p4 l4.length c4, evVal e] rfl (run_call Tryz.func15 (by kernel_rfl) (by kernel_rfl)) ?_
                  refine (progHas_any _ l4 e _ hb4 fl4 hf he).mono ?_
                  rintro r v19 ⟨rfl, kb⟩
                  replace D := D.trans (kb.mono D.size)
                  replace hx := hx.on kb
                  replace hy := hy.on kb
                  replace HB := HB.on kb
                  replace HC := HC.on kb
                  replace HE := HE.on kb
                  replace hb1 := hb1.on kb
                  replace hb2 := hb2.on kb
                  replace HO := HO.on kb
                  replace hb3 := hb3.on kb
                  replace HN := HN.on kb
                  replace hb4 := hb4.on kb
                  clear kb
                  refine ⟨.bool false, ret_bool (by rw [dnf_and (hh1 hA).1 (hh2 hB).1 (hh4 hN).1 ((hh1 hA).2 e he) ((hh2 hB).2 e he) ((hh4 hN).2 e he), hF, hG]; rfl), ?_⟩
                  simp only [Act.put, List.setIfInBounds_toArray, List.set_cons_zero, List.set_cons_succ]
                  refine wl_yield (o := ⟨_, _, _, _, _, _⟩) (.bool true) (yl_move (by rfl) _ rfl _ rfl) ?_
                  simp only [Act.put, List.setIfInBounds_toArray, List.set_cons_zero, List.set_cons_succ]
                  refine wl_yield (o := ⟨_, _, _, _, _, _⟩) (.bool true) (yl_move (by rfl) _ rfl _ rfl) ?_
                  simp only [Act.put, List.setIfInBounds_toArray, List.set_cons_zero, List.set_cons_succ]
                  refine wl_yield (o := ⟨_, _, _, _, _, _⟩) (.bool false) (yl_move (by rfl) _ rfl _ rfl) ?_
                  simp only [Act.put, List.setIfInBounds_toArray, List.set_cons_zero, List.set_cons_succ]
                  refine wl_yield (o := ⟨_, _, _, _, _, _⟩) (.bool false) (yl_pickT (by rfl) _ _ _ rfl rfl _ rfl) ?_
                  simp only [Act.put, List.setIfInBounds_toArray, List.set_cons_zero, List.set_cons_succ]
                  refine wl_yield (o := ⟨_, _, _, _, _, _⟩) (.bool true) (yl_eqB (by rfl) _ _ _ rfl false false rfl rfl) ?_
                  simp only [Act.put, List.setIfInBounds_toArray, List.set_cons_zero, List.set_cons_succ]
                  refine wl_yield (o := ⟨_, _, _, _, _, _⟩) (.bool true) (yl_pickF (by rfl) _ _ _ rfl rfl _ rfl) ?_
                  simp only [Act.put, List.setIfInBounds_toArray, List.set_cons_zero, List.set_cons_succ]
                  refine wl_yield (o := ⟨_, _, _, _, _, _⟩) (.bool true) (yl_pickT (by rfl) _ _ _ rfl rfl _ rfl) ?_
                  simp only [Act.put, List.setIfInBounds_toArray, List.set_cons_zero, List.set_cons_succ]
                  refine wl_yield (o := ⟨_, _, _, _, _, _⟩) (.bool true) (yl_assign (by rfl) _ rfl _ rfl) ?_
                  simp only [Act.put, List.setIfInBounds_toArray, List.set_cons_zero, List.set_cons_succ]
                  refine wpList_nil ?_
                  refine hK11 _ _ ?_
                  clear hK11 K11
                  refine wp_ret ?_
                  go_ret
                  exact ⟨rfl, D⟩
                · refine ⟨.bool true, rfl, HE, fun hHeld => ?_⟩
                  simp only [Act.put, List.setIfInBounds_toArray, List.set_cons_zero, List.set_cons_succ]
                  refine wpAnyH_take (i := 6) (oi := ⟨_, _, _, _, _, _⟩) (v := .bool true) rfl (by kernel_rfl) (by kernel_rfl) (by kernel_rfl) (fun _ _ _ h => h) (yl_assign (by rfl) _ rfl _ rfl) (by assumption) ?_
                  simp only [Act.put, List.setIfInBounds_toArray, List.set_cons_zero, List.set_cons_succ]
                  refine wpAnyH_take (i := 7) (oi := ⟨_, _, _, _, _, _⟩) (v := .bool true) rfl (by kernel_rfl) (by kernel_rfl) (by kernel_rfl) (fun _ _ _ h => h) (yl_assign (by rfl) _ rfl _ rfl) (by assumption) ?_
                  simp only [Act.put, List.setIfInBounds_toArray, List.set_cons_zero, List.set_cons_succ]
                  refine wpAnyH_done (by kernel_rfl) ?_ _
                  clear hHeld
                  refine hK10 _ _ ?_
                  clear hK10 K10
                  refine wp_seq_k (fun K11 hK11 => ?_)
                  refine wp_region_lit ?_
                  refine wl_yield (o := ⟨_, _, _, _, _, _⟩) (.int .i64 z3) (yl_move (by rfl) _ rfl _ rfl) ?_
                  simp only [Act.put, List.setIfInBounds_toArray, List.set_cons_zero, List.set_cons_succ]
                  refine wl_yield (o := ⟨_, _, _, _, _, _⟩) (.bool false) (yl_neqE (by rfl) _ _ _ rfl (z3) (0) false rfl rfl (decide_eq_false (fun h => h hO))) ?_
                  simp only [Act.put, List.setIfInBounds_toArray, List.set_cons_zero, List.set_cons_succ]
                  refine wl_yield (o := ⟨_, _, _, _, _, _⟩) (.bool false) (yl_move (by rfl) _ rfl _ rfl) ?_
                  simp only [Act.put, List.setIfInBounds_toArray, List.set_cons_zero, List.set_cons_succ]
                  refine wl_yield (o := ⟨_, _, _, _, _, _⟩) (.slice p3 l3.length c3) (yl_move (by rfl) _ rfl _ rfl) ?_
                  simp only [Act.put, List.setIfInBounds_toArray, List.set_cons_zero, List.set_cons_succ]
                  refine wl_yield (o := ⟨_, _, _, _, _, _⟩) (evVal e) (yl_ev (by rfl) _ rfl _ 0 rfl _ _ _ _ _ _ _ _ _ _ _ _ (fun _ h => by subst h; exact evCells HE)) ?_
                  simp only [Act.put, List.setIfInBounds_toArray, List.set_cons_zero, List.set_cons_succ]
                  refine wl_call (o := ⟨_, _, _, _, _, _⟩) (by rfl) 15 _ _ rfl #[.slice p3 l3.length c3, evVal e] rfl (run_call Tryz.func15 (by kernel_rfl) (by kernel_rfl)) ?_
                  refine (progHas_any _ l3 e _ hb3 fl3 hf he).mono ?_
                  rintro r v18 ⟨rfl, kb⟩
                  replace D := D.trans (kb.mono D.size)
                  replace hx := hx.on kb
                  replace hy := hy.on kb
                  replace HB := HB.on kb
                  replace HC := HC.on kb
                  replace HE := HE.on kb
                  replace hb1 := hb1.on kb
                  replace hb2 := hb2.on kb
                  replace HO := HO.on kb
                  replace hb3 := hb3.on kb
                  replace HN := HN.on kb
                  replace hb4 := hb4.on kb
                  clear kb
                  refine ⟨.bool true, ret_bool (by rw [dnf_or (hh1 hA).1 (hh2 hB).1 (hh3 hO).1 ((hh1 hA).2 e he) ((hh2 hB).2 e he) ((hh3 hO).2 e he), hF, hG]; rfl), ?_⟩
                  simp only [Act.put, List.setIfInBounds_toArray, List.set_cons_zero, List.set_cons_succ]
                  refine wl_yield (o := ⟨_, _, _, _, _, _⟩) (.bool true) (yl_move (by rfl) _ rfl _ rfl) ?_
                  simp only [Act.put, List.setIfInBounds_toArray, List.set_cons_zero, List.set_cons_succ]
                  refine wl_yield (o := ⟨_, _, _, _, _, _⟩) (.bool true) (yl_move (by rfl) _ rfl _ rfl) ?_
                  simp only [Act.put, List.setIfInBounds_toArray, List.set_cons_zero, List.set_cons_succ]
                  with_reducible refine wl_yield (o := ⟨_, _, _, _, _, _⟩) undef (yl_undef (by kernel_rfl)) ?_
                  simp only [Act.put, List.setIfInBounds_toArray, List.set_cons_zero, List.set_cons_succ]
                  refine wl_yield (o := ⟨_, _, _, _, _, _⟩) (.bool true) (yl_pickT (by rfl) _ _ _ rfl rfl _ rfl) ?_
                  simp only [Act.put, List.setIfInBounds_toArray, List.set_cons_zero, List.set_cons_succ]
                  refine wl_yield (o := ⟨_, _, _, _, _, _⟩) (.bool true) (yl_eqB (by rfl) _ _ _ rfl true true rfl rfl) ?_
                  simp only [Act.put, List.setIfInBounds_toArray, List.set_cons_zero, List.set_cons_succ]
                  refine wl_yield (o := ⟨_, _, _, _, _, _⟩) (.bool true) (yl_pickF (by rfl) _ _ _ rfl rfl _ rfl) ?_
                  simp only [Act.put, List.setIfInBounds_toArray, List.set_cons_zero, List.set_cons_succ]
                  refine wl_yield (o := ⟨_, _, _, _, _, _⟩) (.bool true) (yl_move (by rfl) _ rfl _ rfl) ?_
                  simp only [Act.put, List.setIfInBounds_toArray, List.set_cons_zero, List.set_cons_succ]
                  refine wl_yield (o := ⟨_, _, _, _, _, _⟩) (.int .i64 z4) (yl_move (by rfl) _ rfl _ rfl) ?_
                  simp only [Act.put, List.setIfInBounds_toArray, List.set_cons_zero, List.set_cons_succ]
                  refine wl_yield (o := ⟨_, _, _, _, _, _⟩) (.bool false) (yl_neqE (by rfl) _ _ _ rfl (z4) (0) false rfl rfl (decide_eq_false (fun h => h hN))) ?_
                  simp only [Act.put, List.setIfInBounds_toArray, List.set_cons_zero, List.set_cons_succ]
                  refine wl_yield (o := ⟨_, _, _, _, _, _⟩) (.bool false) (yl_move (by rfl) _ rfl _ rfl) ?_
                  simp only [Act.put, List.setIfInBounds_toArray, List.set_cons_zero, List.set_cons_succ]
                  refine wl_yield (o := ⟨_, _, _, _, _, _⟩) (.slice p4 l4.length c4) (yl_move (by rfl) _ rfl _ rfl) ?_
                  simp only [Act.put, List.setIfInBounds_toArray, List.set_cons_zero, List.set_cons_succ]
                  refine wl_yield (o := ⟨_, _, _, _, _, _⟩) (evVal e) (yl_ev (by rfl) _ rfl _ 0 rfl _ _ _ _ _ _ _ _ _ _ _ _ (fun _ h => by subst h; exact evCells HE)) ?_
                  simp only [Act.put, List.setIfInBounds_toArray, List.set_cons_zero, List.set_cons_succ]
                  refine wl_call (o := ⟨_, _, _, _, _, _⟩) (by rfl) 15 _ _ rfl #[.slice p4 l4.length c4, evVal e] rfl (run_call Tryz.func15 (by kernel_rfl) (by kernel_rfl)) ?_
                  refine (progHas_any _ l4 e _ hb4 fl4 hf he).mono ?_
                  rintro r v19 ⟨rfl, kb⟩
                  replace D := D.trans (kb.mono D.size)
                  replace hx := hx.on kb
                  replace hy := hy.on kb
                  replace HB := HB.on kb
                  replace HC := HC.on kb
                  replace HE := HE.on kb
                  replace hb1 := hb1.on kb
                  replace hb2 := hb2.on kb
                  replace HO := HO.on kb
                  replace hb3 := hb3.on kb
                  replace HN := HN.on kb
                  replace hb4 := hb4.on kb
                  clear kb
                  refine ⟨.bool true, ret_bool (by rw [dnf_and (hh1 hA).1 (hh2 hB).1 (hh4 hN).1 ((hh1 hA).2 e he) ((hh2 hB).2 e he) ((hh4 hN).2 e he), hF, hG]; rfl), ?_⟩
                  simp only [Act.put, List.setIfInBounds_toArray, List.set_cons_zero, List.set_cons_succ]
                  refine wl_yield (o := ⟨_, _, _, _, _, _⟩) (.bool true) (yl_move (by rfl) _ rfl _ rfl) ?_
                  simp only [Act.put, List.setIfInBounds_toArray, List.set_cons_zero, List.set_cons_succ]
                  refine wl_yield (o := ⟨_, _, _, _, _, _⟩) (.bool true) (yl_move (by rfl) _ rfl _ rfl) ?_
                  simp only [Act.put, List.setIfInBounds_toArray, List.set_cons_zero, List.set_cons_succ]
                  refine wl_yield (o := ⟨_, _, _, _, _, _⟩) (.bool true) (yl_move (by rfl) _ rfl _ rfl) ?_
                  simp only [Act.put, List.setIfInBounds_toArray, List.set_cons_zero, List.set_cons_succ]
                  refine wl_yield (o := ⟨_, _, _, _, _, _⟩) (.bool true) (yl_pickT (by rfl) _ _ _ rfl rfl _ rfl) ?_
                  simp only [Act.put, List.setIfInBounds_toArray, List.set_cons_zero, List.set_cons_succ]
                  refine wl_yield (o := ⟨_, _, _, _, _, _⟩) (.bool true) (yl_eqB (by rfl) _ _ _ rfl true true rfl rfl) ?_
                  simp only [Act.put, List.setIfInBounds_toArray, List.set_cons_zero, List.set_cons_succ]
                  refine wl_yield (o := ⟨_, _, _, _, _, _⟩) (.bool true) (yl_pickF (by rfl) _ _ _ rfl rfl _ rfl) ?_
                  simp only [Act.put, List.setIfInBounds_toArray, List.set_cons_zero, List.set_cons_succ]
                  refine wl_yield (o := ⟨_, _, _, _, _, _⟩) (.bool true) (yl_pickT (by rfl) _ _ _ rfl rfl _ rfl) ?_
                  simp only [Act.put, List.setIfInBounds_toArray, List.set_cons_zero, List.set_cons_succ]
                  refine wl_yield (o := ⟨_, _, _, _, _, _⟩) (.bool true) (yl_assign (by rfl) _ rfl _ rfl) ?_
                  simp only [Act.put, List.setIfInBounds_toArray, List.set_cons_zero, List.set_cons_succ]
                  refine wpList_nil ?_
                  refine hK11 _ _ ?_
                  clear hK11 K11
                  refine wp_ret ?_
                  go_ret
                  exact ⟨rfl, D⟩
            · refine ⟨.tuple #[.slice p4 l4.length c4, .int .i64 z4], rfl, ?_⟩
              simp only [Act.put, List.setIfInBounds_toArray, List.set_cons_zero, List.set_cons_succ]
              refine wl_yield (o := ⟨_, _, _, _, _, _⟩) (.tuple #[.slice p4 l4.length c4, .int .i64 z4]) (yl_move (by rfl) _ rfl _ rfl) ?_
              simp only [Act.put, List.setIfInBounds_toArray, List.set_cons_zero, List.set_cons_succ]
              refine wl_yield (o := ⟨_, _, _, _, _, _⟩) (.slice p4 l4.length c4) (yl_extract0 (by rfl) _ rfl _ _ rfl) ?_
              simp only [Act.put, List.setIfInBounds_toArray, List.set_cons_zero, List.set_cons_succ]
              refine wl_yield (o := ⟨_, _, _, _, _, _⟩) (.int .i64 z4) (yl_extract1 (by rfl) _ rfl _ _ rfl) ?_
              simp only [Act.put, List.setIfInBounds_toArray, List.set_cons_zero, List.set_cons_succ]
              refine wl_yield (o := ⟨_, _, _, _, _, _⟩) (.slice p4 l4.length c4) (yl_assign (by rfl) _ rfl _ rfl) ?_
              simp only [Act.put, List.setIfInBounds_toArray, List.set_cons_zero, List.set_cons_succ]
              refine wl_yield (o := ⟨_, _, _, _, _, _⟩) (.int .i64 z4) (yl_assign (by rfl) _ rfl _ rfl) ?_
              simp only [Act.put, List.setIfInBounds_toArray, List.set_cons_zero, List.set_cons_succ]
              refine wpList_nil ?_
              refine hK7 _ _ ?_
              clear hK7 K7
              refine wp_seq_k (fun K8 hK8 => ?_)
              refine wp_seq_k (fun K9 hK9 => ?_)
              refine wp_region_lit ?_
              refine wl_yield (o := ⟨_, _, _, _, _, _⟩) (.int .i64 z1) (yl_move (by rfl) _ rfl _ rfl) ?_
              simp only [Act.put, List.setIfInBounds_toArray, List.set_cons_zero, List.set_cons_succ]
              refine wl_yield (o := ⟨_, _, _, _, _, _⟩) (.bool false) (yl_neqE (by rfl) _ _ _ rfl (z1) (0) false rfl rfl (decide_eq_false (fun h => h hA))) ?_
              simp only [Act.put, List.setIfInBounds_toArray, List.set_cons_zero, List.set_cons_succ]
              refine wl_yield (o := ⟨_, _, _, _, _, _⟩) (.bool false) (yl_move (by rfl) _ rfl _ rfl) ?_
              simp only [Act.put, List.setIfInBounds_toArray, List.set_cons_zero, List.set_cons_succ]
              refine wl_yield (o := ⟨_, _, _, _, _, _⟩) (.int .i64 z2) (yl_move (by rfl) _ rfl _ rfl) ?_
              simp only [Act.put, List.setIfInBounds_toArray, List.set_cons_zero, List.set_cons_succ]
              refine wl_yield (o := ⟨_, _, _, _, _, _⟩) (.bool false) (yl_neqE (by rfl) _ _ _ rfl (z2) (0) false rfl rfl (decide_eq_false (fun h => h hB))) ?_
              simp only [Act.put, List.setIfInBounds_toArray, List.set_cons_zero, List.set_cons_succ]
              refine wl_yield (o := ⟨_, _, _, _, _, _⟩) (.bool false) (yl_pickF (by rfl) _ _ _ rfl rfl _ rfl) ?_
              simp only [Act.put, List.setIfInBounds_toArray, List.set_cons_zero, List.set_cons_succ]
              refine wpList_nil ?_
              refine hK9 _ _ ?_
              clear hK9 K9
              refine wp_cond_false rfl ?_
              refine wp_skip ?_
              refine hK8 _ _ ?_
              clear hK8 K8
              refine wp_seq_k (fun K10 hK10 => ?_)
              refine wp_region_held_drew (S := fun w' => EvIn w' gb3 e) (by kernel_rfl) HE (fun hHeld => ?_)
              have kb : Below v14.heap.size v14 v14.drew := (Below.refl _ v14).drew
              replace D := D.trans (kb.mono D.size)
              replace hx := hx.on kb
              replace hy := hy.on kb
              replace HB := HB.on kb
              replace HC := HC.on kb
              replace HE := HE.on kb
              replace hb1 := hb1.on kb
              replace hb2 := hb2.on kb
              replace HO := HO.on kb
              replace hb3 := hb3.on kb
              replace HN := HN.on kb
              replace hb4 := hb4.on kb
              clear kb
              generalize v14.drew = v15 at D hHeld hx hy HB HC HE hb1 hb2 HO hb3 HN hb4 ⊢
              refine wpAnyH_take (i := 0) (oi := ⟨_, _, _, _, _, _⟩) (v := .slice p1 l1.length c1) rfl (by kernel_rfl) (by kernel_rfl) (by kernel_rfl) (fun _ _ _ h => h) (yl_move (by rfl) _ rfl _ rfl) (by assumption) ?_
              simp only [Act.put, List.setIfInBounds_toArray, List.set_cons_zero, List.set_cons_succ]
              refine wpAnyH_take (i := 1) (oi := ⟨_, _, _, _, _, _⟩) (v := evVal e) rfl (by kernel_rfl) (by kernel_rfl) (by kernel_rfl) (fun _ _ _ h => h) (yl_ev (by rfl) _ rfl _ 0 rfl _ _ _ _ _ _ _ _ _ _ _ _ (fun _ h => evCells h)) (by assumption) ?_
              simp only [Act.put, List.setIfInBounds_toArray, List.set_cons_zero, List.set_cons_succ]
              refine wpAnyH_take (i := 3) (oi := ⟨_, _, _, _, _, _⟩) (v := .slice p2 l2.length c2) rfl (by kernel_rfl) (by kernel_rfl) (by kernel_rfl) (fun _ _ _ h => h) (yl_move (by rfl) _ rfl _ rfl) (by assumption) ?_
              simp only [Act.put, List.setIfInBounds_toArray, List.set_cons_zero, List.set_cons_succ]
              refine wpAnyH_take (i := 4) (oi := ⟨_, _, _, _, _, _⟩) (v := evVal e) rfl (by kernel_rfl) (by kernel_rfl) (by kernel_rfl) (fun _ _ _ h => h) (yl_ev (by rfl) _ rfl _ 0 rfl _ _ _ _ _ _ _ _ _ _ _ _ (fun _ h => evCells h)) (by assumption) ?_
              simp only [Act.put, List.setIfInBounds_toArray, List.set_cons_zero, List.set_cons_succ]
              refine held_call (o := ⟨_, _, _, _, _, _⟩) 2 (by kernel_rfl) rfl (by rfl) 15 _ _ rfl #[.slice p1 l1.length c1, evVal e] rfl (run_call Tryz.func15 (by kernel_rfl) (by kernel_rfl)) ?_
              refine (progHas_any _ l1 e _ hb1 fl1 hf he).mono ?_
              rintro r v16 ⟨rfl, kb⟩
              replace D := D.trans (kb.mono D.size)
              replace hx := hx.on kb
              replace hy := hy.on kb
              replace HB := HB.on kb
              replace HC := HC.on kb
              replace HE := HE.on kb
              replace hb1 := hb1.on kb
              replace hb2 := hb2.on kb
              replace HO := HO.on kb
              replace hb3 := hb3.on kb
              replace HN := HN.on kb
              replace hb4 := hb4.on kb
              clear kb
              clear hHeld
              cases hF : hasL l1 e
              · refine ⟨.bool false, rfl, HE, fun hHeld => ?_⟩
                simp only [Act.put, List.setIfInBounds_toArray, List.set_cons_zero, List.set_cons_succ]
                refine held_call (o := ⟨_, _, _, _, _, _⟩) 5 (by kernel_rfl) rfl (by rfl) 15 _ _ rfl #[.slice p2 l2.length c2, evVal e] rfl (run_call Tryz.func15 (by kernel_rfl) (by kernel_rfl)) ?_
                refine (progHas_any _ l2 e _ hb2 fl2 hf he).mono ?_
                rintro r v17 ⟨rfl, kb⟩
                replace D := D.trans (kb.mono D.size)
                replace hx := hx.on kb
                replace hy := hy.on kb
                replace HB := HB.on kb
                replace HC := HC.on kb
                replace HE := HE.on kb
                replace hb1 := hb1.on kb
                replace hb2 := hb2.on kb
                replace HO := HO.on kb
                replace hb3 := hb3.on kb
                replace HN := HN.on kb
                replace hb4 := hb4.on kb
                clear kb
                clear hHeld
                cases hG : hasL l2 e
                · refine ⟨.bool false, rfl, HE, fun hHeld => ?_⟩
                  simp only [Act.put, List.setIfInBounds_toArray, List.set_cons_zero, List.set_cons_succ]
                  refine wpAnyH_take (i := 6) (oi := ⟨_, _, _, _, _, _⟩) (v := .bool false) rfl (by kernel_rfl) (by kernel_rfl) (by kernel_rfl) (fun _ _ _ h => h) (yl_assign (by rfl) _ rfl _ rfl) (by assumption) ?_
                  simp only [Act.put, List.setIfInBounds_toArray, List.set_cons_zero, List.set_cons_succ]
                  refine wpAnyH_take (i := 7) (oi := ⟨_, _, _, _, _, _⟩) (v := .bool false) rfl (by kernel_rfl) (by kernel_rfl) (by kernel_rfl) (fun _ _ _ h => h) (yl_assign (by rfl) _ rfl _ rfl) (by assumption) ?_
                  simp only [Act.put, List.setIfInBounds_toArray, List.set_cons_zero, List.set_cons_succ]
                  refine wpAnyH_done (by kernel_rfl) ?_ _
                  clear hHeld
                  refine hK10 _ _ ?_
                  clear hK10 K10
                  refine wp_seq_k (fun K11 hK11 => ?_)
                  refine wp_region_lit ?_
                  refine wl_yield (o := ⟨_, _, _, _, _, _⟩) (.int .i64 z3) (yl_move (by rfl) _ rfl _ rfl) ?_
                  simp only [Act.put, List.setIfInBounds_toArray, List.set_cons_zero, List.set_cons_succ]
                  refine wl_yield (o := ⟨_, _, _, _, _, _⟩) (.bool false) (yl_neqE (by rfl) _ _ _ rfl (z3) (0) false rfl rfl (decide_eq_false (fun h => h hO))) ?_
                  simp only [Act.put, List.setIfInBounds_toArray, List.set_cons_zero, List.set_cons_succ]
                  refine wl_yield (o := ⟨_, _, _, _, _, _⟩) (.bool false) (yl_move (by rfl) _ rfl _ rfl) ?_
                  simp only [Act.put, List.setIfInBounds_toArray, List.set_cons_zero, List.set_cons_succ]
                  refine wl_yield (o := ⟨_, _, _, _, _, _⟩) (.slice p3 l3.length c3) (yl_move (by rfl) _ rfl _ rfl) ?_
                  simp only [Act.put, List.setIfInBounds_toArray, List.set_cons_zero, List.set_cons_succ]
                  refine wl_yield (o := ⟨_, _, _, _, _, _⟩) (evVal e) (yl_ev (by rfl) _ rfl _ 0 rfl _ _ _ _ _ _ _ _ _ _ _ _ (fun _ h => by subst h; exact evCells HE)) ?_
                  simp only [Act.put, List.setIfInBounds_toArray, List.set_cons_zero, List.set_cons_succ]
                  refine wl_call (o := ⟨_, _, _, _, _, _⟩) (by rfl) 15 _ _ rfl #[.slice p3 l3.length c3, evVal e] rfl (run_call Tryz.func15 (by kernel_rfl) (by kernel_rfl)) ?_
                  refine (progHas_any _ l3 e _ hb3 fl3 hf he).mono ?_
                  rintro r v18 ⟨rfl, kb⟩
                  replace D := D.trans (kb.mono D.size)
                  replace hx := hx.on kb
                  replace hy := hy.on kb
                  replace HB := HB.on kb
                  replace HC := HC.on kb
                  replace HE := HE.on kb
                  replace hb1 := hb1.on kb
                  replace hb2 := hb2.on kb
                  replace HO := HO.on kb
                  replace hb3 := hb3.on kb
                  replace HN := HN.on kb
                  replace hb4 := hb4.on kb
                  clear kb
                  refine ⟨.bool false, ret_bool (by rw [dnf_or (hh1 hA).1 (hh2 hB).1 (hh3 hO).1 ((hh1 hA).2 e he) ((hh2 hB).2 e he) ((hh3 hO).2 e he), hF, hG]; rfl), ?_⟩
                  simp only [Act.put, List.setIfInBounds_toArray, List.set_cons_zero, List.set_cons_succ]
                  refine wl_yield (o := ⟨_, _, _, _, _, _⟩) (.bool false) (yl_move (by rfl) _ rfl _ rfl) ?_
                  simp only [Act.put, List.setIfInBounds_toArray, List.set_cons_zero, List.set_cons_succ]
                  refine wl_yield (o := ⟨_, _, _, _, _, _⟩) (.bool false) (yl_move (by rfl) _ rfl _ rfl) ?_
                  simp only [Act.put, List.setIfInBounds_toArray, List.set_cons_zero, List.set_cons_succ]
                  refine wl_yield (o := ⟨_, _, _, _, _, _⟩) (.bool false) (yl_move (by rfl) _ rfl _ rfl) ?_
                  simp only [Act.put, List.setIfInBounds_toArray, List.set_cons_zero, List.set_cons_succ]
                  refine wl_yield (o := ⟨_, _, _, _, _, _⟩) (.bool false) (yl_pickF (by rfl) _ _ _ rfl rfl _ rfl) ?_
                  simp only [Act.put, List.setIfInBounds_toArray, List.set_cons_zero, List.set_cons_succ]
                  refine wl_yield (o := ⟨_, _, _, _, _, _⟩) (.bool true) (yl_eqB (by rfl) _ _ _ rfl false false rfl rfl) ?_
                  simp only [Act.put, List.setIfInBounds_toArray, List.set_cons_zero, List.set_cons_succ]
                  refine wl_yield (o := ⟨_, _, _, _, _, _⟩) (.bool true) (yl_pickF (by rfl) _ _ _ rfl rfl _ rfl) ?_
                  simp only [Act.put, List.setIfInBounds_toArray, List.set_cons_zero, List.set_cons_succ]
                  refine wl_yield (o := ⟨_, _, _, _, _, _⟩) (.bool true) (yl_move (by rfl) _ rfl _ rfl) ?_
                  simp only [Act.put, List.setIfInBounds_toArray, List.set_cons_zero, List.set_cons_succ]
                  refine wl_yield (o := ⟨_, _, _, _, _, _⟩) (.int .i64 z4) (yl_move (by rfl) _ rfl _ rfl) ?_
                  simp only [Act.put, List.setIfInBounds_toArray, List.set_cons_zero, List.set_cons_succ]
                  refine wl_yield (o := ⟨_, _, _, _, _, _⟩) (.bool true) (yl_neqE (by rfl) _ _ _ rfl (z4) (0) true rfl rfl (decide_eq_true hN)) ?_
                  simp only [Act.put, List.setIfInBounds_toArray, List.set_cons_zero, List.set_cons_succ]
                  refine wl_yield (o := ⟨_, _, _, _, _, _⟩) (.bool true) (yl_move (by rfl) _ rfl _ rfl) ?_
                  simp only [Act.put, List.setIfInBounds_toArray, List.set_cons_zero, List.set_cons_succ]
                  with_reducible refine wl_yield (o := ⟨_, _, _, _, _, _⟩) undef (yl_undef (by kernel_rfl)) ?_
                  simp only [Act.put, List.setIfInBounds_toArray, List.set_cons_zero, List.set_cons_succ]
                  with_reducible refine wl_yield (o := ⟨_, _, _, _, _, _⟩) undef (yl_undef (by kernel_rfl)) ?_
                  simp only [Act.put, List.setIfInBounds_toArray, List.set_cons_zero, List.set_cons_succ]
                  with_reducible refine wl_yield (o := ⟨_, _, _, _, _, _⟩) undef (yl_undef (by kernel_rfl)) ?_
                  simp only [Act.put, List.setIfInBounds_toArray, List.set_cons_zero, List.set_cons_succ]
                  with_reducible refine wl_yield (o := ⟨_, _, _, _, _, _⟩) undef (yl_undef (by kernel_rfl)) ?_
                  simp only [Act.put, List.setIfInBounds_toArray, List.set_cons_zero, List.set_cons_succ]
                  with_reducible refine wl_yield (o := ⟨_, _, _, _, _, _⟩) undef (yl_undef (by kernel_rfl)) ?_
                  simp only [Act.put, List.setIfInBounds_toArray, List.set_cons_zero, List.set_cons_succ]
                  with_reducible refine wl_yield (o := ⟨_, _, _, _, _, _⟩) undef (yl_undef (by kernel_rfl)) ?_
                  simp only [Act.put, List.setIfInBounds_toArray, List.set_cons_zero, List.set_cons_succ]
                  with_reducible refine wl_yield (o := ⟨_, _, _, _, _, _⟩) undef (yl_undef (by kernel_rfl)) ?_
                  simp only [Act.put, List.setIfInBounds_toArray, List.set_cons_zero, List.set_cons_succ]
                  with_reducible refine wl_yield (o := ⟨_, _, _, _, _, _⟩) undef (yl_undef (by kernel_rfl)) ?_
                  simp only [Act.put, List.setIfInBounds_toArray, List.set_cons_zero, List.set_cons_succ]
                  refine wl_yield (o := ⟨_, _, _, _, _, _⟩) (.bool true) (yl_pickT (by rfl) _ _ _ rfl rfl _ rfl) ?_
                  simp only [Act.put, List.setIfInBounds_toArray, List.set_cons_zero, List.set_cons_succ]
                  refine wl_yield (o := ⟨_, _, _, _, _, _⟩) (.bool true) (yl_pickT (by rfl) _ _ _ rfl rfl _ rfl) ?_
                  simp only [Act.put, List.setIfInBounds_toArray, List.set_cons_zero, List.set_cons_succ]
                  refine wl_yield (o := ⟨_, _, _, _, _, _⟩) (.bool true) (yl_assign (by rfl) _ rfl _ rfl) ?_
                  simp only [Act.put, List.setIfInBounds_toArray, List.set_cons_zero, List.set_cons_succ]
                  refine wpList_nil ?_
                  refine hK11 _ _ ?_
                  clear hK11 K11
                  refine wp_ret ?_
                  go_ret
                  exact ⟨rfl, D⟩
                · refine ⟨.bool true, rfl, HE, fun hHeld => ?_⟩
                  simp only [Act.put, List.setIfInBounds_toArray, List.set_cons_zero, List.set_cons_succ]
                  refine wpAnyH_take (i := 6) (oi := ⟨_, _, _, _, _, _⟩) (v := .bool false) rfl (by kernel_rfl) (by kernel_rfl) (by kernel_rfl) (fun _ _ _ h => h) (yl_assign (by rfl) _ rfl _ rfl) (by assumption) ?_
                  simp only [Act.put, List.setIfInBounds_toArray, List.set_cons_zero, List.set_cons_succ]
                  refine wpAnyH_take (i := 7) (oi := ⟨_, _, _, _, _, _⟩) (v := .bool true) rfl (by kernel_rfl) (by kernel_rfl) (by kernel_rfl) (fun _ _ _ h => h) (yl_assign (by rfl) _ rfl _ rfl) (by assumption) ?_
                  simp only [Act.put, List.setIfInBounds_toArray, List.set_cons_zero, List.set_cons_succ]
                  refine wpAnyH_done (by kernel_rfl) ?_ _
                  clear hHeld
                  refine hK10 _ _ ?_
                  clear hK10 K10
                  refine wp_seq_k (fun K11 hK11 => ?_)
                  refine wp_region_lit ?_
                  refine wl_yield (o := ⟨_, _, _, _, _, _⟩) (.int .i64 z3) (yl_move (by rfl) _ rfl _ rfl) ?_
                  simp only [Act.put, List.setIfInBounds_toArray, List.set_cons_zero, List.set_cons_succ]
                  refine wl_yield (o := ⟨_, _, _, _, _, _⟩) (.bool false) (yl_neqE (by rfl) _ _ _ rfl (z3) (0) false rfl rfl (decide_eq_false (fun h => h hO))) ?_
                  simp only [Act.put, List.setIfInBounds_toArray, List.set_cons_zero, List.set_cons_succ]
                  refine wl_yield (o := ⟨_, _, _, _, _, _⟩) (.bool false) (yl_move (by rfl) _ rfl _ rfl) ?_
                  simp only [Act.put, List.setIfInBounds_toArray, List.set_cons_zero, List.set_cons_succ]
                  refine wl_yield (o := ⟨_, _, _, _, _, _⟩) (.slice p3 l3.length c3) (yl_move (by rfl) _ rfl _ rfl) ?_
                  simp only [Act.put, List.setIfInBounds_toArray, List.set_cons_zero, List.set_cons_succ]
                  refine wl_yield (o := ⟨_, _, _, _, _, _⟩) (evVal e) (yl_ev (by rfl) _ rfl _ 0 rfl _ _ _ _ _ _ _ _ _ _ _ _ (fun _ h => by subst h; exact evCells HE)) ?_
                  simp only [Act.put, List.setIfInBounds_toArray, List.set_cons_zero, List.set_cons_succ]
                  refine wl_call (o := ⟨_, _, _, _, _, _⟩) (by rfl) 15 _ _ rfl #[.slice p3 l3.length c3, evVal e] rfl (run_call Tryz.func15 (by kernel_rfl) (by kernel_rfl)) ?_
                  refine (progHas_any _ l3 e _ hb3 fl3 hf he).mono ?_
                  rintro r v18 ⟨rfl, kb⟩
                  replace D := D.trans (kb.mono D.size)
                  replace hx := hx.on kb
                  replace hy := hy.on kb
                  replace HB := HB.on kb
                  replace HC := HC.on kb
                  replace HE := HE.on kb
                  replace hb1 := hb1.on kb
                  replace hb2 := hb2.on kb
                  replace HO := HO.on kb
                  replace hb3 := hb3.on kb
                  replace HN := HN.on kb
                  replace hb4 := hb4.on kb
                  clear kb
                  refine ⟨.bool true, ret_bool (by rw [dnf_or (hh1 hA).1 (hh2 hB).1 (hh3 hO).1 ((hh1 hA).2 e he) ((hh2 hB).2 e he) ((hh3 hO).2 e he), hF, hG]; rfl), ?_⟩
                  simp only [Act.put, List.setIfInBounds_toArray, List.set_cons_zero, List.set_cons_succ]
                  refine wl_yield (o := ⟨_, _, _, _, _, _⟩) (.bool false) (yl_move (by rfl) _ rfl _ rfl) ?_
                  simp only [Act.put, List.setIfInBounds_toArray, List.set_cons_zero, List.set_cons_succ]
                  refine wl_yield (o := ⟨_, _, _, _, _, _⟩) (.bool false) (yl_move (by rfl) _ rfl _ rfl) ?_
                  simp only [Act.put, List.setIfInBounds_toArray, List.set_cons_zero, List.set_cons_succ]
                  refine wl_yield (o := ⟨_, _, _, _, _, _⟩) (.bool true) (yl_move (by rfl) _ rfl _ rfl) ?_
                  simp only [Act.put, List.setIfInBounds_toArray, List.set_cons_zero, List.set_cons_succ]
                  refine wl_yield (o := ⟨_, _, _, _, _, _⟩) (.bool true) (yl_pickF (by rfl) _ _ _ rfl rfl _ rfl) ?_
                  simp only [Act.put, List.setIfInBounds_toArray, List.set_cons_zero, List.set_cons_succ]
                  refine wl_yield (o := ⟨_, _, _, _, _, _⟩) (.bool true) (yl_eqB (by rfl) _ _ _ rfl true true rfl rfl) ?_
                  simp only [Act.put, List.setIfInBounds_toArray, List.set_cons_zero, List.set_cons_succ]
                  refine wl_yield (o := ⟨_, _, _, _, _, _⟩) (.bool true) (yl_pickF (by rfl) _ _ _ rfl rfl _ rfl) ?_
                  simp only [Act.put, List.setIfInBounds_toArray, List.set_cons_zero, List.set_cons_succ]
                  refine wl_yield (o := ⟨_, _, _, _, _, _⟩) (.bool true) (yl_move (by rfl) _ rfl _ rfl) ?_
                  simp only [Act.put, List.setIfInBounds_toArray, List.set_cons_zero, List.set_cons_succ]
                  refine wl_yield (o := ⟨_, _, _, _, _, _⟩) (.int .i64 z4) (yl_move (by rfl) _ rfl _ rfl) ?_
                  simp only [Act.put, List.setIfInBounds_toArray, List.set_cons_zero, List.set_cons_succ]
                  refine wl_yield (o := ⟨_, _, _, _, _, _⟩) (.bool true) (yl_neqE (by rfl) _ _ _ rfl (z4) (0) true rfl rfl (decide_eq_true hN)) ?_
                  simp only [Act.put, List.setIfInBounds_toArray, List.set_cons_zero, List.set_cons_succ]
                  refine wl_yield (o := ⟨_, _, _, _, _, _⟩) (.bool true) (yl_move (by rfl) _ rfl _ rfl) ?_
                  simp only [Act.put, List.setIfInBounds_toArray, List.set_cons_zero, List.set_cons_succ]
                  with_reducible refine wl_yield (o := ⟨_, _, _, _, _, _⟩) undef (yl_undef (by kernel_rfl)) ?_
                  simp only [Act.put, List.setIfInBounds_toArray, List.set_cons_zero, List.set_cons_succ]
                  with_reducible refine wl_yield (o := ⟨_, _, _, _, _, _⟩) undef (yl_undef (by kernel_rfl)) ?_
                  simp only [Act.put, List.setIfInBounds_toArray, List.set_cons_zero, List.set_cons_succ]
                  with_reducible refine wl_yield (o := ⟨_, _, _, _, _, _⟩) undef (yl_undef (by kernel_rfl)) ?_
                  simp only [Act.put, List.setIfInBounds_toArray, List.set_cons_zero, List.set_cons_succ]
                  with_reducible refine wl_yield (o := ⟨_, _, _, _, _, _⟩) undef (yl_undef (by kernel_rfl)) ?_
                  simp only [Act.put, List.setIfInBounds_toArray, List.set_cons_zero, List.set_cons_succ]
                  with_reducible refine wl_yield (o := ⟨_, _, _, _, _, _⟩) undef (yl_undef (by kernel_rfl)) ?_
                  simp only [Act.put, List.setIfInBounds_toArray, List.set_cons_zero, List.set_cons_succ]
                  with_reducible refine wl_yield (o := ⟨_, _, _, _, _, _⟩) undef (yl_undef (by kernel_rfl)) ?_
                  simp only [Act.put, List.setIfInBounds_toArray, List.set_cons_zero, List.set_cons_succ]
                  with_reducible refine wl_yield (o := ⟨_, _, _, _, _, _⟩) undef (yl_undef (by kernel_rfl)) ?_
                  simp only [Act.put, List.setIfInBounds_toArray, List.set_cons_zero, List.set_cons_succ]
                  with_reducible refine wl_yield (o := ⟨_, _, _, _, _, _⟩) undef (yl_undef (by kernel_rfl)) ?_
                  simp only [Act.put, List.setIfInBounds_toArray, List.set_cons_zero, List.set_cons_succ]
                  refine wl_yield (o := ⟨_, _, _, _, _, _⟩) (.bool true) (yl_pickT (by rfl) _ _ _ rfl rfl _ rfl) ?_
                  simp only [Act.put, List.setIfInBounds_toArray, List.set_cons_zero, List.set_cons_succ]
                  refine wl_yield (o := ⟨_, _, _, _, _, _⟩) (.bool true) (yl_pickT (by rfl) _ _ _ rfl rfl _ rfl) ?_
                  simp only [Act.put, List.setIfInBounds_toArray, List.set_cons_zero, List.set_cons_succ]
                  refine wl_yield (o := ⟨_, _, _, _, _, _⟩) (.bool true) (yl_assign (by rfl) _ rfl _ rfl) ?_
                  simp only [Act.put, List.setIfInBounds_toArray, List.set_cons_zero, List.set_cons_succ]
                  refine wpList_nil ?_
                  refine hK11 _ _ ?_
                  clear hK11 K11
                  refine wp_ret ?_
                  go_ret
                  exact ⟨rfl, D⟩
              · refine ⟨.bool true, rfl, HE, fun hHeld => ?_⟩
                simp only [Act.put, List.setIfInBounds_toArray, List.set_cons_zero, List.set_cons_succ]
                refine held_call (o := ⟨_, _, _, _, _, _⟩) 5 (by kernel_rfl) rfl (by rfl) 15 _ _ rfl #[.slice p2 l2.length c2, evVal e] rfl (run_call Tryz.func15 (by kernel_rfl) (by kernel_rfl)) ?_
                refine (progHas_any _ l2 e _ hb2 fl2 hf he).mono ?_
                rintro r v17 ⟨rfl, kb⟩
                replace D := D.trans (kb.mono D.size)
                replace hx := hx.on kb
                replace hy := hy.on kb
                replace HB := HB.on kb
                replace HC := HC.on kb
                replace HE := HE.on kb
                replace hb1 := hb1.on kb
                replace hb2 := hb2.on kb
                replace HO := HO.on kb
                replace hb3 := hb3.on kb
                replace HN := HN.on kb
                replace hb4 := hb4.on kb
                clear kb
                clear hHeld
                cases hG : hasL l2 e
                · refine ⟨.bool false, rfl, HE, fun hHeld => ?_⟩
                  simp only [Act.put, List.setIfInBounds_toArray, List.set_cons_zero, List.set_cons_succ]
                  refine wpAnyH_take (i := 6) (oi := ⟨_, _, _, _, _, _⟩) (v := .bool true) rfl (by kernel_rfl) (by kernel_rfl) (by kernel_rfl) (fun _ _ _ h => h) (yl_assign (by rfl) _ rfl _ rfl) (by assumption) ?_
                  simp only [Act.put, List.setIfInBounds_toArray, List.set_cons_zero, List.set_cons_succ]
                  refine wpAnyH_take (i := 7) (oi := ⟨_, _, _, _, _, _⟩) (v := .bool false) rfl (by kernel_rfl) (by kernel_rfl) (by kernel_rfl) (fun _ _ _ h => h) (yl_assign (by rfl) _ rfl _ rfl) (by assumption) ?_
                  simp only [Act.put, List.setIfInBounds_toArray, List.set_cons_zero, List.set_cons_succ]
                  refine wpAnyH_done (by kernel_rfl) ?_ _
                  clear hHeld
                  refine hK10 _ _ ?_
                  clear hK10 K10
                  refine wp_seq_k (fun K11 hK11 => ?_)
                  refine wp_region_lit ?_
                  refine wl_yield (o := ⟨_, _, _, _, _, _⟩) (.int .i64 z3) (yl_move (by rfl) _ rfl _ rfl) ?_
                  simp only [Act.put, List.setIfInBounds_toArray, List.set_cons_zero, List.set_cons_succ]
                  refine wl_yield (o := ⟨_, _, _, _, _, _⟩) (.bool false) (yl_neqE (by rfl) _ _ _ rfl (z3) (0) false rfl rfl (decide_eq_false (fun h => h hO))) ?_
                  simp only [Act.put, List.setIfInBounds_toArray, List.set_cons_zero, List.set_cons_succ]
                  refine wl_yield (o := ⟨_, _, _, _, _, _⟩) (.bool false) (yl_move (by rfl) _ rfl _ rfl) ?_
                  simp only [Act.put, List.setIfInBounds_toArray, List.set_cons_zero, List.set_cons_succ]
                  refine wl_yield (o := ⟨_, _, _, _, _, _⟩) (.slice p3 l3.length c3) (yl_move (by rfl) _ rfl _ rfl) ?_
                  simp only [Act.put, List.setIfInBounds_toArray, List.set_cons_zero, List.set_cons_succ]
                  refine wl_yield (o := ⟨_, _, _, _, _, _⟩) (evVal e) (yl_ev (by rfl) _ rfl _ 0 rfl _ _ _ _ _ _ _ _ _ _ _ _ (fun _ h => by subst h; exact evCells HE)) ?_
                  simp only [Act.put, List.setIfInBounds_toArray, List.set_cons_zero, List.set_cons_succ]
                  refine wl_call (o := ⟨_, _, _, _, _, _⟩) (by rfl) 15 _ _ rfl #[.slice p3 l3.length c3, evVal e] rfl (run_call Tryz.func15 (by kernel_rfl) (by kernel_rfl)) ?_
                  refine (progHas_any _ l3 e _ hb3 fl3 hf he).mono ?_
                  rintro r v18 ⟨rfl, kb⟩
                  replace D := D.trans (kb.mono D.size)
                  replace hx := hx.on kb
                  replace hy := hy.on kb
                  replace HB := HB.on kb
                  replace HC := HC.on kb
                  replace HE := HE.on kb
                  replace hb1 := hb1.on kb
                  replace hb2 := hb2.on kb
                  replace HO := HO.on kb
                  replace hb3 := hb3.on kb
                  replace HN := HN.on kb
                  replace hb4 := hb4.on kb
                  clear kb
                  refine ⟨.bool true, ret_bool (by rw [dnf_or (hh1 hA).1 (hh2 hB).1 (hh3 hO).1 ((hh1 hA).2 e he) ((hh2 hB).2 e he) ((hh3 hO).2 e he), hF, hG]; rfl), ?_⟩
                  simp only [Act.put, List.setIfInBounds_toArray, List.set_cons_zero, List.set_cons_succ]
                  refine wl_yield (o := ⟨_, _, _, _, _, _⟩) (.bool true) (yl_move (by rfl) _ rfl _ rfl) ?_
                  simp only [Act.put, List.setIfInBounds_toArray, List.set_cons_zero, List.set_cons_succ]
                  refine wl_yield (o := ⟨_, _, _, _, _, _⟩) (.bool true) (yl_move (by rfl) _ rfl _ rfl) ?_
                  simp only [Act.put, List.setIfInBounds_toArray, List.set_cons_zero, List.set_cons_succ]
                  with_reducible refine wl_yield (o := ⟨_, _, _, _, _, _⟩) undef (yl_undef (by kernel_rfl)) ?_
                  simp only [Act.put, List.setIfInBounds_toArray, List.set_cons_zero, List.set_cons_succ]
                  refine wl_yield (o := ⟨_, _, _, _, _, _⟩) (.bool true) (yl_pickT (by rfl) _ _ _ rfl rfl _ rfl) ?_
                  simp only [Act.put, List.setIfInBounds_toArray, List.set_cons_zero, List.set_cons_succ]
                  refine wl_yield (o := ⟨_, _, _, _, _, _⟩) (.bool true) (yl_eqB (by rfl) _ _ _ rfl true true rfl rfl) ?_
                  simp only [Act.put, List.setIfInBounds_toArray, List.set_cons_zero, List.set_cons_succ]
                  refine wl_yield (o := ⟨_, _, _, _, _, _⟩) (.bool true) (yl_pickF (by rfl) _ _ _ rfl rfl _ rfl) ?_
                  simp only [Act.put, List.setIfInBounds_toArray, List.set_cons_zero, List.set_cons_succ]
                  refine wl_yield (o := ⟨_, _, _, _, _, _⟩) (.bool true) (yl_move (by rfl) _ rfl _ rfl) ?_
                  simp only [Act.put, List.setIfInBounds_toArray, List.set_cons_zero, List.set_cons_succ]
                  refine wl_yield (o := ⟨_, _, _, _, _, _⟩) (.int .i64 z4) (yl_move (by rfl) _ rfl _ rfl) ?_
                  simp only [Act.put, List.setIfInBounds_toArray, List.set_cons_zero, List.set_cons_succ]
                  refine wl_yield (o := ⟨_, _, _, _, _, _⟩) (.bool true) (yl_neqE (by rfl) _ _ _ rfl (z4) (0) true rfl rfl (decide_eq_true hN)) ?_
                  simp only [Act.put, List.setIfInBounds_toArray, List.set_cons_zero, List.set_cons_succ]
                  refine wl_yield (o := ⟨_, _, _, _, _, _⟩) (.bool true) (yl_move (by rfl) _ rfl _ rfl) ?_
                  simp only [Act.put, List.setIfInBounds_toArray, List.set_cons_zero, List.set_cons_succ]
                  with_reducible refine wl_yield (o := ⟨_, _, _, _, _, _⟩) undef (yl_undef (by kernel_rfl)) ?_
                  simp only [Act.put, List.setIfInBounds_toArray, List.set_cons_zero, List.set_cons_succ]
                  with_reducible refine wl_yield (o := ⟨_, _, _, _, _, _⟩) undef (yl_undef (by kernel_rfl)) ?_
                  simp only [Act.put, List.setIfInBounds_toArray, List.set_cons_zero, List.set_cons_succ]
                  with_reducible refine wl_yield (o := ⟨_, _, _, _, _, _⟩) undef (yl_undef (by kernel_rfl)) ?_
                  simp only [Act.put, List.setIfInBounds_toArray, List.set_cons_zero, List.set_cons_succ]
                  with_reducible refine wl_yield (o := ⟨_, _, _, _, _, _⟩) undef (yl_undef (by kernel_rfl)) ?_
                  simp only [Act.put, List.setIfInBounds_toArray, List.set_cons_zero, List.set_cons_succ]
                  with_reducible refine wl_yield (o := ⟨_, _, _, _, _, _⟩) undef (yl_undef (by kernel_rfl)) ?_
                  simp only [Act.put, List.setIfInBounds_toArray, List.set_cons_zero, List.set_cons_succ]
                  with_reducible refine wl_yield (o := ⟨_, _, _, _, _, _⟩) undef (yl_undef (by kernel_rfl)) ?_
                  simp only [Act.put, List.setIfInBounds_toArray, List.set_cons_zero, List.set_cons_succ]
                  with_reducible refine wl_yield (o := ⟨_, _, _, _, _, _⟩) undef (yl_undef (by kernel_rfl)) ?_
                  simp only [Act.put, List.setIfInBounds_toArray, List.set_cons_zero, List.set_cons_succ]
                  with_reducible refine wl_yield (o := ⟨_, _, _, _, _, _⟩) undef (yl_undef (by kernel_rfl)) ?_
                  simp only [Act.put, List.setIfInBounds_toArray, List.set_cons_zero, List.set_cons_succ]
                  refine wl_yield (o := ⟨_, _, _, _, _, _⟩) (.bool true) (yl_pickT (by rfl) _ _ _ rfl rfl _ rfl) ?_
                  simp only [Act.put, List.setIfInBounds_toArray, List.set_cons_zero, List.set_cons_succ]
                  refine wl_yield (o := ⟨_, _, _, _, _, _⟩) (.bool true) (yl_pickT (by rfl) _ _ _ rfl rfl _ rfl) ?_
                  simp only [Act.put, List.setIfInBounds_toArray, List.set_cons_zero, List.set_cons_succ]
                  refine wl_yield (o := ⟨_, _, _, _, _, _⟩) (.bool true) (yl_assign (by rfl) _ rfl _ rfl) ?_
                  simp only [Act.put, List.setIfInBounds_toArray, List.set_cons_zero, List.set_cons_succ]
                  refine wpList_nil ?_
                  refine hK11 _ _ ?_
                  clear hK11 K11
                  refine wp_ret ?_
                  go_ret
                  exact ⟨rfl, D⟩
                · refine ⟨.bool true, rfl, HE, fun hHeld => ?_⟩
                  simp only [Act.put, List.setIfInBounds_toArray, List.set_cons_zero, List.set_cons_succ]
                  refine wpAnyH_take (i := 6) (oi := ⟨_, _, _, _, _, _⟩) (v := .bool true) rfl (by kernel_rfl) (by kernel_rfl) (by kernel_rfl) (fun _ _ _ h => h) (yl_assign (by rfl) _ rfl _ rfl) (by assumption) ?_
                  simp only [Act.put, List.setIfInBounds_toArray, List.set_cons_zero, List.set_cons_succ]
                  refine wpAnyH_take (i := 7) (oi := ⟨_, _, _, _, _, _⟩) (v := .bool true) rfl (by kernel_rfl) (by kernel_rfl) (by kernel_rfl) (fun _ _ _ h => h) (yl_assign (by rfl) _ rfl _ rfl) (by assumption) ?_
                  simp only [Act.put, List.setIfInBounds_toArray, List.set_cons_zero, List.set_cons_succ]
                  refine wpAnyH_done (by kernel_rfl) ?_ _
                  clear hHeld
                  refine hK10 _ _ ?_
                  clear hK10 K10
                  refine wp_seq_k (fun K11 hK11 => ?_)
                  refine wp_region_lit ?_
                  refine wl_yield (o := ⟨_, _, _, _, _, _⟩) (.int .i64 z3) (yl_move (by rfl) _ rfl _ rfl) ?_
                  simp only [Act.put, List.setIfInBounds_toArray, List.set_cons_zero, List.set_cons_succ]
                  refine wl_yield (o := ⟨_, _, _, _, _, _⟩) (.bool false) (yl_neqE (by rfl) _ _ _ rfl (z3) (0) false rfl rfl (decide_eq_false (fun h => h hO))) ?_
                  simp only [Act.put, List.setIfInBounds_toArray, List.set_cons_zero, List.set_cons_succ]
                  refine wl_yield (o := ⟨_, _, _, _, _, _⟩) (.bool false) (yl_move (by rfl) _ rfl _ rfl) ?_
                  simp only [Act.put, List.setIfInBounds_toArray, List.set_cons_zero, List.set_cons_succ]
                  refine wl_yield (o := ⟨_, _, _, _, _, _⟩) (.slice p3 l3.length c3) (yl_move (by rfl) _ rfl _ rfl) ?_
                  simp only [Act.put, List.setIfInBounds_toArray, List.set_cons_zero, List.set_cons_succ]
                  refine wl_yield (o := ⟨_, _, _, _, _, _⟩) (evVal e) (yl_ev (by rfl) _ rfl _ 0 rfl _ _ _ _ _ _ _ _ _ _ _ _ (fun _ h => by subst h; exact evCells HE)) ?_
                  simp only [Act.put, List.setIfInBounds_toArray, List.set_cons_zero, List.set_cons_succ]
                  refine wl_call (o := ⟨_, _, _, _, _, _⟩) (by rfl) 15 _ _ rfl #[.slice p3 l3.length c3, evVal e] rfl (run_call Tryz.func15 (by kernel_rfl) (by kernel_rfl)) ?_
                  refine (progHas_any _ l3 e _ hb3 fl3 hf he).mono ?_
                  rintro r v18 ⟨rfl, kb⟩
                  replace D := D.trans (kb.mono D.size)
                  replace hx := hx.on kb
                  replace hy := hy.on kb
                  replace HB := HB.on kb
                  replace HC := HC.on kb
                  replace HE := HE.on kb
                  replace hb1 := hb1.on kb
                  replace hb2 := hb2.on kb
                  replace HO := HO.on kb
                  replace hb3 := hb3.on kb
                  replace HN := HN.on kb
                  replace hb4 := hb4.on kb
                  clear kb
                  refine ⟨.bool true, ret_bool (by rw [dnf_or (hh1 hA).1 (hh2 hB).1 (hh3 hO).1 ((hh1 hA).2 e he) ((hh2 hB).2 e he) ((hh3 hO).2 e he), hF, hG]; rfl), ?_⟩
                  simp only [Act.put, List.setIfInBounds_toArray, List.set_cons_zero, List.set_cons_succ]
                  refine wl_yield (o := ⟨_, _, _, _, _, _⟩) (.bool true) (yl_move (by rfl) _ rfl _ rfl) ?_
                  simp only [Act.put, List.setIfInBounds_toArray, List.set_cons_zero, List.set_cons_succ]
                  refine wl_yield (o := ⟨_, _, _, _, _, _⟩) (.bool true) (yl_move (by rfl) _ rfl _ rfl) ?_
                  simp only [Act.put, List.setIfInBounds_toArray, List.set_cons_zero, List.set_cons_succ]
                  with_reducible refine wl_yield (o := ⟨_, _, _, _, _, _⟩) undef (yl_undef (by kernel_rfl)) ?_
                  simp only [Act.put, List.setIfInBounds_toArray, List.set_cons_zero, List.set_cons_succ]
                  refine wl_yield (o := ⟨_, _, _, _, _, _⟩) (.bool true) (yl_pickT (by rfl) _ _ _ rfl rfl _ rfl) ?_
                  simp only [Act.put, List.setIfInBounds_toArray, List.set_cons_zero, List.set_cons_succ]
                  refine wl_yield (o := ⟨_, _, _, _, _, _⟩) (.bool true) (yl_eqB (by rfl) _ _ _ rfl true true rfl rfl) ?_
                  simp only [Act.put, List.setIfInBounds_toArray, List.set_cons_zero, List.set_cons_succ]
                  refine wl_yield (o := ⟨_, _, _, _, _, _⟩) (.bool true) (yl_pickF (by rfl) _ _ _ rfl rfl _ rfl) ?_
                  simp only [Act.put, List.setIfInBounds_toArray, List.set_cons_zero, List.set_cons_succ]
                  refine wl_yield (o := ⟨_, _, _, _, _, _⟩) (.bool true) (yl_move (by rfl) _ rfl _ rfl) ?_
                  simp only [Act.put, List.setIfInBounds_toArray, List.set_cons_zero, List.set_cons_succ]
                  refine wl_yield (o := ⟨_, _, _, _, _, _⟩) (.int .i64 z4) (yl_move (by rfl) _ rfl _ rfl) ?_
                  simp only [Act.put, List.setIfInBounds_toArray, List.set_cons_zero, List.set_cons_succ]
                  refine wl_yield (o := ⟨_, _, _, _, _, _⟩) (.bool true) (yl_neqE (by rfl) _ _ _ rfl (z4) (0) true rfl rfl (decide_eq_true hN)) ?_
                  simp only [Act.put, List.setIfInBounds_toArray, List.set_cons_zero, List.set_cons_succ]
                  refine wl_yield (o := ⟨_, _, _, _, _, _⟩) (.bool true) (yl_move (by rfl) _ rfl _ rfl) ?_
                  simp only [Act.put, List.setIfInBounds_toArray, List.set_cons_zero, List.set_cons_succ]
                  with_reducible refine wl_yield (o := ⟨_, _, _, _, _, _⟩) undef (yl_undef (by kernel_rfl)) ?_
                  simp only [Act.put, List.setIfInBounds_toArray, List.set_cons_zero, List.set_cons_succ]
                  with_reducible refine wl_yield (o := ⟨_, _, _, _, _, _⟩) undef (yl_undef (by kernel_rfl)) ?_
                  simp only [Act.put, List.setIfInBounds_toArray, List.set_cons_zero, List.set_cons_succ]
                  with_reducible refine wl_yield (o := ⟨_, _, _, _, _, _⟩) undef (yl_undef (by kernel_rfl)) ?_
                  simp only [Act.put, List.setIfInBounds_toArray, List.set_cons_zero, List.set_cons_succ]
                  with_reducible refine wl_yield (o := ⟨_, _, _, _, _, _⟩) undef (yl_undef (by kernel_rfl)) ?_
                  simp only [Act.put, List.setIfInBounds_toArray, List.set_cons_zero, List.set_cons_succ]
                  with_reducible refine wl_yield (o := ⟨_, _, _, _, _, _⟩) undef (yl_undef (by kernel_rfl)) ?_
                  simp only [Act.put, List.setIfInBounds_toArray, List.set_cons_zero, List.set_cons_succ]
                  with_reducible refine wl_yield (o := ⟨_, _, _, _, _, _⟩) undef (yl_undef (by kernel_rfl)) ?_
                  simp only [Act.put, List.setIfInBounds_toArray, List.set_cons_zero, List.set_cons_succ]
                  with_reducible refine wl_yield (o := ⟨_, _, _, _, _, _⟩) undef (yl_undef (by kernel_rfl)) ?_
                  simp only [Act.put, List.setIfInBounds_toArray, List.set_cons_zero, List.set_cons_succ]
                  with_reducible refine wl_yield (o := ⟨_, _, _, _, _, _⟩) undef (yl_undef (by kernel_rfl)) ?_
                  simp only [Act.put, List.setIfInBounds_toArray, List.set_cons_zero, List.set_cons_succ]
                  refine wl_yield (o := ⟨_, _, _, _, _, _⟩) (.bool true) (yl_pickT (by rfl) _ _ _ rfl rfl _ rfl) ?_
                  simp only [Act.put, List.setIfInBounds_toArray, List.set_cons_zero, List.set_cons_succ]
                  refine wl_yield (o := ⟨_, _, _, _, _, _⟩) (.bool true) (yl_pickT (by rfl) _ _ _ rfl rfl _ rfl) ?_
                  simp only [Act.put, List.setIfInBounds_toArray, List.set_cons_zero, List.set_cons_succ]
                  refine wl_yield (o := ⟨_, _, _, _, _, _⟩) (.bool true) (yl_assign (by rfl) _ rfl _ rfl) ?_
                  simp only [Act.put, List.setIfInBounds_toArray, List.set_cons_zero, List.set_cons_succ]
                  refine wpList_nil ?_
                  refine hK11 _ _ ?_
                  clear hK11 K11
                  refine wp_ret ?_
                  go_ret
                  exact ⟨rfl, D⟩
          · refine ⟨.tuple #[.slice p3 l3.length c3, .int .i64 z3], rfl, ?_⟩
            simp only [Act.put, List.setIfInBounds_toArray, List.set_cons_zero, List.set_cons_succ]
            refine wl_yield (o := ⟨_, _, _, _, _, _⟩) (.tuple #[.slice p3 l3.length c3, .int .i64 z3]) (yl_move (by rfl) _ rfl _ rfl) ?_
            simp only [Act.put, List.setIfInBounds_toArray, List.set_cons_zero, List.set_cons_succ]
            refine wl_yield (o := ⟨_, _, _, _, _, _⟩) (.slice p3 l3.length c3) (yl_extract0 (by rfl) _ rfl _ _ rfl) ?_
            simp only [Act.put, List.setIfInBounds_toArray, List.set_cons_zero, List.set_cons_succ]
            refine wl_yield (o := ⟨_, _, _, _, _, _⟩) (.int .i64 z3) (yl_extract1 (by rfl) _ rfl _ _ rfl) ?_
            simp only [Act.put, List.setIfInBounds_toArray, List.set_cons_zero, List.set_cons_succ]
            refine wl_yield (o := ⟨_, _, _, _, _, _⟩) (.slice p3 l3.length c3) (yl_assign (by rfl) _ rfl _ rfl) ?_
            simp only [Act.put, List.setIfInBounds_toArray, List.set_cons_zero, List.set_cons_succ]
            refine wl_yield (o := ⟨_, _, _, _, _, _⟩) (.int .i64 z3) (yl_assign (by rfl) _ rfl _ rfl) ?_
            simp only [Act.put, List.setIfInBounds_toArray, List.set_cons_zero, List.set_cons_succ]
            refine wpList_nil ?_
            refine hK6 _ _ ?_
            clear hK6 K6
            refine wp_seq_k (fun K7 hK7 => ?_)
            refine wp_region_lit ?_
            refine wl_yield (o := ⟨_, _, _, _, _, _⟩) (EC.val c) (yl_ex (by rfl) _ rfl _ 0 rfl _ (fun _ h => by subst h; exact ExIn.ec HB)) ?_
            simp only [Act.put, List.setIfInBounds_toArray, List.set_cons_zero, List.set_cons_succ]
            refine wl_yield (o := ⟨_, _, _, _, _, _⟩) (EC.val d) (yl_ex (by rfl) _ rfl _ 0 rfl _ (fun _ h => by subst h; exact ExIn.ec HC)) ?_
            simp only [Act.put, List.setIfInBounds_toArray, List.set_cons_zero, List.set_cons_succ]
            refine wl_row2X (o := ⟨_, _, _, _, _, _⟩) (by rfl) _ _ rfl rfl rfl (few_cp hx hq).1 (few_cp hy hq2).1 (fun v12 pr6 HR6 kb => ?_)
            simp only [Act.put, List.setIfInBounds_toArray, List.set_cons_zero, List.set_cons_succ]
            replace D := D.trans (kb.mono D.size)
            replace hx := hx.on kb
            replace hy := hy.on kb
            replace HB := HB.on kb
            replace HC := HC.on kb
            replace HE := HE.on kb
            replace hb1 := hb1.on kb
            replace hb2 := hb2.on kb
            replace HO := HO.on kb
            replace hb3 := hb3.on kb
            clear kb
            refine wl_call (o := ⟨_, _, _, _, _, _⟩) (by rfl) 27 _ _ rfl #[.slice pr6 2 2] rfl (run_call Tryz.func27 (by kernel_rfl) (by kernel_rfl)) ?_
            refine (c_and HR6 (by simp) (cp_two (few_cp hx hq).2 (few_cp hy hq2).2)).mono ?_
            rintro r v13 ⟨⟨n1, rfl, HN⟩, kb⟩
            replace D := D.trans (kb.mono D.size)
            replace hx := hx.on kb
            replace hy := hy.on kb
            replace HB := HB.on kb
            replace HC := HC.on kb
            replace HE := HE.on kb
            replace hb1 := hb1.on kb
            replace hb2 := hb2.on kb
            replace HO := HO.on kb
            replace hb3 := hb3.on kb
            clear kb
            refine ⟨EC.val n1, rfl, ?_⟩
            simp only [Act.put, List.setIfInBounds_toArray, List.set_cons_zero, List.set_cons_succ]
            refine wl_call (o := ⟨_, _, _, _, _, _⟩) (by rfl) 12 _ _ rfl #[EC.val n1] rfl (run_call Tryz.func12 (by kernel_rfl) (by kernel_rfl)) ?_
            refine (dnfOf_has 20 _ (andX [x, y]) _ HN (by omega)).mono ?_
            rintro r v14 ⟨⟨l4, z4, p4, c4, rfl, hb4, fl4, hh4, hv4, ho4⟩, kb⟩
            replace D := D.trans (kb.mono D.size)
            replace hx := hx.on kb
            replace hy := hy.on kb
            replace HB := HB.on kb
            replace HC := HC.on kb
            replace HE := HE.on kb
            replace hb1 := hb1.on kb
            replace hb2 := hb2.on kb
            replace HO := HO.on kb
            replace hb3 := hb3.on kb
            replace HN := HN.on kb
            clear kb
            by_cases hN : z4 = 0
            · refine ⟨.tuple #[.slice p4 l4.length c4, .int .i64 z4], rfl, ?_⟩
              simp only [Act.put, List.setIfInBounds_toArray, List.set_cons_zero, List.set_cons_succ]
              refine wl_yield (o := ⟨_, _, _, _, _, _⟩) (.tuple #[.slice p4 l4.length c4, .int .i64 z4]) (yl_move (by rfl) _ rfl _ rfl) ?_
              simp only [Act.put, List.setIfInBounds_toArray, List.set_cons_zero, List.set_cons_succ]
              refine wl_yield (o := ⟨_, _, _, _, _, _⟩) (.slice p4 l4.length c4) (yl_extract0 (by rfl) _ rfl _ _ rfl) ?_
              simp only [Act.put, List.setIfInBounds_toArray, List.set_cons_zero, List.set_cons_succ]
              refine wl_yield (o := ⟨_, _, _, _, _, _⟩) (.int .i64 z4) (yl_extract1 (by rfl) _ rfl _ _ rfl) ?_
              simp only [Act.put, List.setIfInBounds_toArray, List.set_cons_zero, List.set_cons_succ]
              refine wl_yield (o := ⟨_, _, _, _, _, _⟩) (.slice p4 l4.length c4) (yl_assign (by rfl) _ rfl _ rfl) ?_
              simp only [Act.put, List.setIfInBounds_toArray, List.set_cons_zero, List.set_cons_succ]
              refine wl_yield (o := ⟨_, _, _, _, _, _⟩) (.int .i64 z4) (yl_assign (by rfl) _ rfl _ rfl) ?_
              simp only [Act.put, List.setIfInBounds_toArray, List.set_cons_zero, List.set_cons_succ]
              refine wpList_nil ?_
              refine hK7 _ _ ?_
              clear hK7 K7
              refine wp_seq_k (fun K8 hK8 => ?_)
              refine wp_seq_k (fun K9 hK9 => ?_)
              refine wp_region_lit ?_
              refine wl_yield (o := ⟨_, _, _, _, _, _⟩) (.int .i64 z1) (yl_move (by rfl) _ rfl _ rfl) ?_
              simp only [Act.put, List.setIfInBounds_toArray, List.set_cons_zero, List.set_cons_succ]
              refine wl_yield (o := ⟨_, _, _, _, _, _⟩) (.bool false) (yl_neqE (by rfl) _ _ _ rfl (z1) (0) false rfl rfl (decide_eq_false (fun h => h hA))) ?_
              simp only [Act.put, List.setIfInBounds_toArray, List.set_cons_zero, List.set_cons_succ]
              refine wl_yield (o := ⟨_, _, _, _, _, _⟩) (.bool false) (yl_move (by rfl) _ rfl _ rfl) ?_
              simp only [Act.put, List.setIfInBounds_toArray, List.set_cons_zero, List.set_cons_succ]
              refine wl_yield (o := ⟨_, _, _, _, _, _⟩) (.int .i64 z2) (yl_move (by rfl) _ rfl _ rfl) ?_
              simp only [Act.put, List.setIfInBounds_toArray, List.set_cons_zero, List.set_cons_succ]
              refine wl_yield (o := ⟨_, _, _, _, _, _⟩) (.bool false) (yl_neqE (by rfl) _ _ _ rfl (z2) (0) false rfl rfl (decide_eq_false (fun h => h hB))) ?_
              simp only [Act.put, List.setIfInBounds_toArray, List.set_cons_zero, List.set_cons_succ]
              refine wl_yield (o := ⟨_, _, _, _, _, _⟩) (.bool false) (yl_pickF (by rfl) _ _ _ rfl rfl _ rfl) ?_
              simp only [Act.put, List.setIfInBounds_toArray, List.set_cons_zero, List.set_cons_succ]
              refine wpList_nil ?_
              refine hK9 _ _ ?_
              clear hK9 K9
              refine wp_cond_false rfl ?_
              refine wp_skip ?_
              refine hK8 _ _ ?_
              clear hK8 K8
              refine wp_seq_k (fun K10 hK10 => ?_)
              refine wp_region_held_drew (S := fun w' => EvIn w' gb3 e) (by kernel_rfl) HE (fun hHeld => ?_)
              have kb : Below v14.heap.size v14 v14.drew := (Below.refl _ v14).drew
              replace D := D.trans (kb.mono D.size)
              replace hx := hx.on kb
              replace hy := hy.on kb
              replace HB := HB.on kb
              replace HC := HC.on kb
              replace HE := HE.on kb
              replace hb1 := hb1.on kb
              replace hb2 := hb2.on kb
              replace HO := HO.on kb
              replace hb3 := hb3.on kb
              replace HN := HN.on kb
              replace hb4 := hb4.on kb
              clear kb
              generalize v14.drew = v15 at D hHeld hx hy HB HC HE hb1 hb2 HO hb3 HN hb4 ⊢
              refine wpAnyH_take (i := 0) (oi := ⟨_, _, _, _, _, _⟩) (v := .slice p1 l1.length c1) rfl (by kernel_rfl) (by kernel_rfl) (by kernel_rfl) (fun _ _ _ h => h) (yl_move (by rfl) _ rfl _ rfl) (by assumption) ?_
              simp only [Act.put, List.setIfInBounds_toArray, List.set_cons_zero, List.set_cons_succ]
              refine wpAnyH_take (i := 1) (oi := ⟨_, _, _, _, _, _⟩) (v := evVal e) rfl (by kernel_rfl) (by kernel_rfl) (by kernel_rfl) (fun _ _ _ h => h) (yl_ev (by rfl) _ rfl _ 0 rfl _ _ _ _ _ _ _ _ _ _ _ _ (fun _ h => evCells h)) (by assumption) ?_
              simp only [Act.put, List.setIfInBounds_toArray, List.set_cons_zero, List.set_cons_succ]
              refine wpAnyH_take (i := 3) (oi := ⟨_, _, _, _, _, _⟩) (v := .slice p2 l2.length c2) rfl (by kernel_rfl) (by kernel_rfl) (by kernel_rfl) (fun _ _ _ h => h) (yl_move (by rfl) _ rfl _ rfl) (by assumption) ?_
              simp only [Act.put, List.setIfInBounds_toArray, List.set_cons_zero, List.set_cons_succ]
              refine wpAnyH_take (i := 4) (oi := ⟨_, _, _, _, _, _⟩) (v := evVal e) rfl (by kernel_rfl) (by kernel_rfl) (by kernel_rfl) (fun _ _ _ h => h) (yl_ev (by rfl) _ rfl _ 0 rfl _ _ _ _ _ _ _ _ _ _ _ _ (fun _ h => evCells h)) (by assumption) ?_
              simp only [Act.put, List.setIfInBounds_toArray, List.set_cons_zero, List.set_cons_succ]
              refine held_call (o := ⟨_, _, _, _, _, _⟩) 2 (by kernel_rfl) rfl (by rfl) 15 _ _ rfl #[.slice p1 l1.length c1, evVal e] rfl (run_call Tryz.func15 (by kernel_rfl) (by kernel_rfl)) ?_
              refine (progHas_any _ l1 e _ hb1 fl1 hf he).mono ?_
              rintro r v16 ⟨rfl, kb⟩
              replace D := D.trans (kb.mono D.size)
              replace hx := hx.on kb
              replace hy := hy.on kb
              replace HB := HB.on kb
              replace HC := HC.on kb
              replace HE := HE.on kb
              replace hb1 := hb1.on kb
              replace hb2 := hb2.on kb
              replace HO := HO.on kb
              replace hb3 := hb3.on kb
              replace HN := HN.on kb
              replace hb4 := hb4.on kb
              clear kb
              clear hHeld
              cases hF : hasL l1 e
              · refine ⟨.bool false, rfl, HE, fun hHeld => ?_⟩
                simp only [Act.put, List.setIfInBounds_toArray, List.set_cons_zero, List.set_cons_succ]
                refine held_call (o := ⟨_, _, _, _, _, _⟩) 5 (by kernel_rfl) rfl (by rfl) 15 _ _ rfl #[.slice p2 l2.length c2, evVal e] rfl (run_call Tryz.func15 (by kernel_rfl) (by kernel_rfl)) ?_
                refine (progHas_any _ l2 e _ hb2 fl2 hf he).mono ?_
                rintro r v17 ⟨rfl, kb⟩
                replace D := D.trans (kb.mono D.size)
                replace hx := hx.on kb
                replace hy := hy.on kb
                replace HB := HB.on kb
                replace HC := HC.on kb
                replace HE := HE.on kb
                replace hb1 := hb1.on kb
                replace hb2 := hb2.on kb
                replace HO := HO.on kb
                replace hb3 := hb3.on kb
                replace HN := HN.on kb
                replace hb4 := hb4.on kb
                clear kb
                clear hHeld
                cases hG : hasL l2 e
                · refine ⟨.bool false, rfl, HE, fun hHeld => ?_⟩
                  simp only [Act.put, List.setIfInBounds_toArray, List.set_cons_zero, List.set_cons_succ]
                  refine wpAnyH_take (i := 6) (oi := ⟨_, _, _, _, _, _⟩) (v := .bool false) rfl (by kernel_rfl) (by kernel_rfl) (by kernel_rfl) (fun _ _ _ h => h) (yl_assign (by rfl) _ rfl _ rfl) (by assumption) ?_
                  simp only [Act.put, List.setIfInBounds_toArray, List.set_cons_zero, List.set_cons_succ]
                  refine wpAnyH_take (i := 7) (oi := ⟨_, _, _, _, _, _⟩) (v := .bool false) rfl (by kernel_rfl) (by kernel_rfl) (by kernel_rfl) (fun _ _ _ h => h) (yl_assign (by rfl) _ rfl _ rfl) (by assumption) ?_
                  simp only [Act.put, List.setIfInBounds_toArray, List.set_cons_zero, List.set_cons_succ]
                  refine wpAnyH_done (by kernel_rfl) ?_ _
                  clear hHeld
                  refine hK10 _ _ ?_
                  clear hK10 K10
                  refine wp_seq_k (fun K11 hK11 => ?_)
                  refine wp_region_lit ?_
                  refine wl_yield (o := ⟨_, _, _, _, _, _⟩) (.int .i64 z3) (yl_move (by rfl) _ rfl _ rfl) ?_
                  simp only [Act.put, List.setIfInBounds_toArray, List.set_cons_zero, List.set_cons_succ]
                  refine wl_yield (o := ⟨_, _, _, _, _, _⟩) (.bool true) (yl_neqE (by rfl) _ _ _ rfl (z3) (0) true rfl rfl (decide_eq_true hO)) ?_
                  simp only [Act.put, List.setIfInBounds_toArray, List.set_cons_zero, List.set_cons_succ]
                  refine wl_yield (o := ⟨_, _, _, _, _, _⟩) (.bool true) (yl_move (by rfl) _ rfl _ rfl) ?_
                  simp only [Act.put, List.setIfInBounds_toArray, List.set_cons_zero, List.set_cons_succ]
                  with_reducible refine wl_yield (o := ⟨_, _, _, _, _, _⟩) undef (yl_undef (by kernel_rfl)) ?_
                  simp only [Act.put, List.setIfInBounds_toArray, List.set_cons_zero, List.set_cons_succ]
                  with_reducible refine wl_yield (o := ⟨_, _, _, _, _, _⟩) undef (yl_undef (by kernel_rfl)) ?_
                  simp only [Act.put, List.setIfInBounds_toArray, List.set_cons_zero, List.set_cons_succ]
                  with_reducible refine wl_yield (o := ⟨_, _, _, _, _, _⟩) undef (yl_undef (by kernel_rfl)) ?_
                  simp only [Act.put, List.setIfInBounds_toArray, List.set_cons_zero, List.set_cons_succ]
                  with_reducible refine wl_yield (o := ⟨_, _, _, _, _, _⟩) undef (yl_undef (by kernel_rfl)) ?_
                  simp only [Act.put, List.setIfInBounds_toArray, List.set_cons_zero, List.set_cons_succ]
                  with_reducible refine wl_yield (o := ⟨_, _, _, _, _, _⟩) undef (yl_undef (by kernel_rfl)) ?_
                  simp only [Act.put, List.setIfInBounds_toArray, List.set_cons_zero, List.set_cons_succ]
                  with_reducible refine wl_yield (o := ⟨_, _, _, _, _, _⟩) undef (yl_undef (by kernel_rfl)) ?_
                  simp only [Act.put, List.setIfInBounds_toArray, List.set_cons_zero, List.set_cons_succ]
                  with_reducible refine wl_yield (o := ⟨_, _, _, _, _, _⟩) undef (yl_undef (by kernel_rfl)) ?_
                  simp only [Act.put, List.setIfInBounds_toArray, List.set_cons_zero, List.set_cons_succ]
                  with_reducible refine wl_yield (o := ⟨_, _, _, _, _, _⟩) undef (yl_undef (by kernel_rfl)) ?_
                  simp only [Act.put, List.setIfInBounds_toArray, List.set_cons_zero, List.set_cons_succ]
                  refine wl_yield (o := ⟨_, _, _, _, _, _⟩) (.bool true) (yl_pickT (by rfl) _ _ _ rfl rfl _ rfl) ?_
                  simp only [Act.put, List.setIfInBounds_toArray, List.set_cons_zero, List.set_cons_succ]
                  refine wl_yield (o := ⟨_, _, _, _, _, _⟩) (.bool true) (yl_move (by rfl) _ rfl _ rfl) ?_
                  simp only [Act.put, List.setIfInBounds_toArray, List.set_cons_zero, List.set_cons_succ]
                  refine wl_yield (o := ⟨_, _, _, _, _, _⟩) (.int .i64 z4) (yl_move (by rfl) _ rfl _ rfl) ?_
                  simp only [Act.put, List.setIfInBounds_toArray, List.set_cons_zero, List.set_cons_succ]
                  refine wl_yield (o := ⟨_, _, _, _, _, _⟩) (.bool false) (yl_neqE (by rfl) _ _ _ rfl (z4) (0) false rfl rfl (decide_eq_false (fun h => h hN))) ?_
                  simp only [Act.put, List.setIfInBounds_toArray, List.set_cons_zero, List.set_cons_succ]
                  refine wl_yield (o := ⟨_, _, _, _, _, _⟩) (.bool false) (yl_move (by rfl) _ rfl _ rfl) ?_
                  simp only [Act.put, List.setIfInBounds_toArray, List.set_cons_zero, List.set_cons_succ]
                  refine wl_yield (o := ⟨_, _, _, _, _, _⟩) (.slice p4 l4.length c4) (yl_move (by rfl) _ rfl _ rfl) ?_
                  simp only [Act.put, List.setIfInBounds_toArray, List.set_cons_zero, List.set_cons_succ]
                  refine wl_yield (o := ⟨_, _, _, _, _, _⟩) (evVal e) (yl_ev (by rfl) _ rfl _ 0 rfl _ _ _ _ _ _ _ _ _ _ _ _ (fun _ h => by subst h; exact evCells HE)) ?_
                  simp only [Act.put, List.setIfInBounds_toArray, List.set_cons_zero, List.set_cons_succ]
                  refine wl_call (o := ⟨_, _, _, _, _, _⟩) (by rfl) 15 _ _ rfl #[.slice p4 l4.length c4, evVal e] rfl (run_call Tryz.func15 (by kernel_rfl) (by kernel_rfl)) ?_
                  refine (progHas_any _ l4 e _ hb4 fl4 hf he).mono ?_
                  rintro r v18 ⟨rfl, kb⟩
                  replace D := D.trans (kb.mono D.size)
                  replace hx := hx.on kb
                  replace hy := hy.on kb
                  replace HB := HB.on kb
                  replace HC := HC.on kb
                  replace HE := HE.on kb
                  replace hb1 := hb1.on kb
                  replace hb2 := hb2.on kb
                  replace HO := HO.on kb
                  replace hb3 := hb3.on kb
                  replace HN := HN.on kb
                  replace hb4 := hb4.on kb
                  clear kb
                  refine ⟨.bool false, ret_bool (by rw [dnf_and (hh1 hA).1 (hh2 hB).1 (hh4 hN).1 ((hh1 hA).2 e he) ((hh2 hB).2 e he) ((hh4 hN).2 e he), hF, hG]; rfl), ?_⟩
                  simp only [Act.put, List.setIfInBounds_toArray, List.set_cons_zero, List.set_cons_succ]
                  refine wl_yield (o := ⟨_, _, _, _, _, _⟩) (.bool false) (yl_move (by rfl) _ rfl _ rfl) ?_
                  simp only [Act.put, List.setIfInBounds_toArray, List.set_cons_zero, List.set_cons_succ]
                  refine wl_yield (o := ⟨_, _, _, _, _, _⟩) (.bool false) (yl_move (by rfl) _ rfl _ rfl) ?_
                  simp only [Act.put, List.setIfInBounds_toArray, List.set_cons_zero, List.set_cons_succ]
                  with_reducible refine wl_yield (o := ⟨_, _, _, _, _, _⟩) undef (yl_undef (by kernel_rfl)) ?_
                  simp only [Act.put, List.setIfInBounds_toArray, List.set_cons_zero, List.set_cons_succ]
                  refine wl_yield (o := ⟨_, _, _, _, _, _⟩) (.bool false) (yl_pickF (by rfl) _ _ _ rfl rfl _ rfl) ?_
                  simp only [Act.put, List.setIfInBounds_toArray, List.set_cons_zero, List.set_cons_succ]
                  refine wl_yield (o := ⟨_, _, _, _, _, _⟩) (.bool true) (yl_eqB (by rfl) _ _ _ rfl false false rfl rfl) ?_
                  simp only [Act.put, List.setIfInBounds_toArray, List.set_cons_zero, List.set_cons_succ]
                  refine wl_yield (o := ⟨_, _, _, _, _, _⟩) (.bool true) (yl_pickF (by rfl) _ _ _ rfl rfl _ rfl) ?_
                  simp only [Act.put, List.setIfInBounds_toArray, List.set_cons_zero, List.set_cons_succ]
                  refine wl_yield (o := ⟨_, _, _, _, _, _⟩) (.bool true) (yl_pickT (by rfl) _ _ _ rfl rfl _ rfl) ?_
                  simp only [Act.put, List.setIfInBounds_toArray, List.set_cons_zero, List.set_cons_succ]
                  refine wl_yield (o := ⟨_, _, _, _, _, _⟩) (.bool true) (yl_assign (by rfl) _ rfl _ rfl) ?_
                  simp only [Act.put, List.setIfInBounds_toArray, List.set_cons_zero, List.set_cons_succ]
                  refine wpList_nil ?_
                  refine hK11 _ _ ?_
                  clear hK11 K11
                  refine wp_ret ?_
                  go_ret
                  exact ⟨rfl, D⟩
                · refine ⟨.bool true, rfl, HE, fun hHeld => ?_⟩
                  simp only [Act.put, List.setIfInBounds_toArray, List.set_cons_zero, List.set_cons_succ]
                  refine wpAnyH_take (i := 6) (oi := ⟨_, _, _, _, _, _⟩) (v := .bool false) rfl (by kernel_rfl) (by kernel_rfl) (by kernel_rfl) (fun _ _ _ h => h) (yl_assign (by rfl) _ rfl _ rfl) (by assumption) ?_
                  simp only [Act.put, List.setIfInBounds_toArray, List.set_cons_zero, List.set_cons_succ]
                  refine wpAnyH_take (i := 7) (oi := ⟨_, _, _, _, _, _⟩) (v := .bool true) rfl (by kernel_rfl) (by kernel_rfl) (by kernel_rfl) (fun _ _ _ h => h) (yl_assign (by rfl) _ rfl _ rfl) (by assumption) ?_
                  simp only [Act.put, List.setIfInBounds_toArray, List.set_cons_zero, List.set_cons_succ]
                  refine wpAnyH_done (by kernel_rfl) ?_ _
                  clear hHeld
                  refine hK10 _ _ ?_
                  clear hK10 K10
                  refine wp_seq_k (fun K11 hK11 => ?_)
                  refine wp_region_lit ?_
                  refine wl_yield (o := ⟨_, _, _, _, _, _⟩) (.int .i64 z3) (yl_move (by rfl) _ rfl _ rfl) ?_
                  simp only [Act.put, List.setIfInBounds_toArray, List.set_cons_zero, List.set_cons_succ]
                  refine wl_yield (o := ⟨_, _, _, _, _, _⟩) (.bool true) (yl_neqE (by rfl) _ _ _ rfl (z3) (0) true rfl rfl (decide_eq_true hO)) ?_
                  simp only [Act.put, List.setIfInBounds_toArray, List.set_cons_zero, List.set_cons_succ]
                  refine wl_yield (o := ⟨_, _, _, _, _, _⟩) (.bool true) (yl_move (by rfl) _ rfl _ rfl) ?_
                  simp only [Act.put, List.setIfInBounds_toArray, List.set_cons_zero, List.set_cons_succ]
                  with_reducible refine wl_yield (o := ⟨_, _, _, _, _, _⟩) undef (yl_undef (by kernel_rfl)) ?_
                  simp only [Act.put, List.setIfInBounds_toArray, List.set_cons_zero, List.set_cons_succ]
                  with_reducible refine wl_yield (o := ⟨_, _, _, _, _, _⟩) undef (yl_undef (by kernel_rfl)) ?_
                  simp only [Act.put, List.setIfInBounds_toArray, List.set_cons_zero, List.set_cons_succ]
                  with_reducible refine wl_yield (o := ⟨_, _, _, _, _, _⟩) undef (yl_undef (by kernel_rfl)) ?_
                  simp only [Act.put, List.setIfInBounds_toArray, List.set_cons_zero, List.set_cons_succ]
                  with_reducible refine wl_yield (o := ⟨_, _, _, _, _, _⟩) undef (yl_undef (by kernel_rfl)) ?_
                  simp only [Act.put, List.setIfInBounds_toArray, List.set_cons_zero, List.set_cons_succ]
                  with_reducible refine wl_yield (o := ⟨_, _, _, _, _, _⟩) undef (yl_undef (by kernel_rfl)) ?_
                  simp only [Act.put, List.setIfInBounds_toArray, List.set_cons_zero, List.set_cons_succ]
                  with_reducible refine wl_yield (o := ⟨_, _, _, _, _, _⟩) undef (yl_undef (by kernel_rfl)) ?_
                  simp only [Act.put, List.setIfInBounds_toArray, List.set_cons_zero, List.set_cons_succ]
                  with_reducible refine wl_yield (o := ⟨_, _, _, _, _, _⟩) undef (yl_undef (by kernel_rfl)) ?_
                  simp only [Act.put, List.setIfInBounds_toArray, List.set_cons_zero, List.set_cons_succ]
                  with_reducible refine wl_yield (o := ⟨_, _, _, _, _, _⟩) undef (yl_undef (by kernel_rfl)) ?_
                  simp only [Act.put, List.setIfInBounds_toArray, List.set_cons_zero, List.set_cons_succ]
                  refine wl_yield (o := ⟨_, _, _, _, _, _⟩) (.bool true) (yl_pickT (by rfl) _ _ _ rfl rfl _ rfl) ?_
                  simp only [Act.put, List.setIfInBounds_toArray, List.set_cons_zero, List.set_cons_succ]
                  refine wl_yield (o := ⟨_, _, _, _, _, _⟩) (.bool true) (yl_move (by rfl) _ rfl _ rfl) ?_
                  simp only [Act.put, List.setIfInBounds_toArray, List.set_cons_zero, List.set_cons_succ]
                  refine wl_yield (o := ⟨_, _, _, _, _, _⟩) (.int .i64 z4) (yl_move (by rfl) _ rfl _ rfl) ?_
                  simp only [Act.put, List.setIfInBounds_toArray, List.set_cons_zero, List.set_cons_succ]
                  refine wl_yield (o := ⟨_, _, _, _, _, _⟩) (.bool false) (yl_neqE (by rfl) _ _ _ rfl (z4) (0) false rfl rfl (decide_eq_false (fun h => h hN))) ?_
                  simp only [Act.put, List.setIfInBounds_toArray, List.set_cons_zero, List.set_cons_succ]
                  refine wl_yield (o := ⟨_, _, _, _, _, _⟩) (.bool false) (yl_move (by rfl) _ rfl _ rfl) ?_
                  simp only [Act.put, List.setIfInBounds_toArray, List.set_cons_zero, List.set_cons_succ]
                  refine wl_yield (o := ⟨_, _, _, _, _, _⟩) (.slice p4 l4.length c4) (yl_move (by rfl) _ rfl _ rfl) ?_
                  simp only [Act.put, List.setIfInBounds_toArray, List.set_cons_zero, List.set_cons_succ]
                  refine wl_yield (o := ⟨_, _, _, _, _, _⟩) (evVal e) (yl_ev (by rfl) _ rfl _ 0 rfl _ _ _ _ _ _ _ _ _ _ _ _ (fun _ h => by subst h; exact evCells HE)) ?_
                  simp only [Act.put, List.setIfInBounds_toArray, List.set_cons_zero, List.set_cons_succ]
                  refine wl_call (o := ⟨_, _, _, _, _, _⟩) (by rfl) 15 _ _ rfl #[.slice p4 l4.length c4, evVal e] rfl (run_call Tryz.func15 (by kernel_rfl) (by kernel_rfl)) ?_
                  refine (progHas_any _ l4 e _ hb4 fl4 hf he).mono ?_
                  rintro r v18 ⟨rfl, kb⟩
                  replace D := D.trans (kb.mono D.size)
                  replace hx := hx.on kb
                  replace hy := hy.on kb
                  replace HB := HB.on kb
                  replace HC := HC.on kb
                  replace HE := HE.on kb
                  replace hb1 := hb1.on kb
                  replace hb2 := hb2.on kb
                  replace HO := HO.on kb
                  replace hb3 := hb3.on kb
                  replace HN := HN.on kb
                  replace hb4 := hb4.on kb
                  clear kb
                  refine ⟨.bool false, ret_bool (by rw [dnf_and (hh1 hA).1 (hh2 hB).1 (hh4 hN).1 ((hh1 hA).2 e he) ((hh2 hB).2 e he) ((hh4 hN).2 e he), hF, hG]; rfl), ?_⟩
                  simp only [Act.put, List.setIfInBounds_toArray, List.set_cons_zero, List.set_cons_succ]
                  refine wl_yield (o := ⟨_, _, _, _, _, _⟩) (.bool false) (yl_move (by rfl) _ rfl _ rfl) ?_
                  simp only [Act.put, List.setIfInBounds_toArray, List.set_cons_zero, List.set_cons_succ]
                  refine wl_yield (o := ⟨_, _, _, _, _, _⟩) (.bool false) (yl_move (by rfl) _ rfl _ rfl) ?_
                  simp only [Act.put, List.setIfInBounds_toArray, List.set_cons_zero, List.set_cons_succ]
                  with_reducible refine wl_yield (o := ⟨_, _, _, _, _, _⟩) undef (yl_undef (by kernel_rfl)) ?_
                  simp only [Act.put, List.setIfInBounds_toArray, List.set_cons_zero, List.set_cons_succ]
                  refine wl_yield (o := ⟨_, _, _, _, _, _⟩) (.bool false) (yl_pickF (by rfl) _ _ _ rfl rfl _ rfl) ?_
                  simp only [Act.put, List.setIfInBounds_toArray, List.set_cons_zero, List.set_cons_succ]
                  refine wl_yield (o := ⟨_, _, _, _, _, _⟩) (.bool true) (yl_eqB (by rfl) _ _ _ rfl false false rfl rfl) ?_
                  simp only [Act.put, List.setIfInBounds_toArray, List.set_cons_zero, List.set_cons_succ]
                  refine wl_yield (o := ⟨_, _, _, _, _, _⟩) (.bool true) (yl_pickF (by rfl) _ _ _ rfl rfl _ rfl) ?_
                  simp only [Act.put, List.setIfInBounds_toArray, List.set_cons_zero, List.set_cons_succ]
                  refine wl_yield (o := ⟨_, _, _, _, _, _⟩) (.bool true) (yl_pickT (by rfl) _ _ _ rfl rfl _ rfl) ?_
                  simp only [Act.put, List.setIfInBounds_toArray, List.set_cons_zero, List.set_cons_succ]
                  refine wl_yield (o := ⟨_, _, _, _, _, _⟩) (.bool true) (yl_assign (by rfl) _ rfl _ rfl) ?_
                  simp only [Act.put, List.setIfInBounds_toArray, List.set_cons_zero, List.set_cons_succ]
                  refine wpList_nil ?_
                  refine hK11 _ _ ?_
                  clear hK11 K11
                  refine wp_ret ?_
                  go_ret
                  exact ⟨rfl, D⟩
              · refine ⟨.bool true, rfl, HE, fun hHeld => ?_⟩
                simp only [Act.put, List.setIfInBounds_toArray, List.set_cons_zero, List.set_cons_succ]
                refine held_call (o := ⟨_, _, _, _, _, _⟩) 5 (by kernel_rfl) rfl (by rfl) 15 _ _ rfl #[.slice p2 l2.length c2, evVal e] rfl (run_call Tryz.func15 (by kernel_rfl) (by kernel_rfl)) ?_
                refine (progHas_any _ l2 e _ hb2 fl2 hf he).mono ?_
                rintro r v17 ⟨rfl, kb⟩
                replace D := D.trans (kb.mono D.size)
                replace hx := hx.on kb
                replace hy := hy.on kb
                replace HB := HB.on kb
                replace HC := HC.on kb
                replace HE := HE.on kb
                replace hb1 := hb1.on kb
                replace hb2 := hb2.on kb
                replace HO := HO.on kb
                replace hb3 := hb3.on kb
                replace HN := HN.on kb
                replace hb4 := hb4.on kb
                clear kb
                clear hHeld
                cases hG : hasL l2 e
                · refine ⟨.bool false, rfl, HE, fun hHeld => ?_⟩
                  simp only [Act.put, List.setIfInBounds_toArray, List.set_cons_zero, List.set_cons_succ]
                  refine wpAnyH_take (i := 6) (oi := ⟨_, _, _, _, _, _⟩) (v := .bool true) rfl (by kernel_rfl) (by kernel_rfl) (by kernel_rfl) (fun _ _ _ h => h) (yl_assign (by rfl) _ rfl _ rfl) (by assumption) ?_
                  simp only [Act.put, List.setIfInBounds_toArray, List.set_cons_zero, List.set_cons_succ]
                  refine wpAnyH_take (i := 7) (oi := ⟨_, _, _, _, _, _⟩) (v := .bool false) rfl (by kernel_rfl) (by kernel_rfl) (by kernel_rfl) (fun _ _ _ h => h) (yl_assign (by rfl) _ rfl _ rfl) (by assumption) ?_
                  simp only [Act.put, List.setIfInBounds_toArray, List.set_cons_zero, List.set_cons_succ]
                  refine wpAnyH_done (by kernel_rfl) ?_ _
                  clear hHeld
                  refine hK10 _ _ ?_
                  clear hK10 K10
                  refine wp_seq_k (fun K11 hK11 => ?_)
                  refine wp_region_lit ?_
                  refine wl_yield (o := ⟨_, _, _, _, _, _⟩) (.int .i64 z3) (yl_move (by rfl) _ rfl _ rfl) ?_
                  simp only [Act.put, List.setIfInBounds_toArray, List.set_cons_zero, List.set_cons_succ]
                  refine wl_yield (o := ⟨_, _, _, _, _, _⟩) (.bool true) (yl_neqE (by rfl) _ _ _ rfl (z3) (0) true rfl rfl (decide_eq_true hO)) ?_
                  simp only [Act.put, List.setIfInBounds_toArray, List.set_cons_zero, List.set_cons_succ]
                  refine wl_yield (o := ⟨_, _, _, _, _, _⟩) (.bool true) (yl_move (by rfl) _ rfl _ rfl) ?_
                  simp only [Act.put, List.setIfInBounds_toArray, List.set_cons_zero, List.set_cons_succ]
                  with_reducible refine wl_yield (o := ⟨_, _, _, _, _, _⟩) undef (yl_undef (by kernel_rfl)) ?_
                  simp only [Act.put, List.setIfInBounds_toArray, List.set_cons_zero, List.set_cons_succ]
                  with_reducible refine wl_yield (o := ⟨_, _, _, _, _, _⟩) undef (yl_undef (by kernel_rfl)) ?_
                  simp only [Act.put, List.setIfInBounds_toArray, List.set_cons_zero, List.set_cons_succ]
                  with_reducible refine wl_yield (o := ⟨_, _, _, _, _, _⟩) undef (yl_undef (by kernel_rfl)) ?_
                  simp only [Act.put, List.setIfInBounds_toArray, List.set_cons_zero, List.set_cons_succ]
                  with_reducible refine wl_yield (o := ⟨_, _, _, _, _, _⟩) undef (yl_undef (by kernel_rfl)) ?_
                  simp only [Act.put, List.setIfInBounds_toArray, List.set_cons_zero, List.set_cons_succ]
                  with_reducible refine wl_yield (o := ⟨_, _, _, _, _, _⟩) undef (yl_undef (by kernel_rfl)) ?_
                  simp only [Act.put, List.setIfInBounds_toArray, List.set_cons_zero, List.set_cons_succ]
                  with_reducible refine wl_yield (o := ⟨_, _, _, _, _, _⟩) undef (yl_undef (by kernel_rfl)) ?_
                  simp only [Act.put, List.setIfInBounds_toArray, List.set_cons_zero, List.set_cons_succ]
                  with_reducible refine wl_yield (o := ⟨_, _, _, _, _, _⟩) undef (yl_undef (by kernel_rfl)) ?_
                  simp only [Act.put, List.setIfInBounds_toArray, List.set_cons_zero, List.set_cons_succ]
                  with_reducible refine wl_yield (o := ⟨_, _, _, _, _, _⟩) undef (yl_undef (by kernel_rfl)) ?_
                  simp only [Act.put, List.setIfInBounds_toArray, List.set_cons_zero, List.set_cons_succ]
                  refine wl_yield (o := ⟨_, _, _, _, _, _⟩) (.bool true) (yl_pickT (by rfl) _ _ _ rfl rfl _ rfl) ?_
                  simp only [Act.put, List.setIfInBounds_toArray, List.set_cons_zero, List.set_cons_succ]
                  refine wl_yield (o := ⟨_, _, _, _, _, _⟩) (.bool true) (yl_move (by rfl) _ rfl _ rfl) ?_
                  simp only [Act.put, List.setIfInBounds_toArray, List.set_cons_zero, List.set_cons_succ]
                  refine wl_yield (o := ⟨_, _, _, _, _, _⟩) (.int .i64 z4) (yl_move (by rfl) _ rfl _ rfl) ?_
                  simp only [Act.put, List.setIfInBounds_toArray, List.set_cons_zero, List.set_cons_succ]
                  refine wl_yield (o := ⟨_, _, _, _, _, _⟩) (.bool false) (yl_neqE (by rfl) _ _ _ rfl (z4) (0) false rfl rfl (decide_eq_false (fun h => h hN))) ?_
                  simp only [Act.put, List.setIfInBounds_toArray, List.set_cons_zero, List.set_cons_succ]
                  refine wl_yield (o := ⟨_, _, _, _, _, _⟩) (.bool false) (yl_move (by rfl) _ rfl _ rfl) ?_
                  simp only [Act.put, List.setIfInBounds_toArray, List.set_cons_zero, List.set_cons_succ]
                  refine wl_yield (o := ⟨_, _, _, _, _, _⟩) (.slice p4 l4.length c4) (yl_move (by rfl) _ rfl _ rfl) ?_
                  simp only [Act.put, List.setIfInBounds_toArray, List.set_cons_zero, List.set_cons_succ]
                  refine wl_yield (o := ⟨_, _, _, _, _, _⟩) (evVal e) (yl_ev (by rfl) _ rfl _ 0 rfl _ _ _ _ _ _ _ _ _ _ _ _ (fun _ h => by subst h; exact evCells HE)) ?_
                  simp only [Act.put, List.setIfInBounds_toArray, List.set_cons_zero, List.set_cons_succ]
                  refine wl_call (o := ⟨_, _, _, _, _, _⟩) (by rfl) 15 _ _ rfl #[.slice p4 l4.length c4, evVal e] rfl (run_call Tryz.func15 (by kernel_rfl) (by kernel_rfl)) ?_
                  refine (progHas_any _ l4 e _ hb4 fl4 hf he).mono ?_
                  rintro r v18 ⟨rfl, kb⟩
                  replace D := D.trans (kb.mono D.size)
                  replace hx := hx.on kb
                  replace hy := hy.on kb
                  replace HB := HB.on kb
                  replace HC := HC.on kb
                  replace HE := HE.on kb
                  replace hb1 := hb1.on kb
                  replace hb2 := hb2.on kb
                  replace HO := HO.on kb
                  replace hb3 := hb3.on kb
                  replace HN := HN.on kb
                  replace hb4 := hb4.on kb
                  clear kb
                  refine ⟨.bool false, ret_bool (by rw [dnf_and (hh1 hA).1 (hh2 hB).1 (hh4 hN).1 ((hh1 hA).2 e he) ((hh2 hB).2 e he) ((hh4 hN).2 e he), hF, hG]; rfl), ?_⟩
                  simp only [Act.put, List.setIfInBounds_toArray, List.set_cons_zero, List.set_cons_succ]
                  refine wl_yield (o := ⟨_, _, _, _, _, _⟩) (.bool true) (yl_move (by rfl) _ rfl _ rfl) ?_
                  simp only [Act.put, List.setIfInBounds_toArray, List.set_cons_zero, List.set_cons_succ]
                  refine wl_yield (o := ⟨_, _, _, _, _, _⟩) (.bool true) (yl_move (by rfl) _ rfl _ rfl) ?_
                  simp only [Act.put, List.setIfInBounds_toArray, List.set_cons_zero, List.set_cons_succ]
                  refine wl_yield (o := ⟨_, _, _, _, _, _⟩) (.bool false) (yl_move (by rfl) _ rfl _ rfl) ?_
                  simp only [Act.put, List.setIfInBounds_toArray, List.set_cons_zero, List.set_cons_succ]
                  refine wl_yield (o := ⟨_, _, _, _, _, _⟩) (.bool false) (yl_pickT (by rfl) _ _ _ rfl rfl _ rfl) ?_
                  simp only [Act.put, List.setIfInBounds_toArray, List.set_cons_zero, List.set_cons_succ]
                  refine wl_yield (o := ⟨_, _, _, _, _, _⟩) (.bool true) (yl_eqB (by rfl) _ _ _ rfl false false rfl rfl) ?_
                  simp only [Act.put, List.setIfInBounds_toArray, List.set_cons_zero, List.set_cons_succ]
                  refine wl_yield (o := ⟨_, _, _, _, _, _⟩) (.bool true) (yl_pickF (by rfl) _ _ _ rfl rfl _ rfl) ?_
                  simp only [Act.put, List.setIfInBounds_toArray, List.set_cons_zero, List.set_cons_succ]
                  refine wl_yield (o := ⟨_, _, _, _, _, _⟩) (.bool true) (yl_pickT (by rfl) _ _ _ rfl rfl _ rfl) ?_
                  simp only [Act.put, List.setIfInBounds_toArray, List.set_cons_zero, List.set_cons_succ]
                  refine wl_yield (o := ⟨_, _, _, _, _, _⟩) (.bool true) (yl_assign (by rfl) _ rfl _ rfl) ?_
                  simp only [Act.put, List.setIfInBounds_toArray, List.set_cons_zero, List.set_cons_succ]
                  refine wpList_nil ?_
                  refine hK11 _ _ ?_
                  clear hK11 K11
                  refine wp_ret ?_
                  go_ret
                  exact ⟨rfl, D⟩
                · refine ⟨.bool true, rfl, HE, fun hHeld => ?_⟩
                  simp only [Act.put, List.setIfInBounds_toArray, List.set_cons_zero, List.set_cons_succ]
                  refine wpAnyH_take (i := 6) (oi := ⟨_, _, _, _, _, _⟩) (v := .bool true) rfl (by kernel_rfl) (by kernel_rfl) (by kernel_rfl) (fun _ _ _ h => h) (yl_assign (by rfl) _ rfl _ rfl) (by assumption) ?_
                  simp only [Act.put, List.setIfInBounds_toArray, List.set_cons_zero, List.set_cons_succ]
                  refine wpAnyH_take (i := 7) (oi := ⟨_, _, _, _, _, _⟩) (v := .bool true) rfl (by kernel_rfl) (by kernel_rfl) (by kernel_rfl) (fun _ _ _ h => h) (yl_assign (by rfl) _ rfl _ rfl) (by assumption) ?_
                  simp only [Act.put, List.setIfInBounds_toArray, List.set_cons_zero, List.set_cons_succ]
                  refine wpAnyH_done (by kernel_rfl) ?_ _
                  clear hHeld
                  refine hK10 _ _ ?_
                  clear hK10 K10
                  refine wp_seq_k (fun K11 hK11 => ?_)
                  refine wp_region_lit ?_
                  refine wl_yield (o := ⟨_, _, _, _, _, _⟩) (.int .i64 z3) (yl_move (by rfl) _ rfl _ rfl) ?_
                  simp only [Act.put, List.setIfInBounds_toArray, List.set_cons_zero, List.set_cons_succ]
                  refine wl_yield (o := ⟨_, _, _, _, _, _⟩) (.bool true) (yl_neqE (by rfl) _ _ _ rfl (z3) (0) true rfl rfl (decide_eq_true hO)) ?_
                  simp only [Act.put, List.setIfInBounds_toArray, List.set_cons_zero, List.set_cons_succ]
                  refine wl_yield (o := ⟨_, _, _, _, _, _⟩) (.bool true) (yl_move (by rfl) _ rfl _ rfl) ?_
                  simp only [Act.put, List.setIfInBounds_toArray, List.set_cons_zero, List.set_cons_succ]
                  with_reducible refine wl_yield (o := ⟨_, _, _, _, _, _⟩) undef (yl_undef (by kernel_rfl)) ?_
                  simp only [Act.put, List.setIfInBounds_toArray, List.set_cons_zero, List.set_cons_succ]
                  with_reducible refine wl_yield (o := ⟨_, _, _, _, _, _⟩) undef (yl_undef (by kernel_rfl)) ?_
                  simp only [Act.put, List.setIfInBounds_toArray, List.set_cons_zero, List.set_cons_succ]
                  with_reducible refine wl_yield (o := ⟨_, _, _, _, _, _⟩) undef (yl_undef (by kernel_rfl)) ?_
                  simp only [Act.put, List.setIfInBounds_toArray, List.set_cons_zero, List.set_cons_succ]
                  with_reducible refine wl_yield (o := ⟨_, _, _, _, _, _⟩) undef (yl_undef (by kernel_rfl)) ?_
                  simp only [Act.put, List.setIfInBounds_toArray, List.set_cons_zero, List.set_cons_succ]
                  with_reducible refine wl_yield (o := ⟨_, _, _, _, _, _⟩) undef (yl_undef (by kernel_rfl)) ?_
                  simp only [Act.put, List.setIfInBounds_toArray, List.set_cons_zero, List.set_cons_succ]
                  with_reducible refine wl_yield (o := ⟨_, _, _, _, _, _⟩) undef (yl_undef (by kernel_rfl)) ?_
                  simp only [Act.put, List.setIfInBounds_toArray, List.set_cons_zero, List.set_cons_succ]
                  with_reducible refine wl_yield (o := ⟨_, _, _, _, _, _⟩) undef (yl_undef (by kernel_rfl)) ?_
                  simp only [Act.put, List.setIfInBounds_toArray, List.set_cons_zero, List.set_cons_succ]
                  with_reducible refine wl_yield (o := ⟨_, _, _, _, _, _⟩) undef (yl_undef (by kernel_rfl)) ?_
                  simp only [Act.put, List.setIfInBounds_toArray, List.set_cons_zero, List.set_cons_succ]
                  refine wl_yield (o := ⟨_, _, _, _, _, _⟩) (.bool true) (yl_pickT (by rfl) _ _ _ rfl rfl _ rfl) ?_
                  simp only [Act.put, List.setIfInBounds_toArray, List.set_cons_zero, List.set_cons_succ]
                  refine wl_yield (o := ⟨_, _, _, _, _, _⟩) (.bool true) (yl_move (by rfl) _ rfl _ rfl) ?_
                  simp only [Act.put, List.setIfInBounds_toArray, List.set_cons_zero, List.set_cons_succ]
                  refine wl_yield (o := ⟨_, _, _, _, _, _⟩) (.int .i64 z4) (yl_move (by rfl) _ rfl _ rfl) ?_
                  simp only [Act.put, List.setIfInBounds_toArray, List.set_cons_zero, List.set_cons_succ]
                  refine wl_yield (o := ⟨_, _, _, _, _, _⟩) (.bool false) (yl_neqE (by rfl) _ _ _ rfl (z4) (0) false rfl rfl (decide_eq_false (fun h => h hN))) ?_
                  simp only [Act.put, List.setIfInBounds_toArray, List.set_cons_zero, List.set_cons_succ]
                  refine wl_yield (o := ⟨_, _, _, _, _, _⟩) (.bool false) (yl_move (by rfl) _ rfl _ rfl) ?_
                  simp only [Act.put, List.setIfInBounds_toArray, List.set_cons_zero, List.set_cons_succ]
                  refine wl_yield (o := ⟨_, _, _, _, _, _⟩) (.slice p4 l4.length c4) (yl_move (by rfl) _ rfl _ rfl) ?_
                  simp only [Act.put, List.setIfInBounds_toArray, List.set_cons_zero, List.set_cons_succ]
                  refine wl_yield (o := ⟨_, _, _, _, _, _⟩) (evVal e) (yl_ev (by rfl) _ rfl _ 0 rfl _ _ _ _ _ _ _ _ _ _ _ _ (fun _ h => by subst h; exact evCells HE)) ?_
                  simp only [Act.put, List.setIfInBounds_toArray, List.set_cons_zero, List.set_cons_succ]
                  refine wl_call (o := ⟨_, _, _, _, _, _⟩) (by rfl) 15 _ _ rfl #[.slice p4 l4.length c4, evVal e] rfl (run_call Tryz.func15 (by kernel_rfl) (by kernel_rfl)) ?_
                  refine (progHas_any _ l4 e _ hb4 fl4 hf he).mono ?_
                  rintro r v18 ⟨rfl, kb⟩
                  replace D := D.trans (kb.mono D.size)
                  replace hx := hx.on kb
                  replace hy := hy.on kb
                  replace HB := HB.on kb
                  replace HC := HC.on kb
                  replace HE := HE.on kb
                  replace hb1 := hb1.on kb
                  replace hb2 := hb2.on kb
                  replace HO := HO.on kb
                  replace hb3 := hb3.on kb
                  replace HN := HN.on kb
                  replace hb4 := hb4.on kb
                  clear kb
                  refine ⟨.bool true, ret_bool (by rw [dnf_and (hh1 hA).1 (hh2 hB).1 (hh4 hN).1 ((hh1 hA).2 e he) ((hh2 hB).2 e he) ((hh4 hN).2 e he), hF, hG]; rfl), ?_⟩
                  simp only [Act.put, List.setIfInBounds_toArray, List.set_cons_zero, List.set_cons_succ]
                  refine wl_yield (o := ⟨_, _, _, _, _, _⟩) (.bool true) (yl_move (by rfl) _ rfl _ rfl) ?_
                  simp only [Act.put, List.setIfInBounds_toArray, List.set_cons_zero, List.set_cons_succ]
                  refine wl_yield (o := ⟨_, _, _, _, _, _⟩) (.bool true) (yl_move (by rfl) _ rfl _ rfl) ?_
                  simp only [Act.put, List.setIfInBounds_toArray, List.set_cons_zero, List.set_cons_succ]
                  refine wl_yield (o := ⟨_, _, _, _, _, _⟩) (.bool true) (yl_move (by rfl) _ rfl _ rfl) ?_
                  simp only [Act.put, List.setIfInBounds_toArray, List.set_cons_zero, List.set_cons_succ]
                  refine wl_yield (o := ⟨_, _, _, _, _, _⟩) (.bool true) (yl_pickT (by rfl) _ _ _ rfl rfl _ rfl) ?_
                  simp only [Act.put, List.setIfInBounds_toArray, List.set_cons_zero, List.set_cons_succ]
                  refine wl_yield (o := ⟨_, _, _, _, _, _⟩) (.bool true) (yl_eqB (by rfl) _ _ _ rfl true true rfl rfl) ?_
                  simp only [Act.put, List.setIfInBounds_toArray, List.set_cons_zero, List.set_cons_succ]
                  refine wl_yield (o := ⟨_, _, _, _, _, _⟩) (.bool true) (yl_pickF (by rfl) _ _ _ rfl rfl _ rfl) ?_
                  simp only [Act.put, List.setIfInBounds_toArray, List.set_cons_zero, List.set_cons_succ]
                  refine wl_yield (o := ⟨_, _, _, _, _, _⟩) (.bool true) (yl_pickT (by rfl) _ _ _ rfl rfl _ rfl) ?_
                  simp only [Act.put, List.setIfInBounds_toArray, List.set_cons_zero, List.set_cons_succ]
                  refine wl_yield (o := ⟨_, _, _, _, _, _⟩) (.bool true) (yl_assign (by rfl) _ rfl _ rfl) ?_
                  simp only [Act.put, List.setIfInBounds_toArray, List.set_cons_zero, List.set_cons_succ]
                  refine wpList_nil ?_
                  refine hK11 _ _ ?_
                  clear hK11 K11
                  refine wp_ret ?_
                  go_ret
                  exact ⟨rfl, D⟩
            · refine ⟨.tuple #[.slice p4 l4.length c4, .int .i64 z4], rfl, ?_⟩
              simp only [Act.put, List.setIfInBounds_toArray, List.set_cons_zero, List.set_cons_succ]
              refine wl_yield (o := ⟨_, _, _, _, _, _⟩) (.tuple #[.slice p4 l4.length c4, .int .i64 z4]) (yl_move (by rfl) _ rfl _ rfl) ?_
              simp only [Act.put, List.setIfInBounds_toArray, List.set_cons_zero, List.set_cons_succ]
              refine wl_yield (o := ⟨_, _, _, _, _, _⟩) (.slice p4 l4.length c4) (yl_extract0 (by rfl) _ rfl _ _ rfl) ?_
              simp only [Act.put, List.setIfInBounds_toArray, List.set_cons_zero, List.set_cons_succ]
              refine wl_yield (o := ⟨_, _, _, _, _, _⟩) (.int .i64 z4) (yl_extract1 (by rfl) _ rfl _ _ rfl) ?_
              simp only [Act.put, List.setIfInBounds_toArray, List.set_cons_zero, List.set_cons_succ]
              refine wl_yield (o := ⟨_, _, _, _, _, _⟩) (.slice p4 l4.length c4) (yl_assign (by rfl) _ rfl _ rfl) ?_
              simp only [Act.put, List.setIfInBounds_toArray, List.set_cons_zero, List.set_cons_succ]
              refine wl_yield (o := ⟨_, _, _, _, _, _⟩) (.int .i64 z4) (yl_assign (by rfl) _ rfl _ rfl) ?_
              simp only [Act.put, List.setIfInBounds_toArray, List.set_cons_zero, List.set_cons_succ]
              refine wpList_nil ?_
              refine hK7 _ _ ?_
              clear hK7 K7
              refine wp_seq_k (fun K8 hK8 => ?_)
              refine wp_seq_k (fun K9 hK9 => ?_)
              refine wp_region_lit ?_
              refine wl_yield (o := ⟨_, _, _, _, _, _⟩) (.int .i64 z1) (yl_move (by rfl) _ rfl _ rfl) ?_
              simp only [Act.put, List.setIfInBounds_toArray, List.set_cons_zero, List.set_cons_succ]
              refine wl_yield (o := ⟨_, _, _, _, _, _⟩) (.bool false) (yl_neqE (by rfl) _ _ _ rfl (z1) (0) false rfl rfl (decide_eq_false (fun h => h hA))) ?_
              simp only [Act.put, List.setIfInBounds_toArray, List.set_cons_zero, List.set_cons_succ]
              refine wl_yield (o := ⟨_, _, _, _, _, _⟩) (.bool false) (yl_move (by rfl) _ rfl _ rfl) ?_
              simp only [Act.put, List.setIfInBounds_toArray, List.set_cons_zero, List.set_cons_succ]
              refine wl_yield (o := ⟨_, _, _, _, _, _⟩) (.int .i64 z2) (yl_move (by rfl) _ rfl _ rfl) ?_
              simp only [Act.put, List.setIfInBounds_toArray, List.set_cons_zero, List.set_cons_succ]
              refine wl_yield (o := ⟨_, _, _, _, _, _⟩) (.bool false) (yl_neqE (by rfl) _ _ _ rfl (z2) (0) false rfl rfl (decide_eq_false (fun h => h hB))) ?_
              simp only [Act.put, List.setIfInBounds_toArray, List.set_cons_zero, List.set_cons_succ]
              refine wl_yield (o := ⟨_, _, _, _, _, _⟩) (.bool false) (yl_pickF (by rfl) _ _ _ rfl rfl _ rfl) ?_
              simp only [Act.put, List.setIfInBounds_toArray, List.set_cons_zero, List.set_cons_succ]
              refine wpList_nil ?_
              refine hK9 _ _ ?_
              clear hK9 K9
              refine wp_cond_false rfl ?_
              refine wp_skip ?_
              refine hK8 _ _ ?_
              clear hK8 K8
              refine wp_seq_k (fun K10 hK10 => ?_)
              refine wp_region_held_drew (S := fun w' => EvIn w' gb3 e) (by kernel_rfl) HE (fun hHeld => ?_)
              have kb : Below v14.heap.size v14 v14.drew := (Below.refl _ v14).drew
              replace D := D.trans (kb.mono D.size)
              replace hx := hx.on kb
              replace hy := hy.on kb
              replace HB := HB.on kb
              replace HC := HC.on kb
              replace HE := HE.on kb
              replace hb1 := hb1.on kb
              replace hb2 := hb2.on kb
              replace HO := HO.on kb
              replace hb3 := hb3.on kb
              replace HN := HN.on kb
              replace hb4 := hb4.on kb
              clear kb
              generalize v14.drew = v15 at D hHeld hx hy HB HC HE hb1 hb2 HO hb3 HN hb4 ⊢
              refine wpAnyH_take (i := 0) (oi := ⟨_, _, _, _, _, _⟩) (v := .slice p1 l1.length c1) rfl (by kernel_rfl) (by kernel_rfl) (by kernel_rfl) (fun _ _ _ h => h) (yl_move (by rfl) _ rfl _ rfl) (by assumption) ?_
              simp only [Act.put, List.setIfInBounds_toArray, List.set_cons_zero, List.set_cons_succ]
              refine wpAnyH_take (i := 1) (oi := ⟨_, _, _, _, _, _⟩) (v := evVal e) rfl (by kernel_rfl) (by kernel_rfl) (by kernel_rfl) (fun _ _ _ h => h) (yl_ev (by rfl) _ rfl _ 0 rfl _ _ _ _ _ _ _ _ _ _ _ _ (fun _ h => evCells h)) (by assumption) ?_
              simp only [Act.put, List.setIfInBounds_toArray, List.set_cons_zero, List.set_cons_succ]
              refine wpAnyH_take (i := 3) (oi := ⟨_, _, _, _, _, _⟩) (v := .slice p2 l2.length c2) rfl (by kernel_rfl) (by kernel_rfl) (by kernel_rfl) (fun _ _ _ h => h) (yl_move (by rfl) _ rfl _ rfl) (by assumption) ?_
              simp only [Act.put, List.setIfInBounds_toArray, List.set_cons_zero, List.set_cons_succ]
              refine wpAnyH_take (i := 4) (oi := ⟨_, _, _, _, _, _⟩) (v := evVal e) rfl (by kernel_rfl) (by kernel_rfl) (by kernel_rfl) (fun _ _ _ h => h) (yl_ev (by rfl) _ rfl _ 0 rfl _ _ _ _ _ _ _ _ _ _ _ _ (fun _ h => evCells h)) (by assumption) ?_
              simp only [Act.put, List.setIfInBounds_toArray, List.set_cons_zero, List.set_cons_succ]
              refine held_call (o := ⟨_, _, _, _, _, _⟩) 2 (by kernel_rfl) rfl (by rfl) 15 _ _ rfl #[.slice p1 l1.length c1, evVal e] rfl (run_call Tryz.func15 (by kernel_rfl) (by kernel_rfl)) ?_
              refine (progHas_any _ l1 e _ hb1 fl1 hf he).mono ?_
              rintro r v16 ⟨rfl, kb⟩
              replace D := D.trans (kb.mono D.size)
              replace hx := hx.on kb
              replace hy := hy.on kb
              replace HB := HB.on kb
              replace HC := HC.on kb
              replace HE := HE.on kb
              replace hb1 := hb1.on kb
              replace hb2 := hb2.on kb
              replace HO := HO.on kb
              replace hb3 := hb3.on kb
              replace HN := HN.on kb
              replace hb4 := hb4.on kb
              clear kb
              clear hHeld
              cases hF : hasL l1 e
              · refine ⟨.bool false, rfl, HE, fun hHeld => ?_⟩
                simp only [Act.put, List.setIfInBounds_toArray, List.set_cons_zero, List.set_cons_succ]
                refine held_call (o := ⟨_, _, _, _, _, _⟩) 5 (by kernel_rfl) rfl (by rfl) 15 _ _ rfl #[.slice p2 l2.length c2, evVal e] rfl (run_call Tryz.func15 (by kernel_rfl) (by kernel_rfl)) ?_
                refine (progHas_any _ l2 e _ hb2 fl2 hf he).mono ?_
                rintro r v17 ⟨rfl, kb⟩
                replace D := D.trans (kb.mono D.size)
                replace hx := hx.on kb
                replace hy := hy.on kb
                replace HB := HB.on kb
                replace HC := HC.on kb
                replace HE := HE.on kb
                replace hb1 := hb1.on kb
                replace hb2 := hb2.on kb
                replace HO := HO.on kb
                replace hb3 := hb3.on kb
                replace HN := HN.on kb
                replace hb4 := hb4.on kb
                clear kb
                clear hHeld
                cases hG : hasL l2 e
                · refine ⟨.bool false, rfl, HE, fun hHeld => ?_⟩
                  simp only [Act.put, List.setIfInBounds_toArray, List.set_cons_zero, List.set_cons_succ]
                  refine wpAnyH_take (i := 6) (oi := ⟨_, _, _, _, _, _⟩) (v := .bool false) rfl (by kernel_rfl) (by kernel_rfl) (by kernel_rfl) (fun _ _ _ h => h) (yl_assign (by rfl) _ rfl _ rfl) (by assumption) ?_
                  simp only [Act.put, List.setIfInBounds_toArray, List.set_cons_zero, List.set_cons_succ]
                  refine wpAnyH_take (i := 7) (oi := ⟨_, _, _, _, _, _⟩) (v := .bool false) rfl (by kernel_rfl) (by kernel_rfl) (by kernel_rfl) (fun _ _ _ h => h) (yl_assign (by rfl) _ rfl _ rfl) (by assumption) ?_
                  simp only [Act.put, List.setIfInBounds_toArray, List.set_cons_zero, List.set_cons_succ]
                  refine wpAnyH_done (by kernel_rfl) ?_ _
                  clear hHeld
                  refine hK10 _ _ ?_
                  clear hK10 K10
                  refine wp_seq_k (fun K11 hK11 => ?_)
                  refine wp_region_lit ?_
                  refine wl_yield (o := ⟨_, _, _, _, _, _⟩) (.int .i64 z3) (yl_move (by rfl) _ rfl _ rfl) ?_
                  simp only [Act.put, List.setIfInBounds_toArray, List.set_cons_zero, List.set_cons_succ]
                  refine wl_yield (o := ⟨_, _, _, _, _, _⟩) (.bool true) (yl_neqE (by rfl) _ _ _ rfl (z3) (0) true rfl rfl (decide_eq_true hO)) ?_
                  simp only [Act.put, List.setIfInBounds_toArray, List.set_cons_zero, List.set_cons_succ]
                  refine wl_yield (o := ⟨_, _, _, _, _, _⟩) (.bool true) (yl_move (by rfl) _ rfl _ rfl) ?_
                  simp only [Act.put, List.setIfInBounds_toArray, List.set_cons_zero, List.set_cons_succ]
                  with_reducible refine wl_yield (o := ⟨_, _, _, _, _, _⟩) undef (yl_undef (by kernel_rfl)) ?_
                  simp only [Act.put, List.setIfInBounds_toArray, List.set_cons_zero, List.set_cons_succ]
                  with_reducible refine wl_yield (o := ⟨_, _, _, _, _, _⟩) undef (yl_undef (by kernel_rfl)) ?_
                  simp only [Act.put, List.setIfInBounds_toArray, List.set_cons_zero, List.set_cons_succ]
                  with_reducible refine wl_yield (o := ⟨_, _, _, _, _, _⟩) undef (yl_undef (by kernel_rfl)) ?_
                  simp only [Act.put, List.setIfInBounds_toArray, List.set_cons_zero, List.set_cons_succ]
                  with_reducible refine wl_yield (o := ⟨_, _, _, _, _, _⟩) undef (yl_undef (by kernel_rfl)) ?_
                  simp only [Act.put, List.setIfInBounds_toArray, List.set_cons_zero, List.set_cons_succ]
                  with_reducible refine wl_yield (o := ⟨_, _, _, _, _, _⟩) undef (yl_undef (by kernel_rfl)) ?_
                  simp only [Act.put, List.setIfInBounds_toArray, List.set_cons_zero, List.set_cons_succ]
                  with_reducible refine wl_yield (o := ⟨_, _, _, _, _, _⟩) undef (yl_undef (by kernel_rfl)) ?_
                  simp only [Act.put, List.setIfInBounds_toArray, List.set_cons_zero, List.set_cons_succ]
                  with_reducible refine wl_yield (o := ⟨_, _, _, _, _, _⟩) undef (yl_undef (by kernel_rfl)) ?_
                  simp only [Act.put, List.setIfInBounds_toArray, List.set_cons_zero, List.set_cons_succ]
                  with_reducible refine wl_yield (o := ⟨_, _, _, _, _, _⟩) undef (yl_undef (by kernel_rfl)) ?_
                  simp only [Act.put, List.setIfInBounds_toArray, List.set_cons_zero, List.set_cons_succ]
                  refine wl_yield (o := ⟨_, _, _, _, _, _⟩) (.bool true) (yl_pickT (by rfl) _ _ _ rfl rfl _ rfl) ?_
                  simp only [Act.put, List.setIfInBounds_toArray, List.set_cons_zero, List.set_cons_succ]
                  refine wl_yield (o := ⟨_, _, _, _, _, _⟩) (.bool true) (yl_move (by rfl) _ rfl _ rfl) ?_
                  simp only [Act.put, List.setIfInBounds_toArray, List.set_cons_zero, List.set_cons_succ]
                  refine wl_yield (o := ⟨_, _, _, _, _, _⟩) (.int .i64 z4) (yl_move (by rfl) _ rfl _ rfl) ?_
                  simp only [Act.put, List.setIfInBounds_toArray, List.set_cons_zero, List.set_cons_succ]
                  refine wl_yield (o := ⟨_, _, _, _, _, _⟩) (.bool true) (yl_neqE (by rfl) _ _ _ rfl (z4) (0) true rfl rfl (decide_eq_true hN)) ?_
                  simp only [Act.put, List.setIfInBounds_toArray, List.set_cons_zero, List.set_cons_succ]
                  refine wl_yield (o := ⟨_, _, _, _, _, _⟩) (.bool true) (yl_move (by rfl) _ rfl _ rfl) ?_
                  simp only [Act.put, List.setIfInBounds_toArray, List.set_cons_zero, List.set_cons_succ]
                  with_reducible refine wl_yield (o := ⟨_, _, _, _, _, _⟩) undef (yl_undef (by kernel_rfl)) ?_
                  simp only [Act.put, List.setIfInBounds_toArray, List.set_cons_zero, List.set_cons_succ]
                  with_reducible refine wl_yield (o := ⟨_, _, _, _, _, _⟩) undef (yl_undef (by kernel_rfl)) ?_
                  simp only [Act.put, List.setIfInBounds_toArray, List.set_cons_zero, List.set_cons_succ]
                  with_reducible refine wl_yield (o := ⟨_, _, _, _, _, _⟩) undef (yl_undef (by kernel_rfl)) ?_
                  simp only [Act.put, List.setIfInBounds_toArray, List.set_cons_zero, List.set_cons_succ]
                  with_reducible refine wl_yield (o := ⟨_, _, _, _, _, _⟩) undef (yl_undef (by kernel_rfl)) ?_
                  simp only [Act.put, List.setIfInBounds_toArray, List.set_cons_zero, List.set_cons_succ]
                  with_reducible refine wl_yield (o := ⟨_, _, _, _, _, _⟩) undef (yl_undef (by kernel_rfl)) ?_
                  simp only [Act.put, List.setIfInBounds_toArray, List.set_cons_zero, List.set_cons_succ]
                  with_reducible refine wl_yield (o := ⟨_, _, _, _, _, _⟩) undef (yl_undef (by kernel_rfl)) ?_
                  simp only [Act.put, List.setIfInBounds_toArray, List.set_cons_zero, List.set_cons_succ]
                  with_reducible refine wl_yield (o := ⟨_, _, _, _, _, _⟩) undef (yl_undef (by kernel_rfl)) ?_
                  simp only [Act.put, List.setIfInBounds_toArray, List.set_cons_zero, List.set_cons_succ]
                  with_reducible refine wl_yield (o := ⟨_, _, _, _, _, _⟩) undef (yl_undef (by kernel_rfl)) ?_
                  simp only [Act.put, List.setIfInBounds_toArray, List.set_cons_zero, List.set_cons_succ]
                  refine wl_yield (o := ⟨_, _, _, _, _, _⟩) (.bool true) (yl_pickT (by rfl) _ _ _ rfl rfl _ rfl) ?_
                  simp only [Act.put, List.setIfInBounds_toArray, List.set_cons_zero, List.set_cons_succ]
                  refine wl_yield (o := ⟨_, _, _, _, _, _⟩) (.bool true) (yl_pickT (by rfl) _ _ _ rfl rfl _ rfl) ?_
                  simp only [Act.put, List.setIfInBounds_toArray, List.set_cons_zero, List.set_cons_succ]
                  refine wl_yield (o := ⟨_, _, _, _, _, _⟩) (.bool true) (yl_assign (by rfl) _ rfl _ rfl) ?_
                  simp only [Act.put, List.setIfInBounds_toArray, List.set_cons_zero, List.set_cons_succ]
                  refine wpList_nil ?_
                  refine hK11 _ _ ?_
                  clear hK11 K11
                  refine wp_ret ?_
                  go_ret
                  exact ⟨rfl, D⟩
                · refine ⟨.bool true, rfl, HE, fun hHeld => ?_⟩
                  simp only [Act.put, List.setIfInBounds_toArray, List.set_cons_zero, List.set_cons_succ]
                  refine wpAnyH_take (i := 6) (oi := ⟨_, _, _, _, _, _⟩) (v := .bool false) rfl (by kernel_rfl) (by kernel_rfl) (by kernel_rfl) (fun _ _ _ h => h) (yl_assign (by rfl) _ rfl _ rfl) (by assumption) ?_
                  simp only [Act.put, List.setIfInBounds_toArray, List.set_cons_zero, List.set_cons_succ]
                  refine wpAnyH_take (i := 7) (oi := ⟨_, _, _, _, _, _⟩) (v := .bool true) rfl (by kernel_rfl) (by kernel_rfl) (by kernel_rfl) (fun _ _ _ h => h) (yl_assign (by rfl) _ rfl _ rfl) (by assumption) ?_
                  simp only [Act.put, List.setIfInBounds_toArray, List.set_cons_zero, List.set_cons_succ]
                  refine wpAnyH_done (by kernel_rfl) ?_ _
                  clear hHeld
                  refine hK10 _ _ ?_
                  clear hK10 K10
                  refine wp_seq_k (fun K11 hK11 => ?_)
                  refine wp_region_lit ?_
                  refine wl_yield (o := ⟨_, _, _, _, _, _⟩) (.int .i64 z3) (yl_move (by rfl) _ rfl _ rfl) ?_
                  simp only [Act.put, List.setIfInBounds_toArray, List.set_cons_zero, List.set_cons_succ]
                  refine wl_yield (o := ⟨_, _, _, _, _, _⟩) (.bool true) (yl_neqE (by rfl) _ _ _ rfl (z3) (0) true rfl rfl (decide_eq_true hO)) ?_
                  simp only [Act.put, List.setIfInBounds_toArray, List.set_cons_zero, List.set_cons_succ]
                  refine wl_yield (o := ⟨_, _, _, _, _, _⟩) (.bool true) (yl_move (by rfl) _ rfl _ rfl) ?_
                  simp only [Act.put, List.setIfInBounds_toArray, List.set_cons_zero, List.set_cons_succ]
                  with_reducible refine wl_yield (o := ⟨_, _, _, _, _, _⟩) undef (yl_undef (by kernel_rfl)) ?_
                  simp only [Act.put, List.setIfInBounds_toArray, List.set_cons_zero, List.set_cons_succ]
                  with_reducible refine wl_yield (o := ⟨_, _, _, _, _, _⟩) undef (yl_undef (by kernel_rfl)) ?_
                  simp only [Act.put, List.setIfInBounds_toArray, List.set_cons_zero, List.set_cons_succ]
                  with_reducible refine wl_yield (o := ⟨_, _, _, _, _, _⟩) undef (yl_undef (by kernel_rfl)) ?_
                  simp only [Act.put, List.setIfInBounds_toArray, List.set_cons_zero, List.set_cons_succ]
                  with_reducible refine wl_yield (o := ⟨_, _, _, _, _, _⟩) undef (yl_undef (by kernel_rfl)) ?_
                  simp only [Act.put, List.setIfInBounds_toArray, List.set_cons_zero, List.set_cons_succ]
                  with_reducible refine wl_yield (o := ⟨_, _, _, _, _, _⟩) undef (yl_undef (by kernel_rfl)) ?_
                  simp only [Act.put, List.setIfInBounds_toArray, List.set_cons_zero, List.set_cons_succ]
                  with_reducible refine wl_yield (o := ⟨_, _, _, _, _, _⟩) undef (yl_undef (by kernel_rfl)) ?_
                  simp only [Act.put, List.setIfInBounds_toArray, List.set_cons_zero, List.set_cons_succ]
                  with_reducible refine wl_yield (o := ⟨_, _, _, _, _, _⟩) undef (yl_undef (by kernel_rfl)) ?_
                  simp only [Act.put, List.setIfInBounds_toArray, List.set_cons_zero, List.set_cons_succ]
                  with_reducible refine wl_yield (o := ⟨_, _, _, _, _, _⟩) undef (yl_undef (by kernel_rfl)) ?_
                  simp only [Act.put, List.setIfInBounds_toArray, List.set_cons_zero, List.set_cons_succ]
                  refine wl_yield (o := ⟨_, _, _, _, _, _⟩) (.bool true) (yl_pickT (by rfl) _ _ _ rfl rfl _ rfl) ?_
                  simp only [Act.put, List.setIfInBounds_toArray, List.set_cons_zero, List.set_cons_succ]
                  refine wl_yield (o := ⟨_, _, _, _, _, _⟩) (.bool true) (yl_move (by rfl) _ rfl _ rfl) ?_
                  simp only [Act.put, List.setIfInBounds_toArray, List.set_cons_zero, List.set_cons_succ]
                  refine wl_yield (o := ⟨_, _, _, _, _, _⟩) (.int .i64 z4) (yl_move (by rfl) _ rfl _ rfl) ?_
                  simp only [Act.put, List.setIfInBounds_toArray, List.set_cons_zero, List.set_cons_succ]
                  refine wl_yield (o := ⟨_, _, _, _, _, _⟩) (.bool true) (yl_neqE (by rfl) _ _ _ rfl (z4) (0) true rfl rfl (decide_eq_true hN)) ?_
                  simp only [Act.put, List.setIfInBounds_toArray, List.set_cons_zero, List.set_cons_succ]
                  refine wl_yield (o := ⟨_, _, _, _, _, _⟩) (.bool true) (yl_move (by rfl) _ rfl _ rfl) ?_
                  simp only [Act.put, List.setIfInBounds_toArray, List.set_cons_zero, List.set_cons_succ]
                  with_reducible refine wl_yield (o := ⟨_, _, _, _, _, _⟩) undef (yl_undef (by kernel_rfl)) ?_
                  simp only [Act.put, List.setIfInBounds_toArray, List.set_cons_zero, List.set_cons_succ]
                  with_reducible refine wl_yield (o := ⟨_, _, _, _, _, _⟩) undef (yl_undef (by kernel_rfl)) ?_
                  simp only [Act.put, List.setIfInBounds_toArray, List.set_cons_zero, List.set_cons_succ]
                  with_reducible refine wl_yield (o := ⟨_, _, _, _, _, _⟩) undef (yl_undef (by kernel_rfl)) ?_
                  simp only [Act.put, List.setIfInBounds_toArray, List.set_cons_zero, List.set_cons_succ]
                  with_reducible refine wl_yield (o := ⟨_, _, _, _, _, _⟩) undef (yl_undef (by kernel_rfl)) ?_
                  simp only [Act.put, List.setIfInBounds_toArray, List.set_cons_zero, List.set_cons_succ]
                  with_reducible refine wl_yield (o := ⟨_, _, _, _, _, _⟩) undef (yl_undef (by kernel_rfl)) ?_
                  simp only [Act.put, List.setIfInBounds_toArray, List.set_cons_zero, List.set_cons_succ]
                  with_reducible refine wl_yield (o := ⟨_, _, _, _, _, _⟩) undef (yl_undef (by kernel_rfl)) ?_
                  simp only [Act.put, List.setIfInBounds_toArray, List.set_cons_zero, List.set_cons_succ]
                  with_reducible refine wl_yield (o := ⟨_, _, _, _, _, _⟩) undef (yl_undef (by kernel_rfl)) ?_
                  simp only [Act.put, List.setIfInBounds_toArray, List.set_cons_zero, List.set_cons_succ]
                  with_reducible refine wl_yield (o := ⟨_, _, _, _, _, _⟩) undef (yl_undef (by kernel_rfl)) ?_
                  simp only [Act.put, List.setIfInBounds_toArray, List.set_cons_zero, List.set_cons_succ]
                  refine wl_yield (o := ⟨_, _, _, _, _, _⟩) (.bool true) (yl_pickT (by rfl) _ _ _ rfl rfl _ rfl) ?_
                  simp only [Act.put, List.setIfInBounds_toArray, List.set_cons_zero, List.set_cons_succ]
                  refine wl_yield (o := ⟨_, _, _, _, _, _⟩) (.bool true) (yl_pickT (by rfl) _ _ _ rfl rfl _ rfl) ?_
                  simp only [Act.put, List.setIfInBounds_toArray, List.set_cons_zero, List.set_cons_succ]
                  refine wl_yield (o := ⟨_, _, _, _, _, _⟩) (.bool true) (yl_assign (by rfl) _ rfl _ rfl) ?_
                  simp only [Act.put, List.setIfInBounds_toArray, List.set_cons_zero, List.set_cons_succ]
                  refine wpList_nil ?_
                  refine hK11 _ _ ?_
                  clear hK11 K11
                  refine wp_ret ?_
                  go_ret
                  exact ⟨rfl, D⟩
              · refine ⟨.bool true, rfl, HE, fun hHeld => ?_⟩
                simp only [Act.put, List.setIfInBounds_toArray, List.set_cons_zero, List.set_cons_succ]
                refine held_call (o := ⟨_, _, _, _, _, _⟩) 5 (by kernel_rfl) rfl (by rfl) 15 _ _ rfl #[.slice p2 l2.length c2, evVal e] rfl (run_call Tryz.func15 (by kernel_rfl) (by kernel_rfl)) ?_
                refine (progHas_any _ l2 e _ hb2 fl2 hf he).mono ?_
                rintro r v17 ⟨rfl, kb⟩
                replace D := D.trans (kb.mono D.size)
                replace hx := hx.on kb
                replace hy := hy.on kb
                replace HB := HB.on kb
                replace HC := HC.on kb
                replace HE := HE.on kb
                replace hb1 := hb1.on kb
                replace hb2 := hb2.on kb
                replace HO := HO.on kb
                replace hb3 := hb3.on kb
                replace HN := HN.on kb
                replace hb4 := hb4.on kb
                clear kb
                clear hHeld
                cases hG : hasL l2 e
                · refine ⟨.bool false, rfl, HE, fun hHeld => ?_⟩
                  simp only [Act.put, List.setIfInBounds_toArray, List.set_cons_zero, List.set_cons_succ]
                  refine wpAnyH_take (i := 6) (oi := ⟨_, _, _, _, _, _⟩) (v := .bool true) rfl (by kernel_rfl) (by kernel_rfl) (by kernel_rfl) (fun _ _ _ h => h) (yl_assign (by rfl) _ rfl _ rfl) (by assumption) ?_
                  simp only [Act.put, List.setIfInBounds_toArray, List.set_cons_zero, List.set_cons_succ]
                  refine wpAnyH_take (i := 7) (oi := ⟨_, _, _, _, _, _⟩) (v := .bool false) rfl (by kernel_rfl) (by kernel_rfl) (by kernel_rfl) (fun _ _ _ h => h) (yl_assign (by rfl) _ rfl _ rfl) (by assumption) ?_
                  simp only [Act.put, List.setIfInBounds_toArray, List.set_cons_zero, List.set_cons_succ]
                  refine wpAnyH_done (by kernel_rfl) ?_ _
                  clear hHeld
                  refine hK10 _ _ ?_
                  clear hK10 K10
                  refine wp_seq_k (fun K11 hK11 => ?_)
                  refine wp_region_lit ?_
                  refine wl_yield (o := ⟨_, _, _, _, _, _⟩) (.int .i64 z3) (yl_move (by rfl) _ rfl _ rfl) ?_
                  simp only [Act.put, List.setIfInBounds_toArray, List.set_cons_zero, List.set_cons_succ]
                  refine wl_yield (o := ⟨_, _, _, _, _, _⟩) (.bool true) (yl_neqE (by rfl) _ _ _ rfl (z3) (0) true rfl rfl (decide_eq_true hO)) ?_
                  simp only [Act.put, List.setIfInBounds_toArray, List.set_cons_zero, List.set_cons_succ]
                  refine wl_yield (o := ⟨_, _, _, _, _, _⟩) (.bool true) (yl_move (by rfl) _ rfl _ rfl) ?_
                  simp only [Act.put, List.setIfInBounds_toArray, List.set_cons_zero, List.set_cons_succ]
                  with_reducible refine wl_yield (o := ⟨_, _, _, _, _, _⟩) undef (yl_undef (by kernel_rfl)) ?_
                  simp only [Act.put, List.setIfInBounds_toArray, List.set_cons_zero, List.set_cons_succ]
                  with_reducible refine wl_yield (o := ⟨_, _, _, _, _, _⟩) undef (yl_undef (by kernel_rfl)) ?_
                  simp only [Act.put, List.setIfInBounds_toArray, List.set_cons_zero, List.set_cons_succ]
                  with_reducible refine wl_yield (o := ⟨_, _, _, _, _, _⟩) undef (yl_undef (by kernel_rfl)) ?_
                  simp only [Act.put, List.setIfInBounds_toArray, List.set_cons_zero, List.set_cons_succ]
                  with_reducible refine wl_yield (o := ⟨_, _, _, _, _, _⟩) undef (yl_undef (by kernel_rfl)) ?_
                  simp only [Act.put, List.setIfInBounds_toArray, List.set_cons_zero, List.set_cons_succ]
                  with_reducible refine wl_yield (o := ⟨_, _, _, _, _, _⟩) undef (yl_undef (by kernel_rfl)) ?_
                  simp only [Act.put, List.setIfInBounds_toArray, List.set_cons_zero, List.set_cons_succ]
                  with_reducible refine wl_yield (o := ⟨_, _, _, _, _, _⟩) undef (yl_undef (by kernel_rfl)) ?_
                  simp only [Act.put, List.setIfInBounds_toArray, List.set_cons_zero, List.set_cons_succ]
                  with_reducible refine wl_yield (o := ⟨_, _, _, _, _, _⟩) undef (yl_undef (by kernel_rfl)) ?_
                  simp only [Act.put, List.setIfInBounds_toArray, List.set_cons_zero, List.set_cons_succ]
                  with_reducible refine wl_yield (o := ⟨_, _, _, _, _, _⟩) undef (yl_undef (by kernel_rfl)) ?_
                  simp only [Act.put, List.setIfInBounds_toArray, List.set_cons_zero, List.set_cons_succ]
                  refine wl_yield (o := ⟨_, _, _, _, _, _⟩) (.bool true) (yl_pickT (by rfl) _ _ _ rfl rfl _ rfl) ?_
                  simp only [Act.put, List.setIfInBounds_toArray, List.set_cons_zero, List.set_cons_succ]
                  refine wl_yield (o := ⟨_, _, _, _, _, _⟩) (.bool true) (yl_move (by rfl) _ rfl _ rfl) ?_
                  simp only [Act.put, List.setIfInBounds_toArray, List.set_cons_zero, List.set_cons_succ]
                  refine wl_yield (o := ⟨_, _, _, _, _, _⟩) (.int .i64 z4) (yl_move (by rfl) _ rfl _ rfl) ?_
                  simp only [Act.put, List.setIfInBounds_toArray, List.set_cons_zero, List.set_cons_succ]
                  refine wl_yield (o := ⟨_, _, _, _, _, _⟩) (.bool true) (yl_neqE (by rfl) _ _ _ rfl (z4) (0) true rfl rfl (decide_eq_true hN)) ?_
                  simp only [Act.put, List.setIfInBounds_toArray, List.set_cons_zero, List.set_cons_succ]
                  refine wl_yield (o := ⟨_, _, _, _, _, _⟩) (.bool true) (yl_move (by rfl) _ rfl _ rfl) ?_
                  simp only [Act.put, List.setIfInBounds_toArray, List.set_cons_zero, List.set_cons_succ]
                  with_reducible refine wl_yield (o := ⟨_, _, _, _, _, _⟩) undef (yl_undef (by kernel_rfl)) ?_
                  simp only [Act.put, List.setIfInBounds_toArray, List.set_cons_zero, List.set_cons_succ]
                  with_reducible refine wl_yield (o := ⟨_, _, _, _, _, _⟩) undef (yl_undef (by kernel_rfl)) ?_
                  simp only [Act.put, List.setIfInBounds_toArray, List.set_cons_zero, List.set_cons_succ]
                  with_reducible refine wl_yield (o := ⟨_, _, _, _, _, _⟩) undef (yl_undef (by kernel_rfl)) ?_
                  simp only [Act.put, List.setIfInBounds_toArray, List.set_cons_zero, List.set_cons_succ]
                  with_reducible refine wl_yield (o := ⟨_, _, _, _, _, _⟩) undef (yl_undef (by kernel_rfl)) ?_
                  simp only [Act.put, List.setIfInBounds_toArray, List.set_cons_zero, List.set_cons_succ]
                  with_reducible refine wl_yield (o := ⟨_, _, _, _, _, _⟩) undef (yl_undef (by kernel_rfl)) ?_
                  simp only [Act.put, List.setIfInBounds_toArray, List.set_cons_zero, List.set_cons_succ]
                  with_reducible refine wl_yield (o := ⟨_, _, _, _, _, _⟩) undef (yl_undef (by kernel_rfl)) ?_
                  simp only [Act.put, List.setIfInBounds_toArray, List.set_cons_zero, List.set_cons_succ]
                  with_reducible refine wl_yield (o := ⟨_, _, _, _, _, _⟩) undef (yl_undef (by kernel_rfl)) ?_
                  simp only [Act.put, List.setIfInBounds_toArray, List.set_cons_zero, List.set_cons_succ]
                  with_reducible refine wl_yield (o := ⟨_, _, _, _, _, _⟩) undef (yl_undef (by kernel_rfl)) ?_
                  simp only [Act.put, List.setIfInBounds_toArray, List.set_cons_zero, List.set_cons_succ]
                  refine wl_yield (o := ⟨_, _, _, _, _, _⟩) (.bool true) (yl_pickT (by rfl) _ _ _ rfl rfl _ rfl) ?_
                  simp only [Act.put, List.setIfInBounds_toArray, List.set_cons_zero, List.set_cons_succ]
                  refine wl_yield (o := ⟨_, _, _, _, _, _⟩) (.bool true) (yl_pickT (by rfl) _ _ _ rfl rfl _ rfl) ?_
                  simp only [Act.put, List.setIfInBounds_toArray, List.set_cons_zero, List.set_cons_succ]
                  refine wl_yield (o := ⟨_, _, _, _, _, _⟩) (.bool true) (yl_assign (by rfl) _ rfl _ rfl) ?_
                  simp only [Act.put, List.setIfInBounds_toArray, List.set_cons_zero, List.set_cons_succ]
                  refine wpList_nil ?_
                  refine hK11 _ _ ?_
                  clear hK11 K11
                  refine wp_ret ?_
                  go_ret
                  exact ⟨rfl, D⟩
                · refine ⟨.bool true, rfl, HE, fun hHeld => ?_⟩
                  simp only [Act.put, List.setIfInBounds_toArray, List.set_cons_zero, List.set_cons_succ]
                  refine wpAnyH_take (i := 6) (oi := ⟨_, _, _, _, _, _⟩) (v := .bool true) rfl (by kernel_rfl) (by kernel_rfl) (by kernel_rfl) (fun _ _ _ h => h) (yl_assign (by rfl) _ rfl _ rfl) (by assumption) ?_
                  simp only [Act.put, List.setIfInBounds_toArray, List.set_cons_zero, List.set_cons_succ]
                  refine wpAnyH_take (i := 7) (oi := ⟨_, _, _, _, _, _⟩) (v := .bool true) rfl (by kernel_rfl) (by kernel_rfl) (by kernel_rfl) (fun _ _ _ h => h) (yl_assign (by rfl) _ rfl _ rfl) (by assumption) ?_
                  simp only [Act.put, List.setIfInBounds_toArray, List.set_cons_zero, List.set_cons_succ]
                  refine wpAnyH_done (by kernel_rfl) ?_ _
                  clear hHeld
                  refine hK10 _ _ ?_
                  clear hK10 K10
                  refine wp_seq_k (fun K11 hK11 => ?_)
                  refine wp_region_lit ?_
                  refine wl_yield (o := ⟨_, _, _, _, _, _⟩) (.int .i64 z3) (yl_move (by rfl) _ rfl _ rfl) ?_
                  simp only [Act.put, List.setIfInBounds_toArray, List.set_cons_zero, List.set_cons_succ]
                  refine wl_yield (o := ⟨_, _, _, _, _, _⟩) (.bool true) (yl_neqE (by rfl) _ _ _ rfl (z3) (0) true rfl rfl (decide_eq_true hO)) ?_
                  simp only [Act.put, List.setIfInBounds_toArray, List.set_cons_zero, List.set_cons_succ]
                  refine wl_yield (o := ⟨_, _, _, _, _, _⟩) (.bool true) (yl_move (by rfl) _ rfl _ rfl) ?_
                  simp only [Act.put, List.setIfInBounds_toArray, List.set_cons_zero, List.set_cons_succ]
                  with_reducible refine wl_yield (o := ⟨_, _, _, _, _, _⟩) undef (yl_undef (by kernel_rfl)) ?_
                  simp only [Act.put, List.setIfInBounds_toArray, List.set_cons_zero, List.set_cons_succ]
                  with_reducible refine wl_yield (o := ⟨_, _, _, _, _, _⟩) undef (yl_undef (by kernel_rfl)) ?_
                  simp only [Act.put, List.setIfInBounds_toArray, List.set_cons_zero, List.set_cons_succ]
                  with_reducible refine wl_yield (o := ⟨_, _, _, _, _, _⟩) undef (yl_undef (by kernel_rfl)) ?_
                  simp only [Act.put, List.setIfInBounds_toArray, List.set_cons_zero, List.set_cons_succ]
                  with_reducible refine wl_yield (o := ⟨_, _, _, _, _, _⟩) undef (yl_undef (by kernel_rfl)) ?_
                  simp only [Act.put, List.setIfInBounds_toArray, List.set_cons_zero, List.set_cons_succ]
                  with_reducible refine wl_yield (o := ⟨_, _, _, _, _, _⟩) undef (yl_undef (by kernel_rfl)) ?_
                  simp only [Act.put, List.setIfInBounds_toArray, List.set_cons_zero, List.set_cons_succ]
                  with_reducible refine wl_yield (o := ⟨_, _, _, _, _, _⟩) undef (yl_undef (by kernel_rfl)) ?_
                  simp only [Act.put, List.setIfInBounds_toArray, List.set_cons_zero, List.set_cons_succ]
                  with_reducible refine wl_yield (o := ⟨_, _, _, _, _, _⟩) undef (yl_undef (by kernel_rfl)) ?_
                  simp only [Act.put, List.setIfInBounds_toArray, List.set_cons_zero, List.set_cons_succ]
                  with_reducible refine wl_yield (o := ⟨_, _, _, _, _, _⟩) undef (yl_undef (by kernel_rfl)) ?_
                  simp only [Act.put, List.setIfInBounds_toArray, List.set_cons_zero, List.set_cons_succ]
                  refine wl_yield (o := ⟨_, _, _, _, _, _⟩) (.bool true) (yl_pickT (by rfl) _ _ _ rfl rfl _ rfl) ?_
                  simp only [Act.put, List.setIfInBounds_toArray, List.set_cons_zero, List.set_cons_succ]
                  refine wl_yield (o := ⟨_, _, _, _, _, _⟩) (.bool true) (yl_move (by rfl) _ rfl _ rfl) ?_
                  simp only [Act.put, List.setIfInBounds_toArray, List.set_cons_zero, List.set_cons_succ]
                  refine wl_yield (o := ⟨_, _, _, _, _, _⟩) (.int .i64 z4) (yl_move (by rfl) _ rfl _ rfl) ?_
                  simp only [Act.put, List.setIfInBounds_toArray, List.set_cons_zero, List.set_cons_succ]
                  refine wl_yield (o := ⟨_, _, _, _, _, _⟩) (.bool true) (yl_neqE (by rfl) _ _ _ rfl (z4) (0) true rfl rfl (decide_eq_true hN)) ?_
                  simp only [Act.put, List.setIfInBounds_toArray, List.set_cons_zero, List.set_cons_succ]
                  refine wl_yield (o := ⟨_, _, _, _, _, _⟩) (.bool true) (yl_move (by rfl) _ rfl _ rfl) ?_
                  simp only [Act.put, List.setIfInBounds_toArray, List.set_cons_zero, List.set_cons_succ]
                  with_reducible refine wl_yield (o := ⟨_, _, _, _, _, _⟩) undef (yl_undef (by kernel_rfl)) ?_
                  simp only [Act.put, List.setIfInBounds_toArray, List.set_cons_zero, List.set_cons_succ]
                  with_reducible refine wl_yield (o := ⟨_, _, _, _, _, _⟩) undef (yl_undef (by kernel_rfl)) ?_
                  simp only [Act.put, List.setIfInBounds_toArray, List.set_cons_zero, List.set_cons_succ]
                  with_reducible refine wl_yield (o := ⟨_, _, _, _, _, _⟩) undef (yl_undef (by kernel_rfl)) ?_
                  simp only [Act.put, List.setIfInBounds_toArray, List.set_cons_zero, List.set_cons_succ]
                  with_reducible refine wl_yield (o := ⟨_, _, _, _, _, _⟩) undef (yl_undef (by kernel_rfl)) ?_
                  simp only [Act.put, List.setIfInBounds_toArray, List.set_cons_zero, List.set_cons_succ]
                  with_reducible refine wl_yield (o := ⟨_, _, _, _, _, _⟩) undef (yl_undef (by kernel_rfl)) ?_
                  simp only [Act.put, List.setIfInBounds_toArray, List.set_cons_zero, List.set_cons_succ]
                  with_reducible refine wl_yield (o := ⟨_, _, _, _, _, _⟩) undef (yl_undef (by kernel_rfl)) ?_
                  simp only [Act.put, List.setIfInBounds_toArray, List.set_cons_zero, List.set_cons_succ]
                  with_reducible refine wl_yield (o := ⟨_, _, _, _, _, _⟩) undef (yl_undef (by kernel_rfl)) ?_
                  simp only [Act.put, List.setIfInBounds_toArray, List.set_cons_zero, List.set_cons_succ]
                  with_reducible refine wl_yield (o := ⟨_, _, _, _, _, _⟩) undef (yl_undef (by kernel_rfl)) ?_
                  simp only [Act.put, List.setIfInBounds_toArray, List.set_cons_zero, List.set_cons_succ]
                  refine wl_yield (o := ⟨_, _, _, _, _, _⟩) (.bool true) (yl_pickT (by rfl) _ _ _ rfl rfl _ rfl) ?_
                  simp only [Act.put, List.setIfInBounds_toArray, List.set_cons_zero, List.set_cons_succ]
                  refine wl_yield (o := ⟨_, _, _, _, _, _⟩) (.bool true) (yl_pickT (by rfl) _ _ _ rfl rfl _ rfl) ?_
                  simp only [Act.put, List.setIfInBounds_toArray, List.set_cons_zero, List.set_cons_succ]
                  refine wl_yield (o := ⟨_, _, _, _, _, _⟩) (.bool true) (yl_assign (by rfl) _ rfl _ rfl) ?_
                  simp only [Act.put, List.setIfInBounds_toArray, List.set_cons_zero, List.set_cons_succ]
                  refine wpList_nil ?_
                  refine hK11 _ _ ?_
                  clear hK11 K11
                  refine wp_ret ?_
                  go_ret
                  exact ⟨rfl, D⟩
        · refine ⟨.tuple #[.slice p2 l2.length c2, .int .i64 z2], rfl, ?_⟩
          simp only [Act.put, List.setIfInBounds_toArray, List.set_cons_zero, List.set_cons_succ]
          refine wl_yield (o := ⟨_, _, _, _, _, _⟩) (.tuple #[.slice p2 l2.length c2, .int .i64 z2]) (yl_move (by rfl) _ rfl _ rfl) ?_
          simp only [Act.put, List.setIfInBounds_toArray, List.set_cons_zero, List.set_cons_succ]
          refine wl_yield (o := ⟨_, _, _, _, _, _⟩) (.slice p2 l2.length c2) (yl_extract0 (by rfl) _ rfl _ _ rfl) ?_
          simp only [Act.put, List.setIfInBounds_toArray, List.set_cons_zero, List.set_cons_succ]
          refine wl_yield (o := ⟨_, _, _, _, _, _⟩) (.int .i64 z2) (yl_extract1 (by rfl) _ rfl _ _ rfl) ?_
          simp only [Act.put, List.setIfInBounds_toArray, List.set_cons_zero, List.set_cons_succ]
          refine wl_yield (o := ⟨_, _, _, _, _, _⟩) (.slice p2 l2.length c2) (yl_assign (by rfl) _ rfl _ rfl) ?_
          simp only [Act.put, List.setIfInBounds_toArray, List.set_cons_zero, List.set_cons_succ]
          refine wl_yield (o := ⟨_, _, _, _, _, _⟩) (.int .i64 z2) (yl_assign (by rfl) _ rfl _ rfl) ?_
          simp only [Act.put, List.setIfInBounds_toArray, List.set_cons_zero, List.set_cons_succ]
          refine wpList_nil ?_
          refine hK5 _ _ ?_
          clear hK5 K5
          refine wp_seq_k (fun K6 hK6 => ?_)
          refine wp_region_lit ?_
          refine wl_yield (o := ⟨_, _, _, _, _, _⟩) (EC.val c) (yl_ex (by rfl) _ rfl _ 0 rfl _ (fun _ h => by subst h; exact ExIn.ec HB)) ?_
          simp only [Act.put, List.setIfInBounds_toArray, List.set_cons_zero, List.set_cons_succ]
          refine wl_yield (o := ⟨_, _, _, _, _, _⟩) (EC.val d) (yl_ex (by rfl) _ rfl _ 0 rfl _ (fun _ h => by subst h; exact ExIn.ec HC)) ?_
          simp only [Act.put, List.setIfInBounds_toArray, List.set_cons_zero, List.set_cons_succ]
          refine wl_row2X (o := ⟨_, _, _, _, _, _⟩) (by rfl) _ _ rfl rfl rfl (few_cp hx hq).1 (few_cp hy hq2).1 (fun v9 pr5 HR5 kb => ?_)
          simp only [Act.put, List.setIfInBounds_toArray, List.set_cons_zero, List.set_cons_succ]
          replace D := D.trans (kb.mono D.size)
          replace hx := hx.on kb
          replace hy := hy.on kb
          replace HB := HB.on kb
          replace HC := HC.on kb
          replace HE := HE.on kb
          replace hb1 := hb1.on kb
          replace hb2 := hb2.on kb
          clear kb
          refine wl_call (o := ⟨_, _, _, _, _, _⟩) (by rfl) 28 _ _ rfl #[.slice pr5 2 2] rfl (run_call Tryz.func28 (by kernel_rfl) (by kernel_rfl)) ?_
          refine (c_or HR5 (by simp) (cp_two (few_cp hx hq).2 (few_cp hy hq2).2)).mono ?_
          rintro r v10 ⟨⟨o1, rfl, HO⟩, kb⟩
          replace D := D.trans (kb.mono D.size)
          replace hx := hx.on kb
          replace hy := hy.on kb
          replace HB := HB.on kb
          replace HC := HC.on kb
          replace HE := HE.on kb
          replace hb1 := hb1.on kb
          replace hb2 := hb2.on kb
          clear kb
          refine ⟨EC.val o1, rfl, ?_⟩
          simp only [Act.put, List.setIfInBounds_toArray, List.set_cons_zero, List.set_cons_succ]
          refine wl_call (o := ⟨_, _, _, _, _, _⟩) (by rfl) 12 _ _ rfl #[EC.val o1] rfl (run_call Tryz.func12 (by kernel_rfl) (by kernel_rfl)) ?_
          refine (dnfOf_has 20 _ (orX [x, y]) _ HO (by omega)).mono ?_
          rintro r v11 ⟨⟨l3, z3, p3, c3, rfl, hb3, fl3, hh3, hv3, ho3⟩, kb⟩
          replace D := D.trans (kb.mono D.size)
          replace hx := hx.on kb
          replace hy := hy.on kb
          replace HB := HB.on kb
          replace HC := HC.on kb
          replace HE := HE.on kb
          replace hb1 := hb1.on kb
          replace hb2 := hb2.on kb
          replace HO := HO.on kb
          clear kb
          by_cases hO : z3 = 0
          · refine ⟨.tuple #[.slice p3 l3.length c3, .int .i64 z3], rfl, ?_⟩
            simp only [Act.put, List.setIfInBounds_toArray, List.set_cons_zero, List.set_cons_succ]
            refine wl_yield (o := ⟨_, _, _, _, _, _⟩) (.tuple #[.slice p3 l3.length c3, .int .i64 z3]) (yl_move (by rfl) _ rfl _ rfl) ?_
            simp only [Act.put, List.setIfInBounds_toArray, List.set_cons_zero, List.set_cons_succ]
            refine wl_yield (o := ⟨_, _, _, _, _, _⟩) (.slice p3 l3.length c3) (yl_extract0 (by rfl) _ rfl _ _ rfl) ?_
            simp only [Act.put, List.setIfInBounds_toArray, List.set_cons_zero, List.set_cons_succ]
            refine wl_yield (o := ⟨_, _, _, _, _, _⟩) (.int .i64 z3) (yl_extract1 (by rfl) _ rfl _ _ rfl) ?_
            simp only [Act.put, List.setIfInBounds_toArray, List.set_cons_zero, List.set_cons_succ]
            refine wl_yield (o := ⟨_, _, _, _, _, _⟩) (.slice p3 l3.length c3) (yl_assign (by rfl) _ rfl _ rfl) ?_
            simp only [Act.put, List.setIfInBounds_toArray, List.set_cons_zero, List.set_cons_succ]
            refine wl_yield (o := ⟨_, _, _, _, _, _⟩) (.int .i64 z3) (yl_assign (by rfl) _ rfl _ rfl) ?_
            simp only [Act.put, List.setIfInBounds_toArray, List.set_cons_zero, List.set_cons_succ]
            refine wpList_nil ?_
            refine hK6 _ _ ?_
            clear hK6 K6
            refine wp_seq_k (fun K7 hK7 => ?_)
            refine wp_region_lit ?_
            refine wl_yield (o := ⟨_, _, _, _, _, _⟩) (EC.val c) (yl_ex (by rfl) _ rfl _ 0 rfl _ (fun _ h => by subst h; exact ExIn.ec HB)) ?_
            simp only [Act.put, List.setIfInBounds_toArray, List.set_cons_zero, List.set_cons_succ]
            refine wl_yield (o := ⟨_, _, _, _, _, _⟩) (EC.val d) (yl_ex (by rfl) _ rfl _ 0 rfl _ (fun _ h => by subst h; exact ExIn.ec HC)) ?_
            simp only [Act.put, List.setIfInBounds_toArray, List.set_cons_zero, List.set_cons_succ]
            refine wl_row2X (o := ⟨_, _, _, _, _, _⟩) (by rfl) _ _ rfl rfl rfl (few_cp hx hq).1 (few_cp hy hq2).1 (fun v12 pr6 HR6 kb => ?_)
            simp only [Act.put, List.setIfInBounds_toArray, List.set_cons_zero, List.set_cons_succ]
            replace D := D.trans (kb.mono D.size)
            replace hx := hx.on kb
            replace hy := hy.on kb
            replace HB := HB.on kb
            replace HC := HC.on kb
            replace HE := HE.on kb
            replace hb1 := hb1.on kb
            replace hb2 := hb2.on kb
            replace HO := HO.on kb
            replace hb3 := hb3.on kb
            clear kb
            refine wl_call (o := ⟨_, _, _, _, _, _⟩) (by rfl) 27 _ _ rfl #[.slice pr6 2 2] rfl (run_call Tryz.func27 (by kernel_rfl) (by kernel_rfl)) ?_
            refine (c_and HR6 (by simp) (cp_two (few_cp hx hq).2 (few_cp hy hq2).2)).mono ?_
            rintro r v13 ⟨⟨n1, rfl, HN⟩, kb⟩
            replace D := D.trans (kb.mono D.size)
            replace hx := hx.on kb
            replace hy := hy.on kb
            replace HB := HB.on kb
            replace HC := HC.on kb
            replace HE := HE.on kb
            replace hb1 := hb1.on kb
            replace hb2 := hb2.on kb
            replace HO := HO.on kb
            replace hb3 := hb3.on kb
            clear kb
            refine ⟨EC.val n1, rfl, ?_⟩
            simp only [Act.put, List.setIfInBounds_toArray, List.set_cons_zero, List.set_cons_succ]
            refine wl_call (o := ⟨_, _, _, _, _, _⟩) (by rfl) 12 _ _ rfl #[EC.val n1] rfl (run_call Tryz.func12 (by kernel_rfl) (by kernel_rfl)) ?_
            refine (dnfOf_has 20 _ (andX [x, y]) _ HN (by omega)).mono ?_
            rintro r v14 ⟨⟨l4, z4, p4, c4, rfl, hb4, fl4, hh4, hv4, ho4⟩, kb⟩
            replace D := D.trans (kb.mono D.size)
            replace hx := hx.on kb
            replace hy := hy.on kb
            replace HB := HB.on kb
            replace HC := HC.on kb
            replace HE := HE.on kb
            replace hb1 := hb1.on kb
            replace hb2 := hb2.on kb
            replace HO := HO.on kb
            replace hb3 := hb3.on kb
            replace HN := HN.on kb
            clear kb
            by_cases hN : z4 = 0
            · refine ⟨.tuple #[.slice p4 l4.length c4, .int .i64 z4], rfl, ?_⟩
              simp only [Act.put, List.setIfInBounds_toArray, List.set_cons_zero, List.set_cons_succ]
              refine wl_yield (o := ⟨_, _, _, _, _, _⟩) (.tuple #[.slice p4 l4.length c4, .int .i64 z4]) (yl_move (by rfl) _ rfl _ rfl) ?_
              simp only [Act.put, List.setIfInBounds_toArray, List.set_cons_zero, List.set_cons_succ]
              refine wl_yield (o := ⟨_, _, _, _, _, _⟩) (.slice p4 l4.length c4) (yl_extract0 (by rfl) _ rfl _ _ rfl) ?_
              simp only [Act.put, List.setIfInBounds_toArray, List.set_cons_zero, List.set_cons_succ]
              refine wl_yield (o := ⟨_, _, _, _, _, _⟩) (.int .i64 z4) (yl_extract1 (by rfl) _ rfl _ _ rfl) ?_
              simp only [Act.put, List.setIfInBounds_toArray, List.set_cons_zero, List.set_cons_succ]
              refine wl_yield (o := ⟨_, _, _, _, _, _⟩) (.slice p4 l4.length c4) (yl_assign (by rfl) _ rfl _ rfl) ?_
              simp only [Act.put, List.setIfInBounds_toArray, List.set_cons_zero, List.set_cons_succ]
              refine wl_yield (o := ⟨_, _, _, _, _, _⟩) (.int .i64 z4) (yl_assign (by rfl) _ rfl _ rfl) ?_
              simp only [Act.put, List.setIfInBounds_toArray, List.set_cons_zero, List.set_cons_succ]
              refine wpList_nil ?_
              refine hK7 _ _ ?_
              clear hK7 K7
              refine wp_seq_k (fun K8 hK8 => ?_)
              refine wp_seq_k (fun K9 hK9 => ?_)
              refine wp_region_lit ?_
              refine wl_yield (o := ⟨_, _, _, _, _, _⟩) (.int .i64 z1) (yl_move (by rfl) _ rfl _ rfl) ?_
              simp only [Act.put, List.setIfInBounds_toArray, List.set_cons_zero, List.set_cons_succ]
              refine wl_yield (o := ⟨_, _, _, _, _, _⟩) (.bool false) (yl_neqE (by rfl) _ _ _ rfl (z1) (0) false rfl rfl (decide_eq_false (fun h => h hA))) ?_
              simp only [Act.put, List.setIfInBounds_toArray, List.set_cons_zero, List.set_cons_succ]
              refine wl_yield (o := ⟨_, _, _, _, _, _⟩) (.bool false) (yl_move (by rfl) _ rfl _ rfl) ?_
              simp only [Act.put, List.setIfInBounds_toArray, List.set_cons_zero, List.set_cons_succ]
              refine wl_yield (o := ⟨_, _, _, _, _, _⟩) (.int .i64 z2) (yl_move (by rfl) _ rfl _ rfl) ?_
              simp only [Act.put, List.setIfInBounds_toArray, List.set_cons_zero, List.set_cons_succ]
              refine wl_yield (o := ⟨_, _, _, _, _, _⟩) (.bool true) (yl_neqE (by rfl) _ _ _ rfl (z2) (0) true rfl rfl (decide_eq_true hB)) ?_
              simp only [Act.put, List.setIfInBounds_toArray, List.set_cons_zero, List.set_cons_succ]
              refine wl_yield (o := ⟨_, _, _, _, _, _⟩) (.bool true) (yl_pickF (by rfl) _ _ _ rfl rfl _ rfl) ?_
              simp only [Act.put, List.setIfInBounds_toArray, List.set_cons_zero, List.set_cons_succ]
              refine wpList_nil ?_
              refine hK9 _ _ ?_
              clear hK9 K9
              refine wp_cond_true rfl ?_
              refine wp_seq_k (fun K10 hK10 => ?_)
              refine wp_region_lit ?_
              refine wl_yield (o := ⟨_, _, _, _, _, _⟩) (.bool true) (yl_assign (by rfl) _ rfl _ rfl) ?_
              simp only [Act.put, List.setIfInBounds_toArray, List.set_cons_zero, List.set_cons_succ]
              refine wpList_nil ?_
              refine hK10 _ _ ?_
              clear hK10 K10
              refine wp_ret ?_
              go_ret
              exact ⟨rfl, D⟩
            · refine ⟨.tuple #[.slice p4 l4.length c4, .int .i64 z4], rfl, ?_⟩
              simp only [Act.put, List.setIfInBounds_toArray, List.set_cons_zero, List.set_cons_succ]
              refine wl_yield (o := ⟨_, _, _, _, _, _⟩) (.tuple #[.slice p4 l4.length c4, .int .i64 z4]) (yl_move (by rfl) _ rfl _ rfl) ?_
              simp only [Act.put, List.setIfInBounds_toArray, List.set_cons_zero, List.set_cons_succ]
              refine wl_yield (o := ⟨_, _, _, _, _, _⟩) (.slice p4 l4.length c4) (yl_extract0 (by rfl) _ rfl _ _ rfl) ?_
              simp only [Act.put, List.setIfInBounds_toArray, List.set_cons_zero, List.set_cons_succ]
              refine wl_yield (o := ⟨_, _, _, _, _, _⟩) (.int .i64 z4) (yl_extract1 (by rfl) _ rfl _ _ rfl) ?_
              simp only [Act.put, List.setIfInBounds_toArray, List.set_cons_zero, List.set_cons_succ]
              refine wl_yield (o := ⟨_, _, _, _, _, _⟩) (.slice p4 l4.length c4) (yl_assign (by rfl) _ rfl _ rfl) ?_
              simp only [Act.put, List.setIfInBounds_toArray, List.set_cons_zero, List.set_cons_succ]
              refine wl_yield (o := ⟨_, _, _, _, _, _⟩) (.int .i64 z4) (yl_assign (by rfl) _ rfl _ rfl) ?_
              simp only [Act.put, List.setIfInBounds_toArray, List.set_cons_zero, List.set_cons_succ]
              refine wpList_nil ?_
              refine hK7 _ _ ?_
              clear hK7 K7
              refine wp_seq_k (fun K8 hK8 => ?_)
              refine wp_seq_k (fun K9 hK9 => ?_)
              refine wp_region_lit ?_
              refine wl_yield (o := ⟨_, _, _, _, _, _⟩) (.int .i64 z1) (yl_move (by rfl) _ rfl _ rfl) ?_
              simp only [Act.put, List.setIfInBounds_toArray, List.set_cons_zero, List.set_cons_succ]
              refine wl_yield (o := ⟨_, _, _, _, _, _⟩) (.bool false) (yl_neqE (by rfl) _ _ _ rfl (z1) (0) false rfl rfl (decide_eq_false (fun h => h hA))) ?_
              simp only [Act.put, List.setIfInBounds_toArray, List.set_cons_zero, List.set_cons_succ]
              refine wl_yield (o := ⟨_, _, _, _, _, _⟩) (.bool false) (yl_move (by rfl) _ rfl _ rfl) ?_
              simp only [Act.put, List.setIfInBounds_toArray, List.set_cons_zero, List.set_cons_succ]
              refine wl_yield (o := ⟨_, _, _, _, _, _⟩) (.int .i64 z2) (yl_move (by rfl) _ rfl _ rfl) ?_
              simp only [Act.put, List.setIfInBounds_toArray, List.set_cons_zero, List.set_cons_succ]
              refine wl_yield (o := ⟨_, _, _, _, _, _⟩) (.bool true) (yl_neqE (by rfl) _ _ _ rfl (z2) (0) true rfl rfl (decide_eq_true hB)) ?_
              simp only [Act.put, List.setIfInBounds_toArray, List.set_cons_zero, List.set_cons_succ]
              refine wl_yield (o := ⟨_, _, _, _, _, _⟩) (.bool true) (yl_pickF (by rfl) _ _ _ rfl rfl _ rfl) ?_
              simp only [Act.put, List.setIfInBounds_toArray, List.set_cons_zero, List.set_cons_succ]
              refine wpList_nil ?_
              refine hK9 _ _ ?_
              clear hK9 K9
              refine wp_cond_true rfl ?_
              refine wp_seq_k (fun K10 hK10 => ?_)
              refine wp_region_lit ?_
              refine wl_yield (o := ⟨_, _, _, _, _, _⟩) (.bool true) (yl_assign (by rfl) _ rfl _ rfl) ?_
              simp only [Act.put, List.setIfInBounds_toArray, List.set_cons_zero, List.set_cons_succ]
              refine wpList_nil ?_
              refine hK10 _ _ ?_
              clear hK10 K10
              refine wp_ret ?_
              go_ret
              exact ⟨rfl, D⟩
          · refine ⟨.tuple #[.slice p3 l3.length c3, .int .i64 z3], rfl, ?_⟩
            simp only [Act.put, List.setIfInBounds_toArray, List.set_cons_zero, List.set_cons_succ]
            refine wl_yield (o := ⟨_, _, _, _, _, _⟩) (.tuple #[.slice p3 l3.length c3, .int .i64 z3]) (yl_move (by rfl) _ rfl _ rfl) ?_
            simp only [Act.put, List.setIfInBounds_toArray, List.set_cons_zero, List.set_cons_succ]
            refine wl_yield (o := ⟨_, _, _, _, _, _⟩) (.slice p3 l3.length c3) (yl_extract0 (by rfl) _ rfl _ _ rfl) ?_
            simp only [Act.put, List.setIfInBounds_toArray, List.set_cons_zero, List.set_cons_succ]
            refine wl_yield (o := ⟨_, _, _, _, _, _⟩) (.int .i64 z3) (yl_extract1 (by rfl) _ rfl _ _ rfl) ?_
            simp only [Act.put, List.setIfInBounds_toArray, List.set_cons_zero, List.set_cons_succ]
            refine wl_yield (o := ⟨_, _, _, _, _, _⟩) (.slice p3 l3.length c3) (yl_assign (by rfl) _ rfl _ rfl) ?_
            simp only [Act.put, List.setIfInBounds_toArray, List.set_cons_zero, List.set_cons_succ]
            refine wl_yield (o := ⟨_, _, _, _, _, _⟩) (.int .i64 z3) (yl_assign (by rfl) _ rfl _ rfl) ?_
            simp only [Act.put, List.setIfInBounds_toArray, List.set_cons_zero, List.set_cons_succ]
            refine wpList_nil ?_
            refine hK6 _ _ ?_
            clear hK6 K6
            refine wp_seq_k (fun K7 hK7 => ?_)
            refine wp_region_lit ?_
            refine wl_yield (o := ⟨_, _, _, _, _, _⟩) (EC.val c) (yl_ex (by rfl) _ rfl _ 0 rfl _ (fun _ h => by subst h; exact ExIn.ec HB)) ?_
            simp only [Act.put, List.setIfInBounds_toArray, List.set_cons_zero, List.set_cons_succ]
            refine wl_yield (o := ⟨_, _, _, _, _, _⟩) (EC.val d) (yl_ex (by rfl) _ rfl _ 0 rfl _ (fun _ h => by subst h; exact ExIn.ec HC)) ?_
            simp only [Act.put, List.setIfInBounds_toArray, List.set_cons_zero, List.set_cons_succ]
            refine wl_row2X (o := ⟨_, _, _, _, _, _⟩) (by rfl) _ _ rfl rfl rfl (few_cp hx hq).1 (few_cp hy hq2).1 (fun v12 pr6 HR6 kb => ?_)
            simp only [Act.put, List.setIfInBounds_toArray, List.set_cons_zero, List.set_cons_succ]
            replace D := D.trans (kb.mono D.size)
            replace hx := hx.on kb
            replace hy := hy.on kb
            replace HB := HB.on kb
            replace HC := HC.on kb
            replace HE := HE.on kb
            replace hb1 := hb1.on kb
            replace hb2 := hb2.on kb
            replace HO := HO.on kb
            replace hb3 := hb3.on kb
            clear kb
            refine wl_call (o := ⟨_, _, _, _, _, _⟩) (by rfl) 27 _ _ rfl #[.slice pr6 2 2] rfl (run_call Tryz.func27 (by kernel_rfl) (by kernel_rfl)) ?_
            refine (c_and HR6 (by simp) (cp_two (few_cp hx hq).2 (few_cp hy hq2).2)).mono ?_
            rintro r v13 ⟨⟨n1, rfl, HN⟩, kb⟩
            replace D := D.trans (kb.mono D.size)
            replace hx := hx.on kb
            replace hy := hy.on kb
            replace HB := HB.on kb
            replace HC := HC.on kb
            replace HE := HE.on kb
            replace hb1 := hb1.on kb
            replace hb2 := hb2.on kb
            replace HO := HO.on kb
            replace hb3 := hb3.on kb
            clear kb
            refine ⟨EC.val n1, rfl, ?_⟩
            simp only [Act.put, List.setIfInBounds_toArray, List.set_cons_zero, List.set_cons_succ]
            refine wl_call (o := ⟨_, _, _, _, _, _⟩) (by rfl) 12 _ _ rfl #[EC.val n1] rfl (run_call Tryz.func12 (by kernel_rfl) (by kernel_rfl)) ?_
            refine (dnfOf_has 20 _ (andX [x, y]) _ HN (by omega)).mono ?_
            rintro r v14 ⟨⟨l4, z4, p4, c4, rfl, hb4, fl4, hh4, hv4, ho4⟩, kb⟩
            replace D := D.trans (kb.mono D.size)
            replace hx := hx.on kb
            replace hy := hy.on kb
            replace HB := HB.on kb
            replace HC := HC.on kb
            replace HE := HE.on kb
            replace hb1 := hb1.on kb
            replace hb2 := hb2.on kb
            replace HO := HO.on kb
            replace hb3 := hb3.on kb
            replace HN := HN.on kb
            clear kb
            by_cases hN : z4 = 0
            · refine ⟨.tuple #[.slice p4 l4.length c4, .int .i64 z4], rfl, ?_⟩
              simp only [Act.put, List.setIfInBounds_toArray, List.set_cons_zero, List.set_cons_succ]
              refine wl_yield (o := ⟨_, _, _, _, _, _⟩) (.tuple #[.slice p4 l4.length c4, .int .i64 z4]) (yl_move (by rfl) _ rfl _ rfl) ?_
              simp only [Act.put, List.setIfInBounds_toArray, List.set_cons_zero, List.set_cons_succ]
              refine wl_yield (o := ⟨_, _, _, _, _, _⟩) (.slice p4 l4.length c4) (yl_extract0 (by rfl) _ rfl _ _ rfl) ?_
              simp only [Act.put, List.setIfInBounds_toArray, List.set_cons_zero, List.set_cons_succ]
              refine wl_yield (o := ⟨_, _, _, _, _, _⟩) (.int .i64 z4) (yl_extract1 (by rfl) _ rfl _ _ rfl) ?_
              simp only [Act.put, List.setIfInBounds_toArray, List.set_cons_zero, List.set_cons_succ]
              refine wl_yield (o := ⟨_, _, _, _, _, _⟩) (.slice p4 l4.length c4) (yl_assign (by rfl) _ rfl _ rfl) ?_
              simp only [Act.put, List.setIfInBounds_toArray, List.set_cons_zero, List.set_cons_succ]
              refine wl_yield (o := ⟨_, _, _, _, _, _⟩) (.int .i64 z4) (yl_assign (by rfl) _ rfl _ rfl) ?_
              simp only [Act.put, List.setIfInBounds_toArray, List.set_cons_zero, List.set_cons_succ]
              refine wpList_nil ?_
              refine hK7 _ _ ?_
              clear hK7 K7
              refine wp_seq_k (fun K8 hK8 => ?_)
              refine wp_seq_k (fun K9 hK9 => ?_)
              refine wp_region_lit ?_
              refine wl_yield (o := ⟨_, _, _, _, _, _⟩) (.int .i64 z1) (yl_move (by rfl) _ rfl _ rfl) ?_
              simp only [Act.put, List.setIfInBounds_toArray, List.set_cons_zero, List.set_cons_succ]
              refine wl_yield (o := ⟨_, _, _, _, _, _⟩) (.bool false) (yl_neqE (by rfl) _ _ _ rfl (z1) (0) false rfl rfl (decide_eq_false (fun h => h hA))) ?_
              simp only [Act.put, List.setIfInBounds_toArray, List.set_cons_zero, List.set_cons_succ]
              refine wl_yield (o := ⟨_, _, _, _, _, _⟩) (.bool false) (yl_move (by rfl) _ rfl _ rfl) ?_
              simp only [Act.put, List.setIfInBounds_toArray, List.set_cons_zero, List.set_cons_succ]
              refine wl_yield (o := ⟨_, _, _, _, _, _⟩) (.int .i64 z2) (yl_move (by rfl) _ rfl _ rfl) ?_
              simp only [Act.put, List.setIfInBounds_toArray, List.set_cons_zero, List.set_cons_succ]
              refine wl_yield (o := ⟨_, _, _, _, _, _⟩) (.bool true) (yl_neqE (by rfl) _ _ _ rfl (z2) (0) true rfl rfl (decide_eq_true hB)) ?_
              simp only [Act.put, List.setIfInBounds_toArray, List.set_cons_zero, List.set_cons_succ]
              refine wl_yield (o := ⟨_, _, _, _, _, _⟩) (.bool true) (yl_pickF (by rfl) _ _ _ rfl rfl _ rfl) ?_
              simp only [Act.put, List.setIfInBounds_toArray, List.set_cons_zero, List.set_cons_succ]
              refine wpList_nil ?_
              refine hK9 _ _ ?_
              clear hK9 K9
              refine wp_cond_true rfl ?_
              refine wp_seq_k (fun K10 hK10 => ?_)
              refine wp_region_lit ?_
              refine wl_yield (o := ⟨_, _, _, _, _, _⟩) (.bool true) (yl_assign (by rfl) _ rfl _ rfl) ?_
              simp only [Act.put, List.setIfInBounds_toArray, List.set_cons_zero, List.set_cons_succ]
              refine wpList_nil ?_
              refine hK10 _ _ ?_
              clear hK10 K10
              refine wp_ret ?_
              go_ret
              exact ⟨rfl, D⟩
            · refine ⟨.tuple #[.slice p4 l4.length c4, .int .i64 z4], rfl, ?_⟩
              simp only [Act.put, List.setIfInBounds_toArray, List.set_cons_zero, List.set_cons_succ]
              refine wl_yield (o := ⟨_, _, _, _, _, _⟩) (.tuple #[.slice p4 l4.length c4, .int .i64 z4]) (yl_move (by rfl) _ rfl _ rfl) ?_
              simp only [Act.put, List.setIfInBounds_toArray, List.set_cons_zero, List.set_cons_succ]
              refine wl_yield (o := ⟨_, _, _, _, _, _⟩) (.slice p4 l4.length c4) (yl_extract0 (by rfl) _ rfl _ _ rfl) ?_
              simp only [Act.put, List.setIfInBounds_toArray, List.set_cons_zero, List.set_cons_succ]
              refine wl_yield (o := ⟨_, _, _, _, _, _⟩) (.int .i64 z4) (yl_extract1 (by rfl) _ rfl _ _ rfl) ?_
              simp only [Act.put, List.setIfInBounds_toArray, List.set_cons_zero, List.set_cons_succ]
              refine wl_yield (o := ⟨_, _, _, _, _, _⟩) (.slice p4 l4.length c4) (yl_assign (by rfl) _ rfl _ rfl) ?_
              simp only [Act.put, List.setIfInBounds_toArray, List.set_cons_zero, List.set_cons_succ]
              refine wl_yield (o := ⟨_, _, _, _, _, _⟩) (.int .i64 z4) (yl_assign (by rfl) _ rfl _ rfl) ?_
              simp only [Act.put, List.setIfInBounds_toArray, List.set_cons_zero, List.set_cons_succ]
              refine wpList_nil ?_
              refine hK7 _ _ ?_
              clear hK7 K7
              refine wp_seq_k (fun K8 hK8 => ?_)
              refine wp_seq_k (fun K9 hK9 => ?_)
              refine wp_region_lit ?_
              refine wl_yield (o := ⟨_, _, _, _, _, _⟩) (.int .i64 z1) (yl_move (by rfl) _ rfl _ rfl) ?_
              simp only [Act.put, List.setIfInBounds_toArray, List.set_cons_zero, List.set_cons_succ]
              refine wl_yield (o := ⟨_, _, _, _, _, _⟩) (.bool false) (yl_neqE (by rfl) _ _ _ rfl (z1) (0) false rfl rfl (decide_eq_false (fun h => h hA))) ?_
              simp only [Act.put, List.setIfInBounds_toArray, List.set_cons_zero, List.set_cons_succ]
              refine wl_yield (o := ⟨_, _, _, _, _, _⟩) (.bool false) (yl_move (by rfl) _ rfl _ rfl) ?_
              simp only [Act.put, List.setIfInBounds_toArray, List.set_cons_zero, List.set_cons_succ]
              refine wl_yield (o := ⟨_, _, _, _, _, _⟩) (.int .i64 z2) (yl_move (by rfl) _ rfl _ rfl) ?_
              simp only [Act.put, List.setIfInBounds_toArray, List.set_cons_zero, List.set_cons_succ]
              refine wl_yield (o := ⟨_, _, _, _, _, _⟩) (.bool true) (yl_neqE (by rfl) _ _ _ rfl (z2) (0) true rfl rfl (decide_eq_true hB)) ?_
              simp only [Act.put, List.setIfInBounds_toArray, List.set_cons_zero, List.set_cons_succ]
              refine wl_yield (o := ⟨_, _, _, _, _, _⟩) (.bool true) (yl_pickF (by rfl) _ _ _ rfl rfl _ rfl) ?_
              simp only [Act.put, List.setIfInBounds_toArray, List.set_cons_zero, List.set_cons_succ]
              refine wpList_nil ?_
              refine hK9 _ _ ?_
              clear hK9 K9
              refine wp_cond_true rfl ?_
              refine wp_seq_k (fun K10 hK10 => ?_)
              refine wp_region_lit ?_
              refine wl_yield (o := ⟨_, _, _, _, _, _⟩) (.bool true) (yl_assign (by rfl) _ rfl _ rfl) ?_
              simp only [Act.put, List.setIfInBounds_toArray, List.set_cons_zero, List.set_cons_succ]
              refine wpList_nil ?_
              refine hK10 _ _ ?_
              clear hK10 K10
              refine wp_ret ?_
              go_ret
              exact ⟨rfl, D⟩
      · refine ⟨.tuple #[.slice p1 l1.length c1, .int .i64 z1], rfl, ?_⟩
        simp only [Act.put, List.setIfInBounds_toArray, List.set_cons_zero, List.set_cons_succ]
        refine wl_yield (o := ⟨_, _, _, _, _, _⟩) (.tuple #[.slice p1 l1.length c1, .int .i64 z1]) (yl_move (by rfl) _ rfl _ rfl) ?_
        simp only [Act.put, List.setIfInBounds_toArray, List.set_cons_zero, List.set_cons_succ]
        refine wl_yield (o := ⟨_, _, _, _, _, _⟩) (.slice p1 l1.length c1) (yl_extract0 (by rfl) _ rfl _ _ rfl) ?_
        simp only [Act.put, List.setIfInBounds_toArray, List.set_cons_zero, List.set_cons_succ]
        refine wl_yield (o := ⟨_, _, _, _, _, _⟩) (.int .i64 z1) (yl_extract1 (by rfl) _ rfl _ _ rfl) ?_
        simp only [Act.put, List.setIfInBounds_toArray, List.set_cons_zero, List.set_cons_succ]
        refine wl_yield (o := ⟨_, _, _, _, _, _⟩) (.slice p1 l1.length c1) (yl_assign (by rfl) _ rfl _ rfl) ?_
        simp only [Act.put, List.setIfInBounds_toArray, List.set_cons_zero, List.set_cons_succ]
        refine wl_yield (o := ⟨_, _, _, _, _, _⟩) (.int .i64 z1) (yl_assign (by rfl) _ rfl _ rfl) ?_
        simp only [Act.put, List.setIfInBounds_toArray, List.set_cons_zero, List.set_cons_succ]
        refine wpList_nil ?_
        refine hK4 _ _ ?_
        clear hK4 K4
        refine wp_seq_k (fun K5 hK5 => ?_)
        refine wp_region_lit ?_
        refine wl_yield (o := ⟨_, _, _, _, _, _⟩) (EC.val d) (yl_ex (by rfl) _ rfl _ 0 rfl _ (fun _ h => by subst h; exact ExIn.ec HC)) ?_
        simp only [Act.put, List.setIfInBounds_toArray, List.set_cons_zero, List.set_cons_succ]
        refine wl_call (o := ⟨_, _, _, _, _, _⟩) (by rfl) 12 _ _ rfl #[EC.val d] rfl (run_call Tryz.func12 (by kernel_rfl) (by kernel_rfl)) ?_
        refine (dnfOf_has 19 _ y _ (few_cp hy hq2).1 (by omega)).mono ?_
        rintro r v8 ⟨⟨l2, z2, p2, c2, rfl, hb2, fl2, hh2, hv2, ho2⟩, kb⟩
        replace D := D.trans (kb.mono D.size)
        replace hx := hx.on kb
        replace hy := hy.on kb
        replace HB := HB.on kb
        replace HC := HC.on kb
        replace HE := HE.on kb
        replace hb1 := hb1.on kb
        clear kb
        by_cases hB : z2 = 0
        · refine ⟨.tuple #[.slice p2 l2.length c2, .int .i64 z2], rfl, ?_⟩
          simp only [Act.put, List.setIfInBounds_toArray, List.set_cons_zero, List.set_cons_succ]
          refine wl_yield (o := ⟨_, _, _, _, _, _⟩) (.tuple #[.slice p2 l2.length c2, .int .i64 z2]) (yl_move (by rfl) _ rfl _ rfl) ?_
          simp only [Act.put, List.setIfInBounds_toArray, List.set_cons_zero, List.set_cons_succ]
          refine wl_yield (o := ⟨_, _, _, _, _, _⟩) (.slice p2 l2.length c2) (yl_extract0 (by rfl) _ rfl _ _ rfl) ?_
          simp only [Act.put, List.setIfInBounds_toArray, List.set_cons_zero, List.set_cons_succ]
          refine wl_yield (o := ⟨_, _, _, _, _, _⟩) (.int .i64 z2) (yl_extract1 (by rfl) _ rfl _ _ rfl) ?_
          simp only [Act.put, List.setIfInBounds_toArray, List.set_cons_zero, List.set_cons_succ]
          refine wl_yield (o := ⟨_, _, _, _, _, _⟩) (.slice p2 l2.length c2) (yl_assign (by rfl) _ rfl _ rfl) ?_
          simp only [Act.put, List.setIfInBounds_toArray, List.set_cons_zero, List.set_cons_succ]
          refine wl_yield (o := ⟨_, _, _, _, _, _⟩) (.int .i64 z2) (yl_assign (by rfl) _ rfl _ rfl) ?_
          simp only [Act.put, List.setIfInBounds_toArray, List.set_cons_zero, List.set_cons_succ]
          refine wpList_nil ?_
          refine hK5 _ _ ?_
          clear hK5 K5
          refine wp_seq_k (fun K6 hK6 => ?_)
          refine wp_region_lit ?_
          refine wl_yield (o := ⟨_, _, _, _, _, _⟩) (EC.val c) (yl_ex (by rfl) _ rfl _ 0 rfl _ (fun _ h => by subst h; exact ExIn.ec HB)) ?_
          simp only [Act.put, List.setIfInBounds_toArray, List.set_cons_zero, List.set_cons_succ]
          refine wl_yield (o := ⟨_, _, _, _, _, _⟩) (EC.val d) (yl_ex (by rfl) _ rfl _ 0 rfl _ (fun _ h => by subst h; exact ExIn.ec HC)) ?_
          simp only [Act.put, List.setIfInBounds_toArray, List.set_cons_zero, List.set_cons_succ]
          refine wl_row2X (o := ⟨_, _, _, _, _, _⟩) (by rfl) _ _ rfl rfl rfl (few_cp hx hq).1 (few_cp hy hq2).1 (fun v9 pr5 HR5 kb => ?_)
          simp only [Act.put, List.setIfInBounds_toArray, List.set_cons_zero, List.set_cons_succ]
          replace D := D.trans (kb.mono D.size)
          replace hx := hx.on kb
          replace hy := hy.on kb
          replace HB := HB.on kb
          replace HC := HC.on kb
          replace HE := HE.on kb
          replace hb1 := hb1.on kb
          replace hb2 := hb2.on kb
          clear kb
          refine wl_call (o := ⟨_, _, _, _, _, _⟩) (by rfl) 28 _ _ rfl #[.slice pr5 2 2] rfl (run_call Tryz.func28 (by kernel_rfl) (by kernel_rfl)) ?_
          refine (c_or HR5 (by simp) (cp_two (few_cp hx hq).2 (few_cp hy hq2).2)).mono ?_
          rintro r v10 ⟨⟨o1, rfl, HO⟩, kb⟩
          replace D := D.trans (kb.mono D.size)
          replace hx := hx.on kb
          replace hy := hy.on kb
          replace HB := HB.on kb
          replace HC := HC.on kb
          replace HE := HE.on kb
          replace hb1 := hb1.on kb
          replace hb2 := hb2.on kb
          clear kb
          refine ⟨EC.val o1, rfl, ?_⟩
          simp only [Act.put, List.setIfInBounds_toArray, List.set_cons_zero, List.set_cons_succ]
          refine wl_call (o := ⟨_, _, _, _, _, _⟩) (by rfl) 12 _ _ rfl #[EC.val o1] rfl (run_call Tryz.func12 (by kernel_rfl) (by kernel_rfl)) ?_
          refine (dnfOf_has 20 _ (orX [x, y]) _ HO (by omega)).mono ?_
          rintro r v11 ⟨⟨l3, z3, p3, c3, rfl, hb3, fl3, hh3, hv3, ho3⟩, kb⟩
          replace D := D.trans (kb.mono D.size)
          replace hx := hx.on kb
          replace hy := hy.on kb
          replace HB := HB.on kb
          replace HC := HC.on kb
          replace HE := HE.on kb
          replace hb1 := hb1.on kb
          replace hb2 := hb2.on kb
          replace HO := HO.on kb
          clear kb
          by_cases hO : z3 = 0
          · refine ⟨.tuple #[.slice p3 l3.length c3, .int .i64 z3], rfl, ?_⟩
            simp only [Act.put, List.setIfInBounds_toArray, List.set_cons_zero, List.set_cons_succ]
            refine wl_yield (o := ⟨_, _, _, _, _, _⟩) (.tuple #[.slice p3 l3.length c3, .int .i64 z3]) (yl_move (by rfl) _ rfl _ rfl) ?_
            simp only [Act.put, List.setIfInBounds_toArray, List.set_cons_zero, List.set_cons_succ]
            refine wl_yield (o := ⟨_, _, _, _, _, _⟩) (.slice p3 l3.length c3) (yl_extract0 (by rfl) _ rfl _ _ rfl) ?_
            simp only [Act.put, List.setIfInBounds_toArray, List.set_cons_zero, List.set_cons_succ]
            refine wl_yield (o := ⟨_, _, _, _, _, _⟩) (.int .i64 z3) (yl_extract1 (by rfl) _ rfl _ _ rfl) ?_
            simp only [Act.put, List.setIfInBounds_toArray, List.set_cons_zero, List.set_cons_succ]
            refine wl_yield (o := ⟨_, _, _, _, _, _⟩) (.slice p3 l3.length c3) (yl_assign (by rfl) _ rfl _ rfl) ?_
            simp only [Act.put, List.setIfInBounds_toArray, List.set_cons_zero, List.set_cons_succ]
            refine wl_yield (o := ⟨_, _, _, _, _, _⟩) (.int .i64 z3) (yl_assign (by rfl) _ rfl _ rfl) ?_
            simp only [Act.put, List.setIfInBounds_toArray, List.set_cons_zero, List.set_cons_succ]
            refine wpList_nil ?_
            refine hK6 _ _ ?_
            clear hK6 K6
            refine wp_seq_k (fun K7 hK7 => ?_)
            refine wp_region_lit ?_
            refine wl_yield (o := ⟨_, _, _, _, _, _⟩) (EC.val c) (yl_ex (by rfl) _ rfl _ 0 rfl _ (fun _ h => by subst h; exact ExIn.ec HB)) ?_
            simp only [Act.put, List.setIfInBounds_toArray, List.set_cons_zero, List.set_cons_succ]
            refine wl_yield (o := ⟨_, _, _, _, _, _⟩) (EC.val d) (yl_ex (by rfl) _ rfl _ 0 rfl _ (fun _ h => by subst h; exact ExIn.ec HC)) ?_
            simp only [Act.put, List.setIfInBounds_toArray, List.set_cons_zero, List.set_cons_succ]
            refine wl_row2X (o := ⟨_, _, _, _, _, _⟩) (by rfl) _ _ rfl rfl rfl (few_cp hx hq).1 (few_cp hy hq2).1 (fun v12 pr6 HR6 kb => ?_)
            simp only [Act.put, List.setIfInBounds_toArray, List.set_cons_zero, List.set_cons_succ]
            replace D := D.trans (kb.mono D.size)
            replace hx := hx.on kb
            replace hy := hy.on kb
            replace HB := HB.on kb
            replace HC := HC.on kb
            replace HE := HE.on kb
            replace hb1 := hb1.on kb
            replace hb2 := hb2.on kb
            replace HO := HO.on kb
            replace hb3 := hb3.on kb
            clear kb
            refine wl_call (o := ⟨_, _, _, _, _, _⟩) (by rfl) 27 _ _ rfl #[.slice pr6 2 2] rfl (run_call Tryz.func27 (by kernel_rfl) (by kernel_rfl)) ?_
            refine (c_and HR6 (by simp) (cp_two (few_cp hx hq).2 (few_cp hy hq2).2)).mono ?_
            rintro r v13 ⟨⟨n1, rfl, HN⟩, kb⟩
            replace D := D.trans (kb.mono D.size)
            replace hx := hx.on kb
            replace hy := hy.on kb
            replace HB := HB.on kb
            replace HC := HC.on kb
            replace HE := HE.on kb
            replace hb1 := hb1.on kb
            replace hb2 := hb2.on kb
            replace HO := HO.on kb
            replace hb3 := hb3.on kb
            clear kb
            refine ⟨EC.val n1, rfl, ?_⟩
            simp only [Act.put, List.setIfInBounds_toArray, List.set_cons_zero, List.set_cons_succ]
            refine wl_call (o := ⟨_, _, _, _, _, _⟩) (by rfl) 12 _ _ rfl #[EC.val n1] rfl (run_call Tryz.func12 (by kernel_rfl) (by kernel_rfl)) ?_
            refine (dnfOf_has 20 _ (andX [x, y]) _ HN (by omega)).mono ?_
            rintro r v14 ⟨⟨l4, z4, p4, c4, rfl, hb4, fl4, hh4, hv4, ho4⟩, kb⟩
            replace D := D.trans (kb.mono D.size)
            replace hx := hx.on kb
            replace hy := hy.on kb
            replace HB := HB.on kb
            replace HC := HC.on kb
            replace HE := HE.on kb
            replace hb1 := hb1.on kb
            replace hb2 := hb2.on kb
            replace HO := HO.on kb
            replace hb3 := hb3.on kb
            replace HN := HN.on kb
            clear kb
            by_cases hN : z4 = 0
            · refine ⟨.tuple #[.slice p4 l4.length c4, .int .i64 z4], rfl, ?_⟩
              simp only [Act.put, List.setIfInBounds_toArray, List.set_cons_zero, List.set_cons_succ]
              refine wl_yield (o := ⟨_, _, _, _, _, _⟩) (.tuple #[.slice p4 l4.length c4, .int .i64 z4]) (yl_move (by rfl) _ rfl _ rfl) ?_
              simp only [Act.put, List.setIfInBounds_toArray, List.set_cons_zero, List.set_cons_succ]
              refine wl_yield (o := ⟨_, _, _, _, _, _⟩) (.slice p4 l4.length c4) (yl_extract0 (by rfl) _ rfl _ _ rfl) ?_
              simp only [Act.put, List.setIfInBounds_toArray, List.set_cons_zero, List.set_cons_succ]
              refine wl_yield (o := ⟨_, _, _, _, _, _⟩) (.int .i64 z4) (yl_extract1 (by rfl) _ rfl _ _ rfl) ?_
              simp only [Act.put, List.setIfInBounds_toArray, List.set_cons_zero, List.set_cons_succ]
              refine wl_yield (o := ⟨_, _, _, _, _, _⟩) (.slice p4 l4.length c4) (yl_assign (by rfl) _ rfl _ rfl) ?_
              simp only [Act.put, List.setIfInBounds_toArray, List.set_cons_zero, List.set_cons_succ]
              refine wl_yield (o := ⟨_, _, _, _, _, _⟩) (.int .i64 z4) (yl_assign (by rfl) _ rfl _ rfl) ?_
              simp only [Act.put, List.setIfInBounds_toArray, List.set_cons_zero, List.set_cons_succ]
              refine wpList_nil ?_
              refine hK7 _ _ ?_
              clear hK7 K7
              refine wp_seq_k (fun K8 hK8 => ?_)
              refine wp_seq_k (fun K9 hK9 => ?_)
              refine wp_region_lit ?_
              refine wl_yield (o := ⟨_, _, _, _, _, _⟩) (.int .i64 z1) (yl_move (by rfl) _ rfl _ rfl) ?_
              simp only [Act.put, List.setIfInBounds_toArray, List.set_cons_zero, List.set_cons_succ]
              refine wl_yield (o := ⟨_, _, _, _, _, _⟩) (.bool true) (yl_neqE (by rfl) _ _ _ rfl (z1) (0) true rfl rfl (decide_eq_true hA)) ?_
              simp only [Act.put, List.setIfInBounds_toArray, List.set_cons_zero, List.set_cons_succ]
              refine wl_yield (o := ⟨_, _, _, _, _, _⟩) (.bool true) (yl_move (by rfl) _ rfl _ rfl) ?_
              simp only [Act.put, List.setIfInBounds_toArray, List.set_cons_zero, List.set_cons_succ]
              with_reducible refine wl_yield (o := ⟨_, _, _, _, _, _⟩) undef (yl_undef (by kernel_rfl)) ?_
              simp only [Act.put, List.setIfInBounds_toArray, List.set_cons_zero, List.set_cons_succ]
              with_reducible refine wl_yield (o := ⟨_, _, _, _, _, _⟩) undef (yl_undef (by kernel_rfl)) ?_
              simp only [Act.put, List.setIfInBounds_toArray, List.set_cons_zero, List.set_cons_succ]
              refine wl_yield (o := ⟨_, _, _, _, _, _⟩) (.bool true) (yl_pickT (by rfl) _ _ _ rfl rfl _ rfl) ?_
              simp only [Act.put, List.setIfInBounds_toArray, List.set_cons_zero, List.set_cons_succ]
              refine wpList_nil ?_
              refine hK9 _ _ ?_
              clear hK9 K9
              refine wp_cond_true rfl ?_
              refine wp_seq_k (fun K10 hK10 => ?_)
              refine wp_region_lit ?_
              refine wl_yield (o := ⟨_, _, _, _, _, _⟩) (.bool true) (yl_assign (by rfl) _ rfl _ rfl) ?_
              simp only [Act.put, List.setIfInBounds_toArray, List.set_cons_zero, List.set_cons_succ]
              refine wpList_nil ?_
              refine hK10 _ _ ?_
              clear hK10 K10
              refine wp_ret ?_
              go_ret
              exact ⟨rfl, D⟩
            · refine ⟨.tuple #[.slice p4 l4.length c4, .int .i64 z4], rfl, ?_⟩
              simp only [Act.put, List.setIfInBounds_toArray, List.set_cons_zero, List.set_cons_succ]
              refine wl_yield (o := ⟨_, _, _, _, _, _⟩) (.tuple #[.slice p4 l4.length c4, .int .i64 z4]) (yl_move (by rfl) _ rfl _ rfl) ?_
              simp only [Act.put, List.setIfInBounds_toArray, List.set_cons_zero, List.set_cons_succ]
              refine wl_yield (o := ⟨_, _, _, _, _, _⟩) (.slice p4 l4.length c4) (yl_extract0 (by rfl) _ rfl _ _ rfl) ?_
              simp only [Act.put, List.setIfInBounds_toArray, List.set_cons_zero, List.set_cons_succ]
              refine wl_yield (o := ⟨_, _, _, _, _, _⟩) (.int .i64 z4) (yl_extract1 (by rfl) _ rfl _ _ rfl) ?_
              simp only [Act.put, List.setIfInBounds_toArray, List.set_cons_zero, List.set_cons_succ]
              refine wl_yield (o := ⟨_, _, _, _, _, _⟩) (.slice p4 l4.length c4) (yl_assign (by rfl) _ rfl _ rfl) ?_
              simp only [Act.put, List.setIfInBounds_toArray, List.set_cons_zero, List.set_cons_succ]
              refine wl_yield (o := ⟨_, _, _, _, _, _⟩) (.int .i64 z4) (yl_assign (by rfl) _ rfl _ rfl) ?_
              simp only [Act.put, List.setIfInBounds_toArray, List.set_cons_zero, List.set_cons_succ]
              refine wpList_nil ?_
              refine hK7 _ _ ?_
              clear hK7 K7
              refine wp_seq_k (fun K8 hK8 => ?_)
              refine wp_seq_k (fun K9 hK9 => ?_)
              refine wp_region_lit ?_
              refine wl_yield (o := ⟨_, _, _, _, _, _⟩) (.int .i64 z1) (yl_move (by rfl) _ rfl _ rfl) ?_
              simp only [Act.put, List.setIfInBounds_toArray, List.set_cons_zero, List.set_cons_succ]
              refine wl_yield (o := ⟨_, _, _, _, _, _⟩) (.bool true) (yl_neqE (by rfl) _ _ _ rfl (z1) (0) true rfl rfl (decide_eq_true hA)) ?_
              simp only [Act.put, List.setIfInBounds_toArray, List.set_cons_zero, List.set_cons_succ]
              refine wl_yield (o := ⟨_, _, _, _, _, _⟩) (.bool true) (yl_move (by rfl) _ rfl _ rfl) ?_
              simp only [Act.put, List.setIfInBounds_toArray, List.set_cons_zero, List.set_cons_succ]
              with_reducible refine wl_yield (o := ⟨_, _, _, _, _, _⟩) undef (yl_undef (by kernel_rfl)) ?_
              simp only [Act.put, List.setIfInBounds_toArray, List.set_cons_zero, List.set_cons_succ]
              with_reducible refine wl_yield (o := ⟨_, _, _, _, _, _⟩) undef (yl_undef (by kernel_rfl)) ?_
              simp only [Act.put, List.setIfInBounds_toArray, List.set_cons_zero, List.set_cons_succ]
              refine wl_yield (o := ⟨_, _, _, _, _, _⟩) (.bool true) (yl_pickT (by rfl) _ _ _ rfl rfl _ rfl) ?_
              simp only [Act.put, List.setIfInBounds_toArray, List.set_cons_zero, List.set_cons_succ]
              refine wpList_nil ?_
              refine hK9 _ _ ?_
              clear hK9 K9
              refine wp_cond_true rfl ?_
              refine wp_seq_k (fun K10 hK10 => ?_)
              refine wp_region_lit ?_
              refine wl_yield (o := ⟨_, _, _, _, _, _⟩) (.bool true) (yl_assign (by rfl) _ rfl _ rfl) ?_
              simp only [Act.put, List.setIfInBounds_toArray, List.set_cons_zero, List.set_cons_succ]
              refine wpList_nil ?_
              refine hK10 _ _ ?_
              clear hK10 K10
              refine wp_ret ?_
              go_ret
              exact ⟨rfl, D⟩
          · refine ⟨.tuple #[.slice p3 l3.length c3, .int .i64 z3], rfl, ?_⟩
            simp only [Act.put, List.setIfInBounds_toArray, List.set_cons_zero, List.set_cons_succ]
            refine wl_yield (o := ⟨_, _, _, _, _, _⟩) (.tuple #[.slice p3 l3.length c3, .int .i64 z3]) (yl_move (by rfl) _ rfl _ rfl) ?_
            simp only [Act.put, List.setIfInBounds_toArray, List.set_cons_zero, List.set_cons_succ]
            refine wl_yield (o := ⟨_, _, _, _, _, _⟩) (.slice p3 l3.length c3) (yl_extract0 (by rfl) _ rfl _ _ rfl) ?_
            simp only [Act.put, List.setIfInBounds_toArray, List.set_cons_zero, List.set_cons_succ]
            refine wl_yield (o := ⟨_, _, _, _, _, _⟩) (.int .i64 z3) (yl_extract1 (by rfl) _ rfl _ _ rfl) ?_
            simp only [Act.put, List.setIfInBounds_toArray, List.set_cons_zero, List.set_cons_succ]
            refine wl_yield (o := ⟨_, _, _, _, _, _⟩) (.slice p3 l3.length c3) (yl_assign (by rfl) _ rfl _ rfl) ?_
            simp only [Act.put, List.setIfInBounds_toArray, List.set_cons_zero, List.set_cons_succ]
            refine wl_yield (o := ⟨_, _, _, _, _, _⟩) (.int .i64 z3) (yl_assign (by rfl) _ rfl _ rfl) ?_
            simp only [Act.put, List.setIfInBounds_toArray, List.set_cons_zero, List.set_cons_succ]
            refine wpList_nil ?_
            refine hK6 _ _ ?_
            clear hK6 K6
            refine wp_seq_k (fun K7 hK7 => ?_)
            refine wp_region_lit ?_
            refine wl_yield (o := ⟨_, _, _, _, _, _⟩) (EC.val c) (yl_ex (by rfl) _ rfl _ 0 rfl _ (fun _ h => by subst h; exact ExIn.ec HB)) ?_
            simp only [Act.put, List.setIfInBounds_toArray, List.set_cons_zero, List.set_cons_succ]
            refine wl_yield (o := ⟨_, _, _, _, _, _⟩) (EC.val d) (yl_ex (by rfl) _ rfl _ 0 rfl _ (fun _ h => by subst h; exact ExIn.ec HC)) ?_
            simp only [Act.put, List.setIfInBounds_toArray, List.set_cons_zero, List.set_cons_succ]
            refine wl_row2X (o := ⟨_, _, _, _, _, _⟩) (by rfl) _ _ rfl rfl rfl (few_cp hx hq).1 (few_cp hy hq2).1 (fun v12 pr6 HR6 kb => ?_)
            simp only [Act.put, List.setIfInBounds_toArray, List.set_cons_zero, List.set_cons_succ]
            replace D := D.trans (kb.mono D.size)
            replace hx := hx.on kb
            replace hy := hy.on kb
            replace HB := HB.on kb
            replace HC := HC.on kb
            replace HE := HE.on kb
            replace hb1 := hb1.on kb
            replace hb2 := hb2.on kb
            replace HO := HO.on kb
            replace hb3 := hb3.on kb
            clear kb
            refine wl_call (o := ⟨_, _, _, _, _, _⟩) (by rfl) 27 _ _ rfl #[.slice pr6 2 2] rfl (run_call Tryz.func27 (by kernel_rfl) (by kernel_rfl)) ?_
            refine (c_and HR6 (by simp) (cp_two (few_cp hx hq).2 (few_cp hy hq2).2)).mono ?_
            rintro r v13 ⟨⟨n1, rfl, HN⟩, kb⟩
            replace D := D.trans (kb.mono D.size)
            replace hx := hx.on kb
            replace hy := hy.on kb
            replace HB := HB.on kb
            replace HC := HC.on kb
            replace HE := HE.on kb
            replace hb1 := hb1.on kb
            replace hb2 := hb2.on kb
            replace HO := HO.on kb
            replace hb3 := hb3.on kb
            clear kb
            refine ⟨EC.val n1, rfl, ?_⟩
            simp only [Act.put, List.setIfInBounds_toArray, List.set_cons_zero, List.set_cons_succ]
            refine wl_call (o := ⟨_, _, _, _, _, _⟩) (by rfl) 12 _ _ rfl #[EC.val n1] rfl (run_call Tryz.func12 (by kernel_rfl) (by kernel_rfl)) ?_
            refine (dnfOf_has 20 _ (andX [x, y]) _ HN (by omega)).mono ?_
            rintro r v14 ⟨⟨l4, z4, p4, c4, rfl, hb4, fl4, hh4, hv4, ho4⟩, kb⟩
            replace D := D.trans (kb.mono D.size)
            replace hx := hx.on kb
            replace hy := hy.on kb
            replace HB := HB.on kb
            replace HC := HC.on kb
            replace HE := HE.on kb
            replace hb1 := hb1.on kb
            replace hb2 := hb2.on kb
            replace HO := HO.on kb
            replace hb3 := hb3.on kb
            replace HN := HN.on kb
            clear kb
            by_cases hN : z4 = 0
            · refine ⟨.tuple #[.slice p4 l4.length c4, .int .i64 z4], rfl, ?_⟩
              simp only [Act.put, List.setIfInBounds_toArray, List.set_cons_zero, List.set_cons_succ]
              refine wl_yield (o := ⟨_, _, _, _, _, _⟩) (.tuple #[.slice p4 l4.length c4, .int .i64 z4]) (yl_move (by rfl) _ rfl _ rfl) ?_
              simp only [Act.put, List.setIfInBounds_toArray, List.set_cons_zero, List.set_cons_succ]
              refine wl_yield (o := ⟨_, _, _, _, _, _⟩) (.slice p4 l4.length c4) (yl_extract0 (by rfl) _ rfl _ _ rfl) ?_
              simp only [Act.put, List.setIfInBounds_toArray, List.set_cons_zero, List.set_cons_succ]
              refine wl_yield (o := ⟨_, _, _, _, _, _⟩) (.int .i64 z4) (yl_extract1 (by rfl) _ rfl _ _ rfl) ?_
              simp only [Act.put, List.setIfInBounds_toArray, List.set_cons_zero, List.set_cons_succ]
              refine wl_yield (o := ⟨_, _, _, _, _, _⟩) (.slice p4 l4.length c4) (yl_assign (by rfl) _ rfl _ rfl) ?_
              simp only [Act.put, List.setIfInBounds_toArray, List.set_cons_zero, List.set_cons_succ]
              refine wl_yield (o := ⟨_, _, _, _, _, _⟩) (.int .i64 z4) (yl_assign (by rfl) _ rfl _ rfl) ?_
              simp only [Act.put, List.setIfInBounds_toArray, List.set_cons_zero, List.set_cons_succ]
              refine wpList_nil ?_
              refine hK7 _ _ ?_
              clear hK7 K7
              refine wp_seq_k (fun K8 hK8 => ?_)
              refine wp_seq_k (fun K9 hK9 => ?_)
              refine wp_region_lit ?_
              refine wl_yield (o := ⟨_, _, _, _, _, _⟩) (.int .i64 z1) (yl_move (by rfl) _ rfl _ rfl) ?_
              simp only [Act.put, List.setIfInBounds_toArray, List.set_cons_zero, List.set_cons_succ]
              refine wl_yield (o := ⟨_, _, _, _, _, _⟩) (.bool true) (yl_neqE (by rfl) _ _ _ rfl (z1) (0) true rfl rfl (decide_eq_true hA)) ?_
              simp only [Act.put, List.setIfInBounds_toArray, List.set_cons_zero, List.set_cons_succ]
              refine wl_yield (o := ⟨_, _, _, _, _, _⟩) (.bool true) (yl_move (by rfl) _ rfl _ rfl) ?_
              simp only [Act.put, List.setIfInBounds_toArray, List.set_cons_zero, List.set_cons_succ]
              with_reducible refine wl_yield (o := ⟨_, _, _, _, _, _⟩) undef (yl_undef (by kernel_rfl)) ?_
              simp only [Act.put, List.setIfInBounds_toArray, List.set_cons_zero, List.set_cons_succ]
              with_reducible refine wl_yield (o := ⟨_, _, _, _, _, _⟩) undef (yl_undef (by kernel_rfl)) ?_
              simp only [Act.put, List.setIfInBounds_toArray, List.set_cons_zero, List.set_cons_succ]
              refine wl_yield (o := ⟨_, _, _, _, _, _⟩) (.bool true) (yl_pickT (by rfl) _ _ _ rfl rfl _ rfl) ?_
              simp only [Act.put, List.setIfInBounds_toArray, List.set_cons_zero, List.set_cons_succ]
              refine wpList_nil ?_
              refine hK9 _ _ ?_
              clear hK9 K9
              refine wp_cond_true rfl ?_
              refine wp_seq_k (fun K10 hK10 => ?_)
              refine wp_region_lit ?_
              refine wl_yield (o := ⟨_, _, _, _, _, _⟩) (.bool true) (yl_assign (by rfl) _ rfl _ rfl) ?_
              simp only [Act.put, List.setIfInBounds_toArray, List.set_cons_zero, List.set_cons_succ]
              refine wpList_nil ?_
              refine hK10 _ _ ?_
              clear hK10 K10
              refine wp_ret ?_
              go_ret
              exact ⟨rfl, D⟩
            · refine ⟨.tuple #[.slice p4 l4.length c4, .int .i64 z4], rfl, ?_⟩
              simp only [Act.put, List.setIfInBounds_toArray, List.set_cons_zero, List.set_cons_succ]
              refine wl_yield (o := ⟨_, _, _, _, _, _⟩) (.tuple #[.slice p4 l4.length c4, .int .i64 z4]) (yl_move (by rfl) _ rfl _ rfl) ?_
              simp only [Act.put, List.setIfInBounds_toArray, List.set_cons_zero, List.set_cons_succ]
              refine wl_yield (o := ⟨_, _, _, _, _, _⟩) (.slice p4 l4.length c4) (yl_extract0 (by rfl) _ rfl _ _ rfl) ?_
              simp only [Act.put, List.setIfInBounds_toArray, List.set_cons_zero, List.set_cons_succ]
              refine wl_yield (o := ⟨_, _, _, _, _, _⟩) (.int .i64 z4) (yl_extract1 (by rfl) _ rfl _ _ rfl) ?_
              simp only [Act.put, List.setIfInBounds_toArray, List.set_cons_zero, List.set_cons_succ]
              refine wl_yield (o := ⟨_, _, _, _, _, _⟩) (.slice p4 l4.length c4) (yl_assign (by rfl) _ rfl _ rfl) ?_
              simp only [Act.put, List.setIfInBounds_toArray, List.set_cons_zero, List.set_cons_succ]
              refine wl_yield (o := ⟨_, _, _, _, _, _⟩) (.int .i64 z4) (yl_assign (by rfl) _ rfl _ rfl) ?_
              simp only [Act.put, List.setIfInBounds_toArray, List.set_cons_zero, List.set_cons_succ]
              refine wpList_nil ?_
              refine hK7 _ _ ?_
              clear hK7 K7
              refine wp_seq_k (fun K8 hK8 => ?_)
              refine wp_seq_k (fun K9 hK9 => ?_)
              refine wp_region_lit ?_
              refine wl_yield (o := ⟨_, _, _, _, _, _⟩) (.int .i64 z1) (yl_move (by rfl) _ rfl _ rfl) ?_
              simp only [Act.put, List.setIfInBounds_toArray, List.set_cons_zero, List.set_cons_succ]
              refine wl_yield (o := ⟨_, _, _, _, _, _⟩) (.bool true) (yl_neqE (by rfl) _ _ _ rfl (z1) (0) true rfl rfl (decide_eq_true hA)) ?_
              simp only [Act.put, List.setIfInBounds_toArray, List.set_cons_zero, List.set_cons_succ]
              refine wl_yield (o := ⟨_, _, _, _, _, _⟩) (.bool true) (yl_move (by rfl) _ rfl _ rfl) ?_
              simp only [Act.put, List.setIfInBounds_toArray, List.set_cons_zero, List.set_cons_succ]
              with_reducible refine wl_yield (o := ⟨_, _, _, _, _, _⟩) undef (yl_undef (by kernel_rfl)) ?_
              simp only [Act.put, List.setIfInBounds_toArray, List.set_cons_zero, List.set_cons_succ]
              with_reducible refine wl_yield (o := ⟨_, _, _, _, _, _⟩) undef (yl_undef (by kernel_rfl)) ?_
              simp only [Act.put, List.setIfInBounds_toArray, List.set_cons_zero, List.set_cons_succ]
              refine wl_yield (o := ⟨_, _, _, _, _, _⟩) (.bool true) (yl_pickT (by rfl) _ _ _ rfl rfl _ rfl) ?_
              simp only [Act.put, List.setIfInBounds_toArray, List.set_cons_zero, List.set_cons_succ]
              refine wpList_nil ?_
              refine hK9 _ _ ?_
              clear hK9 K9
              refine wp_cond_true rfl ?_
              refine wp_seq_k (fun K10 hK10 => ?_)
              refine wp_region_lit ?_
              refine wl_yield (o := ⟨_, _, _, _, _, _⟩) (.bool true) (yl_assign (by rfl) _ rfl _ rfl) ?_
              simp only [Act.put, List.setIfInBounds_toArray, List.set_cons_zero, List.set_cons_succ]
              refine wpList_nil ?_
              refine hK10 _ _ ?_
              clear hK10 K10
              refine wp_ret ?_
              go_ret
              exact ⟨rfl, D⟩
        · refine ⟨.tuple #[.slice p2 l2.length c2, .int .i64 z2], rfl, ?_⟩
          simp only [Act.put, List.setIfInBounds_toArray, List.set_cons_zero, List.set_cons_succ]
          refine wl_yield (o := ⟨_, _, _, _, _, _⟩) (.tuple #[.slice p2 l2.length c2, .int .i64 z2]) (yl_move (by rfl) _ rfl _ rfl) ?_
          simp only [Act.put, List.setIfInBounds_toArray, List.set_cons_zero, List.set_cons_succ]
          refine wl_yield (o := ⟨_, _, _, _, _, _⟩) (.slice p2 l2.length c2) (yl_extract0 (by rfl) _ rfl _ _ rfl) ?_
          simp only [Act.put, List.setIfInBounds_toArray, List.set_cons_zero, List.set_cons_succ]
          refine wl_yield (o := ⟨_, _, _, _, _, _⟩) (.int .i64 z2) (yl_extract1 (by rfl) _ rfl _ _ rfl) ?_
          simp only [Act.put, List.setIfInBounds_toArray, List.set_cons_zero, List.set_cons_succ]
          refine wl_yield (o := ⟨_, _, _, _, _, _⟩) (.slice p2 l2.length c2) (yl_assign (by rfl) _ rfl _ rfl) ?_
          simp only [Act.put, List.setIfInBounds_toArray, List.set_cons_zero, List.set_cons_succ]
          refine wl_yield (o := ⟨_, _, _, _, _, _⟩) (.int .i64 z2) (yl_assign (by rfl) _ rfl _ rfl) ?_
          simp only [Act.put, List.setIfInBounds_toArray, List.set_cons_zero, List.set_cons_succ]
          refine wpList_nil ?_
          refine hK5 _ _ ?_
          clear hK5 K5
          refine wp_seq_k (fun K6 hK6 => ?_)
          refine wp_region_lit ?_
          refine wl_yield (o := ⟨_, _, _, _, _, _⟩) (EC.val c) (yl_ex (by rfl) _ rfl _ 0 rfl _ (fun _ h => by subst h; exact ExIn.ec HB)) ?_
          simp only [Act.put, List.setIfInBounds_toArray, List.set_cons_zero, List.set_cons_succ]
          refine wl_yield (o := ⟨_, _, _, _, _, _⟩) (EC.val d) (yl_ex (by rfl) _ rfl _ 0 rfl _ (fun _ h => by subst h; exact ExIn.ec HC)) ?_
          simp only [Act.put, List.setIfInBounds_toArray, List.set_cons_zero, List.set_cons_succ]
          refine wl_row2X (o := ⟨_, _, _, _, _, _⟩) (by rfl) _ _ rfl rfl rfl (few_cp hx hq).1 (few_cp hy hq2).1 (fun v9 pr5 HR5 kb => ?_)
          simp only [Act.put, List.setIfInBounds_toArray, List.set_cons_zero, List.set_cons_succ]
          replace D := D.trans (kb.mono D.size)
          replace hx := hx.on kb
          replace hy := hy.on kb
          replace HB := HB.on kb
          replace HC := HC.on kb
          replace HE := HE.on kb
          replace hb1 := hb1.on kb
          replace hb2 := hb2.on kb
          clear kb
          refine wl_call (o := ⟨_, _, _, _, _, _⟩) (by rfl) 28 _ _ rfl #[.slice pr5 2 2] rfl (run_call Tryz.func28 (by kernel_rfl) (by kernel_rfl)) ?_
          refine (c_or HR5 (by simp) (cp_two (few_cp hx hq).2 (few_cp hy hq2).2)).mono ?_
          rintro r v10 ⟨⟨o1, rfl, HO⟩, kb⟩
          replace D := D.trans (kb.mono D.size)
          replace hx := hx.on kb
          replace hy := hy.on kb
          replace HB := HB.on kb
          replace HC := HC.on kb
          replace HE := HE.on kb
          replace hb1 := hb1.on kb
          replace hb2 := hb2.on kb
          clear kb
          refine ⟨EC.val o1, rfl, ?_⟩
          simp only [Act.put, List.setIfInBounds_toArray, List.set_cons_zero, List.set_cons_succ]
          refine wl_call (o := ⟨_, _, _, _, _, _⟩) (by rfl) 12 _ _ rfl #[EC.val o1] rfl (run_call Tryz.func12 (by kernel_rfl) (by kernel_rfl)) ?_
          refine (dnfOf_has 20 _ (orX [x, y]) _ HO (by omega)).mono ?_
          rintro r v11 ⟨⟨l3, z3, p3, c3, rfl, hb3, fl3, hh3, hv3, ho3⟩, kb⟩
          replace D := D.trans (kb.mono D.size)
          replace hx := hx.on kb
          replace hy := hy.on kb
          replace HB := HB.on kb
          replace HC := HC.on kb
          replace HE := HE.on kb
          replace hb1 := hb1.on kb
          replace hb2 := hb2.on kb
          replace HO := HO.on kb
          clear kb
          by_cases hO : z3 = 0
          · refine ⟨.tuple #[.slice p3 l3.length c3, .int .i64 z3], rfl, ?_⟩
            simp only [Act.put, List.setIfInBounds_toArray, List.set_cons_zero, List.set_cons_succ]
            refine wl_yield (o := ⟨_, _, _, _, _, _⟩) (.tuple #[.slice p3 l3.length c3, .int .i64 z3]) (yl_move (by rfl) _ rfl _ rfl) ?_
            simp only [Act.put, List.setIfInBounds_toArray, List.set_cons_zero, List.set_cons_succ]
            refine wl_yield (o := ⟨_, _, _, _, _, _⟩) (.slice p3 l3.length c3) (yl_extract0 (by rfl) _ rfl _ _ rfl) ?_
            simp only [Act.put, List.setIfInBounds_toArray, List.set_cons_zero, List.set_cons_succ]
            refine wl_yield (o := ⟨_, _, _, _, _, _⟩) (.int .i64 z3) (yl_extract1 (by rfl) _ rfl _ _ rfl) ?_
            simp only [Act.put, List.setIfInBounds_toArray, List.set_cons_zero, List.set_cons_succ]
            refine wl_yield (o := ⟨_, _, _, _, _, _⟩) (.slice p3 l3.length c3) (yl_assign (by rfl) _ rfl _ rfl) ?_
            simp only [Act.put, List.setIfInBounds_toArray, List.set_cons_zero, List.set_cons_succ]
            refine wl_yield (o := ⟨_, _, _, _, _, _⟩) (.int .i64 z3) (yl_assign (by rfl) _ rfl _ rfl) ?_
            simp only [Act.put, List.setIfInBounds_toArray, List.set_cons_zero, List.set_cons_succ]
            refine wpList_nil ?_
            refine hK6 _ _ ?_
            clear hK6 K6
            refine wp_seq_k (fun K7 hK7 => ?_)
            refine wp_region_lit ?_
            refine wl_yield (o := ⟨_, _, _, _, _, _⟩) (EC.val c) (yl_ex (by rfl) _ rfl _ 0 rfl _ (fun _ h => by subst h; exact ExIn.ec HB)) ?_
            simp only [Act.put, List.setIfInBounds_toArray, List.set_cons_zero, List.set_cons_succ]
            refine wl_yield (o := ⟨_, _, _, _, _, _⟩) (EC.val d) (yl_ex (by rfl) _ rfl _ 0 rfl _ (fun _ h => by subst h; exact ExIn.ec HC)) ?_
            simp only [Act.put, List.setIfInBounds_toArray, List.set_cons_zero, List.set_cons_succ]
            refine wl_row2X (o := ⟨_, _, _, _, _, _⟩) (by rfl) _ _ rfl rfl rfl (few_cp hx hq).1 (few_cp hy hq2).1 (fun v12 pr6 HR6 kb => ?_)
            simp only [Act.put, List.setIfInBounds_toArray, List.set_cons_zero, List.set_cons_succ]
            replace D := D.trans (kb.mono D.size)
            replace hx := hx.on kb
            replace hy := hy.on kb
            replace HB := HB.on kb
            replace HC := HC.on kb
            replace HE := HE.on kb
            replace hb1 := hb1.on kb
            replace hb2 := hb2.on kb
            replace HO := HO.on kb
            replace hb3 := hb3.on kb
            clear kb
            refine wl_call (o := ⟨_, _, _, _, _, _⟩) (by rfl) 27 _ _ rfl #[.slice pr6 2 2] rfl (run_call Tryz.func27 (by kernel_rfl) (by kernel_rfl)) ?_
            refine (c_and HR6 (by simp) (cp_two (few_cp hx hq).2 (few_cp hy hq2).2)).mono ?_
            rintro r v13 ⟨⟨n1, rfl, HN⟩, kb⟩
            replace D := D.trans (kb.mono D.size)
            replace hx := hx.on kb
            replace hy := hy.on kb
            replace HB := HB.on kb
            replace HC := HC.on kb
            replace HE := HE.on kb
            replace hb1 := hb1.on kb
            replace hb2 := hb2.on kb
            replace HO := HO.on kb
            replace hb3 := hb3.on kb
            clear kb
            refine ⟨EC.val n1, rfl, ?_⟩
            simp only [Act.put, List.setIfInBounds_toArray, List.set_cons_zero, List.set_cons_succ]
            refine wl_call (o := ⟨_, _, _, _, _, _⟩) (by rfl) 12 _ _ rfl #[EC.val n1] rfl (run_call Tryz.func12 (by kernel_rfl) (by kernel_rfl)) ?_
            refine (dnfOf_has 20 _ (andX [x, y]) _ HN (by omega)).mono ?_
            rintro r v14 ⟨⟨l4, z4, p4, c4, rfl, hb4, fl4, hh4, hv4, ho4⟩, kb⟩
            replace D := D.trans (kb.mono D.size)
            replace hx := hx.on kb
            replace hy := hy.on kb
            replace HB := HB.on kb
            replace HC := HC.on kb
            replace HE := HE.on kb
            replace hb1 := hb1.on kb
            replace hb2 := hb2.on kb
            replace HO := HO.on kb
            replace hb3 := hb3.on kb
            replace HN := HN.on kb
            clear kb
            by_cases hN : z4 = 0
            · refine ⟨.tuple #[.slice p4 l4.length c4, .int .i64 z4], rfl, ?_⟩
              simp only [Act.put, List.setIfInBounds_toArray, List.set_cons_zero, List.set_cons_succ]
              refine wl_yield (o := ⟨_, _, _, _, _, _⟩) (.tuple #[.slice p4 l4.length c4, .int .i64 z4]) (yl_move (by rfl) _ rfl _ rfl) ?_
              simp only [Act.put, List.setIfInBounds_toArray, List.set_cons_zero, List.set_cons_succ]
              refine wl_yield (o := ⟨_, _, _, _, _, _⟩) (.slice p4 l4.length c4) (yl_extract0 (by rfl) _ rfl _ _ rfl) ?_
              simp only [Act.put, List.setIfInBounds_toArray, List.set_cons_zero, List.set_cons_succ]
              refine wl_yield (o := ⟨_, _, _, _, _, _⟩) (.int .i64 z4) (yl_extract1 (by rfl) _ rfl _ _ rfl) ?_
              simp only [Act.put, List.setIfInBounds_toArray, List.set_cons_zero, List.set_cons_succ]
              refine wl_yield (o := ⟨_, _, _, _, _, _⟩) (.slice p4 l4.length c4) (yl_assign (by rfl) _ rfl _ rfl) ?_
              simp only [Act.put, List.setIfInBounds_toArray, List.set_cons_zero, List.set_cons_succ]
              refine wl_yield (o := ⟨_, _, _, _, _, _⟩) (.int .i64 z4) (yl_assign (by rfl) _ rfl _ rfl) ?_
              simp only [Act.put, List.setIfInBounds_toArray, List.set_cons_zero, List.set_cons_succ]
              refine wpList_nil ?_
              refine hK7 _ _ ?_
              clear hK7 K7
              refine wp_seq_k (fun K8 hK8 => ?_)
              refine wp_seq_k (fun K9 hK9 => ?_)
              refine wp_region_lit ?_
              refine wl_yield (o := ⟨_, _, _, _, _, _⟩) (.int .i64 z1) (yl_move (by rfl) _ rfl _ rfl) ?_
              simp only [Act.put, List.setIfInBounds_toArray, List.set_cons_zero, List.set_cons_succ]
              refine wl_yield (o := ⟨_, _, _, _, _, _⟩) (.bool true) (yl_neqE (by rfl) _ _ _ rfl (z1) (0) true rfl rfl (decide_eq_true hA)) ?_
              simp only [Act.put, List.setIfInBounds_toArray, List.set_cons_zero, List.set_cons_succ]
              refine wl_yield (o := ⟨_, _, _, _, _, _⟩) (.bool true) (yl_move (by rfl) _ rfl _ rfl) ?_
              simp only [Act.put, List.setIfInBounds_toArray, List.set_cons_zero, List.set_cons_succ]
              with_reducible refine wl_yield (o := ⟨_, _, _, _, _, _⟩) undef (yl_undef (by kernel_rfl)) ?_
              simp only [Act.put, List.setIfInBounds_toArray, List.set_cons_zero, List.set_cons_succ]
              with_reducible refine wl_yield (o := ⟨_, _, _, _, _, _⟩) undef (yl_undef (by kernel_rfl)) ?_
              simp only [Act.put, List.setIfInBounds_toArray, List.set_cons_zero, List.set_cons_succ]
              refine wl_yield (o := ⟨_, _, _, _, _, _⟩) (.bool true) (yl_pickT (by rfl) _ _ _ rfl rfl _ rfl) ?_
              simp only [Act.put, List.setIfInBounds_toArray, List.set_cons_zero, List.set_cons_succ]
              refine wpList_nil ?_
              refine hK9 _ _ ?_
              clear hK9 K9
              refine wp_cond_true rfl ?_
              refine wp_seq_k (fun K10 hK10 => ?_)
              refine wp_region_lit ?_
              refine wl_yield (o := ⟨_, _, _, _, _, _⟩) (.bool true) (yl_assign (by rfl) _ rfl _ rfl) ?_
              simp only [Act.put, List.setIfInBounds_toArray, List.set_cons_zero, List.set_cons_succ]
              refine wpList_nil ?_
              refine hK10 _ _ ?_
              clear hK10 K10
              refine wp_ret ?_
              go_ret
              exact ⟨rfl, D⟩
            · refine ⟨.tuple #[.slice p4 l4.length c4, .int .i64 z4], rfl, ?_⟩
              simp only [Act.put, List.setIfInBounds_toArray, List.set_cons_zero, List.set_cons_succ]
              refine wl_yield (o := ⟨_, _, _, _, _, _⟩) (.tuple #[.slice p4 l4.length c4, .int .i64 z4]) (yl_move (by rfl) _ rfl _ rfl) ?_
              simp only [Act.put, List.setIfInBounds_toArray, List.set_cons_zero, List.set_cons_succ]
              refine wl_yield (o := ⟨_, _, _, _, _, _⟩) (.slice p4 l4.length c4) (yl_extract0 (by rfl) _ rfl _ _ rfl) ?_
              simp only [Act.put, List.setIfInBounds_toArray, List.set_cons_zero, List.set_cons_succ]
              refine wl_yield (o := ⟨_, _, _, _, _, _⟩) (.int .i64 z4) (yl_extract1 (by rfl) _ rfl _ _ rfl) ?_
              simp only [Act.put, List.setIfInBounds_toArray, List.set_cons_zero, List.set_cons_succ]
              refine wl_yield (o := ⟨_, _, _, _, _, _⟩) (.slice p4 l4.length c4) (yl_assign (by rfl) _ rfl _ rfl) ?_
              simp only [Act.put, List.setIfInBounds_toArray, List.set_cons_zero, List.set_cons_succ]
              refine wl_yield (o := ⟨_, _, _, _, _, _⟩) (.int .i64 z4) (yl_assign (by rfl) _ rfl _ rfl) ?_
              simp only [Act.put, List.setIfInBounds_toArray, List.set_cons_zero, List.set_cons_succ]
              refine wpList_nil ?_
              refine hK7 _ _ ?_
              clear hK7 K7
              refine wp_seq_k (fun K8 hK8 => ?_)
              refine wp_seq_k (fun K9 hK9 => ?_)
              refine wp_region_lit ?_
              refine wl_yield (o := ⟨_, _, _, _, _, _⟩) (.int .i64 z1) (yl_move (by rfl) _ rfl _ rfl) ?_
              simp only [Act.put, List.setIfInBounds_toArray, List.set_cons_zero, List.set_cons_succ]
              refine wl_yield (o := ⟨_, _, _, _, _, _⟩) (.bool true) (yl_neqE (by rfl) _ _ _ rfl (z1) (0) true rfl rfl (decide_eq_true hA)) ?_
              simp only [Act.put, List.setIfInBounds_toArray, List.set_cons_zero, List.set_cons_succ]
              refine wl_yield (o := ⟨_, _, _, _, _, _⟩) (.bool true) (yl_move (by rfl) _ rfl _ rfl) ?_
              simp only [Act.put, List.setIfInBounds_toArray, List.set_cons_zero, List.set_cons_succ]
              with_reducible refine wl_yield (o := ⟨_, _, _, _, _, _⟩) undef (yl_undef (by kernel_rfl)) ?_
              simp only [Act.put, List.setIfInBounds_toArray, List.set_cons_zero, List.set_cons_succ]
              with_reducible refine wl_yield (o := ⟨_, _, _, _, _, _⟩) undef (yl_undef (by kernel_rfl)) ?_
              simp only [Act.put, List.setIfInBounds_toArray, List.set_cons_zero, List.set_cons_succ]
              refine wl_yield (o := ⟨_, _, _, _, _, _⟩) (.bool true) (yl_pickT (by rfl) _ _ _ rfl rfl _ rfl) ?_
              simp only [Act.put, List.setIfInBounds_toArray, List.set_cons_zero, List.set_cons_succ]
              refine wpList_nil ?_
              refine hK9 _ _ ?_
              clear hK9 K9
              refine wp_cond_true rfl ?_
              refine wp_seq_k (fun K10 hK10 => ?_)
              refine wp_region_lit ?_
              refine wl_yield (o := ⟨_, _, _, _, _, _⟩) (.bool true) (yl_assign (by rfl) _ rfl _ rfl) ?_
              simp only [Act.put, List.setIfInBounds_toArray, List.set_cons_zero, List.set_cons_succ]
              refine wpList_nil ?_
              refine hK10 _ _ ?_
              clear hK10 K10
              refine wp_ret ?_
              go_ret
              exact ⟨rfl, D⟩
          · refine ⟨.tuple #[.slice p3 l3.length c3, .int .i64 z3], rfl, ?_⟩
            simp only [Act.put, List.setIfInBounds_toArray, List.set_cons_zero, List.set_cons_succ]
            refine wl_yield (o := ⟨_, _, _, _, _, _⟩) (.tuple #[.slice p3 l3.length c3, .int .i64 z3]) (yl_move (by rfl) _ rfl _ rfl) ?_
            simp only [Act.put, List.setIfInBounds_toArray, List.set_cons_zero, List.set_cons_succ]
            refine wl_yield (o := ⟨_, _, _, _, _, _⟩) (.slice p3 l3.length c3) (yl_extract0 (by rfl) _ rfl _ _ rfl) ?_
            simp only [Act.put, List.setIfInBounds_toArray, List.set_cons_zero, List.set_cons_succ]
            refine wl_yield (o := ⟨_, _, _, _, _, _⟩) (.int .i64 z3) (yl_extract1 (by rfl) _ rfl _ _ rfl) ?_
            simp only [Act.put, List.setIfInBounds_toArray, List.set_cons_zero, List.set_cons_succ]
            refine wl_yield (o := ⟨_, _, _, _, _, _⟩) (.slice p3 l3.length c3) (yl_assign (by rfl) _ rfl _ rfl) ?_
            simp only [Act.put, List.setIfInBounds_toArray, List.set_cons_zero, List.set_cons_succ]
            refine wl_yield (o := ⟨_, _, _, _, _, _⟩) (.int .i64 z3) (yl_assign (by rfl) _ rfl _ rfl) ?_
            simp only [Act.put, List.setIfInBounds_toArray, List.set_cons_zero, List.set_cons_succ]
            refine wpList_nil ?_
            refine hK6 _ _ ?_
            clear hK6 K6
            refine wp_seq_k (fun K7 hK7 => ?_)
            refine wp_region_lit ?_
            refine wl_yield (o := ⟨_, _, _, _, _, _⟩) (EC.val c) (yl_ex (by rfl) _ rfl _ 0 rfl _ (fun _ h => by subst h; exact ExIn.ec HB)) ?_
            simp only [Act.put, List.setIfInBounds_toArray, List.set_cons_zero, List.set_cons_succ]
            refine wl_yield (o := ⟨_, _, _, _, _, _⟩) (EC.val d) (yl_ex (by rfl) _ rfl _ 0 rfl _ (fun _ h => by subst h; exact ExIn.ec HC)) ?_
            simp only [Act.put, List.setIfInBounds_toArray, List.set_cons_zero, List.set_cons_succ]
            refine wl_row2X (o := ⟨_, _, _, _, _, _⟩) (by rfl) _ _ rfl rfl rfl (few_cp hx hq).1 (few_cp hy hq2).1 (fun v12 pr6 HR6 kb => ?_)
            simp only [Act.put, List.setIfInBounds_toArray, List.set_cons_zero, List.set_cons_succ]
            replace D := D.trans (kb.mono D.size)
            replace hx := hx.on kb
            replace hy := hy.on kb
            replace HB := HB.on kb
            replace HC := HC.on kb
            replace HE := HE.on kb
            replace hb1 := hb1.on kb
            replace hb2 := hb2.on kb
            replace HO := HO.on kb
            replace hb3 := hb3.on kb
            clear kb
            refine wl_call (o := ⟨_, _, _, _, _, _⟩) (by rfl) 27 _ _ rfl #[.slice pr6 2 2] rfl (run_call Tryz.func27 (by kernel_rfl) (by kernel_rfl)) ?_
            refine (c_and HR6 (by simp) (cp_two (few_cp hx hq).2 (few_cp hy hq2).2)).mono ?_
            rintro r v13 ⟨⟨n1, rfl, HN⟩, kb⟩
            replace D := D.trans (kb.mono D.size)
            replace hx := hx.on kb
            replace hy := hy.on kb
            replace HB := HB.on kb
            replace HC := HC.on kb
            replace HE := HE.on kb
            replace hb1 := hb1.on kb
            replace hb2 := hb2.on kb
            replace HO := HO.on kb
            replace hb3 := hb3.on kb
            clear kb
            refine ⟨EC.val n1, rfl, ?_⟩
            simp only [Act.put, List.setIfInBounds_toArray, List.set_cons_zero, List.set_cons_succ]
            refine wl_call (o := ⟨_, _, _, _, _, _⟩) (by rfl) 12 _ _ rfl #[EC.val n1] rfl (run_call Tryz.func12 (by kernel_rfl) (by kernel_rfl)) ?_
            refine (dnfOf_has 20 _ (andX [x, y]) _ HN (by omega)).mono ?_
            rintro r v14 ⟨⟨l4, z4, p4, c4, rfl, hb4, fl4, hh4, hv4, ho4⟩, kb⟩
            replace D := D.trans (kb.mono D.size)
            replace hx := hx.on kb
            replace hy := hy.on kb
            replace HB := HB.on kb
            replace HC := HC.on kb
            replace HE := HE.on kb
            replace hb1 := hb1.on kb
            replace hb2 := hb2.on kb
            replace HO := HO.on kb
            replace hb3 := hb3.on kb
            replace HN := HN.on kb
            clear kb
            by_cases hN : z4 = 0
            · refine ⟨.tuple #[.slice p4 l4.length c4, .int .i64 z4], rfl, ?_⟩
              simp only [Act.put, List.setIfInBounds_toArray, List.set_cons_zero, List.set_cons_succ]
              refine wl_yield (o := ⟨_, _, _, _, _, _⟩) (.tuple #[.slice p4 l4.length c4, .int .i64 z4]) (yl_move (by rfl) _ rfl _ rfl) ?_
              simp only [Act.put, List.setIfInBounds_toArray, List.set_cons_zero, List.set_cons_succ]
              refine wl_yield (o := ⟨_, _, _, _, _, _⟩) (.slice p4 l4.length c4) (yl_extract0 (by rfl) _ rfl _ _ rfl) ?_
              simp only [Act.put, List.setIfInBounds_toArray, List.set_cons_zero, List.set_cons_succ]
              refine wl_yield (o := ⟨_, _, _, _, _, _⟩) (.int .i64 z4) (yl_extract1 (by rfl) _ rfl _ _ rfl) ?_
              simp only [Act.put, List.setIfInBounds_toArray, List.set_cons_zero, List.set_cons_succ]
              refine wl_yield (o := ⟨_, _, _, _, _, _⟩) (.slice p4 l4.length c4) (yl_assign (by rfl) _ rfl _ rfl) ?_
              simp only [Act.put, List.setIfInBounds_toArray, List.set_cons_zero, List.set_cons_succ]
              refine wl_yield (o := ⟨_, _, _, _, _, _⟩) (.int .i64 z4) (yl_assign (by rfl) _ rfl _ rfl) ?_
              simp only [Act.put, List.setIfInBounds_toArray, List.set_cons_zero, List.set_cons_succ]
              refine wpList_nil ?_
              refine hK7 _ _ ?_
              clear hK7 K7
              refine wp_seq_k (fun K8 hK8 => ?_)
              refine wp_seq_k (fun K9 hK9 => ?_)
              refine wp_region_lit ?_
              refine wl_yield (o := ⟨_, _, _, _, _, _⟩) (.int .i64 z1) (yl_move (by rfl) _ rfl _ rfl) ?_
              simp only [Act.put, List.setIfInBounds_toArray, List.set_cons_zero, List.set_cons_succ]
              refine wl_yield (o := ⟨_, _, _, _, _, _⟩) (.bool true) (yl_neqE (by rfl) _ _ _ rfl (z1) (0) true rfl rfl (decide_eq_true hA)) ?_
              simp only [Act.put, List.setIfInBounds_toArray, List.set_cons_zero, List.set_cons_succ]
              refine wl_yield (o := ⟨_, _, _, _, _, _⟩) (.bool true) (yl_move (by rfl) _ rfl _ rfl) ?_
              simp only [Act.put, List.setIfInBounds_toArray, List.set_cons_zero, List.set_cons_succ]
              with_reducible refine wl_yield (o := ⟨_, _, _, _, _, _⟩) undef (yl_undef (by kernel_rfl)) ?_
              simp only [Act.put, List.setIfInBounds_toArray, List.set_cons_zero, List.set_cons_succ]
              with_reducible refine wl_yield (o := ⟨_, _, _, _, _, _⟩) undef (yl_undef (by kernel_rfl)) ?_
              simp only [Act.put, List.setIfInBounds_toArray, List.set_cons_zero, List.set_cons_succ]
              refine wl_yield (o := ⟨_, _, _, _, _, _⟩) (.bool true) (yl_pickT (by rfl) _ _ _ rfl rfl _ rfl) ?_
              simp only [Act.put, List.setIfInBounds_toArray, List.set_cons_zero, List.set_cons_succ]
              refine wpList_nil ?_
              refine hK9 _ _ ?_
              clear hK9 K9
              refine wp_cond_true rfl ?_
              refine wp_seq_k (fun K10 hK10 => ?_)
              refine wp_region_lit ?_
              refine wl_yield (o := ⟨_, _, _, _, _, _⟩) (.bool true) (yl_assign (by rfl) _ rfl _ rfl) ?_
              simp only [Act.put, List.setIfInBounds_toArray, List.set_cons_zero, List.set_cons_succ]
              refine wpList_nil ?_
              refine hK10 _ _ ?_
              clear hK10 K10
              refine wp_ret ?_
              go_ret
              exact ⟨rfl, D⟩
            · refine ⟨.tuple #[.slice p4 l4.length c4, .int .i64 z4], rfl, ?_⟩
              simp only [Act.put, List.setIfInBounds_toArray, List.set_cons_zero, List.set_cons_succ]
              refine wl_yield (o := ⟨_, _, _, _, _, _⟩) (.tuple #[.slice p4 l4.length c4, .int .i64 z4]) (yl_move (by rfl) _ rfl _ rfl) ?_
              simp only [Act.put, List.setIfInBounds_toArray, List.set_cons_zero, List.set_cons_succ]
              refine wl_yield (o := ⟨_, _, _, _, _, _⟩) (.slice p4 l4.length c4) (yl_extract0 (by rfl) _ rfl _ _ rfl) ?_
              simp only [Act.put, List.setIfInBounds_toArray, List.set_cons_zero, List.set_cons_succ]
              refine wl_yield (o := ⟨_, _, _, _, _, _⟩) (.int .i64 z4) (yl_extract1 (by rfl) _ rfl _ _ rfl) ?_
              simp only [Act.put, List.setIfInBounds_toArray, List.set_cons_zero, List.set_cons_succ]
              refine wl_yield (o := ⟨_, _, _, _, _, _⟩) (.slice p4 l4.length c4) (yl_assign (by rfl) _ rfl _ rfl) ?_
              simp only [Act.put, List.setIfInBounds_toArray, List.set_cons_zero, List.set_cons_succ]
              refine wl_yield (o := ⟨_, _, _, _, _, _⟩) (.int .i64 z4) (yl_assign (by rfl) _ rfl _ rfl) ?_
              simp only [Act.put, List.setIfInBounds_toArray, List.set_cons_zero, List.set_cons_succ]
              refine wpList_nil ?_
              refine hK7 _ _ ?_
              clear hK7 K7
              refine wp_seq_k (fun K8 hK8 => ?_)
              refine wp_seq_k (fun K9 hK9 => ?_)
              refine wp_region_lit ?_
              refine wl_yield (o := ⟨_, _, _, _, _, _⟩) (.int .i64 z1) (yl_move (by rfl) _ rfl _ rfl) ?_
              simp only [Act.put, List.setIfInBounds_toArray, List.set_cons_zero, List.set_cons_succ]
              refine wl_yield (o := ⟨_, _, _, _, _, _⟩) (.bool true) (yl_neqE (by rfl) _ _ _ rfl (z1) (0) true rfl rfl (decide_eq_true hA)) ?_
              simp only [Act.put, List.setIfInBounds_toArray, List.set_cons_zero, List.set_cons_succ]
              refine wl_yield (o := ⟨_, _, _, _, _, _⟩) (.bool true) (yl_move (by rfl) _ rfl _ rfl) ?_
              simp only [Act.put, List.setIfInBounds_toArray, List.set_cons_zero, List.set_cons_succ]
              with_reducible refine wl_yield (o := ⟨_, _, _, _, _, _⟩) undef (yl_undef (by kernel_rfl)) ?_
              simp only [Act.put, List.setIfInBounds_toArray, List.set_cons_zero, List.set_cons_succ]
              with_reducible refine wl_yield (o := ⟨_, _, _, _, _, _⟩) undef (yl_undef (by kernel_rfl)) ?_
              simp only [Act.put, List.setIfInBounds_toArray, List.set_cons_zero, List.set_cons_succ]
              refine wl_yield (o := ⟨_, _, _, _, _, _⟩) (.bool true) (yl_pickT (by rfl) _ _ _ rfl rfl _ rfl) ?_
              simp only [Act.put, List.setIfInBounds_toArray, List.set_cons_zero, List.set_cons_succ]
              refine wpList_nil ?_
              refine hK9 _ _ ?_
              clear hK9 K9
              refine wp_cond_true rfl ?_
              refine wp_seq_k (fun K10 hK10 => ?_)
              refine wp_region_lit ?_
              refine wl_yield (o := ⟨_, _, _, _, _, _⟩) (.bool true) (yl_assign (by rfl) _ rfl _ rfl) ?_
              simp only [Act.put, List.setIfInBounds_toArray, List.set_cons_zero, List.set_cons_succ]
              refine wpList_nil ?_
              refine hK10 _ _ ?_
              clear hK10 K10
              refine wp_ret ?_
              go_ret
              exact ⟨rfl, D⟩
end Go.Proofs.YtlfhpocfacaaeaaGreat
