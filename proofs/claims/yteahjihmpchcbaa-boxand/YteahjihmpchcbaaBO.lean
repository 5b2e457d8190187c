/-
  The walk of the law BoxAnd, out of the program's contracts.
-/
import Derived.Test.YteahjihmpchcbaaBN
import Derived.Test.YteahjihmpchcbaaGC
set_option linter.unusedSimpArgs false
set_option linter.unusedVariables false
namespace Go.Proofs.Yteahjihmpchcbaa
open Go.RowKit

theorem all2 {a b : BoxV} (h : [a, b].all fewBx = true) : fewBx a = true ∧ fewBx b = true := by simpa using h
set_option maxHeartbeats 8000000 in
set_option maxRecDepth 100000 in
theorem boxAnd_walk (P : BoxProg) (v u : Value) (a b : BoxV) (e : EvV) (w : World) (HA : BoxAt w v a) (HB : BoxAt w u b) (hf : evFit e) (he : inE e) :
    Calls Try.prog 3 #[v, u, evVal e] w fun r w' => r = .returned (.bool true) ∧ Below w.heap.size w w' := by
  obtain ⟨a0, a1, a2, a3, rfl, -⟩ := HA.scs
  obtain ⟨b0, b1, b2, b3, rfl, -⟩ := HB.scs
  have D := Below.refl w.heap.size w
  go_enter Try.func3, Try.ntmps3
  refine wp_seq_k (fun K1 hK1 => ?_)
  refine wp_region_lit ?_
  refine wl_boxBx (o := ⟨_, _, _, _, _, _⟩) (by rfl) _ rfl rfl (fun v1 g1 IA kb => ?_)
  simp only [Act.put, List.setIfInBounds_toArray, List.set_cons_zero, List.set_cons_succ]
  replace D := D.trans (kb.mono D.size)
  replace HA := HA.on kb
  replace HB := HB.on kb
  clear kb
  refine wl_boxBx (o := ⟨_, _, _, _, _, _⟩) (by rfl) _ rfl rfl (fun v2 g2 IB kb => ?_)
  simp only [Act.put, List.setIfInBounds_toArray, List.set_cons_zero, List.set_cons_succ]
  replace D := D.trans (kb.mono D.size)
  replace HA := HA.on kb
  replace HB := HB.on kb
  replace IA := IA.on kb
  clear kb
  refine wl_boxEv (o := ⟨_, _, _, _, _, _⟩) (by rfl) _ rfl rfl (fun v3 g3 IE kb => ?_)
  simp only [Act.put, List.setIfInBounds_toArray, List.set_cons_zero, List.set_cons_succ]
  replace D := D.trans (kb.mono D.size)
  replace HA := HA.on kb
  replace HB := HB.on kb
  replace IA := IA.on kb
  replace IB := IB.on kb
  clear kb
  refine wl_yield (o := ⟨_, _, _, _, _, _⟩) (.bool false) (yl_assign (by rfl) _ rfl _ rfl) ?_
  simp only [Act.put, List.setIfInBounds_toArray, List.set_cons_zero, List.set_cons_succ]
  refine wpList_nil ?_
  refine hK1 _ _ ?_
  clear hK1 K1
  refine wp_seq_k (fun K2 hK2 => ?_)
  refine wp_seq_k (fun K3 hK3 => ?_)
  refine wp_region_lit ?_
  refine wl_call (o := ⟨_, _, _, _, _, _⟩) (by rfl) 7 _ _ rfl #[] rfl (run_call Try.func7 (by kernel_rfl) (by kernel_rfl)) ?_
  refine (awake4_any P _).mono ?_
  rintro r v4 ⟨rfl, kb⟩
  replace D := D.trans (kb.mono D.size)
  replace HA := HA.on kb
  replace HB := HB.on kb
  replace IA := IA.on kb
  replace IB := IB.on kb
  replace IE := IE.on kb
  clear kb
  refine ⟨.bool true, rfl, ?_⟩
  simp only [Act.put, List.setIfInBounds_toArray, List.set_cons_zero, List.set_cons_succ]
  refine wl_yield (o := ⟨_, _, _, _, _, _⟩) (.bool false) (yl_not (by rfl) _ _ rfl true rfl) ?_
  simp only [Act.put, List.setIfInBounds_toArray, List.set_cons_zero, List.set_cons_succ]
  refine wl_yield (o := ⟨_, _, _, _, _, _⟩) (.bool false) (yl_move (by rfl) _ rfl _ rfl) ?_
  simp only [Act.put, List.setIfInBounds_toArray, List.set_cons_zero, List.set_cons_succ]
  refine wl_yield (o := ⟨_, _, _, _, _, _⟩) (bxVal a0 a1 a2 a3) (yl_box (by rfl) _ rfl _ 0 rfl _ _ _ _ _ _ _ _ _ _ _ _ _ _ _ _ (fun _ h => by subst h; exact BxIn.cells IA)) ?_
  simp only [Act.put, List.setIfInBounds_toArray, List.set_cons_zero, List.set_cons_succ]
  refine wl_yield (o := ⟨_, _, _, _, _, _⟩) (bxVal b0 b1 b2 b3) (yl_box (by rfl) _ rfl _ 0 rfl _ _ _ _ _ _ _ _ _ _ _ _ _ _ _ _ (fun _ h => by subst h; exact BxIn.cells IB)) ?_
  simp only [Act.put, List.setIfInBounds_toArray, List.set_cons_zero, List.set_cons_succ]
  refine wl_rowBx2 (o := ⟨_, _, _, _, _, _⟩) (by rfl) _ _ rfl rfl rfl HA HB (fun v5 y5 HY kb => ?_)
  simp only [Act.put, List.setIfInBounds_toArray, List.set_cons_zero, List.set_cons_succ]
  replace D := D.trans (kb.mono D.size)
  replace HA := HA.on kb
  replace HB := HB.on kb
  replace IA := IA.on kb
  replace IB := IB.on kb
  replace IE := IE.on kb
  clear kb
  refine wl_call (o := ⟨_, _, _, _, _, _⟩) (by rfl) 8 _ _ rfl #[y5] rfl (run_call Try.func8 (by kernel_rfl) (by kernel_rfl)) ?_
  refine (refFewBx_any _ _ _ HY).mono ?_
  rintro r v6 ⟨rfl, kb⟩
  replace D := D.trans (kb.mono D.size)
  replace HA := HA.on kb
  replace HB := HB.on kb
  replace IA := IA.on kb
  replace IB := IB.on kb
  replace IE := IE.on kb
  clear kb
  cases hF : [a, b].all fewBx
  · refine ⟨.bool false, rfl, ?_⟩
    simp only [Act.put, List.setIfInBounds_toArray, List.set_cons_zero, List.set_cons_succ]
    refine wl_yield (o := ⟨_, _, _, _, _, _⟩) (.bool true) (yl_not (by rfl) _ _ rfl false rfl) ?_
    simp only [Act.put, List.setIfInBounds_toArray, List.set_cons_zero, List.set_cons_succ]
    refine wl_yield (o := ⟨_, _, _, _, _, _⟩) (.bool true) (yl_pickF (by rfl) _ _ _ rfl rfl _ rfl) ?_
    simp only [Act.put, List.setIfInBounds_toArray, List.set_cons_zero, List.set_cons_succ]
    refine wl_yield (o := ⟨_, _, _, _, _, _⟩) (.bool true) (yl_move (by rfl) _ rfl _ rfl) ?_
    simp only [Act.put, List.setIfInBounds_toArray, List.set_cons_zero, List.set_cons_succ]
    refine wl_yield (o := ⟨_, _, _, _, _, _⟩) undef (yl_undef (by rfl)) ?_
    simp only [Act.put, List.setIfInBounds_toArray, List.set_cons_zero, List.set_cons_succ]
    refine wl_yield (o := ⟨_, _, _, _, _, _⟩) undef (yl_undef (by rfl)) ?_
    simp only [Act.put, List.setIfInBounds_toArray, List.set_cons_zero, List.set_cons_succ]
    refine wl_yield (o := ⟨_, _, _, _, _, _⟩) undef (yl_undef (by rfl)) ?_
    simp only [Act.put, List.setIfInBounds_toArray, List.set_cons_zero, List.set_cons_succ]
    refine wl_yield (o := ⟨_, _, _, _, _, _⟩) (.bool true) (yl_pickT (by rfl) _ _ _ rfl rfl _ rfl) ?_
    simp only [Act.put, List.setIfInBounds_toArray, List.set_cons_zero, List.set_cons_succ]
    refine wl_yield (o := ⟨_, _, _, _, _, _⟩) (.bool true) (yl_move (by rfl) _ rfl _ rfl) ?_
    simp only [Act.put, List.setIfInBounds_toArray, List.set_cons_zero, List.set_cons_succ]
    refine wl_yield (o := ⟨_, _, _, _, _, _⟩) undef (yl_undef (by rfl)) ?_
    simp only [Act.put, List.setIfInBounds_toArray, List.set_cons_zero, List.set_cons_succ]
    refine wl_yield (o := ⟨_, _, _, _, _, _⟩) undef (yl_undef (by rfl)) ?_
    simp only [Act.put, List.setIfInBounds_toArray, List.set_cons_zero, List.set_cons_succ]
    refine wl_yield (o := ⟨_, _, _, _, _, _⟩) undef (yl_undef (by rfl)) ?_
    simp only [Act.put, List.setIfInBounds_toArray, List.set_cons_zero, List.set_cons_succ]
    refine wl_yield (o := ⟨_, _, _, _, _, _⟩) (.bool true) (yl_pickT (by rfl) _ _ _ rfl rfl _ rfl) ?_
    simp only [Act.put, List.setIfInBounds_toArray, List.set_cons_zero, List.set_cons_succ]
    refine wpList_nil ?_
    refine hK3 _ _ ?_
    clear hK3 K3
    refine wp_cond_true rfl ?_
    refine wp_seq_k (fun K4 hK4 => ?_)
    refine wp_region_lit ?_
    refine wl_call (o := ⟨_, _, _, _, _, _⟩) (by rfl) 7 _ _ rfl #[] rfl (run_call Try.func7 (by kernel_rfl) (by kernel_rfl)) ?_
    refine (awake4_any P _).mono ?_
    rintro r v7 ⟨rfl, kb⟩
    replace D := D.trans (kb.mono D.size)
    replace HA := HA.on kb
    replace HB := HB.on kb
    replace IA := IA.on kb
    replace IB := IB.on kb
    replace IE := IE.on kb
    clear kb
    refine ⟨.bool true, rfl, ?_⟩
    simp only [Act.put, List.setIfInBounds_toArray, List.set_cons_zero, List.set_cons_succ]
    refine wl_yield (o := ⟨_, _, _, _, _, _⟩) (.bool true) (yl_assign (by rfl) _ rfl _ rfl) ?_
    simp only [Act.put, List.setIfInBounds_toArray, List.set_cons_zero, List.set_cons_succ]
    refine wpList_nil ?_
    refine hK4 _ _ ?_
    clear hK4 K4
    refine wp_ret ?_
    go_ret
    exact ⟨rfl, D⟩
  · refine ⟨.bool true, rfl, ?_⟩
    simp only [Act.put, List.setIfInBounds_toArray, List.set_cons_zero, List.set_cons_succ]
    refine wl_yield (o := ⟨_, _, _, _, _, _⟩) (.bool false) (yl_not (by rfl) _ _ rfl true rfl) ?_
    simp only [Act.put, List.setIfInBounds_toArray, List.set_cons_zero, List.set_cons_succ]
    refine wl_yield (o := ⟨_, _, _, _, _, _⟩) (.bool false) (yl_pickF (by rfl) _ _ _ rfl rfl _ rfl) ?_
    simp only [Act.put, List.setIfInBounds_toArray, List.set_cons_zero, List.set_cons_succ]
    refine wl_yield (o := ⟨_, _, _, _, _, _⟩) (.bool false) (yl_move (by rfl) _ rfl _ rfl) ?_
    simp only [Act.put, List.setIfInBounds_toArray, List.set_cons_zero, List.set_cons_succ]
    refine wl_yield (o := ⟨_, _, _, _, _, _⟩) (bxVal a0 a1 a2 a3) (yl_box (by rfl) _ rfl _ 0 rfl _ _ _ _ _ _ _ _ _ _ _ _ _ _ _ _ (fun _ h => by subst h; exact BxIn.cells IA)) ?_
    simp only [Act.put, List.setIfInBounds_toArray, List.set_cons_zero, List.set_cons_succ]
    refine wl_call (o := ⟨_, _, _, _, _, _⟩) (by rfl) 9 _ _ rfl #[bxVal a0 a1 a2 a3] rfl (run_call Try.func9 (by kernel_rfl) (by kernel_rfl)) ?_
    refine (refRightBx_any _ _ _ HA).mono ?_
    rintro r v7 ⟨rfl, kb⟩
    replace D := D.trans (kb.mono D.size)
    replace HA := HA.on kb
    replace HB := HB.on kb
    replace IA := IA.on kb
    replace IB := IB.on kb
    replace IE := IE.on kb
    clear kb
    cases hRA : rightBx a
    · refine ⟨.bool false, rfl, ?_⟩
      simp only [Act.put, List.setIfInBounds_toArray, List.set_cons_zero, List.set_cons_succ]
      refine wl_yield (o := ⟨_, _, _, _, _, _⟩) (.bool true) (yl_not (by rfl) _ _ rfl false rfl) ?_
      simp only [Act.put, List.setIfInBounds_toArray, List.set_cons_zero, List.set_cons_succ]
      refine wl_yield (o := ⟨_, _, _, _, _, _⟩) (.bool true) (yl_pickF (by rfl) _ _ _ rfl rfl _ rfl) ?_
      simp only [Act.put, List.setIfInBounds_toArray, List.set_cons_zero, List.set_cons_succ]
      refine wl_yield (o := ⟨_, _, _, _, _, _⟩) (.bool true) (yl_move (by rfl) _ rfl _ rfl) ?_
      simp only [Act.put, List.setIfInBounds_toArray, List.set_cons_zero, List.set_cons_succ]
      refine wl_yield (o := ⟨_, _, _, _, _, _⟩) undef (yl_undef (by rfl)) ?_
      simp only [Act.put, List.setIfInBounds_toArray, List.set_cons_zero, List.set_cons_succ]
      refine wl_yield (o := ⟨_, _, _, _, _, _⟩) undef (yl_undef (by rfl)) ?_
      simp only [Act.put, List.setIfInBounds_toArray, List.set_cons_zero, List.set_cons_succ]
      refine wl_yield (o := ⟨_, _, _, _, _, _⟩) undef (yl_undef (by rfl)) ?_
      simp only [Act.put, List.setIfInBounds_toArray, List.set_cons_zero, List.set_cons_succ]
      refine wl_yield (o := ⟨_, _, _, _, _, _⟩) (.bool true) (yl_pickT (by rfl) _ _ _ rfl rfl _ rfl) ?_
      simp only [Act.put, List.setIfInBounds_toArray, List.set_cons_zero, List.set_cons_succ]
      refine wpList_nil ?_
      refine hK3 _ _ ?_
      clear hK3 K3
      refine wp_cond_true rfl ?_
      refine wp_seq_k (fun K4 hK4 => ?_)
      refine wp_region_lit ?_
      refine wl_call (o := ⟨_, _, _, _, _, _⟩) (by rfl) 7 _ _ rfl #[] rfl (run_call Try.func7 (by kernel_rfl) (by kernel_rfl)) ?_
      refine (awake4_any P _).mono ?_
      rintro r v8 ⟨rfl, kb⟩
      replace D := D.trans (kb.mono D.size)
      replace HA := HA.on kb
      replace HB := HB.on kb
      replace IA := IA.on kb
      replace IB := IB.on kb
      replace IE := IE.on kb
      clear kb
      refine ⟨.bool true, rfl, ?_⟩
      simp only [Act.put, List.setIfInBounds_toArray, List.set_cons_zero, List.set_cons_succ]
      refine wl_yield (o := ⟨_, _, _, _, _, _⟩) (.bool true) (yl_assign (by rfl) _ rfl _ rfl) ?_
      simp only [Act.put, List.setIfInBounds_toArray, List.set_cons_zero, List.set_cons_succ]
      refine wpList_nil ?_
      refine hK4 _ _ ?_
      clear hK4 K4
      refine wp_ret ?_
      go_ret
      exact ⟨rfl, D⟩
    · refine ⟨.bool true, rfl, ?_⟩
      simp only [Act.put, List.setIfInBounds_toArray, List.set_cons_zero, List.set_cons_succ]
      refine wl_yield (o := ⟨_, _, _, _, _, _⟩) (.bool false) (yl_not (by rfl) _ _ rfl true rfl) ?_
      simp only [Act.put, List.setIfInBounds_toArray, List.set_cons_zero, List.set_cons_succ]
      refine wl_yield (o := ⟨_, _, _, _, _, _⟩) (.bool false) (yl_pickF (by rfl) _ _ _ rfl rfl _ rfl) ?_
      simp only [Act.put, List.setIfInBounds_toArray, List.set_cons_zero, List.set_cons_succ]
      refine wl_yield (o := ⟨_, _, _, _, _, _⟩) (.bool false) (yl_move (by rfl) _ rfl _ rfl) ?_
      simp only [Act.put, List.setIfInBounds_toArray, List.set_cons_zero, List.set_cons_succ]
      refine wl_yield (o := ⟨_, _, _, _, _, _⟩) (bxVal b0 b1 b2 b3) (yl_box (by rfl) _ rfl _ 0 rfl _ _ _ _ _ _ _ _ _ _ _ _ _ _ _ _ (fun _ h => by subst h; exact BxIn.cells IB)) ?_
      simp only [Act.put, List.setIfInBounds_toArray, List.set_cons_zero, List.set_cons_succ]
      refine wl_call (o := ⟨_, _, _, _, _, _⟩) (by rfl) 9 _ _ rfl #[bxVal b0 b1 b2 b3] rfl (run_call Try.func9 (by kernel_rfl) (by kernel_rfl)) ?_
      refine (refRightBx_any _ _ _ HB).mono ?_
      rintro r v8 ⟨rfl, kb⟩
      replace D := D.trans (kb.mono D.size)
      replace HA := HA.on kb
      replace HB := HB.on kb
      replace IA := IA.on kb
      replace IB := IB.on kb
      replace IE := IE.on kb
      clear kb
      cases hRB : rightBx b
      · refine ⟨.bool false, rfl, ?_⟩
        simp only [Act.put, List.setIfInBounds_toArray, List.set_cons_zero, List.set_cons_succ]
        refine wl_yield (o := ⟨_, _, _, _, _, _⟩) (.bool true) (yl_not (by rfl) _ _ rfl false rfl) ?_
        simp only [Act.put, List.setIfInBounds_toArray, List.set_cons_zero, List.set_cons_succ]
        refine wl_yield (o := ⟨_, _, _, _, _, _⟩) (.bool true) (yl_pickF (by rfl) _ _ _ rfl rfl _ rfl) ?_
        simp only [Act.put, List.setIfInBounds_toArray, List.set_cons_zero, List.set_cons_succ]
        refine wpList_nil ?_
        refine hK3 _ _ ?_
        clear hK3 K3
        refine wp_cond_true rfl ?_
        refine wp_seq_k (fun K4 hK4 => ?_)
        refine wp_region_lit ?_
        refine wl_call (o := ⟨_, _, _, _, _, _⟩) (by rfl) 7 _ _ rfl #[] rfl (run_call Try.func7 (by kernel_rfl) (by kernel_rfl)) ?_
        refine (awake4_any P _).mono ?_
        rintro r v9 ⟨rfl, kb⟩
        replace D := D.trans (kb.mono D.size)
        replace HA := HA.on kb
        replace HB := HB.on kb
        replace IA := IA.on kb
        replace IB := IB.on kb
        replace IE := IE.on kb
        clear kb
        refine ⟨.bool true, rfl, ?_⟩
        simp only [Act.put, List.setIfInBounds_toArray, List.set_cons_zero, List.set_cons_succ]
        refine wl_yield (o := ⟨_, _, _, _, _, _⟩) (.bool true) (yl_assign (by rfl) _ rfl _ rfl) ?_
        simp only [Act.put, List.setIfInBounds_toArray, List.set_cons_zero, List.set_cons_succ]
        refine wpList_nil ?_
        refine hK4 _ _ ?_
        clear hK4 K4
        refine wp_ret ?_
        go_ret
        exact ⟨rfl, D⟩
      · refine ⟨.bool true, rfl, ?_⟩
        simp only [Act.put, List.setIfInBounds_toArray, List.set_cons_zero, List.set_cons_succ]
        refine wl_yield (o := ⟨_, _, _, _, _, _⟩) (.bool false) (yl_not (by rfl) _ _ rfl true rfl) ?_
        simp only [Act.put, List.setIfInBounds_toArray, List.set_cons_zero, List.set_cons_succ]
        refine wl_yield (o := ⟨_, _, _, _, _, _⟩) (.bool false) (yl_pickF (by rfl) _ _ _ rfl rfl _ rfl) ?_
        simp only [Act.put, List.setIfInBounds_toArray, List.set_cons_zero, List.set_cons_succ]
        refine wpList_nil ?_
        refine hK3 _ _ ?_
        clear hK3 K3
        refine wp_cond_false rfl ?_
        refine wp_skip ?_
        refine hK2 _ _ ?_
        clear hK2 K2
        have FA := few_of HA (all2 hF).1 hRA
        have FB := few_of HB (all2 hF).2 hRB
        have FC := FA.and FB
        refine wp_seq_k (fun K4 hK4 => ?_)
        refine wp_region_lit ?_
        refine wl_yield (o := ⟨_, _, _, _, _, _⟩) (bxVal a0 a1 a2 a3) (yl_box (by rfl) _ rfl _ 0 rfl _ _ _ _ _ _ _ _ _ _ _ _ _ _ _ _ (fun _ h => by subst h; exact BxIn.cells IA)) ?_
        simp only [Act.put, List.setIfInBounds_toArray, List.set_cons_zero, List.set_cons_succ]
        refine wl_yield (o := ⟨_, _, _, _, _, _⟩) (bxVal b0 b1 b2 b3) (yl_box (by rfl) _ rfl _ 0 rfl _ _ _ _ _ _ _ _ _ _ _ _ _ _ _ _ (fun _ h => by subst h; exact BxIn.cells IB)) ?_
        simp only [Act.put, List.setIfInBounds_toArray, List.set_cons_zero, List.set_cons_succ]
        refine wl_call (o := ⟨_, _, _, _, _, _⟩) (by rfl) 10 _ _ rfl #[bxVal a0 a1 a2 a3, bxVal b0 b1 b2 b3] rfl (run_call Try.func10 (by kernel_rfl) (by kernel_rfl)) ?_
        refine (P.and _ _ a b _ HA HB FA.fit FB.fit).mono ?_
        rintro r v9 ⟨⟨u1, rfl, HC⟩, kb⟩
        replace D := D.trans (kb.mono D.size)
        replace HA := HA.on kb
        replace HB := HB.on kb
        replace IA := IA.on kb
        replace IB := IB.on kb
        replace IE := IE.on kb
        clear kb
        obtain ⟨c0, c1, c2, c3, rfl, -⟩ := HC.scs
        refine ⟨bxVal c0 c1 c2 c3, rfl, ?_⟩
        simp only [Act.put, List.setIfInBounds_toArray, List.set_cons_zero, List.set_cons_succ]
        refine wl_newBx (o := ⟨_, _, _, _, _, _⟩) (o2 := ⟨_, _, _, _, _, _⟩) (by rfl) rfl _ _ rfl (fun _ => rfl) (fun _ => rfl) (fun _ => by rfl) (fun v10 g10 IC kb => ?_)
        simp only [Act.put, List.setIfInBounds_toArray, List.set_cons_zero, List.set_cons_succ]
        replace D := D.trans (kb.mono D.size)
        replace HA := HA.on kb
        replace HB := HB.on kb
        replace IA := IA.on kb
        replace IB := IB.on kb
        replace IE := IE.on kb
        replace HC := HC.on kb
        clear kb
        refine wpList_nil ?_
        refine hK4 _ _ ?_
        clear hK4 K4
        refine wp_seq_k (fun K5 hK5 => ?_)
        have hc := andBx_has FA.good FB.good he
        have hcA := (and_in_left FA.good FB.good FC.good).1
        have hcB := (and_in_left FA.good FB.good FC.good).2
        rcases (by cases hasE a e <;> cases hasE b e <;> simp : hasE a e = false ∨ (hasE a e = true ∧ hasE b e = false) ∨ (hasE a e = true ∧ hasE b e = true)) with ha | ⟨ha, hb⟩ | ⟨ha, hb⟩
        · replace hc : hasE (andBx a b) e = false := by rw [hc, ha, Bool.false_and]
          refine wp_region_held_drew (S := fun w' => BxIn w' g10 c0 c1 c2 c3 ∧ EvIn w' g3 e ∧ BxIn w' g1 a0 a1 a2 a3 ∧ BxIn w' g2 b0 b1 b2 b3) (by kernel_rfl) ⟨IC, IE, IA, IB⟩ (fun hHeld => ?_)
          have kb : Below v10.heap.size v10 v10.drew := (Below.refl _ v10).drew
          replace D := D.trans (kb.mono D.size)
          replace HA := HA.on kb
          replace HB := HB.on kb
          replace IA := IA.on kb
          replace IB := IB.on kb
          replace IE := IE.on kb
          replace HC := HC.on kb
          replace IC := IC.on kb
          clear kb
          generalize v10.drew = v11 at D hHeld HA HB IA IB IE HC IC ⊢
          refine wpAnyH_take (i := 0) (oi := ⟨_, _, _, _, _, _⟩) (v := bxVal c0 c1 c2 c3) rfl (by kernel_rfl) (by kernel_rfl) (by kernel_rfl) (fun _ _ _ h => h) (yl_box (by rfl) _ rfl _ 0 rfl _ _ _ _ _ _ _ _ _ _ _ _ _ _ _ _ (fun _ h => BxIn.cells h.1)) (by assumption) ?_
          simp only [Act.put, List.setIfInBounds_toArray, List.set_cons_zero, List.set_cons_succ]
          refine held_call (o := ⟨_, _, _, _, _, _⟩) 1 (by kernel_rfl) rfl (by rfl) 9 _ _ rfl #[bxVal c0 c1 c2 c3] rfl (run_call Try.func9 (by kernel_rfl) (by kernel_rfl)) ?_
          refine (refRightBx_any _ _ _ HC).mono ?_
          rintro r v12 ⟨rfl, kb⟩
          replace D := D.trans (kb.mono D.size)
          replace HA := HA.on kb
          replace HB := HB.on kb
          replace IA := IA.on kb
          replace IB := IB.on kb
          replace IE := IE.on kb
          replace HC := HC.on kb
          replace IC := IC.on kb
          clear kb
          clear hHeld
          refine ⟨.bool true, ret_bool (rightBx_of FC.good), ⟨IC, IE, IA, IB⟩, fun hHeld => ?_⟩
          simp only [Act.put, List.setIfInBounds_toArray, List.set_cons_zero, List.set_cons_succ]
          refine wpAnyH_take (i := 2) (oi := ⟨_, _, _, _, _, _⟩) (v := .bool true) rfl (by kernel_rfl) (by kernel_rfl) (by kernel_rfl) (fun _ _ _ h => h) (yl_move (by rfl) _ rfl _ rfl) (by assumption) ?_
          simp only [Act.put, List.setIfInBounds_toArray, List.set_cons_zero, List.set_cons_succ]
          refine wpAnyH_take (i := 3) (oi := ⟨_, _, _, _, _, _⟩) (v := bxVal c0 c1 c2 c3) rfl (by kernel_rfl) (by kernel_rfl) (by kernel_rfl) (fun _ _ _ h => h) (yl_box (by rfl) _ rfl _ 0 rfl _ _ _ _ _ _ _ _ _ _ _ _ _ _ _ _ (fun _ h => BxIn.cells h.1)) (by assumption) ?_
          simp only [Act.put, List.setIfInBounds_toArray, List.set_cons_zero, List.set_cons_succ]
          refine wpAnyH_take (i := 4) (oi := ⟨_, _, _, _, _, _⟩) (v := evVal e) rfl (by kernel_rfl) (by kernel_rfl) (by kernel_rfl) (fun _ _ _ h => h) (yl_ev (by rfl) _ rfl _ 0 rfl _ _ _ _ _ _ _ _ _ _ _ _ (fun _ h => EvIn.cells h.2.1)) (by assumption) ?_
          simp only [Act.put, List.setIfInBounds_toArray, List.set_cons_zero, List.set_cons_succ]
          refine wpAnyH_take (i := 6) (oi := ⟨_, _, _, _, _, _⟩) (v := bxVal a0 a1 a2 a3) rfl (by kernel_rfl) (by kernel_rfl) (by kernel_rfl) (fun _ _ _ h => h) (yl_box (by rfl) _ rfl _ 0 rfl _ _ _ _ _ _ _ _ _ _ _ _ _ _ _ _ (fun _ h => BxIn.cells h.2.2.1)) (by assumption) ?_
          simp only [Act.put, List.setIfInBounds_toArray, List.set_cons_zero, List.set_cons_succ]
          refine wpAnyH_take (i := 7) (oi := ⟨_, _, _, _, _, _⟩) (v := evVal e) rfl (by kernel_rfl) (by kernel_rfl) (by kernel_rfl) (fun _ _ _ h => h) (yl_ev (by rfl) _ rfl _ 0 rfl _ _ _ _ _ _ _ _ _ _ _ _ (fun _ h => EvIn.cells h.2.1)) (by assumption) ?_
          simp only [Act.put, List.setIfInBounds_toArray, List.set_cons_zero, List.set_cons_succ]
          refine held_call (o := ⟨_, _, _, _, _, _⟩) 5 (by kernel_rfl) rfl (by rfl) 11 _ _ rfl #[bxVal c0 c1 c2 c3, evVal e] rfl (run_call Try.func11 (by kernel_rfl) (by kernel_rfl)) ?_
          refine (refHasBx_any _ _ e _ HC hf).mono ?_
          rintro r v13 ⟨rfl, kb⟩
          replace D := D.trans (kb.mono D.size)
          replace HA := HA.on kb
          replace HB := HB.on kb
          replace IA := IA.on kb
          replace IB := IB.on kb
          replace IE := IE.on kb
          replace HC := HC.on kb
          replace IC := IC.on kb
          clear kb
          clear hHeld
          refine ⟨.bool false, ret_bool hc, ⟨IC, IE, IA, IB⟩, fun hHeld => ?_⟩
          simp only [Act.put, List.setIfInBounds_toArray, List.set_cons_zero, List.set_cons_succ]
          refine held_call (o := ⟨_, _, _, _, _, _⟩) 8 (by kernel_rfl) rfl (by rfl) 11 _ _ rfl #[bxVal a0 a1 a2 a3, evVal e] rfl (run_call Try.func11 (by kernel_rfl) (by kernel_rfl)) ?_
          refine (refHasBx_any _ _ e _ HA hf).mono ?_
          rintro r v14 ⟨rfl, kb⟩
          replace D := D.trans (kb.mono D.size)
          replace HA := HA.on kb
          replace HB := HB.on kb
          replace IA := IA.on kb
          replace IB := IB.on kb
          replace IE := IE.on kb
          replace HC := HC.on kb
          replace IC := IC.on kb
          clear kb
          clear hHeld
          refine ⟨.bool false, ret_bool ha, ⟨IC, IE, IA, IB⟩, fun hHeld => ?_⟩
          simp only [Act.put, List.setIfInBounds_toArray, List.set_cons_zero, List.set_cons_succ]
          refine wpAnyH_take (i := 9) (oi := ⟨_, _, _, _, _, _⟩) (v := .bool false) rfl (by kernel_rfl) (by kernel_rfl) (by kernel_rfl) (fun _ _ _ h => h) (yl_move (by rfl) _ rfl _ rfl) (by assumption) ?_
          simp only [Act.put, List.setIfInBounds_toArray, List.set_cons_zero, List.set_cons_succ]
          refine wpAnyH_take (i := 10) (oi := ⟨_, _, _, _, _, _⟩) (v := undef) rfl (by kernel_rfl) (by kernel_rfl) (by kernel_rfl) (fun _ _ _ h => h) (yl_undef (by rfl)) (by assumption) ?_
          simp only [Act.put, List.setIfInBounds_toArray, List.set_cons_zero, List.set_cons_succ]
          refine wpAnyH_take (i := 11) (oi := ⟨_, _, _, _, _, _⟩) (v := undef) rfl (by kernel_rfl) (by kernel_rfl) (by kernel_rfl) (fun _ _ _ h => h) (yl_undef (by rfl)) (by assumption) ?_
          simp only [Act.put, List.setIfInBounds_toArray, List.set_cons_zero, List.set_cons_succ]
          refine wpAnyH_take (i := 12) (oi := ⟨_, _, _, _, _, _⟩) (v := undef) rfl (by kernel_rfl) (by kernel_rfl) (by kernel_rfl) (fun _ _ _ h => h) (yl_undef (by rfl)) (by assumption) ?_
          simp only [Act.put, List.setIfInBounds_toArray, List.set_cons_zero, List.set_cons_succ]
          refine wpAnyH_take (i := 13) (oi := ⟨_, _, _, _, _, _⟩) (v := .bool false) rfl (by kernel_rfl) (by kernel_rfl) (by kernel_rfl) (fun _ _ _ h => h) (yl_pickF (by rfl) _ _ _ rfl rfl _ rfl) (by assumption) ?_
          simp only [Act.put, List.setIfInBounds_toArray, List.set_cons_zero, List.set_cons_succ]
          refine wpAnyH_take (i := 14) (oi := ⟨_, _, _, _, _, _⟩) (v := .bool true) rfl (by kernel_rfl) (by kernel_rfl) (by kernel_rfl) (fun _ _ _ h => h) (yl_eqB (by rfl) _ _ _ rfl false false rfl rfl) (by assumption) ?_
          simp only [Act.put, List.setIfInBounds_toArray, List.set_cons_zero, List.set_cons_succ]
          refine wpAnyH_take (i := 15) (oi := ⟨_, _, _, _, _, _⟩) (v := .bool true) rfl (by kernel_rfl) (by kernel_rfl) (by kernel_rfl) (fun _ _ _ h => h) (yl_pickT (by rfl) _ _ _ rfl rfl _ rfl) (by assumption) ?_
          simp only [Act.put, List.setIfInBounds_toArray, List.set_cons_zero, List.set_cons_succ]
          refine wpAnyH_take (i := 16) (oi := ⟨_, _, _, _, _, _⟩) (v := .bool true) rfl (by kernel_rfl) (by kernel_rfl) (by kernel_rfl) (fun _ _ _ h => h) (yl_move (by rfl) _ rfl _ rfl) (by assumption) ?_
          simp only [Act.put, List.setIfInBounds_toArray, List.set_cons_zero, List.set_cons_succ]
          refine wpAnyH_take (i := 17) (oi := ⟨_, _, _, _, _, _⟩) (v := bxVal c0 c1 c2 c3) rfl (by kernel_rfl) (by kernel_rfl) (by kernel_rfl) (fun _ _ _ h => h) (yl_box (by rfl) _ rfl _ 0 rfl _ _ _ _ _ _ _ _ _ _ _ _ _ _ _ _ (fun _ h => BxIn.cells h.1)) (by assumption) ?_
          simp only [Act.put, List.setIfInBounds_toArray, List.set_cons_zero, List.set_cons_succ]
          refine wpAnyH_take (i := 18) (oi := ⟨_, _, _, _, _, _⟩) (v := bxVal a0 a1 a2 a3) rfl (by kernel_rfl) (by kernel_rfl) (by kernel_rfl) (fun _ _ _ h => h) (yl_box (by rfl) _ rfl _ 0 rfl _ _ _ _ _ _ _ _ _ _ _ _ _ _ _ _ (fun _ h => BxIn.cells h.2.2.1)) (by assumption) ?_
          simp only [Act.put, List.setIfInBounds_toArray, List.set_cons_zero, List.set_cons_succ]
          refine held_call (o := ⟨_, _, _, _, _, _⟩) 19 (by kernel_rfl) rfl (by rfl) 12 _ _ rfl #[bxVal c0 c1 c2 c3, bxVal a0 a1 a2 a3] rfl (run_call Try.func12 (by kernel_rfl) (by kernel_rfl)) ?_
          refine (P.in_ _ _ _ a _ HC HA FC FA.fit).mono ?_
          rintro r v15 ⟨rfl, kb⟩
          replace D := D.trans (kb.mono D.size)
          replace HA := HA.on kb
          replace HB := HB.on kb
          replace IA := IA.on kb
          replace IB := IB.on kb
          replace IE := IE.on kb
          replace HC := HC.on kb
          replace IC := IC.on kb
          clear kb
          clear hHeld
          refine ⟨.bool true, ret_bool hcA, ⟨IC, IE, IA, IB⟩, fun hHeld => ?_⟩
          simp only [Act.put, List.setIfInBounds_toArray, List.set_cons_zero, List.set_cons_succ]
          refine wpAnyH_take (i := 20) (oi := ⟨_, _, _, _, _, _⟩) (v := .bool true) rfl (by kernel_rfl) (by kernel_rfl) (by kernel_rfl) (fun _ _ _ h => h) (yl_pickT (by rfl) _ _ _ rfl rfl _ rfl) (by assumption) ?_
          simp only [Act.put, List.setIfInBounds_toArray, List.set_cons_zero, List.set_cons_succ]
          refine wpAnyH_take (i := 21) (oi := ⟨_, _, _, _, _, _⟩) (v := .bool true) rfl (by kernel_rfl) (by kernel_rfl) (by kernel_rfl) (fun _ _ _ h => h) (yl_move (by rfl) _ rfl _ rfl) (by assumption) ?_
          simp only [Act.put, List.setIfInBounds_toArray, List.set_cons_zero, List.set_cons_succ]
          refine wpAnyH_take (i := 22) (oi := ⟨_, _, _, _, _, _⟩) (v := bxVal c0 c1 c2 c3) rfl (by kernel_rfl) (by kernel_rfl) (by kernel_rfl) (fun _ _ _ h => h) (yl_box (by rfl) _ rfl _ 0 rfl _ _ _ _ _ _ _ _ _ _ _ _ _ _ _ _ (fun _ h => BxIn.cells h.1)) (by assumption) ?_
          simp only [Act.put, List.setIfInBounds_toArray, List.set_cons_zero, List.set_cons_succ]
          refine wpAnyH_take (i := 23) (oi := ⟨_, _, _, _, _, _⟩) (v := bxVal b0 b1 b2 b3) rfl (by kernel_rfl) (by kernel_rfl) (by kernel_rfl) (fun _ _ _ h => h) (yl_box (by rfl) _ rfl _ 0 rfl _ _ _ _ _ _ _ _ _ _ _ _ _ _ _ _ (fun _ h => BxIn.cells h.2.2.2)) (by assumption) ?_
          simp only [Act.put, List.setIfInBounds_toArray, List.set_cons_zero, List.set_cons_succ]
          refine held_call (o := ⟨_, _, _, _, _, _⟩) 24 (by kernel_rfl) rfl (by rfl) 12 _ _ rfl #[bxVal c0 c1 c2 c3, bxVal b0 b1 b2 b3] rfl (run_call Try.func12 (by kernel_rfl) (by kernel_rfl)) ?_
          refine (P.in_ _ _ _ b _ HC HB FC FB.fit).mono ?_
          rintro r v16 ⟨rfl, kb⟩
          replace D := D.trans (kb.mono D.size)
          replace HA := HA.on kb
          replace HB := HB.on kb
          replace IA := IA.on kb
          replace IB := IB.on kb
          replace IE := IE.on kb
          replace HC := HC.on kb
          replace IC := IC.on kb
          clear kb
          clear hHeld
          refine ⟨.bool true, ret_bool hcB, ⟨IC, IE, IA, IB⟩, fun hHeld => ?_⟩
          simp only [Act.put, List.setIfInBounds_toArray, List.set_cons_zero, List.set_cons_succ]
          refine wpAnyH_take (i := 25) (oi := ⟨_, _, _, _, _, _⟩) (v := .bool true) rfl (by kernel_rfl) (by kernel_rfl) (by kernel_rfl) (fun _ _ _ h => h) (yl_pickT (by rfl) _ _ _ rfl rfl _ rfl) (by assumption) ?_
          simp only [Act.put, List.setIfInBounds_toArray, List.set_cons_zero, List.set_cons_succ]
          refine wpAnyH_take (i := 26) (oi := ⟨_, _, _, _, _, _⟩) (v := .bool true) rfl (by kernel_rfl) (by kernel_rfl) (by kernel_rfl) (fun _ _ _ h => h) (yl_assign (by rfl) _ rfl _ rfl) (by assumption) ?_
          simp only [Act.put, List.setIfInBounds_toArray, List.set_cons_zero, List.set_cons_succ]
          refine wpAnyH_done (by kernel_rfl) ?_ _
          clear hHeld
          refine hK5 _ _ ?_
          clear hK5 K5
          refine wp_ret ?_
          go_ret
          exact ⟨rfl, D⟩
        · replace hc : hasE (andBx a b) e = false := by rw [hc, ha, hb]; rfl
          refine wp_region_held_drew (S := fun w' => BxIn w' g10 c0 c1 c2 c3 ∧ EvIn w' g3 e ∧ BxIn w' g1 a0 a1 a2 a3 ∧ BxIn w' g2 b0 b1 b2 b3) (by kernel_rfl) ⟨IC, IE, IA, IB⟩ (fun hHeld => ?_)
          have kb : Below v10.heap.size v10 v10.drew := (Below.refl _ v10).drew
          replace D := D.trans (kb.mono D.size)
          replace HA := HA.on kb
          replace HB := HB.on kb
          replace IA := IA.on kb
          replace IB := IB.on kb
          replace IE := IE.on kb
          replace HC := HC.on kb
          replace IC := IC.on kb
          clear kb
          generalize v10.drew = v11 at D hHeld HA HB IA IB IE HC IC ⊢
          refine wpAnyH_take (i := 0) (oi := ⟨_, _, _, _, _, _⟩) (v := bxVal c0 c1 c2 c3) rfl (by kernel_rfl) (by kernel_rfl) (by kernel_rfl) (fun _ _ _ h => h) (yl_box (by rfl) _ rfl _ 0 rfl _ _ _ _ _ _ _ _ _ _ _ _ _ _ _ _ (fun _ h => BxIn.cells h.1)) (by assumption) ?_
          simp only [Act.put, List.setIfInBounds_toArray, List.set_cons_zero, List.set_cons_succ]
          refine held_call (o := ⟨_, _, _, _, _, _⟩) 1 (by kernel_rfl) rfl (by rfl) 9 _ _ rfl #[bxVal c0 c1 c2 c3] rfl (run_call Try.func9 (by kernel_rfl) (by kernel_rfl)) ?_
          refine (refRightBx_any _ _ _ HC).mono ?_
          rintro r v12 ⟨rfl, kb⟩
          replace D := D.trans (kb.mono D.size)
          replace HA := HA.on kb
          replace HB := HB.on kb
          replace IA := IA.on kb
          replace IB := IB.on kb
          replace IE := IE.on kb
          replace HC := HC.on kb
          replace IC := IC.on kb
          clear kb
          clear hHeld
          refine ⟨.bool true, ret_bool (rightBx_of FC.good), ⟨IC, IE, IA, IB⟩, fun hHeld => ?_⟩
          simp only [Act.put, List.setIfInBounds_toArray, List.set_cons_zero, List.set_cons_succ]
          refine wpAnyH_take (i := 2) (oi := ⟨_, _, _, _, _, _⟩) (v := .bool true) rfl (by kernel_rfl) (by kernel_rfl) (by kernel_rfl) (fun _ _ _ h => h) (yl_move (by rfl) _ rfl _ rfl) (by assumption) ?_
          simp only [Act.put, List.setIfInBounds_toArray, List.set_cons_zero, List.set_cons_succ]
          refine wpAnyH_take (i := 3) (oi := ⟨_, _, _, _, _, _⟩) (v := bxVal c0 c1 c2 c3) rfl (by kernel_rfl) (by kernel_rfl) (by kernel_rfl) (fun _ _ _ h => h) (yl_box (by rfl) _ rfl _ 0 rfl _ _ _ _ _ _ _ _ _ _ _ _ _ _ _ _ (fun _ h => BxIn.cells h.1)) (by assumption) ?_
          simp only [Act.put, List.setIfInBounds_toArray, List.set_cons_zero, List.set_cons_succ]
          refine wpAnyH_take (i := 4) (oi := ⟨_, _, _, _, _, _⟩) (v := evVal e) rfl (by kernel_rfl) (by kernel_rfl) (by kernel_rfl) (fun _ _ _ h => h) (yl_ev (by rfl) _ rfl _ 0 rfl _ _ _ _ _ _ _ _ _ _ _ _ (fun _ h => EvIn.cells h.2.1)) (by assumption) ?_
          simp only [Act.put, List.setIfInBounds_toArray, List.set_cons_zero, List.set_cons_succ]
          refine wpAnyH_take (i := 6) (oi := ⟨_, _, _, _, _, _⟩) (v := bxVal a0 a1 a2 a3) rfl (by kernel_rfl) (by kernel_rfl) (by kernel_rfl) (fun _ _ _ h => h) (yl_box (by rfl) _ rfl _ 0 rfl _ _ _ _ _ _ _ _ _ _ _ _ _ _ _ _ (fun _ h => BxIn.cells h.2.2.1)) (by assumption) ?_
          simp only [Act.put, List.setIfInBounds_toArray, List.set_cons_zero, List.set_cons_succ]
          refine wpAnyH_take (i := 7) (oi := ⟨_, _, _, _, _, _⟩) (v := evVal e) rfl (by kernel_rfl) (by kernel_rfl) (by kernel_rfl) (fun _ _ _ h => h) (yl_ev (by rfl) _ rfl _ 0 rfl _ _ _ _ _ _ _ _ _ _ _ _ (fun _ h => EvIn.cells h.2.1)) (by assumption) ?_
          simp only [Act.put, List.setIfInBounds_toArray, List.set_cons_zero, List.set_cons_succ]
          refine held_call (o := ⟨_, _, _, _, _, _⟩) 5 (by kernel_rfl) rfl (by rfl) 11 _ _ rfl #[bxVal c0 c1 c2 c3, evVal e] rfl (run_call Try.func11 (by kernel_rfl) (by kernel_rfl)) ?_
          refine (refHasBx_any _ _ e _ HC hf).mono ?_
          rintro r v13 ⟨rfl, kb⟩
          replace D := D.trans (kb.mono D.size)
          replace HA := HA.on kb
          replace HB := HB.on kb
          replace IA := IA.on kb
          replace IB := IB.on kb
          replace IE := IE.on kb
          replace HC := HC.on kb
          replace IC := IC.on kb
          clear kb
          clear hHeld
          refine ⟨.bool false, ret_bool hc, ⟨IC, IE, IA, IB⟩, fun hHeld => ?_⟩
          simp only [Act.put, List.setIfInBounds_toArray, List.set_cons_zero, List.set_cons_succ]
          refine held_call (o := ⟨_, _, _, _, _, _⟩) 8 (by kernel_rfl) rfl (by rfl) 11 _ _ rfl #[bxVal a0 a1 a2 a3, evVal e] rfl (run_call Try.func11 (by kernel_rfl) (by kernel_rfl)) ?_
          refine (refHasBx_any _ _ e _ HA hf).mono ?_
          rintro r v14 ⟨rfl, kb⟩
          replace D := D.trans (kb.mono D.size)
          replace HA := HA.on kb
          replace HB := HB.on kb
          replace IA := IA.on kb
          replace IB := IB.on kb
          replace IE := IE.on kb
          replace HC := HC.on kb
          replace IC := IC.on kb
          clear kb
          clear hHeld
          refine ⟨.bool true, ret_bool ha, ⟨IC, IE, IA, IB⟩, fun hHeld => ?_⟩
          simp only [Act.put, List.setIfInBounds_toArray, List.set_cons_zero, List.set_cons_succ]
          refine wpAnyH_take (i := 9) (oi := ⟨_, _, _, _, _, _⟩) (v := .bool true) rfl (by kernel_rfl) (by kernel_rfl) (by kernel_rfl) (fun _ _ _ h => h) (yl_move (by rfl) _ rfl _ rfl) (by assumption) ?_
          simp only [Act.put, List.setIfInBounds_toArray, List.set_cons_zero, List.set_cons_succ]
          refine wpAnyH_take (i := 10) (oi := ⟨_, _, _, _, _, _⟩) (v := bxVal b0 b1 b2 b3) rfl (by kernel_rfl) (by kernel_rfl) (by kernel_rfl) (fun _ _ _ h => h) (yl_box (by rfl) _ rfl _ 0 rfl _ _ _ _ _ _ _ _ _ _ _ _ _ _ _ _ (fun _ h => BxIn.cells h.2.2.2)) (by assumption) ?_
          simp only [Act.put, List.setIfInBounds_toArray, List.set_cons_zero, List.set_cons_succ]
          refine wpAnyH_take (i := 11) (oi := ⟨_, _, _, _, _, _⟩) (v := evVal e) rfl (by kernel_rfl) (by kernel_rfl) (by kernel_rfl) (fun _ _ _ h => h) (yl_ev (by rfl) _ rfl _ 0 rfl _ _ _ _ _ _ _ _ _ _ _ _ (fun _ h => EvIn.cells h.2.1)) (by assumption) ?_
          simp only [Act.put, List.setIfInBounds_toArray, List.set_cons_zero, List.set_cons_succ]
          refine held_call (o := ⟨_, _, _, _, _, _⟩) 12 (by kernel_rfl) rfl (by rfl) 11 _ _ rfl #[bxVal b0 b1 b2 b3, evVal e] rfl (run_call Try.func11 (by kernel_rfl) (by kernel_rfl)) ?_
          refine (refHasBx_any _ _ e _ HB hf).mono ?_
          rintro r v15 ⟨rfl, kb⟩
          replace D := D.trans (kb.mono D.size)
          replace HA := HA.on kb
          replace HB := HB.on kb
          replace IA := IA.on kb
          replace IB := IB.on kb
          replace IE := IE.on kb
          replace HC := HC.on kb
          replace IC := IC.on kb
          clear kb
          clear hHeld
          refine ⟨.bool false, ret_bool hb, ⟨IC, IE, IA, IB⟩, fun hHeld => ?_⟩
          simp only [Act.put, List.setIfInBounds_toArray, List.set_cons_zero, List.set_cons_succ]
          refine wpAnyH_take (i := 13) (oi := ⟨_, _, _, _, _, _⟩) (v := .bool false) rfl (by kernel_rfl) (by kernel_rfl) (by kernel_rfl) (fun _ _ _ h => h) (yl_pickT (by rfl) _ _ _ rfl rfl _ rfl) (by assumption) ?_
          simp only [Act.put, List.setIfInBounds_toArray, List.set_cons_zero, List.set_cons_succ]
          refine wpAnyH_take (i := 14) (oi := ⟨_, _, _, _, _, _⟩) (v := .bool true) rfl (by kernel_rfl) (by kernel_rfl) (by kernel_rfl) (fun _ _ _ h => h) (yl_eqB (by rfl) _ _ _ rfl false false rfl rfl) (by assumption) ?_
          simp only [Act.put, List.setIfInBounds_toArray, List.set_cons_zero, List.set_cons_succ]
          refine wpAnyH_take (i := 15) (oi := ⟨_, _, _, _, _, _⟩) (v := .bool true) rfl (by kernel_rfl) (by kernel_rfl) (by kernel_rfl) (fun _ _ _ h => h) (yl_pickT (by rfl) _ _ _ rfl rfl _ rfl) (by assumption) ?_
          simp only [Act.put, List.setIfInBounds_toArray, List.set_cons_zero, List.set_cons_succ]
          refine wpAnyH_take (i := 16) (oi := ⟨_, _, _, _, _, _⟩) (v := .bool true) rfl (by kernel_rfl) (by kernel_rfl) (by kernel_rfl) (fun _ _ _ h => h) (yl_move (by rfl) _ rfl _ rfl) (by assumption) ?_
          simp only [Act.put, List.setIfInBounds_toArray, List.set_cons_zero, List.set_cons_succ]
          refine wpAnyH_take (i := 17) (oi := ⟨_, _, _, _, _, _⟩) (v := bxVal c0 c1 c2 c3) rfl (by kernel_rfl) (by kernel_rfl) (by kernel_rfl) (fun _ _ _ h => h) (yl_box (by rfl) _ rfl _ 0 rfl _ _ _ _ _ _ _ _ _ _ _ _ _ _ _ _ (fun _ h => BxIn.cells h.1)) (by assumption) ?_
          simp only [Act.put, List.setIfInBounds_toArray, List.set_cons_zero, List.set_cons_succ]
          refine wpAnyH_take (i := 18) (oi := ⟨_, _, _, _, _, _⟩) (v := bxVal a0 a1 a2 a3) rfl (by kernel_rfl) (by kernel_rfl) (by kernel_rfl) (fun _ _ _ h => h) (yl_box (by rfl) _ rfl _ 0 rfl _ _ _ _ _ _ _ _ _ _ _ _ _ _ _ _ (fun _ h => BxIn.cells h.2.2.1)) (by assumption) ?_
          simp only [Act.put, List.setIfInBounds_toArray, List.set_cons_zero, List.set_cons_succ]
          refine held_call (o := ⟨_, _, _, _, _, _⟩) 19 (by kernel_rfl) rfl (by rfl) 12 _ _ rfl #[bxVal c0 c1 c2 c3, bxVal a0 a1 a2 a3] rfl (run_call Try.func12 (by kernel_rfl) (by kernel_rfl)) ?_
          refine (P.in_ _ _ _ a _ HC HA FC FA.fit).mono ?_
          rintro r v16 ⟨rfl, kb⟩
          replace D := D.trans (kb.mono D.size)
          replace HA := HA.on kb
          replace HB := HB.on kb
          replace IA := IA.on kb
          replace IB := IB.on kb
          replace IE := IE.on kb
          replace HC := HC.on kb
          replace IC := IC.on kb
          clear kb
          clear hHeld
          refine ⟨.bool true, ret_bool hcA, ⟨IC, IE, IA, IB⟩, fun hHeld => ?_⟩
          simp only [Act.put, List.setIfInBounds_toArray, List.set_cons_zero, List.set_cons_succ]
          refine wpAnyH_take (i := 20) (oi := ⟨_, _, _, _, _, _⟩) (v := .bool true) rfl (by kernel_rfl) (by kernel_rfl) (by kernel_rfl) (fun _ _ _ h => h) (yl_pickT (by rfl) _ _ _ rfl rfl _ rfl) (by assumption) ?_
          simp only [Act.put, List.setIfInBounds_toArray, List.set_cons_zero, List.set_cons_succ]
          refine wpAnyH_take (i := 21) (oi := ⟨_, _, _, _, _, _⟩) (v := .bool true) rfl (by kernel_rfl) (by kernel_rfl) (by kernel_rfl) (fun _ _ _ h => h) (yl_move (by rfl) _ rfl _ rfl) (by assumption) ?_
          simp only [Act.put, List.setIfInBounds_toArray, List.set_cons_zero, List.set_cons_succ]
          refine wpAnyH_take (i := 22) (oi := ⟨_, _, _, _, _, _⟩) (v := bxVal c0 c1 c2 c3) rfl (by kernel_rfl) (by kernel_rfl) (by kernel_rfl) (fun _ _ _ h => h) (yl_box (by rfl) _ rfl _ 0 rfl _ _ _ _ _ _ _ _ _ _ _ _ _ _ _ _ (fun _ h => BxIn.cells h.1)) (by assumption) ?_
          simp only [Act.put, List.setIfInBounds_toArray, List.set_cons_zero, List.set_cons_succ]
          refine wpAnyH_take (i := 23) (oi := ⟨_, _, _, _, _, _⟩) (v := bxVal b0 b1 b2 b3) rfl (by kernel_rfl) (by kernel_rfl) (by kernel_rfl) (fun _ _ _ h => h) (yl_box (by rfl) _ rfl _ 0 rfl _ _ _ _ _ _ _ _ _ _ _ _ _ _ _ _ (fun _ h => BxIn.cells h.2.2.2)) (by assumption) ?_
          simp only [Act.put, List.setIfInBounds_toArray, List.set_cons_zero, List.set_cons_succ]
          refine held_call (o := ⟨_, _, _, _, _, _⟩) 24 (by kernel_rfl) rfl (by rfl) 12 _ _ rfl #[bxVal c0 c1 c2 c3, bxVal b0 b1 b2 b3] rfl (run_call Try.func12 (by kernel_rfl) (by kernel_rfl)) ?_
          refine (P.in_ _ _ _ b _ HC HB FC FB.fit).mono ?_
          rintro r v17 ⟨rfl, kb⟩
          replace D := D.trans (kb.mono D.size)
          replace HA := HA.on kb
          replace HB := HB.on kb
          replace IA := IA.on kb
          replace IB := IB.on kb
          replace IE := IE.on kb
          replace HC := HC.on kb
          replace IC := IC.on kb
          clear kb
          clear hHeld
          refine ⟨.bool true, ret_bool hcB, ⟨IC, IE, IA, IB⟩, fun hHeld => ?_⟩
          simp only [Act.put, List.setIfInBounds_toArray, List.set_cons_zero, List.set_cons_succ]
          refine wpAnyH_take (i := 25) (oi := ⟨_, _, _, _, _, _⟩) (v := .bool true) rfl (by kernel_rfl) (by kernel_rfl) (by kernel_rfl) (fun _ _ _ h => h) (yl_pickT (by rfl) _ _ _ rfl rfl _ rfl) (by assumption) ?_
          simp only [Act.put, List.setIfInBounds_toArray, List.set_cons_zero, List.set_cons_succ]
          refine wpAnyH_take (i := 26) (oi := ⟨_, _, _, _, _, _⟩) (v := .bool true) rfl (by kernel_rfl) (by kernel_rfl) (by kernel_rfl) (fun _ _ _ h => h) (yl_assign (by rfl) _ rfl _ rfl) (by assumption) ?_
          simp only [Act.put, List.setIfInBounds_toArray, List.set_cons_zero, List.set_cons_succ]
          refine wpAnyH_done (by kernel_rfl) ?_ _
          clear hHeld
          refine hK5 _ _ ?_
          clear hK5 K5
          refine wp_ret ?_
          go_ret
          exact ⟨rfl, D⟩
        · replace hc : hasE (andBx a b) e = true := by rw [hc, ha, hb]; rfl
          refine wp_region_held_drew (S := fun w' => BxIn w' g10 c0 c1 c2 c3 ∧ EvIn w' g3 e ∧ BxIn w' g1 a0 a1 a2 a3 ∧ BxIn w' g2 b0 b1 b2 b3) (by kernel_rfl) ⟨IC, IE, IA, IB⟩ (fun hHeld => ?_)
          have kb : Below v10.heap.size v10 v10.drew := (Below.refl _ v10).drew
          replace D := D.trans (kb.mono D.size)
          replace HA := HA.on kb
          replace HB := HB.on kb
          replace IA := IA.on kb
          replace IB := IB.on kb
          replace IE := IE.on kb
          replace HC := HC.on kb
          replace IC := IC.on kb
          clear kb
          generalize v10.drew = v11 at D hHeld HA HB IA IB IE HC IC ⊢
          refine wpAnyH_take (i := 0) (oi := ⟨_, _, _, _, _, _⟩) (v := bxVal c0 c1 c2 c3) rfl (by kernel_rfl) (by kernel_rfl) (by kernel_rfl) (fun _ _ _ h => h) (yl_box (by rfl) _ rfl _ 0 rfl _ _ _ _ _ _ _ _ _ _ _ _ _ _ _ _ (fun _ h => BxIn.cells h.1)) (by assumption) ?_
          simp only [Act.put, List.setIfInBounds_toArray, List.set_cons_zero, List.set_cons_succ]
          refine held_call (o := ⟨_, _, _, _, _, _⟩) 1 (by kernel_rfl) rfl (by rfl) 9 _ _ rfl #[bxVal c0 c1 c2 c3] rfl (run_call Try.func9 (by kernel_rfl) (by kernel_rfl)) ?_
          refine (refRightBx_any _ _ _ HC).mono ?_
          rintro r v12 ⟨rfl, kb⟩
          replace D := D.trans (kb.mono D.size)
          replace HA := HA.on kb
          replace HB := HB.on kb
          replace IA := IA.on kb
          replace IB := IB.on kb
          replace IE := IE.on kb
          replace HC := HC.on kb
          replace IC := IC.on kb
          clear kb
          clear hHeld
          refine ⟨.bool true, ret_bool (rightBx_of FC.good), ⟨IC, IE, IA, IB⟩, fun hHeld => ?_⟩
          simp only [Act.put, List.setIfInBounds_toArray, List.set_cons_zero, List.set_cons_succ]
          refine wpAnyH_take (i := 2) (oi := ⟨_, _, _, _, _, _⟩) (v := .bool true) rfl (by kernel_rfl) (by kernel_rfl) (by kernel_rfl) (fun _ _ _ h => h) (yl_move (by rfl) _ rfl _ rfl) (by assumption) ?_
          simp only [Act.put, List.setIfInBounds_toArray, List.set_cons_zero, List.set_cons_succ]
          refine wpAnyH_take (i := 3) (oi := ⟨_, _, _, _, _, _⟩) (v := bxVal c0 c1 c2 c3) rfl (by kernel_rfl) (by kernel_rfl) (by kernel_rfl) (fun _ _ _ h => h) (yl_box (by rfl) _ rfl _ 0 rfl _ _ _ _ _ _ _ _ _ _ _ _ _ _ _ _ (fun _ h => BxIn.cells h.1)) (by assumption) ?_
          simp only [Act.put, List.setIfInBounds_toArray, List.set_cons_zero, List.set_cons_succ]
          refine wpAnyH_take (i := 4) (oi := ⟨_, _, _, _, _, _⟩) (v := evVal e) rfl (by kernel_rfl) (by kernel_rfl) (by kernel_rfl) (fun _ _ _ h => h) (yl_ev (by rfl) _ rfl _ 0 rfl _ _ _ _ _ _ _ _ _ _ _ _ (fun _ h => EvIn.cells h.2.1)) (by assumption) ?_
          simp only [Act.put, List.setIfInBounds_toArray, List.set_cons_zero, List.set_cons_succ]
          refine wpAnyH_take (i := 6) (oi := ⟨_, _, _, _, _, _⟩) (v := bxVal a0 a1 a2 a3) rfl (by kernel_rfl) (by kernel_rfl) (by kernel_rfl) (fun _ _ _ h => h) (yl_box (by rfl) _ rfl _ 0 rfl _ _ _ _ _ _ _ _ _ _ _ _ _ _ _ _ (fun _ h => BxIn.cells h.2.2.1)) (by assumption) ?_
          simp only [Act.put, List.setIfInBounds_toArray, List.set_cons_zero, List.set_cons_succ]
          refine wpAnyH_take (i := 7) (oi := ⟨_, _, _, _, _, _⟩) (v := evVal e) rfl (by kernel_rfl) (by kernel_rfl) (by kernel_rfl) (fun _ _ _ h => h) (yl_ev (by rfl) _ rfl _ 0 rfl _ _ _ _ _ _ _ _ _ _ _ _ (fun _ h => EvIn.cells h.2.1)) (by assumption) ?_
          simp only [Act.put, List.setIfInBounds_toArray, List.set_cons_zero, List.set_cons_succ]
          refine held_call (o := ⟨_, _, _, _, _, _⟩) 5 (by kernel_rfl) rfl (by rfl) 11 _ _ rfl #[bxVal c0 c1 c2 c3, evVal e] rfl (run_call Try.func11 (by kernel_rfl) (by kernel_rfl)) ?_
          refine (refHasBx_any _ _ e _ HC hf).mono ?_
          rintro r v13 ⟨rfl, kb⟩
          replace D := D.trans (kb.mono D.size)
          replace HA := HA.on kb
          replace HB := HB.on kb
          replace IA := IA.on kb
          replace IB := IB.on kb
          replace IE := IE.on kb
          replace HC := HC.on kb
          replace IC := IC.on kb
          clear kb
          clear hHeld
          refine ⟨.bool true, ret_bool hc, ⟨IC, IE, IA, IB⟩, fun hHeld => ?_⟩
          simp only [Act.put, List.setIfInBounds_toArray, List.set_cons_zero, List.set_cons_succ]
          refine held_call (o := ⟨_, _, _, _, _, _⟩) 8 (by kernel_rfl) rfl (by rfl) 11 _ _ rfl #[bxVal a0 a1 a2 a3, evVal e] rfl (run_call Try.func11 (by kernel_rfl) (by kernel_rfl)) ?_
          refine (refHasBx_any _ _ e _ HA hf).mono ?_
          rintro r v14 ⟨rfl, kb⟩
          replace D := D.trans (kb.mono D.size)
          replace HA := HA.on kb
          replace HB := HB.on kb
          replace IA := IA.on kb
          replace IB := IB.on kb
          replace IE := IE.on kb
          replace HC := HC.on kb
          replace IC := IC.on kb
          clear kb
          clear hHeld
          refine ⟨.bool true, ret_bool ha, ⟨IC, IE, IA, IB⟩, fun hHeld => ?_⟩
          simp only [Act.put, List.setIfInBounds_toArray, List.set_cons_zero, List.set_cons_succ]
          refine wpAnyH_take (i := 9) (oi := ⟨_, _, _, _, _, _⟩) (v := .bool true) rfl (by kernel_rfl) (by kernel_rfl) (by kernel_rfl) (fun _ _ _ h => h) (yl_move (by rfl) _ rfl _ rfl) (by assumption) ?_
          simp only [Act.put, List.setIfInBounds_toArray, List.set_cons_zero, List.set_cons_succ]
          refine wpAnyH_take (i := 10) (oi := ⟨_, _, _, _, _, _⟩) (v := bxVal b0 b1 b2 b3) rfl (by kernel_rfl) (by kernel_rfl) (by kernel_rfl) (fun _ _ _ h => h) (yl_box (by rfl) _ rfl _ 0 rfl _ _ _ _ _ _ _ _ _ _ _ _ _ _ _ _ (fun _ h => BxIn.cells h.2.2.2)) (by assumption) ?_
          simp only [Act.put, List.setIfInBounds_toArray, List.set_cons_zero, List.set_cons_succ]
          refine wpAnyH_take (i := 11) (oi := ⟨_, _, _, _, _, _⟩) (v := evVal e) rfl (by kernel_rfl) (by kernel_rfl) (by kernel_rfl) (fun _ _ _ h => h) (yl_ev (by rfl) _ rfl _ 0 rfl _ _ _ _ _ _ _ _ _ _ _ _ (fun _ h => EvIn.cells h.2.1)) (by assumption) ?_
          simp only [Act.put, List.setIfInBounds_toArray, List.set_cons_zero, List.set_cons_succ]
          refine held_call (o := ⟨_, _, _, _, _, _⟩) 12 (by kernel_rfl) rfl (by rfl) 11 _ _ rfl #[bxVal b0 b1 b2 b3, evVal e] rfl (run_call Try.func11 (by kernel_rfl) (by kernel_rfl)) ?_
          refine (refHasBx_any _ _ e _ HB hf).mono ?_
          rintro r v15 ⟨rfl, kb⟩
          replace D := D.trans (kb.mono D.size)
          replace HA := HA.on kb
          replace HB := HB.on kb
          replace IA := IA.on kb
          replace IB := IB.on kb
          replace IE := IE.on kb
          replace HC := HC.on kb
          replace IC := IC.on kb
          clear kb
          clear hHeld
          refine ⟨.bool true, ret_bool hb, ⟨IC, IE, IA, IB⟩, fun hHeld => ?_⟩
          simp only [Act.put, List.setIfInBounds_toArray, List.set_cons_zero, List.set_cons_succ]
          refine wpAnyH_take (i := 13) (oi := ⟨_, _, _, _, _, _⟩) (v := .bool true) rfl (by kernel_rfl) (by kernel_rfl) (by kernel_rfl) (fun _ _ _ h => h) (yl_pickT (by rfl) _ _ _ rfl rfl _ rfl) (by assumption) ?_
          simp only [Act.put, List.setIfInBounds_toArray, List.set_cons_zero, List.set_cons_succ]
          refine wpAnyH_take (i := 14) (oi := ⟨_, _, _, _, _, _⟩) (v := .bool true) rfl (by kernel_rfl) (by kernel_rfl) (by kernel_rfl) (fun _ _ _ h => h) (yl_eqB (by rfl) _ _ _ rfl true true rfl rfl) (by assumption) ?_
          simp only [Act.put, List.setIfInBounds_toArray, List.set_cons_zero, List.set_cons_succ]
          refine wpAnyH_take (i := 15) (oi := ⟨_, _, _, _, _, _⟩) (v := .bool true) rfl (by kernel_rfl) (by kernel_rfl) (by kernel_rfl) (fun _ _ _ h => h) (yl_pickT (by rfl) _ _ _ rfl rfl _ rfl) (by assumption) ?_
          simp only [Act.put, List.setIfInBounds_toArray, List.set_cons_zero, List.set_cons_succ]
          refine wpAnyH_take (i := 16) (oi := ⟨_, _, _, _, _, _⟩) (v := .bool true) rfl (by kernel_rfl) (by kernel_rfl) (by kernel_rfl) (fun _ _ _ h => h) (yl_move (by rfl) _ rfl _ rfl) (by assumption) ?_
          simp only [Act.put, List.setIfInBounds_toArray, List.set_cons_zero, List.set_cons_succ]
          refine wpAnyH_take (i := 17) (oi := ⟨_, _, _, _, _, _⟩) (v := bxVal c0 c1 c2 c3) rfl (by kernel_rfl) (by kernel_rfl) (by kernel_rfl) (fun _ _ _ h => h) (yl_box (by rfl) _ rfl _ 0 rfl _ _ _ _ _ _ _ _ _ _ _ _ _ _ _ _ (fun _ h => BxIn.cells h.1)) (by assumption) ?_
          simp only [Act.put, List.setIfInBounds_toArray, List.set_cons_zero, List.set_cons_succ]
          refine wpAnyH_take (i := 18) (oi := ⟨_, _, _, _, _, _⟩) (v := bxVal a0 a1 a2 a3) rfl (by kernel_rfl) (by kernel_rfl) (by kernel_rfl) (fun _ _ _ h => h) (yl_box (by rfl) _ rfl _ 0 rfl _ _ _ _ _ _ _ _ _ _ _ _ _ _ _ _ (fun _ h => BxIn.cells h.2.2.1)) (by assumption) ?_
          simp only [Act.put, List.setIfInBounds_toArray, List.set_cons_zero, List.set_cons_succ]
          refine held_call (o := ⟨_, _, _, _, _, _⟩) 19 (by kernel_rfl) rfl (by rfl) 12 _ _ rfl #[bxVal c0 c1 c2 c3, bxVal a0 a1 a2 a3] rfl (run_call Try.func12 (by kernel_rfl) (by kernel_rfl)) ?_
          refine (P.in_ _ _ _ a _ HC HA FC FA.fit).mono ?_
          rintro r v16 ⟨rfl, kb⟩
          replace D := D.trans (kb.mono D.size)
          replace HA := HA.on kb
          replace HB := HB.on kb
          replace IA := IA.on kb
          replace IB := IB.on kb
          replace IE := IE.on kb
          replace HC := HC.on kb
          replace IC := IC.on kb
          clear kb
          clear hHeld
          refine ⟨.bool true, ret_bool hcA, ⟨IC, IE, IA, IB⟩, fun hHeld => ?_⟩
          simp only [Act.put, List.setIfInBounds_toArray, List.set_cons_zero, List.set_cons_succ]
          refine wpAnyH_take (i := 20) (oi := ⟨_, _, _, _, _, _⟩) (v := .bool true) rfl (by kernel_rfl) (by kernel_rfl) (by kernel_rfl) (fun _ _ _ h => h) (yl_pickT (by rfl) _ _ _ rfl rfl _ rfl) (by assumption) ?_
          simp only [Act.put, List.setIfInBounds_toArray, List.set_cons_zero, List.set_cons_succ]
          refine wpAnyH_take (i := 21) (oi := ⟨_, _, _, _, _, _⟩) (v := .bool true) rfl (by kernel_rfl) (by kernel_rfl) (by kernel_rfl) (fun _ _ _ h => h) (yl_move (by rfl) _ rfl _ rfl) (by assumption) ?_
          simp only [Act.put, List.setIfInBounds_toArray, List.set_cons_zero, List.set_cons_succ]
          refine wpAnyH_take (i := 22) (oi := ⟨_, _, _, _, _, _⟩) (v := bxVal c0 c1 c2 c3) rfl (by kernel_rfl) (by kernel_rfl) (by kernel_rfl) (fun _ _ _ h => h) (yl_box (by rfl) _ rfl _ 0 rfl _ _ _ _ _ _ _ _ _ _ _ _ _ _ _ _ (fun _ h => BxIn.cells h.1)) (by assumption) ?_
          simp only [Act.put, List.setIfInBounds_toArray, List.set_cons_zero, List.set_cons_succ]
          refine wpAnyH_take (i := 23) (oi := ⟨_, _, _, _, _, _⟩) (v := bxVal b0 b1 b2 b3) rfl (by kernel_rfl) (by kernel_rfl) (by kernel_rfl) (fun _ _ _ h => h) (yl_box (by rfl) _ rfl _ 0 rfl _ _ _ _ _ _ _ _ _ _ _ _ _ _ _ _ (fun _ h => BxIn.cells h.2.2.2)) (by assumption) ?_
          simp only [Act.put, List.setIfInBounds_toArray, List.set_cons_zero, List.set_cons_succ]
          refine held_call (o := ⟨_, _, _, _, _, _⟩) 24 (by kernel_rfl) rfl (by rfl) 12 _ _ rfl #[bxVal c0 c1 c2 c3, bxVal b0 b1 b2 b3] rfl (run_call Try.func12 (by kernel_rfl) (by kernel_rfl)) ?_
          refine (P.in_ _ _ _ b _ HC HB FC FB.fit).mono ?_
          rintro r v17 ⟨rfl, kb⟩
          replace D := D.trans (kb.mono D.size)
          replace HA := HA.on kb
          replace HB := HB.on kb
          replace IA := IA.on kb
          replace IB := IB.on kb
          replace IE := IE.on kb
          replace HC := HC.on kb
          replace IC := IC.on kb
          clear kb
          clear hHeld
          refine ⟨.bool true, ret_bool hcB, ⟨IC, IE, IA, IB⟩, fun hHeld => ?_⟩
          simp only [Act.put, List.setIfInBounds_toArray, List.set_cons_zero, List.set_cons_succ]
          refine wpAnyH_take (i := 25) (oi := ⟨_, _, _, _, _, _⟩) (v := .bool true) rfl (by kernel_rfl) (by kernel_rfl) (by kernel_rfl) (fun _ _ _ h => h) (yl_pickT (by rfl) _ _ _ rfl rfl _ rfl) (by assumption) ?_
          simp only [Act.put, List.setIfInBounds_toArray, List.set_cons_zero, List.set_cons_succ]
          refine wpAnyH_take (i := 26) (oi := ⟨_, _, _, _, _, _⟩) (v := .bool true) rfl (by kernel_rfl) (by kernel_rfl) (by kernel_rfl) (fun _ _ _ h => h) (yl_assign (by rfl) _ rfl _ rfl) (by assumption) ?_
          simp only [Act.put, List.setIfInBounds_toArray, List.set_cons_zero, List.set_cons_succ]
          refine wpAnyH_done (by kernel_rfl) ?_ _
          clear hHeld
          refine hK5 _ _ ?_
          clear hK5 K5
          refine wp_ret ?_
          go_ret
          exact ⟨rfl, D⟩
end Go.Proofs.Yteahjihmpchcbaa
