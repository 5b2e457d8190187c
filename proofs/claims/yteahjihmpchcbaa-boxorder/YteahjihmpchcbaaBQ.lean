/-
  The walk of the law BoxOrder, out of the program's contracts.
-/
import Derived.Test.YteahjihmpchcbaaBN
set_option linter.unusedSimpArgs false
set_option linter.unusedVariables false
namespace Go.Proofs.Yteahjihmpchcbaa
open Go.RowKit

theorem order_cases {a b c : BoxV} (ht : inBx a b = true → inBx b c = true → inBx a c = true) : inBx a b = false ∨ (inBx a b = true ∧ inBx b c = false ∧ inBx a c = false) ∨ (inBx a b = true ∧ inBx b c = false ∧ inBx a c = true) ∨ (inBx a b = true ∧ inBx b c = true ∧ inBx a c = true) := by
  cases h1 : inBx a b
  · exact Or.inl rfl
  · cases h2 : inBx b c
    · cases h3 : inBx a c
      · exact Or.inr (Or.inl ⟨rfl, rfl, rfl⟩)
      · exact Or.inr (Or.inr (Or.inl ⟨rfl, rfl, rfl⟩))
    · exact Or.inr (Or.inr (Or.inr ⟨rfl, rfl, ht h1 h2⟩))
set_option maxHeartbeats 8000000 in
set_option maxRecDepth 100000 in
theorem boxOrder_walk (P : BoxProg) (v u x : Value) (a b c : BoxV) (w : World) (HA : BoxAt w v a) (HB : BoxAt w u b) (HC : BoxAt w x c) :
    Calls Try.prog 6 #[v, u, x] w fun r w' => r = .returned (.bool true) ∧ Below w.heap.size w w' := by
  obtain ⟨a0, a1, a2, a3, rfl, -⟩ := HA.scs
  obtain ⟨b0, b1, b2, b3, rfl, -⟩ := HB.scs
  obtain ⟨c0, c1, c2, c3, rfl, -⟩ := HC.scs
  have D := Below.refl w.heap.size w
  go_enter Try.func6, Try.ntmps6
  refine wp_seq_k (fun K1 hK1 => ?_)
  refine wp_region_lit ?_
  refine wl_boxBx (o := ⟨_, _, _, _, _, _⟩) (by rfl) _ rfl rfl (fun v1 g1 IA kb => ?_)
  simp only [Act.put, List.setIfInBounds_toArray, List.set_cons_zero, List.set_cons_succ]
  replace D := D.trans (kb.mono D.size)
  replace HA := HA.on kb
  replace HB := HB.on kb
  replace HC := HC.on kb
  clear kb
  refine wl_boxBx (o := ⟨_, _, _, _, _, _⟩) (by rfl) _ rfl rfl (fun v2 g2 IB kb => ?_)
  simp only [Act.put, List.setIfInBounds_toArray, List.set_cons_zero, List.set_cons_succ]
  replace D := D.trans (kb.mono D.size)
  replace HA := HA.on kb
  replace HB := HB.on kb
  replace HC := HC.on kb
  replace IA := IA.on kb
  clear kb
  refine wl_boxBx (o := ⟨_, _, _, _, _, _⟩) (by rfl) _ rfl rfl (fun v3 g3 IC kb => ?_)
  simp only [Act.put, List.setIfInBounds_toArray, List.set_cons_zero, List.set_cons_succ]
  replace D := D.trans (kb.mono D.size)
  replace HA := HA.on kb
  replace HB := HB.on kb
  replace HC := HC.on kb
  replace IA := IA.on kb
  replace IB := IB.on kb
  clear kb
  refine wl_yield (o := ⟨_, _, _, _, _, _⟩) (.bool false) (yl_assign (by rfl) _ rfl _ rfl) ?_
  simp only [Act.put, List.setIfInBounds_toArray, List.set_cons_zero, List.set_cons_succ]
  refine wpList_nil ?_
  refine hK1 _ _ ?_
  clear hK1 K1
  refine wp_seq_k (fun K2 hK2 => ?_)
  refine wp_seq_k (fun K3 hK3 => ?_)
  refine wp_region_lit ?_
  refine wl_call (o := ⟨_, _, _, _, _, _⟩) (by rfl) 7 _ _ rfl #[] rfl (run_call Try.func7 (by kernel_rfl) (by kernel_rfl)) ?_
  refine (awake4_any P _).mono ?_
  rintro r v4 ⟨rfl, kb⟩
  replace D := D.trans (kb.mono D.size)
  replace HA := HA.on kb
  replace HB := HB.on kb
  replace HC := HC.on kb
  replace IA := IA.on kb
  replace IB := IB.on kb
  replace IC := IC.on kb
  clear kb
  refine ⟨.bool true, rfl, ?_⟩
  simp only [Act.put, List.setIfInBounds_toArray, List.set_cons_zero, List.set_cons_succ]
  refine wl_yield (o := ⟨_, _, _, _, _, _⟩) (.bool false) (yl_not (by rfl) _ _ rfl true rfl) ?_
  simp only [Act.put, List.setIfInBounds_toArray, List.set_cons_zero, List.set_cons_succ]
  refine wl_yield (o := ⟨_, _, _, _, _, _⟩) (.bool false) (yl_move (by rfl) _ rfl _ rfl) ?_
  simp only [Act.put, List.setIfInBounds_toArray, List.set_cons_zero, List.set_cons_succ]
  refine wl_yield (o := ⟨_, _, _, _, _, _⟩) (bxVal a0 a1 a2 a3) (yl_box (by rfl) _ rfl _ 0 rfl _ _ _ _ _ _ _ _ _ _ _ _ _ _ _ _ (fun _ h => by subst h; exact BxIn.cells IA)) ?_
  simp only [Act.put, List.setIfInBounds_toArray, List.set_cons_zero, List.set_cons_succ]
  refine wl_yield (o := ⟨_, _, _, _, _, _⟩) (bxVal b0 b1 b2 b3) (yl_box (by rfl) _ rfl _ 0 rfl _ _ _ _ _ _ _ _ _ _ _ _ _ _ _ _ (fun _ h => by subst h; exact BxIn.cells IB)) ?_
  simp only [Act.put, List.setIfInBounds_toArray, List.set_cons_zero, List.set_cons_succ]
  refine wl_yield (o := ⟨_, _, _, _, _, _⟩) (bxVal c0 c1 c2 c3) (yl_box (by rfl) _ rfl _ 0 rfl _ _ _ _ _ _ _ _ _ _ _ _ _ _ _ _ (fun _ h => by subst h; exact BxIn.cells IC)) ?_
  simp only [Act.put, List.setIfInBounds_toArray, List.set_cons_zero, List.set_cons_succ]
  refine wl_rowBx3 (o := ⟨_, _, _, _, _, _⟩) (by rfl) _ _ _ rfl rfl rfl rfl HA HB HC (fun v5 y5 HY kb => ?_)
  simp only [Act.put, List.setIfInBounds_toArray, List.set_cons_zero, List.set_cons_succ]
  replace D := D.trans (kb.mono D.size)
  replace HA := HA.on kb
  replace HB := HB.on kb
  replace HC := HC.on kb
  replace IA := IA.on kb
  replace IB := IB.on kb
  replace IC := IC.on kb
  clear kb
  refine wl_call (o := ⟨_, _, _, _, _, _⟩) (by rfl) 8 _ _ rfl #[y5] rfl (run_call Try.func8 (by kernel_rfl) (by kernel_rfl)) ?_
  refine (refFewBx_any _ _ _ HY).mono ?_
  rintro r v6 ⟨rfl, kb⟩
  replace D := D.trans (kb.mono D.size)
  replace HA := HA.on kb
  replace HB := HB.on kb
  replace HC := HC.on kb
  replace IA := IA.on kb
  replace IB := IB.on kb
  replace IC := IC.on kb
  clear kb
  cases hF : [a, b, c].all fewBx
  · refine ⟨.bool false, rfl, ?_⟩
    simp only [Act.put, List.setIfInBounds_toArray, List.set_cons_zero, List.set_cons_succ]
    refine wl_yield (o := ⟨_, _, _, _, _, _⟩) (.bool true) (yl_not (by rfl) _ _ rfl false rfl) ?_
    simp only [Act.put, List.setIfInBounds_toArray, List.set_cons_zero, List.set_cons_succ]
    refine wl_yield (o := ⟨_, _, _, _, _, _⟩) (.bool true) (yl_pickF (by rfl) _ _ _ rfl rfl _ rfl) ?_
    simp only [Act.put, List.setIfInBounds_toArray, List.set_cons_zero, List.set_cons_succ]
    refine wl_yield (o := ⟨_, _, _, _, _, _⟩) (.bool true) (yl_move (by rfl) _ rfl _ rfl) ?_
    simp only [Act.put, List.setIfInBounds_toArray, List.set_cons_zero, List.set_cons_succ]
    refine wl_yield (o := ⟨_, _, _, _, _, _⟩) undef (yl_undef (by rfl)) ?_
    simp only [Act.put, List.setIfInBounds_toArray, List.set_cons_zero, List.set_cons_succ]
    refine wl_yield (o := ⟨_, _, _, _, _, _⟩) undef (yl_undef (by rfl)) ?_
    simp only [Act.put, List.setIfInBounds_toArray, List.set_cons_zero, List.set_cons_succ]
    refine wl_yield (o := ⟨_, _, _, _, _, _⟩) undef (yl_undef (by rfl)) ?_
    simp only [Act.put, List.setIfInBounds_toArray, List.set_cons_zero, List.set_cons_succ]
    refine wl_yield (o := ⟨_, _, _, _, _, _⟩) (.bool true) (yl_pickT (by rfl) _ _ _ rfl rfl _ rfl) ?_
    simp only [Act.put, List.setIfInBounds_toArray, List.set_cons_zero, List.set_cons_succ]
    refine wl_yield (o := ⟨_, _, _, _, _, _⟩) (.bool true) (yl_move (by rfl) _ rfl _ rfl) ?_
    simp only [Act.put, List.setIfInBounds_toArray, List.set_cons_zero, List.set_cons_succ]
    refine wl_yield (o := ⟨_, _, _, _, _, _⟩) undef (yl_undef (by rfl)) ?_
    simp only [Act.put, List.setIfInBounds_toArray, List.set_cons_zero, List.set_cons_succ]
    refine wl_yield (o := ⟨_, _, _, _, _, _⟩) undef (yl_undef (by rfl)) ?_
    simp only [Act.put, List.setIfInBounds_toArray, List.set_cons_zero, List.set_cons_succ]
    refine wl_yield (o := ⟨_, _, _, _, _, _⟩) undef (yl_undef (by rfl)) ?_
    simp only [Act.put, List.setIfInBounds_toArray, List.set_cons_zero, List.set_cons_succ]
    refine wl_yield (o := ⟨_, _, _, _, _, _⟩) (.bool true) (yl_pickT (by rfl) _ _ _ rfl rfl _ rfl) ?_
    simp only [Act.put, List.setIfInBounds_toArray, List.set_cons_zero, List.set_cons_succ]
    refine wl_yield (o := ⟨_, _, _, _, _, _⟩) (.bool true) (yl_move (by rfl) _ rfl _ rfl) ?_
    simp only [Act.put, List.setIfInBounds_toArray, List.set_cons_zero, List.set_cons_succ]
    refine wl_yield (o := ⟨_, _, _, _, _, _⟩) undef (yl_undef (by rfl)) ?_
    simp only [Act.put, List.setIfInBounds_toArray, List.set_cons_zero, List.set_cons_succ]
    refine wl_yield (o := ⟨_, _, _, _, _, _⟩) undef (yl_undef (by rfl)) ?_
    simp only [Act.put, List.setIfInBounds_toArray, List.set_cons_zero, List.set_cons_succ]
    refine wl_yield (o := ⟨_, _, _, _, _, _⟩) undef (yl_undef (by rfl)) ?_
    simp only [Act.put, List.setIfInBounds_toArray, List.set_cons_zero, List.set_cons_succ]
    refine wl_yield (o := ⟨_, _, _, _, _, _⟩) (.bool true) (yl_pickT (by rfl) _ _ _ rfl rfl _ rfl) ?_
    simp only [Act.put, List.setIfInBounds_toArray, List.set_cons_zero, List.set_cons_succ]
    refine wpList_nil ?_
    refine hK3 _ _ ?_
    clear hK3 K3
    refine wp_cond_true rfl ?_
    refine wp_seq_k (fun K4 hK4 => ?_)
    refine wp_region_lit ?_
    refine wl_call (o := ⟨_, _, _, _, _, _⟩) (by rfl) 7 _ _ rfl #[] rfl (run_call Try.func7 (by kernel_rfl) (by kernel_rfl)) ?_
    refine (awake4_any P _).mono ?_
    rintro r v7 ⟨rfl, kb⟩
    replace D := D.trans (kb.mono D.size)
    replace HA := HA.on kb
    replace HB := HB.on kb
    replace HC := HC.on kb
    replace IA := IA.on kb
    replace IB := IB.on kb
    replace IC := IC.on kb
    clear kb
    refine ⟨.bool true, rfl, ?_⟩
    simp only [Act.put, List.setIfInBounds_toArray, List.set_cons_zero, List.set_cons_succ]
    refine wl_yield (o := ⟨_, _, _, _, _, _⟩) (.bool true) (yl_assign (by rfl) _ rfl _ rfl) ?_
    simp only [Act.put, List.setIfInBounds_toArray, List.set_cons_zero, List.set_cons_succ]
    refine wpList_nil ?_
    refine hK4 _ _ ?_
    clear hK4 K4
    refine wp_ret ?_
    go_ret
    exact ⟨rfl, D⟩
  · refine ⟨.bool true, rfl, ?_⟩
    simp only [Act.put, List.setIfInBounds_toArray, List.set_cons_zero, List.set_cons_succ]
    refine wl_yield (o := ⟨_, _, _, _, _, _⟩) (.bool false) (yl_not (by rfl) _ _ rfl true rfl) ?_
    simp only [Act.put, List.setIfInBounds_toArray, List.set_cons_zero, List.set_cons_succ]
    refine wl_yield (o := ⟨_, _, _, _, _, _⟩) (.bool false) (yl_pickF (by rfl) _ _ _ rfl rfl _ rfl) ?_
    simp only [Act.put, List.setIfInBounds_toArray, List.set_cons_zero, List.set_cons_succ]
    refine wl_yield (o := ⟨_, _, _, _, _, _⟩) (.bool false) (yl_move (by rfl) _ rfl _ rfl) ?_
    simp only [Act.put, List.setIfInBounds_toArray, List.set_cons_zero, List.set_cons_succ]
    refine wl_yield (o := ⟨_, _, _, _, _, _⟩) (bxVal a0 a1 a2 a3) (yl_box (by rfl) _ rfl _ 0 rfl _ _ _ _ _ _ _ _ _ _ _ _ _ _ _ _ (fun _ h => by subst h; exact BxIn.cells IA)) ?_
    simp only [Act.put, List.setIfInBounds_toArray, List.set_cons_zero, List.set_cons_succ]
    refine wl_call (o := ⟨_, _, _, _, _, _⟩) (by rfl) 9 _ _ rfl #[bxVal a0 a1 a2 a3] rfl (run_call Try.func9 (by kernel_rfl) (by kernel_rfl)) ?_
    refine (refRightBx_any _ _ _ HA).mono ?_
    rintro r v7 ⟨rfl, kb⟩
    replace D := D.trans (kb.mono D.size)
    replace HA := HA.on kb
    replace HB := HB.on kb
    replace HC := HC.on kb
    replace IA := IA.on kb
    replace IB := IB.on kb
    replace IC := IC.on kb
    clear kb
    cases hRA : rightBx a
    · refine ⟨.bool false, rfl, ?_⟩
      simp only [Act.put, List.setIfInBounds_toArray, List.set_cons_zero, List.set_cons_succ]
      refine wl_yield (o := ⟨_, _, _, _, _, _⟩) (.bool true) (yl_not (by rfl) _ _ rfl false rfl) ?_
      simp only [Act.put, List.setIfInBounds_toArray, List.set_cons_zero, List.set_cons_succ]
      refine wl_yield (o := ⟨_, _, _, _, _, _⟩) (.bool true) (yl_pickF (by rfl) _ _ _ rfl rfl _ rfl) ?_
      simp only [Act.put, List.setIfInBounds_toArray, List.set_cons_zero, List.set_cons_succ]
      refine wl_yield (o := ⟨_, _, _, _, _, _⟩) (.bool true) (yl_move (by rfl) _ rfl _ rfl) ?_
      simp only [Act.put, List.setIfInBounds_toArray, List.set_cons_zero, List.set_cons_succ]
      refine wl_yield (o := ⟨_, _, _, _, _, _⟩) undef (yl_undef (by rfl)) ?_
      simp only [Act.put, List.setIfInBounds_toArray, List.set_cons_zero, List.set_cons_succ]
      refine wl_yield (o := ⟨_, _, _, _, _, _⟩) undef (yl_undef (by rfl)) ?_
      simp only [Act.put, List.setIfInBounds_toArray, List.set_cons_zero, List.set_cons_succ]
      refine wl_yield (o := ⟨_, _, _, _, _, _⟩) undef (yl_undef (by rfl)) ?_
      simp only [Act.put, List.setIfInBounds_toArray, List.set_cons_zero, List.set_cons_succ]
      refine wl_yield (o := ⟨_, _, _, _, _, _⟩) (.bool true) (yl_pickT (by rfl) _ _ _ rfl rfl _ rfl) ?_
      simp only [Act.put, List.setIfInBounds_toArray, List.set_cons_zero, List.set_cons_succ]
      refine wl_yield (o := ⟨_, _, _, _, _, _⟩) (.bool true) (yl_move (by rfl) _ rfl _ rfl) ?_
      simp only [Act.put, List.setIfInBounds_toArray, List.set_cons_zero, List.set_cons_succ]
      refine wl_yield (o := ⟨_, _, _, _, _, _⟩) undef (yl_undef (by rfl)) ?_
      simp only [Act.put, List.setIfInBounds_toArray, List.set_cons_zero, List.set_cons_succ]
      refine wl_yield (o := ⟨_, _, _, _, _, _⟩) undef (yl_undef (by rfl)) ?_
      simp only [Act.put, List.setIfInBounds_toArray, List.set_cons_zero, List.set_cons_succ]
      refine wl_yield (o := ⟨_, _, _, _, _, _⟩) undef (yl_undef (by rfl)) ?_
      simp only [Act.put, List.setIfInBounds_toArray, List.set_cons_zero, List.set_cons_succ]
      refine wl_yield (o := ⟨_, _, _, _, _, _⟩) (.bool true) (yl_pickT (by rfl) _ _ _ rfl rfl _ rfl) ?_
      simp only [Act.put, List.setIfInBounds_toArray, List.set_cons_zero, List.set_cons_succ]
      refine wpList_nil ?_
      refine hK3 _ _ ?_
      clear hK3 K3
      refine wp_cond_true rfl ?_
      refine wp_seq_k (fun K4 hK4 => ?_)
      refine wp_region_lit ?_
      refine wl_call (o := ⟨_, _, _, _, _, _⟩) (by rfl) 7 _ _ rfl #[] rfl (run_call Try.func7 (by kernel_rfl) (by kernel_rfl)) ?_
      refine (awake4_any P _).mono ?_
      rintro r v8 ⟨rfl, kb⟩
      replace D := D.trans (kb.mono D.size)
      replace HA := HA.on kb
      replace HB := HB.on kb
      replace HC := HC.on kb
      replace IA := IA.on kb
      replace IB := IB.on kb
      replace IC := IC.on kb
      clear kb
      refine ⟨.bool true, rfl, ?_⟩
      simp only [Act.put, List.setIfInBounds_toArray, List.set_cons_zero, List.set_cons_succ]
      refine wl_yield (o := ⟨_, _, _, _, _, _⟩) (.bool true) (yl_assign (by rfl) _ rfl _ rfl) ?_
      simp only [Act.put, List.setIfInBounds_toArray, List.set_cons_zero, List.set_cons_succ]
      refine wpList_nil ?_
      refine hK4 _ _ ?_
      clear hK4 K4
      refine wp_ret ?_
      go_ret
      exact ⟨rfl, D⟩
    · refine ⟨.bool true, rfl, ?_⟩
      simp only [Act.put, List.setIfInBounds_toArray, List.set_cons_zero, List.set_cons_succ]
      refine wl_yield (o := ⟨_, _, _, _, _, _⟩) (.bool false) (yl_not (by rfl) _ _ rfl true rfl) ?_
      simp only [Act.put, List.setIfInBounds_toArray, List.set_cons_zero, List.set_cons_succ]
      refine wl_yield (o := ⟨_, _, _, _, _, _⟩) (.bool false) (yl_pickF (by rfl) _ _ _ rfl rfl _ rfl) ?_
      simp only [Act.put, List.setIfInBounds_toArray, List.set_cons_zero, List.set_cons_succ]
      refine wl_yield (o := ⟨_, _, _, _, _, _⟩) (.bool false) (yl_move (by rfl) _ rfl _ rfl) ?_
      simp only [Act.put, List.setIfInBounds_toArray, List.set_cons_zero, List.set_cons_succ]
      refine wl_yield (o := ⟨_, _, _, _, _, _⟩) (bxVal b0 b1 b2 b3) (yl_box (by rfl) _ rfl _ 0 rfl _ _ _ _ _ _ _ _ _ _ _ _ _ _ _ _ (fun _ h => by subst h; exact BxIn.cells IB)) ?_
      simp only [Act.put, List.setIfInBounds_toArray, List.set_cons_zero, List.set_cons_succ]
      refine wl_call (o := ⟨_, _, _, _, _, _⟩) (by rfl) 9 _ _ rfl #[bxVal b0 b1 b2 b3] rfl (run_call Try.func9 (by kernel_rfl) (by kernel_rfl)) ?_
      refine (refRightBx_any _ _ _ HB).mono ?_
      rintro r v8 ⟨rfl, kb⟩
      replace D := D.trans (kb.mono D.size)
      replace HA := HA.on kb
      replace HB := HB.on kb
      replace HC := HC.on kb
      replace IA := IA.on kb
      replace IB := IB.on kb
      replace IC := IC.on kb
      clear kb
      cases hRB : rightBx b
      · refine ⟨.bool false, rfl, ?_⟩
        simp only [Act.put, List.setIfInBounds_toArray, List.set_cons_zero, List.set_cons_succ]
        refine wl_yield (o := ⟨_, _, _, _, _, _⟩) (.bool true) (yl_not (by rfl) _ _ rfl false rfl) ?_
        simp only [Act.put, List.setIfInBounds_toArray, List.set_cons_zero, List.set_cons_succ]
        refine wl_yield (o := ⟨_, _, _, _, _, _⟩) (.bool true) (yl_pickF (by rfl) _ _ _ rfl rfl _ rfl) ?_
        simp only [Act.put, List.setIfInBounds_toArray, List.set_cons_zero, List.set_cons_succ]
        refine wl_yield (o := ⟨_, _, _, _, _, _⟩) (.bool true) (yl_move (by rfl) _ rfl _ rfl) ?_
        simp only [Act.put, List.setIfInBounds_toArray, List.set_cons_zero, List.set_cons_succ]
        refine wl_yield (o := ⟨_, _, _, _, _, _⟩) undef (yl_undef (by rfl)) ?_
        simp only [Act.put, List.setIfInBounds_toArray, List.set_cons_zero, List.set_cons_succ]
        refine wl_yield (o := ⟨_, _, _, _, _, _⟩) undef (yl_undef (by rfl)) ?_
        simp only [Act.put, List.setIfInBounds_toArray, List.set_cons_zero, List.set_cons_succ]
        refine wl_yield (o := ⟨_, _, _, _, _, _⟩) undef (yl_undef (by rfl)) ?_
        simp only [Act.put, List.setIfInBounds_toArray, List.set_cons_zero, List.set_cons_succ]
        refine wl_yield (o := ⟨_, _, _, _, _, _⟩) (.bool true) (yl_pickT (by rfl) _ _ _ rfl rfl _ rfl) ?_
        simp only [Act.put, List.setIfInBounds_toArray, List.set_cons_zero, List.set_cons_succ]
        refine wpList_nil ?_
        refine hK3 _ _ ?_
        clear hK3 K3
        refine wp_cond_true rfl ?_
        refine wp_seq_k (fun K4 hK4 => ?_)
        refine wp_region_lit ?_
        refine wl_call (o := ⟨_, _, _, _, _, _⟩) (by rfl) 7 _ _ rfl #[] rfl (run_call Try.func7 (by kernel_rfl) (by kernel_rfl)) ?_
        refine (awake4_any P _).mono ?_
        rintro r v9 ⟨rfl, kb⟩
        replace D := D.trans (kb.mono D.size)
        replace HA := HA.on kb
        replace HB := HB.on kb
        replace HC := HC.on kb
        replace IA := IA.on kb
        replace IB := IB.on kb
        replace IC := IC.on kb
        clear kb
        refine ⟨.bool true, rfl, ?_⟩
        simp only [Act.put, List.setIfInBounds_toArray, List.set_cons_zero, List.set_cons_succ]
        refine wl_yield (o := ⟨_, _, _, _, _, _⟩) (.bool true) (yl_assign (by rfl) _ rfl _ rfl) ?_
        simp only [Act.put, List.setIfInBounds_toArray, List.set_cons_zero, List.set_cons_succ]
        refine wpList_nil ?_
        refine hK4 _ _ ?_
        clear hK4 K4
        refine wp_ret ?_
        go_ret
        exact ⟨rfl, D⟩
      · refine ⟨.bool true, rfl, ?_⟩
        simp only [Act.put, List.setIfInBounds_toArray, List.set_cons_zero, List.set_cons_succ]
        refine wl_yield (o := ⟨_, _, _, _, _, _⟩) (.bool false) (yl_not (by rfl) _ _ rfl true rfl) ?_
        simp only [Act.put, List.setIfInBounds_toArray, List.set_cons_zero, List.set_cons_succ]
        refine wl_yield (o := ⟨_, _, _, _, _, _⟩) (.bool false) (yl_pickF (by rfl) _ _ _ rfl rfl _ rfl) ?_
        simp only [Act.put, List.setIfInBounds_toArray, List.set_cons_zero, List.set_cons_succ]
        refine wl_yield (o := ⟨_, _, _, _, _, _⟩) (.bool false) (yl_move (by rfl) _ rfl _ rfl) ?_
        simp only [Act.put, List.setIfInBounds_toArray, List.set_cons_zero, List.set_cons_succ]
        refine wl_yield (o := ⟨_, _, _, _, _, _⟩) (bxVal c0 c1 c2 c3) (yl_box (by rfl) _ rfl _ 0 rfl _ _ _ _ _ _ _ _ _ _ _ _ _ _ _ _ (fun _ h => by subst h; exact BxIn.cells IC)) ?_
        simp only [Act.put, List.setIfInBounds_toArray, List.set_cons_zero, List.set_cons_succ]
        refine wl_call (o := ⟨_, _, _, _, _, _⟩) (by rfl) 9 _ _ rfl #[bxVal c0 c1 c2 c3] rfl (run_call Try.func9 (by kernel_rfl) (by kernel_rfl)) ?_
        refine (refRightBx_any _ _ _ HC).mono ?_
        rintro r v9 ⟨rfl, kb⟩
        replace D := D.trans (kb.mono D.size)
        replace HA := HA.on kb
        replace HB := HB.on kb
        replace HC := HC.on kb
        replace IA := IA.on kb
        replace IB := IB.on kb
        replace IC := IC.on kb
        clear kb
        cases hRC : rightBx c
        · refine ⟨.bool false, rfl, ?_⟩
          simp only [Act.put, List.setIfInBounds_toArray, List.set_cons_zero, List.set_cons_succ]
          refine wl_yield (o := ⟨_, _, _, _, _, _⟩) (.bool true) (yl_not (by rfl) _ _ rfl false rfl) ?_
          simp only [Act.put, List.setIfInBounds_toArray, List.set_cons_zero, List.set_cons_succ]
          refine wl_yield (o := ⟨_, _, _, _, _, _⟩) (.bool true) (yl_pickF (by rfl) _ _ _ rfl rfl _ rfl) ?_
          simp only [Act.put, List.setIfInBounds_toArray, List.set_cons_zero, List.set_cons_succ]
          refine wpList_nil ?_
          refine hK3 _ _ ?_
          clear hK3 K3
          refine wp_cond_true rfl ?_
          refine wp_seq_k (fun K4 hK4 => ?_)
          refine wp_region_lit ?_
          refine wl_call (o := ⟨_, _, _, _, _, _⟩) (by rfl) 7 _ _ rfl #[] rfl (run_call Try.func7 (by kernel_rfl) (by kernel_rfl)) ?_
          refine (awake4_any P _).mono ?_
          rintro r v10 ⟨rfl, kb⟩
          replace D := D.trans (kb.mono D.size)
          replace HA := HA.on kb
          replace HB := HB.on kb
          replace HC := HC.on kb
          replace IA := IA.on kb
          replace IB := IB.on kb
          replace IC := IC.on kb
          clear kb
          refine ⟨.bool true, rfl, ?_⟩
          simp only [Act.put, List.setIfInBounds_toArray, List.set_cons_zero, List.set_cons_succ]
          refine wl_yield (o := ⟨_, _, _, _, _, _⟩) (.bool true) (yl_assign (by rfl) _ rfl _ rfl) ?_
          simp only [Act.put, List.setIfInBounds_toArray, List.set_cons_zero, List.set_cons_succ]
          refine wpList_nil ?_
          refine hK4 _ _ ?_
          clear hK4 K4
          refine wp_ret ?_
          go_ret
          exact ⟨rfl, D⟩
        · refine ⟨.bool true, rfl, ?_⟩
          simp only [Act.put, List.setIfInBounds_toArray, List.set_cons_zero, List.set_cons_succ]
          refine wl_yield (o := ⟨_, _, _, _, _, _⟩) (.bool false) (yl_not (by rfl) _ _ rfl true rfl) ?_
          simp only [Act.put, List.setIfInBounds_toArray, List.set_cons_zero, List.set_cons_succ]
          refine wl_yield (o := ⟨_, _, _, _, _, _⟩) (.bool false) (yl_pickF (by rfl) _ _ _ rfl rfl _ rfl) ?_
          simp only [Act.put, List.setIfInBounds_toArray, List.set_cons_zero, List.set_cons_succ]
          refine wpList_nil ?_
          refine hK3 _ _ ?_
          clear hK3 K3
          refine wp_cond_false rfl ?_
          refine wp_skip ?_
          refine hK2 _ _ ?_
          clear hK2 K2
          have FA := few_of HA (all3 hF).1 hRA
          have FB := few_of HB (all3 hF).2.1 hRB
          have FC := few_of HC (all3 hF).2.2 hRC
          have FBC := FB.and FC
          have FAA := FA.and allFew
          refine wp_seq_k (fun K4 hK4 => ?_)
          have hand := in_and FA.good FB.good FC.good FBC.good
          have htr := inBx_trans FA.good FB.good FC.good
          have hrefl := inBx_refl FA.good
          have hall := inBx_all FA.good
          have hsame := and_all FA.good (fun i hi => Nat.le_trans (FA.ns i hi) (by omega))
          rcases order_cases htr with h1 | ⟨h1, h2, h3⟩ | ⟨h1, h2, h3⟩ | ⟨h1, h2, h3⟩
          · replace hand : inBx a (andBx b c) = false := by rw [← hand, h1, Bool.false_and]
            refine wp_region_held_drew (S := fun w' => BxIn w' g1 a0 a1 a2 a3 ∧ BxIn w' g2 b0 b1 b2 b3 ∧ BxIn w' g3 c0 c1 c2 c3) (by kernel_rfl) ⟨IA, IB, IC⟩ (fun hHeld => ?_)
            have kb : Below v9.heap.size v9 v9.drew := (Below.refl _ v9).drew
            replace D := D.trans (kb.mono D.size)
            replace HA := HA.on kb
            replace HB := HB.on kb
            replace HC := HC.on kb
            replace IA := IA.on kb
            replace IB := IB.on kb
            replace IC := IC.on kb
            clear kb
            generalize v9.drew = v10 at D hHeld HA HB HC IA IB IC ⊢
            refine wpAnyH_take (i := 0) (oi := ⟨_, _, _, _, _, _⟩) (v := bxVal a0 a1 a2 a3) rfl (by kernel_rfl) (by kernel_rfl) (by kernel_rfl) (fun _ _ _ h => h) (yl_box (by rfl) _ rfl _ 0 rfl _ _ _ _ _ _ _ _ _ _ _ _ _ _ _ _ (fun _ h => BxIn.cells h.1)) (by assumption) ?_
            simp only [Act.put, List.setIfInBounds_toArray, List.set_cons_zero, List.set_cons_succ]
            refine wpAnyH_take (i := 1) (oi := ⟨_, _, _, _, _, _⟩) (v := bxVal b0 b1 b2 b3) rfl (by kernel_rfl) (by kernel_rfl) (by kernel_rfl) (fun _ _ _ h => h) (yl_box (by rfl) _ rfl _ 0 rfl _ _ _ _ _ _ _ _ _ _ _ _ _ _ _ _ (fun _ h => BxIn.cells h.2.1)) (by assumption) ?_
            simp only [Act.put, List.setIfInBounds_toArray, List.set_cons_zero, List.set_cons_succ]
            refine held_call (o := ⟨_, _, _, _, _, _⟩) 2 (by kernel_rfl) rfl (by rfl) 12 _ _ rfl #[bxVal a0 a1 a2 a3, bxVal b0 b1 b2 b3] rfl (run_call Try.func12 (by kernel_rfl) (by kernel_rfl)) ?_
            refine (P.in_ _ _ a b _ HA HB FA.fit FB.fit).mono ?_
            rintro r v11 ⟨rfl, kb⟩
            replace D := D.trans (kb.mono D.size)
            replace HA := HA.on kb
            replace HB := HB.on kb
            replace HC := HC.on kb
            replace IA := IA.on kb
            replace IB := IB.on kb
            replace IC := IC.on kb
            clear kb
            clear hHeld
            refine ⟨.bool false, ret_bool h1, ⟨IA, IB, IC⟩, fun hHeld => ?_⟩
            simp only [Act.put, List.setIfInBounds_toArray, List.set_cons_zero, List.set_cons_succ]
            refine wpAnyH_take (i := 3) (oi := ⟨_, _, _, _, _, _⟩) (v := .bool true) rfl (by kernel_rfl) (by kernel_rfl) (by kernel_rfl) (fun _ _ _ h => h) (yl_not (by rfl) _ _ rfl false rfl) (by assumption) ?_
            simp only [Act.put, List.setIfInBounds_toArray, List.set_cons_zero, List.set_cons_succ]
            refine wpAnyH_take (i := 4) (oi := ⟨_, _, _, _, _, _⟩) (v := .bool true) rfl (by kernel_rfl) (by kernel_rfl) (by kernel_rfl) (fun _ _ _ h => h) (yl_move (by rfl) _ rfl _ rfl) (by assumption) ?_
            simp only [Act.put, List.setIfInBounds_toArray, List.set_cons_zero, List.set_cons_succ]
            refine wpAnyH_take (i := 5) (oi := ⟨_, _, _, _, _, _⟩) (v := undef) rfl (by kernel_rfl) (by kernel_rfl) (by kernel_rfl) (fun _ _ _ h => h) (yl_undef (by rfl)) (by assumption) ?_
            simp only [Act.put, List.setIfInBounds_toArray, List.set_cons_zero, List.set_cons_succ]
            refine wpAnyH_take (i := 6) (oi := ⟨_, _, _, _, _, _⟩) (v := undef) rfl (by kernel_rfl) (by kernel_rfl) (by kernel_rfl) (fun _ _ _ h => h) (yl_undef (by rfl)) (by assumption) ?_
            simp only [Act.put, List.setIfInBounds_toArray, List.set_cons_zero, List.set_cons_succ]
            refine wpAnyH_take (i := 7) (oi := ⟨_, _, _, _, _, _⟩) (v := undef) rfl (by kernel_rfl) (by kernel_rfl) (by kernel_rfl) (fun _ _ _ h => h) (yl_undef (by rfl)) (by assumption) ?_
            simp only [Act.put, List.setIfInBounds_toArray, List.set_cons_zero, List.set_cons_succ]
            refine wpAnyH_take (i := 8) (oi := ⟨_, _, _, _, _, _⟩) (v := undef) rfl (by kernel_rfl) (by kernel_rfl) (by kernel_rfl) (fun _ _ _ h => h) (yl_undef (by rfl)) (by assumption) ?_
            simp only [Act.put, List.setIfInBounds_toArray, List.set_cons_zero, List.set_cons_succ]
            refine wpAnyH_take (i := 9) (oi := ⟨_, _, _, _, _, _⟩) (v := .bool true) rfl (by kernel_rfl) (by kernel_rfl) (by kernel_rfl) (fun _ _ _ h => h) (yl_pickT (by rfl) _ _ _ rfl rfl _ rfl) (by assumption) ?_
            simp only [Act.put, List.setIfInBounds_toArray, List.set_cons_zero, List.set_cons_succ]
            refine wpAnyH_take (i := 10) (oi := ⟨_, _, _, _, _, _⟩) (v := .bool true) rfl (by kernel_rfl) (by kernel_rfl) (by kernel_rfl) (fun _ _ _ h => h) (yl_move (by rfl) _ rfl _ rfl) (by assumption) ?_
            simp only [Act.put, List.setIfInBounds_toArray, List.set_cons_zero, List.set_cons_succ]
            refine wpAnyH_take (i := 11) (oi := ⟨_, _, _, _, _, _⟩) (v := undef) rfl (by kernel_rfl) (by kernel_rfl) (by kernel_rfl) (fun _ _ _ h => h) (yl_undef (by rfl)) (by assumption) ?_
            simp only [Act.put, List.setIfInBounds_toArray, List.set_cons_zero, List.set_cons_succ]
            refine wpAnyH_take (i := 12) (oi := ⟨_, _, _, _, _, _⟩) (v := undef) rfl (by kernel_rfl) (by kernel_rfl) (by kernel_rfl) (fun _ _ _ h => h) (yl_undef (by rfl)) (by assumption) ?_
            simp only [Act.put, List.setIfInBounds_toArray, List.set_cons_zero, List.set_cons_succ]
            refine wpAnyH_take (i := 13) (oi := ⟨_, _, _, _, _, _⟩) (v := undef) rfl (by kernel_rfl) (by kernel_rfl) (by kernel_rfl) (fun _ _ _ h => h) (yl_undef (by rfl)) (by assumption) ?_
            simp only [Act.put, List.setIfInBounds_toArray, List.set_cons_zero, List.set_cons_succ]
            refine wpAnyH_take (i := 14) (oi := ⟨_, _, _, _, _, _⟩) (v := .bool true) rfl (by kernel_rfl) (by kernel_rfl) (by kernel_rfl) (fun _ _ _ h => h) (yl_pickT (by rfl) _ _ _ rfl rfl _ rfl) (by assumption) ?_
            simp only [Act.put, List.setIfInBounds_toArray, List.set_cons_zero, List.set_cons_succ]
            refine wpAnyH_take (i := 15) (oi := ⟨_, _, _, _, _, _⟩) (v := .bool true) rfl (by kernel_rfl) (by kernel_rfl) (by kernel_rfl) (fun _ _ _ h => h) (yl_move (by rfl) _ rfl _ rfl) (by assumption) ?_
            simp only [Act.put, List.setIfInBounds_toArray, List.set_cons_zero, List.set_cons_succ]
            refine wpAnyH_take (i := 16) (oi := ⟨_, _, _, _, _, _⟩) (v := bxVal a0 a1 a2 a3) rfl (by kernel_rfl) (by kernel_rfl) (by kernel_rfl) (fun _ _ _ h => h) (yl_box (by rfl) _ rfl _ 0 rfl _ _ _ _ _ _ _ _ _ _ _ _ _ _ _ _ (fun _ h => BxIn.cells h.1)) (by assumption) ?_
            simp only [Act.put, List.setIfInBounds_toArray, List.set_cons_zero, List.set_cons_succ]
            refine wpAnyH_take (i := 17) (oi := ⟨_, _, _, _, _, _⟩) (v := bxVal b0 b1 b2 b3) rfl (by kernel_rfl) (by kernel_rfl) (by kernel_rfl) (fun _ _ _ h => h) (yl_box (by rfl) _ rfl _ 0 rfl _ _ _ _ _ _ _ _ _ _ _ _ _ _ _ _ (fun _ h => BxIn.cells h.2.1)) (by assumption) ?_
            simp only [Act.put, List.setIfInBounds_toArray, List.set_cons_zero, List.set_cons_succ]
            refine wpAnyH_take (i := 24) (oi := ⟨_, _, _, _, _, _⟩) (v := bxVal a0 a1 a2 a3) rfl (by kernel_rfl) (by kernel_rfl) (by kernel_rfl) (fun _ _ _ h => h) (yl_box (by rfl) _ rfl _ 0 rfl _ _ _ _ _ _ _ _ _ _ _ _ _ _ _ _ (fun _ h => BxIn.cells h.1)) (by assumption) ?_
            simp only [Act.put, List.setIfInBounds_toArray, List.set_cons_zero, List.set_cons_succ]
            refine wpAnyH_take (i := 25) (oi := ⟨_, _, _, _, _, _⟩) (v := bxVal b0 b1 b2 b3) rfl (by kernel_rfl) (by kernel_rfl) (by kernel_rfl) (fun _ _ _ h => h) (yl_box (by rfl) _ rfl _ 0 rfl _ _ _ _ _ _ _ _ _ _ _ _ _ _ _ _ (fun _ h => BxIn.cells h.2.1)) (by assumption) ?_
            simp only [Act.put, List.setIfInBounds_toArray, List.set_cons_zero, List.set_cons_succ]
            refine wpAnyH_take (i := 26) (oi := ⟨_, _, _, _, _, _⟩) (v := bxVal c0 c1 c2 c3) rfl (by kernel_rfl) (by kernel_rfl) (by kernel_rfl) (fun _ _ _ h => h) (yl_box (by rfl) _ rfl _ 0 rfl _ _ _ _ _ _ _ _ _ _ _ _ _ _ _ _ (fun _ h => BxIn.cells h.2.2)) (by assumption) ?_
            simp only [Act.put, List.setIfInBounds_toArray, List.set_cons_zero, List.set_cons_succ]
            refine held_call (o := ⟨_, _, _, _, _, _⟩) 18 (by kernel_rfl) rfl (by rfl) 12 _ _ rfl #[bxVal a0 a1 a2 a3, bxVal b0 b1 b2 b3] rfl (run_call Try.func12 (by kernel_rfl) (by kernel_rfl)) ?_
            refine (P.in_ _ _ a b _ HA HB FA.fit FB.fit).mono ?_
            rintro r v12 ⟨rfl, kb⟩
            replace D := D.trans (kb.mono D.size)
            replace HA := HA.on kb
            replace HB := HB.on kb
            replace HC := HC.on kb
            replace IA := IA.on kb
            replace IB := IB.on kb
            replace IC := IC.on kb
            clear kb
            clear hHeld
            refine ⟨.bool false, ret_bool h1, ⟨IA, IB, IC⟩, fun hHeld => ?_⟩
            simp only [Act.put, List.setIfInBounds_toArray, List.set_cons_zero, List.set_cons_succ]
            refine wpAnyH_take (i := 19) (oi := ⟨_, _, _, _, _, _⟩) (v := .bool false) rfl (by kernel_rfl) (by kernel_rfl) (by kernel_rfl) (fun _ _ _ h => h) (yl_move (by rfl) _ rfl _ rfl) (by assumption) ?_
            simp only [Act.put, List.setIfInBounds_toArray, List.set_cons_zero, List.set_cons_succ]
            refine wpAnyH_take (i := 20) (oi := ⟨_, _, _, _, _, _⟩) (v := undef) rfl (by kernel_rfl) (by kernel_rfl) (by kernel_rfl) (fun _ _ _ h => h) (yl_undef (by rfl)) (by assumption) ?_
            simp only [Act.put, List.setIfInBounds_toArray, List.set_cons_zero, List.set_cons_succ]
            refine wpAnyH_take (i := 21) (oi := ⟨_, _, _, _, _, _⟩) (v := undef) rfl (by kernel_rfl) (by kernel_rfl) (by kernel_rfl) (fun _ _ _ h => h) (yl_undef (by rfl)) (by assumption) ?_
            simp only [Act.put, List.setIfInBounds_toArray, List.set_cons_zero, List.set_cons_succ]
            refine wpAnyH_take (i := 22) (oi := ⟨_, _, _, _, _, _⟩) (v := undef) rfl (by kernel_rfl) (by kernel_rfl) (by kernel_rfl) (fun _ _ _ h => h) (yl_undef (by rfl)) (by assumption) ?_
            simp only [Act.put, List.setIfInBounds_toArray, List.set_cons_zero, List.set_cons_succ]
            refine wpAnyH_take (i := 23) (oi := ⟨_, _, _, _, _, _⟩) (v := .bool false) rfl (by kernel_rfl) (by kernel_rfl) (by kernel_rfl) (fun _ _ _ h => h) (yl_pickF (by rfl) _ _ _ rfl rfl _ rfl) (by assumption) ?_
            simp only [Act.put, List.setIfInBounds_toArray, List.set_cons_zero, List.set_cons_succ]
            refine held_call (o := ⟨_, _, _, _, _, _⟩) 27 (by kernel_rfl) rfl (by rfl) 10 _ _ rfl #[bxVal b0 b1 b2 b3, bxVal c0 c1 c2 c3] rfl (run_call Try.func10 (by kernel_rfl) (by kernel_rfl)) ?_
            refine (P.and _ _ b c _ HB HC FB.fit FC.fit).mono ?_
            rintro r v13 ⟨⟨u1, rfl, HD⟩, kb⟩
            replace D := D.trans (kb.mono D.size)
            replace HA := HA.on kb
            replace HB := HB.on kb
            replace HC := HC.on kb
            replace IA := IA.on kb
            replace IB := IB.on kb
            replace IC := IC.on kb
            clear kb
            clear hHeld
            obtain ⟨d0, d1, d2, d3, rfl, -⟩ := HD.scs
            refine ⟨bxVal d0 d1 d2 d3, rfl, ⟨IA, IB, IC⟩, fun hHeld => ?_⟩
            simp only [Act.put, List.setIfInBounds_toArray, List.set_cons_zero, List.set_cons_succ]
            refine held_call (o := ⟨_, _, _, _, _, _⟩) 28 (by kernel_rfl) rfl (by rfl) 12 _ _ rfl #[bxVal a0 a1 a2 a3, bxVal d0 d1 d2 d3] rfl (run_call Try.func12 (by kernel_rfl) (by kernel_rfl)) ?_
            refine (P.in_ _ _ a _ _ HA HD FA.fit FBC).mono ?_
            rintro r v14 ⟨rfl, kb⟩
            replace D := D.trans (kb.mono D.size)
            replace HA := HA.on kb
            replace HB := HB.on kb
            replace HC := HC.on kb
            replace IA := IA.on kb
            replace IB := IB.on kb
            replace IC := IC.on kb
            replace HD := HD.on kb
            clear kb
            clear hHeld
            clear HD
            refine ⟨.bool false, ret_bool hand, ⟨IA, IB, IC⟩, fun hHeld => ?_⟩
            simp only [Act.put, List.setIfInBounds_toArray, List.set_cons_zero, List.set_cons_succ]
            refine wpAnyH_take (i := 29) (oi := ⟨_, _, _, _, _, _⟩) (v := .bool true) rfl (by kernel_rfl) (by kernel_rfl) (by kernel_rfl) (fun _ _ _ h => h) (yl_eqB (by rfl) _ _ _ rfl false false rfl rfl) (by assumption) ?_
            simp only [Act.put, List.setIfInBounds_toArray, List.set_cons_zero, List.set_cons_succ]
            refine wpAnyH_take (i := 30) (oi := ⟨_, _, _, _, _, _⟩) (v := .bool true) rfl (by kernel_rfl) (by kernel_rfl) (by kernel_rfl) (fun _ _ _ h => h) (yl_pickT (by rfl) _ _ _ rfl rfl _ rfl) (by assumption) ?_
            simp only [Act.put, List.setIfInBounds_toArray, List.set_cons_zero, List.set_cons_succ]
            refine wpAnyH_take (i := 31) (oi := ⟨_, _, _, _, _, _⟩) (v := .bool true) rfl (by kernel_rfl) (by kernel_rfl) (by kernel_rfl) (fun _ _ _ h => h) (yl_move (by rfl) _ rfl _ rfl) (by assumption) ?_
            simp only [Act.put, List.setIfInBounds_toArray, List.set_cons_zero, List.set_cons_succ]
            refine wpAnyH_take (i := 32) (oi := ⟨_, _, _, _, _, _⟩) (v := bxVal a0 a1 a2 a3) rfl (by kernel_rfl) (by kernel_rfl) (by kernel_rfl) (fun _ _ _ h => h) (yl_box (by rfl) _ rfl _ 0 rfl _ _ _ _ _ _ _ _ _ _ _ _ _ _ _ _ (fun _ h => BxIn.cells h.1)) (by assumption) ?_
            simp only [Act.put, List.setIfInBounds_toArray, List.set_cons_zero, List.set_cons_succ]
            refine wpAnyH_take (i := 33) (oi := ⟨_, _, _, _, _, _⟩) (v := bxVal a0 a1 a2 a3) rfl (by kernel_rfl) (by kernel_rfl) (by kernel_rfl) (fun _ _ _ h => h) (yl_box (by rfl) _ rfl _ 0 rfl _ _ _ _ _ _ _ _ _ _ _ _ _ _ _ _ (fun _ h => BxIn.cells h.1)) (by assumption) ?_
            simp only [Act.put, List.setIfInBounds_toArray, List.set_cons_zero, List.set_cons_succ]
            refine held_call (o := ⟨_, _, _, _, _, _⟩) 34 (by kernel_rfl) rfl (by rfl) 12 _ _ rfl #[bxVal a0 a1 a2 a3, bxVal a0 a1 a2 a3] rfl (run_call Try.func12 (by kernel_rfl) (by kernel_rfl)) ?_
            refine (P.in_ _ _ a a _ HA HA FA.fit FA.fit).mono ?_
            rintro r v15 ⟨rfl, kb⟩
            replace D := D.trans (kb.mono D.size)
            replace HA := HA.on kb
            replace HB := HB.on kb
            replace HC := HC.on kb
            replace IA := IA.on kb
            replace IB := IB.on kb
            replace IC := IC.on kb
            clear kb
            clear hHeld
            refine ⟨.bool true, ret_bool hrefl, ⟨IA, IB, IC⟩, fun hHeld => ?_⟩
            simp only [Act.put, List.setIfInBounds_toArray, List.set_cons_zero, List.set_cons_succ]
            refine wpAnyH_take (i := 35) (oi := ⟨_, _, _, _, _, _⟩) (v := .bool true) rfl (by kernel_rfl) (by kernel_rfl) (by kernel_rfl) (fun _ _ _ h => h) (yl_pickT (by rfl) _ _ _ rfl rfl _ rfl) (by assumption) ?_
            simp only [Act.put, List.setIfInBounds_toArray, List.set_cons_zero, List.set_cons_succ]
            refine wpAnyH_take (i := 36) (oi := ⟨_, _, _, _, _, _⟩) (v := .bool true) rfl (by kernel_rfl) (by kernel_rfl) (by kernel_rfl) (fun _ _ _ h => h) (yl_move (by rfl) _ rfl _ rfl) (by assumption) ?_
            simp only [Act.put, List.setIfInBounds_toArray, List.set_cons_zero, List.set_cons_succ]
            refine wpAnyH_take (i := 37) (oi := ⟨_, _, _, _, _, _⟩) (v := bxVal a0 a1 a2 a3) rfl (by kernel_rfl) (by kernel_rfl) (by kernel_rfl) (fun _ _ _ h => h) (yl_box (by rfl) _ rfl _ 0 rfl _ _ _ _ _ _ _ _ _ _ _ _ _ _ _ _ (fun _ h => BxIn.cells h.1)) (by assumption) ?_
            simp only [Act.put, List.setIfInBounds_toArray, List.set_cons_zero, List.set_cons_succ]
            refine held_call (o := ⟨_, _, _, _, _, _⟩) 38 (by kernel_rfl) rfl (by rfl) 19 _ _ rfl #[] rfl (run_call Try.func19 (by kernel_rfl) (by kernel_rfl)) ?_
            refine (P.all _).mono ?_
            rintro r v16 ⟨⟨u1, rfl, HG⟩, kb⟩
            replace D := D.trans (kb.mono D.size)
            replace HA := HA.on kb
            replace HB := HB.on kb
            replace HC := HC.on kb
            replace IA := IA.on kb
            replace IB := IB.on kb
            replace IC := IC.on kb
            clear kb
            clear hHeld
            obtain ⟨g0, g1, g2, g3, rfl, -⟩ := HG.scs
            refine ⟨bxVal g0 g1 g2 g3, rfl, ⟨IA, IB, IC⟩, fun hHeld => ?_⟩
            simp only [Act.put, List.setIfInBounds_toArray, List.set_cons_zero, List.set_cons_succ]
            refine held_call (o := ⟨_, _, _, _, _, _⟩) 39 (by kernel_rfl) rfl (by rfl) 12 _ _ rfl #[bxVal a0 a1 a2 a3, bxVal g0 g1 g2 g3] rfl (run_call Try.func12 (by kernel_rfl) (by kernel_rfl)) ?_
            refine (P.in_ _ _ a _ _ HA HG FA.fit allFew.fit).mono ?_
            rintro r v17 ⟨rfl, kb⟩
            replace D := D.trans (kb.mono D.size)
            replace HA := HA.on kb
            replace HB := HB.on kb
            replace HC := HC.on kb
            replace IA := IA.on kb
            replace IB := IB.on kb
            replace IC := IC.on kb
            replace HG := HG.on kb
            clear kb
            clear hHeld
            clear HG
            refine ⟨.bool true, ret_bool hall, ⟨IA, IB, IC⟩, fun hHeld => ?_⟩
            simp only [Act.put, List.setIfInBounds_toArray, List.set_cons_zero, List.set_cons_succ]
            refine wpAnyH_take (i := 40) (oi := ⟨_, _, _, _, _, _⟩) (v := .bool true) rfl (by kernel_rfl) (by kernel_rfl) (by kernel_rfl) (fun _ _ _ h => h) (yl_pickT (by rfl) _ _ _ rfl rfl _ rfl) (by assumption) ?_
            simp only [Act.put, List.setIfInBounds_toArray, List.set_cons_zero, List.set_cons_succ]
            refine wpAnyH_take (i := 41) (oi := ⟨_, _, _, _, _, _⟩) (v := .bool true) rfl (by kernel_rfl) (by kernel_rfl) (by kernel_rfl) (fun _ _ _ h => h) (yl_move (by rfl) _ rfl _ rfl) (by assumption) ?_
            simp only [Act.put, List.setIfInBounds_toArray, List.set_cons_zero, List.set_cons_succ]
            refine wpAnyH_take (i := 42) (oi := ⟨_, _, _, _, _, _⟩) (v := bxVal a0 a1 a2 a3) rfl (by kernel_rfl) (by kernel_rfl) (by kernel_rfl) (fun _ _ _ h => h) (yl_box (by rfl) _ rfl _ 0 rfl _ _ _ _ _ _ _ _ _ _ _ _ _ _ _ _ (fun _ h => BxIn.cells h.1)) (by assumption) ?_
            simp only [Act.put, List.setIfInBounds_toArray, List.set_cons_zero, List.set_cons_succ]
            refine wpAnyH_take (i := 45) (oi := ⟨_, _, _, _, _, _⟩) (v := bxVal a0 a1 a2 a3) rfl (by kernel_rfl) (by kernel_rfl) (by kernel_rfl) (fun _ _ _ h => h) (yl_box (by rfl) _ rfl _ 0 rfl _ _ _ _ _ _ _ _ _ _ _ _ _ _ _ _ (fun _ h => BxIn.cells h.1)) (by assumption) ?_
            simp only [Act.put, List.setIfInBounds_toArray, List.set_cons_zero, List.set_cons_succ]
            refine held_call (o := ⟨_, _, _, _, _, _⟩) 43 (by kernel_rfl) rfl (by rfl) 19 _ _ rfl #[] rfl (run_call Try.func19 (by kernel_rfl) (by kernel_rfl)) ?_
            refine (P.all _).mono ?_
            rintro r v18 ⟨⟨u1, rfl, HH⟩, kb⟩
            replace D := D.trans (kb.mono D.size)
            replace HA := HA.on kb
            replace HB := HB.on kb
            replace HC := HC.on kb
            replace IA := IA.on kb
            replace IB := IB.on kb
            replace IC := IC.on kb
            clear kb
            clear hHeld
            obtain ⟨h0, h1, h2, h3, rfl, -⟩ := HH.scs
            refine ⟨bxVal h0 h1 h2 h3, rfl, ⟨IA, IB, IC⟩, fun hHeld => ?_⟩
            simp only [Act.put, List.setIfInBounds_toArray, List.set_cons_zero, List.set_cons_succ]
            refine held_call (o := ⟨_, _, _, _, _, _⟩) 44 (by kernel_rfl) rfl (by rfl) 10 _ _ rfl #[bxVal a0 a1 a2 a3, bxVal h0 h1 h2 h3] rfl (run_call Try.func10 (by kernel_rfl) (by kernel_rfl)) ?_
            refine (P.and _ _ a allBx _ HA HH FA.fit allFew.fit).mono ?_
            rintro r v19 ⟨⟨u1, rfl, HI⟩, kb⟩
            replace D := D.trans (kb.mono D.size)
            replace HA := HA.on kb
            replace HB := HB.on kb
            replace HC := HC.on kb
            replace IA := IA.on kb
            replace IB := IB.on kb
            replace IC := IC.on kb
            replace HH := HH.on kb
            clear kb
            clear hHeld
            obtain ⟨i0, i1, i2, i3, rfl, -⟩ := HI.scs
            clear HH
            refine ⟨bxVal i0 i1 i2 i3, rfl, ⟨IA, IB, IC⟩, fun hHeld => ?_⟩
            simp only [Act.put, List.setIfInBounds_toArray, List.set_cons_zero, List.set_cons_succ]
            refine held_call (o := ⟨_, _, _, _, _, _⟩) 46 (by kernel_rfl) rfl (by rfl) 20 _ _ rfl #[bxVal i0 i1 i2 i3, bxVal a0 a1 a2 a3] rfl (run_call Try.func20 (by kernel_rfl) (by kernel_rfl)) ?_
            refine (P.same _ _ _ a _ HI HA FAA FA.fit).mono ?_
            rintro r v20 ⟨rfl, kb⟩
            replace D := D.trans (kb.mono D.size)
            replace HA := HA.on kb
            replace HB := HB.on kb
            replace HC := HC.on kb
            replace IA := IA.on kb
            replace IB := IB.on kb
            replace IC := IC.on kb
            replace HI := HI.on kb
            clear kb
            clear hHeld
            clear HI
            refine ⟨.bool true, ret_bool hsame, ⟨IA, IB, IC⟩, fun hHeld => ?_⟩
            simp only [Act.put, List.setIfInBounds_toArray, List.set_cons_zero, List.set_cons_succ]
            refine wpAnyH_take (i := 47) (oi := ⟨_, _, _, _, _, _⟩) (v := .bool true) rfl (by kernel_rfl) (by kernel_rfl) (by kernel_rfl) (fun _ _ _ h => h) (yl_pickT (by rfl) _ _ _ rfl rfl _ rfl) (by assumption) ?_
            simp only [Act.put, List.setIfInBounds_toArray, List.set_cons_zero, List.set_cons_succ]
            refine wpAnyH_take (i := 48) (oi := ⟨_, _, _, _, _, _⟩) (v := .bool true) rfl (by kernel_rfl) (by kernel_rfl) (by kernel_rfl) (fun _ _ _ h => h) (yl_assign (by rfl) _ rfl _ rfl) (by assumption) ?_
            simp only [Act.put, List.setIfInBounds_toArray, List.set_cons_zero, List.set_cons_succ]
            refine wpAnyH_done (by kernel_rfl) ?_ _
            clear hHeld
            refine hK4 _ _ ?_
            clear hK4 K4
            refine wp_ret ?_
            go_ret
            exact ⟨rfl, D⟩
          · replace hand : inBx a (andBx b c) = false := by rw [← hand, h1, h3]; rfl
            refine wp_region_held_drew (S := fun w' => BxIn w' g1 a0 a1 a2 a3 ∧ BxIn w' g2 b0 b1 b2 b3 ∧ BxIn w' g3 c0 c1 c2 c3) (by kernel_rfl) ⟨IA, IB, IC⟩ (fun hHeld => ?_)
            have kb : Below v9.heap.size v9 v9.drew := (Below.refl _ v9).drew
            replace D := D.trans (kb.mono D.size)
            replace HA := HA.on kb
            replace HB := HB.on kb
            replace HC := HC.on kb
            replace IA := IA.on kb
            replace IB := IB.on kb
            replace IC := IC.on kb
            clear kb
            generalize v9.drew = v10 at D hHeld HA HB HC IA IB IC ⊢
            refine wpAnyH_take (i := 0) (oi := ⟨_, _, _, _, _, _⟩) (v := bxVal a0 a1 a2 a3) rfl (by kernel_rfl) (by kernel_rfl) (by kernel_rfl) (fun _ _ _ h => h) (yl_box (by rfl) _ rfl _ 0 rfl _ _ _ _ _ _ _ _ _ _ _ _ _ _ _ _ (fun _ h => BxIn.cells h.1)) (by assumption) ?_
            simp only [Act.put, List.setIfInBounds_toArray, List.set_cons_zero, List.set_cons_succ]
            refine wpAnyH_take (i := 1) (oi := ⟨_, _, _, _, _, _⟩) (v := bxVal b0 b1 b2 b3) rfl (by kernel_rfl) (by kernel_rfl) (by kernel_rfl) (fun _ _ _ h => h) (yl_box (by rfl) _ rfl _ 0 rfl _ _ _ _ _ _ _ _ _ _ _ _ _ _ _ _ (fun _ h => BxIn.cells h.2.1)) (by assumption) ?_
            simp only [Act.put, List.setIfInBounds_toArray, List.set_cons_zero, List.set_cons_succ]
            refine held_call (o := ⟨_, _, _, _, _, _⟩) 2 (by kernel_rfl) rfl (by rfl) 12 _ _ rfl #[bxVal a0 a1 a2 a3, bxVal b0 b1 b2 b3] rfl (run_call Try.func12 (by kernel_rfl) (by kernel_rfl)) ?_
            refine (P.in_ _ _ a b _ HA HB FA.fit FB.fit).mono ?_
            rintro r v11 ⟨rfl, kb⟩
            replace D := D.trans (kb.mono D.size)
            replace HA := HA.on kb
            replace HB := HB.on kb
            replace HC := HC.on kb
            replace IA := IA.on kb
            replace IB := IB.on kb
            replace IC := IC.on kb
            clear kb
            clear hHeld
            refine ⟨.bool true, ret_bool h1, ⟨IA, IB, IC⟩, fun hHeld => ?_⟩
            simp only [Act.put, List.setIfInBounds_toArray, List.set_cons_zero, List.set_cons_succ]
            refine wpAnyH_take (i := 3) (oi := ⟨_, _, _, _, _, _⟩) (v := .bool false) rfl (by kernel_rfl) (by kernel_rfl) (by kernel_rfl) (fun _ _ _ h => h) (yl_not (by rfl) _ _ rfl true rfl) (by assumption) ?_
            simp only [Act.put, List.setIfInBounds_toArray, List.set_cons_zero, List.set_cons_succ]
            refine wpAnyH_take (i := 4) (oi := ⟨_, _, _, _, _, _⟩) (v := .bool false) rfl (by kernel_rfl) (by kernel_rfl) (by kernel_rfl) (fun _ _ _ h => h) (yl_move (by rfl) _ rfl _ rfl) (by assumption) ?_
            simp only [Act.put, List.setIfInBounds_toArray, List.set_cons_zero, List.set_cons_succ]
            refine wpAnyH_take (i := 5) (oi := ⟨_, _, _, _, _, _⟩) (v := bxVal b0 b1 b2 b3) rfl (by kernel_rfl) (by kernel_rfl) (by kernel_rfl) (fun _ _ _ h => h) (yl_box (by rfl) _ rfl _ 0 rfl _ _ _ _ _ _ _ _ _ _ _ _ _ _ _ _ (fun _ h => BxIn.cells h.2.1)) (by assumption) ?_
            simp only [Act.put, List.setIfInBounds_toArray, List.set_cons_zero, List.set_cons_succ]
            refine wpAnyH_take (i := 6) (oi := ⟨_, _, _, _, _, _⟩) (v := bxVal c0 c1 c2 c3) rfl (by kernel_rfl) (by kernel_rfl) (by kernel_rfl) (fun _ _ _ h => h) (yl_box (by rfl) _ rfl _ 0 rfl _ _ _ _ _ _ _ _ _ _ _ _ _ _ _ _ (fun _ h => BxIn.cells h.2.2)) (by assumption) ?_
            simp only [Act.put, List.setIfInBounds_toArray, List.set_cons_zero, List.set_cons_succ]
            refine held_call (o := ⟨_, _, _, _, _, _⟩) 7 (by kernel_rfl) rfl (by rfl) 12 _ _ rfl #[bxVal b0 b1 b2 b3, bxVal c0 c1 c2 c3] rfl (run_call Try.func12 (by kernel_rfl) (by kernel_rfl)) ?_
            refine (P.in_ _ _ b c _ HB HC FB.fit FC.fit).mono ?_
            rintro r v12 ⟨rfl, kb⟩
            replace D := D.trans (kb.mono D.size)
            replace HA := HA.on kb
            replace HB := HB.on kb
            replace HC := HC.on kb
            replace IA := IA.on kb
            replace IB := IB.on kb
            replace IC := IC.on kb
            clear kb
            clear hHeld
            refine ⟨.bool false, ret_bool h2, ⟨IA, IB, IC⟩, fun hHeld => ?_⟩
            simp only [Act.put, List.setIfInBounds_toArray, List.set_cons_zero, List.set_cons_succ]
            refine wpAnyH_take (i := 8) (oi := ⟨_, _, _, _, _, _⟩) (v := .bool true) rfl (by kernel_rfl) (by kernel_rfl) (by kernel_rfl) (fun _ _ _ h => h) (yl_not (by rfl) _ _ rfl false rfl) (by assumption) ?_
            simp only [Act.put, List.setIfInBounds_toArray, List.set_cons_zero, List.set_cons_succ]
            refine wpAnyH_take (i := 9) (oi := ⟨_, _, _, _, _, _⟩) (v := .bool true) rfl (by kernel_rfl) (by kernel_rfl) (by kernel_rfl) (fun _ _ _ h => h) (yl_pickF (by rfl) _ _ _ rfl rfl _ rfl) (by assumption) ?_
            simp only [Act.put, List.setIfInBounds_toArray, List.set_cons_zero, List.set_cons_succ]
            refine wpAnyH_take (i := 10) (oi := ⟨_, _, _, _, _, _⟩) (v := .bool true) rfl (by kernel_rfl) (by kernel_rfl) (by kernel_rfl) (fun _ _ _ h => h) (yl_move (by rfl) _ rfl _ rfl) (by assumption) ?_
            simp only [Act.put, List.setIfInBounds_toArray, List.set_cons_zero, List.set_cons_succ]
            refine wpAnyH_take (i := 11) (oi := ⟨_, _, _, _, _, _⟩) (v := undef) rfl (by kernel_rfl) (by kernel_rfl) (by kernel_rfl) (fun _ _ _ h => h) (yl_undef (by rfl)) (by assumption) ?_
            simp only [Act.put, List.setIfInBounds_toArray, List.set_cons_zero, List.set_cons_succ]
            refine wpAnyH_take (i := 12) (oi := ⟨_, _, _, _, _, _⟩) (v := undef) rfl (by kernel_rfl) (by kernel_rfl) (by kernel_rfl) (fun _ _ _ h => h) (yl_undef (by rfl)) (by assumption) ?_
            simp only [Act.put, List.setIfInBounds_toArray, List.set_cons_zero, List.set_cons_succ]
            refine wpAnyH_take (i := 13) (oi := ⟨_, _, _, _, _, _⟩) (v := undef) rfl (by kernel_rfl) (by kernel_rfl) (by kernel_rfl) (fun _ _ _ h => h) (yl_undef (by rfl)) (by assumption) ?_
            simp only [Act.put, List.setIfInBounds_toArray, List.set_cons_zero, List.set_cons_succ]
            refine wpAnyH_take (i := 14) (oi := ⟨_, _, _, _, _, _⟩) (v := .bool true) rfl (by kernel_rfl) (by kernel_rfl) (by kernel_rfl) (fun _ _ _ h => h) (yl_pickT (by rfl) _ _ _ rfl rfl _ rfl) (by assumption) ?_
            simp only [Act.put, List.setIfInBounds_toArray, List.set_cons_zero, List.set_cons_succ]
            refine wpAnyH_take (i := 15) (oi := ⟨_, _, _, _, _, _⟩) (v := .bool true) rfl (by kernel_rfl) (by kernel_rfl) (by kernel_rfl) (fun _ _ _ h => h) (yl_move (by rfl) _ rfl _ rfl) (by assumption) ?_
            simp only [Act.put, List.setIfInBounds_toArray, List.set_cons_zero, List.set_cons_succ]
            refine wpAnyH_take (i := 16) (oi := ⟨_, _, _, _, _, _⟩) (v := bxVal a0 a1 a2 a3) rfl (by kernel_rfl) (by kernel_rfl) (by kernel_rfl) (fun _ _ _ h => h) (yl_box (by rfl) _ rfl _ 0 rfl _ _ _ _ _ _ _ _ _ _ _ _ _ _ _ _ (fun _ h => BxIn.cells h.1)) (by assumption) ?_
            simp only [Act.put, List.setIfInBounds_toArray, List.set_cons_zero, List.set_cons_succ]
            refine wpAnyH_take (i := 17) (oi := ⟨_, _, _, _, _, _⟩) (v := bxVal b0 b1 b2 b3) rfl (by kernel_rfl) (by kernel_rfl) (by kernel_rfl) (fun _ _ _ h => h) (yl_box (by rfl) _ rfl _ 0 rfl _ _ _ _ _ _ _ _ _ _ _ _ _ _ _ _ (fun _ h => BxIn.cells h.2.1)) (by assumption) ?_
            simp only [Act.put, List.setIfInBounds_toArray, List.set_cons_zero, List.set_cons_succ]
            refine wpAnyH_take (i := 24) (oi := ⟨_, _, _, _, _, _⟩) (v := bxVal a0 a1 a2 a3) rfl (by kernel_rfl) (by kernel_rfl) (by kernel_rfl) (fun _ _ _ h => h) (yl_box (by rfl) _ rfl _ 0 rfl _ _ _ _ _ _ _ _ _ _ _ _ _ _ _ _ (fun _ h => BxIn.cells h.1)) (by assumption) ?_
            simp only [Act.put, List.setIfInBounds_toArray, List.set_cons_zero, List.set_cons_succ]
            refine wpAnyH_take (i := 25) (oi := ⟨_, _, _, _, _, _⟩) (v := bxVal b0 b1 b2 b3) rfl (by kernel_rfl) (by kernel_rfl) (by kernel_rfl) (fun _ _ _ h => h) (yl_box (by rfl) _ rfl _ 0 rfl _ _ _ _ _ _ _ _ _ _ _ _ _ _ _ _ (fun _ h => BxIn.cells h.2.1)) (by assumption) ?_
            simp only [Act.put, List.setIfInBounds_toArray, List.set_cons_zero, List.set_cons_succ]
            refine wpAnyH_take (i := 26) (oi := ⟨_, _, _, _, _, _⟩) (v := bxVal c0 c1 c2 c3) rfl (by kernel_rfl) (by kernel_rfl) (by kernel_rfl) (fun _ _ _ h => h) (yl_box (by rfl) _ rfl _ 0 rfl _ _ _ _ _ _ _ _ _ _ _ _ _ _ _ _ (fun _ h => BxIn.cells h.2.2)) (by assumption) ?_
            simp only [Act.put, List.setIfInBounds_toArray, List.set_cons_zero, List.set_cons_succ]
            refine held_call (o := ⟨_, _, _, _, _, _⟩) 18 (by kernel_rfl) rfl (by rfl) 12 _ _ rfl #[bxVal a0 a1 a2 a3, bxVal b0 b1 b2 b3] rfl (run_call Try.func12 (by kernel_rfl) (by kernel_rfl)) ?_
            refine (P.in_ _ _ a b _ HA HB FA.fit FB.fit).mono ?_
            rintro r v13 ⟨rfl, kb⟩
            replace D := D.trans (kb.mono D.size)
            replace HA := HA.on kb
            replace HB := HB.on kb
            replace HC := HC.on kb
            replace IA := IA.on kb
            replace IB := IB.on kb
            replace IC := IC.on kb
            clear kb
            clear hHeld
            refine ⟨.bool true, ret_bool h1, ⟨IA, IB, IC⟩, fun hHeld => ?_⟩
            simp only [Act.put, List.setIfInBounds_toArray, List.set_cons_zero, List.set_cons_succ]
            refine wpAnyH_take (i := 19) (oi := ⟨_, _, _, _, _, _⟩) (v := .bool true) rfl (by kernel_rfl) (by kernel_rfl) (by kernel_rfl) (fun _ _ _ h => h) (yl_move (by rfl) _ rfl _ rfl) (by assumption) ?_
            simp only [Act.put, List.setIfInBounds_toArray, List.set_cons_zero, List.set_cons_succ]
            refine wpAnyH_take (i := 20) (oi := ⟨_, _, _, _, _, _⟩) (v := bxVal a0 a1 a2 a3) rfl (by kernel_rfl) (by kernel_rfl) (by kernel_rfl) (fun _ _ _ h => h) (yl_box (by rfl) _ rfl _ 0 rfl _ _ _ _ _ _ _ _ _ _ _ _ _ _ _ _ (fun _ h => BxIn.cells h.1)) (by assumption) ?_
            simp only [Act.put, List.setIfInBounds_toArray, List.set_cons_zero, List.set_cons_succ]
            refine wpAnyH_take (i := 21) (oi := ⟨_, _, _, _, _, _⟩) (v := bxVal c0 c1 c2 c3) rfl (by kernel_rfl) (by kernel_rfl) (by kernel_rfl) (fun _ _ _ h => h) (yl_box (by rfl) _ rfl _ 0 rfl _ _ _ _ _ _ _ _ _ _ _ _ _ _ _ _ (fun _ h => BxIn.cells h.2.2)) (by assumption) ?_
            simp only [Act.put, List.setIfInBounds_toArray, List.set_cons_zero, List.set_cons_succ]
            refine held_call (o := ⟨_, _, _, _, _, _⟩) 22 (by kernel_rfl) rfl (by rfl) 12 _ _ rfl #[bxVal a0 a1 a2 a3, bxVal c0 c1 c2 c3] rfl (run_call Try.func12 (by kernel_rfl) (by kernel_rfl)) ?_
            refine (P.in_ _ _ a c _ HA HC FA.fit FC.fit).mono ?_
            rintro r v14 ⟨rfl, kb⟩
            replace D := D.trans (kb.mono D.size)
            replace HA := HA.on kb
            replace HB := HB.on kb
            replace HC := HC.on kb
            replace IA := IA.on kb
            replace IB := IB.on kb
            replace IC := IC.on kb
            clear kb
            clear hHeld
            refine ⟨.bool false, ret_bool h3, ⟨IA, IB, IC⟩, fun hHeld => ?_⟩
            simp only [Act.put, List.setIfInBounds_toArray, List.set_cons_zero, List.set_cons_succ]
            refine wpAnyH_take (i := 23) (oi := ⟨_, _, _, _, _, _⟩) (v := .bool false) rfl (by kernel_rfl) (by kernel_rfl) (by kernel_rfl) (fun _ _ _ h => h) (yl_pickT (by rfl) _ _ _ rfl rfl _ rfl) (by assumption) ?_
            simp only [Act.put, List.setIfInBounds_toArray, List.set_cons_zero, List.set_cons_succ]
            refine held_call (o := ⟨_, _, _, _, _, _⟩) 27 (by kernel_rfl) rfl (by rfl) 10 _ _ rfl #[bxVal b0 b1 b2 b3, bxVal c0 c1 c2 c3] rfl (run_call Try.func10 (by kernel_rfl) (by kernel_rfl)) ?_
            refine (P.and _ _ b c _ HB HC FB.fit FC.fit).mono ?_
            rintro r v15 ⟨⟨u1, rfl, HD⟩, kb⟩
            replace D := D.trans (kb.mono D.size)
            replace HA := HA.on kb
            replace HB := HB.on kb
            replace HC := HC.on kb
            replace IA := IA.on kb
            replace IB := IB.on kb
            replace IC := IC.on kb
            clear kb
            clear hHeld
            obtain ⟨d0, d1, d2, d3, rfl, -⟩ := HD.scs
            refine ⟨bxVal d0 d1 d2 d3, rfl, ⟨IA, IB, IC⟩, fun hHeld => ?_⟩
            simp only [Act.put, List.setIfInBounds_toArray, List.set_cons_zero, List.set_cons_succ]
            refine held_call (o := ⟨_, _, _, _, _, _⟩) 28 (by kernel_rfl) rfl (by rfl) 12 _ _ rfl #[bxVal a0 a1 a2 a3, bxVal d0 d1 d2 d3] rfl (run_call Try.func12 (by kernel_rfl) (by kernel_rfl)) ?_
            refine (P.in_ _ _ a _ _ HA HD FA.fit FBC).mono ?_
            rintro r v16 ⟨rfl, kb⟩
            replace D := D.trans (kb.mono D.size)
            replace HA := HA.on kb
            replace HB := HB.on kb
            replace HC := HC.on kb
            replace IA := IA.on kb
            replace IB := IB.on kb
            replace IC := IC.on kb
            replace HD := HD.on kb
            clear kb
            clear hHeld
            clear HD
            refine ⟨.bool false, ret_bool hand, ⟨IA, IB, IC⟩, fun hHeld => ?_⟩
            simp only [Act.put, List.setIfInBounds_toArray, List.set_cons_zero, List.set_cons_succ]
            refine wpAnyH_take (i := 29) (oi := ⟨_, _, _, _, _, _⟩) (v := .bool true) rfl (by kernel_rfl) (by kernel_rfl) (by kernel_rfl) (fun _ _ _ h => h) (yl_eqB (by rfl) _ _ _ rfl false false rfl rfl) (by assumption) ?_
            simp only [Act.put, List.setIfInBounds_toArray, List.set_cons_zero, List.set_cons_succ]
            refine wpAnyH_take (i := 30) (oi := ⟨_, _, _, _, _, _⟩) (v := .bool true) rfl (by kernel_rfl) (by kernel_rfl) (by kernel_rfl) (fun _ _ _ h => h) (yl_pickT (by rfl) _ _ _ rfl rfl _ rfl) (by assumption) ?_
            simp only [Act.put, List.setIfInBounds_toArray, List.set_cons_zero, List.set_cons_succ]
            refine wpAnyH_take (i := 31) (oi := ⟨_, _, _, _, _, _⟩) (v := .bool true) rfl (by kernel_rfl) (by kernel_rfl) (by kernel_rfl) (fun _ _ _ h => h) (yl_move (by rfl) _ rfl _ rfl) (by assumption) ?_
            simp only [Act.put, List.setIfInBounds_toArray, List.set_cons_zero, List.set_cons_succ]
            refine wpAnyH_take (i := 32) (oi := ⟨_, _, _, _, _, _⟩) (v := bxVal a0 a1 a2 a3) rfl (by kernel_rfl) (by kernel_rfl) (by kernel_rfl) (fun _ _ _ h => h) (yl_box (by rfl) _ rfl _ 0 rfl _ _ _ _ _ _ _ _ _ _ _ _ _ _ _ _ (fun _ h => BxIn.cells h.1)) (by assumption) ?_
            simp only [Act.put, List.setIfInBounds_toArray, List.set_cons_zero, List.set_cons_succ]
            refine wpAnyH_take (i := 33) (oi := ⟨_, _, _, _, _, _⟩) (v := bxVal a0 a1 a2 a3) rfl (by kernel_rfl) (by kernel_rfl) (by kernel_rfl) (fun _ _ _ h => h) (yl_box (by rfl) _ rfl _ 0 rfl _ _ _ _ _ _ _ _ _ _ _ _ _ _ _ _ (fun _ h => BxIn.cells h.1)) (by assumption) ?_
            simp only [Act.put, List.setIfInBounds_toArray, List.set_cons_zero, List.set_cons_succ]
            refine held_call (o := ⟨_, _, _, _, _, _⟩) 34 (by kernel_rfl) rfl (by rfl) 12 _ _ rfl #[bxVal a0 a1 a2 a3, bxVal a0 a1 a2 a3] rfl (run_call Try.func12 (by kernel_rfl) (by kernel_rfl)) ?_
            refine (P.in_ _ _ a a _ HA HA FA.fit FA.fit).mono ?_
            rintro r v17 ⟨rfl, kb⟩
            replace D := D.trans (kb.mono D.size)
            replace HA := HA.on kb
            replace HB := HB.on kb
            replace HC := HC.on kb
            replace IA := IA.on kb
            replace IB := IB.on kb
            replace IC := IC.on kb
            clear kb
            clear hHeld
            refine ⟨.bool true, ret_bool hrefl, ⟨IA, IB, IC⟩, fun hHeld => ?_⟩
            simp only [Act.put, List.setIfInBounds_toArray, List.set_cons_zero, List.set_cons_succ]
            refine wpAnyH_take (i := 35) (oi := ⟨_, _, _, _, _, _⟩) (v := .bool true) rfl (by kernel_rfl) (by kernel_rfl) (by kernel_rfl) (fun _ _ _ h => h) (yl_pickT (by rfl) _ _ _ rfl rfl _ rfl) (by assumption) ?_
            simp only [Act.put, List.setIfInBounds_toArray, List.set_cons_zero, List.set_cons_succ]
            refine wpAnyH_take (i := 36) (oi := ⟨_, _, _, _, _, _⟩) (v := .bool true) rfl (by kernel_rfl) (by kernel_rfl) (by kernel_rfl) (fun _ _ _ h => h) (yl_move (by rfl) _ rfl _ rfl) (by assumption) ?_
            simp only [Act.put, List.setIfInBounds_toArray, List.set_cons_zero, List.set_cons_succ]
            refine wpAnyH_take (i := 37) (oi := ⟨_, _, _, _, _, _⟩) (v := bxVal a0 a1 a2 a3) rfl (by kernel_rfl) (by kernel_rfl) (by kernel_rfl) (fun _ _ _ h => h) (yl_box (by rfl) _ rfl _ 0 rfl _ _ _ _ _ _ _ _ _ _ _ _ _ _ _ _ (fun _ h => BxIn.cells h.1)) (by assumption) ?_
            simp only [Act.put, List.setIfInBounds_toArray, List.set_cons_zero, List.set_cons_succ]
            refine held_call (o := ⟨_, _, _, _, _, _⟩) 38 (by kernel_rfl) rfl (by rfl) 19 _ _ rfl #[] rfl (run_call Try.func19 (by kernel_rfl) (by kernel_rfl)) ?_
            refine (P.all _).mono ?_
            rintro r v18 ⟨⟨u1, rfl, HG⟩, kb⟩
            replace D := D.trans (kb.mono D.size)
            replace HA := HA.on kb
            replace HB := HB.on kb
            replace HC := HC.on kb
            replace IA := IA.on kb
            replace IB := IB.on kb
            replace IC := IC.on kb
            clear kb
            clear hHeld
            obtain ⟨g0, g1, g2, g3, rfl, -⟩ := HG.scs
            refine ⟨bxVal g0 g1 g2 g3, rfl, ⟨IA, IB, IC⟩, fun hHeld => ?_⟩
            simp only [Act.put, List.setIfInBounds_toArray, List.set_cons_zero, List.set_cons_succ]
            refine held_call (o := ⟨_, _, _, _, _, _⟩) 39 (by kernel_rfl) rfl (by rfl) 12 _ _ rfl #[bxVal a0 a1 a2 a3, bxVal g0 g1 g2 g3] rfl (run_call Try.func12 (by kernel_rfl) (by kernel_rfl)) ?_
            refine (P.in_ _ _ a _ _ HA HG FA.fit allFew.fit).mono ?_
            rintro r v19 ⟨rfl, kb⟩
            replace D := D.trans (kb.mono D.size)
            replace HA := HA.on kb
            replace HB := HB.on kb
            replace HC := HC.on kb
            replace IA := IA.on kb
            replace IB := IB.on kb
            replace IC := IC.on kb
            replace HG := HG.on kb
            clear kb
            clear hHeld
            clear HG
            refine ⟨.bool true, ret_bool hall, ⟨IA, IB, IC⟩, fun hHeld => ?_⟩
            simp only [Act.put, List.setIfInBounds_toArray, List.set_cons_zero, List.set_cons_succ]
            refine wpAnyH_take (i := 40) (oi := ⟨_, _, _, _, _, _⟩) (v := .bool true) rfl (by kernel_rfl) (by kernel_rfl) (by kernel_rfl) (fun _ _ _ h => h) (yl_pickT (by rfl) _ _ _ rfl rfl _ rfl) (by assumption) ?_
            simp only [Act.put, List.setIfInBounds_toArray, List.set_cons_zero, List.set_cons_succ]
            refine wpAnyH_take (i := 41) (oi := ⟨_, _, _, _, _, _⟩) (v := .bool true) rfl (by kernel_rfl) (by kernel_rfl) (by kernel_rfl) (fun _ _ _ h => h) (yl_move (by rfl) _ rfl _ rfl) (by assumption) ?_
            simp only [Act.put, List.setIfInBounds_toArray, List.set_cons_zero, List.set_cons_succ]
            refine wpAnyH_take (i := 42) (oi := ⟨_, _, _, _, _, _⟩) (v := bxVal a0 a1 a2 a3) rfl (by kernel_rfl) (by kernel_rfl) (by kernel_rfl) (fun _ _ _ h => h) (yl_box (by rfl) _ rfl _ 0 rfl _ _ _ _ _ _ _ _ _ _ _ _ _ _ _ _ (fun _ h => BxIn.cells h.1)) (by assumption) ?_
            simp only [Act.put, List.setIfInBounds_toArray, List.set_cons_zero, List.set_cons_succ]
            refine wpAnyH_take (i := 45) (oi := ⟨_, _, _, _, _, _⟩) (v := bxVal a0 a1 a2 a3) rfl (by kernel_rfl) (by kernel_rfl) (by kernel_rfl) (fun _ _ _ h => h) (yl_box (by rfl) _ rfl _ 0 rfl _ _ _ _ _ _ _ _ _ _ _ _ _ _ _ _ (fun _ h => BxIn.cells h.1)) (by assumption) ?_
            simp only [Act.put, List.setIfInBounds_toArray, List.set_cons_zero, List.set_cons_succ]
            refine held_call (o := ⟨_, _, _, _, _, _⟩) 43 (by kernel_rfl) rfl (by rfl) 19 _ _ rfl #[] rfl (run_call Try.func19 (by kernel_rfl) (by kernel_rfl)) ?_
            refine (P.all _).mono ?_
            rintro r v20 ⟨⟨u1, rfl, HH⟩, kb⟩
            replace D := D.trans (kb.mono D.size)
            replace HA := HA.on kb
            replace HB := HB.on kb
            replace HC := HC.on kb
            replace IA := IA.on kb
            replace IB := IB.on kb
            replace IC := IC.on kb
            clear kb
            clear hHeld
            obtain ⟨h0, h1, h2, h3, rfl, -⟩ := HH.scs
            refine ⟨bxVal h0 h1 h2 h3, rfl, ⟨IA, IB, IC⟩, fun hHeld => ?_⟩
            simp only [Act.put, List.setIfInBounds_toArray, List.set_cons_zero, List.set_cons_succ]
            refine held_call (o := ⟨_, _, _, _, _, _⟩) 44 (by kernel_rfl) rfl (by rfl) 10 _ _ rfl #[bxVal a0 a1 a2 a3, bxVal h0 h1 h2 h3] rfl (run_call Try.func10 (by kernel_rfl) (by kernel_rfl)) ?_
            refine (P.and _ _ a allBx _ HA HH FA.fit allFew.fit).mono ?_
            rintro r v21 ⟨⟨u1, rfl, HI⟩, kb⟩
            replace D := D.trans (kb.mono D.size)
            replace HA := HA.on kb
            replace HB := HB.on kb
            replace HC := HC.on kb
            replace IA := IA.on kb
            replace IB := IB.on kb
            replace IC := IC.on kb
            replace HH := HH.on kb
            clear kb
            clear hHeld
            obtain ⟨i0, i1, i2, i3, rfl, -⟩ := HI.scs
            clear HH
            refine ⟨bxVal i0 i1 i2 i3, rfl, ⟨IA, IB, IC⟩, fun hHeld => ?_⟩
            simp only [Act.put, List.setIfInBounds_toArray, List.set_cons_zero, List.set_cons_succ]
            refine held_call (o := ⟨_, _, _, _, _, _⟩) 46 (by kernel_rfl) rfl (by rfl) 20 _ _ rfl #[bxVal i0 i1 i2 i3, bxVal a0 a1 a2 a3] rfl (run_call Try.func20 (by kernel_rfl) (by kernel_rfl)) ?_
            refine (P.same _ _ _ a _ HI HA FAA FA.fit).mono ?_
            rintro r v22 ⟨rfl, kb⟩
            replace D := D.trans (kb.mono D.size)
            replace HA := HA.on kb
            replace HB := HB.on kb
            replace HC := HC.on kb
            replace IA := IA.on kb
            replace IB := IB.on kb
            replace IC := IC.on kb
            replace HI := HI.on kb
            clear kb
            clear hHeld
            clear HI
            refine ⟨.bool true, ret_bool hsame, ⟨IA, IB, IC⟩, fun hHeld => ?_⟩
            simp only [Act.put, List.setIfInBounds_toArray, List.set_cons_zero, List.set_cons_succ]
            refine wpAnyH_take (i := 47) (oi := ⟨_, _, _, _, _, _⟩) (v := .bool true) rfl (by kernel_rfl) (by kernel_rfl) (by kernel_rfl) (fun _ _ _ h => h) (yl_pickT (by rfl) _ _ _ rfl rfl _ rfl) (by assumption) ?_
            simp only [Act.put, List.setIfInBounds_toArray, List.set_cons_zero, List.set_cons_succ]
            refine wpAnyH_take (i := 48) (oi := ⟨_, _, _, _, _, _⟩) (v := .bool true) rfl (by kernel_rfl) (by kernel_rfl) (by kernel_rfl) (fun _ _ _ h => h) (yl_assign (by rfl) _ rfl _ rfl) (by assumption) ?_
            simp only [Act.put, List.setIfInBounds_toArray, List.set_cons_zero, List.set_cons_succ]
            refine wpAnyH_done (by kernel_rfl) ?_ _
            clear hHeld
            refine hK4 _ _ ?_
            clear hK4 K4
            refine wp_ret ?_
            go_ret
            exact ⟨rfl, D⟩
          · replace hand : inBx a (andBx b c) = true := by rw [← hand, h1, h3]; rfl
            refine wp_region_held_drew (S := fun w' => BxIn w' g1 a0 a1 a2 a3 ∧ BxIn w' g2 b0 b1 b2 b3 ∧ BxIn w' g3 c0 c1 c2 c3) (by kernel_rfl) ⟨IA, IB, IC⟩ (fun hHeld => ?_)
            have kb : Below v9.heap.size v9 v9.drew := (Below.refl _ v9).drew
            replace D := D.trans (kb.mono D.size)
            replace HA := HA.on kb
            replace HB := HB.on kb
            replace HC := HC.on kb
            replace IA := IA.on kb
            replace IB := IB.on kb
            replace IC := IC.on kb
            clear kb
            generalize v9.drew = v10 at D hHeld HA HB HC IA IB IC ⊢
            refine wpAnyH_take (i := 0) (oi := ⟨_, _, _, _, _, _⟩) (v := bxVal a0 a1 a2 a3) rfl (by kernel_rfl) (by kernel_rfl) (by kernel_rfl) (fun _ _ _ h => h) (yl_box (by rfl) _ rfl _ 0 rfl _ _ _ _ _ _ _ _ _ _ _ _ _ _ _ _ (fun _ h => BxIn.cells h.1)) (by assumption) ?_
            simp only [Act.put, List.setIfInBounds_toArray, List.set_cons_zero, List.set_cons_succ]
            refine wpAnyH_take (i := 1) (oi := ⟨_, _, _, _, _, _⟩) (v := bxVal b0 b1 b2 b3) rfl (by kernel_rfl) (by kernel_rfl) (by kernel_rfl) (fun _ _ _ h => h) (yl_box (by rfl) _ rfl _ 0 rfl _ _ _ _ _ _ _ _ _ _ _ _ _ _ _ _ (fun _ h => BxIn.cells h.2.1)) (by assumption) ?_
            simp only [Act.put, List.setIfInBounds_toArray, List.set_cons_zero, List.set_cons_succ]
            refine held_call (o := ⟨_, _, _, _, _, _⟩) 2 (by kernel_rfl) rfl (by rfl) 12 _ _ rfl #[bxVal a0 a1 a2 a3, bxVal b0 b1 b2 b3] rfl (run_call Try.func12 (by kernel_rfl) (by kernel_rfl)) ?_
            refine (P.in_ _ _ a b _ HA HB FA.fit FB.fit).mono ?_
            rintro r v11 ⟨rfl, kb⟩
            replace D := D.trans (kb.mono D.size)
            replace HA := HA.on kb
            replace HB := HB.on kb
            replace HC := HC.on kb
            replace IA := IA.on kb
            replace IB := IB.on kb
            replace IC := IC.on kb
            clear kb
            clear hHeld
            refine ⟨.bool true, ret_bool h1, ⟨IA, IB, IC⟩, fun hHeld => ?_⟩
            simp only [Act.put, List.setIfInBounds_toArray, List.set_cons_zero, List.set_cons_succ]
            refine wpAnyH_take (i := 3) (oi := ⟨_, _, _, _, _, _⟩) (v := .bool false) rfl (by kernel_rfl) (by kernel_rfl) (by kernel_rfl) (fun _ _ _ h => h) (yl_not (by rfl) _ _ rfl true rfl) (by assumption) ?_
            simp only [Act.put, List.setIfInBounds_toArray, List.set_cons_zero, List.set_cons_succ]
            refine wpAnyH_take (i := 4) (oi := ⟨_, _, _, _, _, _⟩) (v := .bool false) rfl (by kernel_rfl) (by kernel_rfl) (by kernel_rfl) (fun _ _ _ h => h) (yl_move (by rfl) _ rfl _ rfl) (by assumption) ?_
            simp only [Act.put, List.setIfInBounds_toArray, List.set_cons_zero, List.set_cons_succ]
            refine wpAnyH_take (i := 5) (oi := ⟨_, _, _, _, _, _⟩) (v := bxVal b0 b1 b2 b3) rfl (by kernel_rfl) (by kernel_rfl) (by kernel_rfl) (fun _ _ _ h => h) (yl_box (by rfl) _ rfl _ 0 rfl _ _ _ _ _ _ _ _ _ _ _ _ _ _ _ _ (fun _ h => BxIn.cells h.2.1)) (by assumption) ?_
            simp only [Act.put, List.setIfInBounds_toArray, List.set_cons_zero, List.set_cons_succ]
            refine wpAnyH_take (i := 6) (oi := ⟨_, _, _, _, _, _⟩) (v := bxVal c0 c1 c2 c3) rfl (by kernel_rfl) (by kernel_rfl) (by kernel_rfl) (fun _ _ _ h => h) (yl_box (by rfl) _ rfl _ 0 rfl _ _ _ _ _ _ _ _ _ _ _ _ _ _ _ _ (fun _ h => BxIn.cells h.2.2)) (by assumption) ?_
            simp only [Act.put, List.setIfInBounds_toArray, List.set_cons_zero, List.set_cons_succ]
            refine held_call (o := ⟨_, _, _, _, _, _⟩) 7 (by kernel_rfl) rfl (by rfl) 12 _ _ rfl #[bxVal b0 b1 b2 b3, bxVal c0 c1 c2 c3] rfl (run_call Try.func12 (by kernel_rfl) (by kernel_rfl)) ?_
            refine (P.in_ _ _ b c _ HB HC FB.fit FC.fit).mono ?_
            rintro r v12 ⟨rfl, kb⟩
            replace D := D.trans (kb.mono D.size)
            replace HA := HA.on kb
            replace HB := HB.on kb
            replace HC := HC.on kb
            replace IA := IA.on kb
            replace IB := IB.on kb
            replace IC := IC.on kb
            clear kb
            clear hHeld
            refine ⟨.bool false, ret_bool h2, ⟨IA, IB, IC⟩, fun hHeld => ?_⟩
            simp only [Act.put, List.setIfInBounds_toArray, List.set_cons_zero, List.set_cons_succ]
            refine wpAnyH_take (i := 8) (oi := ⟨_, _, _, _, _, _⟩) (v := .bool true) rfl (by kernel_rfl) (by kernel_rfl) (by kernel_rfl) (fun _ _ _ h => h) (yl_not (by rfl) _ _ rfl false rfl) (by assumption) ?_
            simp only [Act.put, List.setIfInBounds_toArray, List.set_cons_zero, List.set_cons_succ]
            refine wpAnyH_take (i := 9) (oi := ⟨_, _, _, _, _, _⟩) (v := .bool true) rfl (by kernel_rfl) (by kernel_rfl) (by kernel_rfl) (fun _ _ _ h => h) (yl_pickF (by rfl) _ _ _ rfl rfl _ rfl) (by assumption) ?_
            simp only [Act.put, List.setIfInBounds_toArray, List.set_cons_zero, List.set_cons_succ]
            refine wpAnyH_take (i := 10) (oi := ⟨_, _, _, _, _, _⟩) (v := .bool true) rfl (by kernel_rfl) (by kernel_rfl) (by kernel_rfl) (fun _ _ _ h => h) (yl_move (by rfl) _ rfl _ rfl) (by assumption) ?_
            simp only [Act.put, List.setIfInBounds_toArray, List.set_cons_zero, List.set_cons_succ]
            refine wpAnyH_take (i := 11) (oi := ⟨_, _, _, _, _, _⟩) (v := undef) rfl (by kernel_rfl) (by kernel_rfl) (by kernel_rfl) (fun _ _ _ h => h) (yl_undef (by rfl)) (by assumption) ?_
            simp only [Act.put, List.setIfInBounds_toArray, List.set_cons_zero, List.set_cons_succ]
            refine wpAnyH_take (i := 12) (oi := ⟨_, _, _, _, _, _⟩) (v := undef) rfl (by kernel_rfl) (by kernel_rfl) (by kernel_rfl) (fun _ _ _ h => h) (yl_undef (by rfl)) (by assumption) ?_
            simp only [Act.put, List.setIfInBounds_toArray, List.set_cons_zero, List.set_cons_succ]
            refine wpAnyH_take (i := 13) (oi := ⟨_, _, _, _, _, _⟩) (v := undef) rfl (by kernel_rfl) (by kernel_rfl) (by kernel_rfl) (fun _ _ _ h => h) (yl_undef (by rfl)) (by assumption) ?_
            simp only [Act.put, List.setIfInBounds_toArray, List.set_cons_zero, List.set_cons_succ]
            refine wpAnyH_take (i := 14) (oi := ⟨_, _, _, _, _, _⟩) (v := .bool true) rfl (by kernel_rfl) (by kernel_rfl) (by kernel_rfl) (fun _ _ _ h => h) (yl_pickT (by rfl) _ _ _ rfl rfl _ rfl) (by assumption) ?_
            simp only [Act.put, List.setIfInBounds_toArray, List.set_cons_zero, List.set_cons_succ]
            refine wpAnyH_take (i := 15) (oi := ⟨_, _, _, _, _, _⟩) (v := .bool true) rfl (by kernel_rfl) (by kernel_rfl) (by kernel_rfl) (fun _ _ _ h => h) (yl_move (by rfl) _ rfl _ rfl) (by assumption) ?_
            simp only [Act.put, List.setIfInBounds_toArray, List.set_cons_zero, List.set_cons_succ]
            refine wpAnyH_take (i := 16) (oi := ⟨_, _, _, _, _, _⟩) (v := bxVal a0 a1 a2 a3) rfl (by kernel_rfl) (by kernel_rfl) (by kernel_rfl) (fun _ _ _ h => h) (yl_box (by rfl) _ rfl _ 0 rfl _ _ _ _ _ _ _ _ _ _ _ _ _ _ _ _ (fun _ h => BxIn.cells h.1)) (by assumption) ?_
            simp only [Act.put, List.setIfInBounds_toArray, List.set_cons_zero, List.set_cons_succ]
            refine wpAnyH_take (i := 17) (oi := ⟨_, _, _, _, _, _⟩) (v := bxVal b0 b1 b2 b3) rfl (by kernel_rfl) (by kernel_rfl) (by kernel_rfl) (fun _ _ _ h => h) (yl_box (by rfl) _ rfl _ 0 rfl _ _ _ _ _ _ _ _ _ _ _ _ _ _ _ _ (fun _ h => BxIn.cells h.2.1)) (by assumption) ?_
            simp only [Act.put, List.setIfInBounds_toArray, List.set_cons_zero, List.set_cons_succ]
            refine wpAnyH_take (i := 24) (oi := ⟨_, _, _, _, _, _⟩) (v := bxVal a0 a1 a2 a3) rfl (by kernel_rfl) (by kernel_rfl) (by kernel_rfl) (fun _ _ _ h => h) (yl_box (by rfl) _ rfl _ 0 rfl _ _ _ _ _ _ _ _ _ _ _ _ _ _ _ _ (fun _ h => BxIn.cells h.1)) (by assumption) ?_
            simp only [Act.put, List.setIfInBounds_toArray, List.set_cons_zero, List.set_cons_succ]
            refine wpAnyH_take (i := 25) (oi := ⟨_, _, _, _, _, _⟩) (v := bxVal b0 b1 b2 b3) rfl (by kernel_rfl) (by kernel_rfl) (by kernel_rfl) (fun _ _ _ h => h) (yl_box (by rfl) _ rfl _ 0 rfl _ _ _ _ _ _ _ _ _ _ _ _ _ _ _ _ (fun _ h => BxIn.cells h.2.1)) (by assumption) ?_
            simp only [Act.put, List.setIfInBounds_toArray, List.set_cons_zero, List.set_cons_succ]
            refine wpAnyH_take (i := 26) (oi := ⟨_, _, _, _, _, _⟩) (v := bxVal c0 c1 c2 c3) rfl (by kernel_rfl) (by kernel_rfl) (by kernel_rfl) (fun _ _ _ h => h) (yl_box (by rfl) _ rfl _ 0 rfl _ _ _ _ _ _ _ _ _ _ _ _ _ _ _ _ (fun _ h => BxIn.cells h.2.2)) (by assumption) ?_
            simp only [Act.put, List.setIfInBounds_toArray, List.set_cons_zero, List.set_cons_succ]
            refine held_call (o := ⟨_, _, _, _, _, _⟩) 18 (by kernel_rfl) rfl (by rfl) 12 _ _ rfl #[bxVal a0 a1 a2 a3, bxVal b0 b1 b2 b3] rfl (run_call Try.func12 (by kernel_rfl) (by kernel_rfl)) ?_
            refine (P.in_ _ _ a b _ HA HB FA.fit FB.fit).mono ?_
            rintro r v13 ⟨rfl, kb⟩
            replace D := D.trans (kb.mono D.size)
            replace HA := HA.on kb
            replace HB := HB.on kb
            replace HC := HC.on kb
            replace IA := IA.on kb
            replace IB := IB.on kb
            replace IC := IC.on kb
            clear kb
            clear hHeld
            refine ⟨.bool true, ret_bool h1, ⟨IA, IB, IC⟩, fun hHeld => ?_⟩
            simp only [Act.put, List.setIfInBounds_toArray, List.set_cons_zero, List.set_cons_succ]
            refine wpAnyH_take (i := 19) (oi := ⟨_, _, _, _, _, _⟩) (v := .bool true) rfl (by kernel_rfl) (by kernel_rfl) (by kernel_rfl) (fun _ _ _ h => h) (yl_move (by rfl) _ rfl _ rfl) (by assumption) ?_
            simp only [Act.put, List.setIfInBounds_toArray, List.set_cons_zero, List.set_cons_succ]
            refine wpAnyH_take (i := 20) (oi := ⟨_, _, _, _, _, _⟩) (v := bxVal a0 a1 a2 a3) rfl (by kernel_rfl) (by kernel_rfl) (by kernel_rfl) (fun _ _ _ h => h) (yl_box (by rfl) _ rfl _ 0 rfl _ _ _ _ _ _ _ _ _ _ _ _ _ _ _ _ (fun _ h => BxIn.cells h.1)) (by assumption) ?_
            simp only [Act.put, List.setIfInBounds_toArray, List.set_cons_zero, List.set_cons_succ]
            refine wpAnyH_take (i := 21) (oi := ⟨_, _, _, _, _, _⟩) (v := bxVal c0 c1 c2 c3) rfl (by kernel_rfl) (by kernel_rfl) (by kernel_rfl) (fun _ _ _ h => h) (yl_box (by rfl) _ rfl _ 0 rfl _ _ _ _ _ _ _ _ _ _ _ _ _ _ _ _ (fun _ h => BxIn.cells h.2.2)) (by assumption) ?_
            simp only [Act.put, List.setIfInBounds_toArray, List.set_cons_zero, List.set_cons_succ]
            refine held_call (o := ⟨_, _, _, _, _, _⟩) 22 (by kernel_rfl) rfl (by rfl) 12 _ _ rfl #[bxVal a0 a1 a2 a3, bxVal c0 c1 c2 c3] rfl (run_call Try.func12 (by kernel_rfl) (by kernel_rfl)) ?_
            refine (P.in_ _ _ a c _ HA HC FA.fit FC.fit).mono ?_
            rintro r v14 ⟨rfl, kb⟩
            replace D := D.trans (kb.mono D.size)
            replace HA := HA.on kb
            replace HB := HB.on kb
            replace HC := HC.on kb
            replace IA := IA.on kb
            replace IB := IB.on kb
            replace IC := IC.on kb
            clear kb
            clear hHeld
            refine ⟨.bool true, ret_bool h3, ⟨IA, IB, IC⟩, fun hHeld => ?_⟩
            simp only [Act.put, List.setIfInBounds_toArray, List.set_cons_zero, List.set_cons_succ]
            refine wpAnyH_take (i := 23) (oi := ⟨_, _, _, _, _, _⟩) (v := .bool true) rfl (by kernel_rfl) (by kernel_rfl) (by kernel_rfl) (fun _ _ _ h => h) (yl_pickT (by rfl) _ _ _ rfl rfl _ rfl) (by assumption) ?_
            simp only [Act.put, List.setIfInBounds_toArray, List.set_cons_zero, List.set_cons_succ]
            refine held_call (o := ⟨_, _, _, _, _, _⟩) 27 (by kernel_rfl) rfl (by rfl) 10 _ _ rfl #[bxVal b0 b1 b2 b3, bxVal c0 c1 c2 c3] rfl (run_call Try.func10 (by kernel_rfl) (by kernel_rfl)) ?_
            refine (P.and _ _ b c _ HB HC FB.fit FC.fit).mono ?_
            rintro r v15 ⟨⟨u1, rfl, HD⟩, kb⟩
            replace D := D.trans (kb.mono D.size)
            replace HA := HA.on kb
            replace HB := HB.on kb
            replace HC := HC.on kb
            replace IA := IA.on kb
            replace IB := IB.on kb
            replace IC := IC.on kb
            clear kb
            clear hHeld
            obtain ⟨d0, d1, d2, d3, rfl, -⟩ := HD.scs
            refine ⟨bxVal d0 d1 d2 d3, rfl, ⟨IA, IB, IC⟩, fun hHeld => ?_⟩
            simp only [Act.put, List.setIfInBounds_toArray, List.set_cons_zero, List.set_cons_succ]
            refine held_call (o := ⟨_, _, _, _, _, _⟩) 28 (by kernel_rfl) rfl (by rfl) 12 _ _ rfl #[bxVal a0 a1 a2 a3, bxVal d0 d1 d2 d3] rfl (run_call Try.func12 (by kernel_rfl) (by kernel_rfl)) ?_
            refine (P.in_ _ _ a _ _ HA HD FA.fit FBC).mono ?_
            rintro r v16 ⟨rfl, kb⟩
            replace D := D.trans (kb.mono D.size)
            replace HA := HA.on kb
            replace HB := HB.on kb
            replace HC := HC.on kb
            replace IA := IA.on kb
            replace IB := IB.on kb
            replace IC := IC.on kb
            replace HD := HD.on kb
            clear kb
            clear hHeld
            clear HD
            refine ⟨.bool true, ret_bool hand, ⟨IA, IB, IC⟩, fun hHeld => ?_⟩
            simp only [Act.put, List.setIfInBounds_toArray, List.set_cons_zero, List.set_cons_succ]
            refine wpAnyH_take (i := 29) (oi := ⟨_, _, _, _, _, _⟩) (v := .bool true) rfl (by kernel_rfl) (by kernel_rfl) (by kernel_rfl) (fun _ _ _ h => h) (yl_eqB (by rfl) _ _ _ rfl true true rfl rfl) (by assumption) ?_
            simp only [Act.put, List.setIfInBounds_toArray, List.set_cons_zero, List.set_cons_succ]
            refine wpAnyH_take (i := 30) (oi := ⟨_, _, _, _, _, _⟩) (v := .bool true) rfl (by kernel_rfl) (by kernel_rfl) (by kernel_rfl) (fun _ _ _ h => h) (yl_pickT (by rfl) _ _ _ rfl rfl _ rfl) (by assumption) ?_
            simp only [Act.put, List.setIfInBounds_toArray, List.set_cons_zero, List.set_cons_succ]
            refine wpAnyH_take (i := 31) (oi := ⟨_, _, _, _, _, _⟩) (v := .bool true) rfl (by kernel_rfl) (by kernel_rfl) (by kernel_rfl) (fun _ _ _ h => h) (yl_move (by rfl) _ rfl _ rfl) (by assumption) ?_
            simp only [Act.put, List.setIfInBounds_toArray, List.set_cons_zero, List.set_cons_succ]
            refine wpAnyH_take (i := 32) (oi := ⟨_, _, _, _, _, _⟩) (v := bxVal a0 a1 a2 a3) rfl (by kernel_rfl) (by kernel_rfl) (by kernel_rfl) (fun _ _ _ h => h) (yl_box (by rfl) _ rfl _ 0 rfl _ _ _ _ _ _ _ _ _ _ _ _ _ _ _ _ (fun _ h => BxIn.cells h.1)) (by assumption) ?_
            simp only [Act.put, List.setIfInBounds_toArray, List.set_cons_zero, List.set_cons_succ]
            refine wpAnyH_take (i := 33) (oi := ⟨_, _, _, _, _, _⟩) (v := bxVal a0 a1 a2 a3) rfl (by kernel_rfl) (by kernel_rfl) (by kernel_rfl) (fun _ _ _ h => h) (yl_box (by rfl) _ rfl _ 0 rfl _ _ _ _ _ _ _ _ _ _ _ _ _ _ _ _ (fun _ h => BxIn.cells h.1)) (by assumption) ?_
            simp only [Act.put, List.setIfInBounds_toArray, List.set_cons_zero, List.set_cons_succ]
            refine held_call (o := ⟨_, _, _, _, _, _⟩) 34 (by kernel_rfl) rfl (by rfl) 12 _ _ rfl #[bxVal a0 a1 a2 a3, bxVal a0 a1 a2 a3] rfl (run_call Try.func12 (by kernel_rfl) (by kernel_rfl)) ?_
            refine (P.in_ _ _ a a _ HA HA FA.fit FA.fit).mono ?_
            rintro r v17 ⟨rfl, kb⟩
            replace D := D.trans (kb.mono D.size)
            replace HA := HA.on kb
            replace HB := HB.on kb
            replace HC := HC.on kb
            replace IA := IA.on kb
            replace IB := IB.on kb
            replace IC := IC.on kb
            clear kb
            clear hHeld
            refine ⟨.bool true, ret_bool hrefl, ⟨IA, IB, IC⟩, fun hHeld => ?_⟩
            simp only [Act.put, List.setIfInBounds_toArray, List.set_cons_zero, List.set_cons_succ]
            refine wpAnyH_take (i := 35) (oi := ⟨_, _, _, _, _, _⟩) (v := .bool true) rfl (by kernel_rfl) (by kernel_rfl) (by kernel_rfl) (fun _ _ _ h => h) (yl_pickT (by rfl) _ _ _ rfl rfl _ rfl) (by assumption) ?_
            simp only [Act.put, List.setIfInBounds_toArray, List.set_cons_zero, List.set_cons_succ]
            refine wpAnyH_take (i := 36) (oi := ⟨_, _, _, _, _, _⟩) (v := .bool true) rfl (by kernel_rfl) (by kernel_rfl) (by kernel_rfl) (fun _ _ _ h => h) (yl_move (by rfl) _ rfl _ rfl) (by assumption) ?_
            simp only [Act.put, List.setIfInBounds_toArray, List.set_cons_zero, List.set_cons_succ]
            refine wpAnyH_take (i := 37) (oi := ⟨_, _, _, _, _, _⟩) (v := bxVal a0 a1 a2 a3) rfl (by kernel_rfl) (by kernel_rfl) (by kernel_rfl) (fun _ _ _ h => h) (yl_box (by rfl) _ rfl _ 0 rfl _ _ _ _ _ _ _ _ _ _ _ _ _ _ _ _ (fun _ h => BxIn.cells h.1)) (by assumption) ?_
            simp only [Act.put, List.setIfInBounds_toArray, List.set_cons_zero, List.set_cons_succ]
            refine held_call (o := ⟨_, _, _, _, _, _⟩) 38 (by kernel_rfl) rfl (by rfl) 19 _ _ rfl #[] rfl (run_call Try.func19 (by kernel_rfl) (by kernel_rfl)) ?_
            refine (P.all _).mono ?_
            rintro r v18 ⟨⟨u1, rfl, HG⟩, kb⟩
            replace D := D.trans (kb.mono D.size)
            replace HA := HA.on kb
            replace HB := HB.on kb
            replace HC := HC.on kb
            replace IA := IA.on kb
            replace IB := IB.on kb
            replace IC := IC.on kb
            clear kb
            clear hHeld
            obtain ⟨g0, g1, g2, g3, rfl, -⟩ := HG.scs
            refine ⟨bxVal g0 g1 g2 g3, rfl, ⟨IA, IB, IC⟩, fun hHeld => ?_⟩
            simp only [Act.put, List.setIfInBounds_toArray, List.set_cons_zero, List.set_cons_succ]
            refine held_call (o := ⟨_, _, _, _, _, _⟩) 39 (by kernel_rfl) rfl (by rfl) 12 _ _ rfl #[bxVal a0 a1 a2 a3, bxVal g0 g1 g2 g3] rfl (run_call Try.func12 (by kernel_rfl) (by kernel_rfl)) ?_
            refine (P.in_ _ _ a _ _ HA HG FA.fit allFew.fit).mono ?_
            rintro r v19 ⟨rfl, kb⟩
            replace D := D.trans (kb.mono D.size)
            replace HA := HA.on kb
            replace HB := HB.on kb
            replace HC := HC.on kb
            replace IA := IA.on kb
            replace IB := IB.on kb
            replace IC := IC.on kb
            replace HG := HG.on kb
            clear kb
            clear hHeld
            clear HG
            refine ⟨.bool true, ret_bool hall, ⟨IA, IB, IC⟩, fun hHeld => ?_⟩
            simp only [Act.put, List.setIfInBounds_toArray, List.set_cons_zero, List.set_cons_succ]
            refine wpAnyH_take (i := 40) (oi := ⟨_, _, _, _, _, _⟩) (v := .bool true) rfl (by kernel_rfl) (by kernel_rfl) (by kernel_rfl) (fun _ _ _ h => h) (yl_pickT (by rfl) _ _ _ rfl rfl _ rfl) (by assumption) ?_
            simp only [Act.put, List.setIfInBounds_toArray, List.set_cons_zero, List.set_cons_succ]
            refine wpAnyH_take (i := 41) (oi := ⟨_, _, _, _, _, _⟩) (v := .bool true) rfl (by kernel_rfl) (by kernel_rfl) (by kernel_rfl) (fun _ _ _ h => h) (yl_move (by rfl) _ rfl _ rfl) (by assumption) ?_
            simp only [Act.put, List.setIfInBounds_toArray, List.set_cons_zero, List.set_cons_succ]
            refine wpAnyH_take (i := 42) (oi := ⟨_, _, _, _, _, _⟩) (v := bxVal a0 a1 a2 a3) rfl (by kernel_rfl) (by kernel_rfl) (by kernel_rfl) (fun _ _ _ h => h) (yl_box (by rfl) _ rfl _ 0 rfl _ _ _ _ _ _ _ _ _ _ _ _ _ _ _ _ (fun _ h => BxIn.cells h.1)) (by assumption) ?_
            simp only [Act.put, List.setIfInBounds_toArray, List.set_cons_zero, List.set_cons_succ]
            refine wpAnyH_take (i := 45) (oi := ⟨_, _, _, _, _, _⟩) (v := bxVal a0 a1 a2 a3) rfl (by kernel_rfl) (by kernel_rfl) (by kernel_rfl) (fun _ _ _ h => h) (yl_box (by rfl) _ rfl _ 0 rfl _ _ _ _ _ _ _ _ _ _ _ _ _ _ _ _ (fun _ h => BxIn.cells h.1)) (by assumption) ?_
            simp only [Act.put, List.setIfInBounds_toArray, List.set_cons_zero, List.set_cons_succ]
            refine held_call (o := ⟨_, _, _, _, _, _⟩) 43 (by kernel_rfl) rfl (by rfl) 19 _ _ rfl #[] rfl (run_call Try.func19 (by kernel_rfl) (by kernel_rfl)) ?_
            refine (P.all _).mono ?_
            rintro r v20 ⟨⟨u1, rfl, HH⟩, kb⟩
            replace D := D.trans (kb.mono D.size)
            replace HA := HA.on kb
            replace HB := HB.on kb
            replace HC := HC.on kb
            replace IA := IA.on kb
            replace IB := IB.on kb
            replace IC := IC.on kb
            clear kb
            clear hHeld
            obtain ⟨h0, h1, h2, h3, rfl, -⟩ := HH.scs
            refine ⟨bxVal h0 h1 h2 h3, rfl, ⟨IA, IB, IC⟩, fun hHeld => ?_⟩
            simp only [Act.put, List.setIfInBounds_toArray, List.set_cons_zero, List.set_cons_succ]
            refine held_call (o := ⟨_, _, _, _, _, _⟩) 44 (by kernel_rfl) rfl (by rfl) 10 _ _ rfl #[bxVal a0 a1 a2 a3, bxVal h0 h1 h2 h3] rfl (run_call Try.func10 (by kernel_rfl) (by kernel_rfl)) ?_
            refine (P.and _ _ a allBx _ HA HH FA.fit allFew.fit).mono ?_
            rintro r v21 ⟨⟨u1, rfl, HI⟩, kb⟩
            replace D := D.trans (kb.mono D.size)
            replace HA := HA.on kb
            replace HB := HB.on kb
            replace HC := HC.on kb
            replace IA := IA.on kb
            replace IB := IB.on kb
            replace IC := IC.on kb
            replace HH := HH.on kb
            clear kb
            clear hHeld
            obtain ⟨i0, i1, i2, i3, rfl, -⟩ := HI.scs
            clear HH
            refine ⟨bxVal i0 i1 i2 i3, rfl, ⟨IA, IB, IC⟩, fun hHeld => ?_⟩
            simp only [Act.put, List.setIfInBounds_toArray, List.set_cons_zero, List.set_cons_succ]
            refine held_call (o := ⟨_, _, _, _, _, _⟩) 46 (by kernel_rfl) rfl (by rfl) 20 _ _ rfl #[bxVal i0 i1 i2 i3, bxVal a0 a1 a2 a3] rfl (run_call Try.func20 (by kernel_rfl) (by kernel_rfl)) ?_
            refine (P.same _ _ _ a _ HI HA FAA FA.fit).mono ?_
            rintro r v22 ⟨rfl, kb⟩
            replace D := D.trans (kb.mono D.size)
            replace HA := HA.on kb
            replace HB := HB.on kb
            replace HC := HC.on kb
            replace IA := IA.on kb
            replace IB := IB.on kb
            replace IC := IC.on kb
            replace HI := HI.on kb
            clear kb
            clear hHeld
            clear HI
            refine ⟨.bool true, ret_bool hsame, ⟨IA, IB, IC⟩, fun hHeld => ?_⟩
            simp only [Act.put, List.setIfInBounds_toArray, List.set_cons_zero, List.set_cons_succ]
            refine wpAnyH_take (i := 47) (oi := ⟨_, _, _, _, _, _⟩) (v := .bool true) rfl (by kernel_rfl) (by kernel_rfl) (by kernel_rfl) (fun _ _ _ h => h) (yl_pickT (by rfl) _ _ _ rfl rfl _ rfl) (by assumption) ?_
            simp only [Act.put, List.setIfInBounds_toArray, List.set_cons_zero, List.set_cons_succ]
            refine wpAnyH_take (i := 48) (oi := ⟨_, _, _, _, _, _⟩) (v := .bool true) rfl (by kernel_rfl) (by kernel_rfl) (by kernel_rfl) (fun _ _ _ h => h) (yl_assign (by rfl) _ rfl _ rfl) (by assumption) ?_
            simp only [Act.put, List.setIfInBounds_toArray, List.set_cons_zero, List.set_cons_succ]
            refine wpAnyH_done (by kernel_rfl) ?_ _
            clear hHeld
            refine hK4 _ _ ?_
            clear hK4 K4
            refine wp_ret ?_
            go_ret
            exact ⟨rfl, D⟩
          · replace hand : inBx a (andBx b c) = true := by rw [← hand, h1, h3]; rfl
            refine wp_region_held_drew (S := fun w' => BxIn w' g1 a0 a1 a2 a3 ∧ BxIn w' g2 b0 b1 b2 b3 ∧ BxIn w' g3 c0 c1 c2 c3) (by kernel_rfl) ⟨IA, IB, IC⟩ (fun hHeld => ?_)
            have kb : Below v9.heap.size v9 v9.drew := (Below.refl _ v9).drew
            replace D := D.trans (kb.mono D.size)
            replace HA := HA.on kb
            replace HB := HB.on kb
            replace HC := HC.on kb
            replace IA := IA.on kb
            replace IB := IB.on kb
            replace IC := IC.on kb
            clear kb
            generalize v9.drew = v10 at D hHeld HA HB HC IA IB IC ⊢
            refine wpAnyH_take (i := 0) (oi := ⟨_, _, _, _, _, _⟩) (v := bxVal a0 a1 a2 a3) rfl (by kernel_rfl) (by kernel_rfl) (by kernel_rfl) (fun _ _ _ h => h) (yl_box (by rfl) _ rfl _ 0 rfl _ _ _ _ _ _ _ _ _ _ _ _ _ _ _ _ (fun _ h => BxIn.cells h.1)) (by assumption) ?_
            simp only [Act.put, List.setIfInBounds_toArray, List.set_cons_zero, List.set_cons_succ]
            refine wpAnyH_take (i := 1) (oi := ⟨_, _, _, _, _, _⟩) (v := bxVal b0 b1 b2 b3) rfl (by kernel_rfl) (by kernel_rfl) (by kernel_rfl) (fun _ _ _ h => h) (yl_box (by rfl) _ rfl _ 0 rfl _ _ _ _ _ _ _ _ _ _ _ _ _ _ _ _ (fun _ h => BxIn.cells h.2.1)) (by assumption) ?_
            simp only [Act.put, List.setIfInBounds_toArray, List.set_cons_zero, List.set_cons_succ]
            refine held_call (o := ⟨_, _, _, _, _, _⟩) 2 (by kernel_rfl) rfl (by rfl) 12 _ _ rfl #[bxVal a0 a1 a2 a3, bxVal b0 b1 b2 b3] rfl (run_call Try.func12 (by kernel_rfl) (by kernel_rfl)) ?_
            refine (P.in_ _ _ a b _ HA HB FA.fit FB.fit).mono ?_
            rintro r v11 ⟨rfl, kb⟩
            replace D := D.trans (kb.mono D.size)
            replace HA := HA.on kb
            replace HB := HB.on kb
            replace HC := HC.on kb
            replace IA := IA.on kb
            replace IB := IB.on kb
            replace IC := IC.on kb
            clear kb
            clear hHeld
            refine ⟨.bool true, ret_bool h1, ⟨IA, IB, IC⟩, fun hHeld => ?_⟩
            simp only [Act.put, List.setIfInBounds_toArray, List.set_cons_zero, List.set_cons_succ]
            refine wpAnyH_take (i := 3) (oi := ⟨_, _, _, _, _, _⟩) (v := .bool false) rfl (by kernel_rfl) (by kernel_rfl) (by kernel_rfl) (fun _ _ _ h => h) (yl_not (by rfl) _ _ rfl true rfl) (by assumption) ?_
            simp only [Act.put, List.setIfInBounds_toArray, List.set_cons_zero, List.set_cons_succ]
            refine wpAnyH_take (i := 4) (oi := ⟨_, _, _, _, _, _⟩) (v := .bool false) rfl (by kernel_rfl) (by kernel_rfl) (by kernel_rfl) (fun _ _ _ h => h) (yl_move (by rfl) _ rfl _ rfl) (by assumption) ?_
            simp only [Act.put, List.setIfInBounds_toArray, List.set_cons_zero, List.set_cons_succ]
            refine wpAnyH_take (i := 5) (oi := ⟨_, _, _, _, _, _⟩) (v := bxVal b0 b1 b2 b3) rfl (by kernel_rfl) (by kernel_rfl) (by kernel_rfl) (fun _ _ _ h => h) (yl_box (by rfl) _ rfl _ 0 rfl _ _ _ _ _ _ _ _ _ _ _ _ _ _ _ _ (fun _ h => BxIn.cells h.2.1)) (by assumption) ?_
            simp only [Act.put, List.setIfInBounds_toArray, List.set_cons_zero, List.set_cons_succ]
            refine wpAnyH_take (i := 6) (oi := ⟨_, _, _, _, _, _⟩) (v := bxVal c0 c1 c2 c3) rfl (by kernel_rfl) (by kernel_rfl) (by kernel_rfl) (fun _ _ _ h => h) (yl_box (by rfl) _ rfl _ 0 rfl _ _ _ _ _ _ _ _ _ _ _ _ _ _ _ _ (fun _ h => BxIn.cells h.2.2)) (by assumption) ?_
            simp only [Act.put, List.setIfInBounds_toArray, List.set_cons_zero, List.set_cons_succ]
            refine held_call (o := ⟨_, _, _, _, _, _⟩) 7 (by kernel_rfl) rfl (by rfl) 12 _ _ rfl #[bxVal b0 b1 b2 b3, bxVal c0 c1 c2 c3] rfl (run_call Try.func12 (by kernel_rfl) (by kernel_rfl)) ?_
            refine (P.in_ _ _ b c _ HB HC FB.fit FC.fit).mono ?_
            rintro r v12 ⟨rfl, kb⟩
            replace D := D.trans (kb.mono D.size)
            replace HA := HA.on kb
            replace HB := HB.on kb
            replace HC := HC.on kb
            replace IA := IA.on kb
            replace IB := IB.on kb
            replace IC := IC.on kb
            clear kb
            clear hHeld
            refine ⟨.bool true, ret_bool h2, ⟨IA, IB, IC⟩, fun hHeld => ?_⟩
            simp only [Act.put, List.setIfInBounds_toArray, List.set_cons_zero, List.set_cons_succ]
            refine wpAnyH_take (i := 8) (oi := ⟨_, _, _, _, _, _⟩) (v := .bool false) rfl (by kernel_rfl) (by kernel_rfl) (by kernel_rfl) (fun _ _ _ h => h) (yl_not (by rfl) _ _ rfl true rfl) (by assumption) ?_
            simp only [Act.put, List.setIfInBounds_toArray, List.set_cons_zero, List.set_cons_succ]
            refine wpAnyH_take (i := 9) (oi := ⟨_, _, _, _, _, _⟩) (v := .bool false) rfl (by kernel_rfl) (by kernel_rfl) (by kernel_rfl) (fun _ _ _ h => h) (yl_pickF (by rfl) _ _ _ rfl rfl _ rfl) (by assumption) ?_
            simp only [Act.put, List.setIfInBounds_toArray, List.set_cons_zero, List.set_cons_succ]
            refine wpAnyH_take (i := 10) (oi := ⟨_, _, _, _, _, _⟩) (v := .bool false) rfl (by kernel_rfl) (by kernel_rfl) (by kernel_rfl) (fun _ _ _ h => h) (yl_move (by rfl) _ rfl _ rfl) (by assumption) ?_
            simp only [Act.put, List.setIfInBounds_toArray, List.set_cons_zero, List.set_cons_succ]
            refine wpAnyH_take (i := 11) (oi := ⟨_, _, _, _, _, _⟩) (v := bxVal a0 a1 a2 a3) rfl (by kernel_rfl) (by kernel_rfl) (by kernel_rfl) (fun _ _ _ h => h) (yl_box (by rfl) _ rfl _ 0 rfl _ _ _ _ _ _ _ _ _ _ _ _ _ _ _ _ (fun _ h => BxIn.cells h.1)) (by assumption) ?_
            simp only [Act.put, List.setIfInBounds_toArray, List.set_cons_zero, List.set_cons_succ]
            refine wpAnyH_take (i := 12) (oi := ⟨_, _, _, _, _, _⟩) (v := bxVal c0 c1 c2 c3) rfl (by kernel_rfl) (by kernel_rfl) (by kernel_rfl) (fun _ _ _ h => h) (yl_box (by rfl) _ rfl _ 0 rfl _ _ _ _ _ _ _ _ _ _ _ _ _ _ _ _ (fun _ h => BxIn.cells h.2.2)) (by assumption) ?_
            simp only [Act.put, List.setIfInBounds_toArray, List.set_cons_zero, List.set_cons_succ]
            refine held_call (o := ⟨_, _, _, _, _, _⟩) 13 (by kernel_rfl) rfl (by rfl) 12 _ _ rfl #[bxVal a0 a1 a2 a3, bxVal c0 c1 c2 c3] rfl (run_call Try.func12 (by kernel_rfl) (by kernel_rfl)) ?_
            refine (P.in_ _ _ a c _ HA HC FA.fit FC.fit).mono ?_
            rintro r v13 ⟨rfl, kb⟩
            replace D := D.trans (kb.mono D.size)
            replace HA := HA.on kb
            replace HB := HB.on kb
            replace HC := HC.on kb
            replace IA := IA.on kb
            replace IB := IB.on kb
            replace IC := IC.on kb
            clear kb
            clear hHeld
            refine ⟨.bool true, ret_bool h3, ⟨IA, IB, IC⟩, fun hHeld => ?_⟩
            simp only [Act.put, List.setIfInBounds_toArray, List.set_cons_zero, List.set_cons_succ]
            refine wpAnyH_take (i := 14) (oi := ⟨_, _, _, _, _, _⟩) (v := .bool true) rfl (by kernel_rfl) (by kernel_rfl) (by kernel_rfl) (fun _ _ _ h => h) (yl_pickF (by rfl) _ _ _ rfl rfl _ rfl) (by assumption) ?_
            simp only [Act.put, List.setIfInBounds_toArray, List.set_cons_zero, List.set_cons_succ]
            refine wpAnyH_take (i := 15) (oi := ⟨_, _, _, _, _, _⟩) (v := .bool true) rfl (by kernel_rfl) (by kernel_rfl) (by kernel_rfl) (fun _ _ _ h => h) (yl_move (by rfl) _ rfl _ rfl) (by assumption) ?_
            simp only [Act.put, List.setIfInBounds_toArray, List.set_cons_zero, List.set_cons_succ]
            refine wpAnyH_take (i := 16) (oi := ⟨_, _, _, _, _, _⟩) (v := bxVal a0 a1 a2 a3) rfl (by kernel_rfl) (by kernel_rfl) (by kernel_rfl) (fun _ _ _ h => h) (yl_box (by rfl) _ rfl _ 0 rfl _ _ _ _ _ _ _ _ _ _ _ _ _ _ _ _ (fun _ h => BxIn.cells h.1)) (by assumption) ?_
            simp only [Act.put, List.setIfInBounds_toArray, List.set_cons_zero, List.set_cons_succ]
            refine wpAnyH_take (i := 17) (oi := ⟨_, _, _, _, _, _⟩) (v := bxVal b0 b1 b2 b3) rfl (by kernel_rfl) (by kernel_rfl) (by kernel_rfl) (fun _ _ _ h => h) (yl_box (by rfl) _ rfl _ 0 rfl _ _ _ _ _ _ _ _ _ _ _ _ _ _ _ _ (fun _ h => BxIn.cells h.2.1)) (by assumption) ?_
            simp only [Act.put, List.setIfInBounds_toArray, List.set_cons_zero, List.set_cons_succ]
            refine wpAnyH_take (i := 24) (oi := ⟨_, _, _, _, _, _⟩) (v := bxVal a0 a1 a2 a3) rfl (by kernel_rfl) (by kernel_rfl) (by kernel_rfl) (fun _ _ _ h => h) (yl_box (by rfl) _ rfl _ 0 rfl _ _ _ _ _ _ _ _ _ _ _ _ _ _ _ _ (fun _ h => BxIn.cells h.1)) (by assumption) ?_
            simp only [Act.put, List.setIfInBounds_toArray, List.set_cons_zero, List.set_cons_succ]
            refine wpAnyH_take (i := 25) (oi := ⟨_, _, _, _, _, _⟩) (v := bxVal b0 b1 b2 b3) rfl (by kernel_rfl) (by kernel_rfl) (by kernel_rfl) (fun _ _ _ h => h) (yl_box (by rfl) _ rfl _ 0 rfl _ _ _ _ _ _ _ _ _ _ _ _ _ _ _ _ (fun _ h => BxIn.cells h.2.1)) (by assumption) ?_
            simp only [Act.put, List.setIfInBounds_toArray, List.set_cons_zero, List.set_cons_succ]
            refine wpAnyH_take (i := 26) (oi := ⟨_, _, _, _, _, _⟩) (v := bxVal c0 c1 c2 c3) rfl (by kernel_rfl) (by kernel_rfl) (by kernel_rfl) (fun _ _ _ h => h) (yl_box (by rfl) _ rfl _ 0 rfl _ _ _ _ _ _ _ _ _ _ _ _ _ _ _ _ (fun _ h => BxIn.cells h.2.2)) (by assumption) ?_
            simp only [Act.put, List.setIfInBounds_toArray, List.set_cons_zero, List.set_cons_succ]
            refine held_call (o := ⟨_, _, _, _, _, _⟩) 18 (by kernel_rfl) rfl (by rfl) 12 _ _ rfl #[bxVal a0 a1 a2 a3, bxVal b0 b1 b2 b3] rfl (run_call Try.func12 (by kernel_rfl) (by kernel_rfl)) ?_
            refine (P.in_ _ _ a b _ HA HB FA.fit FB.fit).mono ?_
            rintro r v14 ⟨rfl, kb⟩
            replace D := D.trans (kb.mono D.size)
            replace HA := HA.on kb
            replace HB := HB.on kb
            replace HC := HC.on kb
            replace IA := IA.on kb
            replace IB := IB.on kb
            replace IC := IC.on kb
            clear kb
            clear hHeld
            refine ⟨.bool true, ret_bool h1, ⟨IA, IB, IC⟩, fun hHeld => ?_⟩
            simp only [Act.put, List.setIfInBounds_toArray, List.set_cons_zero, List.set_cons_succ]
            refine wpAnyH_take (i := 19) (oi := ⟨_, _, _, _, _, _⟩) (v := .bool true) rfl (by kernel_rfl) (by kernel_rfl) (by kernel_rfl) (fun _ _ _ h => h) (yl_move (by rfl) _ rfl _ rfl) (by assumption) ?_
            simp only [Act.put, List.setIfInBounds_toArray, List.set_cons_zero, List.set_cons_succ]
            refine wpAnyH_take (i := 20) (oi := ⟨_, _, _, _, _, _⟩) (v := bxVal a0 a1 a2 a3) rfl (by kernel_rfl) (by kernel_rfl) (by kernel_rfl) (fun _ _ _ h => h) (yl_box (by rfl) _ rfl _ 0 rfl _ _ _ _ _ _ _ _ _ _ _ _ _ _ _ _ (fun _ h => BxIn.cells h.1)) (by assumption) ?_
            simp only [Act.put, List.setIfInBounds_toArray, List.set_cons_zero, List.set_cons_succ]
            refine wpAnyH_take (i := 21) (oi := ⟨_, _, _, _, _, _⟩) (v := bxVal c0 c1 c2 c3) rfl (by kernel_rfl) (by kernel_rfl) (by kernel_rfl) (fun _ _ _ h => h) (yl_box (by rfl) _ rfl _ 0 rfl _ _ _ _ _ _ _ _ _ _ _ _ _ _ _ _ (fun _ h => BxIn.cells h.2.2)) (by assumption) ?_
            simp only [Act.put, List.setIfInBounds_toArray, List.set_cons_zero, List.set_cons_succ]
            refine held_call (o := ⟨_, _, _, _, _, _⟩) 22 (by kernel_rfl) rfl (by rfl) 12 _ _ rfl #[bxVal a0 a1 a2 a3, bxVal c0 c1 c2 c3] rfl (run_call Try.func12 (by kernel_rfl) (by kernel_rfl)) ?_
            refine (P.in_ _ _ a c _ HA HC FA.fit FC.fit).mono ?_
            rintro r v15 ⟨rfl, kb⟩
            replace D := D.trans (kb.mono D.size)
            replace HA := HA.on kb
            replace HB := HB.on kb
            replace HC := HC.on kb
            replace IA := IA.on kb
            replace IB := IB.on kb
            replace IC := IC.on kb
            clear kb
            clear hHeld
            refine ⟨.bool true, ret_bool h3, ⟨IA, IB, IC⟩, fun hHeld => ?_⟩
            simp only [Act.put, List.setIfInBounds_toArray, List.set_cons_zero, List.set_cons_succ]
            refine wpAnyH_take (i := 23) (oi := ⟨_, _, _, _, _, _⟩) (v := .bool true) rfl (by kernel_rfl) (by kernel_rfl) (by kernel_rfl) (fun _ _ _ h => h) (yl_pickT (by rfl) _ _ _ rfl rfl _ rfl) (by assumption) ?_
            simp only [Act.put, List.setIfInBounds_toArray, List.set_cons_zero, List.set_cons_succ]
            refine held_call (o := ⟨_, _, _, _, _, _⟩) 27 (by kernel_rfl) rfl (by rfl) 10 _ _ rfl #[bxVal b0 b1 b2 b3, bxVal c0 c1 c2 c3] rfl (run_call Try.func10 (by kernel_rfl) (by kernel_rfl)) ?_
            refine (P.and _ _ b c _ HB HC FB.fit FC.fit).mono ?_
            rintro r v16 ⟨⟨u1, rfl, HD⟩, kb⟩
            replace D := D.trans (kb.mono D.size)
            replace HA := HA.on kb
            replace HB := HB.on kb
            replace HC := HC.on kb
            replace IA := IA.on kb
            replace IB := IB.on kb
            replace IC := IC.on kb
            clear kb
            clear hHeld
            obtain ⟨d0, d1, d2, d3, rfl, -⟩ := HD.scs
            refine ⟨bxVal d0 d1 d2 d3, rfl, ⟨IA, IB, IC⟩, fun hHeld => ?_⟩
            simp only [Act.put, List.setIfInBounds_toArray, List.set_cons_zero, List.set_cons_succ]
            refine held_call (o := ⟨_, _, _, _, _, _⟩) 28 (by kernel_rfl) rfl (by rfl) 12 _ _ rfl #[bxVal a0 a1 a2 a3, bxVal d0 d1 d2 d3] rfl (run_call Try.func12 (by kernel_rfl) (by kernel_rfl)) ?_
            refine (P.in_ _ _ a _ _ HA HD FA.fit FBC).mono ?_
            rintro r v17 ⟨rfl, kb⟩
            replace D := D.trans (kb.mono D.size)
            replace HA := HA.on kb
            replace HB := HB.on kb
            replace HC := HC.on kb
            replace IA := IA.on kb
            replace IB := IB.on kb
            replace IC := IC.on kb
            replace HD := HD.on kb
            clear kb
            clear hHeld
            clear HD
            refine ⟨.bool true, ret_bool hand, ⟨IA, IB, IC⟩, fun hHeld => ?_⟩
            simp only [Act.put, List.setIfInBounds_toArray, List.set_cons_zero, List.set_cons_succ]
            refine wpAnyH_take (i := 29) (oi := ⟨_, _, _, _, _, _⟩) (v := .bool true) rfl (by kernel_rfl) (by kernel_rfl) (by kernel_rfl) (fun _ _ _ h => h) (yl_eqB (by rfl) _ _ _ rfl true true rfl rfl) (by assumption) ?_
            simp only [Act.put, List.setIfInBounds_toArray, List.set_cons_zero, List.set_cons_succ]
            refine wpAnyH_take (i := 30) (oi := ⟨_, _, _, _, _, _⟩) (v := .bool true) rfl (by kernel_rfl) (by kernel_rfl) (by kernel_rfl) (fun _ _ _ h => h) (yl_pickT (by rfl) _ _ _ rfl rfl _ rfl) (by assumption) ?_
            simp only [Act.put, List.setIfInBounds_toArray, List.set_cons_zero, List.set_cons_succ]
            refine wpAnyH_take (i := 31) (oi := ⟨_, _, _, _, _, _⟩) (v := .bool true) rfl (by kernel_rfl) (by kernel_rfl) (by kernel_rfl) (fun _ _ _ h => h) (yl_move (by rfl) _ rfl _ rfl) (by assumption) ?_
            simp only [Act.put, List.setIfInBounds_toArray, List.set_cons_zero, List.set_cons_succ]
            refine wpAnyH_take (i := 32) (oi := ⟨_, _, _, _, _, _⟩) (v := bxVal a0 a1 a2 a3) rfl (by kernel_rfl) (by kernel_rfl) (by kernel_rfl) (fun _ _ _ h => h) (yl_box (by rfl) _ rfl _ 0 rfl _ _ _ _ _ _ _ _ _ _ _ _ _ _ _ _ (fun _ h => BxIn.cells h.1)) (by assumption) ?_
            simp only [Act.put, List.setIfInBounds_toArray, List.set_cons_zero, List.set_cons_succ]
            refine wpAnyH_take (i := 33) (oi := ⟨_, _, _, _, _, _⟩) (v := bxVal a0 a1 a2 a3) rfl (by kernel_rfl) (by kernel_rfl) (by kernel_rfl) (fun _ _ _ h => h) (yl_box (by rfl) _ rfl _ 0 rfl _ _ _ _ _ _ _ _ _ _ _ _ _ _ _ _ (fun _ h => BxIn.cells h.1)) (by assumption) ?_
            simp only [Act.put, List.setIfInBounds_toArray, List.set_cons_zero, List.set_cons_succ]
            refine held_call (o := ⟨_, _, _, _, _, _⟩) 34 (by kernel_rfl) rfl (by rfl) 12 _ _ rfl #[bxVal a0 a1 a2 a3, bxVal a0 a1 a2 a3] rfl (run_call Try.func12 (by kernel_rfl) (by kernel_rfl)) ?_
            refine (P.in_ _ _ a a _ HA HA FA.fit FA.fit).mono ?_
            rintro r v18 ⟨rfl, kb⟩
            replace D := D.trans (kb.mono D.size)
            replace HA := HA.on kb
            replace HB := HB.on kb
            replace HC := HC.on kb
            replace IA := IA.on kb
            replace IB := IB.on kb
            replace IC := IC.on kb
            clear kb
            clear hHeld
            refine ⟨.bool true, ret_bool hrefl, ⟨IA, IB, IC⟩, fun hHeld => ?_⟩
            simp only [Act.put, List.setIfInBounds_toArray, List.set_cons_zero, List.set_cons_succ]
            refine wpAnyH_take (i := 35) (oi := ⟨_, _, _, _, _, _⟩) (v := .bool true) rfl (by kernel_rfl) (by kernel_rfl) (by kernel_rfl) (fun _ _ _ h => h) (yl_pickT (by rfl) _ _ _ rfl rfl _ rfl) (by assumption) ?_
            simp only [Act.put, List.setIfInBounds_toArray, List.set_cons_zero, List.set_cons_succ]
            refine wpAnyH_take (i := 36) (oi := ⟨_, _, _, _, _, _⟩) (v := .bool true) rfl (by kernel_rfl) (by kernel_rfl) (by kernel_rfl) (fun _ _ _ h => h) (yl_move (by rfl) _ rfl _ rfl) (by assumption) ?_
            simp only [Act.put, List.setIfInBounds_toArray, List.set_cons_zero, List.set_cons_succ]
            refine wpAnyH_take (i := 37) (oi := ⟨_, _, _, _, _, _⟩) (v := bxVal a0 a1 a2 a3) rfl (by kernel_rfl) (by kernel_rfl) (by kernel_rfl) (fun _ _ _ h => h) (yl_box (by rfl) _ rfl _ 0 rfl _ _ _ _ _ _ _ _ _ _ _ _ _ _ _ _ (fun _ h => BxIn.cells h.1)) (by assumption) ?_
            simp only [Act.put, List.setIfInBounds_toArray, List.set_cons_zero, List.set_cons_succ]
            refine held_call (o := ⟨_, _, _, _, _, _⟩) 38 (by kernel_rfl) rfl (by rfl) 19 _ _ rfl #[] rfl (run_call Try.func19 (by kernel_rfl) (by kernel_rfl)) ?_
            refine (P.all _).mono ?_
            rintro r v19 ⟨⟨u1, rfl, HG⟩, kb⟩
            replace D := D.trans (kb.mono D.size)
            replace HA := HA.on kb
            replace HB := HB.on kb
            replace HC := HC.on kb
            replace IA := IA.on kb
            replace IB := IB.on kb
            replace IC := IC.on kb
            clear kb
            clear hHeld
            obtain ⟨g0, g1, g2, g3, rfl, -⟩ := HG.scs
            refine ⟨bxVal g0 g1 g2 g3, rfl, ⟨IA, IB, IC⟩, fun hHeld => ?_⟩
            simp only [Act.put, List.setIfInBounds_toArray, List.set_cons_zero, List.set_cons_succ]
            refine held_call (o := ⟨_, _, _, _, _, _⟩) 39 (by kernel_rfl) rfl (by rfl) 12 _ _ rfl #[bxVal a0 a1 a2 a3, bxVal g0 g1 g2 g3] rfl (run_call Try.func12 (by kernel_rfl) (by kernel_rfl)) ?_
            refine (P.in_ _ _ a _ _ HA HG FA.fit allFew.fit).mono ?_
            rintro r v20 ⟨rfl, kb⟩
            replace D := D.trans (kb.mono D.size)
            replace HA := HA.on kb
            replace HB := HB.on kb
            replace HC := HC.on kb
            replace IA := IA.on kb
            replace IB := IB.on kb
            replace IC := IC.on kb
            replace HG := HG.on kb
            clear kb
            clear hHeld
            clear HG
            refine ⟨.bool true, ret_bool hall, ⟨IA, IB, IC⟩, fun hHeld => ?_⟩
            simp only [Act.put, List.setIfInBounds_toArray, List.set_cons_zero, List.set_cons_succ]
            refine wpAnyH_take (i := 40) (oi := ⟨_, _, _, _, _, _⟩) (v := .bool true) rfl (by kernel_rfl) (by kernel_rfl) (by kernel_rfl) (fun _ _ _ h => h) (yl_pickT (by rfl) _ _ _ rfl rfl _ rfl) (by assumption) ?_
            simp only [Act.put, List.setIfInBounds_toArray, List.set_cons_zero, List.set_cons_succ]
            refine wpAnyH_take (i := 41) (oi := ⟨_, _, _, _, _, _⟩) (v := .bool true) rfl (by kernel_rfl) (by kernel_rfl) (by kernel_rfl) (fun _ _ _ h => h) (yl_move (by rfl) _ rfl _ rfl) (by assumption) ?_
            simp only [Act.put, List.setIfInBounds_toArray, List.set_cons_zero, List.set_cons_succ]
            refine wpAnyH_take (i := 42) (oi := ⟨_, _, _, _, _, _⟩) (v := bxVal a0 a1 a2 a3) rfl (by kernel_rfl) (by kernel_rfl) (by kernel_rfl) (fun _ _ _ h => h) (yl_box (by rfl) _ rfl _ 0 rfl _ _ _ _ _ _ _ _ _ _ _ _ _ _ _ _ (fun _ h => BxIn.cells h.1)) (by assumption) ?_
            simp only [Act.put, List.setIfInBounds_toArray, List.set_cons_zero, List.set_cons_succ]
            refine wpAnyH_take (i := 45) (oi := ⟨_, _, _, _, _, _⟩) (v := bxVal a0 a1 a2 a3) rfl (by kernel_rfl) (by kernel_rfl) (by kernel_rfl) (fun _ _ _ h => h) (yl_box (by rfl) _ rfl _ 0 rfl _ _ _ _ _ _ _ _ _ _ _ _ _ _ _ _ (fun _ h => BxIn.cells h.1)) (by assumption) ?_
            simp only [Act.put, List.setIfInBounds_toArray, List.set_cons_zero, List.set_cons_succ]
            refine held_call (o := ⟨_, _, _, _, _, _⟩) 43 (by kernel_rfl) rfl (by rfl) 19 _ _ rfl #[] rfl (run_call Try.func19 (by kernel_rfl) (by kernel_rfl)) ?_
            refine (P.all _).mono ?_
            rintro r v21 ⟨⟨u1, rfl, HH⟩, kb⟩
            replace D := D.trans (kb.mono D.size)
            replace HA := HA.on kb
            replace HB := HB.on kb
            replace HC := HC.on kb
            replace IA := IA.on kb
            replace IB := IB.on kb
            replace IC := IC.on kb
            clear kb
            clear hHeld
            obtain ⟨h0, h1, h2, h3, rfl, -⟩ := HH.scs
            refine ⟨bxVal h0 h1 h2 h3, rfl, ⟨IA, IB, IC⟩, fun hHeld => ?_⟩
            simp only [Act.put, List.setIfInBounds_toArray, List.set_cons_zero, List.set_cons_succ]
            refine held_call (o := ⟨_, _, _, _, _, _⟩) 44 (by kernel_rfl) rfl (by rfl) 10 _ _ rfl #[bxVal a0 a1 a2 a3, bxVal h0 h1 h2 h3] rfl (run_call Try.func10 (by kernel_rfl) (by kernel_rfl)) ?_
            refine (P.and _ _ a allBx _ HA HH FA.fit allFew.fit).mono ?_
            rintro r v22 ⟨⟨u1, rfl, HI⟩, kb⟩
            replace D := D.trans (kb.mono D.size)
            replace HA := HA.on kb
            replace HB := HB.on kb
            replace HC := HC.on kb
            replace IA := IA.on kb
            replace IB := IB.on kb
            replace IC := IC.on kb
            replace HH := HH.on kb
            clear kb
            clear hHeld
            obtain ⟨i0, i1, i2, i3, rfl, -⟩ := HI.scs
            clear HH
            refine ⟨bxVal i0 i1 i2 i3, rfl, ⟨IA, IB, IC⟩, fun hHeld => ?_⟩
            simp only [Act.put, List.setIfInBounds_toArray, List.set_cons_zero, List.set_cons_succ]
            refine held_call (o := ⟨_, _, _, _, _, _⟩) 46 (by kernel_rfl) rfl (by rfl) 20 _ _ rfl #[bxVal i0 i1 i2 i3, bxVal a0 a1 a2 a3] rfl (run_call Try.func20 (by kernel_rfl) (by kernel_rfl)) ?_
            refine (P.same _ _ _ a _ HI HA FAA FA.fit).mono ?_
            rintro r v23 ⟨rfl, kb⟩
            replace D := D.trans (kb.mono D.size)
            replace HA := HA.on kb
            replace HB := HB.on kb
            replace HC := HC.on kb
            replace IA := IA.on kb
            replace IB := IB.on kb
            replace IC := IC.on kb
            replace HI := HI.on kb
            clear kb
            clear hHeld
            clear HI
            refine ⟨.bool true, ret_bool hsame, ⟨IA, IB, IC⟩, fun hHeld => ?_⟩
            simp only [Act.put, List.setIfInBounds_toArray, List.set_cons_zero, List.set_cons_succ]
            refine wpAnyH_take (i := 47) (oi := ⟨_, _, _, _, _, _⟩) (v := .bool true) rfl (by kernel_rfl) (by kernel_rfl) (by kernel_rfl) (fun _ _ _ h => h) (yl_pickT (by rfl) _ _ _ rfl rfl _ rfl) (by assumption) ?_
            simp only [Act.put, List.setIfInBounds_toArray, List.set_cons_zero, List.set_cons_succ]
            refine wpAnyH_take (i := 48) (oi := ⟨_, _, _, _, _, _⟩) (v := .bool true) rfl (by kernel_rfl) (by kernel_rfl) (by kernel_rfl) (fun _ _ _ h => h) (yl_assign (by rfl) _ rfl _ rfl) (by assumption) ?_
            simp only [Act.put, List.setIfInBounds_toArray, List.set_cons_zero, List.set_cons_succ]
            refine wpAnyH_done (by kernel_rfl) ?_ _
            clear hHeld
            refine hK4 _ _ ?_
            clear hK4 K4
            refine wp_ret ?_
            go_ret
            exact ⟨rfl, D⟩
end Go.Proofs.Yteahjihmpchcbaa
