import Derived.Test.YtbaijjclofekcaaGreatDoorRV6
import Derived.Test.YtbaijjclofekcaaGreatDoorRV5
import Derived.Maps.AppendAt
import Derived.DeepKeys
set_option linter.unusedSimpArgs false
set_option linter.unusedVariables false
namespace Go.Proofs.YtbaijjclofekcaaGreatDoor
open Go.RowKit
theorem few_good {l : List BoxV} (h : ∀ b ∈ l, MidB b) : ∀ c ∈ l, GoodB c := fun c hc => (h c hc).good
set_option maxHeartbeats 4000000 in
set_option maxRecDepth 100000 in
theorem refRight6_all (v : Value) (l : List BoxV) (w : World) (hv : Bxs w v l) (fl0 : l.all (fun b => smallBx b && rightBx b) = true → ∀ b ∈ l, MidB b) :
    Calls Tryz.prog 7 #[v] w fun r w' => r = .returned (.bool (rightF l)) ∧ Below w.heap.size w w' := by
  obtain ⟨cs, hr, ha⟩ := hv
  have hbig := hr.1
  have hcl := ha.1
  obtain ⟨q, cp, rfl⟩ := hr.form
  have D := Below.refl w.heap.size w
  go_enter Tryz.func7, Tryz.ntmps7
  refine wp_seq_k (fun K1 hK1 => ?_)
  refine wp_region_lit ?_
  refine wl_yield (o := ⟨_, _, _, _, _, _⟩) (.bool false) (yl_assign (by rfl) _ rfl _ rfl) ?_
  simp only [Act.put, lzA, lzB, lzC]
  refine wpList_nil ?_
  refine hK1 _ _ ?_
  clear hK1 K1
  refine wp_seq_k (fun K2 hK2 => ?_)
  refine wp_seq_k (fun K3 hK3 => ?_)
  refine wp_region_lit ?_
  refine wl_yield (o := ⟨_, _, _, _, _, _⟩) (.int .i64 0) (yl_assign (by rfl) _ rfl _ rfl) ?_
  simp only [Act.put, lzA, lzB, lzC]
  refine wpList_nil ?_
  refine hK3 _ _ ?_
  clear hK3 K3
  refine wp_block ?_
  go_loopw [3] (fun i wr => ∃ k : Nat, i = .int .i64 k ∧ k ≤ cs.length ∧ (∀ j, j < k → (smallBx (l.getD j zBox) && rightBx (l.getD j zBox)) = true) ∧ Below w.heap.size w wr) (fun i _ => cs.length - (intOf i).toNat)
  case atStart => exact ⟨0, rfl, by omega, fun j h => by omega, D⟩
  case round =>
    clear D
    obtain ⟨k, rfl, hk, hF, D⟩ := hrel
    by_cases hlt : k < cs.length
    · have hkl : k < l.length := by rw [← ha.1]; exact hlt
      obtain ⟨g, off, rfl, HC⟩ := (hr.on D).at.2 k hlt
      have hb := ha.2 k hkl
      refine wp_seq_k (fun K4 hK4 => ?_)
      refine wp_seq_k (fun K5 hK5 => ?_)
      refine wp_region_lit ?_
      refine wl_yield (o := ⟨_, _, _, _, _, _⟩) (.int .i64 (k : Nat)) (yl_move (by rfl) _ rfl _ rfl) ?_
      simp only [Act.put, lzA, lzB, lzC]
      refine wl_yield (o := ⟨_, _, _, _, _, _⟩) (.slice (some ⟨g, off, none⟩) cs.length cp) (yl_move (by rfl) _ rfl _ rfl) ?_
      simp only [Act.put, lzA, lzB, lzC]
      refine wl_yield (o := ⟨_, _, _, _, _, _⟩) (.int .i64 (cs.length : Nat)) (yl_lenB (by rfl) _ rfl _ _ _ rfl) ?_
      simp only [Act.put, lzA, lzB, lzC]
      refine wl_yield (o := ⟨_, _, _, _, _, _⟩) (.bool true) (yl_lssI (by rfl) _ _ _ rfl (((k : Nat) : Int)) (((cs.length : Nat) : Int)) true rfl rfl (decide_eq_true (by omega))) ?_
      simp only [Act.put, lzA, lzB, lzC]
      refine wpList_nil ?_
      refine hK5 _ _ ?_
      clear hK5 K5
      refine wp_cond_true rfl ?_
      refine wp_skip ?_
      refine hK4 _ _ ?_
      clear hK4 K4
      refine wp_seq_k (fun K6 hK6 => ?_)
      refine wp_block ?_
      refine wp_seq_k (fun K7 hK7 => ?_)
      refine wp_region_lit ?_
      refine wl_yield (o := ⟨_, _, _, _, _, _⟩) (.slice (some ⟨g, off, none⟩) cs.length cp) (yl_move (by rfl) _ rfl _ rfl) ?_
      simp only [Act.put, lzA, lzB, lzC]
      refine wl_yield (o := ⟨_, _, _, _, _, _⟩) (.int .i64 (k : Nat)) (yl_move (by rfl) _ rfl _ rfl) ?_
      simp only [Act.put, lzA, lzB, lzC]
      refine wl_yield (o := ⟨_, _, _, _, _, _⟩) (.pointer (some ⟨g, off + k * 16, none⟩)) (yl_bxAt (by rfl) _ _ rfl g (off) _ _ (k) rfl rfl (hlt)) ?_
      simp only [Act.put, lzA, lzB, lzC]
      refine wl_yield (o := ⟨_, _, _, _, _, _⟩) (BxC.val (cs.getD k bc0)) (yl_bx (by rfl) _ rfl _ _ rfl _ (fun _ h => by subst h; exact HC)) ?_
      simp only [Act.put, lzA, lzB, lzC]
      refine wl_call (o := ⟨_, _, _, _, _, _⟩) (by rfl) 22 _ _ rfl #[BxC.val (cs.getD k bc0)] rfl (run_call Tryz.func22 (by kernel_rfl) (by kernel_rfl)) ?_
      refine (refRightBx_any _ (l.getD k zBox) _ (hb.on D)).mono ?_
      rintro r v1 ⟨rfl, kb⟩
      replace D := D.trans (kb.mono D.size)
      replace HC := HC.on kb
      clear kb
      cases hq2 : rightBx (l.getD k zBox)
      · refine ⟨.bool false, rfl, ?_⟩
        simp only [Act.put, lzA, lzB, lzC]
        refine wl_yield (o := ⟨_, _, _, _, _, _⟩) (.bool true) (yl_not (by rfl) _ _ rfl false rfl) ?_
        simp only [Act.put, lzA, lzB, lzC]
        refine wl_yield (o := ⟨_, _, _, _, _, _⟩) (.bool true) (yl_move (by rfl) _ rfl _ rfl) ?_
        simp only [Act.put, lzA, lzB, lzC]
        with_reducible refine wl_yield (o := ⟨_, _, _, _, _, _⟩) undef (yl_undef (by kernel_rfl)) ?_
        simp only [Act.put, lzA, lzB, lzC]
        with_reducible refine wl_yield (o := ⟨_, _, _, _, _, _⟩) undef (yl_undef (by kernel_rfl)) ?_
        simp only [Act.put, lzA, lzB, lzC]
        with_reducible refine wl_yield (o := ⟨_, _, _, _, _, _⟩) undef (yl_undef (by kernel_rfl)) ?_
        simp only [Act.put, lzA, lzB, lzC]
        with_reducible refine wl_yield (o := ⟨_, _, _, _, _, _⟩) undef (yl_undef (by kernel_rfl)) ?_
        simp only [Act.put, lzA, lzB, lzC]
        with_reducible refine wl_yield (o := ⟨_, _, _, _, _, _⟩) undef (yl_undef (by kernel_rfl)) ?_
        simp only [Act.put, lzA, lzB, lzC]
        with_reducible refine wl_yield (o := ⟨_, _, _, _, _, _⟩) undef (yl_undef (by kernel_rfl)) ?_
        simp only [Act.put, lzA, lzB, lzC]
        refine wl_yield (o := ⟨_, _, _, _, _, _⟩) (.bool true) (yl_pickT (by rfl) _ _ _ rfl rfl _ rfl) ?_
        simp only [Act.put, lzA, lzB, lzC]
        refine wpList_nil ?_
        refine hK7 _ _ ?_
        clear hK7 K7
        refine wp_cond_true rfl ?_
        refine wp_seq_k (fun K8 hK8 => ?_)
        refine wp_region_lit ?_
        refine wl_yield (o := ⟨_, _, _, _, _, _⟩) (.bool false) (yl_assign (by rfl) _ rfl _ rfl) ?_
        simp only [Act.put, lzA, lzB, lzC]
        refine wpList_nil ?_
        refine hK8 _ _ ?_
        clear hK8 K8
        refine wp_ret ?_
        go_ret
        exact ⟨by unfold rightF; rw [show l.all (fun b => smallBx b && rightBx b) = false from List.all_eq_false.2 ⟨_, getB_mem hkl, by rw [hq2]; simp⟩, Bool.false_and, Bool.and_false]; rfl, D⟩
      · refine ⟨.bool true, rfl, ?_⟩
        simp only [Act.put, lzA, lzB, lzC]
        refine wl_yield (o := ⟨_, _, _, _, _, _⟩) (.bool false) (yl_not (by rfl) _ _ rfl true rfl) ?_
        simp only [Act.put, lzA, lzB, lzC]
        refine wl_yield (o := ⟨_, _, _, _, _, _⟩) (.bool false) (yl_move (by rfl) _ rfl _ rfl) ?_
        simp only [Act.put, lzA, lzB, lzC]
        refine wl_yield (o := ⟨_, _, _, _, _, _⟩) (.slice (some ⟨g, off, none⟩) cs.length cp) (yl_move (by rfl) _ rfl _ rfl) ?_
        simp only [Act.put, lzA, lzB, lzC]
        refine wl_yield (o := ⟨_, _, _, _, _, _⟩) (.int .i64 (k : Nat)) (yl_move (by rfl) _ rfl _ rfl) ?_
        simp only [Act.put, lzA, lzB, lzC]
        refine wl_yield (o := ⟨_, _, _, _, _, _⟩) (.pointer (some ⟨g, off + k * 16, none⟩)) (yl_bxAt (by rfl) _ _ rfl g (off) _ _ (k) rfl rfl (hlt)) ?_
        simp only [Act.put, lzA, lzB, lzC]
        refine wl_yield (o := ⟨_, _, _, _, _, _⟩) (BxC.val (cs.getD k bc0)) (yl_bx (by rfl) _ rfl _ _ rfl _ (fun _ h => by subst h; exact HC)) ?_
        simp only [Act.put, lzA, lzB, lzC]
        refine wl_call (o := ⟨_, _, _, _, _, _⟩) (by rfl) 23 _ _ rfl #[BxC.val (cs.getD k bc0)] rfl (run_call Tryz.func23 (by kernel_rfl) (by kernel_rfl)) ?_
        refine (refSmallBx_any (cs.getD k bc0) (l.getD k zBox) _ (hb.on D)).mono ?_
        rintro r v2 ⟨rfl, kb⟩
        replace D := D.trans (kb.mono D.size)
        replace HC := HC.on kb
        clear kb
        cases hq1 : smallBx (l.getD k zBox)
        · refine ⟨.bool false, rfl, ?_⟩
          simp only [Act.put, lzA, lzB, lzC]
          refine wl_yield (o := ⟨_, _, _, _, _, _⟩) (.bool true) (yl_not (by rfl) _ _ rfl false rfl) ?_
          simp only [Act.put, lzA, lzB, lzC]
          refine wl_yield (o := ⟨_, _, _, _, _, _⟩) (.bool true) (yl_pickF (by rfl) _ _ _ rfl rfl _ rfl) ?_
          simp only [Act.put, lzA, lzB, lzC]
          refine wpList_nil ?_
          refine hK7 _ _ ?_
          clear hK7 K7
          refine wp_cond_true rfl ?_
          refine wp_seq_k (fun K8 hK8 => ?_)
          refine wp_region_lit ?_
          refine wl_yield (o := ⟨_, _, _, _, _, _⟩) (.bool false) (yl_assign (by rfl) _ rfl _ rfl) ?_
          simp only [Act.put, lzA, lzB, lzC]
          refine wpList_nil ?_
          refine hK8 _ _ ?_
          clear hK8 K8
          refine wp_ret ?_
          go_ret
          exact ⟨by unfold rightF; rw [show l.all (fun b => smallBx b && rightBx b) = false from List.all_eq_false.2 ⟨_, getB_mem hkl, by rw [hq1, hq2]; simp⟩, Bool.false_and, Bool.and_false]; rfl, D⟩
        · refine ⟨.bool true, rfl, ?_⟩
          simp only [Act.put, lzA, lzB, lzC]
          refine wl_yield (o := ⟨_, _, _, _, _, _⟩) (.bool false) (yl_not (by rfl) _ _ rfl true rfl) ?_
          simp only [Act.put, lzA, lzB, lzC]
          refine wl_yield (o := ⟨_, _, _, _, _, _⟩) (.bool false) (yl_pickF (by rfl) _ _ _ rfl rfl _ rfl) ?_
          simp only [Act.put, lzA, lzB, lzC]
          refine wpList_nil ?_
          refine hK7 _ _ ?_
          clear hK7 K7
          refine wp_cond_false rfl ?_
          refine wp_skip ?_
          refine hK6 _ _ ?_
          clear hK6 K6
          refine wp_region_lit ?_
          refine wl_yield (o := ⟨_, _, _, _, _, _⟩) (.int .i64 (k : Nat)) (yl_move (by rfl) _ rfl _ rfl) ?_
          simp only [Act.put, lzA, lzB, lzC]
          refine wl_yield (o := ⟨_, _, _, _, _, _⟩) (.int .i64 (k + 1 : Nat)) (yl_addI (by rfl) _ _ _ rfl (((k : Nat) : Int)) (1) (((k + 1 : Nat) : Int)) rfl rfl (by omega) (by omega) (by omega)) ?_
          simp only [Act.put, lzA, lzB, lzC]
          refine wl_yield (o := ⟨_, _, _, _, _, _⟩) (.int .i64 (k + 1 : Nat)) (yl_assign (by rfl) _ rfl _ rfl) ?_
          simp only [Act.put, lzA, lzB, lzC]
          refine wpList_nil ?_
          show _ ∧ _
          go_roundw
          case rel => exact ⟨k + 1, rfl, by omega, fun j hj => by
            rcases Nat.lt_succ_iff_lt_or_eq.1 hj with h | rfl
            · exact hF j h
            · rw [hq1, hq2]; rfl, D⟩
          case measure => simp [intOf]; omega
    · have hall : l.all (fun b => smallBx b && rightBx b) = true := List.all_eq_true.2 fun b hb => by
        obtain ⟨i, hi, rfl⟩ := List.getElem_of_mem hb
        have := hF i (by omega)
        rwa [List.getD_eq_getElem?_getD, List.getElem?_eq_getElem hi] at this
      have fl := fl0 hall
      by_cases h4 : cs.length ≤ 4
      · refine wp_seq_k (fun K4 hK4 => ?_)
        refine wp_seq_k (fun K5 hK5 => ?_)
        refine wp_region_lit ?_
        refine wl_yield (o := ⟨_, _, _, _, _, _⟩) (.int .i64 (k : Nat)) (yl_move (by rfl) _ rfl _ rfl) ?_
        simp only [Act.put, lzA, lzB, lzC]
        refine wl_yield (o := ⟨_, _, _, _, _, _⟩) (.slice q cs.length cp) (yl_move (by rfl) _ rfl _ rfl) ?_
        simp only [Act.put, lzA, lzB, lzC]
        refine wl_yield (o := ⟨_, _, _, _, _, _⟩) (.int .i64 (cs.length : Nat)) (yl_lenB (by rfl) _ rfl _ _ _ rfl) ?_
        simp only [Act.put, lzA, lzB, lzC]
        refine wl_yield (o := ⟨_, _, _, _, _, _⟩) (.bool false) (yl_lssI (by rfl) _ _ _ rfl (((k : Nat) : Int)) (((cs.length : Nat) : Int)) false rfl rfl (decide_eq_false (by omega))) ?_
        simp only [Act.put, lzA, lzB, lzC]
        refine wpList_nil ?_
        refine hK5 _ _ ?_
        clear hK5 K5
        refine wp_cond_false rfl ?_
        refine wp_exit ?_
        refine hK2 _ _ ?_
        clear hK4 K4 hK2 K2
        refine wp_seq_k (fun K6 hK6 => ?_)
        refine wp_region_lit ?_
        refine wl_yield (o := ⟨_, _, _, _, _, _⟩) (.slice q cs.length cp) (yl_move (by rfl) _ rfl _ rfl) ?_
        simp only [Act.put, lzA, lzB, lzC]
        refine wl_yield (o := ⟨_, _, _, _, _, _⟩) (.int .i64 (cs.length : Nat)) (yl_lenB (by rfl) _ rfl _ _ _ rfl) ?_
        simp only [Act.put, lzA, lzB, lzC]
        refine wl_yield (o := ⟨_, _, _, _, _, _⟩) (.bool true) (yl_leqI (by rfl) _ _ _ rfl (((cs.length : Nat) : Int)) (4) true rfl rfl (decide_eq_true (by omega))) ?_
        simp only [Act.put, lzA, lzB, lzC]
        refine wl_yield (o := ⟨_, _, _, _, _, _⟩) (.bool true) (yl_move (by rfl) _ rfl _ rfl) ?_
        simp only [Act.put, lzA, lzB, lzC]
        refine wl_yield (o := ⟨_, _, _, _, _, _⟩) (.slice q cs.length cp) (yl_move (by rfl) _ rfl _ rfl) ?_
        simp only [Act.put, lzA, lzB, lzC]
        refine wl_call (o := ⟨_, _, _, _, _, _⟩) (by rfl) 24 _ _ rfl #[.slice q cs.length cp] rfl (run_call Tryz.func24 (by kernel_rfl) (by kernel_rfl)) ?_
        refine (refTidy_any _ l _ (⟨cs, hr.on D, ha.on D⟩) fl (by omega)).mono ?_
        rintro r v1 ⟨⟨u1, ks, rfl, hO, hA⟩, kb⟩
        replace D := D.trans (kb.mono D.size)
        clear kb
        obtain ⟨q1, c1, rfl⟩ := hO.sl
        refine ⟨.slice q1 ks.length c1, rfl, ?_⟩
        simp only [Act.put, lzA, lzB, lzC]
        refine wl_yield (o := ⟨_, _, _, _, _, _⟩) (.int .i64 (ks.length : Nat)) (yl_lenB (by rfl) _ rfl _ _ _ rfl) ?_
        simp only [Act.put, lzA, lzB, lzC]
        refine wl_yield (o := ⟨_, _, _, _, _, _⟩) (.slice q cs.length cp) (yl_move (by rfl) _ rfl _ rfl) ?_
        simp only [Act.put, lzA, lzB, lzC]
        refine wl_yield (o := ⟨_, _, _, _, _, _⟩) (.int .i64 (cs.length : Nat)) (yl_lenB (by rfl) _ rfl _ _ _ rfl) ?_
        simp only [Act.put, lzA, lzB, lzC]
        refine wl_yield (o := ⟨_, _, _, _, _, _⟩) (.bool (decide (ks.length = cs.length))) (yl_eqlI (by rfl) _ _ _ rfl (((ks.length : Nat) : Int)) (((cs.length : Nat) : Int)) (decide (ks.length = cs.length)) rfl rfl (by rw [decide_eq_decide]; omega)) ?_
        simp only [Act.put, lzA, lzB, lzC]
        refine wl_yield (o := ⟨_, _, _, _, _, _⟩) (.bool (decide (ks.length = cs.length))) (yl_pickT (by rfl) _ _ _ rfl rfl _ rfl) ?_
        simp only [Act.put, lzA, lzB, lzC]
        refine wl_yield (o := ⟨_, _, _, _, _, _⟩) (.bool (decide (ks.length = cs.length))) (yl_assign (by rfl) _ rfl _ rfl) ?_
        simp only [Act.put, lzA, lzB, lzC]
        refine wpList_nil ?_
        refine hK6 _ _ ?_
        clear hK6 K6
        refine wp_ret ?_
        go_ret
        exact ⟨by unfold rightF; rw [decide_eq_true (show l.length ≤ 4 by omega), hall, tidP_eq (few_good fl), ← hA.1, ← ha.1]; rfl, D⟩
      · refine wp_seq_k (fun K4 hK4 => ?_)
        refine wp_seq_k (fun K5 hK5 => ?_)
        refine wp_region_lit ?_
        refine wl_yield (o := ⟨_, _, _, _, _, _⟩) (.int .i64 (k : Nat)) (yl_move (by rfl) _ rfl _ rfl) ?_
        simp only [Act.put, lzA, lzB, lzC]
        refine wl_yield (o := ⟨_, _, _, _, _, _⟩) (.slice q cs.length cp) (yl_move (by rfl) _ rfl _ rfl) ?_
        simp only [Act.put, lzA, lzB, lzC]
        refine wl_yield (o := ⟨_, _, _, _, _, _⟩) (.int .i64 (cs.length : Nat)) (yl_lenB (by rfl) _ rfl _ _ _ rfl) ?_
        simp only [Act.put, lzA, lzB, lzC]
        refine wl_yield (o := ⟨_, _, _, _, _, _⟩) (.bool false) (yl_lssI (by rfl) _ _ _ rfl (((k : Nat) : Int)) (((cs.length : Nat) : Int)) false rfl rfl (decide_eq_false (by omega))) ?_
        simp only [Act.put, lzA, lzB, lzC]
        refine wpList_nil ?_
        refine hK5 _ _ ?_
        clear hK5 K5
        refine wp_cond_false rfl ?_
        refine wp_exit ?_
        refine hK2 _ _ ?_
        clear hK4 K4 hK2 K2
        refine wp_seq_k (fun K6 hK6 => ?_)
        refine wp_region_lit ?_
        refine wl_yield (o := ⟨_, _, _, _, _, _⟩) (.slice q cs.length cp) (yl_move (by rfl) _ rfl _ rfl) ?_
        simp only [Act.put, lzA, lzB, lzC]
        refine wl_yield (o := ⟨_, _, _, _, _, _⟩) (.int .i64 (cs.length : Nat)) (yl_lenB (by rfl) _ rfl _ _ _ rfl) ?_
        simp only [Act.put, lzA, lzB, lzC]
        refine wl_yield (o := ⟨_, _, _, _, _, _⟩) (.bool false) (yl_leqI (by rfl) _ _ _ rfl (((cs.length : Nat) : Int)) (4) false rfl rfl (decide_eq_false (by omega))) ?_
        simp only [Act.put, lzA, lzB, lzC]
        refine wl_yield (o := ⟨_, _, _, _, _, _⟩) (.bool false) (yl_move (by rfl) _ rfl _ rfl) ?_
        simp only [Act.put, lzA, lzB, lzC]
        with_reducible refine wl_yield (o := ⟨_, _, _, _, _, _⟩) undef (yl_undef (by kernel_rfl)) ?_
        simp only [Act.put, lzA, lzB, lzC]
        with_reducible refine wl_yield (o := ⟨_, _, _, _, _, _⟩) undef (yl_undef (by kernel_rfl)) ?_
        simp only [Act.put, lzA, lzB, lzC]
        with_reducible refine wl_yield (o := ⟨_, _, _, _, _, _⟩) undef (yl_undef (by kernel_rfl)) ?_
        simp only [Act.put, lzA, lzB, lzC]
        with_reducible refine wl_yield (o := ⟨_, _, _, _, _, _⟩) undef (yl_undef (by kernel_rfl)) ?_
        simp only [Act.put, lzA, lzB, lzC]
        with_reducible refine wl_yield (o := ⟨_, _, _, _, _, _⟩) undef (yl_undef (by kernel_rfl)) ?_
        simp only [Act.put, lzA, lzB, lzC]
        with_reducible refine wl_yield (o := ⟨_, _, _, _, _, _⟩) undef (yl_undef (by kernel_rfl)) ?_
        simp only [Act.put, lzA, lzB, lzC]
        refine wl_yield (o := ⟨_, _, _, _, _, _⟩) (.bool false) (yl_pickF (by rfl) _ _ _ rfl rfl _ rfl) ?_
        simp only [Act.put, lzA, lzB, lzC]
        refine wl_yield (o := ⟨_, _, _, _, _, _⟩) (.bool false) (yl_assign (by rfl) _ rfl _ rfl) ?_
        simp only [Act.put, lzA, lzB, lzC]
        refine wpList_nil ?_
        refine hK6 _ _ ?_
        clear hK6 K6
        refine wp_ret ?_
        go_ret
        exact ⟨by unfold rightF; rw [decide_eq_false (show ¬ l.length ≤ 4 by omega), Bool.false_and]; rfl, D⟩
end Go.Proofs.YtbaijjclofekcaaGreatDoor
namespace Go.Proofs.YtbaijjclofekcaaGreatDoor
open Go.RowKit
theorem rightF_set {l : List BoxV} (h : rightF l = true) {b : BoxV} (hb : b ∈ l) {i : Nat} (hi : i < 4) : rightSet (b.get i) = true := by
  unfold rightF at h
  rw [Bool.and_eq_true, Bool.and_eq_true, List.all_eq_true] at h
  have hq := h.2.1 b hb
  rw [Bool.and_eq_true] at hq
  exact (all4_iff _).1 hq.2 i hi
theorem rightF_len {l : List BoxV} (h : rightF l = true) : l.length ≤ 4 := by
  unfold rightF at h
  rw [Bool.and_eq_true] at h
  exact of_decide_eq_true h.1
theorem mem_attr {l : List BoxV} {b : BoxV} (hb : b ∈ l) (i : Nat) : b.get i ∈ attrL l i := List.mem_map.2 ⟨b, hb, rfl⟩
theorem attr_append (l m : List BoxV) (i : Nat) : attrL (l ++ m) i = attrL l i ++ attrL m i := by unfold attrL; rw [List.map_append]
theorem fewC_attr {l : List BoxV} (h : l.all fewBx = true) (h2 : l.length ≤ 15) {i : Nat} (hi : i < 4) : FewC (attrL l i) := by
  refine fewC_all (List.all_eq_true.2 fun S hS => ?_) (by unfold attrL; rw [List.length_map]; exact h2)
  obtain ⟨b, hb, rfl⟩ := List.mem_map.1 hS
  have hq := List.all_eq_true.1 h b hb
  unfold fewBx at hq
  simp only [List.all_cons, List.all_nil, Bool.and_true, Bool.and_eq_true] at hq
  match i, hi with
  | 0, _ => exact hq.1
  | 1, _ => exact hq.2.1
  | 2, _ => exact hq.2.2.1
  | 3, _ => exact hq.2.2.2
end Go.Proofs.YtbaijjclofekcaaGreatDoor
namespace Go.Proofs.YtbaijjclofekcaaGreatDoor
open Go.RowKit
section
variable {ops : Array Oper} {S : World → Prop} {o : Oper} {a : Act}
theorem yt_lenFf (hw : Region.wanted o (yielded ops a.tmps) = true) (x : Operand) (ho : o.op = .call { callee := .builtin .len, args := #[x], argTypes := #[57] }) (p : Option Addr) (n c : Nat) (hx : a.eval x = .slice p n c) : YieldsIf Tryz.prog ops S o (.int .i64 n) a :=
  Or.inl ⟨hw, fun w hS => by
    unfold execOp
    simp only [ho, resolve, invoke, builtin, Sem.run_bind, Sem.run_pure, Result.andThen_ok, List.map_toArray, List.map_cons, List.map_nil, hx]
    go_simp⟩
set_option maxRecDepth 100000 in
theorem yt_atFf (hw : Region.wanted o (yielded ops a.tmps) = true) (x y : Operand) (ho : o.op = .indexAddr 57 x y) (b off n c i : Nat) (hx : a.eval x = .slice (some ⟨b, off, none⟩) n c) (hy : a.eval y = .int .i64 i) (hi : i < n) : YieldsIf Tryz.prog ops S o (.pointer (some ⟨b, off + i * 1, none⟩)) a :=
  Or.inl ⟨hw, fun w hS => by
    simp only [execOp, ho, hx, hy]
    go_simp⟩
theorem yt_ldFx (hw : Region.wanted o (yielded ops a.tmps) = true) (x : Operand) (ho : o.op = .load 73 x) (g k : Nat) (hx : a.eval x = .pointer (some ⟨g, k, none⟩)) (p : Option Addr) (n c : Nat) (h : ∀ w, S w → w.cell? ⟨g, k, none⟩ = some (.slice p n c)) : YieldsIf Tryz.prog ops S o (.slice p n c) a :=
  Or.inl ⟨hw, fun w hS => by
    have hc := h w hS
    simp only [execOp, ho, hx]
    go_simp⟩
end
theorem GridIn.sAt {w : World} {b : Nat} {d m : Int} {s c : Nat → Sl} (h : GridIn w b d m s c) {j : Nat} (hj : j < 4) : w.cell? ⟨b, 3 + j, none⟩ = some (.slice (s j).p (s j).n (s j).c) := by
  have : j = 0 ∨ j = 1 ∨ j = 2 ∨ j = 3 := by omega
  rcases this with rfl | rfl | rfl | rfl
  · exact cell_heap h 3
  · exact cell_heap h 4
  · exact cell_heap h 5
  · exact cell_heap h 6
section
variable {ops : Array Oper} {Q : Exit → Act → World → Prop} {o : Oper} {a : Act}
theorem ot_putGs {i : Nat} {w : World} {K : Act → World → Prop} (hi : ops[i]? = some o) (hw : Region.wanted o (yielded ops a.tmps) = true) (x y : Operand) (ho : o.op = .store 31 x y) (b k : Nat) (hk : k < 4) (hx : a.eval x = .pointer (some ⟨b, 3 + k, none⟩)) (u : Sl) (hy : a.eval y = u.val)
    (d m : Int) (s c : Nat → Sl) (hG : GridIn w b d m s c)
    (h : ∀ W, GridIn W b d m (fun j => if j = k then u else s j) c → w.grownBy W (some b) → K (a.put o.dst undef) W) : wpOp Tryz.prog ops Q i K a w := by
  have f0 := frozen_heap hG (3 + k)
  have c0 : ∃ v, w.cell? ⟨b, 3 + k, none⟩ = some v := by
    rw [cell_heap hG, Array.getElem?_eq_getElem (by simp; omega)]
    exact ⟨_, rfl⟩
  obtain ⟨v, c0⟩ := c0
  have hG' := heap_setCell (i := 3 + k) u.val hG
  refine ot_skip hi hw (w.setCell ⟨b, 3 + k, none⟩ u.val) ?_ (h _ (hG'.trans ?_) (grown_put _ _ _ _))
  · unfold Sl.val at hy ⊢
    simp only [execOp, ho, hx, hy]
    go_simp
  · unfold gObj
    have : k = 0 ∨ k = 1 ∨ k = 2 ∨ k = 3 := by omega
    rcases this with rfl | rfl | rfl | rfl <;> simp
theorem ot_appU9 {i : Nat} {w : World} {K : Act → World → Prop} (hi : ops[i]? = some o) (hw : Region.wanted o (yielded ops a.tmps) = true) (s x : Operand) (ho : o.op = .call { callee := .builtin .append, args := #[s, x], argTypes := #[31, 31] })
    (B : Nat) (v : Value) (cs : List SC) (hs : a.eval s = v) (hown : OwnU w B v cs) (g : Nat) (d : SC) (hx : a.eval x = .slice (some ⟨g, 0, none⟩) 1 1) (hd : StIn w g d) (hn : cs.length ≤ 100000) (hB : B ≤ w.heap.size)
    (h : ∀ v' w', OwnU w' B v' (cs ++ [d]) → Asd v.ownBlock B w w' → (∀ k, v'.ownBlock = some k → some k = v.ownBlock ∨ w.heap.size ≤ k) → (∀ {y : Value} {b : SetV}, SetAt w y b → SetAt w' y b) → K (a.put o.dst v') w') : wpOp Tryz.prog ops Q i K a w := by
  obtain ⟨v', w', hr, h1, h2, h3⟩ := run_appU9 w B o.type v cs hown g d hd hn hB
  refine ot_run hi hw v' w' ?_ (h v' w' h1 h2 h3 (fun q => hown.carry h2 q))
  unfold execOp
  simp only [ho, resolve, invoke, builtin, Sem.run_bind, Sem.run_pure, Result.andThen_ok, List.map_toArray, List.map_cons, List.map_nil, hs, hx, hr]
end
theorem GridIn.asd {w w' : World} {b B : Nat} {d m : Int} {s c : Nat → Sl} {r : Option Nat} (h : GridIn w b d m s c) (ha : Asd r B w w') (hne : r ≠ some b) : GridIn w' b d m s c := (ha.k b (lt_heap h) (fun e => hne e.symm)).trans h
end Go.Proofs.YtbaijjclofekcaaGreatDoor
namespace Go.Proofs.YtbaijjclofekcaaGreatDoor
open Go.RowKit
theorem pl49 {a d : Bool} {p q : Option Addr} {n c m e : Nat} : ∀ x ∈ (#[.bool a, .slice p n c, .bool d, .slice q m e] : Array Value).toList, plainQ x = true := fun x hx => plq_list ⟨a, p, n, c, d, q, m, e⟩ x hx
section
variable {ops : Array Oper} {S : World → Prop} {o : Oper} {a : Act}
theorem yt_ldLq9 (hw : Region.wanted o (yielded ops a.tmps) = true) (x : Operand) (ho : o.op = .load 31 x) (g k : Nat) (hx : a.eval x = .pointer (some ⟨g, k, none⟩)) (p : Option Addr) (n c : Nat) (h : ∀ w, S w → w.cell? ⟨g, k, none⟩ = some (.slice p n c)) : YieldsIf Tryz.prog ops S o (.slice p n c) a :=
  Or.inl ⟨hw, fun w hS => by
    have hc := h w hS
    simp only [execOp, ho, hx]
    go_simp⟩
end
theorem Four.lt {m : Nat} {w : World} {s : Nat → Sl} {cs : Nat → List SC} {ls : Nat → List SetV} (h : Four m w s cs ls) : ∀ i, i < 4 → ∀ g, (s i).val.ownBlock = some g → g < w.heap.size := fun i hi g e => by
  obtain ⟨cur, h1, _⟩ := (h.own i hi).pl g e
  exact lt_heap h1
theorem Four.congr {m : Nat} {w : World} {s : Nat → Sl} {cs : Nat → List SC} {ls ls' : Nat → List SetV} (h : Four m w s cs ls) (e : ∀ i, i < 4 → ls i = ls' i) : Four m w s cs ls' := ⟨h.own, fun j hj => by rw [← e j hj]; exact h.st j hj, h.ne⟩
theorem Four.len {m : Nat} {w : World} {s : Nat → Sl} {cs : Nat → List SC} {ls : Nat → List SetV} (h : Four m w s cs ls) {j : Nat} (hj : j < 4) : (cs j).length = (ls j).length := (h.st j hj).at_.1
def partL9 (X : List BoxV) (bx : BoxV) (j : Nat) : Nat → List SetV := fun i => attrL (X ++ if i < j then [bx] else []) i
theorem part_step (X : List BoxV) (bx : BoxV) (j i : Nat) : (if i = j then partL9 X bx j i ++ [bx.get j] else partL9 X bx j i) = partL9 X bx (j + 1) i := by
  unfold partL9
  by_cases e : i = j
  · subst e
    rw [if_pos rfl, if_neg (Nat.lt_irrefl _), if_pos (Nat.lt_succ_self _), List.append_nil, attr_append]
    rfl
  · rw [if_neg e]
    by_cases h : i < j
    · rw [if_pos h, if_pos (by omega)]
    · rw [if_neg h, if_neg (by omega)]
theorem flat_more {Ls : List (List BoxV)} {k : Nat} (h : k < Ls.length) : (Ls.take (k + 1)).flatten = (Ls.take k).flatten ++ Ls.getD k [] := by
  rw [List.take_succ_eq_append_getElem h, List.flatten_append, List.getD_eq_getElem?_getD, List.getElem?_eq_getElem h]
  simp
theorem take_moreX {l : List BoxV} {k : Nat} (h : k < l.length) : l.take (k + 1) = l.take k ++ [l.getD k zBox] := by
  rw [List.take_succ_eq_append_getElem h, List.getD_eq_getElem?_getD, List.getElem?_eq_getElem h]
  rfl
theorem flat_lenX {Ls : List (List BoxV)} (h : ∀ l ∈ Ls, l.length ≤ 1000) : Ls.flatten.length ≤ Ls.length * 1000 := by
  induction Ls with
  | nil => exact Nat.zero_le _
  | cons a t ih =>
    rw [List.flatten_cons, List.length_append, List.length_cons, Nat.add_mul, Nat.one_mul]
    have h1 := h a List.mem_cons_self
    have h2 := ih (fun l hl => h l (List.mem_cons_of_mem _ hl))
    omega
set_option maxHeartbeats 4000000 in
set_option maxRecDepth 100000 in
theorem new_any (gF : Nat) (Ls : List (List BoxV)) (vs : Nat → Value) (w : World) (hgF : gF < w.heap.size) (hF : ∀ k, k < Ls.length → w.cell? ⟨gF, k, none⟩ = some (vs k)) (hvs : ∀ k, k < Ls.length → Bxs w (vs k) (Ls.getD k [])) (hn : Ls.length ≤ 10) (hsm : ∀ l ∈ Ls, l.length ≤ 1000) (hsz0 : ∀ l ∈ Ls, ∀ b ∈ l, ∀ j, j < 4 → (b.get j).ints.length ≤ 100000 ∧ (b.get j).strs.length ≤ 100000) :
    Calls Tryz.prog 8 #[.slice (some ⟨gF, 0, none⟩) Ls.length Ls.length] w fun r w' => (∃ b, r = .returned (.pointer (some ⟨b, 0, none⟩)) ∧ w.heap.size ≤ b ∧ GridN w' b (fun i => attrL Ls.flatten i)) ∧ Below w.heap.size w w' := by
  have D : w.grownBy w none := grown_refl _ _
  go_enter Tryz.func8, Tryz.ntmps8
  refine wp_seq_k (fun K1 hK1 => ?_)
  refine wp_region_lit ?_
  refine wl_yield (o := ⟨_, _, _, _, _, _⟩) (.pointer none) (yl_assign (by rfl) _ rfl _ rfl) ?_
  simp only [Act.put, lzA, lzB, lzC]
  refine wpList_nil ?_
  refine hK1 _ _ ?_
  clear hK1 K1
  refine wp_seq_k (fun K2 hK2 => ?_)
  refine wp_region_lit ?_
  refine wq_allocG (o := ⟨_, _, _, _, _, _⟩) (by rfl) rfl (fun v1 g1 hg G kb => ?_)
  simp only [Act.put, lzA, lzB, lzC]
  have hb0 : w.heap.size ≤ g1 := hg
  clear hg
  replace D := grown_below D kb
  clear kb
  have FO := four_nil w.heap.size v1
  refine wl_yield (o := ⟨_, _, _, _, _, _⟩) (.pointer (some ⟨g1, 0, none⟩)) (yl_assign (by rfl) _ rfl _ rfl) ?_
  simp only [Act.put, lzA, lzB, lzC]
  refine wpList_nil ?_
  refine hK2 _ _ ?_
  clear hK2 K2
  refine wp_seq_k (fun K3 hK3 => ?_)
  refine wp_seq_k (fun K4 hK4 => ?_)
  refine wp_region_lit ?_
  refine wl_yield (o := ⟨_, _, _, _, _, _⟩) (.slice (some ⟨gF, 0, none⟩) Ls.length Ls.length) (yl_move (by rfl) _ rfl _ rfl) ?_
  simp only [Act.put, lzA, lzB, lzC]
  refine wl_yield (o := ⟨_, _, _, _, _, _⟩) (.int .i64 (Ls.length : Nat)) (yt_lenFf (by rfl) _ rfl (some ⟨gF, 0, none⟩) Ls.length Ls.length rfl) ?_
  simp only [Act.put, lzA, lzB, lzC]
  refine wl_yield (o := ⟨_, _, _, _, _, _⟩) (.int .i64 0) (yl_move (by rfl) _ rfl _ rfl) ?_
  simp only [Act.put, lzA, lzB, lzC]
  refine wpList_nil ?_
  refine hK4 _ _ ?_
  clear hK4 K4
  refine wp_block ?_
  go_loopw [13] (fun i wr => ∃ (k : Nat) (s : Nat → Sl) (cs : Nat → List SC), i = .int .i64 ((k : Nat) : Int) ∧ k ≤ Ls.length ∧ GridIn wr g1 0 0 s (fun _ => sl0) ∧ Four w.heap.size wr s cs (fun i => attrL (Ls.take k).flatten i) ∧ w.grownBy wr none) (fun i _ => Ls.length - (intOf i).toNat)
  case atStart => exact ⟨0, _, _, rfl, Nat.zero_le _, G, FO, D⟩
  case round =>
    clear D G FO
    obtain ⟨k, s, cs, rfl, hk, G, FO, D⟩ := hrel
    by_cases hlt : k < Ls.length
    · have hB := hvs k hlt
      have hsl := hsm _ (gD_mem (d := []) hlt)
      have hzl := hsz0 _ (gD_mem (d := []) hlt)
      have F0 := hF k hlt
      generalize hl9 : Ls.getD k [] = l at hB hsl hzl
      obtain ⟨bs9, ⟨hbs, aB, capB, hvB, hrow⟩, HA⟩ := hB
      have hbl := HA.1
      rw [hvB] at F0
      have cellF := fun (W : World) (D : w.grownBy W none) (j : Nat) => (below_none D).cell (p := ⟨gF, j, none⟩) hgF
      refine wp_seq_k (fun K5 hK5 => ?_)
      refine wp_region_lit ?_
      refine wl_yield (o := ⟨_, _, _, _, _, _⟩) (.bool true) (yt_lssI (by rfl) _ _ _ rfl ((k : Nat) : Int) ((Ls.length : Nat) : Int) true rfl rfl (decide_eq_true (by omega))) ?_
      simp only [Act.put, lzA, lzB, lzC]
      refine wpList_nil ?_
      refine hK5 _ _ ?_
      clear hK5 K5
      refine wp_seq_k (fun K6 hK6 => ?_)
      refine wp_cond_true rfl ?_
      refine wp_skip ?_
      refine hK6 _ _ ?_
      clear hK6 K6
      refine wp_seq_k (fun K7 hK7 => ?_)
      refine wp_block ?_
      refine wp_seq_k (fun K8 hK8 => ?_)
      refine wp_region_lit ?_
      refine wl_yield (o := ⟨_, _, _, _, _, _⟩) (.pointer (some ⟨gF, 0 + k * 1, none⟩)) (yt_atFf (by rfl) _ _ rfl gF 0 _ _ k rfl rfl (hlt)) ?_
      simp only [Act.put, lzA, lzB, lzC]
      refine wl_yield (o := ⟨_, _, _, _, _, _⟩) (.slice aB bs9.length capB) (yt_ldFx (by rfl) _ rfl _ _ rfl _ _ _ (fun _ h => by subst h; rw [Nat.zero_add, Nat.mul_one]; exact (cellF _ D _).trans F0)) ?_
      simp only [Act.put, lzA, lzB, lzC]
      refine wl_yield (o := ⟨_, _, _, _, _, _⟩) (.slice aB bs9.length capB) (yl_assign (by rfl) _ rfl _ rfl) ?_
      simp only [Act.put, lzA, lzB, lzC]
      refine wpList_nil ?_
      refine hK8 _ _ ?_
      clear hK8 K8
      refine wp_seq_k (fun K9 hK9 => ?_)
      refine wp_region_lit ?_
      refine wl_yield (o := ⟨_, _, _, _, _, _⟩) (.slice aB bs9.length capB) (yl_move (by rfl) _ rfl _ rfl) ?_
      simp only [Act.put, lzA, lzB, lzC]
      refine wl_yield (o := ⟨_, _, _, _, _, _⟩) (.int .i64 (bs9.length : Nat)) (yl_lenF (by rfl) _ rfl aB bs9.length capB rfl) ?_
      simp only [Act.put, lzA, lzB, lzC]
      refine wl_yield (o := ⟨_, _, _, _, _, _⟩) (.int .i64 0) (yl_move (by rfl) _ rfl _ rfl) ?_
      simp only [Act.put, lzA, lzB, lzC]
      refine wpList_nil ?_
      refine hK9 _ _ ?_
      clear hK9 K9
      refine wp_block ?_
      go_loopw [19] (fun i wr => ∃ (q : Nat) (s : Nat → Sl) (cs : Nat → List SC), i = .int .i64 ((q : Nat) : Int) ∧ q ≤ bs9.length ∧ GridIn wr g1 0 0 s (fun _ => sl0) ∧ Four w.heap.size wr s cs (fun i => attrL ((Ls.take k).flatten ++ l.take q) i) ∧ w.grownBy wr none) (fun i _ => bs9.length - (intOf i).toNat)
      case atStart => exact ⟨0, s, cs, rfl, Nat.zero_le _, G, by rw [List.take_zero, List.append_nil]; exact FO, D⟩
      case round =>
        clear D G FO s cs
        obtain ⟨q, s, cs, rfl, hq, G, FO, D⟩ := hrel
        by_cases hlq : q < bs9.length
        · have hf1 := flat_lenX (fun l hl => hsm l (List.mem_of_mem_take hl) : ∀ l ∈ Ls.take k, l.length ≤ 1000)
          have hf2 : (Ls.take k).length ≤ 10 := by rw [List.length_take]; omega
          have hf3 := Nat.mul_le_mul_right 1000 hf2
          have hXb : ((Ls.take k).flatten ++ l.take q).length ≤ 11000 := by rw [List.length_append, List.length_take]; omega
          obtain ⟨gB, oB, rfl, hgB, hr⟩ := hrow q hlq
          have HAq := HA.2 q (by omega)
          have hsz := fun j (hj : j < 4) => hzl _ (gD_mem (d := zBox) (show q < l.length by omega)) j hj
          have HBc : BcAt w gB (oB + q * 16) (bs9.getD q bc0) := ⟨hgB, hr⟩
          have cellB := fun (W : World) (D : w.grownBy W none) => HBc.on (below_none D)
          generalize hbx : l.getD q zBox = bx at HAq hsz
          generalize bs9.getD q bc0 = c9 at HAq hr cellB HBc
          refine wp_seq_k (fun K10 hK10 => ?_)
          refine wp_region_lit ?_
          refine wl_yield (o := ⟨_, _, _, _, _, _⟩) (.bool true) (yt_lssI (by rfl) _ _ _ rfl ((q : Nat) : Int) ((bs9.length : Nat) : Int) true rfl rfl (decide_eq_true (by omega))) ?_
          simp only [Act.put, lzA, lzB, lzC]
          refine wpList_nil ?_
          refine hK10 _ _ ?_
          clear hK10 K10
          refine wp_seq_k (fun K11 hK11 => ?_)
          refine wp_cond_true rfl ?_
          refine wp_skip ?_
          refine hK11 _ _ ?_
          clear hK11 K11
          refine wp_seq_k (fun K12 hK12 => ?_)
          refine wp_block ?_
          refine wp_seq_k (fun K13 hK13 => ?_)
          refine wp_region_lit ?_
          refine wl_yield (o := ⟨_, _, _, _, _, _⟩) (.pointer (some ⟨gB, oB + q * 16, none⟩)) (yl_fxAt (by rfl) _ _ rfl gB oB _ _ q rfl rfl (hlq)) ?_
          simp only [Act.put, lzA, lzB, lzC]
          refine wl_yield (o := ⟨_, _, _, _, _, _⟩) (BxC.val c9) (yl_bx (by rfl) _ rfl _ _ rfl _ (fun _ h => by subst h; exact cellB _ D)) ?_
          simp only [Act.put, lzA, lzB, lzC]
          refine wl_newB (o := ⟨_, _, _, _, _, _⟩) (o2 := ⟨_, _, _, _, _, _⟩) (by rfl) rfl _ _ rfl rfl (fun _ => rfl) (fun _ => rfl) (fun v2 g2 hgg2 G2 kb => ?_)
          simp only [Act.put, lzA, lzB, lzC]
          replace D := grown_below D kb
          replace G := GridIn.on G kb
          replace FO := FO.on kb
          clear kb
          refine wpList_nil ?_
          refine hK13 _ _ ?_
          clear hK13 K13
          refine wp_seq_k (fun K14 hK14 => ?_)
          refine wp_region_lit ?_
          refine wl_yield (o := ⟨_, _, _, _, _, _⟩) (BxC.val c9) (yl_bx (by rfl) _ rfl _ _ rfl _ (fun _ h => by subst h; exact BcIn.at G2)) ?_
          simp only [Act.put, lzA, lzB, lzC]
          refine wl_yield (o := ⟨_, _, _, _, _, _⟩) (.int .i64 0) (yl_move (by rfl) _ rfl _ rfl) ?_
          simp only [Act.put, lzA, lzB, lzC]
          refine wpList_nil ?_
          refine hK14 _ _ ?_
          clear hK14 K14
          refine wp_block ?_
          generalize hX : ((Ls.take k).flatten ++ l.take q) = X at FO hXb
          go_loopw [24] (fun i wr => ∃ (j : Nat) (s : Nat → Sl) (cs : Nat → List SC), i = .int .i64 ((j : Nat) : Int) ∧ j ≤ 4 ∧ GridIn wr g1 0 0 s (fun _ => sl0) ∧ Four w.heap.size wr s cs (partL9 X bx j) ∧ w.grownBy wr none) (fun i _ => 4 - (intOf i).toNat)
          case atStart => exact ⟨0, s, cs, rfl, Nat.zero_le _, G, FO.congr (fun i _ => by unfold partL9; rw [if_neg (Nat.not_lt_zero _), List.append_nil]), D⟩
          case round =>
            clear D G FO s cs
            obtain ⟨j, s, cs, rfl, hj, G, FO, D⟩ := hrel
            by_cases hlj : j < 4
            · have hXl : ∀ i, (partL9 X bx j i).length ≤ 12000 := fun i => by
                unfold partL9 attrL
                rw [List.length_map, List.length_append]
                split <;> simp <;> omega
              refine wp_seq_k (fun K15 hK15 => ?_)
              refine wp_region_lit ?_
              refine wl_yield (o := ⟨_, _, _, _, _, _⟩) (.bool true) (yt_lssI (by rfl) _ _ _ rfl ((j : Nat) : Int) 4 true rfl rfl (decide_eq_true (by omega))) ?_
              simp only [Act.put, lzA, lzB, lzC]
              refine wpList_nil ?_
              refine hK15 _ _ ?_
              clear hK15 K15
              refine wp_seq_k (fun K16 hK16 => ?_)
              refine wp_cond_true rfl ?_
              refine wp_skip ?_
              refine hK16 _ _ ?_
              clear hK16 K16
              refine wp_seq_k (fun K17 hK17 => ?_)
              refine wp_block ?_
              refine wp_seq_k (fun K18 hK18 => ?_)
              refine wp_region_lit ?_
              refine wl_yield (o := ⟨_, _, _, _, _, _⟩) (.int .i64 (j : Nat)) (yl_move (by rfl) _ rfl _ rfl) ?_
              simp only [Act.put, lzA, lzB, lzC]
              refine wl_yield (o := ⟨_, _, _, _, _, _⟩) (SC.val (BxC.sc c9 j)) (yl_bxIdx (by rfl) _ _ rfl c9 j rfl rfl (hlj)) ?_
              simp only [Act.put, lzA, lzB, lzC]
              have ltF := FO.lt
              refine wt_allocSt (o := ⟨_, _, _, _, _, _⟩) (by rfl) rfl (fun v3 g3 hg G3 kb => ?_)
              simp only [Act.put, lzA, lzB, lzC]
              have hx9 : ∀ j, j < 4 → (s j).val.ownBlock ≠ some g3 := fun j hj e => by have := ltF j hj _ e; omega
              have n_g1_g3 : g1 ≠ g3 := by have := lt_heap G; omega
              clear ltF
              have ge_g3 : w.heap.size ≤ g3 := Nat.le_trans D.size hg
              clear hg
              replace D := grown_below D kb
              replace G := GridIn.on G kb
              replace FO := FO.on kb
              clear kb
              replace G3 : v3.heap[g3]? = some (.cells #[.bool false, .slice none 0 0, .bool false, .slice none 0 0] 43 (0, 0)) := G3
              refine wl_yield (o := ⟨_, _, _, _, _, _⟩) (.int .i64 (j : Nat)) (yl_assign (by rfl) _ rfl _ rfl) ?_
              simp only [Act.put, lzA, lzB, lzC]
              refine wt_putSt (o := ⟨_, _, _, _, _, _⟩) rfl _ _ rfl _ rfl ((BxC.sc c9 j)) rfl G3 rfl (fun v4 X kg => ?_)
              simp only [Act.put, lzA, lzB, lzC]
              replace D := gr_new D ge_g3 kg
              replace G := heap_gr G kg n_g1_g3
              replace FO := FO.put G3 pl49 kg hx9
              clear kg
              replace G3 : v4.heap[g3]? = some (.cells #[.bool ((BxC.sc c9 j).a), .slice (BxC.sc c9 j).p (BxC.sc c9 j).n (BxC.sc c9 j).c, .bool ((BxC.sc c9 j).d), .slice (BxC.sc c9 j).q (BxC.sc c9 j).m (BxC.sc c9 j).e] 43 (0, 0)) := X
              clear X
              refine wpList_nil ?_
              refine hK18 _ _ ?_
              clear hK18 K18
              refine wp_region_late (S := fun w' => w'.heap[g3]? = some (.cells #[.bool ((BxC.sc c9 j).a), .slice (BxC.sc c9 j).p (BxC.sc c9 j).n (BxC.sc c9 j).c, .bool ((BxC.sc c9 j).d), .slice (BxC.sc c9 j).q (BxC.sc c9 j).m (BxC.sc c9 j).e] 43 (0, 0)) ∧ GridIn w' g1 0 0 s (fun _ => sl0)) (late := fun j => [15].contains j) (by kernel_rfl) ?_
              have kb : Below v4.heap.size v4 v4.drew := (Below.refl _ v4).drew
              replace D := grown_below D kb
              replace G := GridIn.on G kb
              replace FO := FO.on kb
              replace G3 := heap_on G3 kb
              clear kb
              generalize v4.drew = v5 at D G FO G3 ⊢
              refine wpAnyL_pure (i := 0) (oi := ⟨_, _, _, _, _, _⟩) (v := .pointer (some ⟨g1, 0, none⟩)) rfl (by kernel_rfl) (by kernel_rfl) (by kernel_rfl) (fun _ _ _ h => h) (yl_move (by rfl) _ rfl _ rfl) ?_
              simp only [Act.put, lzA, lzB, lzC]
              refine wpAnyL_pure (i := 1) (oi := ⟨_, _, _, _, _, _⟩) (v := .int .i64 (j : Nat)) rfl (by kernel_rfl) (by kernel_rfl) (by kernel_rfl) (fun _ _ _ h => h) (yl_move (by rfl) _ rfl _ rfl) ?_
              simp only [Act.put, lzA, lzB, lzC]
              refine wpAnyL_pure (i := 2) (oi := ⟨_, _, _, _, _, _⟩) (v := .pointer (some ⟨g1, 0, none⟩)) rfl (by kernel_rfl) (by kernel_rfl) (by kernel_rfl) (fun _ _ _ h => h) (yl_move (by rfl) _ rfl _ rfl) ?_
              simp only [Act.put, lzA, lzB, lzC]
              refine wpAnyL_pure (i := 3) (oi := ⟨_, _, _, _, _, _⟩) (v := .int .i64 (j : Nat)) rfl (by kernel_rfl) (by kernel_rfl) (by kernel_rfl) (fun _ _ _ h => h) (yl_move (by rfl) _ rfl _ rfl) ?_
              simp only [Act.put, lzA, lzB, lzC]
              refine wpAnyL_pure (i := 4) (oi := ⟨_, _, _, _, _, _⟩) (v := .pointer (some ⟨g1, 0, none⟩)) rfl (by kernel_rfl) (by kernel_rfl) (by kernel_rfl) (fun _ _ _ h => h) (yt_nil (by rfl) _ rfl _ rfl) ?_
              simp only [Act.put, lzA, lzB, lzC]
              refine wpAnyL_pure (i := 5) (oi := ⟨_, _, _, _, _, _⟩) (v := .pointer (some ⟨g1, 3, none⟩)) rfl (by kernel_rfl) (by kernel_rfl) (by kernel_rfl) (fun _ _ _ h => h) (yq_fG 1 (by decide) (by rfl) _ rfl g1 rfl) ?_
              simp only [Act.put, lzA, lzB, lzC]
              refine wpAnyL_pure (i := 6) (oi := ⟨_, _, _, _, _, _⟩) (v := .pointer (some ⟨g1, 3 + j, none⟩)) rfl (by kernel_rfl) (by kernel_rfl) (by kernel_rfl) (fun _ _ _ h => h) (yq_at4 (by rfl) _ _ rfl g1 3 j rfl rfl hlj) ?_
              simp only [Act.put, lzA, lzB, lzC]
              refine wpAnyL_load (i := 7) (oi := ⟨_, _, _, _, _, _⟩) (v := Sl.val (s j)) rfl (by kernel_rfl) (by kernel_rfl) (by kernel_rfl) (by kernel_rfl) (fun _ _ _ h => h) (yt_ldLq9 (by rfl) _ rfl _ _ rfl (s j).p (s j).n (s j).c (fun _ h => GridIn.sAt h.2 hlj)) ⟨G3, G⟩ ?_
              simp only [Act.put, lzA, lzB, lzC]
              refine wpAnyL_load (i := 8) (oi := ⟨_, _, _, _, _, _⟩) (v := SC.val (BxC.sc c9 j)) rfl (by kernel_rfl) (by kernel_rfl) (by kernel_rfl) (by kernel_rfl) (fun _ _ _ h => h) (yl_set (by rfl) _ rfl _ 0 rfl _ _ _ _ (fun _ h => ⟨cell_heap h.1 0, cell_heap h.1 1, cell_heap h.1 2, cell_heap h.1 3⟩)) ⟨G3, G⟩ ?_
              simp only [Act.put, lzA, lzB, lzC]
              refine wpAnyL_pure (i := 12) (oi := ⟨_, _, _, _, _, _⟩) (v := .pointer (some ⟨g1, 0, none⟩)) rfl (by kernel_rfl) (by kernel_rfl) (by kernel_rfl) (fun _ _ _ h => h) (yt_nil (by rfl) _ rfl _ rfl) ?_
              simp only [Act.put, lzA, lzB, lzC]
              refine wpAnyL_pure (i := 13) (oi := ⟨_, _, _, _, _, _⟩) (v := .pointer (some ⟨g1, 3, none⟩)) rfl (by kernel_rfl) (by kernel_rfl) (by kernel_rfl) (fun _ _ _ h => h) (yq_fG 1 (by decide) (by rfl) _ rfl g1 rfl) ?_
              simp only [Act.put, lzA, lzB, lzC]
              refine wpAnyL_all (rs := [9]) (by kernel_rfl) (by simp) ?_
              intro j hj
              have hj := List.mem_singleton.1 hj
              subst hj
              refine ot_call (o := ⟨_, _, _, _, _, _⟩) rfl (by rfl) 25 _ _ rfl #[SC.val (BxC.sc c9 j)] rfl (run_call Tryz.func25 (by kernel_rfl) (by kernel_rfl)) ?_
              refine (copied9_any _ (bx.get j) _ ((HAq.sc j hlj).on (below_none D)) (hsz j hlj).1 (hsz j hlj).2).mono ?_
              rintro r v6 (⟨⟨d9, rfl, hC9, hU9⟩, kb⟩)
              replace hU9 := hU9.mono D.size
              replace D := grown_below D kb
              replace G := GridIn.on G kb
              replace FO := FO.on kb
              replace G3 := heap_on G3 kb
              clear kb
              refine Or.inl ⟨SC.val d9, rfl, ⟨fun _ _ => ⟨G3, G⟩, ?_⟩⟩
              simp only [Act.put, lzA, lzB, lzC]
              refine wpAnyL_all (rs := [10]) (by kernel_rfl) (by simp) ?_
              intro j hj
              have hj := List.mem_singleton.1 hj
              subst hj
              refine ot_row1Q (o := ⟨_, _, _, _, _, _⟩) rfl (by rfl) _ rfl d9 rfl (fun v7 g7 hg G7 kb => ?_)
              have n_g3_g7 : g3 ≠ g7 := by have := lt_heap G3; omega
              have ge_g7 : w.heap.size ≤ g7 := Nat.le_trans D.size hg
              clear hg
              replace D := grown_below D kb
              replace G := GridIn.on G kb
              replace FO := FO.on kb
              replace G3 := heap_on G3 kb
              replace hC9 := hC9.on kb
              clear kb
              refine ⟨fun _ _ => ⟨G3, G⟩, ?_⟩
              simp only [Act.put, lzA, lzB, lzC]
              refine wpAnyL_all (rs := [11]) (by kernel_rfl) (by simp) ?_
              intro j hj
              have hj := List.mem_singleton.1 hj
              subst hj
              refine ot_appU9 (o := ⟨_, _, _, _, _, _⟩) rfl (by rfl) _ _ rfl w.heap.size _ (cs j) rfl (FO.own j hlj) g7 d9 rfl G7 (by have := FO.len hlj; rw [this]; exact Nat.le_trans (hXl j) (by omega)) D.size (fun v8' v8 OU' ha hw hc => ?_)
              obtain ⟨u9, rfl⟩ : ∃ u : Sl, v8' = u.val := by
                obtain ⟨a, c, e⟩ := OU'.own.frm
                exact ⟨⟨a, _, c⟩, e⟩
              have FO' := FO.app hlj OU' ha hw hc hC9 hU9
              replace G := G.asd ha (FO.notG G j hlj)
              replace G3 := (ha.k g3 (lt_heap G3) (fun e => hx9 j hlj e.symm)).trans G3
              replace D := grown_none ((below_none D).trans ha.b)
              replace FO := FO'
              clear FO' OU' ha hw hc hC9 hU9 G7
              refine ⟨fun _ _ => ⟨G3, G⟩, ?_⟩
              simp only [Act.put, lzA, lzB, lzC]
              refine wpAnyL_pure (i := 14) (oi := ⟨_, _, _, _, _, _⟩) (v := .pointer (some ⟨g1, 3 + j, none⟩)) rfl (by kernel_rfl) (by kernel_rfl) (by kernel_rfl) (fun _ _ _ h => h) (yq_at4 (by rfl) _ _ rfl g1 3 j rfl rfl hlj) ?_
              simp only [Act.put, lzA, lzB, lzC]
              refine wpAnyL_all (rs := [15]) (by kernel_rfl) (by simp) ?_
              intro j hj
              have hj := List.mem_singleton.1 hj
              subst hj
              refine ot_putGs (o := ⟨_, _, _, _, _, _⟩) rfl (by rfl) _ _ rfl g1 j hlj rfl u9 rfl _ _ _ _ G (fun v9 X kg => ?_)
              replace FO := FO.grid G kg
              replace D := gr_new D hb0 kg
              replace G := X
              clear X kg G3
              refine ⟨fun h => absurd h (by decide), ?_⟩
              simp only [Act.put, lzA, lzB, lzC]
              refine wpAnyL_done (by kernel_rfl) ?_ _
              refine hK17 _ _ ?_
              clear hK17 K17
              refine wp_region_lit ?_
              refine wl_yield (o := ⟨_, _, _, _, _, _⟩) (.int .i64 (j + 1 : Nat)) (yt_addI (by rfl) _ _ _ rfl ((j : Nat) : Int) 1 ((j + 1 : Nat) : Int) rfl rfl (by omega) (by omega) (by omega)) ?_
              simp only [Act.put, lzA, lzB, lzC]
              refine wl_yield (o := ⟨_, _, _, _, _, _⟩) (.int .i64 (j + 1 : Nat)) (yl_move (by rfl) _ rfl _ rfl) ?_
              simp only [Act.put, lzA, lzB, lzC]
              refine wpList_nil ?_
              show _ ∧ _
              go_roundw
              case rel => exact ⟨j + 1, _, _, rfl, by omega, G, FO.congr (fun i _ => part_step X bx j i), D⟩
              case measure => simp [intOf]; omega
            · obtain rfl : j = 4 := by omega
              subst hX
              replace FO := FO.congr (ls' := fun i => attrL (((Ls.take k).flatten ++ l.take q) ++ [bx]) i) (fun i hi => by unfold partL9; rw [if_pos hi])
              refine wp_seq_k (fun K15 hK15 => ?_)
              refine wp_region_lit ?_
              refine wl_yield (o := ⟨_, _, _, _, _, _⟩) (.bool false) (yt_lssI (by rfl) _ _ _ rfl ((4 : Nat) : Int) 4 false rfl rfl (decide_eq_false (by omega))) ?_
              simp only [Act.put, lzA, lzB, lzC]
              refine wpList_nil ?_
              refine hK15 _ _ ?_
              clear hK15 K15
              refine wp_seq_k (fun K16 hK16 => ?_)
              refine wp_cond_false rfl ?_
              refine wp_exit ?_
              refine hK12 _ _ ?_
              clear hK16 K16 hK12 K12
              refine wp_region_lit ?_
              refine wl_yield (o := ⟨_, _, _, _, _, _⟩) (.int .i64 (q + 1 : Nat)) (yt_addI (by rfl) _ _ _ rfl ((q : Nat) : Int) 1 ((q + 1 : Nat) : Int) rfl rfl (by omega) (by omega) (by omega)) ?_
              simp only [Act.put, lzA, lzB, lzC]
              refine wl_yield (o := ⟨_, _, _, _, _, _⟩) (.int .i64 (q + 1 : Nat)) (yl_move (by rfl) _ rfl _ rfl) ?_
              simp only [Act.put, lzA, lzB, lzC]
              refine wpList_nil ?_
              show _ ∧ _
              go_roundw
              case rel => exact ⟨q + 1, s, cs, rfl, by omega, G, by rw [take_moreX (by omega), hbx, ← List.append_assoc]; exact FO, D⟩
              case measure => simp [intOf]; omega
        · obtain rfl : q = bs9.length := by omega
          rw [hbl, List.take_length] at FO
          refine wp_seq_k (fun K10 hK10 => ?_)
          refine wp_region_lit ?_
          refine wl_yield (o := ⟨_, _, _, _, _, _⟩) (.bool false) (yt_lssI (by rfl) _ _ _ rfl ((bs9.length : Nat) : Int) ((bs9.length : Nat) : Int) false rfl rfl (decide_eq_false (by omega))) ?_
          simp only [Act.put, lzA, lzB, lzC]
          refine wpList_nil ?_
          refine hK10 _ _ ?_
          clear hK10 K10
          refine wp_seq_k (fun K11 hK11 => ?_)
          refine wp_cond_false rfl ?_
          refine wp_exit ?_
          refine hK7 _ _ ?_
          clear hK11 K11 hK7 K7
          refine wp_region_lit ?_
          refine wl_yield (o := ⟨_, _, _, _, _, _⟩) (.int .i64 (k + 1 : Nat)) (yt_addI (by rfl) _ _ _ rfl ((k : Nat) : Int) 1 ((k + 1 : Nat) : Int) rfl rfl (by omega) (by omega) (by omega)) ?_
          simp only [Act.put, lzA, lzB, lzC]
          refine wl_yield (o := ⟨_, _, _, _, _, _⟩) (.int .i64 (k + 1 : Nat)) (yl_move (by rfl) _ rfl _ rfl) ?_
          simp only [Act.put, lzA, lzB, lzC]
          refine wpList_nil ?_
          show _ ∧ _
          go_roundw
          case rel => exact ⟨k + 1, s, cs, rfl, by omega, G, by rw [flat_more hlt, hl9]; exact FO, D⟩
          case measure => simp [intOf]; omega
    · obtain rfl : k = Ls.length := by omega
      rw [List.take_length] at FO
      refine wp_seq_k (fun K5 hK5 => ?_)
      refine wp_region_lit ?_
      refine wl_yield (o := ⟨_, _, _, _, _, _⟩) (.bool false) (yt_lssI (by rfl) _ _ _ rfl ((Ls.length : Nat) : Int) ((Ls.length : Nat) : Int) false rfl rfl (decide_eq_false (by omega))) ?_
      simp only [Act.put, lzA, lzB, lzC]
      refine wpList_nil ?_
      refine hK5 _ _ ?_
      clear hK5 K5
      refine wp_seq_k (fun K6 hK6 => ?_)
      refine wp_cond_false rfl ?_
      refine wp_exit ?_
      refine hK3 _ _ ?_
      clear hK6 K6 hK3 K3
      refine wp_seq_k (fun K7 hK7 => ?_)
      refine wp_region_lit ?_
      refine wl_yield (o := ⟨_, _, _, _, _, _⟩) (.pointer (some ⟨g1, 0, none⟩)) (yl_move (by rfl) _ rfl _ rfl) ?_
      simp only [Act.put, lzA, lzB, lzC]
      refine wl_yield (o := ⟨_, _, _, _, _, _⟩) (.pointer (some ⟨g1, 0, none⟩)) (yl_assign (by rfl) _ rfl _ rfl) ?_
      simp only [Act.put, lzA, lzB, lzC]
      refine wpList_nil ?_
      refine hK7 _ _ ?_
      clear hK7 K7
      refine wp_ret ?_
      try simp only [Exit.inBlock, Exit.then]
      go_ret
      exact ⟨⟨g1, rfl, hb0, FO.ok G (fun j hj => by rw [FO.len hj]; unfold attrL; rw [List.length_map]; have := flat_lenX hsm; omega)⟩, below_none D⟩
end Go.Proofs.YtbaijjclofekcaaGreatDoor
namespace Go.Proofs.YtbaijjclofekcaaGreatDoor
open Go.RowKit
section
variable {ops : Array Oper} {S : World → Prop} {o : Oper} {a : Act}
end
end Go.Proofs.YtbaijjclofekcaaGreatDoor
namespace Go.Proofs.YtbaijjclofekcaaGreatDoor
open Go.RowKit
section
variable {ops : Array Oper} {Q : Exit → Act → World → Prop} {o : Oper} {a : Act}
end
end Go.Proofs.YtbaijjclofekcaaGreatDoor
namespace Go.Proofs.YtbaijjclofekcaaGreatDoor
open Go.RowKit
theorem Bxs.fit {w : World} {v : Value} {l : List BoxV} (hv : Bxs w v l) {b : BoxV} (hb : b ∈ l) : ∃ c : BxC, BoxAt w c.val b := by
  obtain ⟨cs, _, ha⟩ := hv
  obtain ⟨i, hi, e⟩ := mem_getD zBox hb
  exact ⟨_, e ▸ ha.2 i hi⟩
theorem mid_small {w : World} {v : Value} {l : List BoxV} (hv : Bxs w v l) (h : l.all (fun b => smallBx b && rightBx b) = true) : ∀ b ∈ l, MidB b := fun b hb => by
  obtain ⟨c, hc⟩ := hv.fit hb
  have hq := List.all_eq_true.1 h b hb
  rw [Bool.and_eq_true] at hq
  have hf := fit_small hc hq.1 hq.2
  exact ⟨hf.good, hf.ni, hf.ns⟩
theorem Bxs.inL {w : World} {v : Value} {l : List BoxV} (hv : Bxs w v l) {i : Nat} (hi : i < 4) : InL (attrL l i) := fun S hS => by
  obtain ⟨b, hb, rfl⟩ := List.mem_map.1 hS
  obtain ⟨c, hc⟩ := hv.fit hb
  obtain ⟨vi, vs, _, hI, hT⟩ := hc.sc i hi
  exact ⟨hI.1, hT.1⟩
end Go.Proofs.YtbaijjclofekcaaGreatDoor
namespace Go.Proofs.YtbaijjclofekcaaGreatDoor
open Go.RowKit
theorem put_mid8 (g : Nat) (t : TypeId) : ∀ (ds cs pre post : List Value) (w : World), w.heap[g]? = some (.cells (pre ++ (cs ++ post)).toArray t (0, 0)) → cs.length = ds.length → (w.setCells g pre.length ds).heap[g]? = some (.cells (pre ++ (ds ++ post)).toArray t (0, 0)) ∧ w.grownBy (w.setCells g pre.length ds) (some g)
  | [], [], pre, post, w, h, _ => ⟨h, grown_refl _ _⟩
  | d :: ds, c :: cs, pre, post, w, h, hl => by
    have h1 := heap_setCell (i := pre.length) d h
    have e : ((pre ++ ((c :: cs) ++ post)).toArray).setIfInBounds pre.length d = ((pre ++ [d]) ++ (cs ++ post)).toArray := by simp
    rw [e] at h1
    obtain ⟨h2, h3⟩ := put_mid8 g t ds cs (pre ++ [d]) post _ h1 (by simpa using hl)
    rw [List.length_append, List.length_cons, List.length_nil] at h2 h3
    rw [List.append_assoc, List.cons_append, List.nil_append] at h2
    exact ⟨h2, grown_trans (grown_put _ _ _ _) h3⟩
def BxC.put (c : BxC) (i : Nat) (s : SC) : BxC := match i with
  | 0 => { c with s0 := s }
  | 1 => { c with s1 := s }
  | 2 => { c with s2 := s }
  | 3 => { c with s3 := s }
  | _ => c
theorem ev_put {w : World} {g : Nat} {e : EvV} (h : EvIn w g e) (i : Nat) (hi : i < 4) (v : Va) : EvIn (w.setCells g (i * 3) [.int .i64 v.1, .int .i64 v.2.1, .string v.2.2]) g (e.put i v) ∧ w.grownBy (w.setCells g (i * 3) [.int .i64 v.1, .int .i64 v.2.1, .string v.2.2]) (some g) := by
  match i, hi with
  | 0, _ => exact put_mid8 g 26 [.int .i64 v.1, .int .i64 v.2.1, .string v.2.2] [.int .i64 e.v0.1, .int .i64 e.v0.2.1, .string e.v0.2.2] [] [.int .i64 e.v1.1, .int .i64 e.v1.2.1, .string e.v1.2.2, .int .i64 e.v2.1, .int .i64 e.v2.2.1, .string e.v2.2.2, .int .i64 e.v3.1, .int .i64 e.v3.2.1, .string e.v3.2.2] w h rfl
  | 1, _ => exact put_mid8 g 26 [.int .i64 v.1, .int .i64 v.2.1, .string v.2.2] [.int .i64 e.v1.1, .int .i64 e.v1.2.1, .string e.v1.2.2] [.int .i64 e.v0.1, .int .i64 e.v0.2.1, .string e.v0.2.2] [.int .i64 e.v2.1, .int .i64 e.v2.2.1, .string e.v2.2.2, .int .i64 e.v3.1, .int .i64 e.v3.2.1, .string e.v3.2.2] w h rfl
  | 2, _ => exact put_mid8 g 26 [.int .i64 v.1, .int .i64 v.2.1, .string v.2.2] [.int .i64 e.v2.1, .int .i64 e.v2.2.1, .string e.v2.2.2] [.int .i64 e.v0.1, .int .i64 e.v0.2.1, .string e.v0.2.2, .int .i64 e.v1.1, .int .i64 e.v1.2.1, .string e.v1.2.2] [.int .i64 e.v3.1, .int .i64 e.v3.2.1, .string e.v3.2.2] w h rfl
  | 3, _ => exact put_mid8 g 26 [.int .i64 v.1, .int .i64 v.2.1, .string v.2.2] [.int .i64 e.v3.1, .int .i64 e.v3.2.1, .string e.v3.2.2] [.int .i64 e.v0.1, .int .i64 e.v0.2.1, .string e.v0.2.2, .int .i64 e.v1.1, .int .i64 e.v1.2.1, .string e.v1.2.2, .int .i64 e.v2.1, .int .i64 e.v2.2.1, .string e.v2.2.2] [] w h rfl
section
variable {ops : Array Oper} {Q : Exit → Act → World → Prop} {S : World → Prop} {o : Oper} {a : Act}
theorem wt_putEv1 {rest : List Oper} {w : World} (hw : o.guard = none) (x y : Operand) (ho : o.op = .store 24 x y) (g i : Nat) (hi : i < 4) (hx : a.eval x = .pointer (some ⟨g, i * 3, none⟩)) (v : Va) (hy : a.eval y = vVal v) {e : EvV} (hc : EvIn w g e)
    (h : ∀ W, EvIn W g (e.put i v) → w.grownBy W (some g) → wpList Tryz.prog ops Q rest (a.put o.dst undef) W) : wpList Tryz.prog ops Q (o :: rest) a w := by
  have ht : w.there g (i * 3) 3 := fun j hj => ⟨by rw [cell_heap hc, Array.getElem?_eq_getElem (by simp; omega)]; rfl, frozen_heap hc _⟩
  refine wpList_store_mid hw 24 x y ho g (i * 3) #[.int .i64 v.1, .int .i64 v.2.1, .string v.2.2] hx hy ht (by rw [infoV]; rfl) (by simp [Value.oneCell']) ?_
  obtain ⟨h1, h2⟩ := ev_put hc i hi v
  exact h _ h1 h2
end
theorem hasP_max {S : SetV} {q : Va} (h : hasP S q = true) : q.2.2.size ≤ maxLen := by
  have hr := hasB_right (show hasB S q.1 q.2.1 q.2.2 = true from h)
  unfold rightB at hr
  have e : ∀ s : ByteArray, s.toList.isEmpty = true → s.size ≤ maxLen := fun s h => by
    have : s = bs s.data.toList := rfl
    rw [this, isE] at h
    rw [this, bs_size, of_decide_eq_true h]
    exact Nat.zero_le _
  split at hr
  · simp only [Bool.and_eq_true] at hr; exact e _ hr.2
  · split at hr
    · exact e _ hr
    · split at hr
      · simp only [Bool.and_eq_true, decide_eq_true_eq] at hr; unfold maxLen; omega
      · cases hr
theorem EvV.get_put9 (e : EvV) (i j : Nat) (v : Va) (hi : i < 4) (hj : j < 4) : (e.put i v).get j = if j = i then v else e.get j := by
  match i, hi, j, hj with
  | 0, _, 0, _ => rfl
  | 0, _, 1, _ => rfl
  | 0, _, 2, _ => rfl
  | 0, _, 3, _ => rfl
  | 1, _, 0, _ => rfl
  | 1, _, 1, _ => rfl
  | 1, _, 2, _ => rfl
  | 1, _, 3, _ => rfl
  | 2, _, 0, _ => rfl
  | 2, _, 1, _ => rfl
  | 2, _, 2, _ => rfl
  | 2, _, 3, _ => rfl
  | 3, _, 0, _ => rfl
  | 3, _, 1, _ => rfl
  | 3, _, 2, _ => rfl
  | 3, _, 3, _ => rfl
theorem fewBx_get {b : BoxV} (h : fewBx b = true) {i : Nat} (hi : i < 4) : fewB (b.get i) = true := by
  unfold fewBx at h
  simp only [List.all_cons, List.all_nil, Bool.and_true, Bool.and_eq_true] at h
  match i, hi with
  | 0, _ => exact h.1
  | 1, _ => exact h.2.1
  | 2, _ => exact h.2.2.1
  | 3, _ => exact h.2.2.2
theorem fewBx_sz {l : List BoxV} (h : l.all fewBx = true) {b : BoxV} (hb : b ∈ l) {j : Nat} (hj : j < 4) : (b.get j).ints.length ≤ 100000 ∧ (b.get j).strs.length ≤ 100000 := by
  have := few_len9 (fewBx_get (List.all_eq_true.1 h b hb) hj)
  omega
end Go.Proofs.YtbaijjclofekcaaGreatDoor
namespace Go.Proofs.YtbaijjclofekcaaGreatDoor
open Go.RowKit
def EvV.cl (e : EvV) : List Value := [.int .i64 e.v0.1, .int .i64 e.v0.2.1, .string e.v0.2.2, .int .i64 e.v1.1, .int .i64 e.v1.2.1, .string e.v1.2.2, .int .i64 e.v2.1, .int .i64 e.v2.2.1, .string e.v2.2.2, .int .i64 e.v3.1, .int .i64 e.v3.2.1, .string e.v3.2.2]
theorem EvV.cl_len (e : EvV) : e.cl.length = 12 := rfl
theorem EvV.cl_one (e : EvV) : ∀ v ∈ e.cl, v.oneCell' = true := by
  intro v hv
  unfold EvV.cl at hv
  simp only [List.mem_cons, List.not_mem_nil, or_false] at hv
  rcases hv with rfl | rfl | rfl | rfl | rfl | rfl | rfl | rfl | rfl | rfl | rfl | rfl <;> rfl
theorem cInfoE9 : (Tryz.prog.info? 26).map (fun i => (i.zero, i.size, i.bytes)) = some (some (evVal evZ), 12, 128) := by kernel_rfl
def EvRow9 (w : World) (v : Value) (cs : List EvV) : Prop :=
  cs.length ≤ 9223372036854775807 ∧ ∃ (a : Option Addr) (cap : Nat), v = .slice a cs.length cap ∧ ∀ i, i < cs.length → ∃ g off, a = some ⟨g, off, none⟩ ∧ g < w.heap.size ∧ w.rangeAt g (off + i * 12) (cs.getD i evZ).cl
theorem EvRow9.on {w w' : World} {v : Value} {cs : List EvV} (h : EvRow9 w v cs) (hb : Below w.heap.size w w') : EvRow9 w' v cs := by
  obtain ⟨h0, a, cap, e, h⟩ := h
  refine ⟨h0, a, cap, e, fun i hi => ?_⟩
  obtain ⟨g, off, e, hg, hr⟩ := h i hi
  exact ⟨g, off, e, Nat.lt_of_lt_of_le hg hb.size, rangeAt_on hr (hb.block g hg)⟩
def evCl (cs : List EvV) : List Value := cs.flatMap EvV.cl
theorem evCl_append (a b : List EvV) : evCl (a ++ b) = evCl a ++ evCl b := by unfold evCl; rw [List.flatMap_append]
theorem evCl_len : ∀ cs : List EvV, (evCl cs).length = cs.length * 12
  | [] => rfl
  | c :: cs => by
    have := evCl_len cs
    unfold evCl at this ⊢
    rw [List.flatMap_cons, List.length_append, this, EvV.cl_len, List.length_cons]
    omega
theorem evCl_at : ∀ (cs : List EvV) (i r : Nat), i < cs.length → r < 12 → (evCl cs)[i * 12 + r]? = (cs.getD i evZ).cl[r]?
  | [], i, r, h, _ => by simp at h
  | c :: cs, 0, r, _, hr => by
    unfold evCl
    rw [List.flatMap_cons, Nat.zero_mul, Nat.zero_add, List.getElem?_append_left (by rw [EvV.cl_len]; exact hr)]
    rfl
  | c :: cs, i + 1, r, h, hr => by
    have := evCl_at cs i r (by simpa using h) hr
    unfold evCl at this ⊢
    rw [List.flatMap_cons, List.getElem?_append_right (by rw [EvV.cl_len]; omega), EvV.cl_len, show (i + 1) * 12 + r - 12 = i * 12 + r by omega, this]
    rfl
def OwnE9 (w : World) (B : Nat) (v : Value) (cs : List EvV) : Prop := w.ownsRow B 26 12 v cs.length (evCl cs)
theorem OwnE9.on {w w' : World} {B : Nat} {v : Value} {cs : List EvV} (h : OwnE9 w B v cs) (hb : Below w.heap.size w w') : OwnE9 w' B v cs := by
  refine ⟨h.1, ?_⟩
  rcases h.2 with h | ⟨g, cap, cur, e, hB, hg, r⟩
  · exact Or.inl h
  · exact Or.inr ⟨g, cap, cur, e, hB, (hb.block _ (lt_heap hg)).trans hg, r⟩
theorem OwnE9.mono {w : World} {B B' : Nat} {v : Value} {cs : List EvV} (h : OwnE9 w B v cs) (hb : B' ≤ B) : OwnE9 w B' v cs := by
  refine ⟨h.1, ?_⟩
  rcases h.2 with h | ⟨g, cap, cur, e, hB, r⟩
  · exact Or.inl h
  · exact Or.inr ⟨g, cap, cur, e, Nat.le_trans hb hB, r⟩
theorem ownE9_nil (w : World) (B : Nat) : OwnE9 w B (.slice none 0 0) [] := ⟨rfl, Or.inl ⟨rfl, rfl⟩⟩
theorem OwnE9.range {w : World} {B g n cap : Nat} {cs : List EvV} (h : OwnE9 w B (.slice (some ⟨g, 0, none⟩) n cap) cs) (i : Nat) (hi : i < cs.length) : w.rangeAt g (i * 12) (cs.getD i evZ).cl := by
  rcases h.2 with ⟨h, _⟩ | ⟨g', cap', cur, e, hB, hg, hn, hm, hs, ht⟩
  · cases h
  · cases e
    intro j v hv
    have hj : j < 12 := by
      have := (List.getElem?_eq_some_iff.1 hv).1
      rwa [EvV.cl_len] at this
    rw [cell_heap hg]
    have := take_at ht ((evCl_at cs i j hi hj).trans hv)
    rw [← Array.getElem?_toList]
    exact this
theorem OwnE9.form {w : World} {B : Nat} {v : Value} {cs : List EvV} (h : OwnE9 w B v cs) : (v = .slice none 0 0 ∧ cs = []) ∨ ∃ g cap cur, v = .slice (some ⟨g, 0, none⟩) cs.length cap ∧ B ≤ g ∧ w.heap[g]? = some (.cells cur 26 (0, 0)) ∧ cs.length ≤ cap ∧ cap ≤ maxLen ∧ cur.size = cap * 12 := by
  rcases h.2 with ⟨h, h'⟩ | ⟨g, cap, cur, e, hB, hg, hn, hm, hs, ht⟩
  · exact Or.inl ⟨h, List.eq_nil_of_length_eq_zero h'⟩
  · exact Or.inr ⟨g, cap, cur, e, hB, hg, hn, hm, hs⟩
theorem ownE9_of {w : World} {B g cap : Nat} {cur : Array Value} {cs : List EvV} (hg : w.heap[g]? = some (.cells cur 26 (0, 0))) (hB : B ≤ g) (hn : cs.length ≤ cap) (hm : cap ≤ maxLen) (hs : cur.size = cap * 12) (h : ∀ i, i < cs.length → w.rangeAt g (i * 12) (cs.getD i evZ).cl) : OwnE9 w B (.slice (some ⟨g, 0, none⟩) cs.length cap) cs := by
  refine ⟨evCl_len cs, Or.inr ⟨g, cap, cur, rfl, hB, hg, hn, hm, hs, ?_⟩⟩
  apply List.ext_getElem?
  intro j
  rw [List.getElem?_take]
  split
  · rename_i hj
    have hi : j / 12 < cs.length := by omega
    have hr : j % 12 < 12 := by omega
    have e : j = j / 12 * 12 + j % 12 := by omega
    have h1 := evCl_at cs (j / 12) (j % 12) hi hr
    rw [← e] at h1
    rw [h1]
    have hl : j % 12 < (cs.getD (j / 12) evZ).cl.length := hr
    have h2 := h (j / 12) hi (j % 12) _ (List.getElem?_eq_getElem hl)
    rw [← e, cell_heap hg] at h2
    rw [Array.getElem?_toList, h2, List.getElem?_eq_getElem hl]
  · rename_i hj
    rw [List.getElem?_eq_none (by rw [evCl_len]; omega)]
theorem OwnE9.row {w : World} {B : Nat} {v : Value} {cs : List EvV} (h : OwnE9 w B v cs) (hl : cs.length ≤ 1000000) : EvRow9 w v cs := by
  refine ⟨by omega, ?_⟩
  rcases h.form with ⟨rfl, rfl⟩ | ⟨g, cap, cur, rfl, hB, hg, _⟩
  · exact ⟨none, 0, rfl, fun i hi => by simp at hi⟩
  · exact ⟨_, cap, rfl, fun i hi => ⟨g, 0, rfl, lt_heap hg, by rw [Nat.zero_add]; exact h.range i hi⟩⟩
theorem evRow_cells {w : World} {g o : Nat} {e : EvV} (h : w.rangeAt g o e.cl) : w.cell? ⟨g, o, none⟩ = some (.int .i64 e.v0.1) ∧ w.cell? ⟨g, o + 1, none⟩ = some (.int .i64 e.v0.2.1) ∧ w.cell? ⟨g, o + 2, none⟩ = some (.string e.v0.2.2) ∧ w.cell? ⟨g, o + 3, none⟩ = some (.int .i64 e.v1.1) ∧ w.cell? ⟨g, o + 4, none⟩ = some (.int .i64 e.v1.2.1) ∧ w.cell? ⟨g, o + 5, none⟩ = some (.string e.v1.2.2) ∧ w.cell? ⟨g, o + 6, none⟩ = some (.int .i64 e.v2.1) ∧ w.cell? ⟨g, o + 7, none⟩ = some (.int .i64 e.v2.2.1) ∧ w.cell? ⟨g, o + 8, none⟩ = some (.string e.v2.2.2) ∧ w.cell? ⟨g, o + 9, none⟩ = some (.int .i64 e.v3.1) ∧ w.cell? ⟨g, o + 10, none⟩ = some (.int .i64 e.v3.2.1) ∧ w.cell? ⟨g, o + 11, none⟩ = some (.string e.v3.2.2) :=
  ⟨h 0 _ rfl, h 1 _ rfl, h 2 _ rfl, h 3 _ rfl, h 4 _ rfl, h 5 _ rfl, h 6 _ rfl, h 7 _ rfl, h 8 _ rfl, h 9 _ rfl, h 10 _ rfl, h 11 _ rfl⟩
theorem evIn_one {w : World} {g : Nat} {e : EvV} (h : EvIn w g e) : ∀ j u, e.cl[j]? = some u → w.cell? ⟨g, j, none⟩ = some u := fun j u hj => by
  rw [cell_heap h]
  exact List.getElem?_toArray.trans hj
section
variable {ops : Array Oper} {Q : Exit → Act → World → Prop} {S : World → Prop} {o : Oper} {a : Act}
theorem wq_row1V {rest : List Oper} {w : World} (hw : Region.wanted o (yielded ops a.tmps) = true) (x : Operand) (ho : o.op = .buildSlice 46 1 #[(0, x)]) (e : EvV) (hx : a.eval x = evVal e)
    (h : ∀ W g, w.heap.size ≤ g → EvIn W g e → Below w.heap.size w W → wpList Tryz.prog ops Q rest (a.put o.dst (.slice (some ⟨g, 0, none⟩) 1 1)) W) : wpList Tryz.prog ops Q (o :: rest) a w := by
  refine wl_run hw (.slice (some ⟨w.heap.size, 0, none⟩) 1 1) (w.alloc (evObj e)) ?_ (h _ _ (Nat.le_refl _) (heap_new _ _) ((Below.refl _ w).alloc (Nat.le_refl _) _))
  simp only [execOp, ho, hx, evVal, evObj, List.map_toArray, List.map_cons, List.map_nil]
  go_simp
theorem wq_appV {rest : List Oper} {w : World} (hgd : o.guard = none) (s x : Operand)
    (ho : o.op = .call { callee := .builtin .append, args := #[s, x], argTypes := #[46, 46] })
    (B : Nat) (v : Value) (l : List EvV) (hs : a.eval s = v) (hown : OwnE9 w B v l) (g : Nat) (e : EvV) (hx : a.eval x = .slice (some ⟨g, 0, none⟩) 1 1) (he : EvIn w g e) (hlen : l.length ≤ 100000) (hB : B ≤ w.heap.size)
    (h : ∀ v' W, OwnE9 W B v' (l ++ [e]) → w.grownBy W v.ownBlock → (v'.ownBlock = v.ownBlock ∨ v'.ownBlock = some w.heap.size) → wpList Tryz.prog ops Q rest (a.put o.dst v') W) : wpList Tryz.prog ops Q (o :: rest) a w := by
  obtain ⟨i0, hi, hz0, hz1, hz2⟩ := info_parts cInfoE9
  obtain ⟨v', w', hr, h2, h3, _, h4⟩ := run_append_own_at (P := Tryz.prog) w B 46 o.type 26 i0 _ 12 128 Tryz.underlying46 hi hz0 hz1 hz2 rfl (by decide) v l.length (evCl l) hown ⟨g, 0, none⟩ 1 1 e.cl (by rw [EvV.cl_len]) (fun j u hj => by
    rw [Go.WideShapes.add_plain, Nat.zero_add]
    exact evIn_one he j u hj) e.cl_one (by unfold maxLen; omega) (by omega) hB
  refine wl_run (by unfold Region.wanted; rw [hgd]) v' w' ?_ (h v' w' ?_ h3 h4)
  · unfold execOp
    simp only [ho, resolve, invoke, builtin, Sem.run_bind, Sem.run_pure, Result.andThen_ok, List.map_toArray, List.map_cons, List.map_nil, hs, hx, hr]
  · show w'.ownsRow B 26 12 v' (l ++ [e]).length (evCl (l ++ [e]))
    rw [List.length_append, evCl_append]
    have e1 : evCl [e] = e.cl := by unfold evCl; simp
    rw [e1]
    exact h2
theorem wq_makeV {rest : List Oper} {w : World} (hw : Region.wanted o (yielded ops a.tmps) = true) (y x : Operand) (ho : o.op = .makeSlice 46 y x) (hy : a.eval y = .int .i64 0) (N : Nat) (hx : a.eval x = .int .i64 N) (hN : N ≤ 100000)
    (h : ∀ W g, w.heap.size ≤ g → OwnE9 W w.heap.size (.slice (some ⟨g, 0, none⟩) 0 N) [] → Below w.heap.size w W → wpList Tryz.prog ops Q rest (a.put o.dst (.slice (some ⟨g, 0, none⟩) 0 N)) W) : wpList Tryz.prog ops Q (o :: rest) a w := by
  obtain ⟨i0, hi, hz0, hz1, hz2⟩ := info_parts cInfoE9
  obtain ⟨w', hm1, hm2, hm3⟩ := run_make_own (P := Tryz.prog) w w.heap.size 46 26 i0 _ 12 Tryz.underlying46 hi hz0 hz1 .i64 .i64 N (by rw [hz2]; omega) (by unfold maxLen; omega) (Nat.le_refl _)
  refine wl_run hw _ w' ?_ (h w' w.heap.size (Nat.le_refl _) hm2 ((Below.refl _ w).grown hm3 (Nat.le_refl _) (fun k hk => by cases hk)))
  simp only [execOp, ho, hy, hx, Sem.run_bind, hm1, Result.andThen_ok, Sem.run_pure]
end
end Go.Proofs.YtbaijjclofekcaaGreatDoor
namespace Go.Proofs.YtbaijjclofekcaaGreatDoor
open Go.RowKit
def smpE (S : SetV) : Va := (sampleV S).getD (0, 0, ⟨#[]⟩)
def spreadL (es : List EvV) (a : Nat) (l : List SetV) : List EvV := es.flatMap fun e => l.map fun S => e.put a (smpE S)
def evsL (C : Nat → List SetV) : Nat → List EvV
  | 0 => [evZ]
  | k + 1 => spreadL (evsL C k) k (C k)
def prodN (ns : Nat → Nat) : Nat → Nat
  | 0 => 1
  | k + 1 => prodN ns k * ns k
theorem spreadL_len (es : List EvV) (a : Nat) (l : List SetV) : (spreadL es a l).length = es.length * l.length := by
  unfold spreadL
  induction es with
  | nil => simp
  | cons e es ih => rw [List.flatMap_cons, List.length_append, ih, List.length_map, List.length_cons, Nat.add_mul, Nat.one_mul, Nat.add_comm]
theorem evsL_len (C : Nat → List SetV) : ∀ k, (evsL C k).length = prodN (fun j => (C j).length) k
  | 0 => rfl
  | k + 1 => by
    unfold evsL prodN
    rw [spreadL_len, evsL_len C k]
theorem prodN_le {ns : Nat → Nat} (h : ∀ j, j < 4 → 1 ≤ ns j) : ∀ d k, d + k ≤ 4 → prodN ns k ≤ prodN ns (k + d)
  | 0, k, _ => Nat.le_refl _
  | d + 1, k, hk => by
    have h1 := prodN_le h d k (by omega)
    show _ ≤ prodN ns (k + d) * ns (k + d)
    have h2 := Nat.mul_le_mul_left (prodN ns (k + d)) (h (k + d) (by omega))
    rw [Nat.mul_one] at h2
    exact Nat.le_trans h1 h2
theorem cnt_prod {ns : Nat → Nat} (h : ∀ j, j < 4 → 1 ≤ ns j) (hc : cntU ns 4 ≤ 5000) : ∀ k, k ≤ 4 → cntU ns k = prodN ns k
  | 0, _ => rfl
  | k + 1, hk => by
    have h1 := cnt_prod h hc k (by omega)
    by_cases hb : cntU ns k * ns k > 1099511627776
    · have e1 : cntU ns (k + 1) = 1099511627776 := by unfold cntU; rw [if_pos hb]
      have e2 := cntU_top9 ns (k + 1) 4 hk h e1
      omega
    · rw [cntU_go ns k hb, h1]; rfl
theorem prod_few {ns : Nat → Nat} (h : ∀ j, j < 4 → 1 ≤ ns j) (hc : cntU ns 4 ≤ 5000) {k : Nat} (hk : k ≤ 4) : prodN ns k ≤ 5000 := by
  have h1 := prodN_le h (4 - k) k (by omega)
  rw [show k + (4 - k) = 4 by omega, ← cnt_prod h hc 4 (Nat.le_refl _)] at h1
  omega
theorem mem_spread {es : List EvV} {a : Nat} {l : List SetV} {e : EvV} {S : SetV} (he : e ∈ es) (hS : S ∈ l) : e.put a (smpE S) ∈ spreadL es a l :=
  List.mem_flatMap.2 ⟨e, he, List.mem_map.2 ⟨S, hS, rfl⟩⟩
theorem evs_pick {C : Nat → List SetV} (p : Nat → Nat) (h : ∀ j, j < 4 → p j < (C j).length) : ∀ k, k ≤ 4 → ∃ e ∈ evsL C k, ∀ j, j < k → e.get j = smpE ((C j).getD (p j) noSet)
  | 0, _ => ⟨evZ, List.mem_singleton.2 rfl, fun j hj => absurd hj (Nat.not_lt_zero _)⟩
  | k + 1, hk => by
    obtain ⟨e, he, hv⟩ := evs_pick p h k (by omega)
    refine ⟨e.put k (smpE ((C k).getD (p k) noSet)), mem_spread he (gD_mem (h k (by omega))), fun j hj => ?_⟩
    rw [EvV.get_put9 e k j _ (by omega) (by omega)]
    by_cases e1 : j = k
    · rw [if_pos e1, e1]
    · rw [if_neg e1]; exact hv j (by omega)
theorem evs_found {all : List BoxV} (hI : ∀ i, i < 4 → InL (attrL all i)) (hfc : ∀ i, i < 4 → FewC (attrL all i)) {b : BoxV} (hb : b ∈ all) (hr : ∀ i, i < 4 → rightSet (b.get i) = true) {e : EvV} (hn : ∀ i, i < 4 → -9223372036854775808 ≤ (e.get i).2.1 ∧ (e.get i).2.1 ≤ 9223372036854775807) (he : hasE b e = true) : ∃ v ∈ evsL (fun i => cutL (attrL all i)) 4, hasE b v = true := by
  have hh := (hasE_iff _ _).1 he
  have key : ∀ i, i < 4 → ∃ k, k < (cutL (attrL all i)).length ∧ hasP ((cutL (attrL all i)).getD k noSet) (e.get i) = true := fun i hi => by
    obtain ⟨k, hk, h⟩ := cell_some (cut_of (hI i hi)) (hn i hi).1 (hn i hi).2 (hasB_right (show hasB _ (e.get i).1 (e.get i).2.1 (e.get i).2.2 = true from hh i hi))
    exact ⟨k, hk, h⟩
  let p : Nat → Nat := fun i => if hi : i < 4 then (key i hi).choose else 0
  have hp : ∀ i, i < 4 → p i < (cutL (attrL all i)).length ∧ hasP ((cutL (attrL all i)).getD (p i) noSet) (e.get i) = true := fun i hi => by
    show (if hi : i < 4 then (key i hi).choose else 0) < _ ∧ hasP ((cutL (attrL all i)).getD (if hi : i < 4 then (key i hi).choose else 0) noSet) _ = true
    rw [dif_pos hi]
    exact (key i hi).choose_spec
  obtain ⟨v, hv, hvj⟩ := evs_pick (C := fun i => cutL (attrL all i)) p (fun j hj => (hp j hj).1) 4 (Nat.le_refl _)
  refine ⟨v, hv, (hasE_iff _ _).2 fun i hi => ?_⟩
  obtain ⟨q, hq⟩ := cell_sample (cut_of (hI i hi)) (i := p i) (hp i hi).1
  have hfk := fit_cut (hI i hi) (hfc i hi) _ (gD_mem (d := noSet) (hp i hi).1)
  have hqh := sample_has (show sampleV ((cutL (attrL all i)).getD (p i) noSet) = some q from hq) (by have := hfk.ns; omega)
  have e1 : v.get i = q := by
    rw [hvj i hi]
    show smpE ((cutL (attrL all i)).getD (p i) noSet) = q
    unfold smpE
    rw [show sampleV ((cutL (attrL all i)).getD (p i) noSet) = some q from hq]; rfl
  have ew : hasP (b.get i) (e.get i) = hasP (b.get i) q := cell_whole (cut_of (hI i hi)) (mem_attr hb i) (hr i hi) (i := p i) (hp i hi).1 (hp i hi).2 hqh
  rw [e1, ← ew]
  exact hh i hi
theorem spread_take {es : List EvV} {a k : Nat} {l : List SetV} (h : k < es.length) : spreadL (es.take (k + 1)) a l = spreadL (es.take k) a l ++ l.map fun S => (es.getD k evZ).put a (smpE S) := by
  unfold spreadL
  rw [List.take_succ_eq_append_getElem h, List.flatMap_append, List.getD_eq_getElem?_getD, List.getElem?_eq_getElem h]
  simp
theorem take_mapE {f : SetV → EvV} {l : List SetV} {j : Nat} (h : j < l.length) : (l.take (j + 1)).map f = (l.take j).map f ++ [f (l.getD j noSet)] := by
  rw [List.take_succ_eq_append_getElem h, List.map_append, List.getD_eq_getElem?_getD, List.getElem?_eq_getElem h]
  rfl
theorem spread_part {es : List EvV} {a k j : Nat} {l : List SetV} {f : SetV → EvV} (hk : k < es.length) (hj : j < l.length) (h : es.length * l.length ≤ 5000) : (spreadL (es.take k) a l ++ (l.take j).map f).length ≤ 100000 := by
  rw [List.length_append, spreadL_len, List.length_map, List.length_take, List.length_take]
  have h1 : min k es.length ≤ es.length := Nat.min_le_right _ _
  have h2 := Nat.mul_le_mul_right l.length h1
  have h3 : l.length ≤ es.length * l.length := Nat.le_mul_of_pos_left _ (by omega)
  omega
theorem ev_put_put9 (e : EvV) (k : Nat) (v u : Va) (hk : k < 4) : (e.put k v).put k u = e.put k u := by
  match k, hk with
  | 0, _ => rfl
  | 1, _ => rfl
  | 2, _ => rfl
  | 3, _ => rfl
theorem ownE9_gr {w w' : World} {B g : Nat} {v : Value} {cs : List EvV} (h : OwnE9 w B v cs) (k : w.grownBy w' (some g)) (hne : v.ownBlock ≠ some g) : OwnE9 w' B v cs :=
  ownsRow_gr h k (fun g' e => by intro e2; exact hne (by rw [e, e2]))
end Go.Proofs.YtbaijjclofekcaaGreatDoor
namespace Go.Proofs.YtbaijjclofekcaaGreatDoor
open Go.RowKit
set_option maxHeartbeats 4000000 in
set_option maxRecDepth 100000 in
theorem spread_any (v u : Value) (es : List EvV) (a : Nat) (ha : a < 4) (C : List SetV) (w : World) (HE : Env w) (hv : EvRow9 w v es) (hu : SetsAt w u C) (hfit : ∀ S ∈ C, Fit S) (hN : es.length * C.length ≤ 5000) :
    Calls Tryz.prog 35 #[v, .int .i64 ((a : Nat) : Int), u] w fun r w' => (∃ u', r = .returned u' ∧ OwnE9 w' w.heap.size u' (spreadL es a C)) ∧ Below w.heap.size w w' := by
  have w6 : 2 ≤ w.heap.size := HE.big
  have HE0 := HE
  obtain ⟨hle, aV, capV, rfl, hrowV⟩ := hv
  obtain ⟨aU, capU, rfl, -⟩ := hu.2
  have hul := hu.1
  have D : w.grownBy w none := grown_refl _ _
  go_enter Tryz.func35, Tryz.ntmps35
  refine wp_seq_k (fun K1 hK1 => ?_)
  refine wp_region_lit ?_
  refine wl_yield (o := ⟨_, _, _, _, _, _⟩) (.slice none 0 0) (yl_assign (by rfl) _ rfl _ rfl) ?_
  simp only [Act.put, lzA, lzB, lzC]
  refine wpList_nil ?_
  refine hK1 _ _ ?_
  clear hK1 K1
  refine wp_seq_k (fun K2 hK2 => ?_)
  refine wp_region_lit ?_
  refine wl_yield (o := ⟨_, _, _, _, _, _⟩) (.slice aV es.length capV) (yl_move (by rfl) _ rfl _ rfl) ?_
  simp only [Act.put, lzA, lzB, lzC]
  refine wl_yield (o := ⟨_, _, _, _, _, _⟩) (.int .i64 (es.length : Nat)) (yt_lenV (by rfl) _ rfl aV es.length capV rfl) ?_
  simp only [Act.put, lzA, lzB, lzC]
  refine wl_yield (o := ⟨_, _, _, _, _, _⟩) (.slice aU C.length capU) (yl_move (by rfl) _ rfl _ rfl) ?_
  simp only [Act.put, lzA, lzB, lzC]
  refine wl_yield (o := ⟨_, _, _, _, _, _⟩) (.int .i64 (C.length : Nat)) (yt_lenQ (by rfl) _ rfl aU C.length capU rfl) ?_
  simp only [Act.put, lzA, lzB, lzC]
  refine wl_yield (o := ⟨_, _, _, _, _, _⟩) (.int .i64 (es.length * C.length : Nat)) (yq_mulI (by rfl) _ _ _ rfl ((es.length : Nat) : Int) ((C.length : Nat) : Int) ((es.length * C.length : Nat) : Int) rfl rfl (by omega) (by omega) (by omega)) ?_
  simp only [Act.put, lzA, lzB, lzC]
  refine wq_makeV (o := ⟨_, _, _, _, _, _⟩) (by rfl) _ _ rfl rfl (es.length * C.length) rfl (by omega) (fun v1 g1 hg OV kb => ?_)
  simp only [Act.put, lzA, lzB, lzC]
  clear hg
  replace D := grown_below D kb
  replace HE := HE.on kb
  clear kb
  refine wl_yield (o := ⟨_, _, _, _, _, _⟩) (.slice (some ⟨g1, 0, none⟩) 0 (es.length * C.length)) (yl_assign (by rfl) _ rfl _ rfl) ?_
  simp only [Act.put, lzA, lzB, lzC]
  refine wpList_nil ?_
  refine hK2 _ _ ?_
  clear hK2 K2
  refine wp_seq_k (fun K3 hK3 => ?_)
  refine wp_seq_k (fun K4 hK4 => ?_)
  refine wp_region_lit ?_
  refine wl_yield (o := ⟨_, _, _, _, _, _⟩) (.slice aV es.length capV) (yl_move (by rfl) _ rfl _ rfl) ?_
  simp only [Act.put, lzA, lzB, lzC]
  refine wl_yield (o := ⟨_, _, _, _, _, _⟩) (.int .i64 (es.length : Nat)) (yt_lenV (by rfl) _ rfl aV es.length capV rfl) ?_
  simp only [Act.put, lzA, lzB, lzC]
  refine wl_yield (o := ⟨_, _, _, _, _, _⟩) (.int .i64 0) (yl_move (by rfl) _ rfl _ rfl) ?_
  simp only [Act.put, lzA, lzB, lzC]
  refine wpList_nil ?_
  refine hK4 _ _ ?_
  clear hK4 K4
  refine wp_block ?_
  go_loopw [7, 20] (fun x i wr => ∃ (k : Nat), i = .int .i64 ((k : Nat) : Int) ∧ k ≤ es.length ∧ OwnE9 wr w.heap.size x (spreadL (es.take k) a C) ∧ Env wr ∧ w.grownBy wr none) (fun _ i _ => es.length - (intOf i).toNat)
  case atStart => exact ⟨0, rfl, Nat.zero_le _, OV, HE, D⟩
  case round =>
    clear D HE OV
    obtain ⟨k, rfl, hk, OV, HE, D⟩ := hrel
    by_cases hlt : k < es.length
    · obtain ⟨gV, oV, rfl, hgV, hrV⟩ := hrowV k hlt
      generalize he9 : es.getD k evZ = e at hrV
      have cellV := fun (W : World) (D : w.grownBy W none) => evRow_cells (rangeAt_on hrV ((below_none D).block gV hgV))
      refine wp_seq_k (fun K5 hK5 => ?_)
      refine wp_region_lit ?_
      refine wl_yield (o := ⟨_, _, _, _, _, _⟩) (.bool true) (yt_lssI (by rfl) _ _ _ rfl ((k : Nat) : Int) ((es.length : Nat) : Int) true rfl rfl (decide_eq_true (by omega))) ?_
      simp only [Act.put, lzA, lzB, lzC]
      refine wpList_nil ?_
      refine hK5 _ _ ?_
      clear hK5 K5
      refine wp_seq_k (fun K6 hK6 => ?_)
      refine wp_cond_true rfl ?_
      refine wp_skip ?_
      refine hK6 _ _ ?_
      clear hK6 K6
      refine wp_seq_k (fun K7 hK7 => ?_)
      refine wp_block ?_
      refine wp_seq_k (fun K8 hK8 => ?_)
      refine wp_region_lit ?_
      refine wl_yield (o := ⟨_, _, _, _, _, _⟩) (.pointer (some ⟨gV, oV + k * 12, none⟩)) (yt_atV (by rfl) _ _ rfl gV oV _ _ k rfl rfl (hlt)) ?_
      simp only [Act.put, lzA, lzB, lzC]
      refine wl_yield (o := ⟨_, _, _, _, _, _⟩) (evVal e) (yl_ev (by rfl) _ rfl _ _ rfl _ _ _ _ _ _ _ _ _ _ _ _ (fun _ h => by subst h; exact cellV _ D)) ?_
      simp only [Act.put, lzA, lzB, lzC]
      refine wt_allocEv (o := ⟨_, _, _, _, _, _⟩) (by rfl) rfl (fun v2 g2 hg G2 kb => ?_)
      simp only [Act.put, lzA, lzB, lzC]
      have nV_g2 : u7.ownBlock ≠ some g2 := fun h => by have := (World.ownsRow.lt OV _ h).2; omega
      have ge_g2 : w.heap.size ≤ g2 := Nat.le_trans D.size hg
      have six_g2 : 2 ≤ g2 := Nat.le_trans w6 ge_g2
      clear hg
      replace D := grown_below D kb
      replace HE := HE.on kb
      replace OV := OwnE9.on OV kb
      clear kb
      replace G2 : v2.heap[g2]? = some (.cells #[.int .i64 0, .int .i64 0, .string (bs ([])), .int .i64 0, .int .i64 0, .string (bs ([])), .int .i64 0, .int .i64 0, .string (bs ([])), .int .i64 0, .int .i64 0, .string (bs ([]))] 26 (0, 0)) := G2
      refine wt_putEv (o := ⟨_, _, _, _, _, _⟩) rfl _ _ rfl _ rfl (e) rfl G2 rfl (fun v3 X kg => ?_)
      simp only [Act.put, lzA, lzB, lzC]
      replace D := gr_new D ge_g2 kg
      replace HE := Env.gr HE kg six_g2
      replace OV := ownE9_gr OV kg nV_g2
      clear kg
      replace G2 : v3.heap[g2]? = some (.cells #[.int .i64 (e.v0.1), .int .i64 (e.v0.2.1), .string e.v0.2.2, .int .i64 (e.v1.1), .int .i64 (e.v1.2.1), .string e.v1.2.2, .int .i64 (e.v2.1), .int .i64 (e.v2.2.1), .string e.v2.2.2, .int .i64 (e.v3.1), .int .i64 (e.v3.2.1), .string e.v3.2.2] 26 (0, 0)) := X
      clear X
      refine wpList_nil ?_
      refine hK8 _ _ ?_
      clear hK8 K8
      refine wp_seq_k (fun K9 hK9 => ?_)
      refine wp_region_lit ?_
      refine wl_yield (o := ⟨_, _, _, _, _, _⟩) (.slice aU C.length capU) (yl_move (by rfl) _ rfl _ rfl) ?_
      simp only [Act.put, lzA, lzB, lzC]
      refine wl_yield (o := ⟨_, _, _, _, _, _⟩) (.int .i64 (C.length : Nat)) (yt_lenQ (by rfl) _ rfl aU C.length capU rfl) ?_
      simp only [Act.put, lzA, lzB, lzC]
      refine wl_yield (o := ⟨_, _, _, _, _, _⟩) (.int .i64 0) (yl_move (by rfl) _ rfl _ rfl) ?_
      simp only [Act.put, lzA, lzB, lzC]
      refine wpList_nil ?_
      refine hK9 _ _ ?_
      clear hK9 K9
      refine wp_block ?_
      go_loopw [7, 26] (fun x i wr => ∃ (j : Nat) (e' : EvV), i = .int .i64 ((j : Nat) : Int) ∧ j ≤ C.length ∧ OwnE9 wr w.heap.size x (spreadL (es.take k) a C ++ (C.take j).map (fun S => EvV.put e a (smpE S))) ∧ x.ownBlock ≠ some g2 ∧ wr.heap[g2]? = some (evObj e') ∧ (∀ z, EvV.put e' a z = EvV.put e a z) ∧ Env wr ∧ w.grownBy wr none) (fun _ i _ => C.length - (intOf i).toNat)
      case atStart => exact ⟨0, e, rfl, Nat.zero_le _, by rw [List.take_zero, List.map_nil, List.append_nil]; exact OV, nV_g2, G2, fun _ => rfl, HE, D⟩
      case round =>
        clear D HE OV nV_g2 G2
        obtain ⟨j, e', rfl, hj, OV, nV_g2, G2, hpp, HE, D⟩ := hrel
        have hjj := hj
        by_cases hlj : j < C.length
        · have hlP := spread_part (a := a) (f := (fun S => EvV.put e a (smpE S))) hlt hlj hN
          have hfk := hfit _ (gD_mem (d := noSet) hlj)
          obtain ⟨gA, oA, vi', vs', rfl, hgA, A0, A1, A2, A3, hI9, hT9⟩ := hu.at.2 j hlj
          have cellA := fun (W : World) (D : w.grownBy W none) (j : Nat) => (below_none D).cell (p := ⟨gA, j, none⟩) hgA
          obtain ⟨ai', ci', rfl⟩ := hI9.form
          obtain ⟨az', cz', rfl⟩ := hT9.form
          generalize hX9 : C.getD j noSet = Y9 at A0 A1 A2 A3 hI9 hT9 hfk
          refine wp_seq_k (fun K10 hK10 => ?_)
          refine wp_region_lit ?_
          refine wl_yield (o := ⟨_, _, _, _, _, _⟩) (.bool true) (yt_lssI (by rfl) _ _ _ rfl ((j : Nat) : Int) ((C.length : Nat) : Int) true rfl rfl (decide_eq_true (by omega))) ?_
          simp only [Act.put, lzA, lzB, lzC]
          refine wpList_nil ?_
          refine hK10 _ _ ?_
          clear hK10 K10
          refine wp_seq_k (fun K11 hK11 => ?_)
          refine wp_cond_true rfl ?_
          refine wp_skip ?_
          refine hK11 _ _ ?_
          clear hK11 K11
          refine wp_seq_k (fun K12 hK12 => ?_)
          refine wp_block ?_
          refine wp_seq_k (fun K13 hK13 => ?_)
          refine wp_region_lit ?_
          refine wl_yield (o := ⟨_, _, _, _, _, _⟩) (.pointer (some ⟨gA, oA + j * 4, none⟩)) (yt_atQ (by rfl) _ _ rfl gA oA _ _ j rfl rfl (hlj)) ?_
          simp only [Act.put, lzA, lzB, lzC]
          refine wl_yield (o := ⟨_, _, _, _, _, _⟩) (.agg #[.bool (Y9.absent), .slice ai' Y9.ints.length ci', .bool (Y9.co), .slice az' Y9.strs.length cz']) (yl_set (by rfl) _ rfl _ _ rfl _ _ _ _ (fun _ h => by subst h; exact ⟨(cellA _ D _).trans A0, (cellA _ D _).trans A1, (cellA _ D _).trans A2, (cellA _ D _).trans A3⟩)) ?_
          simp only [Act.put, lzA, lzB, lzC]
          refine wt_allocSt (o := ⟨_, _, _, _, _, _⟩) (by rfl) rfl (fun v4 g4 hg G4 kb => ?_)
          simp only [Act.put, lzA, lzB, lzC]
          have nV_g4 : u7.ownBlock ≠ some g4 := fun h => by have := (World.ownsRow.lt OV _ h).2; omega
          have n_g2_g4 : g2 ≠ g4 := by have := lt_heap G2; omega
          have ge_g4 : w.heap.size ≤ g4 := Nat.le_trans D.size hg
          have six_g4 : 2 ≤ g4 := Nat.le_trans w6 ge_g4
          clear hg
          replace D := grown_below D kb
          replace HE := HE.on kb
          replace OV := OwnE9.on OV kb
          replace G2 := heap_on G2 kb
          clear kb
          replace G4 : v4.heap[g4]? = some (.cells #[.bool false, .slice none 0 0, .bool false, .slice none 0 0] 43 (0, 0)) := G4
          refine wt_putSt (o := ⟨_, _, _, _, _, _⟩) rfl _ _ rfl _ rfl (⟨Y9.absent, ai', Y9.ints.length, ci', Y9.co, az', Y9.strs.length, cz'⟩) rfl G4 rfl (fun v5 X kg => ?_)
          simp only [Act.put, lzA, lzB, lzC]
          replace D := gr_new D ge_g4 kg
          replace HE := Env.gr HE kg six_g4
          replace OV := ownE9_gr OV kg nV_g4
          replace G2 := heap_gr G2 kg n_g2_g4
          clear kg
          replace G4 : v5.heap[g4]? = some (.cells #[.bool (Y9.absent), .slice ai' Y9.ints.length ci', .bool (Y9.co), .slice az' Y9.strs.length cz'] 43 (0, 0)) := X
          clear X
          refine wpList_nil ?_
          refine hK13 _ _ ?_
          clear hK13 K13
          refine wp_seq_k (fun K14 hK14 => ?_)
          refine wp_region_lit ?_
          refine wl_yield (o := ⟨_, _, _, _, _, _⟩) (.int .i64 (a : Nat)) (yl_move (by rfl) _ rfl _ rfl) ?_
          simp only [Act.put, lzA, lzB, lzC]
          refine wl_yield (o := ⟨_, _, _, _, _, _⟩) (.agg #[.bool (Y9.absent), .slice ai' Y9.ints.length ci', .bool (Y9.co), .slice az' Y9.strs.length cz']) (yl_set (by rfl) _ rfl _ 0 rfl _ _ _ _ (fun _ h => by subst h; exact ⟨cell_heap G4 0, cell_heap G4 1, cell_heap G4 2, cell_heap G4 3⟩)) ?_
          simp only [Act.put, lzA, lzB, lzC]
          refine wt_call (o := ⟨_, _, _, _, _, _⟩) (by rfl) 15 _ _ rfl #[.agg #[.bool (Y9.absent), .slice ai' Y9.ints.length ci', .bool (Y9.co), .slice az' Y9.strs.length cz']] rfl (run_call Tryz.func15 (by kernel_rfl) (by kernel_rfl)) ?_
          refine (sample_any _ Y9 _ HE (show SetAt _ (SC.val ⟨Y9.absent, ai', Y9.ints.length, ci', Y9.co, az', Y9.strs.length, cz'⟩) Y9 from ⟨_, _, rfl, hI9.on (below_none D), hT9.on (below_none D)⟩) (fun _ => hfk)).mono ?_
          rintro r v6 (⟨rfl, kb⟩)
          · replace D := grown_below D kb
            replace HE := HE.on kb
            replace OV := OwnE9.on OV kb
            replace G2 := heap_on G2 kb
            replace G4 := heap_on G4 kb
            clear kb
            refine Or.inl ⟨.tuple #[vVal (smpE Y9), .bool ((sampleV Y9).isSome)], rfl, ?_⟩
            simp only [Act.put, lzA, lzB, lzC]
            refine wl_yield (o := ⟨_, _, _, _, _, _⟩) (.tuple #[vVal (smpE Y9), .bool ((sampleV Y9).isSome)]) (yl_move (by rfl) _ rfl _ rfl) ?_
            simp only [Act.put, lzA, lzB, lzC]
            refine wl_yield (o := ⟨_, _, _, _, _, _⟩) (vVal (smpE Y9)) (yl_extract0 (by rfl) _ rfl _ _ rfl) ?_
            simp only [Act.put, lzA, lzB, lzC]
            refine wl_yield (o := ⟨_, _, _, _, _, _⟩) (.bool ((sampleV Y9).isSome)) (yl_extract1 (by rfl) _ rfl _ _ rfl) ?_
            simp only [Act.put, lzA, lzB, lzC]
            refine wl_yield (o := ⟨_, _, _, _, _, _⟩) (.pointer (some ⟨g2, a * 3, none⟩)) (yl_atEv (by rfl) _ _ rfl g2 a rfl rfl (ha)) ?_
            simp only [Act.put, lzA, lzB, lzC]
            refine wt_putEv1 (o := ⟨_, _, _, _, _, _⟩) rfl _ _ rfl g2 a ha rfl (smpE Y9) rfl (e := e') G2 (fun v7 X kg => ?_)
            simp only [Act.put, lzA, lzB, lzC]
            replace D := gr_new D ge_g2 kg
            replace HE := Env.gr HE kg six_g2
            replace OV := ownE9_gr OV kg nV_g2
            replace G4 := heap_gr G4 kg (Ne.symm n_g2_g4)
            clear kg
            obtain ⟨e9, he99⟩ : ∃ e9, e9 = EvV.put e a (smpE Y9) := ⟨_, rfl⟩
            rw [hpp, ← he99] at X
            replace G2 : v7.heap[g2]? = some (evObj e9) := X
            clear X
            refine wpList_nil ?_
            refine hK14 _ _ ?_
            clear hK14 K14
            refine wp_region_lit ?_
            refine wl_yield (o := ⟨_, _, _, _, _, _⟩) (u7) (yl_move (by rfl) _ rfl _ rfl) ?_
            simp only [Act.put, lzA, lzB, lzC]
            refine wl_yield (o := ⟨_, _, _, _, _, _⟩) (evVal e9) (yl_ev (by rfl) _ rfl _ 0 rfl _ _ _ _ _ _ _ _ _ _ _ _ (fun _ h => by subst h; exact ⟨cell_heap G2 0, cell_heap G2 1, cell_heap G2 2, cell_heap G2 3, cell_heap G2 4, cell_heap G2 5, cell_heap G2 6, cell_heap G2 7, cell_heap G2 8, cell_heap G2 9, cell_heap G2 10, cell_heap G2 11⟩)) ?_
            simp only [Act.put, lzA, lzB, lzC]
            refine wq_row1V (o := ⟨_, _, _, _, _, _⟩) (by rfl) _ rfl e9 rfl (fun v8 g8 hg G8 kb => ?_)
            simp only [Act.put, lzA, lzB, lzC]
            have nV_g8 : u7.ownBlock ≠ some g8 := fun h => by have := (World.ownsRow.lt OV _ h).2; omega
            have n_g2_g8 : g2 ≠ g8 := by have := lt_heap G2; omega
            have n_g4_g8 : g4 ≠ g8 := by have := lt_heap G4; omega
            have ge_g8 : w.heap.size ≤ g8 := Nat.le_trans D.size hg
            have six_g8 : 2 ≤ g8 := Nat.le_trans w6 ge_g8
            clear hg
            replace D := grown_below D kb
            replace HE := HE.on kb
            replace OV := OwnE9.on OV kb
            replace G2 := heap_on G2 kb
            replace G4 := heap_on G4 kb
            clear kb
            refine wq_appV (o := ⟨_, _, _, _, _, _⟩) rfl _ _ rfl w.heap.size _ _ rfl OV g8 e9 rfl G8 hlP D.size (fun v9' v9 OV' kg hloc => ?_)
            simp only [Act.put, lzA, lzB, lzC]
            have NE' : v9'.ownBlock ≠ some g2 := by
              rcases hloc with h | h
              · rw [h]; exact nV_g2
              · rw [h]; intro e2; have e3 := Option.some.inj e2; have := lt_heap G2; omega
            replace HE := HE.below (by have := HE0.big; omega) ((Below.refl _ _).grown kg D.size (fun k hk => (World.ownsRow.lt OV k hk).1))
            replace G2 := heap_gro G2 kg nV_g2
            replace D := gr_own D (fun g hg => (World.ownsRow.lt OV g hg).1) kg
            replace OV := OV'
            replace nV_g2 := NE'
            clear OV' NE' kg hloc
            refine wl_yield (o := ⟨_, _, _, _, _, _⟩) (v9') (yl_assign (by rfl) _ rfl _ rfl) ?_
            simp only [Act.put, lzA, lzB, lzC]
            refine wpList_nil ?_
            refine hK12 _ _ ?_
            clear hK12 K12
            refine wp_region_lit ?_
            refine wl_yield (o := ⟨_, _, _, _, _, _⟩) (.int .i64 (j + 1 : Nat)) (yt_addI (by rfl) _ _ _ rfl ((j : Nat) : Int) 1 ((j + 1 : Nat) : Int) rfl rfl (by omega) (by omega) (by omega)) ?_
            simp only [Act.put, lzA, lzB, lzC]
            refine wl_yield (o := ⟨_, _, _, _, _, _⟩) (.int .i64 (j + 1 : Nat)) (yl_move (by rfl) _ rfl _ rfl) ?_
            simp only [Act.put, lzA, lzB, lzC]
            refine wpList_nil ?_
            show _ ∧ _
            go_roundw
            case rel => exact ⟨j + 1, e9, rfl, by omega, by rw [take_mapE hlj, hX9, ← List.append_assoc, ← he99]; exact OV, nV_g2, G2, (fun z => by rw [he99]; exact ev_put_put9 _ _ _ _ ha), HE, D⟩
            case measure => simp [intOf]; omega
        · obtain rfl : j = C.length := by omega
          rw [List.take_length] at OV
          refine wp_seq_k (fun K10 hK10 => ?_)
          refine wp_region_lit ?_
          refine wl_yield (o := ⟨_, _, _, _, _, _⟩) (.bool false) (yt_lssI (by rfl) _ _ _ rfl ((C.length : Nat) : Int) ((C.length : Nat) : Int) false rfl rfl (decide_eq_false (by omega))) ?_
          simp only [Act.put, lzA, lzB, lzC]
          refine wpList_nil ?_
          refine hK10 _ _ ?_
          clear hK10 K10
          refine wp_seq_k (fun K11 hK11 => ?_)
          refine wp_cond_false rfl ?_
          refine wp_exit ?_
          refine hK7 _ _ ?_
          clear hK11 K11 hK7 K7
          refine wp_region_lit ?_
          refine wl_yield (o := ⟨_, _, _, _, _, _⟩) (.int .i64 (k + 1 : Nat)) (yt_addI (by rfl) _ _ _ rfl ((k : Nat) : Int) 1 ((k + 1 : Nat) : Int) rfl rfl (by omega) (by omega) (by omega)) ?_
          simp only [Act.put, lzA, lzB, lzC]
          refine wl_yield (o := ⟨_, _, _, _, _, _⟩) (.int .i64 (k + 1 : Nat)) (yl_move (by rfl) _ rfl _ rfl) ?_
          simp only [Act.put, lzA, lzB, lzC]
          refine wpList_nil ?_
          show _ ∧ _
          go_roundw
          case rel => exact ⟨k + 1, rfl, by omega, by rw [spread_take hlt, he9]; exact OV, HE, D⟩
          case measure => simp [intOf]; omega
    · obtain rfl : k = es.length := by omega
      rw [List.take_length] at OV
      refine wp_seq_k (fun K5 hK5 => ?_)
      refine wp_region_lit ?_
      refine wl_yield (o := ⟨_, _, _, _, _, _⟩) (.bool false) (yt_lssI (by rfl) _ _ _ rfl ((es.length : Nat) : Int) ((es.length : Nat) : Int) false rfl rfl (decide_eq_false (by omega))) ?_
      simp only [Act.put, lzA, lzB, lzC]
      refine wpList_nil ?_
      refine hK5 _ _ ?_
      clear hK5 K5
      refine wp_seq_k (fun K6 hK6 => ?_)
      refine wp_cond_false rfl ?_
      refine wp_exit ?_
      refine hK3 _ _ ?_
      clear hK6 K6 hK3 K3
      refine wp_seq_k (fun K7 hK7 => ?_)
      refine wp_region_lit ?_
      refine wl_yield (o := ⟨_, _, _, _, _, _⟩) (u7) (yl_move (by rfl) _ rfl _ rfl) ?_
      simp only [Act.put, lzA, lzB, lzC]
      refine wl_yield (o := ⟨_, _, _, _, _, _⟩) (u7) (yl_assign (by rfl) _ rfl _ rfl) ?_
      simp only [Act.put, lzA, lzB, lzC]
      refine wpList_nil ?_
      refine hK7 _ _ ?_
      clear hK7 K7
      refine wp_ret ?_
      try simp only [Exit.inBlock, Exit.then]
      go_ret
      exact ⟨⟨_, rfl, OV⟩, below_none D⟩
end Go.Proofs.YtbaijjclofekcaaGreatDoor
namespace Go.Proofs.YtbaijjclofekcaaGreatDoor
open Go.RowKit
theorem ownE9_one {w : World} {g B : Nat} {e : EvV} (h : EvIn w g e) (hB : B ≤ g) : OwnE9 w B (.slice (some ⟨g, 0, none⟩) 1 1) [e] :=
  ownE9_of (cs := [e]) h hB (Nat.le_refl _) (by unfold maxLen; omega) rfl (fun i hi => by
    have : i = 0 := by simpa using hi
    subst this
    intro j u hj
    rw [Nat.zero_mul, Nat.zero_add]
    exact evIn_one h j u hj)
section
variable {ops : Array Oper} {S : World → Prop} {o : Oper} {a : Act}
set_option maxRecDepth 100000 in
theorem yw_zeroE (hw : Region.wanted o (yielded ops a.tmps) = true) (ho : o.op = .build 26 #[]) : YieldsIf Tryz.prog ops S o (evVal evZ) a :=
  Or.inl ⟨hw, fun w _ => by
    simp only [execOp, ho, List.map_toArray, List.map_cons, List.map_nil, evVal, evZ, vaZ]
    go_simp⟩
end
theorem evs_pos {C : Nat → List SetV} (h : ∀ j, j < 4 → 3 ≤ (C j).length) (hc : cntU (fun j => (C j).length) 4 ≤ 5000) {k : Nat} (hk : k < 4) : (evsL C k).length * (C k).length ≤ 5000 := by
  have := prod_few (ns := fun j => (C j).length) (fun j hj => by have := h j hj; show 1 ≤ (C j).length; omega) hc (k := k + 1) (by omega)
  rw [evsL_len]
  exact this
theorem evs_few {C : Nat → List SetV} (h : ∀ j, j < 4 → 3 ≤ (C j).length) (hc : cntU (fun j => (C j).length) 4 ≤ 5000) {k : Nat} (hk : k ≤ 4) : (evsL C k).length ≤ 5000 := by
  rw [evsL_len]
  exact prod_few (ns := fun j => (C j).length) (fun j hj => by have := h j hj; show 1 ≤ (C j).length; omega) hc hk
set_option maxHeartbeats 4000000 in
set_option maxRecDepth 100000 in
theorem events_any (M b : Nat) (l : Nat → List SetV) (w : World) (HE : Env w) (hb2 : 2 ≤ b) (OK : GridM M w b l) (hf : ∀ j, j < 4 → FewC (l j)) (hI : ∀ j, j < 4 → InL (l j)) (hMw : M ≤ w.heap.size) (hc : cntU (fun j => (cutL (l j)).length) 4 ≤ 5000) :
    Calls Tryz.prog 17 #[.pointer (some ⟨b, 0, none⟩)] w fun r w' => (∃ u, r = .returned u ∧ OwnE9 w' w.heap.size u (evsL (fun j => cutL (l j)) 4)) ∧ GridL M w' b l ∧ w.grownBy w' (some b) := by
  have w6 : 2 ≤ w.heap.size := HE.big
  have hbw := GridM.lt OK
  have h3 : ∀ j, j < 4 → 3 ≤ (cutL (l j)).length := fun j _ => cutL_len (l j)
  have D : w.grownBy w (some b) := grown_refl _ _
  go_enter Tryz.func17, Tryz.ntmps17
  refine wp_seq_k (fun K1 hK1 => ?_)
  refine wp_region_lit ?_
  refine wl_yield (o := ⟨_, _, _, _, _, _⟩) (.slice none 0 0) (yl_assign (by rfl) _ rfl _ rfl) ?_
  simp only [Act.put, lzA, lzB, lzC]
  refine wpList_nil ?_
  refine hK1 _ _ ?_
  clear hK1 K1
  refine wp_seq_k (fun K2 hK2 => ?_)
  refine wp_seq_k (fun K3 hK3 => ?_)
  refine wp_region_lit ?_
  refine wl_yield (o := ⟨_, _, _, _, _, _⟩) (.pointer (some ⟨b, 0, none⟩)) (yl_move (by rfl) _ rfl _ rfl) ?_
  simp only [Act.put, lzA, lzB, lzC]
  refine wt_call (o := ⟨_, _, _, _, _, _⟩) (by rfl) 11 _ _ rfl #[.pointer (some ⟨b, 0, none⟩)] rfl (run_call Tryz.func11 (by kernel_rfl) (by kernel_rfl)) ?_
  refine (countM_any M b l _ OK hf (Nat.le_trans hMw D.size)).mono ?_
  rintro r v1 (⟨rfl, GL, kg⟩)
  · have six_b := hb2
    replace HE := Env.gr HE kg six_b
    replace D := grown_trans D kg
    clear OK
    have OK := GL
    clear GL kg
    refine Or.inl ⟨.int .i64 (cntU (fun j => (cutL (l j)).length) 4 : Nat), rfl, ?_⟩
    simp only [Act.put, lzA, lzB, lzC]
    refine wl_yield (o := ⟨_, _, _, _, _, _⟩) (.bool false) (yt_gtrI (by rfl) _ _ _ rfl ((cntU (fun j => (cutL (l j)).length) 4 : Nat) : Int) 5000 false rfl rfl (decide_eq_false (by omega))) ?_
    simp only [Act.put, lzA, lzB, lzC]
    refine wpList_nil ?_
    refine hK3 _ _ ?_
    clear hK3 K3
    refine wp_cond_false rfl ?_
    refine wp_skip ?_
    refine hK2 _ _ ?_
    clear hK2 K2
    refine wp_seq_k (fun K4 hK4 => ?_)
    refine wp_region_lit ?_
    refine wl_yield (o := ⟨_, _, _, _, _, _⟩) (evVal evZ) (yw_zeroE (by rfl) rfl) ?_
    simp only [Act.put, lzA, lzB, lzC]
    refine wq_row1V (o := ⟨_, _, _, _, _, _⟩) (by rfl) _ rfl evZ rfl (fun v2 g2 hg G2 kb => ?_)
    simp only [Act.put, lzA, lzB, lzC]
    have ge_g2 := Nat.le_trans D.size hg
    clear hg
    replace D := grown_below D kb
    replace HE := HE.on kb
    replace OK := OK.on kb
    clear kb
    have OV : OwnE9 v2 w.heap.size (.slice (some ⟨g2, 0, none⟩) 1 1) (evsL (fun j => cutL (l j)) 0) := ownE9_one G2 ge_g2
    clear G2
    refine wl_yield (o := ⟨_, _, _, _, _, _⟩) (.slice (some ⟨g2, 0, none⟩) 1 1) (yl_assign (by rfl) _ rfl _ rfl) ?_
    simp only [Act.put, lzA, lzB, lzC]
    refine wpList_nil ?_
    refine hK4 _ _ ?_
    clear hK4 K4
    refine wp_seq_k (fun K5 hK5 => ?_)
    refine wp_seq_k (fun K6 hK6 => ?_)
    refine wp_region_lit ?_
    refine wl_yield (o := ⟨_, _, _, _, _, _⟩) (.pointer (some ⟨b, 0, none⟩)) (yl_move (by rfl) _ rfl _ rfl) ?_
    simp only [Act.put, lzA, lzB, lzC]
    have hne9 : b ≠ g2 := by have := hbw; omega
    refine wt_call (o := ⟨_, _, _, _, _, _⟩) (by rfl) 27 _ _ rfl #[.pointer (some ⟨b, 0, none⟩)] rfl (run_call Tryz.func27 (by kernel_rfl) (by kernel_rfl)) ?_
    refine (laid_any M b l _ OK.ok hf (Nat.le_trans hMw D.size)).mono ?_
    rintro r v3 (⟨⟨c', rfl, NC, GL⟩, kg⟩)
    · have hbg : b ≠ g2 := hne9
      replace OV := ownE9_gr OV kg (fun e => hbg (Option.some.inj e).symm)
      have six_b := hb2
      replace HE := Env.gr HE kg six_b
      replace D := grown_trans D kg
      clear OK
      have OK := GL
      clear GL kg
      have hn : ∀ j, j < 4 → (c' j).n = (cutL (l j)).length := fun j hj => by
        obtain ⟨q, e1, e2⟩ := (NC j hj).form
        have : (c' j).n = q.n := by unfold Sl.val at e1; injection e1
        omega
      have D2 : v3.grownBy v3 none := grown_refl _ _
      have OK2 := OK
      clear OK
      refine Or.inl ⟨.agg #[(c' 0).val, (c' 1).val, (c' 2).val, (c' 3).val], rfl, ?_⟩
      simp only [Act.put, lzA, lzB, lzC]
      refine wl_yield (o := ⟨_, _, _, _, _, _⟩) (.int .i64 0) (yl_move (by rfl) _ rfl _ rfl) ?_
      simp only [Act.put, lzA, lzB, lzC]
      refine wpList_nil ?_
      refine hK6 _ _ ?_
      clear hK6 K6
      refine wp_block ?_
      go_loopw [3, 13] (fun x i wr => ∃ (k : Nat), i = .int .i64 ((k : Nat) : Int) ∧ k ≤ 4 ∧ OwnE9 wr w.heap.size x (evsL (fun j => cutL (l j)) k) ∧ Env wr ∧ v3.grownBy wr none ∧ w.grownBy wr (some b)) (fun _ i _ => 4 - (intOf i).toNat)
      case atStart => exact ⟨0, rfl, Nat.zero_le _, OV, HE, D2, D⟩
      case round =>
        clear D D2 HE OV
        obtain ⟨k, rfl, hk, OV, HE, D2, D⟩ := hrel
        by_cases hlt : k < 4
        · refine wp_seq_k (fun K7 hK7 => ?_)
          refine wp_region_lit ?_
          refine wl_yield (o := ⟨_, _, _, _, _, _⟩) (.bool true) (yt_lssI (by rfl) _ _ _ rfl ((k : Nat) : Int) 4 true rfl rfl (decide_eq_true (by omega))) ?_
          simp only [Act.put, lzA, lzB, lzC]
          refine wpList_nil ?_
          refine hK7 _ _ ?_
          clear hK7 K7
          refine wp_seq_k (fun K8 hK8 => ?_)
          refine wp_cond_true rfl ?_
          refine wp_skip ?_
          refine hK8 _ _ ?_
          clear hK8 K8
          refine wp_seq_k (fun K9 hK9 => ?_)
          refine wp_block ?_
          refine wp_seq_k (fun K10 hK10 => ?_)
          refine wp_region_lit ?_
          refine wl_yield (o := ⟨_, _, _, _, _, _⟩) (.int .i64 (k : Nat)) (yl_move (by rfl) _ rfl _ rfl) ?_
          simp only [Act.put, lzA, lzB, lzC]
          refine wl_yield (o := ⟨_, _, _, _, _, _⟩) (Sl.val (c' k)) (yq_ix4 (by rfl) _ _ rfl c' k hlt rfl rfl) ?_
          simp only [Act.put, lzA, lzB, lzC]
          refine wl_yield (o := ⟨_, _, _, _, _, _⟩) (.int .i64 (k : Nat)) (yl_assign (by rfl) _ rfl _ rfl) ?_
          simp only [Act.put, lzA, lzB, lzC]
          refine wl_yield (o := ⟨_, _, _, _, _, _⟩) (Sl.val (c' k)) (yl_assign (by rfl) _ rfl _ rfl) ?_
          simp only [Act.put, lzA, lzB, lzC]
          refine wpList_nil ?_
          refine hK10 _ _ ?_
          clear hK10 K10
          refine wp_region_lit ?_
          refine wl_yield (o := ⟨_, _, _, _, _, _⟩) (u3) (yl_move (by rfl) _ rfl _ rfl) ?_
          simp only [Act.put, lzA, lzB, lzC]
          refine wl_yield (o := ⟨_, _, _, _, _, _⟩) (.int .i64 (k : Nat)) (yl_move (by rfl) _ rfl _ rfl) ?_
          simp only [Act.put, lzA, lzB, lzC]
          refine wl_yield (o := ⟨_, _, _, _, _, _⟩) (Sl.val (c' k)) (yl_move (by rfl) _ rfl _ rfl) ?_
          simp only [Act.put, lzA, lzB, lzC]
          have hpf := evs_few h3 hc (k := k) (by omega)
          refine wt_call (o := ⟨_, _, _, _, _, _⟩) (by rfl) 35 _ _ rfl #[u3, .int .i64 (k : Nat), Sl.val (c' k)] rfl (run_call Tryz.func35 (by kernel_rfl) (by kernel_rfl)) ?_
          refine (spread_any _ _ (evsL (fun j => cutL (l j)) k) k hlt (cutL (l k)) _ HE (OwnE9.row OV (by omega)) (((NC k hlt).sets (Kept.refl _ _)).on (below_none D2)) (fit_cut (hI k hlt) (hf k hlt)) (evs_pos h3 hc hlt)).mono ?_
          rintro r v4 (⟨⟨u, rfl, OV'⟩, kb⟩)
          · have hm9 := D.size
            replace D := grown_below D kb
            replace HE := HE.on kb
            replace D2 := grown_below D2 kb
            clear kb
            replace OV : OwnE9 v4 w.heap.size u (evsL (fun j => cutL (l j)) (k + 1)) := OwnE9.mono OV' hm9
            clear OV'
            refine Or.inl ⟨u, rfl, ?_⟩
            simp only [Act.put, lzA, lzB, lzC]
            refine wl_yield (o := ⟨_, _, _, _, _, _⟩) (u) (yl_assign (by rfl) _ rfl _ rfl) ?_
            simp only [Act.put, lzA, lzB, lzC]
            refine wpList_nil ?_
            refine hK9 _ _ ?_
            clear hK9 K9
            refine wp_region_lit ?_
            refine wl_yield (o := ⟨_, _, _, _, _, _⟩) (.int .i64 (k + 1 : Nat)) (yt_addI (by rfl) _ _ _ rfl ((k : Nat) : Int) 1 ((k + 1 : Nat) : Int) rfl rfl (by omega) (by omega) (by omega)) ?_
            simp only [Act.put, lzA, lzB, lzC]
            refine wl_yield (o := ⟨_, _, _, _, _, _⟩) (.int .i64 (k + 1 : Nat)) (yl_move (by rfl) _ rfl _ rfl) ?_
            simp only [Act.put, lzA, lzB, lzC]
            refine wpList_nil ?_
            show _ ∧ _
            go_roundw
            case rel => exact ⟨k + 1, rfl, by omega, OV, HE, D2, D⟩
            case measure => simp [intOf]; omega
        · obtain rfl : k = 4 := by omega
          refine wp_seq_k (fun K7 hK7 => ?_)
          refine wp_region_lit ?_
          refine wl_yield (o := ⟨_, _, _, _, _, _⟩) (.bool false) (yt_lssI (by rfl) _ _ _ rfl ((4 : Nat) : Int) 4 false rfl rfl (decide_eq_false (by omega))) ?_
          simp only [Act.put, lzA, lzB, lzC]
          refine wpList_nil ?_
          refine hK7 _ _ ?_
          clear hK7 K7
          refine wp_seq_k (fun K8 hK8 => ?_)
          refine wp_cond_false rfl ?_
          refine wp_exit ?_
          refine hK5 _ _ ?_
          clear hK8 K8 hK5 K5
          refine wp_seq_k (fun K9 hK9 => ?_)
          refine wp_region_lit ?_
          refine wl_yield (o := ⟨_, _, _, _, _, _⟩) (u3) (yl_move (by rfl) _ rfl _ rfl) ?_
          simp only [Act.put, lzA, lzB, lzC]
          refine wl_yield (o := ⟨_, _, _, _, _, _⟩) (u3) (yl_assign (by rfl) _ rfl _ rfl) ?_
          simp only [Act.put, lzA, lzB, lzC]
          refine wpList_nil ?_
          refine hK9 _ _ ?_
          clear hK9 K9
          refine wp_ret ?_
          try simp only [Exit.inBlock, Exit.then]
          go_ret
          exact ⟨⟨_, rfl, OV⟩, OK2.on (below_none D2), D⟩
end Go.Proofs.YtbaijjclofekcaaGreatDoor
namespace Go.Proofs.YtbaijjclofekcaaGreatDoor
open Go.RowKit
set_option maxHeartbeats 4000000 in
set_option maxRecDepth 100000 in
theorem refEvents9_any (v : Value) (l : List BoxV) (w : World) (hv : Bxs w v l) (hl : l.length ≤ 1000) (hf : ∀ i, i < 4 → FewC (attrL l i)) (hI : ∀ i, i < 4 → InL (attrL l i)) (hc : cntU (fun i => (cutL (attrL l i)).length) 4 ≤ 5000) :
    Calls Tryz.prog 18 #[v] w fun r w' => (∃ u, r = .returned u ∧ OwnE9 w' w.heap.size u (evsL (fun i => cutL (attrL l i)) 4)) ∧ Below w.heap.size w w' := by
  obtain ⟨a0, cap0, rfl⟩ : ∃ a0 cap0, v = .slice a0 l.length cap0 := by
    obtain ⟨cs, ⟨_, a, cap, e, _⟩, HA⟩ := hv
    exact ⟨a, cap, by rw [e, HA.1]⟩
  have h3 : ∀ j, j < 4 → 3 ≤ (cutL (attrL l j)).length := fun j _ => cutL_len (attrL l j)
  have D : w.grownBy w none := grown_refl _ _
  go_enter Tryz.func18, Tryz.ntmps18
  refine wp_seq_k (fun K1 hK1 => ?_)
  refine wp_region_lit ?_
  refine wl_yield (o := ⟨_, _, _, _, _, _⟩) (.slice none 0 0) (yl_assign (by rfl) _ rfl _ rfl) ?_
  simp only [Act.put, lzA, lzB, lzC]
  refine wpList_nil ?_
  refine hK1 _ _ ?_
  clear hK1 K1
  refine wp_seq_k (fun K2 hK2 => ?_)
  refine wp_region_lit ?_
  refine wl_yield (o := ⟨_, _, _, _, _, _⟩) (evVal evZ) (yw_zeroE (by rfl) rfl) ?_
  simp only [Act.put, lzA, lzB, lzC]
  refine wq_row1V (o := ⟨_, _, _, _, _, _⟩) (by rfl) _ rfl evZ rfl (fun v1 g1 hg G1 kb => ?_)
  simp only [Act.put, lzA, lzB, lzC]
  have ge_g1 := Nat.le_trans D.size hg
  clear hg
  replace D := grown_below D kb
  clear kb
  have OU : OwnE9 v1 w.heap.size (.slice (some ⟨g1, 0, none⟩) 1 1) (evsL (fun i => cutL (attrL l i)) 0) := ownE9_one G1 ge_g1
  clear G1
  refine wl_yield (o := ⟨_, _, _, _, _, _⟩) (.slice (some ⟨g1, 0, none⟩) 1 1) (yl_assign (by rfl) _ rfl _ rfl) ?_
  simp only [Act.put, lzA, lzB, lzC]
  refine wpList_nil ?_
  refine hK2 _ _ ?_
  clear hK2 K2
  refine wp_seq_k (fun K3 hK3 => ?_)
  refine wp_seq_k (fun K4 hK4 => ?_)
  refine wp_region_lit ?_
  refine wl_yield (o := ⟨_, _, _, _, _, _⟩) (.int .i64 0) (yl_assign (by rfl) _ rfl _ rfl) ?_
  simp only [Act.put, lzA, lzB, lzC]
  refine wpList_nil ?_
  refine hK4 _ _ ?_
  clear hK4 K4
  refine wp_block ?_
  go_loopw [3, 4] (fun x i wr => ∃ (k : Nat), i = .int .i64 ((k : Nat) : Int) ∧ k ≤ 4 ∧ OwnE9 wr w.heap.size x (evsL (fun i => cutL (attrL l i)) k) ∧ w.grownBy wr none) (fun _ i _ => 4 - (intOf i).toNat)
  case atStart => exact ⟨0, rfl, Nat.zero_le _, OU, D⟩
  case round =>
    clear D OU
    obtain ⟨k, rfl, hk, OU, D⟩ := hrel
    obtain ⟨hleU, aV, capV, rfl, -⟩ := OwnE9.row OU (by have := evs_few h3 hc (k := k) (by omega); omega)
    by_cases hlt : k < 4
    · refine wp_seq_k (fun K5 hK5 => ?_)
      refine wp_seq_k (fun K6 hK6 => ?_)
      refine wp_region_lit ?_
      refine wl_yield (o := ⟨_, _, _, _, _, _⟩) (.int .i64 (k : Nat)) (yl_move (by rfl) _ rfl _ rfl) ?_
      simp only [Act.put, lzA, lzB, lzC]
      refine wl_yield (o := ⟨_, _, _, _, _, _⟩) (.bool true) (yt_lssI (by rfl) _ _ _ rfl ((k : Nat) : Int) 4 true rfl rfl (decide_eq_true (by omega))) ?_
      simp only [Act.put, lzA, lzB, lzC]
      refine wpList_nil ?_
      refine hK6 _ _ ?_
      clear hK6 K6
      refine wp_cond_true rfl ?_
      refine wp_skip ?_
      refine hK5 _ _ ?_
      clear hK5 K5
      refine wp_seq_k (fun K7 hK7 => ?_)
      refine wp_block ?_
      refine wp_seq_k (fun K8 hK8 => ?_)
      refine wp_region_lit ?_
      refine wl_yield (o := ⟨_, _, _, _, _, _⟩) (.slice a0 l.length cap0) (yl_move (by rfl) _ rfl _ rfl) ?_
      simp only [Act.put, lzA, lzB, lzC]
      refine wl_yield (o := ⟨_, _, _, _, _, _⟩) (.int .i64 (k : Nat)) (yl_move (by rfl) _ rfl _ rfl) ?_
      simp only [Act.put, lzA, lzB, lzC]
      refine wt_call (o := ⟨_, _, _, _, _, _⟩) (by rfl) 14 _ _ rfl #[.slice a0 l.length cap0, .int .i64 (k : Nat)] rfl (run_call Tryz.func14 (by kernel_rfl) (by kernel_rfl)) ?_
      refine (refAttr_any _ k hlt l _ (hv.on (below_none D)) (by omega) (hf k hlt)).mono ?_
      rintro r v2 (⟨⟨u9, rfl, HR⟩, kb⟩)
      · replace D := grown_below D kb
        replace OU := OwnE9.on OU kb
        clear kb
        have hrowV := (OwnE9.row OU (by have := evs_few h3 hc (k := k) (by omega); omega)).2
        have hN := evs_pos h3 hc hlt
        have hfit := fit_cut (hI k hlt) (hf k hlt)
        have hkD := D.size
        clear OU
        generalize hEs : evsL (fun i => cutL (attrL l i)) k = es at hrowV hN hleU
        generalize hCs : cutL (attrL l k) = C at HR hfit
        replace hN : es.length * C.length ≤ 5000 := by rw [← hCs]; exact hN
        obtain ⟨aV', capV', hv9, hrowV⟩ := hrowV
        injection hv9 with hv91 hv92 hv93
        subst hv91
        clear hv92 hv93
        obtain ⟨aU, capU, rfl, -⟩ := HR.2
        have D2 : v2.grownBy v2 none := grown_refl _ _
        refine Or.inl ⟨.slice aU C.length capU, rfl, ?_⟩
        simp only [Act.put, lzA, lzB, lzC]
        refine wl_yield (o := ⟨_, _, _, _, _, _⟩) (.slice aU C.length capU) (yl_assign (by rfl) _ rfl _ rfl) ?_
        simp only [Act.put, lzA, lzB, lzC]
        refine wpList_nil ?_
        refine hK8 _ _ ?_
        clear hK8 K8
        refine wp_seq_k (fun K9 hK9 => ?_)
        refine wp_region_lit ?_
        refine wl_yield (o := ⟨_, _, _, _, _, _⟩) (.slice none 0 0) (yl_assign (by rfl) _ rfl _ rfl) ?_
        simp only [Act.put, lzA, lzB, lzC]
        refine wpList_nil ?_
        refine hK9 _ _ ?_
        clear hK9 K9
        refine wp_seq_k (fun K10 hK10 => ?_)
        refine wp_seq_k (fun K11 hK11 => ?_)
        refine wp_region_lit ?_
        refine wl_yield (o := ⟨_, _, _, _, _, _⟩) (.int .i64 0) (yl_assign (by rfl) _ rfl _ rfl) ?_
        simp only [Act.put, lzA, lzB, lzC]
        refine wpList_nil ?_
        refine hK11 _ _ ?_
        clear hK11 K11
        refine wp_block ?_
        have OV : OwnE9 v2 v2.heap.size (.slice none 0 0) (spreadL (es.take 0) k C) := ownE9_nil _ _
        go_loopw [6, 7] (fun x n wr => ∃ (i : Nat), n = .int .i64 ((i : Nat) : Int) ∧ i ≤ es.length ∧ OwnE9 wr v2.heap.size x (spreadL (es.take i) k C) ∧ v2.grownBy wr none ∧ w.grownBy wr none) (fun _ n _ => es.length - (intOf n).toNat)
        case atStart => exact ⟨0, rfl, Nat.zero_le _, OV, D2, D⟩
        case round =>
          clear D D2 OV
          obtain ⟨i, rfl, hi, OV, D2, D⟩ := hrel
          by_cases hli : i < es.length
          · refine wp_seq_k (fun K12 hK12 => ?_)
            refine wp_seq_k (fun K13 hK13 => ?_)
            refine wp_region_lit ?_
            refine wl_yield (o := ⟨_, _, _, _, _, _⟩) (.int .i64 (i : Nat)) (yl_move (by rfl) _ rfl _ rfl) ?_
            simp only [Act.put, lzA, lzB, lzC]
            refine wl_yield (o := ⟨_, _, _, _, _, _⟩) (.slice aV es.length capV) (yl_move (by rfl) _ rfl _ rfl) ?_
            simp only [Act.put, lzA, lzB, lzC]
            refine wl_yield (o := ⟨_, _, _, _, _, _⟩) (.int .i64 (es.length : Nat)) (yt_lenV (by rfl) _ rfl aV es.length capV rfl) ?_
            simp only [Act.put, lzA, lzB, lzC]
            refine wl_yield (o := ⟨_, _, _, _, _, _⟩) (.bool true) (yt_lssI (by rfl) _ _ _ rfl ((i : Nat) : Int) ((es.length : Nat) : Int) true rfl rfl (decide_eq_true (by omega))) ?_
            simp only [Act.put, lzA, lzB, lzC]
            refine wl_yield (o := ⟨_, _, _, _, _, _⟩) (.bool true) (yl_move (by rfl) _ rfl _ rfl) ?_
            simp only [Act.put, lzA, lzB, lzC]
            refine wl_yield (o := ⟨_, _, _, _, _, _⟩) (.slice aV es.length capV) (yl_move (by rfl) _ rfl _ rfl) ?_
            simp only [Act.put, lzA, lzB, lzC]
            refine wl_yield (o := ⟨_, _, _, _, _, _⟩) (.int .i64 (es.length : Nat)) (yt_lenV (by rfl) _ rfl aV es.length capV rfl) ?_
            simp only [Act.put, lzA, lzB, lzC]
            refine wl_yield (o := ⟨_, _, _, _, _, _⟩) (.slice aU C.length capU) (yl_move (by rfl) _ rfl _ rfl) ?_
            simp only [Act.put, lzA, lzB, lzC]
            refine wl_yield (o := ⟨_, _, _, _, _, _⟩) (.int .i64 (C.length : Nat)) (yt_lenQ (by rfl) _ rfl aU C.length capU rfl) ?_
            simp only [Act.put, lzA, lzB, lzC]
            refine wl_yield (o := ⟨_, _, _, _, _, _⟩) (.int .i64 (es.length * C.length : Nat)) (yq_mulI (by rfl) _ _ _ rfl ((es.length : Nat) : Int) ((C.length : Nat) : Int) ((es.length * C.length : Nat) : Int) rfl rfl (by omega) (by omega) (by omega)) ?_
            simp only [Act.put, lzA, lzB, lzC]
            refine wl_yield (o := ⟨_, _, _, _, _, _⟩) (.bool true) (yt_leqI (by rfl) _ _ _ rfl ((es.length * C.length : Nat) : Int) 20000 true rfl rfl (decide_eq_true (by omega))) ?_
            simp only [Act.put, lzA, lzB, lzC]
            refine wl_yield (o := ⟨_, _, _, _, _, _⟩) (.bool true) (yl_pickT (by rfl) _ _ _ rfl rfl _ rfl) ?_
            simp only [Act.put, lzA, lzB, lzC]
            refine wpList_nil ?_
            refine hK13 _ _ ?_
            clear hK13 K13
            refine wp_cond_true rfl ?_
            refine wp_skip ?_
            refine hK12 _ _ ?_
            clear hK12 K12
            refine wp_seq_k (fun K14 hK14 => ?_)
            refine wp_block ?_
            refine wp_seq_k (fun K15 hK15 => ?_)
            refine wp_region_lit ?_
            refine wl_yield (o := ⟨_, _, _, _, _, _⟩) (.int .i64 0) (yl_assign (by rfl) _ rfl _ rfl) ?_
            simp only [Act.put, lzA, lzB, lzC]
            refine wpList_nil ?_
            refine hK15 _ _ ?_
            clear hK15 K15
            refine wp_block ?_
            go_loopw [6, 8] (fun x n wr => ∃ (j : Nat), n = .int .i64 ((j : Nat) : Int) ∧ j ≤ C.length ∧ OwnE9 wr v2.heap.size x (spreadL (es.take i) k C ++ (C.take j).map (fun S => EvV.put (es.getD i evZ) k (smpE S))) ∧ v2.grownBy wr none ∧ w.grownBy wr none) (fun _ n _ => C.length - (intOf n).toNat)
            case atStart => exact ⟨0, rfl, Nat.zero_le _, by rw [List.take_zero, List.map_nil, List.append_nil]; exact OV, D2, D⟩
            case round =>
              clear D D2 OV
              obtain ⟨j, rfl, hj, OV, D2, D⟩ := hrel
              by_cases hlj : j < C.length
              · have hlP := spread_part (a := k) (f := (fun S => EvV.put (es.getD i evZ) k (smpE S))) hli hlj hN
                have hfk := hfit _ (gD_mem (d := noSet) hlj)
                obtain ⟨gV, oV, rfl, hgV, hrV⟩ := hrowV i hli
                have hCl := HR.1
                obtain ⟨e, he9⟩ : ∃ e, e = es.getD i evZ := ⟨_, rfl⟩
                rw [← he9] at hrV
                have cellV := fun (W : World) (D : v2.grownBy W none) => evRow_cells (rangeAt_on hrV ((below_none D).block gV hgV))
                obtain ⟨gA, oA, vi', vs', hU9, hgA, A0, A1, A2, A3, hI9, hT9⟩ := HR.at.2 j hlj
                obtain rfl : aU = _ := hU9
                have cellA := fun (W : World) (D : v2.grownBy W none) (j : Nat) => (below_none D).cell (p := ⟨gA, j, none⟩) hgA
                obtain ⟨ai', ci', rfl⟩ := hI9.form
                obtain ⟨az', cz', rfl⟩ := hT9.form
                generalize hX9 : C.getD j noSet = Y9 at A0 A1 A2 A3 hI9 hT9 hfk
                refine wp_seq_k (fun K16 hK16 => ?_)
                refine wp_seq_k (fun K17 hK17 => ?_)
                refine wp_region_lit ?_
                refine wl_yield (o := ⟨_, _, _, _, _, _⟩) (.int .i64 (j : Nat)) (yl_move (by rfl) _ rfl _ rfl) ?_
                simp only [Act.put, lzA, lzB, lzC]
                refine wl_yield (o := ⟨_, _, _, _, _, _⟩) (.slice (some ⟨gA, oA, none⟩) C.length capU) (yl_move (by rfl) _ rfl _ rfl) ?_
                simp only [Act.put, lzA, lzB, lzC]
                refine wl_yield (o := ⟨_, _, _, _, _, _⟩) (.int .i64 (C.length : Nat)) (yt_lenQ (by rfl) _ rfl (some ⟨gA, oA, none⟩) C.length capU rfl) ?_
                simp only [Act.put, lzA, lzB, lzC]
                refine wl_yield (o := ⟨_, _, _, _, _, _⟩) (.bool true) (yt_lssI (by rfl) _ _ _ rfl ((j : Nat) : Int) ((C.length : Nat) : Int) true rfl rfl (decide_eq_true (by omega))) ?_
                simp only [Act.put, lzA, lzB, lzC]
                refine wpList_nil ?_
                refine hK17 _ _ ?_
                clear hK17 K17
                refine wp_cond_true rfl ?_
                refine wp_skip ?_
                refine hK16 _ _ ?_
                clear hK16 K16
                refine wp_seq_k (fun K18 hK18 => ?_)
                refine wp_block ?_
                refine wp_seq_k (fun K19 hK19 => ?_)
                refine wp_region_lit ?_
                refine wl_yield (o := ⟨_, _, _, _, _, _⟩) (.slice (some ⟨gV, oV, none⟩) es.length capV) (yl_move (by rfl) _ rfl _ rfl) ?_
                simp only [Act.put, lzA, lzB, lzC]
                refine wl_yield (o := ⟨_, _, _, _, _, _⟩) (.int .i64 (i : Nat)) (yl_move (by rfl) _ rfl _ rfl) ?_
                simp only [Act.put, lzA, lzB, lzC]
                refine wl_yield (o := ⟨_, _, _, _, _, _⟩) (.pointer (some ⟨gV, oV + i * 12, none⟩)) (yt_atV (by rfl) _ _ rfl gV oV _ _ i rfl rfl (hli)) ?_
                simp only [Act.put, lzA, lzB, lzC]
                refine wl_yield (o := ⟨_, _, _, _, _, _⟩) (evVal e) (yl_ev (by rfl) _ rfl _ _ rfl _ _ _ _ _ _ _ _ _ _ _ _ (fun _ h => by subst h; exact cellV _ D2)) ?_
                simp only [Act.put, lzA, lzB, lzC]
                refine wt_allocEv (o := ⟨_, _, _, _, _, _⟩) (by rfl) rfl (fun v3 g3 hg G3 kb => ?_)
                simp only [Act.put, lzA, lzB, lzC]
                have nV_g3 : u6.ownBlock ≠ some g3 := fun h => by have := (World.ownsRow.lt OV _ h).2; omega
                have ge_g3 : w.heap.size ≤ g3 := Nat.le_trans D.size hg
                have ge_D2_g3 : v2.heap.size ≤ g3 := Nat.le_trans D2.size hg
                clear hg
                replace D := grown_below D kb
                replace D2 := grown_below D2 kb
                replace OV := OwnE9.on OV kb
                clear kb
                replace G3 : v3.heap[g3]? = some (.cells #[.int .i64 0, .int .i64 0, .string (bs ([])), .int .i64 0, .int .i64 0, .string (bs ([])), .int .i64 0, .int .i64 0, .string (bs ([])), .int .i64 0, .int .i64 0, .string (bs ([]))] 26 (0, 0)) := G3
                refine wt_putEv (o := ⟨_, _, _, _, _, _⟩) rfl _ _ rfl _ rfl (e) rfl G3 rfl (fun v4 X kg => ?_)
                simp only [Act.put, lzA, lzB, lzC]
                replace D := gr_new D ge_g3 kg
                replace D2 := gr_new D2 ge_D2_g3 kg
                replace OV := ownE9_gr OV kg nV_g3
                clear kg
                replace G3 : v4.heap[g3]? = some (.cells #[.int .i64 (e.v0.1), .int .i64 (e.v0.2.1), .string e.v0.2.2, .int .i64 (e.v1.1), .int .i64 (e.v1.2.1), .string e.v1.2.2, .int .i64 (e.v2.1), .int .i64 (e.v2.2.1), .string e.v2.2.2, .int .i64 (e.v3.1), .int .i64 (e.v3.2.1), .string e.v3.2.2] 26 (0, 0)) := X
                clear X
                refine wpList_nil ?_
                refine hK19 _ _ ?_
                clear hK19 K19
                refine wp_seq_k (fun K20 hK20 => ?_)
                refine wp_region_lit ?_
                refine wl_yield (o := ⟨_, _, _, _, _, _⟩) (.int .i64 (k : Nat)) (yl_move (by rfl) _ rfl _ rfl) ?_
                simp only [Act.put, lzA, lzB, lzC]
                refine wl_yield (o := ⟨_, _, _, _, _, _⟩) (.slice (some ⟨gA, oA, none⟩) C.length capU) (yl_move (by rfl) _ rfl _ rfl) ?_
                simp only [Act.put, lzA, lzB, lzC]
                refine wl_yield (o := ⟨_, _, _, _, _, _⟩) (.int .i64 (j : Nat)) (yl_move (by rfl) _ rfl _ rfl) ?_
                simp only [Act.put, lzA, lzB, lzC]
                refine wl_yield (o := ⟨_, _, _, _, _, _⟩) (.pointer (some ⟨gA, oA + j * 4, none⟩)) (yt_atQ (by rfl) _ _ rfl gA oA _ _ j rfl rfl (hlj)) ?_
                simp only [Act.put, lzA, lzB, lzC]
                refine wl_yield (o := ⟨_, _, _, _, _, _⟩) (.agg #[.bool (Y9.absent), .slice ai' Y9.ints.length ci', .bool (Y9.co), .slice az' Y9.strs.length cz']) (yl_set (by rfl) _ rfl _ _ rfl _ _ _ _ (fun _ h => by subst h; exact ⟨(cellA _ D2 _).trans A0, (cellA _ D2 _).trans A1, (cellA _ D2 _).trans A2, (cellA _ D2 _).trans A3⟩)) ?_
                simp only [Act.put, lzA, lzB, lzC]
                refine wt_call (o := ⟨_, _, _, _, _, _⟩) (by rfl) 36 _ _ rfl #[.agg #[.bool (Y9.absent), .slice ai' Y9.ints.length ci', .bool (Y9.co), .slice az' Y9.strs.length cz']] rfl (run_call Tryz.func36 (by kernel_rfl) (by kernel_rfl)) ?_
                refine (refSample9_any _ Y9 _ (show SetAt _ (SC.val ⟨Y9.absent, ai', Y9.ints.length, ci', Y9.co, az', Y9.strs.length, cz'⟩) Y9 from ⟨_, _, rfl, hI9.on (below_none D2), hT9.on (below_none D2)⟩) (by have := hfk.ns; omega)).mono ?_
                rintro r v5 (⟨rfl, kb⟩)
                · replace D := grown_below D kb
                  replace D2 := grown_below D2 kb
                  replace OV := OwnE9.on OV kb
                  replace G3 := heap_on G3 kb
                  clear kb
                  refine Or.inl ⟨.tuple #[vVal (smpE Y9), .bool ((sampleV Y9).isSome)], rfl, ?_⟩
                  simp only [Act.put, lzA, lzB, lzC]
                  refine wl_yield (o := ⟨_, _, _, _, _, _⟩) (.tuple #[vVal (smpE Y9), .bool ((sampleV Y9).isSome)]) (yl_move (by rfl) _ rfl _ rfl) ?_
                  simp only [Act.put, lzA, lzB, lzC]
                  refine wl_yield (o := ⟨_, _, _, _, _, _⟩) (vVal (smpE Y9)) (yl_extract0 (by rfl) _ rfl _ _ rfl) ?_
                  simp only [Act.put, lzA, lzB, lzC]
                  refine wl_yield (o := ⟨_, _, _, _, _, _⟩) (.bool ((sampleV Y9).isSome)) (yl_extract1 (by rfl) _ rfl _ _ rfl) ?_
                  simp only [Act.put, lzA, lzB, lzC]
                  refine wl_yield (o := ⟨_, _, _, _, _, _⟩) (.pointer (some ⟨g3, k * 3, none⟩)) (yl_atEv (by rfl) _ _ rfl g3 k rfl rfl (hlt)) ?_
                  simp only [Act.put, lzA, lzB, lzC]
                  refine wt_putEv1 (o := ⟨_, _, _, _, _, _⟩) rfl _ _ rfl g3 k hlt rfl (smpE Y9) rfl (e := e) G3 (fun v6 X kg => ?_)
                  simp only [Act.put, lzA, lzB, lzC]
                  replace D := gr_new D ge_g3 kg
                  replace D2 := gr_new D2 ge_D2_g3 kg
                  replace OV := ownE9_gr OV kg nV_g3
                  clear kg
                  obtain ⟨e9, he99⟩ : ∃ e9, e9 = EvV.put e k (smpE Y9) := ⟨_, rfl⟩
                  rw [← he99] at X
                  replace G3 : v6.heap[g3]? = some (evObj e9) := X
                  clear X
                  refine wpList_nil ?_
                  refine hK20 _ _ ?_
                  clear hK20 K20
                  refine wp_region_lit ?_
                  refine wl_yield (o := ⟨_, _, _, _, _, _⟩) (u6) (yl_move (by rfl) _ rfl _ rfl) ?_
                  simp only [Act.put, lzA, lzB, lzC]
                  refine wl_yield (o := ⟨_, _, _, _, _, _⟩) (evVal e9) (yl_ev (by rfl) _ rfl _ 0 rfl _ _ _ _ _ _ _ _ _ _ _ _ (fun _ h => by subst h; exact ⟨cell_heap G3 0, cell_heap G3 1, cell_heap G3 2, cell_heap G3 3, cell_heap G3 4, cell_heap G3 5, cell_heap G3 6, cell_heap G3 7, cell_heap G3 8, cell_heap G3 9, cell_heap G3 10, cell_heap G3 11⟩)) ?_
                  simp only [Act.put, lzA, lzB, lzC]
                  refine wq_row1V (o := ⟨_, _, _, _, _, _⟩) (by rfl) _ rfl e9 rfl (fun v7 g7 hg G7 kb => ?_)
                  simp only [Act.put, lzA, lzB, lzC]
                  have nV_g7 : u6.ownBlock ≠ some g7 := fun h => by have := (World.ownsRow.lt OV _ h).2; omega
                  have n_g3_g7 : g3 ≠ g7 := by have := lt_heap G3; omega
                  have ge_g7 : w.heap.size ≤ g7 := Nat.le_trans D.size hg
                  have ge_D2_g7 : v2.heap.size ≤ g7 := Nat.le_trans D2.size hg
                  clear hg
                  replace D := grown_below D kb
                  replace D2 := grown_below D2 kb
                  replace OV := OwnE9.on OV kb
                  replace G3 := heap_on G3 kb
                  clear kb
                  refine wq_appV (o := ⟨_, _, _, _, _, _⟩) rfl _ _ rfl v2.heap.size _ _ rfl OV g7 e9 rfl G7 hlP D2.size (fun v8' v8 OV' kg _ => ?_)
                  simp only [Act.put, lzA, lzB, lzC]
                  replace D2 := gr_own D2 (fun g hg => (World.ownsRow.lt OV g hg).1) kg
                  replace D := gr_own D (fun g hg => Nat.le_trans hkD (World.ownsRow.lt OV g hg).1) kg
                  replace OV := OV'
                  clear OV' kg
                  refine wl_yield (o := ⟨_, _, _, _, _, _⟩) (v8') (yl_assign (by rfl) _ rfl _ rfl) ?_
                  simp only [Act.put, lzA, lzB, lzC]
                  refine wpList_nil ?_
                  refine hK18 _ _ ?_
                  clear hK18 K18
                  refine wp_region_lit ?_
                  refine wl_yield (o := ⟨_, _, _, _, _, _⟩) (.int .i64 (j : Nat)) (yl_move (by rfl) _ rfl _ rfl) ?_
                  simp only [Act.put, lzA, lzB, lzC]
                  refine wl_yield (o := ⟨_, _, _, _, _, _⟩) (.int .i64 (j + 1 : Nat)) (yt_addI (by rfl) _ _ _ rfl ((j : Nat) : Int) 1 ((j + 1 : Nat) : Int) rfl rfl (by omega) (by omega) (by omega)) ?_
                  simp only [Act.put, lzA, lzB, lzC]
                  refine wl_yield (o := ⟨_, _, _, _, _, _⟩) (.int .i64 (j + 1 : Nat)) (yl_assign (by rfl) _ rfl _ rfl) ?_
                  simp only [Act.put, lzA, lzB, lzC]
                  refine wpList_nil ?_
                  show _ ∧ _
                  go_roundw
                  case rel => exact ⟨j + 1, rfl, by omega, by rw [take_mapE hlj, hX9, ← List.append_assoc, show EvV.put (es.getD i evZ) k (smpE Y9) = e9 by rw [he99, he9]]; exact OV, D2, D⟩
                  case measure => simp [intOf]; omega
              · obtain rfl : j = C.length := by omega
                rw [List.take_length] at OV
                refine wp_seq_k (fun K16 hK16 => ?_)
                refine wp_seq_k (fun K17 hK17 => ?_)
                refine wp_region_lit ?_
                refine wl_yield (o := ⟨_, _, _, _, _, _⟩) (.int .i64 (C.length : Nat)) (yl_move (by rfl) _ rfl _ rfl) ?_
                simp only [Act.put, lzA, lzB, lzC]
                refine wl_yield (o := ⟨_, _, _, _, _, _⟩) (.slice aU C.length capU) (yl_move (by rfl) _ rfl _ rfl) ?_
                simp only [Act.put, lzA, lzB, lzC]
                refine wl_yield (o := ⟨_, _, _, _, _, _⟩) (.int .i64 (C.length : Nat)) (yt_lenQ (by rfl) _ rfl aU C.length capU rfl) ?_
                simp only [Act.put, lzA, lzB, lzC]
                refine wl_yield (o := ⟨_, _, _, _, _, _⟩) (.bool false) (yt_lssI (by rfl) _ _ _ rfl ((C.length : Nat) : Int) ((C.length : Nat) : Int) false rfl rfl (decide_eq_false (by omega))) ?_
                simp only [Act.put, lzA, lzB, lzC]
                refine wpList_nil ?_
                refine hK17 _ _ ?_
                clear hK17 K17
                refine wp_cond_false rfl ?_
                refine wp_exit ?_
                refine hK14 _ _ ?_
                clear hK16 K16 hK14 K14
                refine wp_region_lit ?_
                refine wl_yield (o := ⟨_, _, _, _, _, _⟩) (.int .i64 (i : Nat)) (yl_move (by rfl) _ rfl _ rfl) ?_
                simp only [Act.put, lzA, lzB, lzC]
                refine wl_yield (o := ⟨_, _, _, _, _, _⟩) (.int .i64 (i + 1 : Nat)) (yt_addI (by rfl) _ _ _ rfl ((i : Nat) : Int) 1 ((i + 1 : Nat) : Int) rfl rfl (by omega) (by omega) (by omega)) ?_
                simp only [Act.put, lzA, lzB, lzC]
                refine wl_yield (o := ⟨_, _, _, _, _, _⟩) (.int .i64 (i + 1 : Nat)) (yl_assign (by rfl) _ rfl _ rfl) ?_
                simp only [Act.put, lzA, lzB, lzC]
                refine wpList_nil ?_
                show _ ∧ _
                go_roundw
                case rel => exact ⟨i + 1, rfl, by omega, by rw [spread_take hli]; exact OV, D2, D⟩
                case measure => simp [intOf]; omega
          · obtain rfl : i = es.length := by omega
            rw [List.take_length] at OV
            replace OV : OwnE9 _ w.heap.size _ (evsL (fun i => cutL (attrL l i)) (k + 1)) := OwnE9.mono (by rw [show evsL (fun i => cutL (attrL l i)) (k + 1) = spreadL (evsL (fun i => cutL (attrL l i)) k) k (cutL (attrL l k)) from rfl, hEs, hCs]; exact OV) hkD
            refine wp_seq_k (fun K12 hK12 => ?_)
            refine wp_seq_k (fun K13 hK13 => ?_)
            refine wp_region_lit ?_
            refine wl_yield (o := ⟨_, _, _, _, _, _⟩) (.int .i64 (es.length : Nat)) (yl_move (by rfl) _ rfl _ rfl) ?_
            simp only [Act.put, lzA, lzB, lzC]
            refine wl_yield (o := ⟨_, _, _, _, _, _⟩) (.slice aV es.length capV) (yl_move (by rfl) _ rfl _ rfl) ?_
            simp only [Act.put, lzA, lzB, lzC]
            refine wl_yield (o := ⟨_, _, _, _, _, _⟩) (.int .i64 (es.length : Nat)) (yt_lenV (by rfl) _ rfl aV es.length capV rfl) ?_
            simp only [Act.put, lzA, lzB, lzC]
            refine wl_yield (o := ⟨_, _, _, _, _, _⟩) (.bool false) (yt_lssI (by rfl) _ _ _ rfl ((es.length : Nat) : Int) ((es.length : Nat) : Int) false rfl rfl (decide_eq_false (by omega))) ?_
            simp only [Act.put, lzA, lzB, lzC]
            refine wl_yield (o := ⟨_, _, _, _, _, _⟩) (.bool false) (yl_move (by rfl) _ rfl _ rfl) ?_
            simp only [Act.put, lzA, lzB, lzC]
            with_reducible refine wl_yield (o := ⟨_, _, _, _, _, _⟩) undef (yl_undef (by kernel_rfl)) ?_
            simp only [Act.put, lzA, lzB, lzC]
            with_reducible refine wl_yield (o := ⟨_, _, _, _, _, _⟩) undef (yl_undef (by kernel_rfl)) ?_
            simp only [Act.put, lzA, lzB, lzC]
            with_reducible refine wl_yield (o := ⟨_, _, _, _, _, _⟩) undef (yl_undef (by kernel_rfl)) ?_
            simp only [Act.put, lzA, lzB, lzC]
            with_reducible refine wl_yield (o := ⟨_, _, _, _, _, _⟩) undef (yl_undef (by kernel_rfl)) ?_
            simp only [Act.put, lzA, lzB, lzC]
            with_reducible refine wl_yield (o := ⟨_, _, _, _, _, _⟩) undef (yl_undef (by kernel_rfl)) ?_
            simp only [Act.put, lzA, lzB, lzC]
            with_reducible refine wl_yield (o := ⟨_, _, _, _, _, _⟩) undef (yl_undef (by kernel_rfl)) ?_
            simp only [Act.put, lzA, lzB, lzC]
            refine wl_yield (o := ⟨_, _, _, _, _, _⟩) (.bool false) (yl_pickF (by rfl) _ _ _ rfl rfl _ rfl) ?_
            simp only [Act.put, lzA, lzB, lzC]
            refine wpList_nil ?_
            refine hK13 _ _ ?_
            clear hK13 K13
            refine wp_cond_false rfl ?_
            refine wp_exit ?_
            refine hK10 _ _ ?_
            clear hK12 K12 hK10 K10
            refine wp_region_lit ?_
            refine wl_yield (o := ⟨_, _, _, _, _, _⟩) (u6) (yl_move (by rfl) _ rfl _ rfl) ?_
            simp only [Act.put, lzA, lzB, lzC]
            refine wl_yield (o := ⟨_, _, _, _, _, _⟩) (u6) (yl_assign (by rfl) _ rfl _ rfl) ?_
            simp only [Act.put, lzA, lzB, lzC]
            refine wpList_nil ?_
            refine hK7 _ _ ?_
            clear hK7 K7
            refine wp_region_lit ?_
            refine wl_yield (o := ⟨_, _, _, _, _, _⟩) (.int .i64 (k : Nat)) (yl_move (by rfl) _ rfl _ rfl) ?_
            simp only [Act.put, lzA, lzB, lzC]
            refine wl_yield (o := ⟨_, _, _, _, _, _⟩) (.int .i64 (k + 1 : Nat)) (yt_addI (by rfl) _ _ _ rfl ((k : Nat) : Int) 1 ((k + 1 : Nat) : Int) rfl rfl (by omega) (by omega) (by omega)) ?_
            simp only [Act.put, lzA, lzB, lzC]
            refine wl_yield (o := ⟨_, _, _, _, _, _⟩) (.int .i64 (k + 1 : Nat)) (yl_assign (by rfl) _ rfl _ rfl) ?_
            simp only [Act.put, lzA, lzB, lzC]
            refine wpList_nil ?_
            show _ ∧ _
            go_roundw
            case rel => exact ⟨k + 1, rfl, by omega, OV, D⟩
            case measure => simp [intOf]; omega
    · obtain rfl : k = 4 := by omega
      have hl4 := evs_few h3 hc (k := 4) (by omega)
      refine wp_seq_k (fun K5 hK5 => ?_)
      refine wp_seq_k (fun K6 hK6 => ?_)
      refine wp_region_lit ?_
      refine wl_yield (o := ⟨_, _, _, _, _, _⟩) (.int .i64 (4 : Nat)) (yl_move (by rfl) _ rfl _ rfl) ?_
      simp only [Act.put, lzA, lzB, lzC]
      refine wl_yield (o := ⟨_, _, _, _, _, _⟩) (.bool false) (yt_lssI (by rfl) _ _ _ rfl ((4 : Nat) : Int) 4 false rfl rfl (decide_eq_false (by omega))) ?_
      simp only [Act.put, lzA, lzB, lzC]
      refine wpList_nil ?_
      refine hK6 _ _ ?_
      clear hK6 K6
      refine wp_cond_false rfl ?_
      refine wp_exit ?_
      refine hK3 _ _ ?_
      clear hK5 K5 hK3 K3
      refine wp_seq_k (fun K7 hK7 => ?_)
      refine wp_seq_k (fun K8 hK8 => ?_)
      refine wp_region_lit ?_
      refine wl_yield (o := ⟨_, _, _, _, _, _⟩) (.slice aV (evsL (fun i => cutL (attrL l i)) 4).length capV) (yl_move (by rfl) _ rfl _ rfl) ?_
      simp only [Act.put, lzA, lzB, lzC]
      refine wl_yield (o := ⟨_, _, _, _, _, _⟩) (.int .i64 ((evsL (fun i => cutL (attrL l i)) 4).length : Nat)) (yt_lenV (by rfl) _ rfl aV (evsL (fun i => cutL (attrL l i)) 4).length capV rfl) ?_
      simp only [Act.put, lzA, lzB, lzC]
      refine wl_yield (o := ⟨_, _, _, _, _, _⟩) (.bool false) (yt_gtrI (by rfl) _ _ _ rfl (((evsL (fun i => cutL (attrL l i)) 4).length : Nat) : Int) 5000 false rfl rfl (decide_eq_false (by omega))) ?_
      simp only [Act.put, lzA, lzB, lzC]
      refine wpList_nil ?_
      refine hK8 _ _ ?_
      clear hK8 K8
      refine wp_cond_false rfl ?_
      refine wp_skip ?_
      refine hK7 _ _ ?_
      clear hK7 K7
      refine wp_seq_k (fun K9 hK9 => ?_)
      refine wp_region_lit ?_
      refine wl_yield (o := ⟨_, _, _, _, _, _⟩) (.slice aV (evsL (fun i => cutL (attrL l i)) 4).length capV) (yl_move (by rfl) _ rfl _ rfl) ?_
      simp only [Act.put, lzA, lzB, lzC]
      refine wl_yield (o := ⟨_, _, _, _, _, _⟩) (.slice aV (evsL (fun i => cutL (attrL l i)) 4).length capV) (yl_assign (by rfl) _ rfl _ rfl) ?_
      simp only [Act.put, lzA, lzB, lzC]
      refine wpList_nil ?_
      refine hK9 _ _ ?_
      clear hK9 K9
      refine wp_ret ?_
      try simp only [Exit.inBlock, Exit.then]
      go_ret
      exact ⟨⟨_, rfl, OU⟩, below_none D⟩
end Go.Proofs.YtbaijjclofekcaaGreatDoor
namespace Go.Proofs.YtbaijjclofekcaaGreatDoor
open Go.RowKit
set_option maxRecDepth 100000
theorem cV : Tryz.prog.cellsOf 24 = 3 := by kernel_rfl
theorem cE : Tryz.prog.cellsOf 26 = 12 := by kernel_rfl
theorem cI : Tryz.prog.cellsOf 3 = 1 := by kernel_rfl
theorem cS : Tryz.prog.cellsOf 9 = 1 := by kernel_rfl
theorem keyV (k n : Int) (s : ByteArray) (hk : (Lit.int .i64 k).wf = true) (hn : (Lit.int .i64 n).wf = true) (hs : s.size ≤ maxLen) (d : Nat) : Tryz.prog.keyLits (d + 2) 24 [.int .i64 k, .int .i64 n, .string s] = some [.int .i64 k, .int .i64 n, .string s.data.toList] := by
  simp [Program.keyLits, Tryz.underlying24, Tryz.underlying3, Tryz.underlying9, cV, cI, cS, hk, hn, hs]
theorem keyEv (e : EvV) (hw : ∀ k, k < 4 → (Lit.int .i64 (e.get k).1).wf = true ∧ (Lit.int .i64 (e.get k).2.1).wf = true ∧ (e.get k).2.2.size ≤ maxLen) : Tryz.prog.keyLits 5 26 (evVal e).cells.toList = some [.int .i64 e.v0.1, .int .i64 e.v0.2.1, .string e.v0.2.2.data.toList, .int .i64 e.v1.1, .int .i64 e.v1.2.1, .string e.v1.2.2.data.toList, .int .i64 e.v2.1, .int .i64 e.v2.2.1, .string e.v2.2.2.data.toList, .int .i64 e.v3.1, .int .i64 e.v3.2.1, .string e.v3.2.2.data.toList] := by
  obtain ⟨a0, a1, a2⟩ := hw 0 (by omega)
  obtain ⟨b0, b1, b2⟩ := hw 1 (by omega)
  obtain ⟨c0, c1, c2⟩ := hw 2 (by omega)
  obtain ⟨d0, d1, d2⟩ := hw 3 (by omega)
  have k0 := keyV e.v0.1 e.v0.2.1 e.v0.2.2 a0 a1 a2 2
  have k1 := keyV e.v1.1 e.v1.2.1 e.v1.2.2 b0 b1 b2 2
  have k2 := keyV e.v2.1 e.v2.2.1 e.v2.2.2 c0 c1 c2 2
  have k3 := keyV e.v3.1 e.v3.2.1 e.v3.2.2 d0 d1 d2 2
  show Tryz.prog.keyLits (4 + 1) 26 [.int .i64 e.v0.1, .int .i64 e.v0.2.1, .string e.v0.2.2, .int .i64 e.v1.1, .int .i64 e.v1.2.1, .string e.v1.2.2, .int .i64 e.v2.1, .int .i64 e.v2.2.1, .string e.v2.2.2, .int .i64 e.v3.1, .int .i64 e.v3.2.1, .string e.v3.2.2] = _
  unfold Program.keyLits
  simp only [Tryz.underlying26, cE, cV]
  have hr : List.range 4 = [0, 1, 2, 3] := rfl
  rw [if_pos (by rfl), hr]
  simp only [List.mapM_cons, List.mapM_nil, Nat.zero_mul, Nat.one_mul, List.drop_zero, List.drop_succ_cons, List.take_succ_cons, List.take_zero, k0, k1, k2, k3]
  simp [k0, k1, k2, k3]
theorem formEv (e : EvV) : (evVal e).formed Tryz.prog 26 = true := by kernel_rfl
theorem bytes_inj {s t : ByteArray} (h : s.data.toList = t.data.toList) : s = t := by
  have h1 : s = bs s.data.toList := rfl
  rw [h1, h]
  rfl
theorem keyEv_inj {a b : EvV} (h : ([.int .i64 a.v0.1, .int .i64 a.v0.2.1, .string a.v0.2.2.data.toList, .int .i64 a.v1.1, .int .i64 a.v1.2.1, .string a.v1.2.2.data.toList, .int .i64 a.v2.1, .int .i64 a.v2.2.1, .string a.v2.2.2.data.toList, .int .i64 a.v3.1, .int .i64 a.v3.2.1, .string a.v3.2.2.data.toList] : List Lit) = [.int .i64 b.v0.1, .int .i64 b.v0.2.1, .string b.v0.2.2.data.toList, .int .i64 b.v1.1, .int .i64 b.v1.2.1, .string b.v1.2.2.data.toList, .int .i64 b.v2.1, .int .i64 b.v2.2.1, .string b.v2.2.2.data.toList, .int .i64 b.v3.1, .int .i64 b.v3.2.1, .string b.v3.2.2.data.toList]) : a = b := by
  obtain ⟨⟨a0, a1, a2⟩, ⟨a3, a4, a5⟩, ⟨a6, a7, a8⟩, ⟨a9, a10, a11⟩⟩ := a
  obtain ⟨⟨b0, b1, b2⟩, ⟨b3, b4, b5⟩, ⟨b6, b7, b8⟩, ⟨b9, b10, b11⟩⟩ := b
  simp only [List.cons.injEq, Lit.int.injEq, Lit.string.injEq, true_and, and_true] at h
  obtain ⟨h0, h1, h2, h3, h4, h5, h6, h7, h8, h9, h10, h11⟩ := h
  have e2 := bytes_inj h2
  have e5 := bytes_inj h5
  have e8 := bytes_inj h8
  have e11 := bytes_inj h11
  subst h0 h1 e2 h3 h4 e5 h6 h7 e8 h9 h10 e11
  rfl
def wfE (e : EvV) : Prop := ∀ k, k < 4 → (Lit.int .i64 (e.get k).1).wf = true ∧ (Lit.int .i64 (e.get k).2.1).wf = true ∧ (e.get k).2.2.size ≤ maxLen
theorem run_eqEv (a b : EvV) (ha : wfE a) (hb : wfE b) (w : World) : ∃ r : Bool, (Op.equalIn 10000 26 (evVal a) (evVal b)).run Tryz.prog w = .ok r w ∧ (r = true ↔ a = b) := by
  obtain ⟨r, hr, hi⟩ := run_equalIn_deep (P := Tryz.prog) 9997 3 26 (by kernel_rfl) w 5 5 (evVal a) (evVal b) _ _ (formEv a) (formEv b) (keyEv a ha) (keyEv b hb)
  exact ⟨r, hr, hi.trans ⟨keyEv_inj, fun h => by rw [h]⟩⟩
section
variable {ops : Array Oper} {S : World → Prop} {o : Oper} {a : Act}
theorem yt_neqEv (hw : Region.wanted o (yielded ops a.tmps) = true) (x y : Operand) (t : TypeId) (ho : o.op = .binOp .neq 26 x y t) (p q : EvV) (wp : wfE p) (wq : wfE q) (r : Bool) (hx : a.eval x = evVal p) (hy : a.eval y = evVal q) (hr : r = true ↔ ¬ p = q) : YieldsIf Tryz.prog ops S o (.bool r) a :=
  Or.inl ⟨hw, fun w _ => by
    obtain ⟨r', h, hi⟩ := run_eqEv p q wp wq w
    have e : r = !r' := by cases r <;> cases r' <;> simp_all
    subst e
    simp only [evVal] at h
    simp only [execOp, ho, hx, hy, evVal]
    go_simp⟩
end
section
variable {ops : Array Oper} {Q : Exit → Act → World → Prop} {o : Oper} {a : Act}
theorem wq_row1F {rest : List Oper} {w : World} (hw : Region.wanted o (yielded ops a.tmps) = true) (x : Operand) (ho : o.op = .buildSlice 57 1 #[(0, x)]) (p : Option Addr) (n c : Nat) (hx : a.eval x = .slice p n c)
    (h : ∀ W g, w.heap.size ≤ g → W.heap[g]? = some (.cells #[.slice p n c] 73 (0, 0)) → Below w.heap.size w W → wpList Tryz.prog ops Q rest (a.put o.dst (.slice (some ⟨g, 0, none⟩) 1 1)) W) : wpList Tryz.prog ops Q (o :: rest) a w := by
  refine wl_run hw (.slice (some ⟨w.heap.size, 0, none⟩) 1 1) (w.alloc (.cells #[.slice p n c] 73)) ?_ (h _ _ (Nat.le_refl _) (heap_new _ _) ((Below.refl _ w).alloc (Nat.le_refl _) _))
  simp only [execOp, ho, List.map_toArray, List.map_cons, List.map_nil, hx]
  go_simp
end
def wfV (v : Va) : Prop := (Lit.int .i64 v.1).wf = true ∧ (Lit.int .i64 v.2.1).wf = true ∧ v.2.2.size ≤ maxLen
theorem wf_i64 {n : Int} (h0 : -9223372036854775808 ≤ n) (h1 : n ≤ 9223372036854775807) : (Lit.int .i64 n).wf = true := by
  have m1 : IntKind.i64.min = -9223372036854775808 := rfl
  have m2 : IntKind.i64.max = 9223372036854775807 := rfl
  simp [Lit.wf, m1, m2]
  omega
theorem smp_wf {S : SetV} (hf : Fit S) : wfV (smpE S) := by
  cases h : sampleV S with
  | none => unfold smpE; rw [h]; exact ⟨rfl, rfl, Nat.zero_le _⟩
  | some v =>
    have e1 : smpE S = v := by unfold smpE; rw [h]; rfl
    rw [e1]
    have hh := sample_has h (by have := hf.ns; omega)
    have hm := hasP_max hh
    unfold sampleV at h
    split at h
    · split at h
      · cases h; exact ⟨rfl, rfl, hm⟩
      · split at h
        · rename_i h1
          cases h
          have := hf.good.2 _ (gD_mem (d := (0, 0)) h1)
          exact ⟨rfl, wf_i64 (n := (S.ints.getD 0 (0, 0)).1) this.1 this.2.1, hm⟩
        · split at h
          · cases h; exact ⟨rfl, rfl, hm⟩
          · split at h
            · cases h; exact ⟨rfl, rfl, hm⟩
            · cases h
    · cases h
theorem evZ_wf : wfE evZ := fun k hk => by
  match k, hk with
  | 0, _ => exact ⟨rfl, rfl, Nat.zero_le _⟩
  | 1, _ => exact ⟨rfl, rfl, Nat.zero_le _⟩
  | 2, _ => exact ⟨rfl, rfl, Nat.zero_le _⟩
  | 3, _ => exact ⟨rfl, rfl, Nat.zero_le _⟩
theorem put_wf {e : EvV} (h : wfE e) {k : Nat} (hk : k < 4) {v : Va} (hv : wfV v) : wfE (e.put k v) := fun j hj => by
  rw [EvV.get_put9 e k j v hk hj]
  by_cases c : j = k
  · rw [if_pos c]; exact hv
  · rw [if_neg c]; exact h j hj
theorem evsL_wf {C : Nat → List SetV} (h : ∀ j, j < 4 → ∀ S ∈ C j, Fit S) : ∀ k, k ≤ 4 → ∀ e ∈ evsL C k, wfE e
  | 0, _, e, he => by rw [List.mem_singleton.1 he]; exact evZ_wf
  | k + 1, hk, e, he => by
    obtain ⟨d, hd, he⟩ := List.mem_flatMap.1 he
    obtain ⟨S, hS, rfl⟩ := List.mem_map.1 he
    exact put_wf (evsL_wf h k (by omega) d hd) (by omega) (smp_wf (h k (by omega) S hS))
theorem wf_fit {e : EvV} (h : wfE e) : evFit e := ⟨(h 0 (by omega)).2.2, (h 1 (by omega)).2.2, (h 2 (by omega)).2.2, (h 3 (by omega)).2.2⟩
theorem any_takeE {p : EvV → Bool} {es : List EvV} {j : Nat} (h : j < es.length) : (es.take (j + 1)).any p = ((es.take j).any p || p (es.getD j evZ)) := by
  rw [List.take_succ_eq_append_getElem h, List.any_append, List.getD_eq_getElem?_getD, List.getElem?_eq_getElem h]
  simp
end Go.Proofs.YtbaijjclofekcaaGreatDoor
