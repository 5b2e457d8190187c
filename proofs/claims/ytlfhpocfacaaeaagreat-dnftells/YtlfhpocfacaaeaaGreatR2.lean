import Derived.Test.YtlfhpocfacaaeaaGreatR0
import Derived.Test.YtlfhpocfacaaeaaGreatR1
import Derived.Test.YtlfhpocfacaaeaaGreatQ6
set_option linter.unusedSimpArgs false
set_option linter.unusedVariables false
namespace Go.Proofs.YtlfhpocfacaaeaaGreat
open Go.RowKit
theorem right_of {l : List BoxV} {z : Int} {x : ExV} (h : (l, z) = ofF x) (h0 : z = 0) : rightF l = true := by
  subst h0
  obtain ⟨l', _, _, hf, e⟩ := ofF_zero (x := x) (by rw [← h])
  rw [e] at h
  cases h
  exact hf
theorem few_filter {l : List BoxV} (h : rightF l = true) (fl : FitL l) : ∀ b ∈ l, FewB b := fun b hb => by
  unfold rightF at h
  rw [Bool.and_eq_true, Bool.and_eq_true, List.all_eq_true] at h
  have hq := h.2.1 b hb
  rw [Bool.and_eq_true] at hq
  have hS : ∀ i, i < 4 → (b.get i).ints.length ≤ 6 ∧ (b.get i).strs.length ≤ 6 := fun i hi => by
    have := (all4_iff _).1 hq.1 i hi
    unfold smallB at this
    rw [Bool.and_eq_true, decide_eq_true_eq, decide_eq_true_eq] at this
    exact this
  exact ⟨(fl b hb).good, fun i hi => by have := (hS i hi).1; omega, fun i hi => by have := (hS i hi).2; omega⟩
theorem few_good {l : List BoxV} (h : ∀ b ∈ l, FewB b) : ∀ c ∈ l, GoodB c := fun c hc => (h c hc).good
set_option maxHeartbeats 4000000 in
set_option maxRecDepth 100000 in
theorem refRight6_any (v : Value) (l : List BoxV) (w : World) (hv : Bxs w v l) (fl : ∀ b ∈ l, FewB b) :
    Calls Tryz.prog 17 #[v] w fun r w' => r = .returned (.bool (rightF l)) ∧ Below w.heap.size w w' := by
  obtain ⟨cs, hr, ha⟩ := hv
  have hbig := hr.1
  have hcl := ha.1
  obtain ⟨q, cp, rfl⟩ := hr.form
  have D := Below.refl w.heap.size w
  go_enter Tryz.func17, Tryz.ntmps17
  refine wp_seq_k (fun K1 hK1 => ?_)
  refine wp_region_lit ?_
  refine wl_yield (o := ⟨_, _, _, _, _, _⟩) (.bool false) (yl_assign (by rfl) _ rfl _ rfl) ?_
  simp only [Act.put, lzA, lzB, lzC]
  refine wpList_nil ?_
  refine hK1 _ _ ?_
  clear hK1 K1
  refine wp_seq_k (fun K2 hK2 => ?_)
  refine wp_seq_k (fun K3 hK3 => ?_)
  refine wp_region_lit ?_
  refine wl_yield (o := ⟨_, _, _, _, _, _⟩) (.int .i64 0) (yl_assign (by rfl) _ rfl _ rfl) ?_
  simp only [Act.put, lzA, lzB, lzC]
  refine wpList_nil ?_
  refine hK3 _ _ ?_
  clear hK3 K3
  refine wp_block ?_
  go_loopw [3] (fun i wr => ∃ k : Nat, i = .int .i64 k ∧ k ≤ cs.length ∧ (∀ j, j < k → (smallBx (l.getD j zBox) && rightBx (l.getD j zBox)) = true) ∧ Below w.heap.size w wr) (fun i _ => cs.length - (intOf i).toNat)
  case atStart => exact ⟨0, rfl, by omega, fun j h => by omega, D⟩
  case round =>
    clear D
    obtain ⟨k, rfl, hk, hF, D⟩ := hrel
    by_cases hlt : k < cs.length
    · have hkl : k < l.length := by rw [← ha.1]; exact hlt
      obtain ⟨g, off, rfl, HC⟩ := (hr.on D).at.2 k hlt
      have hb := ha.2 k hkl
      refine wp_seq_k (fun K4 hK4 => ?_)
      refine wp_seq_k (fun K5 hK5 => ?_)
      refine wp_region_lit ?_
      refine wl_yield (o := ⟨_, _, _, _, _, _⟩) (.int .i64 (k : Nat)) (yl_move (by rfl) _ rfl _ rfl) ?_
      simp only [Act.put, lzA, lzB, lzC]
      refine wl_yield (o := ⟨_, _, _, _, _, _⟩) (.slice (some ⟨g, off, none⟩) cs.length cp) (yl_move (by rfl) _ rfl _ rfl) ?_
      simp only [Act.put, lzA, lzB, lzC]
      refine wl_yield (o := ⟨_, _, _, _, _, _⟩) (.int .i64 (cs.length : Nat)) (yl_lenB (by rfl) _ rfl _ _ _ rfl) ?_
      simp only [Act.put, lzA, lzB, lzC]
      refine wl_yield (o := ⟨_, _, _, _, _, _⟩) (.bool true) (yl_lssI (by rfl) _ _ _ rfl (((k : Nat) : Int)) (((cs.length : Nat) : Int)) true rfl rfl (decide_eq_true (by omega))) ?_
      simp only [Act.put, lzA, lzB, lzC]
      refine wpList_nil ?_
      refine hK5 _ _ ?_
      clear hK5 K5
      refine wp_cond_true rfl ?_
      refine wp_skip ?_
      refine hK4 _ _ ?_
      clear hK4 K4
      refine wp_seq_k (fun K6 hK6 => ?_)
      refine wp_block ?_
      refine wp_seq_k (fun K7 hK7 => ?_)
      refine wp_region_lit ?_
      refine wl_yield (o := ⟨_, _, _, _, _, _⟩) (.slice (some ⟨g, off, none⟩) cs.length cp) (yl_move (by rfl) _ rfl _ rfl) ?_
      simp only [Act.put, lzA, lzB, lzC]
      refine wl_yield (o := ⟨_, _, _, _, _, _⟩) (.int .i64 (k : Nat)) (yl_move (by rfl) _ rfl _ rfl) ?_
      simp only [Act.put, lzA, lzB, lzC]
      refine wl_yield (o := ⟨_, _, _, _, _, _⟩) (.pointer (some ⟨g, off + k * 16, none⟩)) (yl_bxAt (by rfl) _ _ rfl g (off) _ _ (k) rfl rfl (hlt)) ?_
      simp only [Act.put, lzA, lzB, lzC]
      refine wl_yield (o := ⟨_, _, _, _, _, _⟩) (BxC.val (cs.getD k bc0)) (yl_bx (by rfl) _ rfl _ _ rfl _ (fun _ h => by subst h; exact HC)) ?_
      simp only [Act.put, lzA, lzB, lzC]
      refine wl_call (o := ⟨_, _, _, _, _, _⟩) (by rfl) 19 _ _ rfl #[BxC.val (cs.getD k bc0)] rfl (run_call Tryz.func19 (by kernel_rfl) (by kernel_rfl)) ?_
      refine (refRightBx_any _ (l.getD k zBox) _ (hb.on D)).mono ?_
      rintro r v1 ⟨rfl, kb⟩
      replace D := D.trans (kb.mono D.size)
      replace HC := HC.on kb
      clear kb
      cases hq2 : rightBx (l.getD k zBox)
      · refine ⟨.bool false, rfl, ?_⟩
        simp only [Act.put, lzA, lzB, lzC]
        refine wl_yield (o := ⟨_, _, _, _, _, _⟩) (.bool true) (yl_not (by rfl) _ _ rfl false rfl) ?_
        simp only [Act.put, lzA, lzB, lzC]
        refine wl_yield (o := ⟨_, _, _, _, _, _⟩) (.bool true) (yl_move (by rfl) _ rfl _ rfl) ?_
        simp only [Act.put, lzA, lzB, lzC]
        refine wl_yield (o := ⟨_, _, _, _, _, _⟩) undef (yl_undef (by rfl)) ?_
        simp only [Act.put, lzA, lzB, lzC]
        refine wl_yield (o := ⟨_, _, _, _, _, _⟩) undef (yl_undef (by rfl)) ?_
        simp only [Act.put, lzA, lzB, lzC]
        refine wl_yield (o := ⟨_, _, _, _, _, _⟩) undef (yl_undef (by rfl)) ?_
        simp only [Act.put, lzA, lzB, lzC]
        refine wl_yield (o := ⟨_, _, _, _, _, _⟩) undef (yl_undef (by rfl)) ?_
        simp only [Act.put, lzA, lzB, lzC]
        refine wl_yield (o := ⟨_, _, _, _, _, _⟩) undef (yl_undef (by rfl)) ?_
        simp only [Act.put, lzA, lzB, lzC]
        refine wl_yield (o := ⟨_, _, _, _, _, _⟩) undef (yl_undef (by rfl)) ?_
        simp only [Act.put, lzA, lzB, lzC]
        refine wl_yield (o := ⟨_, _, _, _, _, _⟩) (.bool true) (yl_pickT (by rfl) _ _ _ rfl rfl _ rfl) ?_
        simp only [Act.put, lzA, lzB, lzC]
        refine wpList_nil ?_
        refine hK7 _ _ ?_
        clear hK7 K7
        refine wp_cond_true rfl ?_
        refine wp_seq_k (fun K8 hK8 => ?_)
        refine wp_region_lit ?_
        refine wl_yield (o := ⟨_, _, _, _, _, _⟩) (.bool false) (yl_assign (by rfl) _ rfl _ rfl) ?_
        simp only [Act.put, lzA, lzB, lzC]
        refine wpList_nil ?_
        refine hK8 _ _ ?_
        clear hK8 K8
        refine wp_ret ?_
        go_ret
        exact ⟨by unfold rightF; rw [show l.all (fun b => smallBx b && rightBx b) = false from List.all_eq_false.2 ⟨_, getB_mem hkl, by rw [hq2]; simp⟩, Bool.false_and, Bool.and_false]; rfl, D⟩
      · refine ⟨.bool true, rfl, ?_⟩
        simp only [Act.put, lzA, lzB, lzC]
        refine wl_yield (o := ⟨_, _, _, _, _, _⟩) (.bool false) (yl_not (by rfl) _ _ rfl true rfl) ?_
        simp only [Act.put, lzA, lzB, lzC]
        refine wl_yield (o := ⟨_, _, _, _, _, _⟩) (.bool false) (yl_move (by rfl) _ rfl _ rfl) ?_
        simp only [Act.put, lzA, lzB, lzC]
        refine wl_yield (o := ⟨_, _, _, _, _, _⟩) (.slice (some ⟨g, off, none⟩) cs.length cp) (yl_move (by rfl) _ rfl _ rfl) ?_
        simp only [Act.put, lzA, lzB, lzC]
        refine wl_yield (o := ⟨_, _, _, _, _, _⟩) (.int .i64 (k : Nat)) (yl_move (by rfl) _ rfl _ rfl) ?_
        simp only [Act.put, lzA, lzB, lzC]
        refine wl_yield (o := ⟨_, _, _, _, _, _⟩) (.pointer (some ⟨g, off + k * 16, none⟩)) (yl_bxAt (by rfl) _ _ rfl g (off) _ _ (k) rfl rfl (hlt)) ?_
        simp only [Act.put, lzA, lzB, lzC]
        refine wl_yield (o := ⟨_, _, _, _, _, _⟩) (BxC.val (cs.getD k bc0)) (yl_bx (by rfl) _ rfl _ _ rfl _ (fun _ h => by subst h; exact HC)) ?_
        simp only [Act.put, lzA, lzB, lzC]
        refine wl_call (o := ⟨_, _, _, _, _, _⟩) (by rfl) 44 _ _ rfl #[BxC.val (cs.getD k bc0)] rfl (run_call Tryz.func44 (by kernel_rfl) (by kernel_rfl)) ?_
        refine (refSmallBx_any (cs.getD k bc0) (l.getD k zBox) _ (hb.on D)).mono ?_
        rintro r v2 ⟨rfl, kb⟩
        replace D := D.trans (kb.mono D.size)
        replace HC := HC.on kb
        clear kb
        cases hq1 : smallBx (l.getD k zBox)
        · refine ⟨.bool false, rfl, ?_⟩
          simp only [Act.put, lzA, lzB, lzC]
          refine wl_yield (o := ⟨_, _, _, _, _, _⟩) (.bool true) (yl_not (by rfl) _ _ rfl false rfl) ?_
          simp only [Act.put, lzA, lzB, lzC]
          refine wl_yield (o := ⟨_, _, _, _, _, _⟩) (.bool true) (yl_pickF (by rfl) _ _ _ rfl rfl _ rfl) ?_
          simp only [Act.put, lzA, lzB, lzC]
          refine wpList_nil ?_
          refine hK7 _ _ ?_
          clear hK7 K7
          refine wp_cond_true rfl ?_
          refine wp_seq_k (fun K8 hK8 => ?_)
          refine wp_region_lit ?_
          refine wl_yield (o := ⟨_, _, _, _, _, _⟩) (.bool false) (yl_assign (by rfl) _ rfl _ rfl) ?_
          simp only [Act.put, lzA, lzB, lzC]
          refine wpList_nil ?_
          refine hK8 _ _ ?_
          clear hK8 K8
          refine wp_ret ?_
          go_ret
          exact ⟨by unfold rightF; rw [show l.all (fun b => smallBx b && rightBx b) = false from List.all_eq_false.2 ⟨_, getB_mem hkl, by rw [hq1, hq2]; simp⟩, Bool.false_and, Bool.and_false]; rfl, D⟩
        · refine ⟨.bool true, rfl, ?_⟩
          simp only [Act.put, lzA, lzB, lzC]
          refine wl_yield (o := ⟨_, _, _, _, _, _⟩) (.bool false) (yl_not (by rfl) _ _ rfl true rfl) ?_
          simp only [Act.put, lzA, lzB, lzC]
          refine wl_yield (o := ⟨_, _, _, _, _, _⟩) (.bool false) (yl_pickF (by rfl) _ _ _ rfl rfl _ rfl) ?_
          simp only [Act.put, lzA, lzB, lzC]
          refine wpList_nil ?_
          refine hK7 _ _ ?_
          clear hK7 K7
          refine wp_cond_false rfl ?_
          refine wp_skip ?_
          refine hK6 _ _ ?_
          clear hK6 K6
          refine wp_region_lit ?_
          refine wl_yield (o := ⟨_, _, _, _, _, _⟩) (.int .i64 (k : Nat)) (yl_move (by rfl) _ rfl _ rfl) ?_
          simp only [Act.put, lzA, lzB, lzC]
          refine wl_yield (o := ⟨_, _, _, _, _, _⟩) (.int .i64 (k + 1 : Nat)) (yl_addI (by rfl) _ _ _ rfl (((k : Nat) : Int)) (1) (((k + 1 : Nat) : Int)) rfl rfl (by omega) (by omega) (by omega)) ?_
          simp only [Act.put, lzA, lzB, lzC]
          refine wl_yield (o := ⟨_, _, _, _, _, _⟩) (.int .i64 (k + 1 : Nat)) (yl_assign (by rfl) _ rfl _ rfl) ?_
          simp only [Act.put, lzA, lzB, lzC]
          refine wpList_nil ?_
          show _ ∧ _
          go_roundw
          case rel => exact ⟨k + 1, rfl, by omega, fun j hj => by
            rcases Nat.lt_succ_iff_lt_or_eq.1 hj with h | rfl
            · exact hF j h
            · rw [hq1, hq2]; rfl, D⟩
          case measure => simp [intOf]; omega
    · have hall : l.all (fun b => smallBx b && rightBx b) = true := List.all_eq_true.2 fun b hb => by
        obtain ⟨i, hi, rfl⟩ := List.getElem_of_mem hb
        have := hF i (by omega)
        rwa [List.getD_eq_getElem?_getD, List.getElem?_eq_getElem hi] at this
      by_cases h4 : cs.length ≤ 4
      · refine wp_seq_k (fun K4 hK4 => ?_)
        refine wp_seq_k (fun K5 hK5 => ?_)
        refine wp_region_lit ?_
        refine wl_yield (o := ⟨_, _, _, _, _, _⟩) (.int .i64 (k : Nat)) (yl_move (by rfl) _ rfl _ rfl) ?_
        simp only [Act.put, lzA, lzB, lzC]
        refine wl_yield (o := ⟨_, _, _, _, _, _⟩) (.slice q cs.length cp) (yl_move (by rfl) _ rfl _ rfl) ?_
        simp only [Act.put, lzA, lzB, lzC]
        refine wl_yield (o := ⟨_, _, _, _, _, _⟩) (.int .i64 (cs.length : Nat)) (yl_lenB (by rfl) _ rfl _ _ _ rfl) ?_
        simp only [Act.put, lzA, lzB, lzC]
        refine wl_yield (o := ⟨_, _, _, _, _, _⟩) (.bool false) (yl_lssI (by rfl) _ _ _ rfl (((k : Nat) : Int)) (((cs.length : Nat) : Int)) false rfl rfl (decide_eq_false (by omega))) ?_
        simp only [Act.put, lzA, lzB, lzC]
        refine wpList_nil ?_
        refine hK5 _ _ ?_
        clear hK5 K5
        refine wp_cond_false rfl ?_
        refine wp_exit ?_
        refine hK2 _ _ ?_
        clear hK4 K4 hK2 K2
        refine wp_seq_k (fun K6 hK6 => ?_)
        refine wp_region_lit ?_
        refine wl_yield (o := ⟨_, _, _, _, _, _⟩) (.slice q cs.length cp) (yl_move (by rfl) _ rfl _ rfl) ?_
        simp only [Act.put, lzA, lzB, lzC]
        refine wl_yield (o := ⟨_, _, _, _, _, _⟩) (.int .i64 (cs.length : Nat)) (yl_lenB (by rfl) _ rfl _ _ _ rfl) ?_
        simp only [Act.put, lzA, lzB, lzC]
        refine wl_yield (o := ⟨_, _, _, _, _, _⟩) (.bool true) (yl_leqI (by rfl) _ _ _ rfl (((cs.length : Nat) : Int)) (4) true rfl rfl (decide_eq_true (by omega))) ?_
        simp only [Act.put, lzA, lzB, lzC]
        refine wl_yield (o := ⟨_, _, _, _, _, _⟩) (.bool true) (yl_move (by rfl) _ rfl _ rfl) ?_
        simp only [Act.put, lzA, lzB, lzC]
        refine wl_yield (o := ⟨_, _, _, _, _, _⟩) (.slice q cs.length cp) (yl_move (by rfl) _ rfl _ rfl) ?_
        simp only [Act.put, lzA, lzB, lzC]
        refine wl_call (o := ⟨_, _, _, _, _, _⟩) (by rfl) 21 _ _ rfl #[.slice q cs.length cp] rfl (run_call Tryz.func21 (by kernel_rfl) (by kernel_rfl)) ?_
        refine (refTidy_any _ l _ (⟨cs, hr.on D, ha.on D⟩) fl (by omega)).mono ?_
        rintro r v1 ⟨⟨u1, ks, rfl, hO, hA⟩, kb⟩
        replace D := D.trans (kb.mono D.size)
        clear kb
        obtain ⟨q1, c1, rfl⟩ := hO.sl
        refine ⟨.slice q1 ks.length c1, rfl, ?_⟩
        simp only [Act.put, lzA, lzB, lzC]
        refine wl_yield (o := ⟨_, _, _, _, _, _⟩) (.int .i64 (ks.length : Nat)) (yl_lenB (by rfl) _ rfl _ _ _ rfl) ?_
        simp only [Act.put, lzA, lzB, lzC]
        refine wl_yield (o := ⟨_, _, _, _, _, _⟩) (.slice q cs.length cp) (yl_move (by rfl) _ rfl _ rfl) ?_
        simp only [Act.put, lzA, lzB, lzC]
        refine wl_yield (o := ⟨_, _, _, _, _, _⟩) (.int .i64 (cs.length : Nat)) (yl_lenB (by rfl) _ rfl _ _ _ rfl) ?_
        simp only [Act.put, lzA, lzB, lzC]
        refine wl_yield (o := ⟨_, _, _, _, _, _⟩) (.bool (decide (ks.length = cs.length))) (yl_eqlI (by rfl) _ _ _ rfl (((ks.length : Nat) : Int)) (((cs.length : Nat) : Int)) (decide (ks.length = cs.length)) rfl rfl (by rw [decide_eq_decide]; omega)) ?_
        simp only [Act.put, lzA, lzB, lzC]
        refine wl_yield (o := ⟨_, _, _, _, _, _⟩) (.bool (decide (ks.length = cs.length))) (yl_pickT (by rfl) _ _ _ rfl rfl _ rfl) ?_
        simp only [Act.put, lzA, lzB, lzC]
        refine wl_yield (o := ⟨_, _, _, _, _, _⟩) (.bool (decide (ks.length = cs.length))) (yl_assign (by rfl) _ rfl _ rfl) ?_
        simp only [Act.put, lzA, lzB, lzC]
        refine wpList_nil ?_
        refine hK6 _ _ ?_
        clear hK6 K6
        refine wp_ret ?_
        go_ret
        exact ⟨by unfold rightF; rw [decide_eq_true (show l.length ≤ 4 by omega), hall, tidP_eq (few_good fl), ← hA.1, ← ha.1]; rfl, D⟩
      · refine wp_seq_k (fun K4 hK4 => ?_)
        refine wp_seq_k (fun K5 hK5 => ?_)
        refine wp_region_lit ?_
        refine wl_yield (o := ⟨_, _, _, _, _, _⟩) (.int .i64 (k : Nat)) (yl_move (by rfl) _ rfl _ rfl) ?_
        simp only [Act.put, lzA, lzB, lzC]
        refine wl_yield (o := ⟨_, _, _, _, _, _⟩) (.slice q cs.length cp) (yl_move (by rfl) _ rfl _ rfl) ?_
        simp only [Act.put, lzA, lzB, lzC]
        refine wl_yield (o := ⟨_, _, _, _, _, _⟩) (.int .i64 (cs.length : Nat)) (yl_lenB (by rfl) _ rfl _ _ _ rfl) ?_
        simp only [Act.put, lzA, lzB, lzC]
        refine wl_yield (o := ⟨_, _, _, _, _, _⟩) (.bool false) (yl_lssI (by rfl) _ _ _ rfl (((k : Nat) : Int)) (((cs.length : Nat) : Int)) false rfl rfl (decide_eq_false (by omega))) ?_
        simp only [Act.put, lzA, lzB, lzC]
        refine wpList_nil ?_
        refine hK5 _ _ ?_
        clear hK5 K5
        refine wp_cond_false rfl ?_
        refine wp_exit ?_
        refine hK2 _ _ ?_
        clear hK4 K4 hK2 K2
        refine wp_seq_k (fun K6 hK6 => ?_)
        refine wp_region_lit ?_
        refine wl_yield (o := ⟨_, _, _, _, _, _⟩) (.slice q cs.length cp) (yl_move (by rfl) _ rfl _ rfl) ?_
        simp only [Act.put, lzA, lzB, lzC]
        refine wl_yield (o := ⟨_, _, _, _, _, _⟩) (.int .i64 (cs.length : Nat)) (yl_lenB (by rfl) _ rfl _ _ _ rfl) ?_
        simp only [Act.put, lzA, lzB, lzC]
        refine wl_yield (o := ⟨_, _, _, _, _, _⟩) (.bool false) (yl_leqI (by rfl) _ _ _ rfl (((cs.length : Nat) : Int)) (4) false rfl rfl (decide_eq_false (by omega))) ?_
        simp only [Act.put, lzA, lzB, lzC]
        refine wl_yield (o := ⟨_, _, _, _, _, _⟩) (.bool false) (yl_move (by rfl) _ rfl _ rfl) ?_
        simp only [Act.put, lzA, lzB, lzC]
        refine wl_yield (o := ⟨_, _, _, _, _, _⟩) undef (yl_undef (by rfl)) ?_
        simp only [Act.put, lzA, lzB, lzC]
        refine wl_yield (o := ⟨_, _, _, _, _, _⟩) undef (yl_undef (by rfl)) ?_
        simp only [Act.put, lzA, lzB, lzC]
        refine wl_yield (o := ⟨_, _, _, _, _, _⟩) undef (yl_undef (by rfl)) ?_
        simp only [Act.put, lzA, lzB, lzC]
        refine wl_yield (o := ⟨_, _, _, _, _, _⟩) undef (yl_undef (by rfl)) ?_
        simp only [Act.put, lzA, lzB, lzC]
        refine wl_yield (o := ⟨_, _, _, _, _, _⟩) undef (yl_undef (by rfl)) ?_
        simp only [Act.put, lzA, lzB, lzC]
        refine wl_yield (o := ⟨_, _, _, _, _, _⟩) undef (yl_undef (by rfl)) ?_
        simp only [Act.put, lzA, lzB, lzC]
        refine wl_yield (o := ⟨_, _, _, _, _, _⟩) (.bool false) (yl_pickF (by rfl) _ _ _ rfl rfl _ rfl) ?_
        simp only [Act.put, lzA, lzB, lzC]
        refine wl_yield (o := ⟨_, _, _, _, _, _⟩) (.bool false) (yl_assign (by rfl) _ rfl _ rfl) ?_
        simp only [Act.put, lzA, lzB, lzC]
        refine wpList_nil ?_
        refine hK6 _ _ ?_
        clear hK6 K6
        refine wp_ret ?_
        go_ret
        exact ⟨by unfold rightF; rw [decide_eq_false (show ¬ l.length ≤ 4 by omega), Bool.false_and]; rfl, D⟩
end Go.Proofs.YtlfhpocfacaaeaaGreat
namespace Go.Proofs.YtlfhpocfacaaeaaGreat
open Go.RowKit
theorem few_all {w : World} {v : Value} {l : List BoxV} (hv : Bxs w v l) (h1 : (decide (l.length ≤ 20) && l.all fewBx) = true) (h2 : ∀ b ∈ l, rightBx b = true) : ∀ b ∈ l, FewB b := fun b hb => by
  rw [Bool.and_eq_true, List.all_eq_true] at h1
  obtain ⟨cs, _, ha⟩ := hv
  obtain ⟨i, hi, rfl⟩ := List.getElem_of_mem hb
  have hbx := ha.2 i hi
  rw [List.getD_eq_getElem?_getD, List.getD_eq_getElem?_getD, List.getElem?_eq_getElem hi] at hbx
  exact few_of hbx (h1.2 _ hb) (h2 _ hb)
theorem few_len6 {l : List BoxV} (h1 : (decide (l.length ≤ 20) && l.all fewBx) = true) : l.length ≤ 20 := by
  rw [Bool.and_eq_true, decide_eq_true_eq] at h1
  exact h1.1
section
variable {ops : Array Oper} {Q : Exit → Act → World → Prop} {S : World → Prop} {o : Oper} {a : Act}
theorem yl_eqSame (hw : Region.wanted o (yielded ops a.tmps) = true) (x y : Operand) (t : TypeId) (ho : o.op = .binOp .eql 4 x y t) (b : Bool) (hx : a.eval x = .bool b) (hy : a.eval y = .bool b) : YieldsIf Tryz.prog ops S o (.bool true) a := by
  have := yl_eqB (S := S) hw x y t ho b b hx hy
  rwa [show (b == b) = true by cases b <;> rfl] at this
theorem wl_rowB0 {rest : List Oper} {w : World} (hw : Region.wanted o (yielded ops a.tmps) = true) (ho : o.op = .buildSlice 31 0 #[])
    (h : ∀ W v, OwnB W w.heap.size v [] → Below w.heap.size w W → wpList Tryz.prog ops Q rest (a.put o.dst v) W) : wpList Tryz.prog ops Q (o :: rest) a w := by
  refine wl_run hw (.slice (some ⟨w.heap.size, 0, none⟩) 0 0) (w.alloc (.cells #[] 47)) ?_ (h _ _ ⟨rfl, Or.inr ⟨w.heap.size, 0, #[], rfl, Nat.le_refl _, heap_top _ _, Nat.le_refl _, by unfold maxLen; omega, rfl, rfl⟩⟩ ((Below.refl _ w).alloc (Nat.le_refl _) _))
  simp only [execOp, ho]
  go_simp
end
set_option maxHeartbeats 8000000 in
set_option maxRecDepth 100000 in
theorem dnfTells_law (v u : Value) (f g : List BoxV) (e : EvV) (w : World) (hv : Bxs w v f) (hu : Bxs w u g) (nf : nilOk v) (ng : nilOk u) (hf : evFit e) (he : inE e) :
    Calls Tryz.prog 6 #[v, u, evVal e] w fun r w' => r = .returned (.bool true) ∧ Below w.heap.size w w' := by
  have hv0 := hv
  have hu0 := hu
  obtain ⟨cf, hrf, haf⟩ := hv0
  obtain ⟨cg, hrg, hag⟩ := hu0
  have hbig := hrf.1
  have hbig2 := hrg.1
  have hcf := haf.1
  have hcg := hag.1
  obtain ⟨qf, pf, rfl⟩ := hrf.form
  obtain ⟨qg, pg, rfl⟩ := hrg.form
  have D := Below.refl w.heap.size w
  go_enter Tryz.func6, Tryz.ntmps6
  refine wp_seq_k (fun K1 hK1 => ?_)
  refine wp_region_lit ?_
  refine wl_evBox (o := ⟨_, _, _, _, _, _⟩) (by rfl) _ rfl rfl (fun v1 gb1 HE kb => ?_)
  simp only [Act.put, lzA, lzB, lzC]
  replace D := D.trans (kb.mono D.size)
  clear kb
  refine wl_yield (o := ⟨_, _, _, _, _, _⟩) (.bool false) (yl_assign (by rfl) _ rfl _ rfl) ?_
  simp only [Act.put, lzA, lzB, lzC]
  refine wpList_nil ?_
  refine hK1 _ _ ?_
  clear hK1 K1
  refine wp_seq_k (fun K2 hK2 => ?_)
  refine wp_seq_k (fun K3 hK3 => ?_)
  refine wp_region_lit ?_
  refine wl_call (o := ⟨_, _, _, _, _, _⟩) (by rfl) 10 _ _ rfl #[] rfl (run_call Tryz.func10 (by kernel_rfl) (by kernel_rfl)) ?_
  refine (awake6_any _).mono ?_
  rintro r v2 ⟨rfl, kb⟩
  replace D := D.trans (kb.mono D.size)
  replace HE := HE.on kb
  clear kb
  refine ⟨.bool true, rfl, ?_⟩
  simp only [Act.put, lzA, lzB, lzC]
  refine wl_yield (o := ⟨_, _, _, _, _, _⟩) (.bool false) (yl_not (by rfl) _ _ rfl true rfl) ?_
  simp only [Act.put, lzA, lzB, lzC]
  refine wl_yield (o := ⟨_, _, _, _, _, _⟩) (.bool false) (yl_move (by rfl) _ rfl _ rfl) ?_
  simp only [Act.put, lzA, lzB, lzC]
  refine wl_yield (o := ⟨_, _, _, _, _, _⟩) (.slice qf cf.length pf) (yl_move (by rfl) _ rfl _ rfl) ?_
  simp only [Act.put, lzA, lzB, lzC]
  refine wl_call (o := ⟨_, _, _, _, _, _⟩) (by rfl) 18 _ _ rfl #[.slice qf cf.length pf] rfl (run_call Tryz.func18 (by kernel_rfl) (by kernel_rfl)) ?_
  refine (refFew6_any _ f _ (hv.on D)).mono ?_
  rintro r v3 ⟨rfl, kb⟩
  replace D := D.trans (kb.mono D.size)
  replace HE := HE.on kb
  clear kb
  cases hq1 : decide (f.length ≤ 20) && f.all fewBx
  · refine ⟨.bool false, rfl, ?_⟩
    simp only [Act.put, lzA, lzB, lzC]
    refine wl_yield (o := ⟨_, _, _, _, _, _⟩) (.bool true) (yl_not (by rfl) _ _ rfl false rfl) ?_
    simp only [Act.put, lzA, lzB, lzC]
    refine wl_yield (o := ⟨_, _, _, _, _, _⟩) (.bool true) (yl_pickF (by rfl) _ _ _ rfl rfl _ rfl) ?_
    simp only [Act.put, lzA, lzB, lzC]
    refine wl_yield (o := ⟨_, _, _, _, _, _⟩) (.bool true) (yl_move (by rfl) _ rfl _ rfl) ?_
    simp only [Act.put, lzA, lzB, lzC]
    with_reducible refine wl_yield (o := ⟨_, _, _, _, _, _⟩) undef (yl_undef (by kernel_rfl)) ?_
    simp only [Act.put, lzA, lzB, lzC]
    with_reducible refine wl_yield (o := ⟨_, _, _, _, _, _⟩) undef (yl_undef (by kernel_rfl)) ?_
    simp only [Act.put, lzA, lzB, lzC]
    with_reducible refine wl_yield (o := ⟨_, _, _, _, _, _⟩) undef (yl_undef (by kernel_rfl)) ?_
    simp only [Act.put, lzA, lzB, lzC]
    refine wl_yield (o := ⟨_, _, _, _, _, _⟩) (.bool true) (yl_pickT (by rfl) _ _ _ rfl rfl _ rfl) ?_
    simp only [Act.put, lzA, lzB, lzC]
    refine wpList_nil ?_
    refine hK3 _ _ ?_
    clear hK3 K3
    refine wp_cond_true rfl ?_
    refine wp_seq_k (fun K4 hK4 => ?_)
    refine wp_region_lit ?_
    refine wl_call (o := ⟨_, _, _, _, _, _⟩) (by rfl) 10 _ _ rfl #[] rfl (run_call Tryz.func10 (by kernel_rfl) (by kernel_rfl)) ?_
    refine (awake6_any _).mono ?_
    rintro r v4 ⟨rfl, kb⟩
    replace D := D.trans (kb.mono D.size)
    replace HE := HE.on kb
    clear kb
    refine ⟨.bool true, rfl, ?_⟩
    simp only [Act.put, lzA, lzB, lzC]
    refine wl_yield (o := ⟨_, _, _, _, _, _⟩) (.bool true) (yl_assign (by rfl) _ rfl _ rfl) ?_
    simp only [Act.put, lzA, lzB, lzC]
    refine wpList_nil ?_
    refine hK4 _ _ ?_
    clear hK4 K4
    refine wp_ret ?_
    go_ret
    exact ⟨rfl, D⟩
  · refine ⟨.bool true, rfl, ?_⟩
    simp only [Act.put, lzA, lzB, lzC]
    refine wl_yield (o := ⟨_, _, _, _, _, _⟩) (.bool false) (yl_not (by rfl) _ _ rfl true rfl) ?_
    simp only [Act.put, lzA, lzB, lzC]
    refine wl_yield (o := ⟨_, _, _, _, _, _⟩) (.bool false) (yl_pickF (by rfl) _ _ _ rfl rfl _ rfl) ?_
    simp only [Act.put, lzA, lzB, lzC]
    refine wl_yield (o := ⟨_, _, _, _, _, _⟩) (.bool false) (yl_move (by rfl) _ rfl _ rfl) ?_
    simp only [Act.put, lzA, lzB, lzC]
    refine wl_yield (o := ⟨_, _, _, _, _, _⟩) (.slice qg cg.length pg) (yl_move (by rfl) _ rfl _ rfl) ?_
    simp only [Act.put, lzA, lzB, lzC]
    refine wl_call (o := ⟨_, _, _, _, _, _⟩) (by rfl) 18 _ _ rfl #[.slice qg cg.length pg] rfl (run_call Tryz.func18 (by kernel_rfl) (by kernel_rfl)) ?_
    refine (refFew6_any _ g _ (hu.on D)).mono ?_
    rintro r v4 ⟨rfl, kb⟩
    replace D := D.trans (kb.mono D.size)
    replace HE := HE.on kb
    clear kb
    cases hq2 : decide (g.length ≤ 20) && g.all fewBx
    · refine ⟨.bool false, rfl, ?_⟩
      simp only [Act.put, lzA, lzB, lzC]
      refine wl_yield (o := ⟨_, _, _, _, _, _⟩) (.bool true) (yl_not (by rfl) _ _ rfl false rfl) ?_
      simp only [Act.put, lzA, lzB, lzC]
      refine wl_yield (o := ⟨_, _, _, _, _, _⟩) (.bool true) (yl_pickF (by rfl) _ _ _ rfl rfl _ rfl) ?_
      simp only [Act.put, lzA, lzB, lzC]
      refine wpList_nil ?_
      refine hK3 _ _ ?_
      clear hK3 K3
      refine wp_cond_true rfl ?_
      refine wp_seq_k (fun K4 hK4 => ?_)
      refine wp_region_lit ?_
      refine wl_call (o := ⟨_, _, _, _, _, _⟩) (by rfl) 10 _ _ rfl #[] rfl (run_call Tryz.func10 (by kernel_rfl) (by kernel_rfl)) ?_
      refine (awake6_any _).mono ?_
      rintro r v5 ⟨rfl, kb⟩
      replace D := D.trans (kb.mono D.size)
      replace HE := HE.on kb
      clear kb
      refine ⟨.bool true, rfl, ?_⟩
      simp only [Act.put, lzA, lzB, lzC]
      refine wl_yield (o := ⟨_, _, _, _, _, _⟩) (.bool true) (yl_assign (by rfl) _ rfl _ rfl) ?_
      simp only [Act.put, lzA, lzB, lzC]
      refine wpList_nil ?_
      refine hK4 _ _ ?_
      clear hK4 K4
      refine wp_ret ?_
      go_ret
      exact ⟨rfl, D⟩
    · refine ⟨.bool true, rfl, ?_⟩
      simp only [Act.put, lzA, lzB, lzC]
      refine wl_yield (o := ⟨_, _, _, _, _, _⟩) (.bool false) (yl_not (by rfl) _ _ rfl true rfl) ?_
      simp only [Act.put, lzA, lzB, lzC]
      refine wl_yield (o := ⟨_, _, _, _, _, _⟩) (.bool false) (yl_pickF (by rfl) _ _ _ rfl rfl _ rfl) ?_
      simp only [Act.put, lzA, lzB, lzC]
      refine wpList_nil ?_
      refine hK3 _ _ ?_
      clear hK3 K3
      refine wp_cond_false rfl ?_
      refine wp_skip ?_
      refine hK2 _ _ ?_
      clear hK2 K2
      refine wp_seq_k (fun K4 hK4 => ?_)
      refine wp_region_lit ?_
      refine wl_yield (o := ⟨_, _, _, _, _, _⟩) (.slice qf cf.length pf) (yl_move (by rfl) _ rfl _ rfl) ?_
      simp only [Act.put, lzA, lzB, lzC]
      refine wl_call (o := ⟨_, _, _, _, _, _⟩) (by rfl) 23 _ _ rfl #[.slice qf cf.length pf] rfl (run_call Tryz.func23 (by kernel_rfl) (by kernel_rfl)) ?_
      refine (dnfRight_any _ f _ (hv.on D)).mono ?_
      rintro r v5 ⟨rfl, kb⟩
      replace D := D.trans (kb.mono D.size)
      replace HE := HE.on kb
      clear kb
      refine ⟨.bool (rightF f), rfl, ?_⟩
      simp only [Act.put, lzA, lzB, lzC]
      refine wpList_nil ?_
      refine hK4 _ _ ?_
      clear hK4 K4
      refine wp_seq_k (fun K5 hK5 => ?_)
      refine wp_seq_k (fun K6 hK6 => ?_)
      refine wp_region_lit ?_
      refine wl_rowB0 (o := ⟨_, _, _, _, _, _⟩) (by rfl) rfl (fun v6 u0 hO kb => ?_)
      simp only [Act.put, lzA, lzB, lzC]
      have l1 := few_len6 hq1
      have l2 := few_len6 hq2
      obtain ⟨B0, hB0⟩ : ∃ B0, B0 = v5.heap.size := ⟨_, rfl⟩
      rw [← hB0] at hO
      have gE : gb1 < B0 := by rw [hB0]; exact lt_heap HE
      have wB : w.heap.size ≤ B0 := by rw [hB0]; exact D.size
      have hBs : B0 ≤ v6.heap.size := by rw [hB0]; exact kb.size
      replace D := D.trans (kb.mono D.size)
      replace HE := HE.on kb
      clear kb
      refine wl_yield (o := ⟨_, _, _, _, _, _⟩) (.slice qf cf.length pf) (yl_move (by rfl) _ rfl _ rfl) ?_
      simp only [Act.put, lzA, lzB, lzC]
      refine wpList_appRowB (o := ⟨_, _, _, _, _, _⟩) v6 rfl _ _ rfl B0 u0 _ [] cf rfl hO rfl (hrf.on D) nf (by simp only [List.length_append, List.length_nil] at *; omega) hBs (fun u1 v7 hO2 kb => ?_)
      simp only [Act.put, lzA, lzB, lzC]
      replace HE : EvIn v7 gb1 e := (kb.block _ gE).trans HE
      replace D := D.trans (kb.mono wB)
      replace hO := hO2
      replace hBs := Nat.le_trans hBs kb.size
      clear hO2 kb
      refine wl_yield (o := ⟨_, _, _, _, _, _⟩) (.slice qg cg.length pg) (yl_move (by rfl) _ rfl _ rfl) ?_
      simp only [Act.put, lzA, lzB, lzC]
      refine wpList_appRowB (o := ⟨_, _, _, _, _, _⟩) v7 rfl _ _ rfl B0 u1 _ ([] ++ cf) cg rfl hO rfl (hrg.on D) ng (by simp only [List.length_append, List.length_nil] at *; omega) hBs (fun u2 v8 hO2 kb => ?_)
      simp only [Act.put, lzA, lzB, lzC]
      replace HE : EvIn v8 gb1 e := (kb.block _ gE).trans HE
      replace D := D.trans (kb.mono wB)
      replace hO := hO2
      replace hBs := Nat.le_trans hBs kb.size
      clear hO2 kb
      rw [List.nil_append] at hO
      obtain ⟨rs, hrs⟩ : ∃ rs, rs = cf ++ cg := ⟨_, rfl⟩
      rw [← hrs] at hO
      have hrl : rs.length = cf.length + cg.length := by rw [hrs, List.length_append]
      have hA : AllBx w rs (f ++ g) := by rw [hrs]; exact allBx_append haf hag
      obtain ⟨pr, cr, rfl⟩ := hO.sl
      have hR := hO.row (by omega)
      clear hO
      refine wl_yield (o := ⟨_, _, _, _, _, _⟩) (.int .i64 (rs.length : Nat)) (yl_lenB (by rfl) _ rfl _ _ _ rfl) ?_
      simp only [Act.put, lzA, lzB, lzC]
      refine wl_yield (o := ⟨_, _, _, _, _, _⟩) (.int .i64 0) (yl_move (by rfl) _ rfl _ rfl) ?_
      simp only [Act.put, lzA, lzB, lzC]
      refine wpList_nil ?_
      refine hK6 _ _ ?_
      clear hK6 K6
      refine wp_block ?_
      go_loopw [30] (fun i wr => ∃ k : Nat, i = .int .i64 k ∧ k ≤ rs.length ∧ (∀ j, j < k → rightBx ((f ++ g).getD j zBox) = true) ∧ EvIn wr gb1 e ∧ BxRow wr (.slice pr rs.length cr) rs ∧ Below w.heap.size w wr) (fun i _ => rs.length - (intOf i).toNat)
      case atStart => exact ⟨0, rfl, by omega, fun j h => by omega, HE, hR, D⟩
      case round =>
        clear D HE hR
        obtain ⟨k, rfl, hk, hF, HE, hR, D⟩ := hrel
        by_cases hlt : k < rs.length
        · have hkl : k < (f ++ g).length := by rw [← hA.1]; exact hlt
          obtain ⟨gr, off, rfl, HC⟩ := hR.at.2 k hlt
          have HCb := hA.2 k hkl
          refine wp_seq_k (fun K7 hK7 => ?_)
          refine wp_region_lit ?_
          refine wl_yield (o := ⟨_, _, _, _, _, _⟩) (.bool true) (yl_lssI (by rfl) _ _ _ rfl (((k : Nat) : Int)) (((rs.length : Nat) : Int)) true rfl rfl (decide_eq_true (by omega))) ?_
          simp only [Act.put, lzA, lzB, lzC]
          refine wpList_nil ?_
          refine hK7 _ _ ?_
          clear hK7 K7
          refine wp_seq_k (fun K8 hK8 => ?_)
          refine wp_cond_true rfl ?_
          refine wp_skip ?_
          refine hK8 _ _ ?_
          clear hK8 K8
          refine wp_seq_k (fun K9 hK9 => ?_)
          refine wp_block ?_
          refine wp_seq_k (fun K10 hK10 => ?_)
          refine wp_region_lit ?_
          refine wl_yield (o := ⟨_, _, _, _, _, _⟩) (.pointer (some ⟨gr, off + k * 16, none⟩)) (yl_bxAt (by rfl) _ _ rfl gr (off) _ _ (k) rfl rfl (hlt)) ?_
          simp only [Act.put, lzA, lzB, lzC]
          refine wl_yield (o := ⟨_, _, _, _, _, _⟩) (BxC.val (rs.getD k bc0)) (yl_bx (by rfl) _ rfl _ _ rfl _ (fun _ h => by subst h; exact HC)) ?_
          simp only [Act.put, lzA, lzB, lzC]
          refine wl_newB (o := ⟨_, _, _, _, _, _⟩) (o2 := ⟨_, _, _, _, _, _⟩) (by rfl) rfl _ _ rfl rfl (fun _ => rfl) (fun _ => rfl) (fun v9 gb9 hggb9 HQ kb => ?_)
          simp only [Act.put, lzA, lzB, lzC]
          replace D := D.trans (kb.mono D.size)
          replace HE := HE.on kb
          replace hR := hR.on kb
          replace HC := HC.on kb
          clear kb
          refine wpList_nil ?_
          refine hK10 _ _ ?_
          clear hK10 K10
          refine wp_seq_k (fun K11 hK11 => ?_)
          refine wp_region_lit ?_
          refine wl_yield (o := ⟨_, _, _, _, _, _⟩) (BxC.val (rs.getD k bc0)) (yl_bx (by rfl) _ rfl _ _ rfl _ (fun _ h => by subst h; exact BcIn.at HQ)) ?_
          simp only [Act.put, lzA, lzB, lzC]
          refine wl_call (o := ⟨_, _, _, _, _, _⟩) (by rfl) 19 _ _ rfl #[BxC.val (rs.getD k bc0)] rfl (run_call Tryz.func19 (by kernel_rfl) (by kernel_rfl)) ?_
          refine (refRightBx_any _ ((f ++ g).getD k zBox) _ (HCb.on D)).mono ?_
          rintro r v10 ⟨rfl, kb⟩
          replace D := D.trans (kb.mono D.size)
          replace HE := HE.on kb
          replace hR := hR.on kb
          replace HC := HC.on kb
          replace HQ := HQ.on kb
          clear kb
          cases hq : rightBx ((f ++ g).getD k zBox)
          · refine ⟨.bool false, rfl, ?_⟩
            simp only [Act.put, lzA, lzB, lzC]
            refine wl_yield (o := ⟨_, _, _, _, _, _⟩) (.bool true) (yl_not (by rfl) _ _ rfl false rfl) ?_
            simp only [Act.put, lzA, lzB, lzC]
            refine wpList_nil ?_
            refine hK11 _ _ ?_
            clear hK11 K11
            refine wp_cond_true rfl ?_
            refine wp_seq_k (fun K12 hK12 => ?_)
            refine wp_region_lit ?_
            refine wl_yield (o := ⟨_, _, _, _, _, _⟩) (.bool true) (yl_assign (by rfl) _ rfl _ rfl) ?_
            simp only [Act.put, lzA, lzB, lzC]
            refine wpList_nil ?_
            refine hK12 _ _ ?_
            clear hK12 K12
            refine wp_ret ?_
            go_ret
            exact ⟨rfl, D⟩
          · refine ⟨.bool true, rfl, ?_⟩
            simp only [Act.put, lzA, lzB, lzC]
            refine wl_yield (o := ⟨_, _, _, _, _, _⟩) (.bool false) (yl_not (by rfl) _ _ rfl true rfl) ?_
            simp only [Act.put, lzA, lzB, lzC]
            refine wpList_nil ?_
            refine hK11 _ _ ?_
            clear hK11 K11
            refine wp_cond_false rfl ?_
            refine wp_skip ?_
            refine hK9 _ _ ?_
            clear hK9 K9
            refine wp_region_lit ?_
            refine wl_yield (o := ⟨_, _, _, _, _, _⟩) (.int .i64 (k + 1 : Nat)) (yl_addI (by rfl) _ _ _ rfl (((k : Nat) : Int)) (1) (((k + 1 : Nat) : Int)) rfl rfl (by omega) (by omega) (by omega)) ?_
            simp only [Act.put, lzA, lzB, lzC]
            refine wl_yield (o := ⟨_, _, _, _, _, _⟩) (.int .i64 (k + 1 : Nat)) (yl_move (by rfl) _ rfl _ rfl) ?_
            simp only [Act.put, lzA, lzB, lzC]
            refine wpList_nil ?_
            show _ ∧ _
            go_roundw
            case rel => exact ⟨k + 1, rfl, by omega, fun j hj => by
              rcases Nat.lt_succ_iff_lt_or_eq.1 hj with h | rfl
              · exact hF j h
              · exact hq, HE, hR, D⟩
            case measure => simp [intOf]; omega
        · have hall : ∀ b ∈ f ++ g, rightBx b = true := fun b hb => by
            obtain ⟨i, hi, rfl⟩ := List.getElem_of_mem hb
            have h := hF i (by have := hA.1; omega)
            rw [List.getD_eq_getElem?_getD, List.getElem?_eq_getElem hi] at h
            exact h
          have ff := few_all hv hq1 (fun b hb => hall b (by simp [hb]))
          have fg := few_all hu hq2 (fun b hb => hall b (by simp [hb]))
          clear hR
          refine wp_seq_k (fun K7 hK7 => ?_)
          refine wp_region_lit ?_
          refine wl_yield (o := ⟨_, _, _, _, _, _⟩) (.bool false) (yl_lssI (by rfl) _ _ _ rfl (((k : Nat) : Int)) (((rs.length : Nat) : Int)) false rfl rfl (decide_eq_false (by omega))) ?_
          simp only [Act.put, lzA, lzB, lzC]
          refine wpList_nil ?_
          refine hK7 _ _ ?_
          clear hK7 K7
          refine wp_seq_k (fun K8 hK8 => ?_)
          refine wp_cond_false rfl ?_
          refine wp_exit ?_
          refine hK5 _ _ ?_
          clear hK8 K8 hK5 K5
          refine wp_seq_k (fun K9 hK9 => ?_)
          refine wp_region_held_drew (S := fun w' => EvIn w' gb1 e) (by kernel_rfl) (HE.on (Below.refl _ _).drew) (fun hHeld => ?_)
          have kb : Below wr.heap.size wr wr.drew := (Below.refl _ wr).drew
          replace D := D.trans (kb.mono D.size)
          replace HE := HE.on kb
          clear kb
          generalize wr.drew = v9 at D hHeld HE ⊢
          refine wpAnyH_take (i := 0) (oi := ⟨_, _, _, _, _, _⟩) (v := .slice qf cf.length pf) rfl (by kernel_rfl) (by kernel_rfl) (by kernel_rfl) (fun _ _ _ h => h) (yl_move (by rfl) _ rfl _ rfl) (by assumption) ?_
          simp only [Act.put, lzA, lzB, lzC]
          refine wpAnyH_take (i := 2) (oi := ⟨_, _, _, _, _, _⟩) (v := .slice qf cf.length pf) rfl (by kernel_rfl) (by kernel_rfl) (by kernel_rfl) (fun _ _ _ h => h) (yl_move (by rfl) _ rfl _ rfl) (by assumption) ?_
          simp only [Act.put, lzA, lzB, lzC]
          refine held_call (o := ⟨_, _, _, _, _, _⟩) 1 (by kernel_rfl) rfl (by rfl) 23 _ _ rfl #[.slice qf cf.length pf] rfl (run_call Tryz.func23 (by kernel_rfl) (by kernel_rfl)) ?_
          refine (dnfRight_any _ f _ (hv.on D)).mono ?_
          rintro r v10 ⟨rfl, kb⟩
          replace D := D.trans (kb.mono D.size)
          replace HE := HE.on kb
          clear kb
          clear hHeld
          refine ⟨.bool (rightF f), rfl, HE, fun hHeld => ?_⟩
          simp only [Act.put, lzA, lzB, lzC]
          refine held_call (o := ⟨_, _, _, _, _, _⟩) 3 (by kernel_rfl) rfl (by rfl) 17 _ _ rfl #[.slice qf cf.length pf] rfl (run_call Tryz.func17 (by kernel_rfl) (by kernel_rfl)) ?_
          refine (refRight6_any _ f _ (hv.on D) ff).mono ?_
          rintro r v11 ⟨rfl, kb⟩
          replace D := D.trans (kb.mono D.size)
          replace HE := HE.on kb
          clear kb
          clear hHeld
          refine ⟨.bool (rightF f), rfl, HE, fun hHeld => ?_⟩
          simp only [Act.put, lzA, lzB, lzC]
          refine wpAnyH_take (i := 4) (oi := ⟨_, _, _, _, _, _⟩) (v := .bool true) rfl (by kernel_rfl) (by kernel_rfl) (by kernel_rfl) (fun _ _ _ h => h) (yl_eqSame (by rfl) _ _ _ rfl (rightF f) rfl rfl) (by assumption) ?_
          simp only [Act.put, lzA, lzB, lzC]
          refine wpAnyH_take (i := 5) (oi := ⟨_, _, _, _, _, _⟩) (v := .bool true) rfl (by kernel_rfl) (by kernel_rfl) (by kernel_rfl) (fun _ _ _ h => h) (yl_move (by rfl) _ rfl _ rfl) (by assumption) ?_
          simp only [Act.put, lzA, lzB, lzC]
          refine wpAnyH_take (i := 6) (oi := ⟨_, _, _, _, _, _⟩) (v := .slice qf cf.length pf) rfl (by kernel_rfl) (by kernel_rfl) (by kernel_rfl) (fun _ _ _ h => h) (yl_move (by rfl) _ rfl _ rfl) (by assumption) ?_
          simp only [Act.put, lzA, lzB, lzC]
          refine wpAnyH_take (i := 7) (oi := ⟨_, _, _, _, _, _⟩) (v := evVal e) rfl (by kernel_rfl) (by kernel_rfl) (by kernel_rfl) (fun _ _ _ h => h) (yl_ev (by rfl) _ rfl _ 0 rfl _ _ _ _ _ _ _ _ _ _ _ _ (fun _ h => evCells h)) (by assumption) ?_
          simp only [Act.put, lzA, lzB, lzC]
          refine wpAnyH_take (i := 9) (oi := ⟨_, _, _, _, _, _⟩) (v := .slice qf cf.length pf) rfl (by kernel_rfl) (by kernel_rfl) (by kernel_rfl) (fun _ _ _ h => h) (yl_move (by rfl) _ rfl _ rfl) (by assumption) ?_
          simp only [Act.put, lzA, lzB, lzC]
          refine wpAnyH_take (i := 10) (oi := ⟨_, _, _, _, _, _⟩) (v := evVal e) rfl (by kernel_rfl) (by kernel_rfl) (by kernel_rfl) (fun _ _ _ h => h) (yl_ev (by rfl) _ rfl _ 0 rfl _ _ _ _ _ _ _ _ _ _ _ _ (fun _ h => evCells h)) (by assumption) ?_
          simp only [Act.put, lzA, lzB, lzC]
          refine held_call (o := ⟨_, _, _, _, _, _⟩) 8 (by kernel_rfl) rfl (by rfl) 15 _ _ rfl #[.slice qf cf.length pf, evVal e] rfl (run_call Tryz.func15 (by kernel_rfl) (by kernel_rfl)) ?_
          refine (progHas_any _ f e _ (hv.on D) (fun b hb => (ff b hb).fit) hf he).mono ?_
          rintro r v12 ⟨rfl, kb⟩
          replace D := D.trans (kb.mono D.size)
          replace HE := HE.on kb
          clear kb
          clear hHeld
          refine ⟨.bool (hasL f e), rfl, HE, fun hHeld => ?_⟩
          simp only [Act.put, lzA, lzB, lzC]
          refine held_call (o := ⟨_, _, _, _, _, _⟩) 11 (by kernel_rfl) rfl (by rfl) 22 _ _ rfl #[.slice qf cf.length pf, evVal e] rfl (run_call Tryz.func22 (by kernel_rfl) (by kernel_rfl)) ?_
          refine (refHas6_any _ f e _ (hv.on D) hf).mono ?_
          rintro r v13 ⟨rfl, kb⟩
          replace D := D.trans (kb.mono D.size)
          replace HE := HE.on kb
          clear kb
          clear hHeld
          refine ⟨.bool (hasL f e), rfl, HE, fun hHeld => ?_⟩
          simp only [Act.put, lzA, lzB, lzC]
          refine wpAnyH_take (i := 12) (oi := ⟨_, _, _, _, _, _⟩) (v := .bool true) rfl (by kernel_rfl) (by kernel_rfl) (by kernel_rfl) (fun _ _ _ h => h) (yl_eqSame (by rfl) _ _ _ rfl (hasL f e) rfl rfl) (by assumption) ?_
          simp only [Act.put, lzA, lzB, lzC]
          refine wpAnyH_take (i := 13) (oi := ⟨_, _, _, _, _, _⟩) (v := .bool true) rfl (by kernel_rfl) (by kernel_rfl) (by kernel_rfl) (fun _ _ _ h => h) (yl_pickT (by rfl) _ _ _ rfl rfl _ rfl) (by assumption) ?_
          simp only [Act.put, lzA, lzB, lzC]
          refine wpAnyH_take (i := 14) (oi := ⟨_, _, _, _, _, _⟩) (v := .bool true) rfl (by kernel_rfl) (by kernel_rfl) (by kernel_rfl) (fun _ _ _ h => h) (yl_move (by rfl) _ rfl _ rfl) (by assumption) ?_
          simp only [Act.put, lzA, lzB, lzC]
          refine wpAnyH_take (i := 15) (oi := ⟨_, _, _, _, _, _⟩) (v := .slice qf cf.length pf) rfl (by kernel_rfl) (by kernel_rfl) (by kernel_rfl) (fun _ _ _ h => h) (yl_move (by rfl) _ rfl _ rfl) (by assumption) ?_
          simp only [Act.put, lzA, lzB, lzC]
          refine wpAnyH_take (i := 16) (oi := ⟨_, _, _, _, _, _⟩) (v := .slice qg cg.length pg) rfl (by kernel_rfl) (by kernel_rfl) (by kernel_rfl) (fun _ _ _ h => h) (yl_move (by rfl) _ rfl _ rfl) (by assumption) ?_
          simp only [Act.put, lzA, lzB, lzC]
          refine wpAnyH_take (i := 18) (oi := ⟨_, _, _, _, _, _⟩) (v := .slice qf cf.length pf) rfl (by kernel_rfl) (by kernel_rfl) (by kernel_rfl) (fun _ _ _ h => h) (yl_move (by rfl) _ rfl _ rfl) (by assumption) ?_
          simp only [Act.put, lzA, lzB, lzC]
          refine wpAnyH_take (i := 19) (oi := ⟨_, _, _, _, _, _⟩) (v := .slice qg cg.length pg) rfl (by kernel_rfl) (by kernel_rfl) (by kernel_rfl) (fun _ _ _ h => h) (yl_move (by rfl) _ rfl _ rfl) (by assumption) ?_
          simp only [Act.put, lzA, lzB, lzC]
          refine held_call (o := ⟨_, _, _, _, _, _⟩) 17 (by kernel_rfl) rfl (by rfl) 24 _ _ rfl #[.slice qf cf.length pf, .slice qg cg.length pg] rfl (run_call Tryz.func24 (by kernel_rfl) (by kernel_rfl)) ?_
          refine (dnfSame_any _ _ f g _ (hv.on D) (hu.on D) (fun b hb => (ff b hb).fit) (fun b hb => (fg b hb).fit)).mono ?_
          rintro r v14 ⟨rfl, kb⟩
          replace D := D.trans (kb.mono D.size)
          replace HE := HE.on kb
          clear kb
          clear hHeld
          refine ⟨.bool (sameF f g), rfl, HE, fun hHeld => ?_⟩
          simp only [Act.put, lzA, lzB, lzC]
          refine held_call (o := ⟨_, _, _, _, _, _⟩) 20 (by kernel_rfl) rfl (by rfl) 14 _ _ rfl #[.slice qf cf.length pf, .slice qg cg.length pg] rfl (run_call Tryz.func14 (by kernel_rfl) (by kernel_rfl)) ?_
          refine (refSame6_any _ _ f g _ (hv.on D) (hu.on D)).mono ?_
          rintro r v15 ⟨rfl, kb⟩
          replace D := D.trans (kb.mono D.size)
          replace HE := HE.on kb
          clear kb
          clear hHeld
          refine ⟨.bool (sameF f g), rfl, HE, fun hHeld => ?_⟩
          simp only [Act.put, lzA, lzB, lzC]
          refine wpAnyH_take (i := 21) (oi := ⟨_, _, _, _, _, _⟩) (v := .bool true) rfl (by kernel_rfl) (by kernel_rfl) (by kernel_rfl) (fun _ _ _ h => h) (yl_eqSame (by rfl) _ _ _ rfl (sameF f g) rfl rfl) (by assumption) ?_
          simp only [Act.put, lzA, lzB, lzC]
          refine wpAnyH_take (i := 22) (oi := ⟨_, _, _, _, _, _⟩) (v := .bool true) rfl (by kernel_rfl) (by kernel_rfl) (by kernel_rfl) (fun _ _ _ h => h) (yl_pickT (by rfl) _ _ _ rfl rfl _ rfl) (by assumption) ?_
          simp only [Act.put, lzA, lzB, lzC]
          refine wpAnyH_take (i := 23) (oi := ⟨_, _, _, _, _, _⟩) (v := .bool true) rfl (by kernel_rfl) (by kernel_rfl) (by kernel_rfl) (fun _ _ _ h => h) (yl_assign (by rfl) _ rfl _ rfl) (by assumption) ?_
          simp only [Act.put, lzA, lzB, lzC]
          refine wpAnyH_done (by kernel_rfl) ?_ _
          clear hHeld
          refine hK9 _ _ ?_
          clear hK9 K9
          refine wp_ret ?_
          go_ret
          exact ⟨rfl, D⟩
end Go.Proofs.YtlfhpocfacaaeaaGreat
