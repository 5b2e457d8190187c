import Derived.Test.YtlmdcaemjaldfaaGreatR4
import Derived.Test.YtlmdcaemjaldfaaGreatR2
set_option linter.unusedSimpArgs false
set_option linter.unusedVariables false
namespace Go.Proofs.YtlmdcaemjaldfaaGreat
open Go.RowKit
set_option maxHeartbeats 4000000 in
set_option maxRecDepth 100000 in
theorem refSmallBx_any (c : BxC) (b : BoxV) (w : World) (hv0 : BoxAt w c.val b) :
    Calls Tryz.prog 59 #[c.val] w fun r w' => r = .returned (.bool (smallBx b)) ∧ Below w.heap.size w w' := by
  have hv := hv0
  have D := Below.refl w.heap.size w
  go_enter Tryz.func59, Tryz.ntmps59
  refine wp_seq_k (fun K1 hK1 => ?_)
  refine wp_region_lit ?_
  refine wl_boxBc (o := ⟨_, _, _, _, _, _⟩) (by rfl) _ rfl rfl (fun v1 gb1 hggb1 HB kb => ?_)
  simp only [Act.put, lzA, lzB, lzC]
  replace D := D.trans (kb.mono D.size)
  replace hv := hv.on kb
  clear kb
  refine wl_yield (o := ⟨_, _, _, _, _, _⟩) (.bool false) (yl_assign (by rfl) _ rfl _ rfl) ?_
  simp only [Act.put, lzA, lzB, lzC]
  refine wpList_nil ?_
  refine hK1 _ _ ?_
  clear hK1 K1
  refine wp_seq_k (fun K2 hK2 => ?_)
  refine wp_seq_k (fun K3 hK3 => ?_)
  refine wp_region_lit ?_
  refine wl_yield (o := ⟨_, _, _, _, _, _⟩) (.int .i64 0) (yl_assign (by rfl) _ rfl _ rfl) ?_
  simp only [Act.put, lzA, lzB, lzC]
  refine wpList_nil ?_
  refine hK3 _ _ ?_
  clear hK3 K3
  refine wp_block ?_
  go_loopw [3] (fun i wr => ∃ k : Nat, i = .int .i64 k ∧ k ≤ 4 ∧ (∀ j, j < k → smallB (b.get j) = true) ∧ BcIn wr gb1 c ∧ Below w.heap.size w wr) (fun i _ => 4 - (intOf i).toNat)
  case atStart => exact ⟨0, rfl, by omega, fun j h => by omega, HB, D⟩
  case round =>
    replace hv := hv0
    clear D HB
    obtain ⟨k, rfl, hk, hF, HB, D⟩ := hrel
    replace hv := hv.on D
    by_cases hlt : k < 4
    · refine wp_seq_k (fun K4 hK4 => ?_)
      refine wp_seq_k (fun K5 hK5 => ?_)
      refine wp_region_lit ?_
      refine wl_yield (o := ⟨_, _, _, _, _, _⟩) (.int .i64 (k : Nat)) (yl_move (by rfl) _ rfl _ rfl) ?_
      simp only [Act.put, lzA, lzB, lzC]
      refine wl_yield (o := ⟨_, _, _, _, _, _⟩) (.bool true) (yl_lssI (by rfl) _ _ _ rfl (((k : Nat) : Int)) (4) true rfl rfl (decide_eq_true (by omega))) ?_
      simp only [Act.put, lzA, lzB, lzC]
      refine wpList_nil ?_
      refine hK5 _ _ ?_
      clear hK5 K5
      refine wp_cond_true rfl ?_
      refine wp_skip ?_
      refine hK4 _ _ ?_
      clear hK4 K4
      refine wp_seq_k (fun K6 hK6 => ?_)
      refine wp_block ?_
      refine wp_seq_k (fun K7 hK7 => ?_)
      refine wp_region_lit ?_
      refine wl_yield (o := ⟨_, _, _, _, _, _⟩) (.int .i64 (k : Nat)) (yl_move (by rfl) _ rfl _ rfl) ?_
      simp only [Act.put, lzA, lzB, lzC]
      refine wl_yield (o := ⟨_, _, _, _, _, _⟩) (.pointer (some ⟨gb1, k * 4, none⟩)) (yl_atBox (by rfl) _ _ rfl gb1 k rfl rfl (hlt)) ?_
      simp only [Act.put, lzA, lzB, lzC]
      refine wl_yield (o := ⟨_, _, _, _, _, _⟩) (SC.val (BxC.sc c k)) (yl_set (by rfl) _ rfl _ (k * 4) rfl _ _ _ _ (fun _ h => by subst h; exact BcIn.scAt k (hlt) HB)) ?_
      simp only [Act.put, lzA, lzB, lzC]
      refine wl_call (o := ⟨_, _, _, _, _, _⟩) (by rfl) 108 _ _ rfl #[SC.val (BxC.sc c k)] rfl (run_call Tryz.func108 (by kernel_rfl) (by kernel_rfl)) ?_
      refine (refSmall_any _ (b.get k) _ (hv.sc k hlt)).mono ?_
      rintro r v2 ⟨rfl, kb⟩
      replace D := D.trans (kb.mono D.size)
      replace hv := hv.on kb
      replace HB := HB.on kb
      clear kb
      cases hq : smallB (b.get k)
      · refine ⟨.bool false, rfl, ?_⟩
        simp only [Act.put, lzA, lzB, lzC]
        refine wl_yield (o := ⟨_, _, _, _, _, _⟩) (.bool true) (yl_not (by rfl) _ _ rfl false rfl) ?_
        simp only [Act.put, lzA, lzB, lzC]
        refine wpList_nil ?_
        refine hK7 _ _ ?_
        clear hK7 K7
        refine wp_cond_true rfl ?_
        refine wp_seq_k (fun K8 hK8 => ?_)
        refine wp_region_lit ?_
        refine wl_yield (o := ⟨_, _, _, _, _, _⟩) (.bool false) (yl_assign (by rfl) _ rfl _ rfl) ?_
        simp only [Act.put, lzA, lzB, lzC]
        refine wpList_nil ?_
        refine hK8 _ _ ?_
        clear hK8 K8
        refine wp_ret ?_
        go_ret
        exact ⟨by rw [show smallBx b = false from all4_no hlt hq]; rfl, D⟩
      · refine ⟨.bool true, rfl, ?_⟩
        simp only [Act.put, lzA, lzB, lzC]
        refine wl_yield (o := ⟨_, _, _, _, _, _⟩) (.bool false) (yl_not (by rfl) _ _ rfl true rfl) ?_
        simp only [Act.put, lzA, lzB, lzC]
        refine wpList_nil ?_
        refine hK7 _ _ ?_
        clear hK7 K7
        refine wp_cond_false rfl ?_
        refine wp_skip ?_
        refine hK6 _ _ ?_
        clear hK6 K6
        refine wp_region_lit ?_
        refine wl_yield (o := ⟨_, _, _, _, _, _⟩) (.int .i64 (k : Nat)) (yl_move (by rfl) _ rfl _ rfl) ?_
        simp only [Act.put, lzA, lzB, lzC]
        refine wl_yield (o := ⟨_, _, _, _, _, _⟩) (.int .i64 (k + 1 : Nat)) (yl_addI (by rfl) _ _ _ rfl (((k : Nat) : Int)) (1) (((k + 1 : Nat) : Int)) rfl rfl (by omega) (by omega) (by omega)) ?_
        simp only [Act.put, lzA, lzB, lzC]
        refine wl_yield (o := ⟨_, _, _, _, _, _⟩) (.int .i64 (k + 1 : Nat)) (yl_assign (by rfl) _ rfl _ rfl) ?_
        simp only [Act.put, lzA, lzB, lzC]
        refine wpList_nil ?_
        show _ ∧ _
        go_roundw
        case rel => exact ⟨k + 1, rfl, by omega, fun j hj => by
          rcases Nat.lt_succ_iff_lt_or_eq.1 hj with h | rfl
          · exact hF j h
          · exact hq, HB, D⟩
        case measure => simp [intOf]; omega
    · refine wp_seq_k (fun K4 hK4 => ?_)
      refine wp_seq_k (fun K5 hK5 => ?_)
      refine wp_region_lit ?_
      refine wl_yield (o := ⟨_, _, _, _, _, _⟩) (.int .i64 (k : Nat)) (yl_move (by rfl) _ rfl _ rfl) ?_
      simp only [Act.put, lzA, lzB, lzC]
      refine wl_yield (o := ⟨_, _, _, _, _, _⟩) (.bool false) (yl_lssI (by rfl) _ _ _ rfl (((k : Nat) : Int)) (4) false rfl rfl (decide_eq_false (by omega))) ?_
      simp only [Act.put, lzA, lzB, lzC]
      refine wpList_nil ?_
      refine hK5 _ _ ?_
      clear hK5 K5
      refine wp_cond_false rfl ?_
      refine wp_exit ?_
      refine hK2 _ _ ?_
      clear hK4 K4 hK2 K2
      refine wp_seq_k (fun K6 hK6 => ?_)
      refine wp_region_lit ?_
      refine wl_yield (o := ⟨_, _, _, _, _, _⟩) (.bool true) (yl_assign (by rfl) _ rfl _ rfl) ?_
      simp only [Act.put, lzA, lzB, lzC]
      refine wpList_nil ?_
      refine hK6 _ _ ?_
      clear hK6 K6
      refine wp_ret ?_
      go_ret
      exact ⟨by rw [show smallBx b = true from (all4_iff _).2 fun i hi => hF i (by omega)]; rfl, D⟩
theorem empty_yes {b : BoxV} {i : Nat} (hi : i < 4) (h : emptyB (b.get i) = true) : emptyBx b = true := by
  cases hq : emptyBx b
  · rw [(emptyBx_iff b).1 hq i hi] at h; cases h
  · rfl
set_option maxHeartbeats 4000000 in
set_option maxRecDepth 100000 in
theorem refEmptyBx_any (c : BxC) (b : BoxV) (w : World) (hv0 : BoxAt w c.val b) :
    Calls Tryz.prog 109 #[c.val] w fun r w' => r = .returned (.bool (emptyBx b)) ∧ Below w.heap.size w w' := by
  have hv := hv0
  have D := Below.refl w.heap.size w
  go_enter Tryz.func109, Tryz.ntmps109
  refine wp_seq_k (fun K1 hK1 => ?_)
  refine wp_region_lit ?_
  refine wl_boxBc (o := ⟨_, _, _, _, _, _⟩) (by rfl) _ rfl rfl (fun v1 gb1 hggb1 HB kb => ?_)
  simp only [Act.put, lzA, lzB, lzC]
  replace D := D.trans (kb.mono D.size)
  replace hv := hv.on kb
  clear kb
  refine wl_yield (o := ⟨_, _, _, _, _, _⟩) (.bool false) (yl_assign (by rfl) _ rfl _ rfl) ?_
  simp only [Act.put, lzA, lzB, lzC]
  refine wpList_nil ?_
  refine hK1 _ _ ?_
  clear hK1 K1
  refine wp_seq_k (fun K2 hK2 => ?_)
  refine wp_seq_k (fun K3 hK3 => ?_)
  refine wp_region_lit ?_
  refine wl_yield (o := ⟨_, _, _, _, _, _⟩) (.int .i64 0) (yl_assign (by rfl) _ rfl _ rfl) ?_
  simp only [Act.put, lzA, lzB, lzC]
  refine wpList_nil ?_
  refine hK3 _ _ ?_
  clear hK3 K3
  refine wp_block ?_
  go_loopw [3] (fun i wr => ∃ k : Nat, i = .int .i64 k ∧ k ≤ 4 ∧ (∀ j, j < k → emptyB (b.get j) = false) ∧ BcIn wr gb1 c ∧ Below w.heap.size w wr) (fun i _ => 4 - (intOf i).toNat)
  case atStart => exact ⟨0, rfl, by omega, fun j h => by omega, HB, D⟩
  case round =>
    replace hv := hv0
    clear D HB
    obtain ⟨k, rfl, hk, hF, HB, D⟩ := hrel
    replace hv := hv.on D
    by_cases hlt : k < 4
    · refine wp_seq_k (fun K4 hK4 => ?_)
      refine wp_seq_k (fun K5 hK5 => ?_)
      refine wp_region_lit ?_
      refine wl_yield (o := ⟨_, _, _, _, _, _⟩) (.int .i64 (k : Nat)) (yl_move (by rfl) _ rfl _ rfl) ?_
      simp only [Act.put, lzA, lzB, lzC]
      refine wl_yield (o := ⟨_, _, _, _, _, _⟩) (.bool true) (yl_lssI (by rfl) _ _ _ rfl (((k : Nat) : Int)) (4) true rfl rfl (decide_eq_true (by omega))) ?_
      simp only [Act.put, lzA, lzB, lzC]
      refine wpList_nil ?_
      refine hK5 _ _ ?_
      clear hK5 K5
      refine wp_cond_true rfl ?_
      refine wp_skip ?_
      refine hK4 _ _ ?_
      clear hK4 K4
      refine wp_seq_k (fun K6 hK6 => ?_)
      refine wp_block ?_
      refine wp_seq_k (fun K7 hK7 => ?_)
      refine wp_region_lit ?_
      refine wl_yield (o := ⟨_, _, _, _, _, _⟩) (.int .i64 (k : Nat)) (yl_move (by rfl) _ rfl _ rfl) ?_
      simp only [Act.put, lzA, lzB, lzC]
      refine wl_yield (o := ⟨_, _, _, _, _, _⟩) (.pointer (some ⟨gb1, k * 4, none⟩)) (yl_atBox (by rfl) _ _ rfl gb1 k rfl rfl (hlt)) ?_
      simp only [Act.put, lzA, lzB, lzC]
      refine wl_yield (o := ⟨_, _, _, _, _, _⟩) (SC.val (BxC.sc c k)) (yl_set (by rfl) _ rfl _ (k * 4) rfl _ _ _ _ (fun _ h => by subst h; exact BcIn.scAt k (hlt) HB)) ?_
      simp only [Act.put, lzA, lzB, lzC]
      refine wl_call (o := ⟨_, _, _, _, _, _⟩) (by rfl) 146 _ _ rfl #[SC.val (BxC.sc c k)] rfl (run_call Tryz.func146 (by kernel_rfl) (by kernel_rfl)) ?_
      refine (refEmpty3_any _ (b.get k) _ (hv.sc k hlt)).mono ?_
      rintro r v2 ⟨rfl, kb⟩
      replace D := D.trans (kb.mono D.size)
      replace hv := hv.on kb
      replace HB := HB.on kb
      clear kb
      cases hq : emptyB (b.get k)
      · refine ⟨.bool false, rfl, ?_⟩
        simp only [Act.put, lzA, lzB, lzC]
        refine wpList_nil ?_
        refine hK7 _ _ ?_
        clear hK7 K7
        refine wp_cond_false rfl ?_
        refine wp_skip ?_
        refine hK6 _ _ ?_
        clear hK6 K6
        refine wp_region_lit ?_
        refine wl_yield (o := ⟨_, _, _, _, _, _⟩) (.int .i64 (k : Nat)) (yl_move (by rfl) _ rfl _ rfl) ?_
        simp only [Act.put, lzA, lzB, lzC]
        refine wl_yield (o := ⟨_, _, _, _, _, _⟩) (.int .i64 (k + 1 : Nat)) (yl_addI (by rfl) _ _ _ rfl (((k : Nat) : Int)) (1) (((k + 1 : Nat) : Int)) rfl rfl (by omega) (by omega) (by omega)) ?_
        simp only [Act.put, lzA, lzB, lzC]
        refine wl_yield (o := ⟨_, _, _, _, _, _⟩) (.int .i64 (k + 1 : Nat)) (yl_assign (by rfl) _ rfl _ rfl) ?_
        simp only [Act.put, lzA, lzB, lzC]
        refine wpList_nil ?_
        show _ ∧ _
        go_roundw
        case rel => exact ⟨k + 1, rfl, by omega, fun j hj => by
          rcases Nat.lt_succ_iff_lt_or_eq.1 hj with h | rfl
          · exact hF j h
          · exact hq, HB, D⟩
        case measure => simp [intOf]; omega
      · refine ⟨.bool true, rfl, ?_⟩
        simp only [Act.put, lzA, lzB, lzC]
        refine wpList_nil ?_
        refine hK7 _ _ ?_
        clear hK7 K7
        refine wp_cond_true rfl ?_
        refine wp_seq_k (fun K8 hK8 => ?_)
        refine wp_region_lit ?_
        refine wl_yield (o := ⟨_, _, _, _, _, _⟩) (.bool true) (yl_assign (by rfl) _ rfl _ rfl) ?_
        simp only [Act.put, lzA, lzB, lzC]
        refine wpList_nil ?_
        refine hK8 _ _ ?_
        clear hK8 K8
        refine wp_ret ?_
        go_ret
        exact ⟨by rw [show emptyBx b = true from empty_yes hlt hq]; rfl, D⟩
    · refine wp_seq_k (fun K4 hK4 => ?_)
      refine wp_seq_k (fun K5 hK5 => ?_)
      refine wp_region_lit ?_
      refine wl_yield (o := ⟨_, _, _, _, _, _⟩) (.int .i64 (k : Nat)) (yl_move (by rfl) _ rfl _ rfl) ?_
      simp only [Act.put, lzA, lzB, lzC]
      refine wl_yield (o := ⟨_, _, _, _, _, _⟩) (.bool false) (yl_lssI (by rfl) _ _ _ rfl (((k : Nat) : Int)) (4) false rfl rfl (decide_eq_false (by omega))) ?_
      simp only [Act.put, lzA, lzB, lzC]
      refine wpList_nil ?_
      refine hK5 _ _ ?_
      clear hK5 K5
      refine wp_cond_false rfl ?_
      refine wp_exit ?_
      refine hK2 _ _ ?_
      clear hK4 K4 hK2 K2
      refine wp_seq_k (fun K6 hK6 => ?_)
      refine wp_region_lit ?_
      refine wl_yield (o := ⟨_, _, _, _, _, _⟩) (.bool false) (yl_assign (by rfl) _ rfl _ rfl) ?_
      simp only [Act.put, lzA, lzB, lzC]
      refine wpList_nil ?_
      refine hK6 _ _ ?_
      clear hK6 K6
      refine wp_ret ?_
      go_ret
      exact ⟨by rw [show emptyBx b = false from (emptyBx_iff b).2 fun i hi => hF i (by omega)]; rfl, D⟩
set_option maxHeartbeats 4000000 in
set_option maxRecDepth 100000 in
theorem refInBx_any (c d : BxC) (a b : BoxV) (w : World) (hv0 : BoxAt w c.val a) (hu0 : BoxAt w d.val b) (fa : MidB a) (fb : MidB b) :
    Calls Tryz.prog 110 #[c.val, d.val] w fun r w' => r = .returned (.bool (inBx a b)) ∧ Below w.heap.size w w' := by
  have hv := hv0
  have hu := hu0
  have D := Below.refl w.heap.size w
  go_enter Tryz.func110, Tryz.ntmps110
  refine wp_seq_k (fun K1 hK1 => ?_)
  refine wp_region_lit ?_
  refine wl_boxBc (o := ⟨_, _, _, _, _, _⟩) (by rfl) _ rfl rfl (fun v1 gb1 hggb1 HA kb => ?_)
  simp only [Act.put, lzA, lzB, lzC]
  replace D := D.trans (kb.mono D.size)
  replace hv := hv.on kb
  replace hu := hu.on kb
  clear kb
  refine wl_boxBc (o := ⟨_, _, _, _, _, _⟩) (by rfl) _ rfl rfl (fun v2 gb2 hggb2 HB kb => ?_)
  simp only [Act.put, lzA, lzB, lzC]
  replace D := D.trans (kb.mono D.size)
  replace hv := hv.on kb
  replace hu := hu.on kb
  replace HA := HA.on kb
  clear kb
  refine wl_yield (o := ⟨_, _, _, _, _, _⟩) (.bool false) (yl_assign (by rfl) _ rfl _ rfl) ?_
  simp only [Act.put, lzA, lzB, lzC]
  refine wpList_nil ?_
  refine hK1 _ _ ?_
  clear hK1 K1
  refine wp_seq_k (fun K2 hK2 => ?_)
  refine wp_seq_k (fun K3 hK3 => ?_)
  refine wp_region_lit ?_
  refine wl_yield (o := ⟨_, _, _, _, _, _⟩) (BxC.val c) (yl_bx (by rfl) _ rfl _ _ rfl _ (fun _ h => by subst h; exact BcIn.at HA)) ?_
  simp only [Act.put, lzA, lzB, lzC]
  refine wl_call (o := ⟨_, _, _, _, _, _⟩) (by rfl) 109 _ _ rfl #[BxC.val c] rfl (run_call Tryz.func109 (by kernel_rfl) (by kernel_rfl)) ?_
  refine (refEmptyBx_any c a _ hv).mono ?_
  rintro r v3 ⟨rfl, kb⟩
  replace D := D.trans (kb.mono D.size)
  replace hv := hv.on kb
  replace hu := hu.on kb
  replace HA := HA.on kb
  replace HB := HB.on kb
  clear kb
  cases hE : emptyBx a
  · refine ⟨.bool false, rfl, ?_⟩
    simp only [Act.put, lzA, lzB, lzC]
    refine wpList_nil ?_
    refine hK3 _ _ ?_
    clear hK3 K3
    refine wp_cond_false rfl ?_
    refine wp_skip ?_
    refine hK2 _ _ ?_
    clear hK2 K2
    refine wp_seq_k (fun K4 hK4 => ?_)
    refine wp_seq_k (fun K5 hK5 => ?_)
    refine wp_region_lit ?_
    refine wl_yield (o := ⟨_, _, _, _, _, _⟩) (.int .i64 0) (yl_assign (by rfl) _ rfl _ rfl) ?_
    simp only [Act.put, lzA, lzB, lzC]
    refine wpList_nil ?_
    refine hK5 _ _ ?_
    clear hK5 K5
    refine wp_block ?_
    go_loopw [5] (fun i wr => ∃ k : Nat, i = .int .i64 k ∧ k ≤ 4 ∧ (∀ j, j < k → inB (a.get j) (b.get j) = true) ∧ BcIn wr gb1 c ∧ BcIn wr gb2 d ∧ Below w.heap.size w wr) (fun i _ => 4 - (intOf i).toNat)
    case atStart => exact ⟨0, rfl, by omega, fun j h => by omega, HA, HB, D⟩
    case round =>
      replace hv := hv0
      replace hu := hu0
      clear D HA HB
      obtain ⟨k, rfl, hk, hF, HA, HB, D⟩ := hrel
      replace hv := hv.on D
      replace hu := hu.on D
      by_cases hlt : k < 4
      · refine wp_seq_k (fun K6 hK6 => ?_)
        refine wp_seq_k (fun K7 hK7 => ?_)
        refine wp_region_lit ?_
        refine wl_yield (o := ⟨_, _, _, _, _, _⟩) (.int .i64 (k : Nat)) (yl_move (by rfl) _ rfl _ rfl) ?_
        simp only [Act.put, lzA, lzB, lzC]
        refine wl_yield (o := ⟨_, _, _, _, _, _⟩) (.bool true) (yl_lssI (by rfl) _ _ _ rfl (((k : Nat) : Int)) (4) true rfl rfl (decide_eq_true (by omega))) ?_
        simp only [Act.put, lzA, lzB, lzC]
        refine wpList_nil ?_
        refine hK7 _ _ ?_
        clear hK7 K7
        refine wp_cond_true rfl ?_
        refine wp_skip ?_
        refine hK6 _ _ ?_
        clear hK6 K6
        refine wp_seq_k (fun K8 hK8 => ?_)
        refine wp_block ?_
        refine wp_seq_k (fun K9 hK9 => ?_)
        refine wp_region_held_drew (S := fun w' => BcIn w' gb1 c ∧ BcIn w' gb2 d) (by kernel_rfl) ⟨HA.on (Below.refl _ _).drew, HB.on (Below.refl _ _).drew⟩ (fun hHeld => ?_)
        have kb : Below wr.heap.size wr wr.drew := (Below.refl _ wr).drew
        replace D := D.trans (kb.mono D.size)
        replace hv := hv.on kb
        replace hu := hu.on kb
        replace HA := HA.on kb
        replace HB := HB.on kb
        clear kb
        generalize wr.drew = v4 at D hHeld hv hu HA HB ⊢
        refine wpAnyH_take (i := 0) (oi := ⟨_, _, _, _, _, _⟩) (v := .int .i64 (k : Nat)) rfl (by kernel_rfl) (by kernel_rfl) (by kernel_rfl) (fun _ _ _ h => h) (yl_move (by rfl) _ rfl _ rfl) (by assumption) ?_
        simp only [Act.put, lzA, lzB, lzC]
        refine wpAnyH_take (i := 1) (oi := ⟨_, _, _, _, _, _⟩) (v := .pointer (some ⟨gb1, k * 4, none⟩)) rfl (by kernel_rfl) (by kernel_rfl) (by kernel_rfl) (fun _ _ _ h => h) (yl_atBox (by rfl) _ _ rfl gb1 k rfl rfl (hlt)) (by assumption) ?_
        simp only [Act.put, lzA, lzB, lzC]
        refine wpAnyH_take (i := 2) (oi := ⟨_, _, _, _, _, _⟩) (v := SC.val (BxC.sc c k)) rfl (by kernel_rfl) (by kernel_rfl) (by kernel_rfl) (fun _ _ _ h => h) (yl_set (by rfl) _ rfl _ (k * 4) rfl _ _ _ _ (fun _ h => BcIn.scAt k (hlt) h.1)) (by assumption) ?_
        simp only [Act.put, lzA, lzB, lzC]
        refine wpAnyH_take (i := 3) (oi := ⟨_, _, _, _, _, _⟩) (v := .int .i64 (k : Nat)) rfl (by kernel_rfl) (by kernel_rfl) (by kernel_rfl) (fun _ _ _ h => h) (yl_move (by rfl) _ rfl _ rfl) (by assumption) ?_
        simp only [Act.put, lzA, lzB, lzC]
        refine wpAnyH_take (i := 4) (oi := ⟨_, _, _, _, _, _⟩) (v := .pointer (some ⟨gb2, k * 4, none⟩)) rfl (by kernel_rfl) (by kernel_rfl) (by kernel_rfl) (fun _ _ _ h => h) (yl_atBox (by rfl) _ _ rfl gb2 k rfl rfl (hlt)) (by assumption) ?_
        simp only [Act.put, lzA, lzB, lzC]
        refine wpAnyH_take (i := 5) (oi := ⟨_, _, _, _, _, _⟩) (v := SC.val (BxC.sc d k)) rfl (by kernel_rfl) (by kernel_rfl) (by kernel_rfl) (fun _ _ _ h => h) (yl_set (by rfl) _ rfl _ (k * 4) rfl _ _ _ _ (fun _ h => BcIn.scAt k (hlt) h.2)) (by assumption) ?_
        simp only [Act.put, lzA, lzB, lzC]
        refine held_call (o := ⟨_, _, _, _, _, _⟩) 6 (by kernel_rfl) rfl (by rfl) 147 _ _ rfl #[SC.val (BxC.sc c k), SC.val (BxC.sc d k)] rfl (run_call Tryz.func147 (by kernel_rfl) (by kernel_rfl)) ?_
        refine (refInB_any _ _ (a.get k) (b.get k) _ (hv.sc k hlt) (hu.sc k hlt) (fa.good.g k hlt) (fb.good.g k hlt) ⟨fa.ni k hlt, fa.ns k hlt⟩ ⟨fb.ni k hlt, fb.ns k hlt⟩).mono ?_
        rintro r v5 ⟨rfl, kb⟩
        replace D := D.trans (kb.mono D.size)
        replace hv := hv.on kb
        replace hu := hu.on kb
        replace HA := HA.on kb
        replace HB := HB.on kb
        clear kb
        clear hHeld
        cases hq : inB (a.get k) (b.get k)
        · refine ⟨.bool false, rfl, ⟨HA, HB⟩, fun hHeld => ?_⟩
          simp only [Act.put, lzA, lzB, lzC]
          refine wpAnyH_take (i := 7) (oi := ⟨_, _, _, _, _, _⟩) (v := .bool true) rfl (by kernel_rfl) (by kernel_rfl) (by kernel_rfl) (fun _ _ _ h => h) (yl_not (by rfl) _ _ rfl false rfl) (by assumption) ?_
          simp only [Act.put, lzA, lzB, lzC]
          refine wpAnyH_done (by kernel_rfl) ?_ _
          clear hHeld
          refine hK9 _ _ ?_
          clear hK9 K9
          refine wp_cond_true rfl ?_
          refine wp_seq_k (fun K10 hK10 => ?_)
          refine wp_region_lit ?_
          refine wl_yield (o := ⟨_, _, _, _, _, _⟩) (.bool false) (yl_assign (by rfl) _ rfl _ rfl) ?_
          simp only [Act.put, lzA, lzB, lzC]
          refine wpList_nil ?_
          refine hK10 _ _ ?_
          clear hK10 K10
          refine wp_ret ?_
          go_ret
          exact ⟨by unfold inBx; rw [hE, Bool.false_or, all4_no hlt hq]; rfl, D⟩
        · refine ⟨.bool true, rfl, ⟨HA, HB⟩, fun hHeld => ?_⟩
          simp only [Act.put, lzA, lzB, lzC]
          refine wpAnyH_take (i := 7) (oi := ⟨_, _, _, _, _, _⟩) (v := .bool false) rfl (by kernel_rfl) (by kernel_rfl) (by kernel_rfl) (fun _ _ _ h => h) (yl_not (by rfl) _ _ rfl true rfl) (by assumption) ?_
          simp only [Act.put, lzA, lzB, lzC]
          refine wpAnyH_done (by kernel_rfl) ?_ _
          clear hHeld
          refine hK9 _ _ ?_
          clear hK9 K9
          refine wp_cond_false rfl ?_
          refine wp_skip ?_
          refine hK8 _ _ ?_
          clear hK8 K8
          refine wp_region_lit ?_
          refine wl_yield (o := ⟨_, _, _, _, _, _⟩) (.int .i64 (k : Nat)) (yl_move (by rfl) _ rfl _ rfl) ?_
          simp only [Act.put, lzA, lzB, lzC]
          refine wl_yield (o := ⟨_, _, _, _, _, _⟩) (.int .i64 (k + 1 : Nat)) (yl_addI (by rfl) _ _ _ rfl (((k : Nat) : Int)) (1) (((k + 1 : Nat) : Int)) rfl rfl (by omega) (by omega) (by omega)) ?_
          simp only [Act.put, lzA, lzB, lzC]
          refine wl_yield (o := ⟨_, _, _, _, _, _⟩) (.int .i64 (k + 1 : Nat)) (yl_assign (by rfl) _ rfl _ rfl) ?_
          simp only [Act.put, lzA, lzB, lzC]
          refine wpList_nil ?_
          show _ ∧ _
          go_roundw
          case rel => exact ⟨k + 1, rfl, by omega, fun j hj => by
            rcases Nat.lt_succ_iff_lt_or_eq.1 hj with h | rfl
            · exact hF j h
            · exact hq, HA, HB, D⟩
          case measure => simp [intOf]; omega
      · refine wp_seq_k (fun K6 hK6 => ?_)
        refine wp_seq_k (fun K7 hK7 => ?_)
        refine wp_region_lit ?_
        refine wl_yield (o := ⟨_, _, _, _, _, _⟩) (.int .i64 (k : Nat)) (yl_move (by rfl) _ rfl _ rfl) ?_
        simp only [Act.put, lzA, lzB, lzC]
        refine wl_yield (o := ⟨_, _, _, _, _, _⟩) (.bool false) (yl_lssI (by rfl) _ _ _ rfl (((k : Nat) : Int)) (4) false rfl rfl (decide_eq_false (by omega))) ?_
        simp only [Act.put, lzA, lzB, lzC]
        refine wpList_nil ?_
        refine hK7 _ _ ?_
        clear hK7 K7
        refine wp_cond_false rfl ?_
        refine wp_exit ?_
        refine hK4 _ _ ?_
        clear hK6 K6 hK4 K4
        refine wp_seq_k (fun K8 hK8 => ?_)
        refine wp_region_lit ?_
        refine wl_yield (o := ⟨_, _, _, _, _, _⟩) (.bool true) (yl_assign (by rfl) _ rfl _ rfl) ?_
        simp only [Act.put, lzA, lzB, lzC]
        refine wpList_nil ?_
        refine hK8 _ _ ?_
        clear hK8 K8
        refine wp_ret ?_
        go_ret
        exact ⟨by unfold inBx; rw [hE, Bool.false_or, (all4_iff fun i => inB (a.get i) (b.get i)).2 fun i hi => hF i (by omega)]; rfl, D⟩
  · refine ⟨.bool true, rfl, ?_⟩
    simp only [Act.put, lzA, lzB, lzC]
    refine wpList_nil ?_
    refine hK3 _ _ ?_
    clear hK3 K3
    refine wp_cond_true rfl ?_
    refine wp_seq_k (fun K4 hK4 => ?_)
    refine wp_region_lit ?_
    refine wl_yield (o := ⟨_, _, _, _, _, _⟩) (.bool true) (yl_assign (by rfl) _ rfl _ rfl) ?_
    simp only [Act.put, lzA, lzB, lzC]
    refine wpList_nil ?_
    refine hK4 _ _ ?_
    clear hK4 K4
    refine wp_ret ?_
    go_ret
    exact ⟨by unfold inBx; rw [hE, Bool.true_or]; rfl, D⟩
set_option maxHeartbeats 4000000 in
set_option maxRecDepth 100000 in
theorem refTidy_any (v : Value) (l : List BoxV) (w : World) (hv : Bxs w v l) (fl : ∀ b ∈ l, MidB b) (hl : l.length ≤ 1000) :
    Calls Tryz.prog 60 #[v] w fun r w' => (∃ u ks, r = .returned u ∧ OwnB w' w.heap.size u ks ∧ AllBx w' ks (tidyL l)) ∧ Below w.heap.size w w' := by
  obtain ⟨cs, hr, ha⟩ := hv
  have hbig := hr.1
  have hcl := ha.1
  obtain ⟨q, cp, rfl⟩ := hr.form
  have D := Below.refl w.heap.size w
  go_enter Tryz.func60, Tryz.ntmps60
  refine wp_seq_k (fun K1 hK1 => ?_)
  refine wp_region_lit ?_
  refine wl_yield (o := ⟨_, _, _, _, _, _⟩) (.slice none 0 0) (yl_assign (by rfl) _ rfl _ rfl) ?_
  simp only [Act.put, lzA, lzB, lzC]
  refine wpList_nil ?_
  refine hK1 _ _ ?_
  clear hK1 K1
  refine wp_seq_k (fun K2 hK2 => ?_)
  refine wp_region_lit ?_
  refine wl_yield (o := ⟨_, _, _, _, _, _⟩) (.slice none 0 0) (yl_assign (by rfl) _ rfl _ rfl) ?_
  simp only [Act.put, lzA, lzB, lzC]
  refine wpList_nil ?_
  refine hK2 _ _ ?_
  clear hK2 K2
  refine wp_seq_k (fun K3 hK3 => ?_)
  refine wp_seq_k (fun K4 hK4 => ?_)
  refine wp_region_lit ?_
  refine wl_yield (o := ⟨_, _, _, _, _, _⟩) (.int .i64 0) (yl_assign (by rfl) _ rfl _ rfl) ?_
  simp only [Act.put, lzA, lzB, lzC]
  refine wpList_nil ?_
  refine hK4 _ _ ?_
  clear hK4 K4
  refine wp_block ?_
  go_loopw [3, 4] (fun u i wr => ∃ (m : Nat) (ks : List BxC), i = .int .i64 m ∧ m ≤ cs.length ∧ OwnB wr w.heap.size u ks ∧ AllBx w ks (tidyK l m) ∧ Below w.heap.size w wr) (fun _ i _ => cs.length - (intOf i).toNat)
  case atStart => exact ⟨0, [], rfl, by omega, ownB_nil _ _, ⟨rfl, fun i h => by simp [tidyK] at h⟩, D⟩
  case round =>
    clear D
    obtain ⟨m, ks, rfl, hm, hown, hA, D⟩ := hrel
    by_cases hlt : m < cs.length
    · have hml : m < l.length := by omega
      obtain ⟨g, off, rfl, HC⟩ := (hr.on D).at.2 m hlt
      have hbm := ha.2 m hml
      have fm := fl _ (getB_mem hml)
      have hTL := tidyK_len l m
      have hks : ks.length ≤ 1000 := by rw [hA.1]; omega
      refine wp_seq_k (fun K5 hK5 => ?_)
      refine wp_seq_k (fun K6 hK6 => ?_)
      refine wp_region_lit ?_
      refine wl_yield (o := ⟨_, _, _, _, _, _⟩) (.int .i64 (m : Nat)) (yl_move (by rfl) _ rfl _ rfl) ?_
      simp only [Act.put, lzA, lzB, lzC]
      refine wl_yield (o := ⟨_, _, _, _, _, _⟩) (.slice (some ⟨g, off, none⟩) cs.length cp) (yl_move (by rfl) _ rfl _ rfl) ?_
      simp only [Act.put, lzA, lzB, lzC]
      refine wl_yield (o := ⟨_, _, _, _, _, _⟩) (.int .i64 (cs.length : Nat)) (yl_lenB (by rfl) _ rfl _ _ _ rfl) ?_
      simp only [Act.put, lzA, lzB, lzC]
      refine wl_yield (o := ⟨_, _, _, _, _, _⟩) (.bool true) (yl_lssI (by rfl) _ _ _ rfl (((m : Nat) : Int)) (((cs.length : Nat) : Int)) true rfl rfl (decide_eq_true (by omega))) ?_
      simp only [Act.put, lzA, lzB, lzC]
      refine wpList_nil ?_
      refine hK6 _ _ ?_
      clear hK6 K6
      refine wp_cond_true rfl ?_
      refine wp_skip ?_
      refine hK5 _ _ ?_
      clear hK5 K5
      refine wp_seq_k (fun K7 hK7 => ?_)
      refine wp_block ?_
      refine wp_seq_k (fun K8 hK8 => ?_)
      refine wp_region_lit ?_
      refine wl_yield (o := ⟨_, _, _, _, _, _⟩) (.slice (some ⟨g, off, none⟩) cs.length cp) (yl_move (by rfl) _ rfl _ rfl) ?_
      simp only [Act.put, lzA, lzB, lzC]
      refine wl_yield (o := ⟨_, _, _, _, _, _⟩) (.int .i64 (m : Nat)) (yl_move (by rfl) _ rfl _ rfl) ?_
      simp only [Act.put, lzA, lzB, lzC]
      refine wl_yield (o := ⟨_, _, _, _, _, _⟩) (.pointer (some ⟨g, off + m * 16, none⟩)) (yl_bxAt (by rfl) _ _ rfl g (off) _ _ (m) rfl rfl (hlt)) ?_
      simp only [Act.put, lzA, lzB, lzC]
      refine wl_yield (o := ⟨_, _, _, _, _, _⟩) (BxC.val (cs.getD m bc0)) (yl_bx (by rfl) _ rfl _ _ rfl _ (fun _ h => by subst h; exact HC)) ?_
      simp only [Act.put, lzA, lzB, lzC]
      refine wl_call (o := ⟨_, _, _, _, _, _⟩) (by rfl) 109 _ _ rfl #[BxC.val (cs.getD m bc0)] rfl (run_call Tryz.func109 (by kernel_rfl) (by kernel_rfl)) ?_
      refine (refEmptyBx_any _ (l.getD m zBox) _ (hbm.on D)).mono ?_
      rintro r v1 ⟨rfl, kb⟩
      replace D := D.trans (kb.mono D.size)
      replace hown := hown.on kb
      replace HC := HC.on kb
      clear kb
      refine ⟨.bool (emptyBx (l.getD m zBox)), rfl, ?_⟩
      simp only [Act.put, lzA, lzB, lzC]
      refine wl_yield (o := ⟨_, _, _, _, _, _⟩) (.bool (!emptyBx (l.getD m zBox))) (yl_not (by rfl) _ _ rfl (emptyBx (l.getD m zBox)) rfl) ?_
      simp only [Act.put, lzA, lzB, lzC]
      refine wl_yield (o := ⟨_, _, _, _, _, _⟩) (.bool (!emptyBx (l.getD m zBox))) (yl_assign (by rfl) _ rfl _ rfl) ?_
      simp only [Act.put, lzA, lzB, lzC]
      refine wpList_nil ?_
      refine hK8 _ _ ?_
      clear hK8 K8
      refine wp_seq_k (fun K9 hK9 => ?_)
      refine wp_seq_k (fun K10 hK10 => ?_)
      refine wp_region_lit ?_
      refine wl_yield (o := ⟨_, _, _, _, _, _⟩) (.int .i64 0) (yl_assign (by rfl) _ rfl _ rfl) ?_
      simp only [Act.put, lzA, lzB, lzC]
      refine wpList_nil ?_
      refine hK10 _ _ ?_
      clear hK10 K10
      refine wp_block ?_
      go_loopw [5, 6] (fun z i wr => ∃ (k : Nat) (K : Bool), i = .int .i64 k ∧ z = .bool K ∧ k ≤ cs.length ∧ K = (!emptyBx (l.getD m zBox) && (List.range k).all fun j => !betterL l j m) ∧ OwnB wr w.heap.size u3 ks ∧ BcAt wr g (off + m * 16) (cs.getD m bc0) ∧ Below w.heap.size w wr) (fun _ i _ => cs.length - (intOf i).toNat)
      case atStart => exact ⟨0, _, rfl, rfl, by omega, by simp, hown, HC, D⟩
      case round =>
        clear D hown HC
        obtain ⟨k, KK, rfl, rfl, hkle, hKK, hown, HC, D⟩ := hrel
        by_cases hlt2 : k < cs.length
        · by_cases hki : k = m
          · cases KK
            · have hkl : k < l.length := by omega
              obtain ⟨g2, off2, e2, HC2⟩ := (hr.on D).at.2 k hlt2
              cases e2
              have hbk := ha.2 k hkl
              have fk := fl _ (getB_mem hkl)
              refine wp_seq_k (fun K11 hK11 => ?_)
              refine wp_seq_k (fun K12 hK12 => ?_)
              refine wp_region_lit ?_
              refine wl_yield (o := ⟨_, _, _, _, _, _⟩) (.int .i64 (k : Nat)) (yl_move (by rfl) _ rfl _ rfl) ?_
              simp only [Act.put, lzA, lzB, lzC]
              refine wl_yield (o := ⟨_, _, _, _, _, _⟩) (.slice (some ⟨g, off, none⟩) cs.length cp) (yl_move (by rfl) _ rfl _ rfl) ?_
              simp only [Act.put, lzA, lzB, lzC]
              refine wl_yield (o := ⟨_, _, _, _, _, _⟩) (.int .i64 (cs.length : Nat)) (yl_lenB (by rfl) _ rfl _ _ _ rfl) ?_
              simp only [Act.put, lzA, lzB, lzC]
              refine wl_yield (o := ⟨_, _, _, _, _, _⟩) (.bool true) (yl_lssI (by rfl) _ _ _ rfl (((k : Nat) : Int)) (((cs.length : Nat) : Int)) true rfl rfl (decide_eq_true (by omega))) ?_
              simp only [Act.put, lzA, lzB, lzC]
              refine wpList_nil ?_
              refine hK12 _ _ ?_
              clear hK12 K12
              refine wp_cond_true rfl ?_
              refine wp_skip ?_
              refine hK11 _ _ ?_
              clear hK11 K11
              refine wp_seq_k (fun K13 hK13 => ?_)
              refine wp_block ?_
              refine wp_seq_k (fun K14 hK14 => ?_)
              refine wp_region_held_drew (S := fun w' => BcAt w' g (off + m * 16) (cs.getD m bc0) ∧ BcAt w' g (off + k * 16) (cs.getD k bc0)) (by kernel_rfl) ⟨HC.on (Below.refl _ _).drew, HC2.on (Below.refl _ _).drew⟩ (fun hHeld => ?_)
              have kb : Below wr.heap.size wr wr.drew := (Below.refl _ wr).drew
              replace D := D.trans (kb.mono D.size)
              replace hown := hown.on kb
              replace HC := HC.on kb
              replace HC2 := HC2.on kb
              clear kb
              generalize wr.drew = v2 at D hHeld hown HC HC2 ⊢
              refine wpAnyH_take (i := 0) (oi := ⟨_, _, _, _, _, _⟩) (v := .int .i64 (k : Nat)) rfl (by kernel_rfl) (by kernel_rfl) (by kernel_rfl) (fun _ _ _ h => h) (yl_move (by rfl) _ rfl _ rfl) (by assumption) ?_
              simp only [Act.put, lzA, lzB, lzC]
              refine wpAnyH_take (i := 1) (oi := ⟨_, _, _, _, _, _⟩) (v := .int .i64 (m : Nat)) rfl (by kernel_rfl) (by kernel_rfl) (by kernel_rfl) (fun _ _ _ h => h) (yl_move (by rfl) _ rfl _ rfl) (by assumption) ?_
              simp only [Act.put, lzA, lzB, lzC]
              refine wpAnyH_take (i := 2) (oi := ⟨_, _, _, _, _, _⟩) (v := .bool false) rfl (by kernel_rfl) (by kernel_rfl) (by kernel_rfl) (fun _ _ _ h => h) (yl_neqlI (by rfl) _ _ _ rfl (((k : Nat) : Int)) (((m : Nat) : Int)) false rfl rfl (decide_eq_false (fun h => h (by omega)))) (by assumption) ?_
              simp only [Act.put, lzA, lzB, lzC]
              refine wpAnyH_take (i := 3) (oi := ⟨_, _, _, _, _, _⟩) (v := .bool false) rfl (by kernel_rfl) (by kernel_rfl) (by kernel_rfl) (fun _ _ _ h => h) (yl_move (by rfl) _ rfl _ rfl) (by assumption) ?_
              simp only [Act.put, lzA, lzB, lzC]
              refine wpAnyH_take (i := 4) (oi := ⟨_, _, _, _, _, _⟩) (v := undef) rfl (by kernel_rfl) (by kernel_rfl) (by kernel_rfl) (fun _ _ _ h => h) (yl_undef (by rfl)) (by assumption) ?_
              simp only [Act.put, lzA, lzB, lzC]
              refine wpAnyH_take (i := 5) (oi := ⟨_, _, _, _, _, _⟩) (v := .bool false) rfl (by kernel_rfl) (by kernel_rfl) (by kernel_rfl) (fun _ _ _ h => h) (yl_pickF (by rfl) _ _ _ rfl rfl _ rfl) (by assumption) ?_
              simp only [Act.put, lzA, lzB, lzC]
              refine wpAnyH_take (i := 6) (oi := ⟨_, _, _, _, _, _⟩) (v := .bool false) rfl (by kernel_rfl) (by kernel_rfl) (by kernel_rfl) (fun _ _ _ h => h) (yl_move (by rfl) _ rfl _ rfl) (by assumption) ?_
              simp only [Act.put, lzA, lzB, lzC]
              refine wpAnyH_take (i := 7) (oi := ⟨_, _, _, _, _, _⟩) (v := undef) rfl (by kernel_rfl) (by kernel_rfl) (by kernel_rfl) (fun _ _ _ h => h) (yl_undef (by rfl)) (by assumption) ?_
              simp only [Act.put, lzA, lzB, lzC]
              refine wpAnyH_take (i := 8) (oi := ⟨_, _, _, _, _, _⟩) (v := undef) rfl (by kernel_rfl) (by kernel_rfl) (by kernel_rfl) (fun _ _ _ h => h) (yl_undef (by rfl)) (by assumption) ?_
              simp only [Act.put, lzA, lzB, lzC]
              refine wpAnyH_take (i := 9) (oi := ⟨_, _, _, _, _, _⟩) (v := undef) rfl (by kernel_rfl) (by kernel_rfl) (by kernel_rfl) (fun _ _ _ h => h) (yl_undef (by rfl)) (by assumption) ?_
              simp only [Act.put, lzA, lzB, lzC]
              refine wpAnyH_take (i := 10) (oi := ⟨_, _, _, _, _, _⟩) (v := undef) rfl (by kernel_rfl) (by kernel_rfl) (by kernel_rfl) (fun _ _ _ h => h) (yl_undef (by rfl)) (by assumption) ?_
              simp only [Act.put, lzA, lzB, lzC]
              refine wpAnyH_take (i := 11) (oi := ⟨_, _, _, _, _, _⟩) (v := undef) rfl (by kernel_rfl) (by kernel_rfl) (by kernel_rfl) (fun _ _ _ h => h) (yl_undef (by rfl)) (by assumption) ?_
              simp only [Act.put, lzA, lzB, lzC]
              refine wpAnyH_take (i := 12) (oi := ⟨_, _, _, _, _, _⟩) (v := undef) rfl (by kernel_rfl) (by kernel_rfl) (by kernel_rfl) (fun _ _ _ h => h) (yl_undef (by rfl)) (by assumption) ?_
              simp only [Act.put, lzA, lzB, lzC]
              refine wpAnyH_take (i := 13) (oi := ⟨_, _, _, _, _, _⟩) (v := undef) rfl (by kernel_rfl) (by kernel_rfl) (by kernel_rfl) (fun _ _ _ h => h) (yl_undef (by rfl)) (by assumption) ?_
              simp only [Act.put, lzA, lzB, lzC]
              refine wpAnyH_take (i := 14) (oi := ⟨_, _, _, _, _, _⟩) (v := undef) rfl (by kernel_rfl) (by kernel_rfl) (by kernel_rfl) (fun _ _ _ h => h) (yl_undef (by rfl)) (by assumption) ?_
              simp only [Act.put, lzA, lzB, lzC]
              refine wpAnyH_take (i := 15) (oi := ⟨_, _, _, _, _, _⟩) (v := undef) rfl (by kernel_rfl) (by kernel_rfl) (by kernel_rfl) (fun _ _ _ h => h) (yl_undef (by rfl)) (by assumption) ?_
              simp only [Act.put, lzA, lzB, lzC]
              refine wpAnyH_take (i := 16) (oi := ⟨_, _, _, _, _, _⟩) (v := .bool false) rfl (by kernel_rfl) (by kernel_rfl) (by kernel_rfl) (fun _ _ _ h => h) (yl_pickF (by rfl) _ _ _ rfl rfl _ rfl) (by assumption) ?_
              simp only [Act.put, lzA, lzB, lzC]
              refine wpAnyH_take (i := 17) (oi := ⟨_, _, _, _, _, _⟩) (v := .bool false) rfl (by kernel_rfl) (by kernel_rfl) (by kernel_rfl) (fun _ _ _ h => h) (yl_move (by rfl) _ rfl _ rfl) (by assumption) ?_
              simp only [Act.put, lzA, lzB, lzC]
              refine wpAnyH_take (i := 18) (oi := ⟨_, _, _, _, _, _⟩) (v := undef) rfl (by kernel_rfl) (by kernel_rfl) (by kernel_rfl) (fun _ _ _ h => h) (yl_undef (by rfl)) (by assumption) ?_
              simp only [Act.put, lzA, lzB, lzC]
              refine wpAnyH_take (i := 19) (oi := ⟨_, _, _, _, _, _⟩) (v := undef) rfl (by kernel_rfl) (by kernel_rfl) (by kernel_rfl) (fun _ _ _ h => h) (yl_undef (by rfl)) (by assumption) ?_
              simp only [Act.put, lzA, lzB, lzC]
              refine wpAnyH_take (i := 20) (oi := ⟨_, _, _, _, _, _⟩) (v := undef) rfl (by kernel_rfl) (by kernel_rfl) (by kernel_rfl) (fun _ _ _ h => h) (yl_undef (by rfl)) (by assumption) ?_
              simp only [Act.put, lzA, lzB, lzC]
              refine wpAnyH_take (i := 21) (oi := ⟨_, _, _, _, _, _⟩) (v := undef) rfl (by kernel_rfl) (by kernel_rfl) (by kernel_rfl) (fun _ _ _ h => h) (yl_undef (by rfl)) (by assumption) ?_
              simp only [Act.put, lzA, lzB, lzC]
              refine wpAnyH_take (i := 22) (oi := ⟨_, _, _, _, _, _⟩) (v := undef) rfl (by kernel_rfl) (by kernel_rfl) (by kernel_rfl) (fun _ _ _ h => h) (yl_undef (by rfl)) (by assumption) ?_
              simp only [Act.put, lzA, lzB, lzC]
              refine wpAnyH_take (i := 23) (oi := ⟨_, _, _, _, _, _⟩) (v := undef) rfl (by kernel_rfl) (by kernel_rfl) (by kernel_rfl) (fun _ _ _ h => h) (yl_undef (by rfl)) (by assumption) ?_
              simp only [Act.put, lzA, lzB, lzC]
              refine wpAnyH_take (i := 24) (oi := ⟨_, _, _, _, _, _⟩) (v := undef) rfl (by kernel_rfl) (by kernel_rfl) (by kernel_rfl) (fun _ _ _ h => h) (yl_undef (by rfl)) (by assumption) ?_
              simp only [Act.put, lzA, lzB, lzC]
              refine wpAnyH_take (i := 25) (oi := ⟨_, _, _, _, _, _⟩) (v := undef) rfl (by kernel_rfl) (by kernel_rfl) (by kernel_rfl) (fun _ _ _ h => h) (yl_undef (by rfl)) (by assumption) ?_
              simp only [Act.put, lzA, lzB, lzC]
              refine wpAnyH_take (i := 26) (oi := ⟨_, _, _, _, _, _⟩) (v := undef) rfl (by kernel_rfl) (by kernel_rfl) (by kernel_rfl) (fun _ _ _ h => h) (yl_undef (by rfl)) (by assumption) ?_
              simp only [Act.put, lzA, lzB, lzC]
              refine wpAnyH_take (i := 27) (oi := ⟨_, _, _, _, _, _⟩) (v := undef) rfl (by kernel_rfl) (by kernel_rfl) (by kernel_rfl) (fun _ _ _ h => h) (yl_undef (by rfl)) (by assumption) ?_
              simp only [Act.put, lzA, lzB, lzC]
              refine wpAnyH_take (i := 28) (oi := ⟨_, _, _, _, _, _⟩) (v := undef) rfl (by kernel_rfl) (by kernel_rfl) (by kernel_rfl) (fun _ _ _ h => h) (yl_undef (by rfl)) (by assumption) ?_
              simp only [Act.put, lzA, lzB, lzC]
              refine wpAnyH_take (i := 29) (oi := ⟨_, _, _, _, _, _⟩) (v := undef) rfl (by kernel_rfl) (by kernel_rfl) (by kernel_rfl) (fun _ _ _ h => h) (yl_undef (by rfl)) (by assumption) ?_
              simp only [Act.put, lzA, lzB, lzC]
              refine wpAnyH_take (i := 30) (oi := ⟨_, _, _, _, _, _⟩) (v := undef) rfl (by kernel_rfl) (by kernel_rfl) (by kernel_rfl) (fun _ _ _ h => h) (yl_undef (by rfl)) (by assumption) ?_
              simp only [Act.put, lzA, lzB, lzC]
              refine wpAnyH_take (i := 31) (oi := ⟨_, _, _, _, _, _⟩) (v := undef) rfl (by kernel_rfl) (by kernel_rfl) (by kernel_rfl) (fun _ _ _ h => h) (yl_undef (by rfl)) (by assumption) ?_
              simp only [Act.put, lzA, lzB, lzC]
              refine wpAnyH_take (i := 32) (oi := ⟨_, _, _, _, _, _⟩) (v := undef) rfl (by kernel_rfl) (by kernel_rfl) (by kernel_rfl) (fun _ _ _ h => h) (yl_undef (by rfl)) (by assumption) ?_
              simp only [Act.put, lzA, lzB, lzC]
              refine wpAnyH_take (i := 33) (oi := ⟨_, _, _, _, _, _⟩) (v := .bool false) rfl (by kernel_rfl) (by kernel_rfl) (by kernel_rfl) (fun _ _ _ h => h) (yl_pickF (by rfl) _ _ _ rfl rfl _ rfl) (by assumption) ?_
              simp only [Act.put, lzA, lzB, lzC]
              refine wpAnyH_done (by kernel_rfl) ?_ _
              clear hHeld
              refine hK14 _ _ ?_
              clear hK14 K14
              refine wp_cond_false rfl ?_
              refine wp_skip ?_
              refine hK13 _ _ ?_
              clear hK13 K13
              refine wp_region_lit ?_
              refine wl_yield (o := ⟨_, _, _, _, _, _⟩) (.int .i64 (k : Nat)) (yl_move (by rfl) _ rfl _ rfl) ?_
              simp only [Act.put, lzA, lzB, lzC]
              refine wl_yield (o := ⟨_, _, _, _, _, _⟩) (.int .i64 (k + 1 : Nat)) (yl_addI (by rfl) _ _ _ rfl (((k : Nat) : Int)) (1) (((k + 1 : Nat) : Int)) rfl rfl (by omega) (by omega) (by omega)) ?_
              simp only [Act.put, lzA, lzB, lzC]
              refine wl_yield (o := ⟨_, _, _, _, _, _⟩) (.int .i64 (k + 1 : Nat)) (yl_assign (by rfl) _ rfl _ rfl) ?_
              simp only [Act.put, lzA, lzB, lzC]
              refine wpList_nil ?_
              show _ ∧ _
              go_roundw
              case rel => exact ⟨k + 1, false, rfl, rfl, by omega, keep_next hKK (by rw [better_same hki]; rfl), hown, HC, D⟩
              case measure => simp [intOf]; omega
            · have hkl : k < l.length := by omega
              obtain ⟨g2, off2, e2, HC2⟩ := (hr.on D).at.2 k hlt2
              cases e2
              have hbk := ha.2 k hkl
              have fk := fl _ (getB_mem hkl)
              refine wp_seq_k (fun K11 hK11 => ?_)
              refine wp_seq_k (fun K12 hK12 => ?_)
              refine wp_region_lit ?_
              refine wl_yield (o := ⟨_, _, _, _, _, _⟩) (.int .i64 (k : Nat)) (yl_move (by rfl) _ rfl _ rfl) ?_
              simp only [Act.put, lzA, lzB, lzC]
              refine wl_yield (o := ⟨_, _, _, _, _, _⟩) (.slice (some ⟨g, off, none⟩) cs.length cp) (yl_move (by rfl) _ rfl _ rfl) ?_
              simp only [Act.put, lzA, lzB, lzC]
              refine wl_yield (o := ⟨_, _, _, _, _, _⟩) (.int .i64 (cs.length : Nat)) (yl_lenB (by rfl) _ rfl _ _ _ rfl) ?_
              simp only [Act.put, lzA, lzB, lzC]
              refine wl_yield (o := ⟨_, _, _, _, _, _⟩) (.bool true) (yl_lssI (by rfl) _ _ _ rfl (((k : Nat) : Int)) (((cs.length : Nat) : Int)) true rfl rfl (decide_eq_true (by omega))) ?_
              simp only [Act.put, lzA, lzB, lzC]
              refine wpList_nil ?_
              refine hK12 _ _ ?_
              clear hK12 K12
              refine wp_cond_true rfl ?_
              refine wp_skip ?_
              refine hK11 _ _ ?_
              clear hK11 K11
              refine wp_seq_k (fun K13 hK13 => ?_)
              refine wp_block ?_
              refine wp_seq_k (fun K14 hK14 => ?_)
              refine wp_region_held_drew (S := fun w' => BcAt w' g (off + m * 16) (cs.getD m bc0) ∧ BcAt w' g (off + k * 16) (cs.getD k bc0)) (by kernel_rfl) ⟨HC.on (Below.refl _ _).drew, HC2.on (Below.refl _ _).drew⟩ (fun hHeld => ?_)
              have kb : Below wr.heap.size wr wr.drew := (Below.refl _ wr).drew
              replace D := D.trans (kb.mono D.size)
              replace hown := hown.on kb
              replace HC := HC.on kb
              replace HC2 := HC2.on kb
              clear kb
              generalize wr.drew = v2 at D hHeld hown HC HC2 ⊢
              refine wpAnyH_take (i := 0) (oi := ⟨_, _, _, _, _, _⟩) (v := .int .i64 (k : Nat)) rfl (by kernel_rfl) (by kernel_rfl) (by kernel_rfl) (fun _ _ _ h => h) (yl_move (by rfl) _ rfl _ rfl) (by assumption) ?_
              simp only [Act.put, lzA, lzB, lzC]
              refine wpAnyH_take (i := 1) (oi := ⟨_, _, _, _, _, _⟩) (v := .int .i64 (m : Nat)) rfl (by kernel_rfl) (by kernel_rfl) (by kernel_rfl) (fun _ _ _ h => h) (yl_move (by rfl) _ rfl _ rfl) (by assumption) ?_
              simp only [Act.put, lzA, lzB, lzC]
              refine wpAnyH_take (i := 2) (oi := ⟨_, _, _, _, _, _⟩) (v := .bool false) rfl (by kernel_rfl) (by kernel_rfl) (by kernel_rfl) (fun _ _ _ h => h) (yl_neqlI (by rfl) _ _ _ rfl (((k : Nat) : Int)) (((m : Nat) : Int)) false rfl rfl (decide_eq_false (fun h => h (by omega)))) (by assumption) ?_
              simp only [Act.put, lzA, lzB, lzC]
              refine wpAnyH_take (i := 3) (oi := ⟨_, _, _, _, _, _⟩) (v := .bool false) rfl (by kernel_rfl) (by kernel_rfl) (by kernel_rfl) (fun _ _ _ h => h) (yl_move (by rfl) _ rfl _ rfl) (by assumption) ?_
              simp only [Act.put, lzA, lzB, lzC]
              refine wpAnyH_take (i := 4) (oi := ⟨_, _, _, _, _, _⟩) (v := undef) rfl (by kernel_rfl) (by kernel_rfl) (by kernel_rfl) (fun _ _ _ h => h) (yl_undef (by rfl)) (by assumption) ?_
              simp only [Act.put, lzA, lzB, lzC]
              refine wpAnyH_take (i := 5) (oi := ⟨_, _, _, _, _, _⟩) (v := .bool false) rfl (by kernel_rfl) (by kernel_rfl) (by kernel_rfl) (fun _ _ _ h => h) (yl_pickF (by rfl) _ _ _ rfl rfl _ rfl) (by assumption) ?_
              simp only [Act.put, lzA, lzB, lzC]
              refine wpAnyH_take (i := 6) (oi := ⟨_, _, _, _, _, _⟩) (v := .bool false) rfl (by kernel_rfl) (by kernel_rfl) (by kernel_rfl) (fun _ _ _ h => h) (yl_move (by rfl) _ rfl _ rfl) (by assumption) ?_
              simp only [Act.put, lzA, lzB, lzC]
              refine wpAnyH_take (i := 7) (oi := ⟨_, _, _, _, _, _⟩) (v := undef) rfl (by kernel_rfl) (by kernel_rfl) (by kernel_rfl) (fun _ _ _ h => h) (yl_undef (by rfl)) (by assumption) ?_
              simp only [Act.put, lzA, lzB, lzC]
              refine wpAnyH_take (i := 8) (oi := ⟨_, _, _, _, _, _⟩) (v := undef) rfl (by kernel_rfl) (by kernel_rfl) (by kernel_rfl) (fun _ _ _ h => h) (yl_undef (by rfl)) (by assumption) ?_
              simp only [Act.put, lzA, lzB, lzC]
              refine wpAnyH_take (i := 9) (oi := ⟨_, _, _, _, _, _⟩) (v := undef) rfl (by kernel_rfl) (by kernel_rfl) (by kernel_rfl) (fun _ _ _ h => h) (yl_undef (by rfl)) (by assumption) ?_
              simp only [Act.put, lzA, lzB, lzC]
              refine wpAnyH_take (i := 10) (oi := ⟨_, _, _, _, _, _⟩) (v := undef) rfl (by kernel_rfl) (by kernel_rfl) (by kernel_rfl) (fun _ _ _ h => h) (yl_undef (by rfl)) (by assumption) ?_
              simp only [Act.put, lzA, lzB, lzC]
              refine wpAnyH_take (i := 11) (oi := ⟨_, _, _, _, _, _⟩) (v := undef) rfl (by kernel_rfl) (by kernel_rfl) (by kernel_rfl) (fun _ _ _ h => h) (yl_undef (by rfl)) (by assumption) ?_
              simp only [Act.put, lzA, lzB, lzC]
              refine wpAnyH_take (i := 12) (oi := ⟨_, _, _, _, _, _⟩) (v := undef) rfl (by kernel_rfl) (by kernel_rfl) (by kernel_rfl) (fun _ _ _ h => h) (yl_undef (by rfl)) (by assumption) ?_
              simp only [Act.put, lzA, lzB, lzC]
              refine wpAnyH_take (i := 13) (oi := ⟨_, _, _, _, _, _⟩) (v := undef) rfl (by kernel_rfl) (by kernel_rfl) (by kernel_rfl) (fun _ _ _ h => h) (yl_undef (by rfl)) (by assumption) ?_
              simp only [Act.put, lzA, lzB, lzC]
              refine wpAnyH_take (i := 14) (oi := ⟨_, _, _, _, _, _⟩) (v := undef) rfl (by kernel_rfl) (by kernel_rfl) (by kernel_rfl) (fun _ _ _ h => h) (yl_undef (by rfl)) (by assumption) ?_
              simp only [Act.put, lzA, lzB, lzC]
              refine wpAnyH_take (i := 15) (oi := ⟨_, _, _, _, _, _⟩) (v := undef) rfl (by kernel_rfl) (by kernel_rfl) (by kernel_rfl) (fun _ _ _ h => h) (yl_undef (by rfl)) (by assumption) ?_
              simp only [Act.put, lzA, lzB, lzC]
              refine wpAnyH_take (i := 16) (oi := ⟨_, _, _, _, _, _⟩) (v := .bool false) rfl (by kernel_rfl) (by kernel_rfl) (by kernel_rfl) (fun _ _ _ h => h) (yl_pickF (by rfl) _ _ _ rfl rfl _ rfl) (by assumption) ?_
              simp only [Act.put, lzA, lzB, lzC]
              refine wpAnyH_take (i := 17) (oi := ⟨_, _, _, _, _, _⟩) (v := .bool false) rfl (by kernel_rfl) (by kernel_rfl) (by kernel_rfl) (fun _ _ _ h => h) (yl_move (by rfl) _ rfl _ rfl) (by assumption) ?_
              simp only [Act.put, lzA, lzB, lzC]
              refine wpAnyH_take (i := 18) (oi := ⟨_, _, _, _, _, _⟩) (v := undef) rfl (by kernel_rfl) (by kernel_rfl) (by kernel_rfl) (fun _ _ _ h => h) (yl_undef (by rfl)) (by assumption) ?_
              simp only [Act.put, lzA, lzB, lzC]
              refine wpAnyH_take (i := 19) (oi := ⟨_, _, _, _, _, _⟩) (v := undef) rfl (by kernel_rfl) (by kernel_rfl) (by kernel_rfl) (fun _ _ _ h => h) (yl_undef (by rfl)) (by assumption) ?_
              simp only [Act.put, lzA, lzB, lzC]
              refine wpAnyH_take (i := 20) (oi := ⟨_, _, _, _, _, _⟩) (v := undef) rfl (by kernel_rfl) (by kernel_rfl) (by kernel_rfl) (fun _ _ _ h => h) (yl_undef (by rfl)) (by assumption) ?_
              simp only [Act.put, lzA, lzB, lzC]
              refine wpAnyH_take (i := 21) (oi := ⟨_, _, _, _, _, _⟩) (v := undef) rfl (by kernel_rfl) (by kernel_rfl) (by kernel_rfl) (fun _ _ _ h => h) (yl_undef (by rfl)) (by assumption) ?_
              simp only [Act.put, lzA, lzB, lzC]
              refine wpAnyH_take (i := 22) (oi := ⟨_, _, _, _, _, _⟩) (v := undef) rfl (by kernel_rfl) (by kernel_rfl) (by kernel_rfl) (fun _ _ _ h => h) (yl_undef (by rfl)) (by assumption) ?_
              simp only [Act.put, lzA, lzB, lzC]
              refine wpAnyH_take (i := 23) (oi := ⟨_, _, _, _, _, _⟩) (v := undef) rfl (by kernel_rfl) (by kernel_rfl) (by kernel_rfl) (fun _ _ _ h => h) (yl_undef (by rfl)) (by assumption) ?_
              simp only [Act.put, lzA, lzB, lzC]
              refine wpAnyH_take (i := 24) (oi := ⟨_, _, _, _, _, _⟩) (v := undef) rfl (by kernel_rfl) (by kernel_rfl) (by kernel_rfl) (fun _ _ _ h => h) (yl_undef (by rfl)) (by assumption) ?_
              simp only [Act.put, lzA, lzB, lzC]
              refine wpAnyH_take (i := 25) (oi := ⟨_, _, _, _, _, _⟩) (v := undef) rfl (by kernel_rfl) (by kernel_rfl) (by kernel_rfl) (fun _ _ _ h => h) (yl_undef (by rfl)) (by assumption) ?_
              simp only [Act.put, lzA, lzB, lzC]
              refine wpAnyH_take (i := 26) (oi := ⟨_, _, _, _, _, _⟩) (v := undef) rfl (by kernel_rfl) (by kernel_rfl) (by kernel_rfl) (fun _ _ _ h => h) (yl_undef (by rfl)) (by assumption) ?_
              simp only [Act.put, lzA, lzB, lzC]
              refine wpAnyH_take (i := 27) (oi := ⟨_, _, _, _, _, _⟩) (v := undef) rfl (by kernel_rfl) (by kernel_rfl) (by kernel_rfl) (fun _ _ _ h => h) (yl_undef (by rfl)) (by assumption) ?_
              simp only [Act.put, lzA, lzB, lzC]
              refine wpAnyH_take (i := 28) (oi := ⟨_, _, _, _, _, _⟩) (v := undef) rfl (by kernel_rfl) (by kernel_rfl) (by kernel_rfl) (fun _ _ _ h => h) (yl_undef (by rfl)) (by assumption) ?_
              simp only [Act.put, lzA, lzB, lzC]
              refine wpAnyH_take (i := 29) (oi := ⟨_, _, _, _, _, _⟩) (v := undef) rfl (by kernel_rfl) (by kernel_rfl) (by kernel_rfl) (fun _ _ _ h => h) (yl_undef (by rfl)) (by assumption) ?_
              simp only [Act.put, lzA, lzB, lzC]
              refine wpAnyH_take (i := 30) (oi := ⟨_, _, _, _, _, _⟩) (v := undef) rfl (by kernel_rfl) (by kernel_rfl) (by kernel_rfl) (fun _ _ _ h => h) (yl_undef (by rfl)) (by assumption) ?_
              simp only [Act.put, lzA, lzB, lzC]
              refine wpAnyH_take (i := 31) (oi := ⟨_, _, _, _, _, _⟩) (v := undef) rfl (by kernel_rfl) (by kernel_rfl) (by kernel_rfl) (fun _ _ _ h => h) (yl_undef (by rfl)) (by assumption) ?_
              simp only [Act.put, lzA, lzB, lzC]
              refine wpAnyH_take (i := 32) (oi := ⟨_, _, _, _, _, _⟩) (v := undef) rfl (by kernel_rfl) (by kernel_rfl) (by kernel_rfl) (fun _ _ _ h => h) (yl_undef (by rfl)) (by assumption) ?_
              simp only [Act.put, lzA, lzB, lzC]
              refine wpAnyH_take (i := 33) (oi := ⟨_, _, _, _, _, _⟩) (v := .bool false) rfl (by kernel_rfl) (by kernel_rfl) (by kernel_rfl) (fun _ _ _ h => h) (yl_pickF (by rfl) _ _ _ rfl rfl _ rfl) (by assumption) ?_
              simp only [Act.put, lzA, lzB, lzC]
              refine wpAnyH_done (by kernel_rfl) ?_ _
              clear hHeld
              refine hK14 _ _ ?_
              clear hK14 K14
              refine wp_cond_false rfl ?_
              refine wp_skip ?_
              refine hK13 _ _ ?_
              clear hK13 K13
              refine wp_region_lit ?_
              refine wl_yield (o := ⟨_, _, _, _, _, _⟩) (.int .i64 (k : Nat)) (yl_move (by rfl) _ rfl _ rfl) ?_
              simp only [Act.put, lzA, lzB, lzC]
              refine wl_yield (o := ⟨_, _, _, _, _, _⟩) (.int .i64 (k + 1 : Nat)) (yl_addI (by rfl) _ _ _ rfl (((k : Nat) : Int)) (1) (((k + 1 : Nat) : Int)) rfl rfl (by omega) (by omega) (by omega)) ?_
              simp only [Act.put, lzA, lzB, lzC]
              refine wl_yield (o := ⟨_, _, _, _, _, _⟩) (.int .i64 (k + 1 : Nat)) (yl_assign (by rfl) _ rfl _ rfl) ?_
              simp only [Act.put, lzA, lzB, lzC]
              refine wpList_nil ?_
              show _ ∧ _
              go_roundw
              case rel => exact ⟨k + 1, true, rfl, rfl, by omega, keep_next hKK (by rw [better_same hki]; rfl), hown, HC, D⟩
              case measure => simp [intOf]; omega
          · cases KK
            · have hkl : k < l.length := by omega
              obtain ⟨g2, off2, e2, HC2⟩ := (hr.on D).at.2 k hlt2
              cases e2
              have hbk := ha.2 k hkl
              have fk := fl _ (getB_mem hkl)
              refine wp_seq_k (fun K11 hK11 => ?_)
              refine wp_seq_k (fun K12 hK12 => ?_)
              refine wp_region_lit ?_
              refine wl_yield (o := ⟨_, _, _, _, _, _⟩) (.int .i64 (k : Nat)) (yl_move (by rfl) _ rfl _ rfl) ?_
              simp only [Act.put, lzA, lzB, lzC]
              refine wl_yield (o := ⟨_, _, _, _, _, _⟩) (.slice (some ⟨g, off, none⟩) cs.length cp) (yl_move (by rfl) _ rfl _ rfl) ?_
              simp only [Act.put, lzA, lzB, lzC]
              refine wl_yield (o := ⟨_, _, _, _, _, _⟩) (.int .i64 (cs.length : Nat)) (yl_lenB (by rfl) _ rfl _ _ _ rfl) ?_
              simp only [Act.put, lzA, lzB, lzC]
              refine wl_yield (o := ⟨_, _, _, _, _, _⟩) (.bool true) (yl_lssI (by rfl) _ _ _ rfl (((k : Nat) : Int)) (((cs.length : Nat) : Int)) true rfl rfl (decide_eq_true (by omega))) ?_
              simp only [Act.put, lzA, lzB, lzC]
              refine wpList_nil ?_
              refine hK12 _ _ ?_
              clear hK12 K12
              refine wp_cond_true rfl ?_
              refine wp_skip ?_
              refine hK11 _ _ ?_
              clear hK11 K11
              refine wp_seq_k (fun K13 hK13 => ?_)
              refine wp_block ?_
              refine wp_seq_k (fun K14 hK14 => ?_)
              refine wp_region_held_drew (S := fun w' => BcAt w' g (off + m * 16) (cs.getD m bc0) ∧ BcAt w' g (off + k * 16) (cs.getD k bc0)) (by kernel_rfl) ⟨HC.on (Below.refl _ _).drew, HC2.on (Below.refl _ _).drew⟩ (fun hHeld => ?_)
              have kb : Below wr.heap.size wr wr.drew := (Below.refl _ wr).drew
              replace D := D.trans (kb.mono D.size)
              replace hown := hown.on kb
              replace HC := HC.on kb
              replace HC2 := HC2.on kb
              clear kb
              generalize wr.drew = v2 at D hHeld hown HC HC2 ⊢
              refine wpAnyH_take (i := 0) (oi := ⟨_, _, _, _, _, _⟩) (v := .int .i64 (k : Nat)) rfl (by kernel_rfl) (by kernel_rfl) (by kernel_rfl) (fun _ _ _ h => h) (yl_move (by rfl) _ rfl _ rfl) (by assumption) ?_
              simp only [Act.put, lzA, lzB, lzC]
              refine wpAnyH_take (i := 1) (oi := ⟨_, _, _, _, _, _⟩) (v := .int .i64 (m : Nat)) rfl (by kernel_rfl) (by kernel_rfl) (by kernel_rfl) (fun _ _ _ h => h) (yl_move (by rfl) _ rfl _ rfl) (by assumption) ?_
              simp only [Act.put, lzA, lzB, lzC]
              refine wpAnyH_take (i := 2) (oi := ⟨_, _, _, _, _, _⟩) (v := .bool true) rfl (by kernel_rfl) (by kernel_rfl) (by kernel_rfl) (fun _ _ _ h => h) (yl_neqlI (by rfl) _ _ _ rfl (((k : Nat) : Int)) (((m : Nat) : Int)) true rfl rfl (decide_eq_true (by omega))) (by assumption) ?_
              simp only [Act.put, lzA, lzB, lzC]
              refine wpAnyH_take (i := 3) (oi := ⟨_, _, _, _, _, _⟩) (v := .bool true) rfl (by kernel_rfl) (by kernel_rfl) (by kernel_rfl) (fun _ _ _ h => h) (yl_move (by rfl) _ rfl _ rfl) (by assumption) ?_
              simp only [Act.put, lzA, lzB, lzC]
              refine wpAnyH_take (i := 4) (oi := ⟨_, _, _, _, _, _⟩) (v := .bool false) rfl (by kernel_rfl) (by kernel_rfl) (by kernel_rfl) (fun _ _ _ h => h) (yl_move (by rfl) _ rfl _ rfl) (by assumption) ?_
              simp only [Act.put, lzA, lzB, lzC]
              refine wpAnyH_take (i := 5) (oi := ⟨_, _, _, _, _, _⟩) (v := .bool false) rfl (by kernel_rfl) (by kernel_rfl) (by kernel_rfl) (fun _ _ _ h => h) (yl_pickT (by rfl) _ _ _ rfl rfl _ rfl) (by assumption) ?_
              simp only [Act.put, lzA, lzB, lzC]
              refine wpAnyH_take (i := 6) (oi := ⟨_, _, _, _, _, _⟩) (v := .bool false) rfl (by kernel_rfl) (by kernel_rfl) (by kernel_rfl) (fun _ _ _ h => h) (yl_move (by rfl) _ rfl _ rfl) (by assumption) ?_
              simp only [Act.put, lzA, lzB, lzC]
              refine wpAnyH_take (i := 7) (oi := ⟨_, _, _, _, _, _⟩) (v := undef) rfl (by kernel_rfl) (by kernel_rfl) (by kernel_rfl) (fun _ _ _ h => h) (yl_undef (by rfl)) (by assumption) ?_
              simp only [Act.put, lzA, lzB, lzC]
              refine wpAnyH_take (i := 8) (oi := ⟨_, _, _, _, _, _⟩) (v := undef) rfl (by kernel_rfl) (by kernel_rfl) (by kernel_rfl) (fun _ _ _ h => h) (yl_undef (by rfl)) (by assumption) ?_
              simp only [Act.put, lzA, lzB, lzC]
              refine wpAnyH_take (i := 9) (oi := ⟨_, _, _, _, _, _⟩) (v := undef) rfl (by kernel_rfl) (by kernel_rfl) (by kernel_rfl) (fun _ _ _ h => h) (yl_undef (by rfl)) (by assumption) ?_
              simp only [Act.put, lzA, lzB, lzC]
              refine wpAnyH_take (i := 10) (oi := ⟨_, _, _, _, _, _⟩) (v := undef) rfl (by kernel_rfl) (by kernel_rfl) (by kernel_rfl) (fun _ _ _ h => h) (yl_undef (by rfl)) (by assumption) ?_
              simp only [Act.put, lzA, lzB, lzC]
              refine wpAnyH_take (i := 11) (oi := ⟨_, _, _, _, _, _⟩) (v := undef) rfl (by kernel_rfl) (by kernel_rfl) (by kernel_rfl) (fun _ _ _ h => h) (yl_undef (by rfl)) (by assumption) ?_
              simp only [Act.put, lzA, lzB, lzC]
              refine wpAnyH_take (i := 12) (oi := ⟨_, _, _, _, _, _⟩) (v := undef) rfl (by kernel_rfl) (by kernel_rfl) (by kernel_rfl) (fun _ _ _ h => h) (yl_undef (by rfl)) (by assumption) ?_
              simp only [Act.put, lzA, lzB, lzC]
              refine wpAnyH_take (i := 13) (oi := ⟨_, _, _, _, _, _⟩) (v := undef) rfl (by kernel_rfl) (by kernel_rfl) (by kernel_rfl) (fun _ _ _ h => h) (yl_undef (by rfl)) (by assumption) ?_
              simp only [Act.put, lzA, lzB, lzC]
              refine wpAnyH_take (i := 14) (oi := ⟨_, _, _, _, _, _⟩) (v := undef) rfl (by kernel_rfl) (by kernel_rfl) (by kernel_rfl) (fun _ _ _ h => h) (yl_undef (by rfl)) (by assumption) ?_
              simp only [Act.put, lzA, lzB, lzC]
              refine wpAnyH_take (i := 15) (oi := ⟨_, _, _, _, _, _⟩) (v := undef) rfl (by kernel_rfl) (by kernel_rfl) (by kernel_rfl) (fun _ _ _ h => h) (yl_undef (by rfl)) (by assumption) ?_
              simp only [Act.put, lzA, lzB, lzC]
              refine wpAnyH_take (i := 16) (oi := ⟨_, _, _, _, _, _⟩) (v := .bool false) rfl (by kernel_rfl) (by kernel_rfl) (by kernel_rfl) (fun _ _ _ h => h) (yl_pickF (by rfl) _ _ _ rfl rfl _ rfl) (by assumption) ?_
              simp only [Act.put, lzA, lzB, lzC]
              refine wpAnyH_take (i := 17) (oi := ⟨_, _, _, _, _, _⟩) (v := .bool false) rfl (by kernel_rfl) (by kernel_rfl) (by kernel_rfl) (fun _ _ _ h => h) (yl_move (by rfl) _ rfl _ rfl) (by assumption) ?_
              simp only [Act.put, lzA, lzB, lzC]
              refine wpAnyH_take (i := 18) (oi := ⟨_, _, _, _, _, _⟩) (v := undef) rfl (by kernel_rfl) (by kernel_rfl) (by kernel_rfl) (fun _ _ _ h => h) (yl_undef (by rfl)) (by assumption) ?_
              simp only [Act.put, lzA, lzB, lzC]
              refine wpAnyH_take (i := 19) (oi := ⟨_, _, _, _, _, _⟩) (v := undef) rfl (by kernel_rfl) (by kernel_rfl) (by kernel_rfl) (fun _ _ _ h => h) (yl_undef (by rfl)) (by assumption) ?_
              simp only [Act.put, lzA, lzB, lzC]
              refine wpAnyH_take (i := 20) (oi := ⟨_, _, _, _, _, _⟩) (v := undef) rfl (by kernel_rfl) (by kernel_rfl) (by kernel_rfl) (fun _ _ _ h => h) (yl_undef (by rfl)) (by assumption) ?_
              simp only [Act.put, lzA, lzB, lzC]
              refine wpAnyH_take (i := 21) (oi := ⟨_, _, _, _, _, _⟩) (v := undef) rfl (by kernel_rfl) (by kernel_rfl) (by kernel_rfl) (fun _ _ _ h => h) (yl_undef (by rfl)) (by assumption) ?_
              simp only [Act.put, lzA, lzB, lzC]
              refine wpAnyH_take (i := 22) (oi := ⟨_, _, _, _, _, _⟩) (v := undef) rfl (by kernel_rfl) (by kernel_rfl) (by kernel_rfl) (fun _ _ _ h => h) (yl_undef (by rfl)) (by assumption) ?_
              simp only [Act.put, lzA, lzB, lzC]
              refine wpAnyH_take (i := 23) (oi := ⟨_, _, _, _, _, _⟩) (v := undef) rfl (by kernel_rfl) (by kernel_rfl) (by kernel_rfl) (fun _ _ _ h => h) (yl_undef (by rfl)) (by assumption) ?_
              simp only [Act.put, lzA, lzB, lzC]
              refine wpAnyH_take (i := 24) (oi := ⟨_, _, _, _, _, _⟩) (v := undef) rfl (by kernel_rfl) (by kernel_rfl) (by kernel_rfl) (fun _ _ _ h => h) (yl_undef (by rfl)) (by assumption) ?_
              simp only [Act.put, lzA, lzB, lzC]
              refine wpAnyH_take (i := 25) (oi := ⟨_, _, _, _, _, _⟩) (v := undef) rfl (by kernel_rfl) (by kernel_rfl) (by kernel_rfl) (fun _ _ _ h => h) (yl_undef (by rfl)) (by assumption) ?_
              simp only [Act.put, lzA, lzB, lzC]
              refine wpAnyH_take (i := 26) (oi := ⟨_, _, _, _, _, _⟩) (v := undef) rfl (by kernel_rfl) (by kernel_rfl) (by kernel_rfl) (fun _ _ _ h => h) (yl_undef (by rfl)) (by assumption) ?_
              simp only [Act.put, lzA, lzB, lzC]
              refine wpAnyH_take (i := 27) (oi := ⟨_, _, _, _, _, _⟩) (v := undef) rfl (by kernel_rfl) (by kernel_rfl) (by kernel_rfl) (fun _ _ _ h => h) (yl_undef (by rfl)) (by assumption) ?_
              simp only [Act.put, lzA, lzB, lzC]
              refine wpAnyH_take (i := 28) (oi := ⟨_, _, _, _, _, _⟩) (v := undef) rfl (by kernel_rfl) (by kernel_rfl) (by kernel_rfl) (fun _ _ _ h => h) (yl_undef (by rfl)) (by assumption) ?_
              simp only [Act.put, lzA, lzB, lzC]
              refine wpAnyH_take (i := 29) (oi := ⟨_, _, _, _, _, _⟩) (v := undef) rfl (by kernel_rfl) (by kernel_rfl) (by kernel_rfl) (fun _ _ _ h => h) (yl_undef (by rfl)) (by assumption) ?_
              simp only [Act.put, lzA, lzB, lzC]
              refine wpAnyH_take (i := 30) (oi := ⟨_, _, _, _, _, _⟩) (v := undef) rfl (by kernel_rfl) (by kernel_rfl) (by kernel_rfl) (fun _ _ _ h => h) (yl_undef (by rfl)) (by assumption) ?_
              simp only [Act.put, lzA, lzB, lzC]
              refine wpAnyH_take (i := 31) (oi := ⟨_, _, _, _, _, _⟩) (v := undef) rfl (by kernel_rfl) (by kernel_rfl) (by kernel_rfl) (fun _ _ _ h => h) (yl_undef (by rfl)) (by assumption) ?_
              simp only [Act.put, lzA, lzB, lzC]
              refine wpAnyH_take (i := 32) (oi := ⟨_, _, _, _, _, _⟩) (v := undef) rfl (by kernel_rfl) (by kernel_rfl) (by kernel_rfl) (fun _ _ _ h => h) (yl_undef (by rfl)) (by assumption) ?_
              simp only [Act.put, lzA, lzB, lzC]
              refine wpAnyH_take (i := 33) (oi := ⟨_, _, _, _, _, _⟩) (v := .bool false) rfl (by kernel_rfl) (by kernel_rfl) (by kernel_rfl) (fun _ _ _ h => h) (yl_pickF (by rfl) _ _ _ rfl rfl _ rfl) (by assumption) ?_
              simp only [Act.put, lzA, lzB, lzC]
              refine wpAnyH_done (by kernel_rfl) ?_ _
              clear hHeld
              refine hK14 _ _ ?_
              clear hK14 K14
              refine wp_cond_false rfl ?_
              refine wp_skip ?_
              refine hK13 _ _ ?_
              clear hK13 K13
              refine wp_region_lit ?_
              refine wl_yield (o := ⟨_, _, _, _, _, _⟩) (.int .i64 (k : Nat)) (yl_move (by rfl) _ rfl _ rfl) ?_
              simp only [Act.put, lzA, lzB, lzC]
              refine wl_yield (o := ⟨_, _, _, _, _, _⟩) (.int .i64 (k + 1 : Nat)) (yl_addI (by rfl) _ _ _ rfl (((k : Nat) : Int)) (1) (((k + 1 : Nat) : Int)) rfl rfl (by omega) (by omega) (by omega)) ?_
              simp only [Act.put, lzA, lzB, lzC]
              refine wl_yield (o := ⟨_, _, _, _, _, _⟩) (.int .i64 (k + 1 : Nat)) (yl_assign (by rfl) _ rfl _ rfl) ?_
              simp only [Act.put, lzA, lzB, lzC]
              refine wpList_nil ?_
              show _ ∧ _
              go_roundw
              case rel => exact ⟨k + 1, false, rfl, rfl, by omega, keep_next hKK rfl, hown, HC, D⟩
              case measure => simp [intOf]; omega
            · by_cases hlow : k < m
              · have hkl : k < l.length := by omega
                obtain ⟨g2, off2, e2, HC2⟩ := (hr.on D).at.2 k hlt2
                cases e2
                have hbk := ha.2 k hkl
                have fk := fl _ (getB_mem hkl)
                refine wp_seq_k (fun K11 hK11 => ?_)
                refine wp_seq_k (fun K12 hK12 => ?_)
                refine wp_region_lit ?_
                refine wl_yield (o := ⟨_, _, _, _, _, _⟩) (.int .i64 (k : Nat)) (yl_move (by rfl) _ rfl _ rfl) ?_
                simp only [Act.put, lzA, lzB, lzC]
                refine wl_yield (o := ⟨_, _, _, _, _, _⟩) (.slice (some ⟨g, off, none⟩) cs.length cp) (yl_move (by rfl) _ rfl _ rfl) ?_
                simp only [Act.put, lzA, lzB, lzC]
                refine wl_yield (o := ⟨_, _, _, _, _, _⟩) (.int .i64 (cs.length : Nat)) (yl_lenB (by rfl) _ rfl _ _ _ rfl) ?_
                simp only [Act.put, lzA, lzB, lzC]
                refine wl_yield (o := ⟨_, _, _, _, _, _⟩) (.bool true) (yl_lssI (by rfl) _ _ _ rfl (((k : Nat) : Int)) (((cs.length : Nat) : Int)) true rfl rfl (decide_eq_true (by omega))) ?_
                simp only [Act.put, lzA, lzB, lzC]
                refine wpList_nil ?_
                refine hK12 _ _ ?_
                clear hK12 K12
                refine wp_cond_true rfl ?_
                refine wp_skip ?_
                refine hK11 _ _ ?_
                clear hK11 K11
                refine wp_seq_k (fun K13 hK13 => ?_)
                refine wp_block ?_
                refine wp_seq_k (fun K14 hK14 => ?_)
                refine wp_region_held_drew (S := fun w' => BcAt w' g (off + m * 16) (cs.getD m bc0) ∧ BcAt w' g (off + k * 16) (cs.getD k bc0)) (by kernel_rfl) ⟨HC.on (Below.refl _ _).drew, HC2.on (Below.refl _ _).drew⟩ (fun hHeld => ?_)
                have kb : Below wr.heap.size wr wr.drew := (Below.refl _ wr).drew
                replace D := D.trans (kb.mono D.size)
                replace hown := hown.on kb
                replace HC := HC.on kb
                replace HC2 := HC2.on kb
                clear kb
                generalize wr.drew = v2 at D hHeld hown HC HC2 ⊢
                refine wpAnyH_take (i := 0) (oi := ⟨_, _, _, _, _, _⟩) (v := .int .i64 (k : Nat)) rfl (by kernel_rfl) (by kernel_rfl) (by kernel_rfl) (fun _ _ _ h => h) (yl_move (by rfl) _ rfl _ rfl) (by assumption) ?_
                simp only [Act.put, lzA, lzB, lzC]
                refine wpAnyH_take (i := 1) (oi := ⟨_, _, _, _, _, _⟩) (v := .int .i64 (m : Nat)) rfl (by kernel_rfl) (by kernel_rfl) (by kernel_rfl) (fun _ _ _ h => h) (yl_move (by rfl) _ rfl _ rfl) (by assumption) ?_
                simp only [Act.put, lzA, lzB, lzC]
                refine wpAnyH_take (i := 2) (oi := ⟨_, _, _, _, _, _⟩) (v := .bool true) rfl (by kernel_rfl) (by kernel_rfl) (by kernel_rfl) (fun _ _ _ h => h) (yl_neqlI (by rfl) _ _ _ rfl (((k : Nat) : Int)) (((m : Nat) : Int)) true rfl rfl (decide_eq_true (by omega))) (by assumption) ?_
                simp only [Act.put, lzA, lzB, lzC]
                refine wpAnyH_take (i := 3) (oi := ⟨_, _, _, _, _, _⟩) (v := .bool true) rfl (by kernel_rfl) (by kernel_rfl) (by kernel_rfl) (fun _ _ _ h => h) (yl_move (by rfl) _ rfl _ rfl) (by assumption) ?_
                simp only [Act.put, lzA, lzB, lzC]
                refine wpAnyH_take (i := 4) (oi := ⟨_, _, _, _, _, _⟩) (v := .bool true) rfl (by kernel_rfl) (by kernel_rfl) (by kernel_rfl) (fun _ _ _ h => h) (yl_move (by rfl) _ rfl _ rfl) (by assumption) ?_
                simp only [Act.put, lzA, lzB, lzC]
                refine wpAnyH_take (i := 5) (oi := ⟨_, _, _, _, _, _⟩) (v := .bool true) rfl (by kernel_rfl) (by kernel_rfl) (by kernel_rfl) (fun _ _ _ h => h) (yl_pickT (by rfl) _ _ _ rfl rfl _ rfl) (by assumption) ?_
                simp only [Act.put, lzA, lzB, lzC]
                refine wpAnyH_take (i := 6) (oi := ⟨_, _, _, _, _, _⟩) (v := .bool true) rfl (by kernel_rfl) (by kernel_rfl) (by kernel_rfl) (fun _ _ _ h => h) (yl_move (by rfl) _ rfl _ rfl) (by assumption) ?_
                simp only [Act.put, lzA, lzB, lzC]
                refine wpAnyH_take (i := 7) (oi := ⟨_, _, _, _, _, _⟩) (v := .slice (some ⟨g, off, none⟩) cs.length cp) rfl (by kernel_rfl) (by kernel_rfl) (by kernel_rfl) (fun _ _ _ h => h) (yl_move (by rfl) _ rfl _ rfl) (by assumption) ?_
                simp only [Act.put, lzA, lzB, lzC]
                refine wpAnyH_take (i := 8) (oi := ⟨_, _, _, _, _, _⟩) (v := .int .i64 (m : Nat)) rfl (by kernel_rfl) (by kernel_rfl) (by kernel_rfl) (fun _ _ _ h => h) (yl_move (by rfl) _ rfl _ rfl) (by assumption) ?_
                simp only [Act.put, lzA, lzB, lzC]
                refine wpAnyH_take (i := 9) (oi := ⟨_, _, _, _, _, _⟩) (v := .pointer (some ⟨g, off + m * 16, none⟩)) rfl (by kernel_rfl) (by kernel_rfl) (by kernel_rfl) (fun _ _ _ h => h) (yl_bxAt (by rfl) _ _ rfl g (off) _ _ (m) rfl rfl (hlt)) (by assumption) ?_
                simp only [Act.put, lzA, lzB, lzC]
                refine wpAnyH_take (i := 10) (oi := ⟨_, _, _, _, _, _⟩) (v := BxC.val (cs.getD m bc0)) rfl (by kernel_rfl) (by kernel_rfl) (by kernel_rfl) (fun _ _ _ h => h) (yl_bx (by rfl) _ rfl _ _ rfl _ (fun _ h => h.1)) (by assumption) ?_
                simp only [Act.put, lzA, lzB, lzC]
                refine wpAnyH_take (i := 11) (oi := ⟨_, _, _, _, _, _⟩) (v := .slice (some ⟨g, off, none⟩) cs.length cp) rfl (by kernel_rfl) (by kernel_rfl) (by kernel_rfl) (fun _ _ _ h => h) (yl_move (by rfl) _ rfl _ rfl) (by assumption) ?_
                simp only [Act.put, lzA, lzB, lzC]
                refine wpAnyH_take (i := 12) (oi := ⟨_, _, _, _, _, _⟩) (v := .int .i64 (k : Nat)) rfl (by kernel_rfl) (by kernel_rfl) (by kernel_rfl) (fun _ _ _ h => h) (yl_move (by rfl) _ rfl _ rfl) (by assumption) ?_
                simp only [Act.put, lzA, lzB, lzC]
                refine wpAnyH_take (i := 13) (oi := ⟨_, _, _, _, _, _⟩) (v := .pointer (some ⟨g, off + k * 16, none⟩)) rfl (by kernel_rfl) (by kernel_rfl) (by kernel_rfl) (fun _ _ _ h => h) (yl_bxAt (by rfl) _ _ rfl g (off) _ _ (k) rfl rfl (hlt2)) (by assumption) ?_
                simp only [Act.put, lzA, lzB, lzC]
                refine wpAnyH_take (i := 14) (oi := ⟨_, _, _, _, _, _⟩) (v := BxC.val (cs.getD k bc0)) rfl (by kernel_rfl) (by kernel_rfl) (by kernel_rfl) (fun _ _ _ h => h) (yl_bx (by rfl) _ rfl _ _ rfl _ (fun _ h => h.2)) (by assumption) ?_
                simp only [Act.put, lzA, lzB, lzC]
                refine held_call (o := ⟨_, _, _, _, _, _⟩) 15 (by kernel_rfl) rfl (by rfl) 110 _ _ rfl #[BxC.val (cs.getD m bc0), BxC.val (cs.getD k bc0)] rfl (run_call Tryz.func110 (by kernel_rfl) (by kernel_rfl)) ?_
                refine (refInBx_any _ _ (l.getD m zBox) (l.getD k zBox) _ (hbm.on D) (hbk.on D) fm fk).mono ?_
                rintro r v3 ⟨rfl, kb⟩
                replace D := D.trans (kb.mono D.size)
                replace hown := hown.on kb
                replace HC := HC.on kb
                replace HC2 := HC2.on kb
                clear kb
                clear hHeld
                cases h1 : inBx (l.getD m zBox) (l.getD k zBox)
                · refine ⟨.bool false, rfl, ⟨HC, HC2⟩, fun hHeld => ?_⟩
                  simp only [Act.put, lzA, lzB, lzC]
                  refine wpAnyH_take (i := 16) (oi := ⟨_, _, _, _, _, _⟩) (v := .bool false) rfl (by kernel_rfl) (by kernel_rfl) (by kernel_rfl) (fun _ _ _ h => h) (yl_pickT (by rfl) _ _ _ rfl rfl _ rfl) (by assumption) ?_
                  simp only [Act.put, lzA, lzB, lzC]
                  refine wpAnyH_take (i := 17) (oi := ⟨_, _, _, _, _, _⟩) (v := .bool false) rfl (by kernel_rfl) (by kernel_rfl) (by kernel_rfl) (fun _ _ _ h => h) (yl_move (by rfl) _ rfl _ rfl) (by assumption) ?_
                  simp only [Act.put, lzA, lzB, lzC]
                  refine wpAnyH_take (i := 18) (oi := ⟨_, _, _, _, _, _⟩) (v := undef) rfl (by kernel_rfl) (by kernel_rfl) (by kernel_rfl) (fun _ _ _ h => h) (yl_undef (by rfl)) (by assumption) ?_
                  simp only [Act.put, lzA, lzB, lzC]
                  refine wpAnyH_take (i := 19) (oi := ⟨_, _, _, _, _, _⟩) (v := undef) rfl (by kernel_rfl) (by kernel_rfl) (by kernel_rfl) (fun _ _ _ h => h) (yl_undef (by rfl)) (by assumption) ?_
                  simp only [Act.put, lzA, lzB, lzC]
                  refine wpAnyH_take (i := 20) (oi := ⟨_, _, _, _, _, _⟩) (v := undef) rfl (by kernel_rfl) (by kernel_rfl) (by kernel_rfl) (fun _ _ _ h => h) (yl_undef (by rfl)) (by assumption) ?_
                  simp only [Act.put, lzA, lzB, lzC]
                  refine wpAnyH_take (i := 21) (oi := ⟨_, _, _, _, _, _⟩) (v := undef) rfl (by kernel_rfl) (by kernel_rfl) (by kernel_rfl) (fun _ _ _ h => h) (yl_undef (by rfl)) (by assumption) ?_
                  simp only [Act.put, lzA, lzB, lzC]
                  refine wpAnyH_take (i := 22) (oi := ⟨_, _, _, _, _, _⟩) (v := undef) rfl (by kernel_rfl) (by kernel_rfl) (by kernel_rfl) (fun _ _ _ h => h) (yl_undef (by rfl)) (by assumption) ?_
                  simp only [Act.put, lzA, lzB, lzC]
                  refine wpAnyH_take (i := 23) (oi := ⟨_, _, _, _, _, _⟩) (v := undef) rfl (by kernel_rfl) (by kernel_rfl) (by kernel_rfl) (fun _ _ _ h => h) (yl_undef (by rfl)) (by assumption) ?_
                  simp only [Act.put, lzA, lzB, lzC]
                  refine wpAnyH_take (i := 24) (oi := ⟨_, _, _, _, _, _⟩) (v := undef) rfl (by kernel_rfl) (by kernel_rfl) (by kernel_rfl) (fun _ _ _ h => h) (yl_undef (by rfl)) (by assumption) ?_
                  simp only [Act.put, lzA, lzB, lzC]
                  refine wpAnyH_take (i := 25) (oi := ⟨_, _, _, _, _, _⟩) (v := undef) rfl (by kernel_rfl) (by kernel_rfl) (by kernel_rfl) (fun _ _ _ h => h) (yl_undef (by rfl)) (by assumption) ?_
                  simp only [Act.put, lzA, lzB, lzC]
                  refine wpAnyH_take (i := 26) (oi := ⟨_, _, _, _, _, _⟩) (v := undef) rfl (by kernel_rfl) (by kernel_rfl) (by kernel_rfl) (fun _ _ _ h => h) (yl_undef (by rfl)) (by assumption) ?_
                  simp only [Act.put, lzA, lzB, lzC]
                  refine wpAnyH_take (i := 27) (oi := ⟨_, _, _, _, _, _⟩) (v := undef) rfl (by kernel_rfl) (by kernel_rfl) (by kernel_rfl) (fun _ _ _ h => h) (yl_undef (by rfl)) (by assumption) ?_
                  simp only [Act.put, lzA, lzB, lzC]
                  refine wpAnyH_take (i := 28) (oi := ⟨_, _, _, _, _, _⟩) (v := undef) rfl (by kernel_rfl) (by kernel_rfl) (by kernel_rfl) (fun _ _ _ h => h) (yl_undef (by rfl)) (by assumption) ?_
                  simp only [Act.put, lzA, lzB, lzC]
                  refine wpAnyH_take (i := 29) (oi := ⟨_, _, _, _, _, _⟩) (v := undef) rfl (by kernel_rfl) (by kernel_rfl) (by kernel_rfl) (fun _ _ _ h => h) (yl_undef (by rfl)) (by assumption) ?_
                  simp only [Act.put, lzA, lzB, lzC]
                  refine wpAnyH_take (i := 30) (oi := ⟨_, _, _, _, _, _⟩) (v := undef) rfl (by kernel_rfl) (by kernel_rfl) (by kernel_rfl) (fun _ _ _ h => h) (yl_undef (by rfl)) (by assumption) ?_
                  simp only [Act.put, lzA, lzB, lzC]
                  refine wpAnyH_take (i := 31) (oi := ⟨_, _, _, _, _, _⟩) (v := undef) rfl (by kernel_rfl) (by kernel_rfl) (by kernel_rfl) (fun _ _ _ h => h) (yl_undef (by rfl)) (by assumption) ?_
                  simp only [Act.put, lzA, lzB, lzC]
                  refine wpAnyH_take (i := 32) (oi := ⟨_, _, _, _, _, _⟩) (v := undef) rfl (by kernel_rfl) (by kernel_rfl) (by kernel_rfl) (fun _ _ _ h => h) (yl_undef (by rfl)) (by assumption) ?_
                  simp only [Act.put, lzA, lzB, lzC]
                  refine wpAnyH_take (i := 33) (oi := ⟨_, _, _, _, _, _⟩) (v := .bool false) rfl (by kernel_rfl) (by kernel_rfl) (by kernel_rfl) (fun _ _ _ h => h) (yl_pickF (by rfl) _ _ _ rfl rfl _ rfl) (by assumption) ?_
                  simp only [Act.put, lzA, lzB, lzC]
                  refine wpAnyH_done (by kernel_rfl) ?_ _
                  clear hHeld
                  refine hK14 _ _ ?_
                  clear hK14 K14
                  refine wp_cond_false rfl ?_
                  refine wp_skip ?_
                  refine hK13 _ _ ?_
                  clear hK13 K13
                  refine wp_region_lit ?_
                  refine wl_yield (o := ⟨_, _, _, _, _, _⟩) (.int .i64 (k : Nat)) (yl_move (by rfl) _ rfl _ rfl) ?_
                  simp only [Act.put, lzA, lzB, lzC]
                  refine wl_yield (o := ⟨_, _, _, _, _, _⟩) (.int .i64 (k + 1 : Nat)) (yl_addI (by rfl) _ _ _ rfl (((k : Nat) : Int)) (1) (((k + 1 : Nat) : Int)) rfl rfl (by omega) (by omega) (by omega)) ?_
                  simp only [Act.put, lzA, lzB, lzC]
                  refine wl_yield (o := ⟨_, _, _, _, _, _⟩) (.int .i64 (k + 1 : Nat)) (yl_assign (by rfl) _ rfl _ rfl) ?_
                  simp only [Act.put, lzA, lzB, lzC]
                  refine wpList_nil ?_
                  show _ ∧ _
                  go_roundw
                  case rel => exact ⟨k + 1, true, rfl, rfl, by omega, keep_next hKK (by rw [better_is (p := false) (q := true) (r := true) hki h1 (decide_eq_true hlow) (Or.inl rfl)]; rfl), hown, HC, D⟩
                  case measure => simp [intOf]; omega
                · refine ⟨.bool true, rfl, ⟨HC, HC2⟩, fun hHeld => ?_⟩
                  simp only [Act.put, lzA, lzB, lzC]
                  refine wpAnyH_take (i := 16) (oi := ⟨_, _, _, _, _, _⟩) (v := .bool true) rfl (by kernel_rfl) (by kernel_rfl) (by kernel_rfl) (fun _ _ _ h => h) (yl_pickT (by rfl) _ _ _ rfl rfl _ rfl) (by assumption) ?_
                  simp only [Act.put, lzA, lzB, lzC]
                  refine wpAnyH_take (i := 17) (oi := ⟨_, _, _, _, _, _⟩) (v := .bool true) rfl (by kernel_rfl) (by kernel_rfl) (by kernel_rfl) (fun _ _ _ h => h) (yl_move (by rfl) _ rfl _ rfl) (by assumption) ?_
                  simp only [Act.put, lzA, lzB, lzC]
                  refine wpAnyH_take (i := 18) (oi := ⟨_, _, _, _, _, _⟩) (v := .int .i64 (k : Nat)) rfl (by kernel_rfl) (by kernel_rfl) (by kernel_rfl) (fun _ _ _ h => h) (yl_move (by rfl) _ rfl _ rfl) (by assumption) ?_
                  simp only [Act.put, lzA, lzB, lzC]
                  refine wpAnyH_take (i := 19) (oi := ⟨_, _, _, _, _, _⟩) (v := .int .i64 (m : Nat)) rfl (by kernel_rfl) (by kernel_rfl) (by kernel_rfl) (fun _ _ _ h => h) (yl_move (by rfl) _ rfl _ rfl) (by assumption) ?_
                  simp only [Act.put, lzA, lzB, lzC]
                  refine wpAnyH_take (i := 20) (oi := ⟨_, _, _, _, _, _⟩) (v := .bool true) rfl (by kernel_rfl) (by kernel_rfl) (by kernel_rfl) (fun _ _ _ h => h) (yl_lssI (by rfl) _ _ _ rfl (((k : Nat) : Int)) (((m : Nat) : Int)) true rfl rfl (decide_eq_true (by omega))) (by assumption) ?_
                  simp only [Act.put, lzA, lzB, lzC]
                  refine wpAnyH_take (i := 21) (oi := ⟨_, _, _, _, _, _⟩) (v := .bool true) rfl (by kernel_rfl) (by kernel_rfl) (by kernel_rfl) (fun _ _ _ h => h) (yl_move (by rfl) _ rfl _ rfl) (by assumption) ?_
                  simp only [Act.put, lzA, lzB, lzC]
                  refine wpAnyH_take (i := 22) (oi := ⟨_, _, _, _, _, _⟩) (v := undef) rfl (by kernel_rfl) (by kernel_rfl) (by kernel_rfl) (fun _ _ _ h => h) (yl_undef (by rfl)) (by assumption) ?_
                  simp only [Act.put, lzA, lzB, lzC]
                  refine wpAnyH_take (i := 23) (oi := ⟨_, _, _, _, _, _⟩) (v := undef) rfl (by kernel_rfl) (by kernel_rfl) (by kernel_rfl) (fun _ _ _ h => h) (yl_undef (by rfl)) (by assumption) ?_
                  simp only [Act.put, lzA, lzB, lzC]
                  refine wpAnyH_take (i := 24) (oi := ⟨_, _, _, _, _, _⟩) (v := undef) rfl (by kernel_rfl) (by kernel_rfl) (by kernel_rfl) (fun _ _ _ h => h) (yl_undef (by rfl)) (by assumption) ?_
                  simp only [Act.put, lzA, lzB, lzC]
                  refine wpAnyH_take (i := 25) (oi := ⟨_, _, _, _, _, _⟩) (v := undef) rfl (by kernel_rfl) (by kernel_rfl) (by kernel_rfl) (fun _ _ _ h => h) (yl_undef (by rfl)) (by assumption) ?_
                  simp only [Act.put, lzA, lzB, lzC]
                  refine wpAnyH_take (i := 26) (oi := ⟨_, _, _, _, _, _⟩) (v := undef) rfl (by kernel_rfl) (by kernel_rfl) (by kernel_rfl) (fun _ _ _ h => h) (yl_undef (by rfl)) (by assumption) ?_
                  simp only [Act.put, lzA, lzB, lzC]
                  refine wpAnyH_take (i := 27) (oi := ⟨_, _, _, _, _, _⟩) (v := undef) rfl (by kernel_rfl) (by kernel_rfl) (by kernel_rfl) (fun _ _ _ h => h) (yl_undef (by rfl)) (by assumption) ?_
                  simp only [Act.put, lzA, lzB, lzC]
                  refine wpAnyH_take (i := 28) (oi := ⟨_, _, _, _, _, _⟩) (v := undef) rfl (by kernel_rfl) (by kernel_rfl) (by kernel_rfl) (fun _ _ _ h => h) (yl_undef (by rfl)) (by assumption) ?_
                  simp only [Act.put, lzA, lzB, lzC]
                  refine wpAnyH_take (i := 29) (oi := ⟨_, _, _, _, _, _⟩) (v := undef) rfl (by kernel_rfl) (by kernel_rfl) (by kernel_rfl) (fun _ _ _ h => h) (yl_undef (by rfl)) (by assumption) ?_
                  simp only [Act.put, lzA, lzB, lzC]
                  refine wpAnyH_take (i := 30) (oi := ⟨_, _, _, _, _, _⟩) (v := undef) rfl (by kernel_rfl) (by kernel_rfl) (by kernel_rfl) (fun _ _ _ h => h) (yl_undef (by rfl)) (by assumption) ?_
                  simp only [Act.put, lzA, lzB, lzC]
                  refine wpAnyH_take (i := 31) (oi := ⟨_, _, _, _, _, _⟩) (v := undef) rfl (by kernel_rfl) (by kernel_rfl) (by kernel_rfl) (fun _ _ _ h => h) (yl_undef (by rfl)) (by assumption) ?_
                  simp only [Act.put, lzA, lzB, lzC]
                  refine wpAnyH_take (i := 32) (oi := ⟨_, _, _, _, _, _⟩) (v := .bool true) rfl (by kernel_rfl) (by kernel_rfl) (by kernel_rfl) (fun _ _ _ h => h) (yl_pickT (by rfl) _ _ _ rfl rfl _ rfl) (by assumption) ?_
                  simp only [Act.put, lzA, lzB, lzC]
                  refine wpAnyH_take (i := 33) (oi := ⟨_, _, _, _, _, _⟩) (v := .bool true) rfl (by kernel_rfl) (by kernel_rfl) (by kernel_rfl) (fun _ _ _ h => h) (yl_pickT (by rfl) _ _ _ rfl rfl _ rfl) (by assumption) ?_
                  simp only [Act.put, lzA, lzB, lzC]
                  refine wpAnyH_done (by kernel_rfl) ?_ _
                  clear hHeld
                  refine hK14 _ _ ?_
                  clear hK14 K14
                  refine wp_cond_true rfl ?_
                  refine wp_region_lit ?_
                  refine wl_yield (o := ⟨_, _, _, _, _, _⟩) (.bool false) (yl_assign (by rfl) _ rfl _ rfl) ?_
                  simp only [Act.put, lzA, lzB, lzC]
                  refine wpList_nil ?_
                  refine hK13 _ _ ?_
                  clear hK13 K13
                  refine wp_region_lit ?_
                  refine wl_yield (o := ⟨_, _, _, _, _, _⟩) (.int .i64 (k : Nat)) (yl_move (by rfl) _ rfl _ rfl) ?_
                  simp only [Act.put, lzA, lzB, lzC]
                  refine wl_yield (o := ⟨_, _, _, _, _, _⟩) (.int .i64 (k + 1 : Nat)) (yl_addI (by rfl) _ _ _ rfl (((k : Nat) : Int)) (1) (((k + 1 : Nat) : Int)) rfl rfl (by omega) (by omega) (by omega)) ?_
                  simp only [Act.put, lzA, lzB, lzC]
                  refine wl_yield (o := ⟨_, _, _, _, _, _⟩) (.int .i64 (k + 1 : Nat)) (yl_assign (by rfl) _ rfl _ rfl) ?_
                  simp only [Act.put, lzA, lzB, lzC]
                  refine wpList_nil ?_
                  show _ ∧ _
                  go_roundw
                  case rel => exact ⟨k + 1, false, rfl, rfl, by omega, keep_next hKK (by rw [better_is (p := true) (q := true) (r := true) hki h1 (decide_eq_true hlow) (Or.inl rfl)]; rfl), hown, HC, D⟩
                  case measure => simp [intOf]; omega
              · have hkl : k < l.length := by omega
                obtain ⟨g2, off2, e2, HC2⟩ := (hr.on D).at.2 k hlt2
                cases e2
                have hbk := ha.2 k hkl
                have fk := fl _ (getB_mem hkl)
                refine wp_seq_k (fun K11 hK11 => ?_)
                refine wp_seq_k (fun K12 hK12 => ?_)
                refine wp_region_lit ?_
                refine wl_yield (o := ⟨_, _, _, _, _, _⟩) (.int .i64 (k : Nat)) (yl_move (by rfl) _ rfl _ rfl) ?_
                simp only [Act.put, lzA, lzB, lzC]
                refine wl_yield (o := ⟨_, _, _, _, _, _⟩) (.slice (some ⟨g, off, none⟩) cs.length cp) (yl_move (by rfl) _ rfl _ rfl) ?_
                simp only [Act.put, lzA, lzB, lzC]
                refine wl_yield (o := ⟨_, _, _, _, _, _⟩) (.int .i64 (cs.length : Nat)) (yl_lenB (by rfl) _ rfl _ _ _ rfl) ?_
                simp only [Act.put, lzA, lzB, lzC]
                refine wl_yield (o := ⟨_, _, _, _, _, _⟩) (.bool true) (yl_lssI (by rfl) _ _ _ rfl (((k : Nat) : Int)) (((cs.length : Nat) : Int)) true rfl rfl (decide_eq_true (by omega))) ?_
                simp only [Act.put, lzA, lzB, lzC]
                refine wpList_nil ?_
                refine hK12 _ _ ?_
                clear hK12 K12
                refine wp_cond_true rfl ?_
                refine wp_skip ?_
                refine hK11 _ _ ?_
                clear hK11 K11
                refine wp_seq_k (fun K13 hK13 => ?_)
                refine wp_block ?_
                refine wp_seq_k (fun K14 hK14 => ?_)
                refine wp_region_held_drew (S := fun w' => BcAt w' g (off + m * 16) (cs.getD m bc0) ∧ BcAt w' g (off + k * 16) (cs.getD k bc0)) (by kernel_rfl) ⟨HC.on (Below.refl _ _).drew, HC2.on (Below.refl _ _).drew⟩ (fun hHeld => ?_)
                have kb : Below wr.heap.size wr wr.drew := (Below.refl _ wr).drew
                replace D := D.trans (kb.mono D.size)
                replace hown := hown.on kb
                replace HC := HC.on kb
                replace HC2 := HC2.on kb
                clear kb
                generalize wr.drew = v2 at D hHeld hown HC HC2 ⊢
                refine wpAnyH_take (i := 0) (oi := ⟨_, _, _, _, _, _⟩) (v := .int .i64 (k : Nat)) rfl (by kernel_rfl) (by kernel_rfl) (by kernel_rfl) (fun _ _ _ h => h) (yl_move (by rfl) _ rfl _ rfl) (by assumption) ?_
                simp only [Act.put, lzA, lzB, lzC]
                refine wpAnyH_take (i := 1) (oi := ⟨_, _, _, _, _, _⟩) (v := .int .i64 (m : Nat)) rfl (by kernel_rfl) (by kernel_rfl) (by kernel_rfl) (fun _ _ _ h => h) (yl_move (by rfl) _ rfl _ rfl) (by assumption) ?_
                simp only [Act.put, lzA, lzB, lzC]
                refine wpAnyH_take (i := 2) (oi := ⟨_, _, _, _, _, _⟩) (v := .bool true) rfl (by kernel_rfl) (by kernel_rfl) (by kernel_rfl) (fun _ _ _ h => h) (yl_neqlI (by rfl) _ _ _ rfl (((k : Nat) : Int)) (((m : Nat) : Int)) true rfl rfl (decide_eq_true (by omega))) (by assumption) ?_
                simp only [Act.put, lzA, lzB, lzC]
                refine wpAnyH_take (i := 3) (oi := ⟨_, _, _, _, _, _⟩) (v := .bool true) rfl (by kernel_rfl) (by kernel_rfl) (by kernel_rfl) (fun _ _ _ h => h) (yl_move (by rfl) _ rfl _ rfl) (by assumption) ?_
                simp only [Act.put, lzA, lzB, lzC]
                refine wpAnyH_take (i := 4) (oi := ⟨_, _, _, _, _, _⟩) (v := .bool true) rfl (by kernel_rfl) (by kernel_rfl) (by kernel_rfl) (fun _ _ _ h => h) (yl_move (by rfl) _ rfl _ rfl) (by assumption) ?_
                simp only [Act.put, lzA, lzB, lzC]
                refine wpAnyH_take (i := 5) (oi := ⟨_, _, _, _, _, _⟩) (v := .bool true) rfl (by kernel_rfl) (by kernel_rfl) (by kernel_rfl) (fun _ _ _ h => h) (yl_pickT (by rfl) _ _ _ rfl rfl _ rfl) (by assumption) ?_
                simp only [Act.put, lzA, lzB, lzC]
                refine wpAnyH_take (i := 6) (oi := ⟨_, _, _, _, _, _⟩) (v := .bool true) rfl (by kernel_rfl) (by kernel_rfl) (by kernel_rfl) (fun _ _ _ h => h) (yl_move (by rfl) _ rfl _ rfl) (by assumption) ?_
                simp only [Act.put, lzA, lzB, lzC]
                refine wpAnyH_take (i := 7) (oi := ⟨_, _, _, _, _, _⟩) (v := .slice (some ⟨g, off, none⟩) cs.length cp) rfl (by kernel_rfl) (by kernel_rfl) (by kernel_rfl) (fun _ _ _ h => h) (yl_move (by rfl) _ rfl _ rfl) (by assumption) ?_
                simp only [Act.put, lzA, lzB, lzC]
                refine wpAnyH_take (i := 8) (oi := ⟨_, _, _, _, _, _⟩) (v := .int .i64 (m : Nat)) rfl (by kernel_rfl) (by kernel_rfl) (by kernel_rfl) (fun _ _ _ h => h) (yl_move (by rfl) _ rfl _ rfl) (by assumption) ?_
                simp only [Act.put, lzA, lzB, lzC]
                refine wpAnyH_take (i := 9) (oi := ⟨_, _, _, _, _, _⟩) (v := .pointer (some ⟨g, off + m * 16, none⟩)) rfl (by kernel_rfl) (by kernel_rfl) (by kernel_rfl) (fun _ _ _ h => h) (yl_bxAt (by rfl) _ _ rfl g (off) _ _ (m) rfl rfl (hlt)) (by assumption) ?_
                simp only [Act.put, lzA, lzB, lzC]
                refine wpAnyH_take (i := 10) (oi := ⟨_, _, _, _, _, _⟩) (v := BxC.val (cs.getD m bc0)) rfl (by kernel_rfl) (by kernel_rfl) (by kernel_rfl) (fun _ _ _ h => h) (yl_bx (by rfl) _ rfl _ _ rfl _ (fun _ h => h.1)) (by assumption) ?_
                simp only [Act.put, lzA, lzB, lzC]
                refine wpAnyH_take (i := 11) (oi := ⟨_, _, _, _, _, _⟩) (v := .slice (some ⟨g, off, none⟩) cs.length cp) rfl (by kernel_rfl) (by kernel_rfl) (by kernel_rfl) (fun _ _ _ h => h) (yl_move (by rfl) _ rfl _ rfl) (by assumption) ?_
                simp only [Act.put, lzA, lzB, lzC]
                refine wpAnyH_take (i := 12) (oi := ⟨_, _, _, _, _, _⟩) (v := .int .i64 (k : Nat)) rfl (by kernel_rfl) (by kernel_rfl) (by kernel_rfl) (fun _ _ _ h => h) (yl_move (by rfl) _ rfl _ rfl) (by assumption) ?_
                simp only [Act.put, lzA, lzB, lzC]
                refine wpAnyH_take (i := 13) (oi := ⟨_, _, _, _, _, _⟩) (v := .pointer (some ⟨g, off + k * 16, none⟩)) rfl (by kernel_rfl) (by kernel_rfl) (by kernel_rfl) (fun _ _ _ h => h) (yl_bxAt (by rfl) _ _ rfl g (off) _ _ (k) rfl rfl (hlt2)) (by assumption) ?_
                simp only [Act.put, lzA, lzB, lzC]
                refine wpAnyH_take (i := 14) (oi := ⟨_, _, _, _, _, _⟩) (v := BxC.val (cs.getD k bc0)) rfl (by kernel_rfl) (by kernel_rfl) (by kernel_rfl) (fun _ _ _ h => h) (yl_bx (by rfl) _ rfl _ _ rfl _ (fun _ h => h.2)) (by assumption) ?_
                simp only [Act.put, lzA, lzB, lzC]
                refine held_call (o := ⟨_, _, _, _, _, _⟩) 15 (by kernel_rfl) rfl (by rfl) 110 _ _ rfl #[BxC.val (cs.getD m bc0), BxC.val (cs.getD k bc0)] rfl (run_call Tryz.func110 (by kernel_rfl) (by kernel_rfl)) ?_
                refine (refInBx_any _ _ (l.getD m zBox) (l.getD k zBox) _ (hbm.on D) (hbk.on D) fm fk).mono ?_
                rintro r v3 ⟨rfl, kb⟩
                replace D := D.trans (kb.mono D.size)
                replace hown := hown.on kb
                replace HC := HC.on kb
                replace HC2 := HC2.on kb
                clear kb
                clear hHeld
                cases h1 : inBx (l.getD m zBox) (l.getD k zBox)
                · refine ⟨.bool false, rfl, ⟨HC, HC2⟩, fun hHeld => ?_⟩
                  simp only [Act.put, lzA, lzB, lzC]
                  refine wpAnyH_take (i := 16) (oi := ⟨_, _, _, _, _, _⟩) (v := .bool false) rfl (by kernel_rfl) (by kernel_rfl) (by kernel_rfl) (fun _ _ _ h => h) (yl_pickT (by rfl) _ _ _ rfl rfl _ rfl) (by assumption) ?_
                  simp only [Act.put, lzA, lzB, lzC]
                  refine wpAnyH_take (i := 17) (oi := ⟨_, _, _, _, _, _⟩) (v := .bool false) rfl (by kernel_rfl) (by kernel_rfl) (by kernel_rfl) (fun _ _ _ h => h) (yl_move (by rfl) _ rfl _ rfl) (by assumption) ?_
                  simp only [Act.put, lzA, lzB, lzC]
                  refine wpAnyH_take (i := 18) (oi := ⟨_, _, _, _, _, _⟩) (v := undef) rfl (by kernel_rfl) (by kernel_rfl) (by kernel_rfl) (fun _ _ _ h => h) (yl_undef (by rfl)) (by assumption) ?_
                  simp only [Act.put, lzA, lzB, lzC]
                  refine wpAnyH_take (i := 19) (oi := ⟨_, _, _, _, _, _⟩) (v := undef) rfl (by kernel_rfl) (by kernel_rfl) (by kernel_rfl) (fun _ _ _ h => h) (yl_undef (by rfl)) (by assumption) ?_
                  simp only [Act.put, lzA, lzB, lzC]
                  refine wpAnyH_take (i := 20) (oi := ⟨_, _, _, _, _, _⟩) (v := undef) rfl (by kernel_rfl) (by kernel_rfl) (by kernel_rfl) (fun _ _ _ h => h) (yl_undef (by rfl)) (by assumption) ?_
                  simp only [Act.put, lzA, lzB, lzC]
                  refine wpAnyH_take (i := 21) (oi := ⟨_, _, _, _, _, _⟩) (v := undef) rfl (by kernel_rfl) (by kernel_rfl) (by kernel_rfl) (fun _ _ _ h => h) (yl_undef (by rfl)) (by assumption) ?_
                  simp only [Act.put, lzA, lzB, lzC]
                  refine wpAnyH_take (i := 22) (oi := ⟨_, _, _, _, _, _⟩) (v := undef) rfl (by kernel_rfl) (by kernel_rfl) (by kernel_rfl) (fun _ _ _ h => h) (yl_undef (by rfl)) (by assumption) ?_
                  simp only [Act.put, lzA, lzB, lzC]
                  refine wpAnyH_take (i := 23) (oi := ⟨_, _, _, _, _, _⟩) (v := undef) rfl (by kernel_rfl) (by kernel_rfl) (by kernel_rfl) (fun _ _ _ h => h) (yl_undef (by rfl)) (by assumption) ?_
                  simp only [Act.put, lzA, lzB, lzC]
                  refine wpAnyH_take (i := 24) (oi := ⟨_, _, _, _, _, _⟩) (v := undef) rfl (by kernel_rfl) (by kernel_rfl) (by kernel_rfl) (fun _ _ _ h => h) (yl_undef (by rfl)) (by assumption) ?_
                  simp only [Act.put, lzA, lzB, lzC]
                  refine wpAnyH_take (i := 25) (oi := ⟨_, _, _, _, _, _⟩) (v := undef) rfl (by kernel_rfl) (by kernel_rfl) (by kernel_rfl) (fun _ _ _ h => h) (yl_undef (by rfl)) (by assumption) ?_
                  simp only [Act.put, lzA, lzB, lzC]
                  refine wpAnyH_take (i := 26) (oi := ⟨_, _, _, _, _, _⟩) (v := undef) rfl (by kernel_rfl) (by kernel_rfl) (by kernel_rfl) (fun _ _ _ h => h) (yl_undef (by rfl)) (by assumption) ?_
                  simp only [Act.put, lzA, lzB, lzC]
                  refine wpAnyH_take (i := 27) (oi := ⟨_, _, _, _, _, _⟩) (v := undef) rfl (by kernel_rfl) (by kernel_rfl) (by kernel_rfl) (fun _ _ _ h => h) (yl_undef (by rfl)) (by assumption) ?_
                  simp only [Act.put, lzA, lzB, lzC]
                  refine wpAnyH_take (i := 28) (oi := ⟨_, _, _, _, _, _⟩) (v := undef) rfl (by kernel_rfl) (by kernel_rfl) (by kernel_rfl) (fun _ _ _ h => h) (yl_undef (by rfl)) (by assumption) ?_
                  simp only [Act.put, lzA, lzB, lzC]
                  refine wpAnyH_take (i := 29) (oi := ⟨_, _, _, _, _, _⟩) (v := undef) rfl (by kernel_rfl) (by kernel_rfl) (by kernel_rfl) (fun _ _ _ h => h) (yl_undef (by rfl)) (by assumption) ?_
                  simp only [Act.put, lzA, lzB, lzC]
                  refine wpAnyH_take (i := 30) (oi := ⟨_, _, _, _, _, _⟩) (v := undef) rfl (by kernel_rfl) (by kernel_rfl) (by kernel_rfl) (fun _ _ _ h => h) (yl_undef (by rfl)) (by assumption) ?_
                  simp only [Act.put, lzA, lzB, lzC]
                  refine wpAnyH_take (i := 31) (oi := ⟨_, _, _, _, _, _⟩) (v := undef) rfl (by kernel_rfl) (by kernel_rfl) (by kernel_rfl) (fun _ _ _ h => h) (yl_undef (by rfl)) (by assumption) ?_
                  simp only [Act.put, lzA, lzB, lzC]
                  refine wpAnyH_take (i := 32) (oi := ⟨_, _, _, _, _, _⟩) (v := undef) rfl (by kernel_rfl) (by kernel_rfl) (by kernel_rfl) (fun _ _ _ h => h) (yl_undef (by rfl)) (by assumption) ?_
                  simp only [Act.put, lzA, lzB, lzC]
                  refine wpAnyH_take (i := 33) (oi := ⟨_, _, _, _, _, _⟩) (v := .bool false) rfl (by kernel_rfl) (by kernel_rfl) (by kernel_rfl) (fun _ _ _ h => h) (yl_pickF (by rfl) _ _ _ rfl rfl _ rfl) (by assumption) ?_
                  simp only [Act.put, lzA, lzB, lzC]
                  refine wpAnyH_done (by kernel_rfl) ?_ _
                  clear hHeld
                  refine hK14 _ _ ?_
                  clear hK14 K14
                  refine wp_cond_false rfl ?_
                  refine wp_skip ?_
                  refine hK13 _ _ ?_
                  clear hK13 K13
                  refine wp_region_lit ?_
                  refine wl_yield (o := ⟨_, _, _, _, _, _⟩) (.int .i64 (k : Nat)) (yl_move (by rfl) _ rfl _ rfl) ?_
                  simp only [Act.put, lzA, lzB, lzC]
                  refine wl_yield (o := ⟨_, _, _, _, _, _⟩) (.int .i64 (k + 1 : Nat)) (yl_addI (by rfl) _ _ _ rfl (((k : Nat) : Int)) (1) (((k + 1 : Nat) : Int)) rfl rfl (by omega) (by omega) (by omega)) ?_
                  simp only [Act.put, lzA, lzB, lzC]
                  refine wl_yield (o := ⟨_, _, _, _, _, _⟩) (.int .i64 (k + 1 : Nat)) (yl_assign (by rfl) _ rfl _ rfl) ?_
                  simp only [Act.put, lzA, lzB, lzC]
                  refine wpList_nil ?_
                  show _ ∧ _
                  go_roundw
                  case rel => exact ⟨k + 1, true, rfl, rfl, by omega, keep_next hKK (by rw [better_is (p := false) (q := false) (r := true) hki h1 (decide_eq_false hlow) (Or.inr (Or.inl rfl))]; rfl), hown, HC, D⟩
                  case measure => simp [intOf]; omega
                · refine ⟨.bool true, rfl, ⟨HC, HC2⟩, fun hHeld => ?_⟩
                  simp only [Act.put, lzA, lzB, lzC]
                  refine wpAnyH_take (i := 16) (oi := ⟨_, _, _, _, _, _⟩) (v := .bool true) rfl (by kernel_rfl) (by kernel_rfl) (by kernel_rfl) (fun _ _ _ h => h) (yl_pickT (by rfl) _ _ _ rfl rfl _ rfl) (by assumption) ?_
                  simp only [Act.put, lzA, lzB, lzC]
                  refine wpAnyH_take (i := 17) (oi := ⟨_, _, _, _, _, _⟩) (v := .bool true) rfl (by kernel_rfl) (by kernel_rfl) (by kernel_rfl) (fun _ _ _ h => h) (yl_move (by rfl) _ rfl _ rfl) (by assumption) ?_
                  simp only [Act.put, lzA, lzB, lzC]
                  refine wpAnyH_take (i := 18) (oi := ⟨_, _, _, _, _, _⟩) (v := .int .i64 (k : Nat)) rfl (by kernel_rfl) (by kernel_rfl) (by kernel_rfl) (fun _ _ _ h => h) (yl_move (by rfl) _ rfl _ rfl) (by assumption) ?_
                  simp only [Act.put, lzA, lzB, lzC]
                  refine wpAnyH_take (i := 19) (oi := ⟨_, _, _, _, _, _⟩) (v := .int .i64 (m : Nat)) rfl (by kernel_rfl) (by kernel_rfl) (by kernel_rfl) (fun _ _ _ h => h) (yl_move (by rfl) _ rfl _ rfl) (by assumption) ?_
                  simp only [Act.put, lzA, lzB, lzC]
                  refine wpAnyH_take (i := 20) (oi := ⟨_, _, _, _, _, _⟩) (v := .bool false) rfl (by kernel_rfl) (by kernel_rfl) (by kernel_rfl) (fun _ _ _ h => h) (yl_lssI (by rfl) _ _ _ rfl (((k : Nat) : Int)) (((m : Nat) : Int)) false rfl rfl (decide_eq_false (by omega))) (by assumption) ?_
                  simp only [Act.put, lzA, lzB, lzC]
                  refine wpAnyH_take (i := 21) (oi := ⟨_, _, _, _, _, _⟩) (v := .bool false) rfl (by kernel_rfl) (by kernel_rfl) (by kernel_rfl) (fun _ _ _ h => h) (yl_move (by rfl) _ rfl _ rfl) (by assumption) ?_
                  simp only [Act.put, lzA, lzB, lzC]
                  refine wpAnyH_take (i := 22) (oi := ⟨_, _, _, _, _, _⟩) (v := .slice (some ⟨g, off, none⟩) cs.length cp) rfl (by kernel_rfl) (by kernel_rfl) (by kernel_rfl) (fun _ _ _ h => h) (yl_move (by rfl) _ rfl _ rfl) (by assumption) ?_
                  simp only [Act.put, lzA, lzB, lzC]
                  refine wpAnyH_take (i := 23) (oi := ⟨_, _, _, _, _, _⟩) (v := .int .i64 (k : Nat)) rfl (by kernel_rfl) (by kernel_rfl) (by kernel_rfl) (fun _ _ _ h => h) (yl_move (by rfl) _ rfl _ rfl) (by assumption) ?_
                  simp only [Act.put, lzA, lzB, lzC]
                  refine wpAnyH_take (i := 24) (oi := ⟨_, _, _, _, _, _⟩) (v := .pointer (some ⟨g, off + k * 16, none⟩)) rfl (by kernel_rfl) (by kernel_rfl) (by kernel_rfl) (fun _ _ _ h => h) (yl_bxAt (by rfl) _ _ rfl g (off) _ _ (k) rfl rfl (hlt2)) (by assumption) ?_
                  simp only [Act.put, lzA, lzB, lzC]
                  refine wpAnyH_take (i := 25) (oi := ⟨_, _, _, _, _, _⟩) (v := BxC.val (cs.getD k bc0)) rfl (by kernel_rfl) (by kernel_rfl) (by kernel_rfl) (fun _ _ _ h => h) (yl_bx (by rfl) _ rfl _ _ rfl _ (fun _ h => h.2)) (by assumption) ?_
                  simp only [Act.put, lzA, lzB, lzC]
                  refine wpAnyH_take (i := 26) (oi := ⟨_, _, _, _, _, _⟩) (v := .slice (some ⟨g, off, none⟩) cs.length cp) rfl (by kernel_rfl) (by kernel_rfl) (by kernel_rfl) (fun _ _ _ h => h) (yl_move (by rfl) _ rfl _ rfl) (by assumption) ?_
                  simp only [Act.put, lzA, lzB, lzC]
                  refine wpAnyH_take (i := 27) (oi := ⟨_, _, _, _, _, _⟩) (v := .int .i64 (m : Nat)) rfl (by kernel_rfl) (by kernel_rfl) (by kernel_rfl) (fun _ _ _ h => h) (yl_move (by rfl) _ rfl _ rfl) (by assumption) ?_
                  simp only [Act.put, lzA, lzB, lzC]
                  refine wpAnyH_take (i := 28) (oi := ⟨_, _, _, _, _, _⟩) (v := .pointer (some ⟨g, off + m * 16, none⟩)) rfl (by kernel_rfl) (by kernel_rfl) (by kernel_rfl) (fun _ _ _ h => h) (yl_bxAt (by rfl) _ _ rfl g (off) _ _ (m) rfl rfl (hlt)) (by assumption) ?_
                  simp only [Act.put, lzA, lzB, lzC]
                  refine wpAnyH_take (i := 29) (oi := ⟨_, _, _, _, _, _⟩) (v := BxC.val (cs.getD m bc0)) rfl (by kernel_rfl) (by kernel_rfl) (by kernel_rfl) (fun _ _ _ h => h) (yl_bx (by rfl) _ rfl _ _ rfl _ (fun _ h => h.1)) (by assumption) ?_
                  simp only [Act.put, lzA, lzB, lzC]
                  refine held_call (o := ⟨_, _, _, _, _, _⟩) 30 (by kernel_rfl) rfl (by rfl) 110 _ _ rfl #[BxC.val (cs.getD k bc0), BxC.val (cs.getD m bc0)] rfl (run_call Tryz.func110 (by kernel_rfl) (by kernel_rfl)) ?_
                  refine (refInBx_any _ _ (l.getD k zBox) (l.getD m zBox) _ (hbk.on D) (hbm.on D) fk fm).mono ?_
                  rintro r v4 ⟨rfl, kb⟩
                  replace D := D.trans (kb.mono D.size)
                  replace hown := hown.on kb
                  replace HC := HC.on kb
                  replace HC2 := HC2.on kb
                  clear kb
                  clear hHeld
                  cases h2 : inBx (l.getD k zBox) (l.getD m zBox)
                  · refine ⟨.bool false, rfl, ⟨HC, HC2⟩, fun hHeld => ?_⟩
                    simp only [Act.put, lzA, lzB, lzC]
                    refine wpAnyH_take (i := 31) (oi := ⟨_, _, _, _, _, _⟩) (v := .bool true) rfl (by kernel_rfl) (by kernel_rfl) (by kernel_rfl) (fun _ _ _ h => h) (yl_not (by rfl) _ _ rfl false rfl) (by assumption) ?_
                    simp only [Act.put, lzA, lzB, lzC]
                    refine wpAnyH_take (i := 32) (oi := ⟨_, _, _, _, _, _⟩) (v := .bool true) rfl (by kernel_rfl) (by kernel_rfl) (by kernel_rfl) (fun _ _ _ h => h) (yl_pickF (by rfl) _ _ _ rfl rfl _ rfl) (by assumption) ?_
                    simp only [Act.put, lzA, lzB, lzC]
                    refine wpAnyH_take (i := 33) (oi := ⟨_, _, _, _, _, _⟩) (v := .bool true) rfl (by kernel_rfl) (by kernel_rfl) (by kernel_rfl) (fun _ _ _ h => h) (yl_pickT (by rfl) _ _ _ rfl rfl _ rfl) (by assumption) ?_
                    simp only [Act.put, lzA, lzB, lzC]
                    refine wpAnyH_done (by kernel_rfl) ?_ _
                    clear hHeld
                    refine hK14 _ _ ?_
                    clear hK14 K14
                    refine wp_cond_true rfl ?_
                    refine wp_region_lit ?_
                    refine wl_yield (o := ⟨_, _, _, _, _, _⟩) (.bool false) (yl_assign (by rfl) _ rfl _ rfl) ?_
                    simp only [Act.put, lzA, lzB, lzC]
                    refine wpList_nil ?_
                    refine hK13 _ _ ?_
                    clear hK13 K13
                    refine wp_region_lit ?_
                    refine wl_yield (o := ⟨_, _, _, _, _, _⟩) (.int .i64 (k : Nat)) (yl_move (by rfl) _ rfl _ rfl) ?_
                    simp only [Act.put, lzA, lzB, lzC]
                    refine wl_yield (o := ⟨_, _, _, _, _, _⟩) (.int .i64 (k + 1 : Nat)) (yl_addI (by rfl) _ _ _ rfl (((k : Nat) : Int)) (1) (((k + 1 : Nat) : Int)) rfl rfl (by omega) (by omega) (by omega)) ?_
                    simp only [Act.put, lzA, lzB, lzC]
                    refine wl_yield (o := ⟨_, _, _, _, _, _⟩) (.int .i64 (k + 1 : Nat)) (yl_assign (by rfl) _ rfl _ rfl) ?_
                    simp only [Act.put, lzA, lzB, lzC]
                    refine wpList_nil ?_
                    show _ ∧ _
                    go_roundw
                    case rel => exact ⟨k + 1, false, rfl, rfl, by omega, keep_next hKK (by rw [better_is (p := true) (q := false) (r := false) hki h1 (decide_eq_false hlow) (Or.inr (Or.inr h2))]; rfl), hown, HC, D⟩
                    case measure => simp [intOf]; omega
                  · refine ⟨.bool true, rfl, ⟨HC, HC2⟩, fun hHeld => ?_⟩
                    simp only [Act.put, lzA, lzB, lzC]
                    refine wpAnyH_take (i := 31) (oi := ⟨_, _, _, _, _, _⟩) (v := .bool false) rfl (by kernel_rfl) (by kernel_rfl) (by kernel_rfl) (fun _ _ _ h => h) (yl_not (by rfl) _ _ rfl true rfl) (by assumption) ?_
                    simp only [Act.put, lzA, lzB, lzC]
                    refine wpAnyH_take (i := 32) (oi := ⟨_, _, _, _, _, _⟩) (v := .bool false) rfl (by kernel_rfl) (by kernel_rfl) (by kernel_rfl) (fun _ _ _ h => h) (yl_pickF (by rfl) _ _ _ rfl rfl _ rfl) (by assumption) ?_
                    simp only [Act.put, lzA, lzB, lzC]
                    refine wpAnyH_take (i := 33) (oi := ⟨_, _, _, _, _, _⟩) (v := .bool false) rfl (by kernel_rfl) (by kernel_rfl) (by kernel_rfl) (fun _ _ _ h => h) (yl_pickT (by rfl) _ _ _ rfl rfl _ rfl) (by assumption) ?_
                    simp only [Act.put, lzA, lzB, lzC]
                    refine wpAnyH_done (by kernel_rfl) ?_ _
                    clear hHeld
                    refine hK14 _ _ ?_
                    clear hK14 K14
                    refine wp_cond_false rfl ?_
                    refine wp_skip ?_
                    refine hK13 _ _ ?_
                    clear hK13 K13
                    refine wp_region_lit ?_
                    refine wl_yield (o := ⟨_, _, _, _, _, _⟩) (.int .i64 (k : Nat)) (yl_move (by rfl) _ rfl _ rfl) ?_
                    simp only [Act.put, lzA, lzB, lzC]
                    refine wl_yield (o := ⟨_, _, _, _, _, _⟩) (.int .i64 (k + 1 : Nat)) (yl_addI (by rfl) _ _ _ rfl (((k : Nat) : Int)) (1) (((k + 1 : Nat) : Int)) rfl rfl (by omega) (by omega) (by omega)) ?_
                    simp only [Act.put, lzA, lzB, lzC]
                    refine wl_yield (o := ⟨_, _, _, _, _, _⟩) (.int .i64 (k + 1 : Nat)) (yl_assign (by rfl) _ rfl _ rfl) ?_
                    simp only [Act.put, lzA, lzB, lzC]
                    refine wpList_nil ?_
                    show _ ∧ _
                    go_roundw
                    case rel => exact ⟨k + 1, true, rfl, rfl, by omega, keep_next hKK (by rw [better_is (p := true) (q := false) (r := true) hki h1 (decide_eq_false hlow) (Or.inr (Or.inr h2))]; rfl), hown, HC, D⟩
                    case measure => simp [intOf]; omega
        · have hkk : k = cs.length := by omega
          cases KK
          · refine wp_seq_k (fun K11 hK11 => ?_)
            refine wp_seq_k (fun K12 hK12 => ?_)
            refine wp_region_lit ?_
            refine wl_yield (o := ⟨_, _, _, _, _, _⟩) (.int .i64 (k : Nat)) (yl_move (by rfl) _ rfl _ rfl) ?_
            simp only [Act.put, lzA, lzB, lzC]
            refine wl_yield (o := ⟨_, _, _, _, _, _⟩) (.slice (some ⟨g, off, none⟩) cs.length cp) (yl_move (by rfl) _ rfl _ rfl) ?_
            simp only [Act.put, lzA, lzB, lzC]
            refine wl_yield (o := ⟨_, _, _, _, _, _⟩) (.int .i64 (cs.length : Nat)) (yl_lenB (by rfl) _ rfl _ _ _ rfl) ?_
            simp only [Act.put, lzA, lzB, lzC]
            refine wl_yield (o := ⟨_, _, _, _, _, _⟩) (.bool false) (yl_lssI (by rfl) _ _ _ rfl (((k : Nat) : Int)) (((cs.length : Nat) : Int)) false rfl rfl (decide_eq_false (by omega))) ?_
            simp only [Act.put, lzA, lzB, lzC]
            refine wpList_nil ?_
            refine hK12 _ _ ?_
            clear hK12 K12
            refine wp_cond_false rfl ?_
            refine wp_exit ?_
            refine hK9 _ _ ?_
            clear hK11 K11 hK9 K9
            refine wp_seq_k (fun K13 hK13 => ?_)
            refine wp_region_lit ?_
            refine wl_yield (o := ⟨_, _, _, _, _, _⟩) (.bool false) (yl_move (by rfl) _ rfl _ rfl) ?_
            simp only [Act.put, lzA, lzB, lzC]
            refine wpList_nil ?_
            refine hK13 _ _ ?_
            clear hK13 K13
            refine wp_cond_false rfl ?_
            refine wp_skip ?_
            refine hK7 _ _ ?_
            clear hK7 K7
            refine wp_region_lit ?_
            refine wl_yield (o := ⟨_, _, _, _, _, _⟩) (.int .i64 (m : Nat)) (yl_move (by rfl) _ rfl _ rfl) ?_
            simp only [Act.put, lzA, lzB, lzC]
            refine wl_yield (o := ⟨_, _, _, _, _, _⟩) (.int .i64 (m + 1 : Nat)) (yl_addI (by rfl) _ _ _ rfl (((m : Nat) : Int)) (1) (((m + 1 : Nat) : Int)) rfl rfl (by omega) (by omega) (by omega)) ?_
            simp only [Act.put, lzA, lzB, lzC]
            refine wl_yield (o := ⟨_, _, _, _, _, _⟩) (.int .i64 (m + 1 : Nat)) (yl_assign (by rfl) _ rfl _ rfl) ?_
            simp only [Act.put, lzA, lzB, lzC]
            refine wpList_nil ?_
            show _ ∧ _
            go_roundw
            case rel => exact ⟨m + 1, _, rfl, by omega, hown, by rw [tidyK_no (by unfold keepL; rw [← hcl, ← hkk]; exact hKK.symm)]; exact hA, D⟩
            case measure => simp [intOf]; omega
          · refine wp_seq_k (fun K11 hK11 => ?_)
            refine wp_seq_k (fun K12 hK12 => ?_)
            refine wp_region_lit ?_
            refine wl_yield (o := ⟨_, _, _, _, _, _⟩) (.int .i64 (k : Nat)) (yl_move (by rfl) _ rfl _ rfl) ?_
            simp only [Act.put, lzA, lzB, lzC]
            refine wl_yield (o := ⟨_, _, _, _, _, _⟩) (.slice (some ⟨g, off, none⟩) cs.length cp) (yl_move (by rfl) _ rfl _ rfl) ?_
            simp only [Act.put, lzA, lzB, lzC]
            refine wl_yield (o := ⟨_, _, _, _, _, _⟩) (.int .i64 (cs.length : Nat)) (yl_lenB (by rfl) _ rfl _ _ _ rfl) ?_
            simp only [Act.put, lzA, lzB, lzC]
            refine wl_yield (o := ⟨_, _, _, _, _, _⟩) (.bool false) (yl_lssI (by rfl) _ _ _ rfl (((k : Nat) : Int)) (((cs.length : Nat) : Int)) false rfl rfl (decide_eq_false (by omega))) ?_
            simp only [Act.put, lzA, lzB, lzC]
            refine wpList_nil ?_
            refine hK12 _ _ ?_
            clear hK12 K12
            refine wp_cond_false rfl ?_
            refine wp_exit ?_
            refine hK9 _ _ ?_
            clear hK11 K11 hK9 K9
            refine wp_seq_k (fun K13 hK13 => ?_)
            refine wp_region_lit ?_
            refine wl_yield (o := ⟨_, _, _, _, _, _⟩) (.bool true) (yl_move (by rfl) _ rfl _ rfl) ?_
            simp only [Act.put, lzA, lzB, lzC]
            refine wpList_nil ?_
            refine hK13 _ _ ?_
            clear hK13 K13
            refine wp_cond_true rfl ?_
            refine wp_region_lit ?_
            refine wl_yield (o := ⟨_, _, _, _, _, _⟩) (u3) (yl_move (by rfl) _ rfl _ rfl) ?_
            simp only [Act.put, lzA, lzB, lzC]
            refine wl_yield (o := ⟨_, _, _, _, _, _⟩) (.slice (some ⟨g, off, none⟩) cs.length cp) (yl_move (by rfl) _ rfl _ rfl) ?_
            simp only [Act.put, lzA, lzB, lzC]
            refine wl_yield (o := ⟨_, _, _, _, _, _⟩) (.int .i64 (m : Nat)) (yl_move (by rfl) _ rfl _ rfl) ?_
            simp only [Act.put, lzA, lzB, lzC]
            refine wl_yield (o := ⟨_, _, _, _, _, _⟩) (.pointer (some ⟨g, off + m * 16, none⟩)) (yl_bxAt (by rfl) _ _ rfl g (off) _ _ (m) rfl rfl (hlt)) ?_
            simp only [Act.put, lzA, lzB, lzC]
            refine wl_yield (o := ⟨_, _, _, _, _, _⟩) (BxC.val (cs.getD m bc0)) (yl_bx (by rfl) _ rfl _ _ rfl _ (fun _ h => by subst h; exact HC)) ?_
            simp only [Act.put, lzA, lzB, lzC]
            refine wl_rowB1 (o := ⟨_, _, _, _, _, _⟩) (by rfl) _ rfl rfl (fun v2 gb2 hggb2 IO65 kb => ?_)
            simp only [Act.put, lzA, lzB, lzC]
            replace D := D.trans (kb.mono D.size)
            replace hown := hown.on kb
            replace HC := HC.on kb
            clear kb
            refine wl_appB (o := ⟨_, _, _, _, _, _⟩) (by rfl) _ _ rfl w.heap.size u3 ks rfl hown gb2 (cs.getD m bc0) rfl IO65 hks D.size (fun u9 v3 hown3 kb hs3 => ?_)
            simp only [Act.put, lzA, lzB, lzC]
            replace D := D.trans kb
            replace hown := hown3
            clear hown3 kb hs3
            refine wl_yield (o := ⟨_, _, _, _, _, _⟩) (u9) (yl_assign (by rfl) _ rfl _ rfl) ?_
            simp only [Act.put, lzA, lzB, lzC]
            refine wpList_nil ?_
            refine hK7 _ _ ?_
            clear hK7 K7
            refine wp_region_lit ?_
            refine wl_yield (o := ⟨_, _, _, _, _, _⟩) (.int .i64 (m : Nat)) (yl_move (by rfl) _ rfl _ rfl) ?_
            simp only [Act.put, lzA, lzB, lzC]
            refine wl_yield (o := ⟨_, _, _, _, _, _⟩) (.int .i64 (m + 1 : Nat)) (yl_addI (by rfl) _ _ _ rfl (((m : Nat) : Int)) (1) (((m + 1 : Nat) : Int)) rfl rfl (by omega) (by omega) (by omega)) ?_
            simp only [Act.put, lzA, lzB, lzC]
            refine wl_yield (o := ⟨_, _, _, _, _, _⟩) (.int .i64 (m + 1 : Nat)) (yl_assign (by rfl) _ rfl _ rfl) ?_
            simp only [Act.put, lzA, lzB, lzC]
            refine wpList_nil ?_
            show _ ∧ _
            go_roundw
            case rel => exact ⟨m + 1, _, rfl, by omega, hown, by rw [tidyK_yes (by unfold keepL; rw [← hcl, ← hkk]; exact hKK.symm)]; exact allBx_snoc hA hbm, D⟩
            case measure => simp [intOf]; omega
    · refine wp_seq_k (fun K5 hK5 => ?_)
      refine wp_seq_k (fun K6 hK6 => ?_)
      refine wp_region_lit ?_
      refine wl_yield (o := ⟨_, _, _, _, _, _⟩) (.int .i64 (m : Nat)) (yl_move (by rfl) _ rfl _ rfl) ?_
      simp only [Act.put, lzA, lzB, lzC]
      refine wl_yield (o := ⟨_, _, _, _, _, _⟩) (.slice q cs.length cp) (yl_move (by rfl) _ rfl _ rfl) ?_
      simp only [Act.put, lzA, lzB, lzC]
      refine wl_yield (o := ⟨_, _, _, _, _, _⟩) (.int .i64 (cs.length : Nat)) (yl_lenB (by rfl) _ rfl _ _ _ rfl) ?_
      simp only [Act.put, lzA, lzB, lzC]
      refine wl_yield (o := ⟨_, _, _, _, _, _⟩) (.bool false) (yl_lssI (by rfl) _ _ _ rfl (((m : Nat) : Int)) (((cs.length : Nat) : Int)) false rfl rfl (decide_eq_false (by omega))) ?_
      simp only [Act.put, lzA, lzB, lzC]
      refine wpList_nil ?_
      refine hK6 _ _ ?_
      clear hK6 K6
      refine wp_cond_false rfl ?_
      refine wp_exit ?_
      refine hK3 _ _ ?_
      clear hK5 K5 hK3 K3
      refine wp_seq_k (fun K7 hK7 => ?_)
      refine wp_region_lit ?_
      refine wl_yield (o := ⟨_, _, _, _, _, _⟩) (u3) (yl_move (by rfl) _ rfl _ rfl) ?_
      simp only [Act.put, lzA, lzB, lzC]
      refine wl_yield (o := ⟨_, _, _, _, _, _⟩) (u3) (yl_assign (by rfl) _ rfl _ rfl) ?_
      simp only [Act.put, lzA, lzB, lzC]
      refine wpList_nil ?_
      refine hK7 _ _ ?_
      clear hK7 K7
      refine wp_ret ?_
      go_ret
      have em : m = l.length := by omega
      rw [em] at hA
      exact ⟨⟨_, ks, rfl, hown, hA.on D⟩, D⟩
end Go.Proofs.YtlmdcaemjaldfaaGreat
namespace Go.Proofs.YtlmdcaemjaldfaaGreat
open Go.RowKit
theorem wrapU {p : Int} (h0 : 0 ≤ p) (h1 : p < 18446744073709551616) : IntKind.u64.wrap p = p := Int.emod_eq_of_lt h0 h1
theorem wrapY {p : Int} (h0 : 0 ≤ p) (h1 : p < 256) : IntKind.u8.wrap p = p := Int.emod_eq_of_lt h0 h1
theorem wrapI {p : Int} (h0 : 0 ≤ p) (h1 : p < 256) : IntKind.i64.wrap p = p := by
  rw [IntKind.wrap_i64]
  omega
set_option maxRecDepth 100000 in
theorem bits_1 : ∀ p : Fin 256, bits .and .u8 (p : Nat) 1 = ((p % 2 : Nat) : Int) := by decide
set_option maxRecDepth 100000 in
theorem bits_2 : ∀ p : Fin 256, bits .and .u8 (p : Nat) 2 = if (p : Nat) / 2 % 2 = 1 then 2 else 0 := by decide
theorem and1 {p : Int} (h0 : 0 ≤ p) (h1 : p < 256) : bits .and .u8 p 1 = p % 2 := by
  have := bits_1 ⟨p.toNat, by omega⟩
  simp only at this
  rw [Int.toNat_of_nonneg h0] at this
  rw [this]
  omega
theorem and2 {p : Int} (h0 : 0 ≤ p) (h1 : p < 256) : bits .and .u8 p 2 = if p / 2 % 2 = 1 then 2 else 0 := by
  have := bits_2 ⟨p.toNat, by omega⟩
  simp only at this
  rw [Int.toNat_of_nonneg h0] at this
  rw [this]
  by_cases h : p / 2 % 2 = 1
  · rw [if_pos h, if_pos (by omega)]
  · rw [if_neg h, if_neg (by omega)]
section
variable {ops : Array Oper} {Q : Exit → Act → World → Prop} {S : World → Prop} {o : Oper} {a : Act}
theorem yw_gtrU (hw : Region.wanted o (yielded ops a.tmps) = true) (x y : Operand) (t : TypeId) (ho : o.op = .binOp .gtr 91 x y t) (p q : Int) (r : Bool) (hx : a.eval x = .int .u64 p) (hy : a.eval y = .int .u64 q) (hr : decide (p > q) = r) : YieldsIf Tryz.prog ops S o (.bool r) a :=
  Or.inl ⟨hw, fun w hS => by
    subst hr
    simp only [execOp, ho, hx, hy]
    go_simp⟩
theorem yw_lssU (hw : Region.wanted o (yielded ops a.tmps) = true) (x y : Operand) (t : TypeId) (ho : o.op = .binOp .lss 91 x y t) (p q : Int) (r : Bool) (hx : a.eval x = .int .u64 p) (hy : a.eval y = .int .u64 q) (hr : decide (p < q) = r) : YieldsIf Tryz.prog ops S o (.bool r) a :=
  Or.inl ⟨hw, fun w hS => by
    subst hr
    simp only [execOp, ho, hx, hy]
    go_simp⟩
theorem yw_addU (hw : Region.wanted o (yielded ops a.tmps) = true) (x y : Operand) (t : TypeId) (ho : o.op = .binOp .add 91 x y t) (p q r : Int) (hx : a.eval x = .int .u64 p) (hy : a.eval y = .int .u64 q) (hr : p + q = r) (h0 : 0 ≤ r) (h1 : r < 18446744073709551616) : YieldsIf Tryz.prog ops S o (.int .u64 r) a :=
  Or.inl ⟨hw, fun w hS => by
    subst hr
    simp only [execOp, ho, hx, hy]
    go_simp
    exact wrapU h0 h1⟩
theorem yw_gtrY (hw : Region.wanted o (yielded ops a.tmps) = true) (x y : Operand) (t : TypeId) (ho : o.op = .binOp .gtr 5 x y t) (p q : Int) (r : Bool) (hx : a.eval x = .int .u8 p) (hy : a.eval y = .int .u8 q) (hr : decide (p > q) = r) : YieldsIf Tryz.prog ops S o (.bool r) a :=
  Or.inl ⟨hw, fun w hS => by
    subst hr
    simp only [execOp, ho, hx, hy]
    go_simp⟩
theorem yw_neqY (hw : Region.wanted o (yielded ops a.tmps) = true) (x y : Operand) (t : TypeId) (ho : o.op = .binOp .neq 5 x y t) (p q : Int) (r : Bool) (hx : a.eval x = .int .u8 p) (hy : a.eval y = .int .u8 q) (hr : decide (¬ p = q) = r) : YieldsIf Tryz.prog ops S o (.bool r) a :=
  Or.inl ⟨hw, fun w hS => by
    subst hr
    simp only [execOp, ho, hx, hy]
    go_simp
    by_cases h : p = q <;> simp [h]⟩
theorem yw_andY (hw : Region.wanted o (yielded ops a.tmps) = true) (x y : Operand) (t : TypeId) (ho : o.op = .binOp .and 5 x y t) (p q : Int) (hx : a.eval x = .int .u8 p) (hy : a.eval y = .int .u8 q) (r : Int) (hr : bits .and .u8 p q = r) : YieldsIf Tryz.prog ops S o (.int .u8 r) a :=
  Or.inl ⟨hw, fun w hS => by
    subst hr
    simp only [execOp, ho, hx, hy]
    go_simp⟩
theorem yw_orY (hw : Region.wanted o (yielded ops a.tmps) = true) (x y : Operand) (t : TypeId) (ho : o.op = .binOp .or 5 x y t) (p q : Int) (hx : a.eval x = .int .u8 p) (hy : a.eval y = .int .u8 q) (r : Int) (hr : bits .or .u8 p q = r) : YieldsIf Tryz.prog ops S o (.int .u8 r) a :=
  Or.inl ⟨hw, fun w hS => by
    subst hr
    simp only [execOp, ho, hx, hy]
    go_simp⟩
theorem yw_iu (hw : Region.wanted o (yielded ops a.tmps) = true) (x : Operand) (ho : o.op = .convert 3 91 x) (p : Int) (hx : a.eval x = .int .i64 p) (h0 : 0 ≤ p) (h1 : p < 18446744073709551616) : YieldsIf Tryz.prog ops S o (.int .u64 p) a :=
  Or.inl ⟨hw, fun w hS => by
    simp only [execOp, ho, hx]
    go_simp
    exact wrapU h0 h1⟩
theorem yw_yi (hw : Region.wanted o (yielded ops a.tmps) = true) (x : Operand) (ho : o.op = .convert 5 3 x) (p : Int) (hx : a.eval x = .int .u8 p) (h0 : 0 ≤ p) (h1 : p < 256) : YieldsIf Tryz.prog ops S o (.int .i64 p) a :=
  Or.inl ⟨hw, fun w hS => by
    simp only [execOp, ho, hx]
    go_simp
    exact wrapI h0 h1⟩
theorem yw_iy (hw : Region.wanted o (yielded ops a.tmps) = true) (x : Operand) (ho : o.op = .convert 3 5 x) (p : Int) (hx : a.eval x = .int .i64 p) (h0 : 0 ≤ p) (h1 : p < 256) : YieldsIf Tryz.prog ops S o (.int .u8 p) a :=
  Or.inl ⟨hw, fun w hS => by
    simp only [execOp, ho, hx]
    go_simp
    exact wrapY h0 h1⟩
theorem yw_buildSt (hw : Region.wanted o (yielded ops a.tmps) = true) (x y : Operand) (ho : o.op = .build 25 #[(0, x), (2, y)]) (p q : Bool) (hx : a.eval x = .bool p) (hy : a.eval y = .bool q) : YieldsIf Tryz.prog ops S o (SC.val ⟨p, none, 0, 0, q, none, 0, 0⟩) a :=
  Or.inl ⟨hw, fun w hS => by
    simp only [execOp, ho, List.map_toArray, List.map_cons, List.map_nil, hx, hy, SC.val]
    go_simp⟩
set_option maxRecDepth 100000 in
theorem yw_buildV1 (hw : Region.wanted o (yielded ops a.tmps) = true) (x : Operand) (ho : o.op = .build 42 #[(0, x)]) (k : Int) (hx : a.eval x = .int .i64 k) : YieldsIf Tryz.prog ops S o (vVal (k, 0, ⟨#[]⟩)) a :=
  Or.inl ⟨hw, fun w _ => by
    simp only [execOp, ho, List.map_toArray, List.map_cons, List.map_nil, hx, vVal]
    go_simp⟩
set_option maxRecDepth 100000 in
theorem yw_zeroE (hw : Region.wanted o (yielded ops a.tmps) = true) (ho : o.op = .build 44 #[]) : YieldsIf Tryz.prog ops S o (evVal evZ) a :=
  Or.inl ⟨hw, fun w _ => by
    simp only [execOp, ho, List.map_toArray, List.map_cons, List.map_nil, evVal, evZ, vaZ]
    go_simp⟩
end
end Go.Proofs.YtlmdcaemjaldfaaGreat
namespace Go.Proofs.YtlmdcaemjaldfaaGreat
open Go.RowKit
theorem PS.gr {w w' : World} {b g : Nat} {l : List UInt8} {e : Int} (h : PS w b l e) (k : w.grownBy w' (some g)) (hn : b ≠ g) : PS w' b l e := ⟨heap_gr h.1 k hn, h.2⟩
theorem PS.gro {w w' : World} {b : Nat} {l : List UInt8} {z : Int} {B : Nat} {e : TypeId} {size n : Nat} {v : Value} {xs : List Value} (h : PS w b l z) (ho : w.ownsRow B e size v n xs) (k : w.grownBy w' v.ownBlock) (hne : 107 ≠ e) : PS w' b l z := ⟨heap_gro h.1 k (own_ne ho h.1 hne), h.2⟩
theorem PS.row {w w' : World} {B : Nat} {e : TypeId} {size n b : Nat} {v : Value} {xs : List Value} {l : List UInt8} {z : Int} (h : PS w b l z) (ho : w.ownsRow B e size v n xs) (k : w.grownBy w' (some b)) (hne : 107 ≠ e) : w'.ownsRow B e size v n xs := row_gr_heap ho k h.1 hne
theorem PS.lt {w : World} {b : Nat} {l : List UInt8} {z : Int} (h : PS w b l z) : b < w.heap.size := lt_heap h.1
theorem RS.cell {w : World} {b : Nat} {s : ByteArray} {l : List UInt8} {e : Int} (h : RS w b s l e) : ∃ k : Nat, w.heap[b]? = some (.cells #[.string s, .int .i64 k, .int .i64 e] 73 (0, 0)) ∧ (e = 0 → l = s.data.toList.drop k) ∧ k ≤ s.size := by
  obtain ⟨k, h1, h2, h3, _⟩ := h
  exact ⟨k, h2, h3, h1⟩
theorem RS.gr {w w' : World} {b g : Nat} {s : ByteArray} {l : List UInt8} {e : Int} (h : RS w b s l e) (k : w.grownBy w' (some g)) (hn : b ≠ g) : RS w' b s l e := by
  obtain ⟨j, h1, h2, h3⟩ := h
  exact ⟨j, h1, heap_gr h2 k hn, h3⟩
theorem RS.gro {w w' : World} {b : Nat} {s : ByteArray} {l : List UInt8} {z : Int} {B : Nat} {e : TypeId} {size n : Nat} {v : Value} {xs : List Value} (h : RS w b s l z) (ho : w.ownsRow B e size v n xs) (k : w.grownBy w' v.ownBlock) (hne : 73 ≠ e) : RS w' b s l z := by
  obtain ⟨j, h1, h2, h3⟩ := h
  exact ⟨j, h1, heap_gro h2 k (own_ne ho h2 hne), h3⟩
theorem RS.row {w w' : World} {B : Nat} {e : TypeId} {size n b : Nat} {v : Value} {xs : List Value} {s : ByteArray} {l : List UInt8} {z : Int} (h : RS w b s l z) (ho : w.ownsRow B e size v n xs) (k : w.grownBy w' (some b)) (hne : 73 ≠ e) : w'.ownsRow B e size v n xs := by
  obtain ⟨j, h1, h2, h3⟩ := h
  exact row_gr_heap ho k h2 hne
theorem RS.lt {w : World} {b : Nat} {s : ByteArray} {l : List UInt8} {z : Int} (h : RS w b s l z) : b < w.heap.size := by
  obtain ⟨j, h1, h2, h3⟩ := h
  exact lt_heap h2
theorem own_kept {w w' : World} {m B : Nat} {e : TypeId} {size n : Nat} {v : Value} {xs : List Value} (h : w.ownsRow B e size v n xs) (hk : Kept m w w') (hB : m ≤ B) : w'.ownsRow B e size v n xs := ownsRow_kept h (hk.mono hB)
theorem setAt_rows {w : World} {S : SetV} {pi ps : Option Addr} {ci cs B C : Nat} (hI : RowR w B (.slice pi S.ints.length ci) S.ints) (hS : RowS w C (.slice ps S.strs.length cs) S.strs) (h1 : inI64 S.ints) (h2 : ∀ s ∈ S.strs, s.size ≤ 8) (l1 : S.ints.length ≤ 9223372036854775807) (l2 : S.strs.length ≤ 9223372036854775807) :
    SetAt w (SC.val ⟨S.absent, pi, S.ints.length, ci, S.co, ps, S.strs.length, cs⟩) S := by
  refine ⟨_, _, rfl, OwnR.rngs (B := B) hI h1 l1, (fun s hs => by have := h2 s hs; omega), l2, ?_⟩
  rcases hS.2 with ⟨e, h0⟩ | ⟨g, cap, cur, e, _, hg, hc, _⟩
  · injection e with e1 e2 e3
    exact ⟨none, 0, (by rw [e1, e3]; rfl), (fun i hi' => by omega)⟩
  · injection e with e1 e2 e3
    subst e1 e3
    obtain ⟨sp, hsp⟩ := capOf_of (a := some ⟨g, 0, none⟩) hc (fun e => by cases e)
    refine ⟨_, sp, by rw [← hsp], fun i hi' => ⟨g, 0, rfl, lt_heap hg, ?_⟩⟩
    rw [Nat.zero_add]
    refine ownsRow_cell hS i _ ?_
    have : stCells1 S.strs = S.strs.map Value.string := by unfold stCells1; induction S.strs with
      | nil => rfl
      | cons x l ih => simp [List.flatMap_cons, ih]
    rw [this, List.getElem?_map, List.getElem?_eq_getElem hi', Option.map_some, List.getD_eq_getElem?_getD, List.getElem?_eq_getElem hi']
    rfl
def Lives (m : Nat) (W : World) (P : World → Prop) : Prop := ∀ w'', Kept m W w'' → P w''
theorem kept_gr {w w' : World} {m g : Nat} {r : Option Nat} (k : w.grownBy w' r) (hr : r = some g) (hg : g < m ∨ w.heap.size ≤ g) : Kept m w w' := ⟨k.size, fun i hm hi => k.block i hi (by intro e; rw [← e] at hr; injection hr with hr; omega)⟩
theorem Lives.keep {m : Nat} {W W' : World} {P : World → Prop} (h : Lives m W P) (k : Kept m W W') : Lives m W' P := fun w'' hk => h w'' (k.trans hk)
theorem Lives.on {m : Nat} {W W' : World} {P : World → Prop} (h : Lives m W P) (k : Below W.heap.size W W') : Lives m W' P := h.keep (Kept.ofBelow k)
theorem Lives.lt {m g : Nat} {W W' : World} {P : World → Prop} (h : Lives m W P) (k : W.grownBy W' (some g)) (hg : g < m) : Lives m W' P := h.keep (kept_gr k rfl (Or.inl hg))
theorem Lives.back {m m' : Nat} {W : World} {P : World → Prop} (h : Lives m W P) (hm : m' ≤ m) : Lives m' W P := fun w'' hk => h w'' (hk.mono hm)
theorem Lives.now {m : Nat} {W : World} {P : World → Prop} (h : Lives m W P) : P W := h W (Kept.refl _ _)
def NewB (m0 : Nat) (W : World) (v : Value) (c : BxC) (x : BoxV) : Prop :=
  ∃ m w1, m0 ≤ m ∧ Kept m w1 W ∧ (∀ g, v.ownBlock = some g → g < m ∨ w1.heap.size ≤ g) ∧ ∀ w'', Kept m w1 w'' → BoxAt w'' c.val x
theorem NewB.keep {m0 : Nat} {W W' : World} {v : Value} {c : BxC} {x : BoxV} (h : NewB m0 W v c x) (k : Kept m0 W W') : NewB m0 W' v c x := by
  obtain ⟨m, w1, h1, h2, h3, h4⟩ := h
  exact ⟨m, w1, h1, h2.trans (k.mono h1), h3, h4⟩
theorem NewB.app {m0 : Nat} {W W' : World} {v v' : Value} {c : BxC} {x : BoxV} (h : NewB m0 W v c x) (k : W.grownBy W' v.ownBlock) (ho : ∀ g, v'.ownBlock = some g → some g = v.ownBlock ∨ W.heap.size ≤ g) : NewB m0 W' v' c x := by
  obtain ⟨m, w1, h1, h2, h3, h4⟩ := h
  refine ⟨m, w1, h1, ⟨Nat.le_trans h2.size k.size, fun i hm hi => (k.block i (Nat.lt_of_lt_of_le hi h2.size) (fun e => by rcases h3 i e.symm with h | h <;> omega)).trans (h2.block i hm hi)⟩, fun g hg => ?_, h4⟩
  · rcases ho g hg with e | e
    · exact h3 g e.symm
    · exact Or.inr (Nat.le_trans h2.size e)
theorem flat_at {c : List BxC} {d : BxC} : bcCells (c ++ [d]) = bcCells c ++ d.list := by unfold bcCells; rw [List.flatMap_append]; simp only [List.flatMap_cons, List.flatMap_nil, List.append_nil]
theorem BxC.cells_size : bc0.val.cells.size = 16 := by kernel_rfl
theorem rn_appB {o : Oper} {w : World} (a : Act) (s x : Operand) {T : TypeId} (hT : T = 31 ∨ T = 32) (ho : o.op = .call { callee := .builtin .append, args := #[s, x], argTypes := #[T, T] }) (B : Nat) (v : Value) (l : List BxC) (hs : a.eval s = v) (hown : OwnB w B v l)
    (g : Nat) (d : BxC) (hx : a.eval x = .slice (some ⟨g, 0, none⟩) 1 1) (hd : BcIn w g d) (hn : l.length ≤ 1000000) (hB : B ≤ w.heap.size) :
    ∃ v' w', (execOp a.eval o).run Tryz.prog w = .ok (.value v') w' ∧ OwnB w' B v' (l ++ [d]) ∧ w.grownBy w' v.ownBlock ∧ (∀ g, v'.ownBlock = some g → some g = v.ownBlock ∨ w.heap.size ≤ g) := by
  obtain ⟨i0, hi, hz0, hz1, hz2⟩ := info_parts cInfoB
  obtain ⟨v', w', hr, h2, h3, h4⟩ := app_where w B T o.type 40 i0 _ 16 256 (hT.elim (fun h => h ▸ Tryz.underlying31) (fun h => h ▸ Tryz.underlying32)) hi hz0 hz1 hz2 BxC.cells_size (by decide) (by decide) v l.length _ hown ⟨g, 0, none⟩ 1 d.list (BxC.list_len d) (fun j u hu => by
    rw [Addr.add_mid, Nat.zero_add, cell_heap hd]
    exact List.getElem?_toArray.trans hu) (fun u hu => bcCells_one [d] u (by unfold bcCells; simp only [List.flatMap_cons, List.flatMap_nil, List.append_nil]; exact hu)) hn hB
  refine ⟨v', w', ?_, ?_, h3, h4⟩
  · unfold execOp
    simp only [ho, resolve, invoke, builtin, Sem.run_bind, Sem.run_pure, Result.andThen_ok, List.map_toArray, List.map_cons, List.map_nil, hs, hx, hr]
  · show w'.ownsRow B 40 16 v' (l ++ [d]).length (bcCells (l ++ [d]))
    rw [flat_at, List.length_append]
    exact h2
end Go.Proofs.YtlmdcaemjaldfaaGreat
namespace Go.Proofs.YtlmdcaemjaldfaaGreat
open Go.RowKit
theorem ev_at0 (e : EvV) (w : World) : (Instr.index 44 (.agg #[.int .i64 e.v0.1, .int .i64 e.v0.2.1, .string e.v0.2.2, .int .i64 e.v1.1, .int .i64 e.v1.2.1, .string e.v1.2.2, .int .i64 e.v2.1, .int .i64 e.v2.2.1, .string e.v2.2.2, .int .i64 e.v3.1, .int .i64 e.v3.2.1, .string e.v3.2.2]) (.int .i64 0)).run Tryz.prog w = .ok (.agg #[.int .i64 e.v0.1, .int .i64 e.v0.2.1, .string e.v0.2.2]) w := by kernel_rfl
theorem ev_at1 (e : EvV) (w : World) : (Instr.index 44 (.agg #[.int .i64 e.v0.1, .int .i64 e.v0.2.1, .string e.v0.2.2, .int .i64 e.v1.1, .int .i64 e.v1.2.1, .string e.v1.2.2, .int .i64 e.v2.1, .int .i64 e.v2.2.1, .string e.v2.2.2, .int .i64 e.v3.1, .int .i64 e.v3.2.1, .string e.v3.2.2]) (.int .i64 1)).run Tryz.prog w = .ok (.agg #[.int .i64 e.v1.1, .int .i64 e.v1.2.1, .string e.v1.2.2]) w := by kernel_rfl
theorem ev_at2 (e : EvV) (w : World) : (Instr.index 44 (.agg #[.int .i64 e.v0.1, .int .i64 e.v0.2.1, .string e.v0.2.2, .int .i64 e.v1.1, .int .i64 e.v1.2.1, .string e.v1.2.2, .int .i64 e.v2.1, .int .i64 e.v2.2.1, .string e.v2.2.2, .int .i64 e.v3.1, .int .i64 e.v3.2.1, .string e.v3.2.2]) (.int .i64 2)).run Tryz.prog w = .ok (.agg #[.int .i64 e.v2.1, .int .i64 e.v2.2.1, .string e.v2.2.2]) w := by kernel_rfl
theorem ev_at3 (e : EvV) (w : World) : (Instr.index 44 (.agg #[.int .i64 e.v0.1, .int .i64 e.v0.2.1, .string e.v0.2.2, .int .i64 e.v1.1, .int .i64 e.v1.2.1, .string e.v1.2.2, .int .i64 e.v2.1, .int .i64 e.v2.2.1, .string e.v2.2.2, .int .i64 e.v3.1, .int .i64 e.v3.2.1, .string e.v3.2.2]) (.int .i64 3)).run Tryz.prog w = .ok (.agg #[.int .i64 e.v3.1, .int .i64 e.v3.2.1, .string e.v3.2.2]) w := by kernel_rfl
section
variable {ops : Array Oper} {Q : Exit → Act → World → Prop} {S : World → Prop} {o : Oper} {a : Act}
theorem yt_lenR (hw : Region.wanted o (yielded ops a.tmps) = true) (x : Operand) (ho : o.op = .call { callee := .builtin .len, args := #[x], argTypes := #[22] }) (p : Option Addr) (n c : Nat) (hx : a.eval x = .slice p n c) : YieldsIf Tryz.prog ops S o (.int .i64 n) a :=
  Or.inl ⟨hw, fun w hS => by
    unfold execOp
    simp only [ho, resolve, invoke, builtin, Sem.run_bind, Sem.run_pure, Result.andThen_ok, List.map_toArray, List.map_cons, List.map_nil, hx]
    go_simp⟩
theorem yt_lenT (hw : Region.wanted o (yielded ops a.tmps) = true) (x : Operand) (ho : o.op = .call { callee := .builtin .len, args := #[x], argTypes := #[23] }) (p : Option Addr) (n c : Nat) (hx : a.eval x = .slice p n c) : YieldsIf Tryz.prog ops S o (.int .i64 n) a :=
  Or.inl ⟨hw, fun w hS => by
    unfold execOp
    simp only [ho, resolve, invoke, builtin, Sem.run_bind, Sem.run_pure, Result.andThen_ok, List.map_toArray, List.map_cons, List.map_nil, hx]
    go_simp⟩
set_option maxRecDepth 100000 in
theorem yt_atR (hw : Region.wanted o (yielded ops a.tmps) = true) (x y : Operand) (ho : o.op = .indexAddr 22 x y) (b off n c i : Nat) (hx : a.eval x = .slice (some ⟨b, off, none⟩) n c) (hy : a.eval y = .int .i64 i) (hi : i < n) : YieldsIf Tryz.prog ops S o (.pointer (some ⟨b, off + i * 2, none⟩)) a :=
  Or.inl ⟨hw, fun w hS => by
    simp only [execOp, ho, hx, hy]
    go_simp⟩
set_option maxRecDepth 100000 in
theorem yt_atT (hw : Region.wanted o (yielded ops a.tmps) = true) (x y : Operand) (ho : o.op = .indexAddr 23 x y) (b off n c i : Nat) (hx : a.eval x = .slice (some ⟨b, off, none⟩) n c) (hy : a.eval y = .int .i64 i) (hi : i < n) : YieldsIf Tryz.prog ops S o (.pointer (some ⟨b, off + i * 1, none⟩)) a :=
  Or.inl ⟨hw, fun w hS => by
    simp only [execOp, ho, hx, hy]
    go_simp⟩
theorem yt_ldRg (hw : Region.wanted o (yielded ops a.tmps) = true) (x : Operand) (ho : o.op = .load 114 x) (g : Nat) (k : Nat) (hx : a.eval x = .pointer (some ⟨g, k, none⟩)) (p q : Int)
    (h : ∀ w, S w → w.cell? ⟨g, k, none⟩ = some (.int .i64 p) ∧ w.cell? ⟨g, k + 1, none⟩ = some (.int .i64 q)) : YieldsIf Tryz.prog ops S o (.agg #[.int .i64 p, .int .i64 q]) a :=
  Or.inl ⟨hw, fun w hS => by
    obtain ⟨c0, c1⟩ := h w hS
    simp only [execOp, ho, hx]
    go_simp⟩
set_option maxRecDepth 100000 in
theorem yt_evIdx (hw : Region.wanted o (yielded ops a.tmps) = true) (x y : Operand) (ho : o.op = .index 44 x y) (e : EvV) (k : Nat) (hx : a.eval x = evVal e) (hy : a.eval y = .int .i64 k) (hk : k < 4) : YieldsIf Tryz.prog ops S o (vVal (e.get k)) a := by
  match k, hk with
  | 0, _ => exact Or.inl ⟨hw, fun w hS => by
      have h1 := ev_at0 e w
      simp only [execOp, ho, hx, hy, evVal, vVal, EvV.get]
      first
        | (rw [show ((0 : Nat) : Int) = 0 from rfl]; simp only [Sem.run_bind, h1, Result.andThen_ok, Sem.run_pure])
        | (simp only [Nat.cast_ofNat, Nat.cast_zero, Nat.cast_one, Int.ofNat_eq_natCast, Sem.run_bind, h1, Result.andThen_ok, Sem.run_pure])⟩
  | 1, _ => exact Or.inl ⟨hw, fun w hS => by
      have h1 := ev_at1 e w
      simp only [execOp, ho, hx, hy, evVal, vVal, EvV.get]
      first
        | (rw [show ((1 : Nat) : Int) = 1 from rfl]; simp only [Sem.run_bind, h1, Result.andThen_ok, Sem.run_pure])
        | (simp only [Nat.cast_ofNat, Nat.cast_zero, Nat.cast_one, Int.ofNat_eq_natCast, Sem.run_bind, h1, Result.andThen_ok, Sem.run_pure])⟩
  | 2, _ => exact Or.inl ⟨hw, fun w hS => by
      have h1 := ev_at2 e w
      simp only [execOp, ho, hx, hy, evVal, vVal, EvV.get]
      first
        | (rw [show ((2 : Nat) : Int) = 2 from rfl]; simp only [Sem.run_bind, h1, Result.andThen_ok, Sem.run_pure])
        | (simp only [Nat.cast_ofNat, Nat.cast_zero, Nat.cast_one, Int.ofNat_eq_natCast, Sem.run_bind, h1, Result.andThen_ok, Sem.run_pure])⟩
  | 3, _ => exact Or.inl ⟨hw, fun w hS => by
      have h1 := ev_at3 e w
      simp only [execOp, ho, hx, hy, evVal, vVal, EvV.get]
      first
        | (rw [show ((3 : Nat) : Int) = 3 from rfl]; simp only [Sem.run_bind, h1, Result.andThen_ok, Sem.run_pure])
        | (simp only [Nat.cast_ofNat, Nat.cast_zero, Nat.cast_one, Int.ofNat_eq_natCast, Sem.run_bind, h1, Result.andThen_ok, Sem.run_pure])⟩
theorem wt_allocBu {rest : List Oper} {w : World} (hw : Region.wanted o (yielded ops a.tmps) = true) (ho : o.op = .alloc 96) {B : Nat} (hB : B ≤ w.heap.size)
    (h : ∀ W g, w.heap.size ≤ g → BW W B g [] → Below w.heap.size w W → wpList Tryz.prog ops Q rest (a.put o.dst (.pointer (some ⟨g, 0, none⟩))) W) : wpList Tryz.prog ops Q (o :: rest) a w := by
  refine wl_run hw (.pointer (some ⟨w.heap.size, 0, none⟩)) (w.alloc (.cells #[.pointer none, .slice none 0 0] 96)) ?_ (h _ _ (Nat.le_refl _) (Or.inl ⟨hB, _, heap_new _ _, World.ownsRow_nil _ _ _ _, by simp [Value.ownBlock]⟩) ((Below.refl _ w).alloc (Nat.le_refl _) _))
  simp only [execOp, ho]
  go_simp
end
theorem setAt_parts {w : World} {s : SC} {S : SetV} (h : SetAt w s.val S) : s = ⟨S.absent, s.p, S.ints.length, s.c, S.co, s.q, S.strs.length, s.e⟩ ∧ RngsAt w (.slice s.p S.ints.length s.c) S.ints ∧ StrsAt w (.slice s.q S.strs.length s.e) S.strs := by
  obtain ⟨a, p, n, c, d, q, m, e⟩ := s
  obtain ⟨vi, vs, hv, h1, h2⟩ := h
  simp only [SC.val, Value.agg.injEq] at hv
  simp at hv
  obtain ⟨rfl, rfl, rfl, rfl⟩ := hv
  have h1' := h1
  have h2' := h2
  obtain ⟨_, _, a1, c1, e1, _⟩ := h1
  obtain ⟨_, _, a2, c2, e2, _⟩ := h2
  cases e1
  cases e2
  exact ⟨rfl, h1', h2'⟩
theorem rng_cell {w : World} {p : Option Addr} {n c : Nat} {l : List Rg} (h : RngsAt w (.slice p n c) l) (i : Nat) (hi : i < l.length) : ∃ b off, p = some ⟨b, off, none⟩ ∧ w.cell? ⟨b, off + i * 2, none⟩ = some (.int .i64 (l.getD i (0, 0)).1) ∧ w.cell? ⟨b, off + i * 2 + 1, none⟩ = some (.int .i64 (l.getD i (0, 0)).2) := by
  obtain ⟨_, _, a, sp, hv, h⟩ := h
  obtain ⟨b, off, ha, _, c0, c1⟩ := h i hi
  cases hv
  exact ⟨b, off, ha, c0, c1⟩
theorem str_cell {w : World} {p : Option Addr} {n c : Nat} {l : List ByteArray} (h : StrsAt w (.slice p n c) l) (i : Nat) (hi : i < l.length) : ∃ b off, p = some ⟨b, off, none⟩ ∧ w.cell? ⟨b, off + i * 1, none⟩ = some (.string (l.getD i ⟨#[]⟩)) := by
  obtain ⟨_, _, a, sp, hv, h⟩ := h
  obtain ⟨b, off, ha, _, c0⟩ := h i hi
  cases hv
  rw [Nat.mul_one]
  exact ⟨b, off, ha, c0⟩
theorem flat_le {α : Type} (f : α → List UInt8) (c : Nat) : ∀ l : List α, (∀ x ∈ l, (f x).length ≤ c) → (l.flatMap f).length ≤ c * l.length
  | [], _ => by simp
  | x :: l, h => by
    have h1 := h x (List.mem_cons_self ..)
    have h2 := flat_le f c l (fun y hy => h y (List.mem_cons_of_mem _ hy))
    rw [List.flatMap_cons, List.length_append, List.length_cons, Nat.mul_add]
    omega
theorem rgB_le {r : Rg} (h : okI r.1 ∧ okI r.2) : (rgB2 r).length ≤ 20 := by
  have h1 := enc_len_le (zz r.1) (zz_bd _ h.1.1 h.1.2)
  have h2 := enc_len_le (zz r.2) (zz_bd _ h.2.1 h.2.2)
  unfold rgB2
  rw [List.length_append]
  omega
theorem stB_le {s : ByteArray} (h : s.size ≤ 8) : (stB2 s).length ≤ 18 := by
  have h1 := enc_len_le s.size (by omega)
  unfold stB2
  rw [List.length_append, ← Lib.size_eq]
  omega
theorem take_step {α : Type} (f : α → List UInt8) (d : α) (l : List α) (k : Nat) (hk : k < l.length) : (l.take (k + 1)).flatMap f = (l.take k).flatMap f ++ f (l.getD k d) := by
  rw [List.take_succ_eq_append_getElem hk, List.flatMap_append, List.getD_eq_getElem?_getD, List.getElem?_eq_getElem hk]
  simp
theorem getD_memA {α : Type} (l : List α) (d : α) (k : Nat) (hk : k < l.length) : l.getD k d ∈ l := by
  rw [List.getD_eq_getElem?_getD, List.getElem?_eq_getElem hk]
  exact List.getElem_mem hk
theorem BW.back {w : World} {B B' g : Nat} {l : List UInt8} (h : BW w B g l) (hb : B' ≤ B) : BW w B' g l := by
  have key : ∀ p, Lib.BuilderAt 96 5 B g p (Lib.byteCells l) w → Lib.BuilderAt 96 5 B' g p (Lib.byteCells l) w := fun p ⟨h1, v, h2, h3, h4⟩ => ⟨Nat.le_trans hb h1, v, h2, ⟨h3.1, by
    rcases h3.2 with h | ⟨g, cap, cur, e, hg, hr⟩
    · exact Or.inl h
    · exact Or.inr ⟨g, cap, cur, e, Nat.le_trans hb hg, hr⟩⟩, h4⟩
  rcases h with h | h
  · exact Or.inl (key _ h)
  · exact Or.inr (key _ h)
end Go.Proofs.YtlmdcaemjaldfaaGreat
namespace Go.Proofs.YtlmdcaemjaldfaaGreat
open Go.RowKit
theorem c_writeString (B g : Nat) (l m : List UInt8) (w : World) (h : BW w B g l) (hl : l.length + m.length ≤ 10000000) (hB : B ≤ w.heap.size) :
    Calls Tryz.prog 112 #[.pointer (some ⟨g, 0, none⟩), .string (bs m)] w fun e W => (∃ v, e = .returned v) ∧ BW W B g (l ++ m) ∧ PutR B w W :=
  (writeString_any B g l (bs m) w h (by rw [bs_size]; exact hl) hB).mono fun e W h => ⟨⟨_, h.1⟩, h.2⟩
theorem c_writeByte (B g : Nat) (l : List UInt8) (c : Int) (w : World) (h : BW w B g l) (hl : l.length ≤ 10000000) (hB : B ≤ w.heap.size) (c0 : 0 ≤ c) (c1 : c < 256) :
    Calls Tryz.prog 114 #[.pointer (some ⟨g, 0, none⟩), .int .u8 c] w fun e W => (∃ v, e = .returned v) ∧ BW W B g (l ++ [UInt8.ofNat c.toNat]) ∧ PutR B w W :=
  (writeByte_any B g l c w h hl hB c0 c1).mono fun e W h => ⟨⟨_, h.1⟩, h.2⟩
theorem c_uint (n : Nat) (w : World) (hn : n < 18446744073709551616) : Calls Tryz.prog 113 #[.int .u64 ((n : Nat) : Int)] w fun e w' => e = .returned (.string (bs (enc n))) ∧ Below w.heap.size w w' := uint_any n w hn
theorem c_int (n : Int) (w : World) (h : okI n) : Calls Tryz.prog 115 #[.int .i64 n] w fun e w' => e = .returned (.string (bs (enc (zz n)))) ∧ Below w.heap.size w w' := int_any n w h.1 h.2
theorem c_str (s : ByteArray) (w : World) (hs : s.size ≤ 8) : Calls Tryz.prog 116 #[.string s] w fun e w' => e = .returned (.string (bs (stB2 s))) ∧ Below w.heap.size w w' :=
  (str_any s w (by omega)).mono fun e w' h => ⟨by rw [h.1]; exact congrArg (fun z => Ending.returned (.string z)) (bs_cat (enc s.size) s.data.toList), h.2⟩
theorem va_0 (l : List UInt8) : l ++ [UInt8.ofNat (0 : Int).toNat] = l ++ vaB (0, 0, ⟨#[]⟩) := rfl
theorem va_1 (l : List UInt8) (n : Int) : l ++ [UInt8.ofNat (1 : Int).toNat] ++ enc (zz n) = l ++ vaB (1, n, ⟨#[]⟩) := by simp [vaB]
theorem va_2 (l : List UInt8) (s : ByteArray) : l ++ [UInt8.ofNat (2 : Int).toNat] ++ stB2 s = l ++ vaB (2, 0, s) := by simp [vaB]
set_option maxHeartbeats 1000000 in
set_option maxRecDepth 100000 in
theorem putCount_any (B g n : Nat) (l : List UInt8) (w : World) (HB : BW w B g l) (hB : B ≤ w.heap.size) (hl : l.length ≤ 1000000) (hn : n ≤ 1000000) :
    Calls Tryz.prog 64 #[.pointer (some ⟨g, 0, none⟩), .int .i64 ((n : Nat) : Int)] w fun e w' => e = .returned (.tuple #[]) ∧ BW w' B g (l ++ enc n) ∧ PutR B w w' := by
  have D : PutR B w w := PutR.refl _ _
  have hen := enc_len_le n (by omega)
  go_enter Tryz.func64, Tryz.ntmps64
  refine wp_region_lit ?_
  refine wl_yield (o := ⟨_, _, _, _, _, _⟩) (.pointer (some ⟨g, 0, none⟩)) (yl_move (by rfl) _ rfl _ rfl) ?_
  simp only [Act.put, lzA, lzB, lzC]
  refine wl_yield (o := ⟨_, _, _, _, _, _⟩) (.int .i64 (n : Nat)) (yl_move (by rfl) _ rfl _ rfl) ?_
  simp only [Act.put, lzA, lzB, lzC]
  refine wl_yield (o := ⟨_, _, _, _, _, _⟩) (.int .u64 (((n : Nat) : Int))) (yw_iu (by rfl) _ rfl (((n : Nat) : Int)) rfl (by omega) (by omega)) ?_
  simp only [Act.put, lzA, lzB, lzC]
  refine wt_call (o := ⟨_, _, _, _, _, _⟩) (by rfl) 113 _ _ rfl #[.int .u64 (((n : Nat) : Int))] rfl (run_call Tryz.func113 (by kernel_rfl) (by kernel_rfl)) ?_
  refine (c_uint n _ (by omega)).mono ?_
  rintro r v1 ⟨rfl, kb⟩
  replace D := PutR.on hB D kb
  replace HB := HB.on kb
  clear kb
  refine Or.inl ⟨.string (bs (enc n)), rfl, ?_⟩
  simp only [Act.put, lzA, lzB, lzC]
  refine wt_call (o := ⟨_, _, _, _, _, _⟩) (by rfl) 112 _ _ rfl #[.pointer (some ⟨g, 0, none⟩), .string (bs (enc n))] rfl (run_call Tryz.func112 (by kernel_rfl) (by kernel_rfl)) ?_
  refine (c_writeString B g _ (enc n) _ HB (by omega) (Nat.le_trans hB D.size)).mono ?_
  rintro r v2 (⟨⟨rv2, rfl⟩, hb, kp⟩)
  · replace D := D.trans kp
    replace HB := hb
    clear hb kp
    refine Or.inl ⟨rv2, rfl, ?_⟩
    simp only [Act.put, lzA, lzB, lzC]
    refine wpList_nil ?_
    go_end0
    exact ⟨rfl, HB, D⟩
set_option maxHeartbeats 4000000 in
set_option maxRecDepth 100000 in
theorem putValue_any (B g : Nat) (v : Va) (l : List UInt8) (w : World) (HB : BW w B g l) (hB : B ≤ w.heap.size) (hl : l.length ≤ 1000000) (hv : okVa v) :
    Calls Tryz.prog 69 #[.pointer (some ⟨g, 0, none⟩), vVal v] w fun e w' => e = .returned (.tuple #[]) ∧ BW w' B g (l ++ vaB v) ∧ PutR B w w' := by
  have D : PutR B w w := PutR.refl _ _
  rcases okVa_cases hv with rfl | ⟨n, rfl, hi⟩ | ⟨s, rfl, hs⟩
  · go_enter Tryz.func69, Tryz.ntmps69
    refine wp_seq_k (fun K1 hK1 => ?_)
    refine wp_region_lit ?_
    refine wt_boxVa (o := ⟨_, _, _, _, _, _⟩) (by rfl) _ rfl ((0, 0, ⟨#[]⟩)) rfl (fun v1 g1 hg G1 kb => ?_)
    simp only [Act.put, lzA, lzB, lzC]
    have ge_g1 : w.heap.size ≤ g1 := Nat.le_trans D.size hg
    clear hg
    replace D := PutR.on hB D kb
    replace HB := HB.on kb
    clear kb
    replace G1 : v1.heap[g1]? = some (.cells #[.int .i64 0, .int .i64 0, .string ⟨#[]⟩] 42 (0, 0)) := G1
    refine wpList_nil ?_
    refine hK1 _ _ ?_
    clear hK1 K1
    refine wp_seq_k (fun K2 hK2 => ?_)
    refine wp_region_lit ?_
    refine wl_yield (o := ⟨_, _, _, _, _, _⟩) (.pointer (some ⟨g, 0, none⟩)) (yl_move (by rfl) _ rfl _ rfl) ?_
    simp only [Act.put, lzA, lzB, lzC]
    refine wl_yield (o := ⟨_, _, _, _, _, _⟩) (.pointer (some ⟨g1, 0, none⟩)) (yt_fVa0 (by rfl) _ rfl g1 0 rfl) ?_
    simp only [Act.put, lzA, lzB, lzC]
    refine wl_yield (o := ⟨_, _, _, _, _, _⟩) (.int .i64 0) (yt_ldI (by rfl) _ rfl _ _ rfl 0 (fun _ h => by subst h; exact cell_heap G1 0)) ?_
    simp only [Act.put, lzA, lzB, lzC]
    refine wl_yield (o := ⟨_, _, _, _, _, _⟩) (.int .u8 0) (yw_iy (by rfl) _ rfl 0 rfl (by omega) (by omega)) ?_
    simp only [Act.put, lzA, lzB, lzC]
    refine wt_call (o := ⟨_, _, _, _, _, _⟩) (by rfl) 114 _ _ rfl #[.pointer (some ⟨g, 0, none⟩), .int .u8 0] rfl (run_call Tryz.func114 (by kernel_rfl) (by kernel_rfl)) ?_
    refine (c_writeByte B g _ 0 _ HB (by first | omega | (simp only [List.length_append, List.length_cons, List.length_nil]; first | omega | (have := (enc_len_le (zz n) (zz_bd _ hi.1 hi.2)).2; omega) | (have := stB_le hs; omega))) (Nat.le_trans hB D.size) (by decide) (by decide)).mono ?_
    rintro r v2 (⟨⟨rv2, rfl⟩, hb, kp⟩)
    · replace G1 := PutR.keep kp G1 (by decide) (by decide)
      replace D := D.trans kp
      replace HB := hb
      clear hb kp
      refine Or.inl ⟨rv2, rfl, ?_⟩
      simp only [Act.put, lzA, lzB, lzC]
      refine wpList_nil ?_
      refine hK2 _ _ ?_
      clear hK2 K2
      refine wp_seq_k (fun K3 hK3 => ?_)
      refine wp_region_lit ?_
      refine wl_yield (o := ⟨_, _, _, _, _, _⟩) (.pointer (some ⟨g1, 0, none⟩)) (yt_fVa0 (by rfl) _ rfl g1 0 rfl) ?_
      simp only [Act.put, lzA, lzB, lzC]
      refine wl_yield (o := ⟨_, _, _, _, _, _⟩) (.int .i64 0) (yt_ldI (by rfl) _ rfl _ _ rfl 0 (fun _ h => by subst h; exact cell_heap G1 0)) ?_
      simp only [Act.put, lzA, lzB, lzC]
      refine wpList_nil ?_
      refine hK3 _ _ ?_
      clear hK3 K3
      refine wp_block ?_
      refine wp_seq_k (fun K4 hK4 => ?_)
      refine wp_region_lit ?_
      refine wl_yield (o := ⟨_, _, _, _, _, _⟩) (.bool false) (yt_eqlI (by rfl) _ _ _ rfl 0 1 false rfl rfl (by decide)) ?_
      simp only [Act.put, lzA, lzB, lzC]
      refine wl_yield (o := ⟨_, _, _, _, _, _⟩) (.bool false) (yl_assign (by rfl) _ rfl _ rfl) ?_
      simp only [Act.put, lzA, lzB, lzC]
      refine wpList_nil ?_
      refine hK4 _ _ ?_
      clear hK4 K4
      refine wp_cond_false rfl ?_
      refine wp_seq_k (fun K5 hK5 => ?_)
      refine wp_region_lit ?_
      refine wl_yield (o := ⟨_, _, _, _, _, _⟩) (.bool false) (yt_eqlI (by rfl) _ _ _ rfl 0 2 false rfl rfl (by decide)) ?_
      simp only [Act.put, lzA, lzB, lzC]
      refine wl_yield (o := ⟨_, _, _, _, _, _⟩) (.bool false) (yl_assign (by rfl) _ rfl _ rfl) ?_
      simp only [Act.put, lzA, lzB, lzC]
      refine wpList_nil ?_
      refine hK5 _ _ ?_
      clear hK5 K5
      refine wp_cond_false rfl ?_
      refine wp_skip ?_
      go_end0
      exact ⟨rfl, (by rw [← va_0]; exact HB), D⟩
  · go_enter Tryz.func69, Tryz.ntmps69
    refine wp_seq_k (fun K1 hK1 => ?_)
    refine wp_region_lit ?_
    refine wt_boxVa (o := ⟨_, _, _, _, _, _⟩) (by rfl) _ rfl ((1, n, ⟨#[]⟩)) rfl (fun v1 g1 hg G1 kb => ?_)
    simp only [Act.put, lzA, lzB, lzC]
    have ge_g1 : w.heap.size ≤ g1 := Nat.le_trans D.size hg
    clear hg
    replace D := PutR.on hB D kb
    replace HB := HB.on kb
    clear kb
    replace G1 : v1.heap[g1]? = some (.cells #[.int .i64 1, .int .i64 n, .string ⟨#[]⟩] 42 (0, 0)) := G1
    refine wpList_nil ?_
    refine hK1 _ _ ?_
    clear hK1 K1
    refine wp_seq_k (fun K2 hK2 => ?_)
    refine wp_region_lit ?_
    refine wl_yield (o := ⟨_, _, _, _, _, _⟩) (.pointer (some ⟨g, 0, none⟩)) (yl_move (by rfl) _ rfl _ rfl) ?_
    simp only [Act.put, lzA, lzB, lzC]
    refine wl_yield (o := ⟨_, _, _, _, _, _⟩) (.pointer (some ⟨g1, 0, none⟩)) (yt_fVa0 (by rfl) _ rfl g1 0 rfl) ?_
    simp only [Act.put, lzA, lzB, lzC]
    refine wl_yield (o := ⟨_, _, _, _, _, _⟩) (.int .i64 1) (yt_ldI (by rfl) _ rfl _ _ rfl 1 (fun _ h => by subst h; exact cell_heap G1 0)) ?_
    simp only [Act.put, lzA, lzB, lzC]
    refine wl_yield (o := ⟨_, _, _, _, _, _⟩) (.int .u8 1) (yw_iy (by rfl) _ rfl 1 rfl (by omega) (by omega)) ?_
    simp only [Act.put, lzA, lzB, lzC]
    refine wt_call (o := ⟨_, _, _, _, _, _⟩) (by rfl) 114 _ _ rfl #[.pointer (some ⟨g, 0, none⟩), .int .u8 1] rfl (run_call Tryz.func114 (by kernel_rfl) (by kernel_rfl)) ?_
    refine (c_writeByte B g _ 1 _ HB (by first | omega | (simp only [List.length_append, List.length_cons, List.length_nil]; first | omega | (have := (enc_len_le (zz n) (zz_bd _ hi.1 hi.2)).2; omega) | (have := stB_le hs; omega))) (Nat.le_trans hB D.size) (by decide) (by decide)).mono ?_
    rintro r v2 (⟨⟨rv2, rfl⟩, hb, kp⟩)
    · replace G1 := PutR.keep kp G1 (by decide) (by decide)
      replace D := D.trans kp
      replace HB := hb
      clear hb kp
      refine Or.inl ⟨rv2, rfl, ?_⟩
      simp only [Act.put, lzA, lzB, lzC]
      refine wpList_nil ?_
      refine hK2 _ _ ?_
      clear hK2 K2
      refine wp_seq_k (fun K3 hK3 => ?_)
      refine wp_region_lit ?_
      refine wl_yield (o := ⟨_, _, _, _, _, _⟩) (.pointer (some ⟨g1, 0, none⟩)) (yt_fVa0 (by rfl) _ rfl g1 0 rfl) ?_
      simp only [Act.put, lzA, lzB, lzC]
      refine wl_yield (o := ⟨_, _, _, _, _, _⟩) (.int .i64 1) (yt_ldI (by rfl) _ rfl _ _ rfl 1 (fun _ h => by subst h; exact cell_heap G1 0)) ?_
      simp only [Act.put, lzA, lzB, lzC]
      refine wpList_nil ?_
      refine hK3 _ _ ?_
      clear hK3 K3
      refine wp_block ?_
      refine wp_seq_k (fun K4 hK4 => ?_)
      refine wp_region_lit ?_
      refine wl_yield (o := ⟨_, _, _, _, _, _⟩) (.bool true) (yt_eqlI (by rfl) _ _ _ rfl 1 1 true rfl rfl (by decide)) ?_
      simp only [Act.put, lzA, lzB, lzC]
      refine wl_yield (o := ⟨_, _, _, _, _, _⟩) (.bool true) (yl_assign (by rfl) _ rfl _ rfl) ?_
      simp only [Act.put, lzA, lzB, lzC]
      refine wpList_nil ?_
      refine hK4 _ _ ?_
      clear hK4 K4
      refine wp_cond_true rfl ?_
      refine wp_region_lit ?_
      refine wl_yield (o := ⟨_, _, _, _, _, _⟩) (.pointer (some ⟨g, 0, none⟩)) (yl_move (by rfl) _ rfl _ rfl) ?_
      simp only [Act.put, lzA, lzB, lzC]
      refine wl_yield (o := ⟨_, _, _, _, _, _⟩) (.pointer (some ⟨g1, 1, none⟩)) (yt_fVa1 (by rfl) _ rfl g1 0 rfl) ?_
      simp only [Act.put, lzA, lzB, lzC]
      refine wl_yield (o := ⟨_, _, _, _, _, _⟩) (.int .i64 n) (yt_ldI (by rfl) _ rfl _ _ rfl n (fun _ h => by subst h; exact cell_heap G1 1)) ?_
      simp only [Act.put, lzA, lzB, lzC]
      refine wt_call (o := ⟨_, _, _, _, _, _⟩) (by rfl) 115 _ _ rfl #[.int .i64 n] rfl (run_call Tryz.func115 (by kernel_rfl) (by kernel_rfl)) ?_
      refine (c_int n _ hi).mono ?_
      rintro r v3 ⟨rfl, kb⟩
      replace D := PutR.on hB D kb
      replace HB := HB.on kb
      replace G1 := heap_on G1 kb
      clear kb
      refine Or.inl ⟨.string (bs (enc (zz n))), rfl, ?_⟩
      simp only [Act.put, lzA, lzB, lzC]
      refine wt_call (o := ⟨_, _, _, _, _, _⟩) (by rfl) 112 _ _ rfl #[.pointer (some ⟨g, 0, none⟩), .string (bs (enc (zz n)))] rfl (run_call Tryz.func112 (by kernel_rfl) (by kernel_rfl)) ?_
      refine (c_writeString B g _ (enc (zz n)) _ HB (by first | omega | (simp only [List.length_append, List.length_cons, List.length_nil]; first | omega | (have := (enc_len_le (zz n) (zz_bd _ hi.1 hi.2)).2; omega) | (have := stB_le hs; omega))) (Nat.le_trans hB D.size)).mono ?_
      rintro r v4 (⟨⟨rv4, rfl⟩, hb, kp⟩)
      · replace G1 := PutR.keep kp G1 (by decide) (by decide)
        replace D := D.trans kp
        replace HB := hb
        clear hb kp
        refine Or.inl ⟨rv4, rfl, ?_⟩
        simp only [Act.put, lzA, lzB, lzC]
        refine wpList_nil ?_
        go_end0
        exact ⟨rfl, (by rw [← va_1]; exact HB), D⟩
  · go_enter Tryz.func69, Tryz.ntmps69
    refine wp_seq_k (fun K1 hK1 => ?_)
    refine wp_region_lit ?_
    refine wt_boxVa (o := ⟨_, _, _, _, _, _⟩) (by rfl) _ rfl ((2, 0, s)) rfl (fun v1 g1 hg G1 kb => ?_)
    simp only [Act.put, lzA, lzB, lzC]
    have ge_g1 : w.heap.size ≤ g1 := Nat.le_trans D.size hg
    clear hg
    replace D := PutR.on hB D kb
    replace HB := HB.on kb
    clear kb
    replace G1 : v1.heap[g1]? = some (.cells #[.int .i64 2, .int .i64 0, .string s] 42 (0, 0)) := G1
    refine wpList_nil ?_
    refine hK1 _ _ ?_
    clear hK1 K1
    refine wp_seq_k (fun K2 hK2 => ?_)
    refine wp_region_lit ?_
    refine wl_yield (o := ⟨_, _, _, _, _, _⟩) (.pointer (some ⟨g, 0, none⟩)) (yl_move (by rfl) _ rfl _ rfl) ?_
    simp only [Act.put, lzA, lzB, lzC]
    refine wl_yield (o := ⟨_, _, _, _, _, _⟩) (.pointer (some ⟨g1, 0, none⟩)) (yt_fVa0 (by rfl) _ rfl g1 0 rfl) ?_
    simp only [Act.put, lzA, lzB, lzC]
    refine wl_yield (o := ⟨_, _, _, _, _, _⟩) (.int .i64 2) (yt_ldI (by rfl) _ rfl _ _ rfl 2 (fun _ h => by subst h; exact cell_heap G1 0)) ?_
    simp only [Act.put, lzA, lzB, lzC]
    refine wl_yield (o := ⟨_, _, _, _, _, _⟩) (.int .u8 2) (yw_iy (by rfl) _ rfl 2 rfl (by omega) (by omega)) ?_
    simp only [Act.put, lzA, lzB, lzC]
    refine wt_call (o := ⟨_, _, _, _, _, _⟩) (by rfl) 114 _ _ rfl #[.pointer (some ⟨g, 0, none⟩), .int .u8 2] rfl (run_call Tryz.func114 (by kernel_rfl) (by kernel_rfl)) ?_
    refine (c_writeByte B g _ 2 _ HB (by first | omega | (simp only [List.length_append, List.length_cons, List.length_nil]; first | omega | (have := (enc_len_le (zz n) (zz_bd _ hi.1 hi.2)).2; omega) | (have := stB_le hs; omega))) (Nat.le_trans hB D.size) (by decide) (by decide)).mono ?_
    rintro r v2 (⟨⟨rv2, rfl⟩, hb, kp⟩)
    · replace G1 := PutR.keep kp G1 (by decide) (by decide)
      replace D := D.trans kp
      replace HB := hb
      clear hb kp
      refine Or.inl ⟨rv2, rfl, ?_⟩
      simp only [Act.put, lzA, lzB, lzC]
      refine wpList_nil ?_
      refine hK2 _ _ ?_
      clear hK2 K2
      refine wp_seq_k (fun K3 hK3 => ?_)
      refine wp_region_lit ?_
      refine wl_yield (o := ⟨_, _, _, _, _, _⟩) (.pointer (some ⟨g1, 0, none⟩)) (yt_fVa0 (by rfl) _ rfl g1 0 rfl) ?_
      simp only [Act.put, lzA, lzB, lzC]
      refine wl_yield (o := ⟨_, _, _, _, _, _⟩) (.int .i64 2) (yt_ldI (by rfl) _ rfl _ _ rfl 2 (fun _ h => by subst h; exact cell_heap G1 0)) ?_
      simp only [Act.put, lzA, lzB, lzC]
      refine wpList_nil ?_
      refine hK3 _ _ ?_
      clear hK3 K3
      refine wp_block ?_
      refine wp_seq_k (fun K4 hK4 => ?_)
      refine wp_region_lit ?_
      refine wl_yield (o := ⟨_, _, _, _, _, _⟩) (.bool false) (yt_eqlI (by rfl) _ _ _ rfl 2 1 false rfl rfl (by decide)) ?_
      simp only [Act.put, lzA, lzB, lzC]
      refine wl_yield (o := ⟨_, _, _, _, _, _⟩) (.bool false) (yl_assign (by rfl) _ rfl _ rfl) ?_
      simp only [Act.put, lzA, lzB, lzC]
      refine wpList_nil ?_
      refine hK4 _ _ ?_
      clear hK4 K4
      refine wp_cond_false rfl ?_
      refine wp_seq_k (fun K5 hK5 => ?_)
      refine wp_region_lit ?_
      refine wl_yield (o := ⟨_, _, _, _, _, _⟩) (.bool true) (yt_eqlI (by rfl) _ _ _ rfl 2 2 true rfl rfl (by decide)) ?_
      simp only [Act.put, lzA, lzB, lzC]
      refine wl_yield (o := ⟨_, _, _, _, _, _⟩) (.bool true) (yl_assign (by rfl) _ rfl _ rfl) ?_
      simp only [Act.put, lzA, lzB, lzC]
      refine wpList_nil ?_
      refine hK5 _ _ ?_
      clear hK5 K5
      refine wp_cond_true rfl ?_
      refine wp_region_lit ?_
      refine wl_yield (o := ⟨_, _, _, _, _, _⟩) (.pointer (some ⟨g, 0, none⟩)) (yl_move (by rfl) _ rfl _ rfl) ?_
      simp only [Act.put, lzA, lzB, lzC]
      refine wl_yield (o := ⟨_, _, _, _, _, _⟩) (.pointer (some ⟨g1, 2, none⟩)) (yt_fVa2 (by rfl) _ rfl g1 0 rfl) ?_
      simp only [Act.put, lzA, lzB, lzC]
      refine wl_yield (o := ⟨_, _, _, _, _, _⟩) (.string s) (yt_ldS (by rfl) _ rfl _ _ rfl _ (fun _ h => by subst h; exact cell_heap G1 2)) ?_
      simp only [Act.put, lzA, lzB, lzC]
      refine wt_call (o := ⟨_, _, _, _, _, _⟩) (by rfl) 116 _ _ rfl #[.string s] rfl (run_call Tryz.func116 (by kernel_rfl) (by kernel_rfl)) ?_
      refine (c_str s _ hs).mono ?_
      rintro r v3 ⟨rfl, kb⟩
      replace D := PutR.on hB D kb
      replace HB := HB.on kb
      replace G1 := heap_on G1 kb
      clear kb
      refine Or.inl ⟨.string (bs (stB2 s)), rfl, ?_⟩
      simp only [Act.put, lzA, lzB, lzC]
      refine wt_call (o := ⟨_, _, _, _, _, _⟩) (by rfl) 112 _ _ rfl #[.pointer (some ⟨g, 0, none⟩), .string (bs (stB2 s))] rfl (run_call Tryz.func112 (by kernel_rfl) (by kernel_rfl)) ?_
      refine (c_writeString B g _ (stB2 s) _ HB (by first | omega | (simp only [List.length_append, List.length_cons, List.length_nil]; first | omega | (have := (enc_len_le (zz n) (zz_bd _ hi.1 hi.2)).2; omega) | (have := stB_le hs; omega))) (Nat.le_trans hB D.size)).mono ?_
      rintro r v4 (⟨⟨rv4, rfl⟩, hb, kp⟩)
      · replace G1 := PutR.keep kp G1 (by decide) (by decide)
        replace D := D.trans kp
        replace HB := hb
        clear hb kp
        refine Or.inl ⟨rv4, rfl, ?_⟩
        simp only [Act.put, lzA, lzB, lzC]
        refine wpList_nil ?_
        go_end0
        exact ⟨rfl, (by rw [← va_2]; exact HB), D⟩
end Go.Proofs.YtlmdcaemjaldfaaGreat
