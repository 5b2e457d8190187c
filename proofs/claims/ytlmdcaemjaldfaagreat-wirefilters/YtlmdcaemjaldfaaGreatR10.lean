import Derived.Test.YtlmdcaemjaldfaaGreatR5
import Derived.Test.YtlmdcaemjaldfaaGreatR9
import Derived.Test.YtlmdcaemjaldfaaGreatR2
import Derived.Test.YtlmdcaemjaldfaaGreatR4
set_option linter.unusedSimpArgs false
set_option linter.unusedVariables false
namespace Go.Proofs.YtlmdcaemjaldfaaGreat
open Go.RowKit
set_option maxHeartbeats 4000000 in
set_option maxRecDepth 100000 in
theorem refFew6_any (v : Value) (l : List BoxV) (w : World) (hv : Bxs w v l) :
    Calls Tryz.prog 15 #[v] w fun r w' => r = .returned (.bool (decide (l.length ≤ 20) && l.all fewBx)) ∧ Below w.heap.size w w' := by
  obtain ⟨cs, hr, ha⟩ := hv
  have hbig := hr.1
  have hcl := ha.1
  obtain ⟨q, cp, rfl⟩ := hr.form
  have hv : Bxs w (.slice q cs.length cp) l := ⟨cs, hr, ha⟩
  have D := Below.refl w.heap.size w
  by_cases h20 : cs.length ≤ 20
  · go_enter Tryz.func15, Tryz.ntmps15
    refine wp_seq_k (fun K1 hK1 => ?_)
    refine wp_region_lit ?_
    refine wl_yield (o := ⟨_, _, _, _, _, _⟩) (.bool false) (yl_assign (by rfl) _ rfl _ rfl) ?_
    simp only [Act.put, lzA, lzB, lzC]
    refine wpList_nil ?_
    refine hK1 _ _ ?_
    clear hK1 K1
    refine wp_seq_k (fun K2 hK2 => ?_)
    refine wp_region_lit ?_
    refine wl_yield (o := ⟨_, _, _, _, _, _⟩) (.slice q cs.length cp) (yl_move (by rfl) _ rfl _ rfl) ?_
    simp only [Act.put, lzA, lzB, lzC]
    refine wl_yield (o := ⟨_, _, _, _, _, _⟩) (.int .i64 (cs.length : Nat)) (yl_lenB (by rfl) _ rfl _ _ _ rfl) ?_
    simp only [Act.put, lzA, lzB, lzC]
    refine wl_yield (o := ⟨_, _, _, _, _, _⟩) (.bool true) (yl_leqI (by rfl) _ _ _ rfl (((cs.length : Nat) : Int)) (20) true rfl rfl (decide_eq_true (by omega))) ?_
    simp only [Act.put, lzA, lzB, lzC]
    refine wl_yield (o := ⟨_, _, _, _, _, _⟩) (.bool true) (yl_move (by rfl) _ rfl _ rfl) ?_
    simp only [Act.put, lzA, lzB, lzC]
    refine wl_yield (o := ⟨_, _, _, _, _, _⟩) (.slice q cs.length cp) (yl_move (by rfl) _ rfl _ rfl) ?_
    simp only [Act.put, lzA, lzB, lzC]
    refine wl_call (o := ⟨_, _, _, _, _, _⟩) (by rfl) 51 _ _ rfl #[.slice q cs.length cp] rfl (run_call Tryz.func51 (by kernel_rfl) (by kernel_rfl)) ?_
    refine (refFewBx_any _ l _ (hv.on D).boxesAt).mono ?_
    rintro r v1 ⟨rfl, kb⟩
    replace D := D.trans (kb.mono D.size)
    clear kb
    refine ⟨.bool (l.all fewBx), rfl, ?_⟩
    simp only [Act.put, lzA, lzB, lzC]
    refine wl_yield (o := ⟨_, _, _, _, _, _⟩) (.bool (l.all fewBx)) (yl_pickT (by rfl) _ _ _ rfl rfl _ rfl) ?_
    simp only [Act.put, lzA, lzB, lzC]
    refine wl_yield (o := ⟨_, _, _, _, _, _⟩) (.bool (l.all fewBx)) (yl_assign (by rfl) _ rfl _ rfl) ?_
    simp only [Act.put, lzA, lzB, lzC]
    refine wpList_nil ?_
    refine hK2 _ _ ?_
    clear hK2 K2
    refine wp_ret ?_
    go_ret
    exact ⟨by rw [decide_eq_true (show l.length ≤ 20 by omega)]; rfl, D⟩
  · go_enter Tryz.func15, Tryz.ntmps15
    refine wp_seq_k (fun K1 hK1 => ?_)
    refine wp_region_lit ?_
    refine wl_yield (o := ⟨_, _, _, _, _, _⟩) (.bool false) (yl_assign (by rfl) _ rfl _ rfl) ?_
    simp only [Act.put, lzA, lzB, lzC]
    refine wpList_nil ?_
    refine hK1 _ _ ?_
    clear hK1 K1
    refine wp_seq_k (fun K2 hK2 => ?_)
    refine wp_region_lit ?_
    refine wl_yield (o := ⟨_, _, _, _, _, _⟩) (.slice q cs.length cp) (yl_move (by rfl) _ rfl _ rfl) ?_
    simp only [Act.put, lzA, lzB, lzC]
    refine wl_yield (o := ⟨_, _, _, _, _, _⟩) (.int .i64 (cs.length : Nat)) (yl_lenB (by rfl) _ rfl _ _ _ rfl) ?_
    simp only [Act.put, lzA, lzB, lzC]
    refine wl_yield (o := ⟨_, _, _, _, _, _⟩) (.bool false) (yl_leqI (by rfl) _ _ _ rfl (((cs.length : Nat) : Int)) (20) false rfl rfl (decide_eq_false (by omega))) ?_
    simp only [Act.put, lzA, lzB, lzC]
    refine wl_yield (o := ⟨_, _, _, _, _, _⟩) (.bool false) (yl_move (by rfl) _ rfl _ rfl) ?_
    simp only [Act.put, lzA, lzB, lzC]
    with_reducible refine wl_yield (o := ⟨_, _, _, _, _, _⟩) undef (yl_undef (by kernel_rfl)) ?_
    simp only [Act.put, lzA, lzB, lzC]
    with_reducible refine wl_yield (o := ⟨_, _, _, _, _, _⟩) undef (yl_undef (by kernel_rfl)) ?_
    simp only [Act.put, lzA, lzB, lzC]
    refine wl_yield (o := ⟨_, _, _, _, _, _⟩) (.bool false) (yl_pickF (by rfl) _ _ _ rfl rfl _ rfl) ?_
    simp only [Act.put, lzA, lzB, lzC]
    refine wl_yield (o := ⟨_, _, _, _, _, _⟩) (.bool false) (yl_assign (by rfl) _ rfl _ rfl) ?_
    simp only [Act.put, lzA, lzB, lzC]
    refine wpList_nil ?_
    refine hK2 _ _ ?_
    clear hK2 K2
    refine wp_ret ?_
    go_ret
    exact ⟨by rw [decide_eq_false (show ¬ l.length ≤ 20 by omega)]; rfl, D⟩
set_option maxHeartbeats 4000000 in
set_option maxRecDepth 100000 in
theorem refSameBx_any (c d : BxC) (a b : BoxV) (w : World) (hv0 : BoxAt w c.val a) (hu0 : BoxAt w d.val b) :
    Calls Tryz.prog 50 #[c.val, d.val] w fun r w' => r = .returned (.bool (sameBx a b)) ∧ Below w.heap.size w w' := by
  have D := Below.refl w.heap.size w
  go_enter Tryz.func50, Tryz.ntmps50
  refine wp_seq_k (fun K1 hK1 => ?_)
  refine wp_region_lit ?_
  refine wl_boxBc (o := ⟨_, _, _, _, _, _⟩) (by rfl) _ rfl rfl (fun v1 gb1 hggb1 HA kb => ?_)
  simp only [Act.put, lzA, lzB, lzC]
  replace D := D.trans (kb.mono D.size)
  clear kb
  refine wl_boxBc (o := ⟨_, _, _, _, _, _⟩) (by rfl) _ rfl rfl (fun v2 gb2 hggb2 HB kb => ?_)
  simp only [Act.put, lzA, lzB, lzC]
  replace D := D.trans (kb.mono D.size)
  replace HA := HA.on kb
  clear kb
  refine wl_yield (o := ⟨_, _, _, _, _, _⟩) (.bool false) (yl_assign (by rfl) _ rfl _ rfl) ?_
  simp only [Act.put, lzA, lzB, lzC]
  refine wpList_nil ?_
  refine hK1 _ _ ?_
  clear hK1 K1
  refine wp_seq_k (fun K2 hK2 => ?_)
  refine wp_seq_k (fun K3 hK3 => ?_)
  refine wp_region_lit ?_
  refine wl_yield (o := ⟨_, _, _, _, _, _⟩) (.int .i64 0) (yl_assign (by rfl) _ rfl _ rfl) ?_
  simp only [Act.put, lzA, lzB, lzC]
  refine wpList_nil ?_
  refine hK3 _ _ ?_
  clear hK3 K3
  refine wp_block ?_
  go_loopw [5] (fun i wr => ∃ k : Nat, i = .int .i64 k ∧ k ≤ 4 ∧ (∀ j, j < k → sameB (a.get j) (b.get j) = true) ∧ BcIn wr gb1 c ∧ BcIn wr gb2 d ∧ Below w.heap.size w wr) (fun i _ => 4 - (intOf i).toNat)
  case atStart => exact ⟨0, rfl, by omega, fun j h => by omega, HA, HB, D⟩
  case round =>
    clear D HA HB
    obtain ⟨k, rfl, hk, hF, HA, HB, D⟩ := hrel
    by_cases hlt : k < 4
    · refine wp_seq_k (fun K4 hK4 => ?_)
      refine wp_seq_k (fun K5 hK5 => ?_)
      refine wp_region_lit ?_
      refine wl_yield (o := ⟨_, _, _, _, _, _⟩) (.int .i64 (k : Nat)) (yl_move (by rfl) _ rfl _ rfl) ?_
      simp only [Act.put, lzA, lzB, lzC]
      refine wl_yield (o := ⟨_, _, _, _, _, _⟩) (.bool true) (yl_lssI (by rfl) _ _ _ rfl (((k : Nat) : Int)) (4) true rfl rfl (decide_eq_true (by omega))) ?_
      simp only [Act.put, lzA, lzB, lzC]
      refine wpList_nil ?_
      refine hK5 _ _ ?_
      clear hK5 K5
      refine wp_cond_true rfl ?_
      refine wp_skip ?_
      refine hK4 _ _ ?_
      clear hK4 K4
      refine wp_seq_k (fun K6 hK6 => ?_)
      refine wp_block ?_
      refine wp_seq_k (fun K7 hK7 => ?_)
      refine wp_region_held_drew (S := fun w' => BcIn w' gb1 c ∧ BcIn w' gb2 d) (by kernel_rfl) ⟨HA.on (Below.refl _ _).drew, HB.on (Below.refl _ _).drew⟩ (fun hHeld => ?_)
      have kb : Below wr.heap.size wr wr.drew := (Below.refl _ wr).drew
      replace D := D.trans (kb.mono D.size)
      replace HA := HA.on kb
      replace HB := HB.on kb
      clear kb
      generalize wr.drew = v3 at D hHeld HA HB ⊢
      refine wpAnyH_take (i := 0) (oi := ⟨_, _, _, _, _, _⟩) (v := .int .i64 (k : Nat)) rfl (by kernel_rfl) (by kernel_rfl) (by kernel_rfl) (fun _ _ _ h => h) (yl_move (by rfl) _ rfl _ rfl) (by assumption) ?_
      simp only [Act.put, lzA, lzB, lzC]
      refine wpAnyH_take (i := 1) (oi := ⟨_, _, _, _, _, _⟩) (v := .pointer (some ⟨gb1, k * 4, none⟩)) rfl (by kernel_rfl) (by kernel_rfl) (by kernel_rfl) (fun _ _ _ h => h) (yl_atBox (by rfl) _ _ rfl gb1 k rfl rfl (hlt)) (by assumption) ?_
      simp only [Act.put, lzA, lzB, lzC]
      refine wpAnyH_take (i := 2) (oi := ⟨_, _, _, _, _, _⟩) (v := SC.val (BxC.sc c k)) rfl (by kernel_rfl) (by kernel_rfl) (by kernel_rfl) (fun _ _ _ h => h) (yl_set (by rfl) _ rfl _ (k * 4) rfl _ _ _ _ (fun _ h => BcIn.scAt k (hlt) h.1)) (by assumption) ?_
      simp only [Act.put, lzA, lzB, lzC]
      refine wpAnyH_take (i := 3) (oi := ⟨_, _, _, _, _, _⟩) (v := .int .i64 (k : Nat)) rfl (by kernel_rfl) (by kernel_rfl) (by kernel_rfl) (fun _ _ _ h => h) (yl_move (by rfl) _ rfl _ rfl) (by assumption) ?_
      simp only [Act.put, lzA, lzB, lzC]
      refine wpAnyH_take (i := 4) (oi := ⟨_, _, _, _, _, _⟩) (v := .pointer (some ⟨gb2, k * 4, none⟩)) rfl (by kernel_rfl) (by kernel_rfl) (by kernel_rfl) (fun _ _ _ h => h) (yl_atBox (by rfl) _ _ rfl gb2 k rfl rfl (hlt)) (by assumption) ?_
      simp only [Act.put, lzA, lzB, lzC]
      refine wpAnyH_take (i := 5) (oi := ⟨_, _, _, _, _, _⟩) (v := SC.val (BxC.sc d k)) rfl (by kernel_rfl) (by kernel_rfl) (by kernel_rfl) (fun _ _ _ h => h) (yl_set (by rfl) _ rfl _ (k * 4) rfl _ _ _ _ (fun _ h => BcIn.scAt k (hlt) h.2)) (by assumption) ?_
      simp only [Act.put, lzA, lzB, lzC]
      refine held_call (o := ⟨_, _, _, _, _, _⟩) 6 (by kernel_rfl) rfl (by rfl) 98 _ _ rfl #[SC.val (BxC.sc c k), SC.val (BxC.sc d k)] rfl (run_call Tryz.func98 (by kernel_rfl) (by kernel_rfl)) ?_
      refine (refSame_any _ _ (a.get k) (b.get k) _ ((hv0.on D).sc k hlt) ((hu0.on D).sc k hlt)).mono ?_
      rintro r v4 ⟨rfl, kb⟩
      replace D := D.trans (kb.mono D.size)
      replace HA := HA.on kb
      replace HB := HB.on kb
      clear kb
      clear hHeld
      cases hq : sameB (a.get k) (b.get k)
      · refine ⟨.bool false, rfl, ⟨HA, HB⟩, fun hHeld => ?_⟩
        simp only [Act.put, lzA, lzB, lzC]
        refine wpAnyH_take (i := 7) (oi := ⟨_, _, _, _, _, _⟩) (v := .bool true) rfl (by kernel_rfl) (by kernel_rfl) (by kernel_rfl) (fun _ _ _ h => h) (yl_not (by rfl) _ _ rfl false rfl) (by assumption) ?_
        simp only [Act.put, lzA, lzB, lzC]
        refine wpAnyH_done (by kernel_rfl) ?_ _
        clear hHeld
        refine hK7 _ _ ?_
        clear hK7 K7
        refine wp_cond_true rfl ?_
        refine wp_seq_k (fun K8 hK8 => ?_)
        refine wp_region_lit ?_
        refine wl_yield (o := ⟨_, _, _, _, _, _⟩) (.bool false) (yl_assign (by rfl) _ rfl _ rfl) ?_
        simp only [Act.put, lzA, lzB, lzC]
        refine wpList_nil ?_
        refine hK8 _ _ ?_
        clear hK8 K8
        refine wp_ret ?_
        go_ret
        exact ⟨by rw [show sameBx a b = false from all4_no hlt hq]; rfl, D⟩
      · refine ⟨.bool true, rfl, ⟨HA, HB⟩, fun hHeld => ?_⟩
        simp only [Act.put, lzA, lzB, lzC]
        refine wpAnyH_take (i := 7) (oi := ⟨_, _, _, _, _, _⟩) (v := .bool false) rfl (by kernel_rfl) (by kernel_rfl) (by kernel_rfl) (fun _ _ _ h => h) (yl_not (by rfl) _ _ rfl true rfl) (by assumption) ?_
        simp only [Act.put, lzA, lzB, lzC]
        refine wpAnyH_done (by kernel_rfl) ?_ _
        clear hHeld
        refine hK7 _ _ ?_
        clear hK7 K7
        refine wp_cond_false rfl ?_
        refine wp_skip ?_
        refine hK6 _ _ ?_
        clear hK6 K6
        refine wp_region_lit ?_
        refine wl_yield (o := ⟨_, _, _, _, _, _⟩) (.int .i64 (k : Nat)) (yl_move (by rfl) _ rfl _ rfl) ?_
        simp only [Act.put, lzA, lzB, lzC]
        refine wl_yield (o := ⟨_, _, _, _, _, _⟩) (.int .i64 (k + 1 : Nat)) (yl_addI (by rfl) _ _ _ rfl (((k : Nat) : Int)) (1) (((k + 1 : Nat) : Int)) rfl rfl (by omega) (by omega) (by omega)) ?_
        simp only [Act.put, lzA, lzB, lzC]
        refine wl_yield (o := ⟨_, _, _, _, _, _⟩) (.int .i64 (k + 1 : Nat)) (yl_assign (by rfl) _ rfl _ rfl) ?_
        simp only [Act.put, lzA, lzB, lzC]
        refine wpList_nil ?_
        show _ ∧ _
        go_roundw
        case rel => exact ⟨k + 1, rfl, by omega, fun j hj => by
          rcases Nat.lt_succ_iff_lt_or_eq.1 hj with h | rfl
          · exact hF j h
          · exact hq, HA, HB, D⟩
        case measure => simp [intOf]; omega
    · refine wp_seq_k (fun K4 hK4 => ?_)
      refine wp_seq_k (fun K5 hK5 => ?_)
      refine wp_region_lit ?_
      refine wl_yield (o := ⟨_, _, _, _, _, _⟩) (.int .i64 (k : Nat)) (yl_move (by rfl) _ rfl _ rfl) ?_
      simp only [Act.put, lzA, lzB, lzC]
      refine wl_yield (o := ⟨_, _, _, _, _, _⟩) (.bool false) (yl_lssI (by rfl) _ _ _ rfl (((k : Nat) : Int)) (4) false rfl rfl (decide_eq_false (by omega))) ?_
      simp only [Act.put, lzA, lzB, lzC]
      refine wpList_nil ?_
      refine hK5 _ _ ?_
      clear hK5 K5
      refine wp_cond_false rfl ?_
      refine wp_exit ?_
      refine hK2 _ _ ?_
      clear hK4 K4 hK2 K2
      refine wp_seq_k (fun K6 hK6 => ?_)
      refine wp_region_lit ?_
      refine wl_yield (o := ⟨_, _, _, _, _, _⟩) (.bool true) (yl_assign (by rfl) _ rfl _ rfl) ?_
      simp only [Act.put, lzA, lzB, lzC]
      refine wpList_nil ?_
      refine hK6 _ _ ?_
      clear hK6 K6
      refine wp_ret ?_
      go_ret
      exact ⟨by rw [show sameBx a b = true from (all4_iff fun i => sameB (a.get i) (b.get i)).2 fun i hi => hF i (by omega)]; rfl, D⟩
set_option maxHeartbeats 4000000 in
set_option maxRecDepth 100000 in
theorem refSame6_any (v u : Value) (l m : List BoxV) (w : World) (hv : Bxs w v l) (hu : Bxs w u m) :
    Calls Tryz.prog 14 #[v, u] w fun r w' => r = .returned (.bool (sameF l m)) ∧ Below w.heap.size w w' := by
  obtain ⟨cs, h1, a1⟩ := hv
  obtain ⟨ds, h2, a2⟩ := hu
  have hbig := h1.1
  have hbig2 := h2.1
  have hcl := a1.1
  have hdl := a2.1
  obtain ⟨q1, p1, rfl⟩ := h1.form
  obtain ⟨q2, p2, rfl⟩ := h2.form
  have D := Below.refl w.heap.size w
  go_enter Tryz.func14, Tryz.ntmps14
  refine wp_seq_k (fun K1 hK1 => ?_)
  refine wp_region_lit ?_
  refine wl_yield (o := ⟨_, _, _, _, _, _⟩) (.bool false) (yl_assign (by rfl) _ rfl _ rfl) ?_
  simp only [Act.put, lzA, lzB, lzC]
  refine wpList_nil ?_
  refine hK1 _ _ ?_
  clear hK1 K1
  refine wp_seq_k (fun K2 hK2 => ?_)
  refine wp_seq_k (fun K3 hK3 => ?_)
  refine wp_region_lit ?_
  refine wl_yield (o := ⟨_, _, _, _, _, _⟩) (.slice q1 cs.length p1) (yl_move (by rfl) _ rfl _ rfl) ?_
  simp only [Act.put, lzA, lzB, lzC]
  refine wl_yield (o := ⟨_, _, _, _, _, _⟩) (.int .i64 (cs.length : Nat)) (yl_lenB (by rfl) _ rfl _ _ _ rfl) ?_
  simp only [Act.put, lzA, lzB, lzC]
  refine wl_yield (o := ⟨_, _, _, _, _, _⟩) (.slice q2 ds.length p2) (yl_move (by rfl) _ rfl _ rfl) ?_
  simp only [Act.put, lzA, lzB, lzC]
  refine wl_yield (o := ⟨_, _, _, _, _, _⟩) (.int .i64 (ds.length : Nat)) (yl_lenB (by rfl) _ rfl _ _ _ rfl) ?_
  simp only [Act.put, lzA, lzB, lzC]
  refine wl_yield (o := ⟨_, _, _, _, _, _⟩) (.bool (decide (¬ cs.length = ds.length))) (yl_neqlI (by rfl) _ _ _ rfl (((cs.length : Nat) : Int)) (((ds.length : Nat) : Int)) (decide (¬ cs.length = ds.length)) rfl rfl (by rw [decide_eq_decide]; omega)) ?_
  simp only [Act.put, lzA, lzB, lzC]
  refine wpList_nil ?_
  refine hK3 _ _ ?_
  clear hK3 K3
  refine wp_cond_split (t := (decide (¬ cs.length = ds.length))) rfl (fun hc => ?_) (fun hc => ?_)
  · have hL : ¬ cs.length = ds.length := of_decide_eq_true hc
    refine wp_seq_k (fun K4 hK4 => ?_)
    refine wp_region_lit ?_
    refine wl_yield (o := ⟨_, _, _, _, _, _⟩) (.bool false) (yl_assign (by rfl) _ rfl _ rfl) ?_
    simp only [Act.put, lzA, lzB, lzC]
    refine wpList_nil ?_
    refine hK4 _ _ ?_
    clear hK4 K4
    refine wp_ret ?_
    go_ret
    exact ⟨by unfold sameF; rw [decide_eq_false (show ¬ l.length = m.length by omega), Bool.false_and]; rfl, D⟩
  · have hL : cs.length = ds.length := Decidable.not_not.1 (of_decide_eq_false hc)
    refine wp_skip ?_
    refine hK2 _ _ ?_
    clear hK2 K2
    refine wp_seq_k (fun K4 hK4 => ?_)
    refine wp_seq_k (fun K5 hK5 => ?_)
    refine wp_region_lit ?_
    refine wl_yield (o := ⟨_, _, _, _, _, _⟩) (.int .i64 0) (yl_assign (by rfl) _ rfl _ rfl) ?_
    simp only [Act.put, lzA, lzB, lzC]
    refine wpList_nil ?_
    refine hK5 _ _ ?_
    clear hK5 K5
    refine wp_block ?_
    go_loopw [5] (fun i wr => ∃ k : Nat, i = .int .i64 k ∧ k ≤ cs.length ∧ (∀ j, j < k → sameBx (l.getD j zBox) (m.getD j zBox) = true) ∧ Below w.heap.size w wr) (fun i _ => cs.length - (intOf i).toNat)
    case atStart => exact ⟨0, rfl, by omega, fun j h => by omega, D⟩
    case round =>
      clear D 
      obtain ⟨k, rfl, hk, hF, D⟩ := hrel
      by_cases hlt : k < cs.length
      · have HCkl : k < l.length := by omega
        obtain ⟨g, off, rfl, HC⟩ := (h1.on D).at.2 k (by omega)
        have HCb := a1.2 k HCkl
        have HDkl : k < m.length := by omega
        obtain ⟨g2, off2, rfl, HD⟩ := (h2.on D).at.2 k (by omega)
        have HDb := a2.2 k HDkl
        refine wp_seq_k (fun K6 hK6 => ?_)
        refine wp_seq_k (fun K7 hK7 => ?_)
        refine wp_region_lit ?_
        refine wl_yield (o := ⟨_, _, _, _, _, _⟩) (.int .i64 (k : Nat)) (yl_move (by rfl) _ rfl _ rfl) ?_
        simp only [Act.put, lzA, lzB, lzC]
        refine wl_yield (o := ⟨_, _, _, _, _, _⟩) (.slice (some ⟨g, off, none⟩) cs.length p1) (yl_move (by rfl) _ rfl _ rfl) ?_
        simp only [Act.put, lzA, lzB, lzC]
        refine wl_yield (o := ⟨_, _, _, _, _, _⟩) (.int .i64 (cs.length : Nat)) (yl_lenB (by rfl) _ rfl _ _ _ rfl) ?_
        simp only [Act.put, lzA, lzB, lzC]
        refine wl_yield (o := ⟨_, _, _, _, _, _⟩) (.bool true) (yl_lssI (by rfl) _ _ _ rfl (((k : Nat) : Int)) (((cs.length : Nat) : Int)) true rfl rfl (decide_eq_true (by omega))) ?_
        simp only [Act.put, lzA, lzB, lzC]
        refine wpList_nil ?_
        refine hK7 _ _ ?_
        clear hK7 K7
        refine wp_cond_true rfl ?_
        refine wp_skip ?_
        refine hK6 _ _ ?_
        clear hK6 K6
        refine wp_seq_k (fun K8 hK8 => ?_)
        refine wp_block ?_
        refine wp_seq_k (fun K9 hK9 => ?_)
        refine wp_region_held_drew (S := fun w' => BcAt w' g (off + k * 16) (cs.getD k bc0) ∧ BcAt w' g2 (off2 + k * 16) (ds.getD k bc0)) (by kernel_rfl) ⟨HC.on (Below.refl _ _).drew, HD.on (Below.refl _ _).drew⟩ (fun hHeld => ?_)
        have kb : Below wr.heap.size wr wr.drew := (Below.refl _ wr).drew
        replace D := D.trans (kb.mono D.size)
        replace HC := HC.on kb
        replace HD := HD.on kb
        clear kb
        generalize wr.drew = v1 at D hHeld HC HD ⊢
        refine wpAnyH_take (i := 0) (oi := ⟨_, _, _, _, _, _⟩) (v := .slice (some ⟨g, off, none⟩) cs.length p1) rfl (by kernel_rfl) (by kernel_rfl) (by kernel_rfl) (fun _ _ _ h => h) (yl_move (by rfl) _ rfl _ rfl) (by assumption) ?_
        simp only [Act.put, lzA, lzB, lzC]
        refine wpAnyH_take (i := 1) (oi := ⟨_, _, _, _, _, _⟩) (v := .int .i64 (k : Nat)) rfl (by kernel_rfl) (by kernel_rfl) (by kernel_rfl) (fun _ _ _ h => h) (yl_move (by rfl) _ rfl _ rfl) (by assumption) ?_
        simp only [Act.put, lzA, lzB, lzC]
        refine wpAnyH_take (i := 2) (oi := ⟨_, _, _, _, _, _⟩) (v := .pointer (some ⟨g, off + k * 16, none⟩)) rfl (by kernel_rfl) (by kernel_rfl) (by kernel_rfl) (fun _ _ _ h => h) (yl_bxAt (by rfl) _ _ rfl g (off) _ _ (k) rfl rfl (by omega)) (by assumption) ?_
        simp only [Act.put, lzA, lzB, lzC]
        refine wpAnyH_take (i := 3) (oi := ⟨_, _, _, _, _, _⟩) (v := BxC.val (cs.getD k bc0)) rfl (by kernel_rfl) (by kernel_rfl) (by kernel_rfl) (fun _ _ _ h => h) (yl_bx (by rfl) _ rfl _ _ rfl _ (fun _ h => h.1)) (by assumption) ?_
        simp only [Act.put, lzA, lzB, lzC]
        refine wpAnyH_take (i := 4) (oi := ⟨_, _, _, _, _, _⟩) (v := .slice (some ⟨g2, off2, none⟩) ds.length p2) rfl (by kernel_rfl) (by kernel_rfl) (by kernel_rfl) (fun _ _ _ h => h) (yl_move (by rfl) _ rfl _ rfl) (by assumption) ?_
        simp only [Act.put, lzA, lzB, lzC]
        refine wpAnyH_take (i := 5) (oi := ⟨_, _, _, _, _, _⟩) (v := .int .i64 (k : Nat)) rfl (by kernel_rfl) (by kernel_rfl) (by kernel_rfl) (fun _ _ _ h => h) (yl_move (by rfl) _ rfl _ rfl) (by assumption) ?_
        simp only [Act.put, lzA, lzB, lzC]
        refine wpAnyH_take (i := 6) (oi := ⟨_, _, _, _, _, _⟩) (v := .pointer (some ⟨g2, off2 + k * 16, none⟩)) rfl (by kernel_rfl) (by kernel_rfl) (by kernel_rfl) (fun _ _ _ h => h) (yl_bxAt (by rfl) _ _ rfl g2 (off2) _ _ (k) rfl rfl (by omega)) (by assumption) ?_
        simp only [Act.put, lzA, lzB, lzC]
        refine wpAnyH_take (i := 7) (oi := ⟨_, _, _, _, _, _⟩) (v := BxC.val (ds.getD k bc0)) rfl (by kernel_rfl) (by kernel_rfl) (by kernel_rfl) (fun _ _ _ h => h) (yl_bx (by rfl) _ rfl _ _ rfl _ (fun _ h => h.2)) (by assumption) ?_
        simp only [Act.put, lzA, lzB, lzC]
        refine held_call (o := ⟨_, _, _, _, _, _⟩) 8 (by kernel_rfl) rfl (by rfl) 50 _ _ rfl #[BxC.val (cs.getD k bc0), BxC.val (ds.getD k bc0)] rfl (run_call Tryz.func50 (by kernel_rfl) (by kernel_rfl)) ?_
        refine (refSameBx_any _ _ (l.getD k zBox) (m.getD k zBox) _ (HCb.on D) (HDb.on D)).mono ?_
        rintro r v2 ⟨rfl, kb⟩
        replace D := D.trans (kb.mono D.size)
        replace HC := HC.on kb
        replace HD := HD.on kb
        clear kb
        clear hHeld
        cases hq : sameBx (l.getD k zBox) (m.getD k zBox)
        · refine ⟨.bool false, rfl, ⟨HC, HD⟩, fun hHeld => ?_⟩
          simp only [Act.put, lzA, lzB, lzC]
          refine wpAnyH_take (i := 9) (oi := ⟨_, _, _, _, _, _⟩) (v := .bool true) rfl (by kernel_rfl) (by kernel_rfl) (by kernel_rfl) (fun _ _ _ h => h) (yl_not (by rfl) _ _ rfl false rfl) (by assumption) ?_
          simp only [Act.put, lzA, lzB, lzC]
          refine wpAnyH_done (by kernel_rfl) ?_ _
          clear hHeld
          refine hK9 _ _ ?_
          clear hK9 K9
          refine wp_cond_true rfl ?_
          refine wp_seq_k (fun K10 hK10 => ?_)
          refine wp_region_lit ?_
          refine wl_yield (o := ⟨_, _, _, _, _, _⟩) (.bool false) (yl_assign (by rfl) _ rfl _ rfl) ?_
          simp only [Act.put, lzA, lzB, lzC]
          refine wpList_nil ?_
          refine hK10 _ _ ?_
          clear hK10 K10
          refine wp_ret ?_
          go_ret
          exact ⟨by unfold sameF; rw [show ((List.range l.length).all fun i => sameBx (l.getD i zBox) (m.getD i zBox)) = false from List.all_eq_false.2 ⟨k, List.mem_range.2 HCkl, by rw [hq]; simp⟩, Bool.and_false]; rfl, D⟩
        · refine ⟨.bool true, rfl, ⟨HC, HD⟩, fun hHeld => ?_⟩
          simp only [Act.put, lzA, lzB, lzC]
          refine wpAnyH_take (i := 9) (oi := ⟨_, _, _, _, _, _⟩) (v := .bool false) rfl (by kernel_rfl) (by kernel_rfl) (by kernel_rfl) (fun _ _ _ h => h) (yl_not (by rfl) _ _ rfl true rfl) (by assumption) ?_
          simp only [Act.put, lzA, lzB, lzC]
          refine wpAnyH_done (by kernel_rfl) ?_ _
          clear hHeld
          refine hK9 _ _ ?_
          clear hK9 K9
          refine wp_cond_false rfl ?_
          refine wp_skip ?_
          refine hK8 _ _ ?_
          clear hK8 K8
          refine wp_region_lit ?_
          refine wl_yield (o := ⟨_, _, _, _, _, _⟩) (.int .i64 (k : Nat)) (yl_move (by rfl) _ rfl _ rfl) ?_
          simp only [Act.put, lzA, lzB, lzC]
          refine wl_yield (o := ⟨_, _, _, _, _, _⟩) (.int .i64 (k + 1 : Nat)) (yl_addI (by rfl) _ _ _ rfl (((k : Nat) : Int)) (1) (((k + 1 : Nat) : Int)) rfl rfl (by omega) (by omega) (by omega)) ?_
          simp only [Act.put, lzA, lzB, lzC]
          refine wl_yield (o := ⟨_, _, _, _, _, _⟩) (.int .i64 (k + 1 : Nat)) (yl_assign (by rfl) _ rfl _ rfl) ?_
          simp only [Act.put, lzA, lzB, lzC]
          refine wpList_nil ?_
          show _ ∧ _
          go_roundw
          case rel => exact ⟨k + 1, rfl, by omega, fun j hj => by
            rcases Nat.lt_succ_iff_lt_or_eq.1 hj with h | rfl
            · exact hF j h
            · exact hq, D⟩
          case measure => simp [intOf]; omega
      · refine wp_seq_k (fun K6 hK6 => ?_)
        refine wp_seq_k (fun K7 hK7 => ?_)
        refine wp_region_lit ?_
        refine wl_yield (o := ⟨_, _, _, _, _, _⟩) (.int .i64 (k : Nat)) (yl_move (by rfl) _ rfl _ rfl) ?_
        simp only [Act.put, lzA, lzB, lzC]
        refine wl_yield (o := ⟨_, _, _, _, _, _⟩) (.slice q1 cs.length p1) (yl_move (by rfl) _ rfl _ rfl) ?_
        simp only [Act.put, lzA, lzB, lzC]
        refine wl_yield (o := ⟨_, _, _, _, _, _⟩) (.int .i64 (cs.length : Nat)) (yl_lenB (by rfl) _ rfl _ _ _ rfl) ?_
        simp only [Act.put, lzA, lzB, lzC]
        refine wl_yield (o := ⟨_, _, _, _, _, _⟩) (.bool false) (yl_lssI (by rfl) _ _ _ rfl (((k : Nat) : Int)) (((cs.length : Nat) : Int)) false rfl rfl (decide_eq_false (by omega))) ?_
        simp only [Act.put, lzA, lzB, lzC]
        refine wpList_nil ?_
        refine hK7 _ _ ?_
        clear hK7 K7
        refine wp_cond_false rfl ?_
        refine wp_exit ?_
        refine hK4 _ _ ?_
        clear hK6 K6 hK4 K4
        refine wp_seq_k (fun K8 hK8 => ?_)
        refine wp_region_lit ?_
        refine wl_yield (o := ⟨_, _, _, _, _, _⟩) (.bool true) (yl_assign (by rfl) _ rfl _ rfl) ?_
        simp only [Act.put, lzA, lzB, lzC]
        refine wpList_nil ?_
        refine hK8 _ _ ?_
        clear hK8 K8
        refine wp_ret ?_
        go_ret
        exact ⟨by unfold sameF; rw [decide_eq_true (show l.length = m.length by omega), show ((List.range l.length).all fun i => sameBx (l.getD i zBox) (m.getD i zBox)) = true from List.all_eq_true.2 fun i hi => hF i (by have := List.mem_range.1 hi; omega)]; rfl, D⟩
end Go.Proofs.YtlmdcaemjaldfaaGreat
namespace Go.Proofs.YtlmdcaemjaldfaaGreat
open Go.RowKit
theorem rdF_back {f : List BoxV} (h : rightF f = true ∧ f.length ≤ 4 ∧ ∀ b ∈ f, okBx b) : rdF (filB f) = (f, 0) := by
  have := filO_tk.back f [] h
  rw [List.append_nil] at this
  unfold rdF
  rw [this]
  rfl
theorem filB_le {f : List BoxV} (h : rightF f = true ∧ f.length ≤ 4 ∧ ∀ b ∈ f, okBx b) : (filB f).length ≤ 4900 := by
  have h1 := fil_le h.2.2 h.2.1 f.length
  rw [List.take_length] at h1
  have h2 := (enc_len_le f.length (by have := h.2.1; omega)).2
  unfold filB
  rw [List.length_append]
  omega
theorem few_mid {l : List BoxV} (h : l.all (fun b => smallBx b && rightBx b) = true) (hi : ∀ b ∈ l, ∀ i, i < 4 → inI64 (b.get i).ints) : ∀ b ∈ l, MidB b := fun b hb => by
  have hr := List.all_eq_true.1 h b hb
  rw [Bool.and_eq_true] at hr
  have hS : ∀ i, i < 4 → (b.get i).ints.length ≤ 6 ∧ (b.get i).strs.length ≤ 6 := fun i h4 => by
    have h1 := (all4_iff _).1 hr.1 i h4
    unfold smallB at h1
    rw [Bool.and_eq_true, decide_eq_true_eq, decide_eq_true_eq] at h1
    exact h1
  exact ⟨⟨fun i h4 => ⟨(all4_iff _).1 hr.2 i h4, hi b hb i h4⟩, fun i h4 => by have := (hS i h4).2; omega⟩, fun i h4 => by have := (hS i h4).1; omega, fun i h4 => by have := (hS i h4).2; omega⟩
theorem sameF_self (f : List BoxV) : sameF f f = true := by
  unfold sameF
  rw [decide_eq_true rfl, Bool.true_and]
  exact List.all_eq_true.2 fun i _ => sameBx_refl _
set_option maxHeartbeats 4000000 in
set_option maxRecDepth 100000 in
theorem wireFilters_law (v : Value) (f : List BoxV) (w : World) (hf : Bxs w v f) :
    Calls Tryz.prog 5 #[v] w fun r w' => r = .returned (.bool true) ∧ Below w.heap.size w w' := by
  have D : w.grownBy w none := grown_refl _ _
  cases hw : (decide (f.length ≤ 20) && f.all fewBx)
  · go_enter Tryz.func5, Tryz.ntmps5
    refine wp_seq_k (fun K1 hK1 => ?_)
    refine wp_region_lit ?_
    refine wl_yield (o := ⟨_, _, _, _, _, _⟩) (.bool false) (yl_assign (by rfl) _ rfl _ rfl) ?_
    simp only [Act.put, lzA, lzB, lzC]
    refine wpList_nil ?_
    refine hK1 _ _ ?_
    clear hK1 K1
    refine wp_seq_k (fun K2 hK2 => ?_)
    refine wp_seq_k (fun K3 hK3 => ?_)
    refine wp_region_lit ?_
    refine wt_call (o := ⟨_, _, _, _, _, _⟩) (by rfl) 20 _ _ rfl #[] rfl (run_call Tryz.func20 (by kernel_rfl) (by kernel_rfl)) ?_
    refine (awake8_any _).mono ?_
    rintro r v1 ⟨rfl, kb⟩
    replace D := grown_below D kb
    clear kb
    refine Or.inl ⟨.bool true, rfl, ?_⟩
    simp only [Act.put, lzA, lzB, lzC]
    refine wl_yield (o := ⟨_, _, _, _, _, _⟩) (.bool false) (yl_not (by rfl) _ _ rfl true rfl) ?_
    simp only [Act.put, lzA, lzB, lzC]
    refine wl_yield (o := ⟨_, _, _, _, _, _⟩) (.bool false) (yl_move (by rfl) _ rfl _ rfl) ?_
    simp only [Act.put, lzA, lzB, lzC]
    refine wl_yield (o := ⟨_, _, _, _, _, _⟩) (v) (yl_move (by rfl) _ rfl _ rfl) ?_
    simp only [Act.put, lzA, lzB, lzC]
    refine wt_call (o := ⟨_, _, _, _, _, _⟩) (by rfl) 15 _ _ rfl #[v] rfl (run_call Tryz.func15 (by kernel_rfl) (by kernel_rfl)) ?_
    refine (refFew6_any v f _ (hf.on (below_none D))).mono ?_
    rintro r v2 ⟨rfl, kb⟩
    replace D := grown_below D kb
    clear kb
    refine Or.inl ⟨.bool false, ret_bool hw, ?_⟩
    simp only [Act.put, lzA, lzB, lzC]
    refine wl_yield (o := ⟨_, _, _, _, _, _⟩) (.bool true) (yl_not (by rfl) _ _ rfl false rfl) ?_
    simp only [Act.put, lzA, lzB, lzC]
    refine wl_yield (o := ⟨_, _, _, _, _, _⟩) (.bool true) (yl_pickF (by rfl) _ _ _ rfl rfl _ rfl) ?_
    simp only [Act.put, lzA, lzB, lzC]
    refine wpList_nil ?_
    refine hK3 _ _ ?_
    clear hK3 K3
    refine wp_cond_true rfl ?_
    refine wp_seq_k (fun K4 hK4 => ?_)
    refine wp_region_lit ?_
    refine wt_call (o := ⟨_, _, _, _, _, _⟩) (by rfl) 20 _ _ rfl #[] rfl (run_call Tryz.func20 (by kernel_rfl) (by kernel_rfl)) ?_
    refine (awake8_any _).mono ?_
    rintro r v3 ⟨rfl, kb⟩
    replace D := grown_below D kb
    clear kb
    refine Or.inl ⟨.bool true, rfl, ?_⟩
    simp only [Act.put, lzA, lzB, lzC]
    refine wl_yield (o := ⟨_, _, _, _, _, _⟩) (.bool true) (yl_assign (by rfl) _ rfl _ rfl) ?_
    simp only [Act.put, lzA, lzB, lzC]
    refine wpList_nil ?_
    refine hK4 _ _ ?_
    clear hK4 K4
    refine wp_ret ?_
    go_ret
    exact ⟨rfl, below_none D⟩
  · cases hr : rightF f
    · go_enter Tryz.func5, Tryz.ntmps5
      refine wp_seq_k (fun K1 hK1 => ?_)
      refine wp_region_lit ?_
      refine wl_yield (o := ⟨_, _, _, _, _, _⟩) (.bool false) (yl_assign (by rfl) _ rfl _ rfl) ?_
      simp only [Act.put, lzA, lzB, lzC]
      refine wpList_nil ?_
      refine hK1 _ _ ?_
      clear hK1 K1
      refine wp_seq_k (fun K2 hK2 => ?_)
      refine wp_seq_k (fun K3 hK3 => ?_)
      refine wp_region_lit ?_
      refine wt_call (o := ⟨_, _, _, _, _, _⟩) (by rfl) 20 _ _ rfl #[] rfl (run_call Tryz.func20 (by kernel_rfl) (by kernel_rfl)) ?_
      refine (awake8_any _).mono ?_
      rintro r v1 ⟨rfl, kb⟩
      replace D := grown_below D kb
      clear kb
      refine Or.inl ⟨.bool true, rfl, ?_⟩
      simp only [Act.put, lzA, lzB, lzC]
      refine wl_yield (o := ⟨_, _, _, _, _, _⟩) (.bool false) (yl_not (by rfl) _ _ rfl true rfl) ?_
      simp only [Act.put, lzA, lzB, lzC]
      refine wl_yield (o := ⟨_, _, _, _, _, _⟩) (.bool false) (yl_move (by rfl) _ rfl _ rfl) ?_
      simp only [Act.put, lzA, lzB, lzC]
      refine wl_yield (o := ⟨_, _, _, _, _, _⟩) (v) (yl_move (by rfl) _ rfl _ rfl) ?_
      simp only [Act.put, lzA, lzB, lzC]
      refine wt_call (o := ⟨_, _, _, _, _, _⟩) (by rfl) 15 _ _ rfl #[v] rfl (run_call Tryz.func15 (by kernel_rfl) (by kernel_rfl)) ?_
      refine (refFew6_any v f _ (hf.on (below_none D))).mono ?_
      rintro r v2 ⟨rfl, kb⟩
      replace D := grown_below D kb
      clear kb
      refine Or.inl ⟨.bool true, ret_bool hw, ?_⟩
      simp only [Act.put, lzA, lzB, lzC]
      refine wl_yield (o := ⟨_, _, _, _, _, _⟩) (.bool false) (yl_not (by rfl) _ _ rfl true rfl) ?_
      simp only [Act.put, lzA, lzB, lzC]
      refine wl_yield (o := ⟨_, _, _, _, _, _⟩) (.bool false) (yl_pickF (by rfl) _ _ _ rfl rfl _ rfl) ?_
      simp only [Act.put, lzA, lzB, lzC]
      refine wpList_nil ?_
      refine hK3 _ _ ?_
      clear hK3 K3
      refine wp_cond_false rfl ?_
      refine wp_skip ?_
      refine hK2 _ _ ?_
      clear hK2 K2
      refine wp_seq_k (fun K4 hK4 => ?_)
      refine wp_region_lit ?_
      refine wl_yield (o := ⟨_, _, _, _, _, _⟩) (v) (yl_move (by rfl) _ rfl _ rfl) ?_
      simp only [Act.put, lzA, lzB, lzC]
      refine wt_call (o := ⟨_, _, _, _, _, _⟩) (by rfl) 21 _ _ rfl #[v] rfl (run_call Tryz.func21 (by kernel_rfl) (by kernel_rfl)) ?_
      refine (filter8_no v f _ (hf.on (below_none D)) hr).mono ?_
      rintro r v3 ⟨rfl, kb⟩
      replace D := grown_below D kb
      clear kb
      refine Or.inl ⟨.tuple #[.string (bs ([])), .int .i64 1], rfl, ?_⟩
      simp only [Act.put, lzA, lzB, lzC]
      refine wl_yield (o := ⟨_, _, _, _, _, _⟩) (.tuple #[.string (bs ([])), .int .i64 1]) (yl_move (by rfl) _ rfl _ rfl) ?_
      simp only [Act.put, lzA, lzB, lzC]
      refine wl_yield (o := ⟨_, _, _, _, _, _⟩) (.string (bs ([]))) (yl_extract0 (by rfl) _ rfl _ _ rfl) ?_
      simp only [Act.put, lzA, lzB, lzC]
      refine wl_yield (o := ⟨_, _, _, _, _, _⟩) (.int .i64 1) (yl_extract1 (by rfl) _ rfl _ _ rfl) ?_
      simp only [Act.put, lzA, lzB, lzC]
      refine wl_yield (o := ⟨_, _, _, _, _, _⟩) (.string (bs ([]))) (yl_assign (by rfl) _ rfl _ rfl) ?_
      simp only [Act.put, lzA, lzB, lzC]
      refine wl_yield (o := ⟨_, _, _, _, _, _⟩) (.int .i64 1) (yl_assign (by rfl) _ rfl _ rfl) ?_
      simp only [Act.put, lzA, lzB, lzC]
      refine wpList_nil ?_
      refine hK4 _ _ ?_
      clear hK4 K4
      refine wp_seq_k (fun K5 hK5 => ?_)
      refine wp_seq_k (fun K6 hK6 => ?_)
      refine wp_region_lit ?_
      refine wl_yield (o := ⟨_, _, _, _, _, _⟩) (v) (yl_move (by rfl) _ rfl _ rfl) ?_
      simp only [Act.put, lzA, lzB, lzC]
      refine wt_call (o := ⟨_, _, _, _, _, _⟩) (by rfl) 22 _ _ rfl #[v] rfl (run_call Tryz.func22 (by kernel_rfl) (by kernel_rfl)) ?_
      refine (refRight6_all v f _ (hf.on (below_none D)) (fun h => few_mid h hf.i64)).mono ?_
      rintro r v4 ⟨rfl, kb⟩
      replace D := grown_below D kb
      clear kb
      refine Or.inl ⟨.bool false, ret_bool hr, ?_⟩
      simp only [Act.put, lzA, lzB, lzC]
      refine wl_yield (o := ⟨_, _, _, _, _, _⟩) (.bool true) (yl_not (by rfl) _ _ rfl false rfl) ?_
      simp only [Act.put, lzA, lzB, lzC]
      refine wpList_nil ?_
      refine hK6 _ _ ?_
      clear hK6 K6
      refine wp_cond_true rfl ?_
      refine wp_seq_k (fun K7 hK7 => ?_)
      refine wp_region_lit ?_
      refine wl_yield (o := ⟨_, _, _, _, _, _⟩) (.string (bs ([]))) (yl_move (by rfl) _ rfl _ rfl) ?_
      simp only [Act.put, lzA, lzB, lzC]
      refine wl_yield (o := ⟨_, _, _, _, _, _⟩) (.bool true) (yt_eqS (by rfl) _ _ _ rfl ([]) ([]) true rfl rfl (by decide)) ?_
      simp only [Act.put, lzA, lzB, lzC]
      refine wl_yield (o := ⟨_, _, _, _, _, _⟩) (.bool true) (yl_move (by rfl) _ rfl _ rfl) ?_
      simp only [Act.put, lzA, lzB, lzC]
      refine wl_yield (o := ⟨_, _, _, _, _, _⟩) (.int .i64 1) (yl_move (by rfl) _ rfl _ rfl) ?_
      simp only [Act.put, lzA, lzB, lzC]
      refine wl_yield (o := ⟨_, _, _, _, _, _⟩) (.bool true) (yt_eqlE (by rfl) _ _ _ rfl 1 1 true rfl rfl (by decide)) ?_
      simp only [Act.put, lzA, lzB, lzC]
      refine wl_yield (o := ⟨_, _, _, _, _, _⟩) (.bool true) (yl_pickT (by rfl) _ _ _ rfl rfl _ rfl) ?_
      simp only [Act.put, lzA, lzB, lzC]
      refine wl_yield (o := ⟨_, _, _, _, _, _⟩) (.bool true) (yl_assign (by rfl) _ rfl _ rfl) ?_
      simp only [Act.put, lzA, lzB, lzC]
      refine wpList_nil ?_
      refine hK7 _ _ ?_
      clear hK7 K7
      refine wp_ret ?_
      go_ret
      exact ⟨rfl, below_none D⟩
    · have hok := right_ok hr hf.i64
      go_enter Tryz.func5, Tryz.ntmps5
      refine wp_seq_k (fun K1 hK1 => ?_)
      refine wp_region_lit ?_
      refine wl_yield (o := ⟨_, _, _, _, _, _⟩) (.bool false) (yl_assign (by rfl) _ rfl _ rfl) ?_
      simp only [Act.put, lzA, lzB, lzC]
      refine wpList_nil ?_
      refine hK1 _ _ ?_
      clear hK1 K1
      refine wp_seq_k (fun K2 hK2 => ?_)
      refine wp_seq_k (fun K3 hK3 => ?_)
      refine wp_region_lit ?_
      refine wt_call (o := ⟨_, _, _, _, _, _⟩) (by rfl) 20 _ _ rfl #[] rfl (run_call Tryz.func20 (by kernel_rfl) (by kernel_rfl)) ?_
      refine (awake8_any _).mono ?_
      rintro r v1 ⟨rfl, kb⟩
      replace D := grown_below D kb
      clear kb
      refine Or.inl ⟨.bool true, rfl, ?_⟩
      simp only [Act.put, lzA, lzB, lzC]
      refine wl_yield (o := ⟨_, _, _, _, _, _⟩) (.bool false) (yl_not (by rfl) _ _ rfl true rfl) ?_
      simp only [Act.put, lzA, lzB, lzC]
      refine wl_yield (o := ⟨_, _, _, _, _, _⟩) (.bool false) (yl_move (by rfl) _ rfl _ rfl) ?_
      simp only [Act.put, lzA, lzB, lzC]
      refine wl_yield (o := ⟨_, _, _, _, _, _⟩) (v) (yl_move (by rfl) _ rfl _ rfl) ?_
      simp only [Act.put, lzA, lzB, lzC]
      refine wt_call (o := ⟨_, _, _, _, _, _⟩) (by rfl) 15 _ _ rfl #[v] rfl (run_call Tryz.func15 (by kernel_rfl) (by kernel_rfl)) ?_
      refine (refFew6_any v f _ (hf.on (below_none D))).mono ?_
      rintro r v2 ⟨rfl, kb⟩
      replace D := grown_below D kb
      clear kb
      refine Or.inl ⟨.bool true, ret_bool hw, ?_⟩
      simp only [Act.put, lzA, lzB, lzC]
      refine wl_yield (o := ⟨_, _, _, _, _, _⟩) (.bool false) (yl_not (by rfl) _ _ rfl true rfl) ?_
      simp only [Act.put, lzA, lzB, lzC]
      refine wl_yield (o := ⟨_, _, _, _, _, _⟩) (.bool false) (yl_pickF (by rfl) _ _ _ rfl rfl _ rfl) ?_
      simp only [Act.put, lzA, lzB, lzC]
      refine wpList_nil ?_
      refine hK3 _ _ ?_
      clear hK3 K3
      refine wp_cond_false rfl ?_
      refine wp_skip ?_
      refine hK2 _ _ ?_
      clear hK2 K2
      refine wp_seq_k (fun K4 hK4 => ?_)
      refine wp_region_lit ?_
      refine wl_yield (o := ⟨_, _, _, _, _, _⟩) (v) (yl_move (by rfl) _ rfl _ rfl) ?_
      simp only [Act.put, lzA, lzB, lzC]
      refine wt_call (o := ⟨_, _, _, _, _, _⟩) (by rfl) 21 _ _ rfl #[v] rfl (run_call Tryz.func21 (by kernel_rfl) (by kernel_rfl)) ?_
      refine (filter8_yes v f _ (hf.on (below_none D)) hr).mono ?_
      rintro r v3 ⟨rfl, kb⟩
      replace D := grown_below D kb
      clear kb
      refine Or.inl ⟨.tuple #[.string (bs (filB f)), .int .i64 0], rfl, ?_⟩
      simp only [Act.put, lzA, lzB, lzC]
      refine wl_yield (o := ⟨_, _, _, _, _, _⟩) (.tuple #[.string (bs (filB f)), .int .i64 0]) (yl_move (by rfl) _ rfl _ rfl) ?_
      simp only [Act.put, lzA, lzB, lzC]
      refine wl_yield (o := ⟨_, _, _, _, _, _⟩) (.string (bs (filB f))) (yl_extract0 (by rfl) _ rfl _ _ rfl) ?_
      simp only [Act.put, lzA, lzB, lzC]
      refine wl_yield (o := ⟨_, _, _, _, _, _⟩) (.int .i64 0) (yl_extract1 (by rfl) _ rfl _ _ rfl) ?_
      simp only [Act.put, lzA, lzB, lzC]
      refine wl_yield (o := ⟨_, _, _, _, _, _⟩) (.string (bs (filB f))) (yl_assign (by rfl) _ rfl _ rfl) ?_
      simp only [Act.put, lzA, lzB, lzC]
      refine wl_yield (o := ⟨_, _, _, _, _, _⟩) (.int .i64 0) (yl_assign (by rfl) _ rfl _ rfl) ?_
      simp only [Act.put, lzA, lzB, lzC]
      refine wpList_nil ?_
      refine hK4 _ _ ?_
      clear hK4 K4
      refine wp_seq_k (fun K5 hK5 => ?_)
      refine wp_seq_k (fun K6 hK6 => ?_)
      refine wp_region_lit ?_
      refine wl_yield (o := ⟨_, _, _, _, _, _⟩) (v) (yl_move (by rfl) _ rfl _ rfl) ?_
      simp only [Act.put, lzA, lzB, lzC]
      refine wt_call (o := ⟨_, _, _, _, _, _⟩) (by rfl) 22 _ _ rfl #[v] rfl (run_call Tryz.func22 (by kernel_rfl) (by kernel_rfl)) ?_
      refine (refRight6_all v f _ (hf.on (below_none D)) (fun h => few_mid h hf.i64)).mono ?_
      rintro r v4 ⟨rfl, kb⟩
      replace D := grown_below D kb
      clear kb
      refine Or.inl ⟨.bool true, ret_bool hr, ?_⟩
      simp only [Act.put, lzA, lzB, lzC]
      refine wl_yield (o := ⟨_, _, _, _, _, _⟩) (.bool false) (yl_not (by rfl) _ _ rfl true rfl) ?_
      simp only [Act.put, lzA, lzB, lzC]
      refine wpList_nil ?_
      refine hK6 _ _ ?_
      clear hK6 K6
      refine wp_cond_false rfl ?_
      refine wp_skip ?_
      refine hK5 _ _ ?_
      clear hK5 K5
      refine wp_seq_k (fun K7 hK7 => ?_)
      refine wp_region_lit ?_
      refine wl_yield (o := ⟨_, _, _, _, _, _⟩) (.string (bs (filB f))) (yl_move (by rfl) _ rfl _ rfl) ?_
      simp only [Act.put, lzA, lzB, lzC]
      refine wt_call (o := ⟨_, _, _, _, _, _⟩) (by rfl) 23 _ _ rfl #[.string (bs (filB f))] rfl (run_call Tryz.func23 (by kernel_rfl) (by kernel_rfl)) ?_
      refine (readFilter_any (filB f) _ (by have := filB_le hok; omega)).mono ?_
      rintro r v5 (⟨p, n, c, z, rfl, ⟨HX, hzz⟩, kb⟩)
      · rw [rdF_back hok] at HX hzz
        subst hzz
        replace D := grown_below D kb
        clear kb
        refine Or.inl ⟨.tuple #[.slice p n c, .int .i64 0], rfl, ?_⟩
        simp only [Act.put, lzA, lzB, lzC]
        refine wl_yield (o := ⟨_, _, _, _, _, _⟩) (.tuple #[.slice p n c, .int .i64 0]) (yl_move (by rfl) _ rfl _ rfl) ?_
        simp only [Act.put, lzA, lzB, lzC]
        refine wl_yield (o := ⟨_, _, _, _, _, _⟩) (.slice p n c) (yl_extract0 (by rfl) _ rfl _ _ rfl) ?_
        simp only [Act.put, lzA, lzB, lzC]
        refine wl_yield (o := ⟨_, _, _, _, _, _⟩) (.int .i64 0) (yl_extract1 (by rfl) _ rfl _ _ rfl) ?_
        simp only [Act.put, lzA, lzB, lzC]
        refine wl_yield (o := ⟨_, _, _, _, _, _⟩) (.slice p n c) (yl_assign (by rfl) _ rfl _ rfl) ?_
        simp only [Act.put, lzA, lzB, lzC]
        refine wl_yield (o := ⟨_, _, _, _, _, _⟩) (.int .i64 0) (yl_assign (by rfl) _ rfl _ rfl) ?_
        simp only [Act.put, lzA, lzB, lzC]
        refine wpList_nil ?_
        refine hK7 _ _ ?_
        clear hK7 K7
        refine wp_seq_k (fun K8 hK8 => ?_)
        refine wp_region_lit ?_
        refine wl_yield (o := ⟨_, _, _, _, _, _⟩) (.int .i64 0) (yl_move (by rfl) _ rfl _ rfl) ?_
        simp only [Act.put, lzA, lzB, lzC]
        refine wl_yield (o := ⟨_, _, _, _, _, _⟩) (.bool true) (yt_eqlE (by rfl) _ _ _ rfl 0 0 true rfl rfl (by decide)) ?_
        simp only [Act.put, lzA, lzB, lzC]
        refine wl_yield (o := ⟨_, _, _, _, _, _⟩) (.bool true) (yl_move (by rfl) _ rfl _ rfl) ?_
        simp only [Act.put, lzA, lzB, lzC]
        refine wl_yield (o := ⟨_, _, _, _, _, _⟩) (.string (bs (filB f))) (yl_move (by rfl) _ rfl _ rfl) ?_
        simp only [Act.put, lzA, lzB, lzC]
        refine wl_yield (o := ⟨_, _, _, _, _, _⟩) (v) (yl_move (by rfl) _ rfl _ rfl) ?_
        simp only [Act.put, lzA, lzB, lzC]
        refine wt_call (o := ⟨_, _, _, _, _, _⟩) (by rfl) 24 _ _ rfl #[v] rfl (run_call Tryz.func24 (by kernel_rfl) (by kernel_rfl)) ?_
        refine (refFilter_any v f _ (hf.on (below_none D)) hok.2.2 hok.2.1).mono ?_
        rintro r v6 ⟨rfl, kb⟩
        replace D := grown_below D kb
        replace HX := HX.on kb
        clear kb
        refine Or.inl ⟨.string (bs (filB f)), rfl, ?_⟩
        simp only [Act.put, lzA, lzB, lzC]
        refine wl_yield (o := ⟨_, _, _, _, _, _⟩) (.bool true) (yt_eqS (by rfl) _ _ _ rfl (filB f) (filB f) true rfl rfl (by simp)) ?_
        simp only [Act.put, lzA, lzB, lzC]
        refine wl_yield (o := ⟨_, _, _, _, _, _⟩) (.bool true) (yl_pickT (by rfl) _ _ _ rfl rfl _ rfl) ?_
        simp only [Act.put, lzA, lzB, lzC]
        refine wl_yield (o := ⟨_, _, _, _, _, _⟩) (.bool true) (yl_move (by rfl) _ rfl _ rfl) ?_
        simp only [Act.put, lzA, lzB, lzC]
        refine wl_yield (o := ⟨_, _, _, _, _, _⟩) (v) (yl_move (by rfl) _ rfl _ rfl) ?_
        simp only [Act.put, lzA, lzB, lzC]
        refine wt_call (o := ⟨_, _, _, _, _, _⟩) (by rfl) 25 _ _ rfl #[v] rfl (run_call Tryz.func25 (by kernel_rfl) (by kernel_rfl)) ?_
        refine (putFilter_any v f _ (hf.on (below_none D)) hok.2.2 hok.2.1).mono ?_
        rintro r v7 ⟨rfl, kb⟩
        replace D := grown_below D kb
        replace HX := HX.on kb
        clear kb
        refine Or.inl ⟨.string (bs (filB f)), rfl, ?_⟩
        simp only [Act.put, lzA, lzB, lzC]
        refine wl_yield (o := ⟨_, _, _, _, _, _⟩) (.string (bs (filB f))) (yl_move (by rfl) _ rfl _ rfl) ?_
        simp only [Act.put, lzA, lzB, lzC]
        refine wl_yield (o := ⟨_, _, _, _, _, _⟩) (.bool true) (yt_eqS (by rfl) _ _ _ rfl (filB f) (filB f) true rfl rfl (by simp)) ?_
        simp only [Act.put, lzA, lzB, lzC]
        refine wl_yield (o := ⟨_, _, _, _, _, _⟩) (.bool true) (yl_pickT (by rfl) _ _ _ rfl rfl _ rfl) ?_
        simp only [Act.put, lzA, lzB, lzC]
        refine wl_yield (o := ⟨_, _, _, _, _, _⟩) (.bool true) (yl_move (by rfl) _ rfl _ rfl) ?_
        simp only [Act.put, lzA, lzB, lzC]
        refine wl_yield (o := ⟨_, _, _, _, _, _⟩) (.int .i64 0) (yl_move (by rfl) _ rfl _ rfl) ?_
        simp only [Act.put, lzA, lzB, lzC]
        refine wl_yield (o := ⟨_, _, _, _, _, _⟩) (.bool true) (yt_eqlE (by rfl) _ _ _ rfl 0 0 true rfl rfl (by decide)) ?_
        simp only [Act.put, lzA, lzB, lzC]
        refine wl_yield (o := ⟨_, _, _, _, _, _⟩) (.bool true) (yl_pickT (by rfl) _ _ _ rfl rfl _ rfl) ?_
        simp only [Act.put, lzA, lzB, lzC]
        refine wl_yield (o := ⟨_, _, _, _, _, _⟩) (.bool true) (yl_move (by rfl) _ rfl _ rfl) ?_
        simp only [Act.put, lzA, lzB, lzC]
        refine wl_yield (o := ⟨_, _, _, _, _, _⟩) (v) (yl_move (by rfl) _ rfl _ rfl) ?_
        simp only [Act.put, lzA, lzB, lzC]
        refine wl_yield (o := ⟨_, _, _, _, _, _⟩) (.slice p n c) (yl_move (by rfl) _ rfl _ rfl) ?_
        simp only [Act.put, lzA, lzB, lzC]
        refine wt_call (o := ⟨_, _, _, _, _, _⟩) (by rfl) 14 _ _ rfl #[v, .slice p n c] rfl (run_call Tryz.func14 (by kernel_rfl) (by kernel_rfl)) ?_
        refine (refSame6_any v _ f f _ (hf.on (below_none D)) HX).mono ?_
        rintro r v8 ⟨rfl, kb⟩
        replace D := grown_below D kb
        replace HX := HX.on kb
        clear kb
        refine Or.inl ⟨.bool true, ret_bool (sameF_self f), ?_⟩
        simp only [Act.put, lzA, lzB, lzC]
        refine wl_yield (o := ⟨_, _, _, _, _, _⟩) (.bool true) (yl_pickT (by rfl) _ _ _ rfl rfl _ rfl) ?_
        simp only [Act.put, lzA, lzB, lzC]
        refine wl_yield (o := ⟨_, _, _, _, _, _⟩) (.bool true) (yl_assign (by rfl) _ rfl _ rfl) ?_
        simp only [Act.put, lzA, lzB, lzC]
        refine wpList_nil ?_
        refine hK8 _ _ ?_
        clear hK8 K8
        refine wp_ret ?_
        go_ret
        exact ⟨rfl, below_none D⟩
end Go.Proofs.YtlmdcaemjaldfaaGreat
