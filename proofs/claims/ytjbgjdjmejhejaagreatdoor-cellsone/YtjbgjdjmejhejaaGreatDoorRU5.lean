import Derived.Test.YtjbgjdjmejhejaaGreatDoorRU4
import Derived.Test.YtjbgjdjmejhejaaGreatDoorRU1
import Derived.Lib.SmallJoins
import Derived.Deep.Strs
import Derived.Test.YtjbgjdjmejhejaaGreatDoorRU3
import Derived.Test.YtjbgjdjmejhejaaGreatDoorTie
import Derived.Test.YtjbgjdjmejhejaaGreatDoorCards
import Derived.ProofKit
import Derived.LaidMore
import Derived.OpenShut
import Derived.Stop.Joined
import Derived.Stop.LaidErr
import Derived.Lib.LaidTab
import Derived.Carry
set_option linter.unusedSimpArgs false
set_option linter.unusedVariables false
namespace Go.Proofs.YtjbgjdjmejhejaaGreatDoor
open Go.RowKit
section
variable {ops : Array Oper} {Q : Exit → Act → World → Prop} {o : Oper} {a : Act}
theorem wq_row0Q {rest : List Oper} {w : World} (hw : Region.wanted o (yielded ops a.tmps) = true) (ho : o.op = .buildSlice 39 0 #[])
    (h : ∀ W g, OwnT W w.heap.size (.slice (some ⟨g, 0, none⟩) 0 0) [] → Below w.heap.size w W → wpList Tryz.prog ops Q rest (a.put o.dst (.slice (some ⟨g, 0, none⟩) 0 0)) W) : wpList Tryz.prog ops Q (o :: rest) a w := by
  refine wl_run hw (.slice (some ⟨w.heap.size, 0, none⟩) 0 0) (w.alloc (.cells #[] 26)) ?_ (h _ _ ⟨rfl, Or.inr ⟨w.heap.size, 0, #[], rfl, Nat.le_refl _, heap_new _ _, Nat.le_refl _, by unfold maxLen; omega, rfl, rfl⟩⟩ ((Below.refl _ w).alloc (Nat.le_refl _) _))
  simp only [execOp, ho, List.map_toArray, List.map_nil]
  go_simp
end
theorem ScRow.below {w w' : World} {v : Value} {cs : List SC} (h : ScRow w v cs) (hb : Below w.heap.size w w') : ScRow w' v cs := h.on hb
theorem fewC_all {l : List SetV} (h : l.all fewB = true) (h2 : l.length ≤ 15) : FewC l := fewC_of (fun S hS => by have := few_len9 (List.all_eq_true.1 h S hS); omega) h2
theorem one_has {l : List SetV} (hl : InL l) {p : Va} {j : Nat} (hj : j < (cutL l).length) : hasP ((cutL l).getD j noSet) p = decide (j = whichN (cutL l) p) := by
  cases h : hasP ((cutL l).getD j noSet) p
  · refine (decide_eq_false fun e => ?_).symm
    subst e
    rw [which_at hj] at h; cases h
  · refine (decide_eq_true ?_).symm
    have h1 : whichN (cutL l) p ≤ j := by
      rcases Nat.lt_or_ge j (whichN (cutL l) p) with h2 | h2
      · rw [which_before h2] at h; cases h
      · exact h2
    exact cell_one (cut_of hl) hj (Nat.lt_of_le_of_lt h1 hj) h (which_at (Nat.lt_of_le_of_lt h1 hj))
theorem which_right {l : List SetV} (hl : InL l) {p : Va} (h0 : -9223372036854775808 ≤ p.2.1) (h1 : p.2.1 ≤ 9223372036854775807) (hr : rightB p.1 p.2.1 p.2.2 = true) : whichN (cutL l) p < (cutL l).length := by
  obtain ⟨i, hi, h⟩ := cell_some (cut_of hl) h0 h1 hr
  have := one_has hl (p := p) hi
  rw [show hasP ((cutL l).getD i noSet) p = true from h] at this
  rw [← of_decide_eq_true this.symm]; exact hi
theorem which_wrong {l : List SetV} {p : Va} (hr : rightB p.1 p.2.1 p.2.2 = false) : ¬ whichN (cutL l) p < (cutL l).length := fun h => by
  have := hasB_right (show hasB _ p.1 p.2.1 p.2.2 = true from which_at h)
  rw [hr] at this; cases this
theorem beq_nil_t {sl : List UInt8} (h : sl = []) : (sl == []) = true := by rw [h]; rfl
theorem beq_nil_f {sl : List UInt8} (h : ¬ sl = []) : (sl == []) = false := by
  cases sl with
  | nil => exact absurd rfl h
  | cons a b => rfl
theorem isE (sl : List UInt8) : (bs sl).toList.isEmpty = decide (sl = []) := by rw [bs_toList]; cases sl <;> rfl
theorem hasP_max {S : SetV} {q : Va} (h : hasP S q = true) : q.2.2.size ≤ maxLen := by
  have hr := hasB_right (show hasB S q.1 q.2.1 q.2.2 = true from h)
  unfold rightB at hr
  have e : ∀ s : ByteArray, s.toList.isEmpty = true → s.size ≤ maxLen := fun s h => by
    have : s = bs s.data.toList := rfl
    rw [this, isE] at h
    rw [this, bs_size, of_decide_eq_true h]
    exact Nat.zero_le _
  split at hr
  · simp only [Bool.and_eq_true] at hr; exact e _ hr.2
  · split at hr
    · exact e _ hr
    · split at hr
      · simp only [Bool.and_eq_true, decide_eq_true_eq] at hr; unfold maxLen; omega
      · cases hr
set_option maxHeartbeats 4000000 in
set_option maxRecDepth 100000 in
theorem cellsOne_law (v : Value) (l : List SetV) (kk nn : Int) (sl : List UInt8) (w : World) (HE : Env w) (hv : SetsAt w v l) (hn0 : nilOkQ v) (hn0' : -9223372036854775808 ≤ nn) (hn1' : nn ≤ 9223372036854775807) (hs : (bs sl).size ≤ maxLen) :
    Calls Tryz.prog 5 #[v, .agg #[.int .i64 kk, .int .i64 nn, .string (bs sl)]] w fun r w' => r = .returned (.bool true) ∧ Below w.heap.size w w' := by
  have w6 : 2 ≤ w.heap.size := HE.big
  have HE0 := HE
  have hil := hv.inL
  obtain ⟨cs0, hR0, hA0⟩ := hv.row
  obtain ⟨a0, cap0, rfl, -⟩ := hv.2
  have hl64 := hv.1
  have D : w.grownBy w none := grown_refl _ _
  go_enter Tryz.func5, Tryz.ntmps5
  by_cases h12 : 12 < l.length
  · refine wp_seq_k (fun K1 hK1 => ?_)
    refine wp_region_lit ?_
    refine wt_boxVa (o := ⟨_, _, _, _, _, _⟩) (by rfl) _ rfl ((kk, nn, (bs sl))) rfl (fun v1 g1 hg G1 kb => ?_)
    simp only [Act.put, lzA, lzB, lzC]
    have ge_g1 : w.heap.size ≤ g1 := Nat.le_trans D.size hg
    have six_g1 : 2 ≤ g1 := Nat.le_trans w6 ge_g1
    clear hg
    replace D := grown_below D kb
    replace HE := HE.on kb
    clear kb
    replace G1 : v1.heap[g1]? = some (.cells #[.int .i64 kk, .int .i64 nn, .string (bs sl)] 48 (0, 0)) := G1
    refine wl_yield (o := ⟨_, _, _, _, _, _⟩) (.bool false) (yl_assign (by rfl) _ rfl _ rfl) ?_
    simp only [Act.put, lzA, lzB, lzC]
    refine wpList_nil ?_
    refine hK1 _ _ ?_
    clear hK1 K1
    refine wp_seq_k (fun K2 hK2 => ?_)
    refine wp_seq_k (fun K3 hK3 => ?_)
    refine wp_region_lit ?_
    refine wt_call (o := ⟨_, _, _, _, _, _⟩) (by rfl) 16 _ _ rfl #[] rfl (run_call Tryz.func16 (by kernel_rfl) (by kernel_rfl)) ?_
    refine (awake9_any _ HE).mono ?_
    rintro r v2 ⟨rfl, kb⟩
    replace D := grown_below D kb
    replace HE := HE.on kb
    replace G1 := heap_on G1 kb
    clear kb
    refine Or.inl ⟨.bool true, rfl, ?_⟩
    simp only [Act.put, lzA, lzB, lzC]
    refine wl_yield (o := ⟨_, _, _, _, _, _⟩) (.bool false) (yl_not (by rfl) _ _ rfl true rfl) ?_
    simp only [Act.put, lzA, lzB, lzC]
    refine wl_yield (o := ⟨_, _, _, _, _, _⟩) (.bool false) (yl_move (by rfl) _ rfl _ rfl) ?_
    simp only [Act.put, lzA, lzB, lzC]
    refine wl_yield (o := ⟨_, _, _, _, _, _⟩) (.slice a0 l.length cap0) (yl_move (by rfl) _ rfl _ rfl) ?_
    simp only [Act.put, lzA, lzB, lzC]
    refine wl_yield (o := ⟨_, _, _, _, _, _⟩) (.int .i64 (l.length : Nat)) (yt_lenQ (by rfl) _ rfl a0 l.length cap0 rfl) ?_
    simp only [Act.put, lzA, lzB, lzC]
    refine wl_yield (o := ⟨_, _, _, _, _, _⟩) (.bool true) (yt_gtrI (by rfl) _ _ _ rfl ((l.length : Nat) : Int) 12 true rfl rfl (decide_eq_true (by omega))) ?_
    simp only [Act.put, lzA, lzB, lzC]
    refine wl_yield (o := ⟨_, _, _, _, _, _⟩) (.bool true) (yl_pickF (by rfl) _ _ _ rfl rfl _ rfl) ?_
    simp only [Act.put, lzA, lzB, lzC]
    refine wl_yield (o := ⟨_, _, _, _, _, _⟩) (.bool true) (yl_move (by rfl) _ rfl _ rfl) ?_
    simp only [Act.put, lzA, lzB, lzC]
    with_reducible refine wl_yield (o := ⟨_, _, _, _, _, _⟩) undef (yl_undef (by kernel_rfl)) ?_
    simp only [Act.put, lzA, lzB, lzC]
    with_reducible refine wl_yield (o := ⟨_, _, _, _, _, _⟩) undef (yl_undef (by kernel_rfl)) ?_
    simp only [Act.put, lzA, lzB, lzC]
    with_reducible refine wl_yield (o := ⟨_, _, _, _, _, _⟩) undef (yl_undef (by kernel_rfl)) ?_
    simp only [Act.put, lzA, lzB, lzC]
    refine wl_yield (o := ⟨_, _, _, _, _, _⟩) (.bool true) (yl_pickT (by rfl) _ _ _ rfl rfl _ rfl) ?_
    simp only [Act.put, lzA, lzB, lzC]
    refine wl_yield (o := ⟨_, _, _, _, _, _⟩) (.bool true) (yl_move (by rfl) _ rfl _ rfl) ?_
    simp only [Act.put, lzA, lzB, lzC]
    with_reducible refine wl_yield (o := ⟨_, _, _, _, _, _⟩) undef (yl_undef (by kernel_rfl)) ?_
    simp only [Act.put, lzA, lzB, lzC]
    with_reducible refine wl_yield (o := ⟨_, _, _, _, _, _⟩) undef (yl_undef (by kernel_rfl)) ?_
    simp only [Act.put, lzA, lzB, lzC]
    with_reducible refine wl_yield (o := ⟨_, _, _, _, _, _⟩) undef (yl_undef (by kernel_rfl)) ?_
    simp only [Act.put, lzA, lzB, lzC]
    with_reducible refine wl_yield (o := ⟨_, _, _, _, _, _⟩) undef (yl_undef (by kernel_rfl)) ?_
    simp only [Act.put, lzA, lzB, lzC]
    refine wl_yield (o := ⟨_, _, _, _, _, _⟩) (.bool true) (yl_pickT (by rfl) _ _ _ rfl rfl _ rfl) ?_
    simp only [Act.put, lzA, lzB, lzC]
    refine wpList_nil ?_
    refine hK3 _ _ ?_
    clear hK3 K3
    refine wp_cond_true rfl ?_
    refine wp_seq_k (fun K4 hK4 => ?_)
    refine wp_region_lit ?_
    refine wt_call (o := ⟨_, _, _, _, _, _⟩) (by rfl) 16 _ _ rfl #[] rfl (run_call Tryz.func16 (by kernel_rfl) (by kernel_rfl)) ?_
    refine (awake9_any _ HE).mono ?_
    rintro r v3 ⟨rfl, kb⟩
    replace D := grown_below D kb
    replace HE := HE.on kb
    replace G1 := heap_on G1 kb
    clear kb
    refine Or.inl ⟨.bool true, rfl, ?_⟩
    simp only [Act.put, lzA, lzB, lzC]
    refine wl_yield (o := ⟨_, _, _, _, _, _⟩) (.bool true) (yl_assign (by rfl) _ rfl _ rfl) ?_
    simp only [Act.put, lzA, lzB, lzC]
    refine wpList_nil ?_
    refine hK4 _ _ ?_
    clear hK4 K4
    refine wp_ret ?_
    try simp only [Exit.inBlock, Exit.then]
    go_ret
    exact ⟨rfl, below_none D⟩
  · by_cases h100 : 100 < sl.length
    · refine wp_seq_k (fun K1 hK1 => ?_)
      refine wp_region_lit ?_
      refine wt_boxVa (o := ⟨_, _, _, _, _, _⟩) (by rfl) _ rfl ((kk, nn, (bs sl))) rfl (fun v1 g1 hg G1 kb => ?_)
      simp only [Act.put, lzA, lzB, lzC]
      have ge_g1 : w.heap.size ≤ g1 := Nat.le_trans D.size hg
      have six_g1 : 2 ≤ g1 := Nat.le_trans w6 ge_g1
      clear hg
      replace D := grown_below D kb
      replace HE := HE.on kb
      clear kb
      replace G1 : v1.heap[g1]? = some (.cells #[.int .i64 kk, .int .i64 nn, .string (bs sl)] 48 (0, 0)) := G1
      refine wl_yield (o := ⟨_, _, _, _, _, _⟩) (.bool false) (yl_assign (by rfl) _ rfl _ rfl) ?_
      simp only [Act.put, lzA, lzB, lzC]
      refine wpList_nil ?_
      refine hK1 _ _ ?_
      clear hK1 K1
      refine wp_seq_k (fun K2 hK2 => ?_)
      refine wp_seq_k (fun K3 hK3 => ?_)
      refine wp_region_lit ?_
      refine wt_call (o := ⟨_, _, _, _, _, _⟩) (by rfl) 16 _ _ rfl #[] rfl (run_call Tryz.func16 (by kernel_rfl) (by kernel_rfl)) ?_
      refine (awake9_any _ HE).mono ?_
      rintro r v2 ⟨rfl, kb⟩
      replace D := grown_below D kb
      replace HE := HE.on kb
      replace G1 := heap_on G1 kb
      clear kb
      refine Or.inl ⟨.bool true, rfl, ?_⟩
      simp only [Act.put, lzA, lzB, lzC]
      refine wl_yield (o := ⟨_, _, _, _, _, _⟩) (.bool false) (yl_not (by rfl) _ _ rfl true rfl) ?_
      simp only [Act.put, lzA, lzB, lzC]
      refine wl_yield (o := ⟨_, _, _, _, _, _⟩) (.bool false) (yl_move (by rfl) _ rfl _ rfl) ?_
      simp only [Act.put, lzA, lzB, lzC]
      refine wl_yield (o := ⟨_, _, _, _, _, _⟩) (.slice a0 l.length cap0) (yl_move (by rfl) _ rfl _ rfl) ?_
      simp only [Act.put, lzA, lzB, lzC]
      refine wl_yield (o := ⟨_, _, _, _, _, _⟩) (.int .i64 (l.length : Nat)) (yt_lenQ (by rfl) _ rfl a0 l.length cap0 rfl) ?_
      simp only [Act.put, lzA, lzB, lzC]
      refine wl_yield (o := ⟨_, _, _, _, _, _⟩) (.bool false) (yt_gtrI (by rfl) _ _ _ rfl ((l.length : Nat) : Int) 12 false rfl rfl (decide_eq_false (by omega))) ?_
      simp only [Act.put, lzA, lzB, lzC]
      refine wl_yield (o := ⟨_, _, _, _, _, _⟩) (.bool false) (yl_pickF (by rfl) _ _ _ rfl rfl _ rfl) ?_
      simp only [Act.put, lzA, lzB, lzC]
      refine wl_yield (o := ⟨_, _, _, _, _, _⟩) (.bool false) (yl_move (by rfl) _ rfl _ rfl) ?_
      simp only [Act.put, lzA, lzB, lzC]
      refine wl_yield (o := ⟨_, _, _, _, _, _⟩) (.slice a0 l.length cap0) (yl_move (by rfl) _ rfl _ rfl) ?_
      simp only [Act.put, lzA, lzB, lzC]
      cases hfl : (l).all fewB
      · refine wt_call (o := ⟨_, _, _, _, _, _⟩) (by rfl) 17 _ _ rfl #[.slice a0 l.length cap0] rfl (run_call Tryz.func17 (by kernel_rfl) (by kernel_rfl)) ?_
        refine (refFew_any _ l _ (hv.on (below_none D))).mono ?_
        rintro r v3 (⟨rfl, e9⟩)
        · replace e9 := e9.symm
          subst e9
          refine Or.inl ⟨.bool false, ret_bool hfl, ?_⟩
          simp only [Act.put, lzA, lzB, lzC]
          refine wl_yield (o := ⟨_, _, _, _, _, _⟩) (.bool true) (yl_not (by rfl) _ _ rfl false rfl) ?_
          simp only [Act.put, lzA, lzB, lzC]
          refine wl_yield (o := ⟨_, _, _, _, _, _⟩) (.bool true) (yl_pickF (by rfl) _ _ _ rfl rfl _ rfl) ?_
          simp only [Act.put, lzA, lzB, lzC]
          refine wl_yield (o := ⟨_, _, _, _, _, _⟩) (.bool true) (yl_move (by rfl) _ rfl _ rfl) ?_
          simp only [Act.put, lzA, lzB, lzC]
          with_reducible refine wl_yield (o := ⟨_, _, _, _, _, _⟩) undef (yl_undef (by kernel_rfl)) ?_
          simp only [Act.put, lzA, lzB, lzC]
          with_reducible refine wl_yield (o := ⟨_, _, _, _, _, _⟩) undef (yl_undef (by kernel_rfl)) ?_
          simp only [Act.put, lzA, lzB, lzC]
          with_reducible refine wl_yield (o := ⟨_, _, _, _, _, _⟩) undef (yl_undef (by kernel_rfl)) ?_
          simp only [Act.put, lzA, lzB, lzC]
          with_reducible refine wl_yield (o := ⟨_, _, _, _, _, _⟩) undef (yl_undef (by kernel_rfl)) ?_
          simp only [Act.put, lzA, lzB, lzC]
          refine wl_yield (o := ⟨_, _, _, _, _, _⟩) (.bool true) (yl_pickT (by rfl) _ _ _ rfl rfl _ rfl) ?_
          simp only [Act.put, lzA, lzB, lzC]
          refine wpList_nil ?_
          refine hK3 _ _ ?_
          clear hK3 K3
          refine wp_cond_true rfl ?_
          refine wp_seq_k (fun K4 hK4 => ?_)
          refine wp_region_lit ?_
          refine wt_call (o := ⟨_, _, _, _, _, _⟩) (by rfl) 16 _ _ rfl #[] rfl (run_call Tryz.func16 (by kernel_rfl) (by kernel_rfl)) ?_
          refine (awake9_any _ HE).mono ?_
          rintro r v4 ⟨rfl, kb⟩
          replace D := grown_below D kb
          replace HE := HE.on kb
          replace G1 := heap_on G1 kb
          clear kb
          refine Or.inl ⟨.bool true, rfl, ?_⟩
          simp only [Act.put, lzA, lzB, lzC]
          refine wl_yield (o := ⟨_, _, _, _, _, _⟩) (.bool true) (yl_assign (by rfl) _ rfl _ rfl) ?_
          simp only [Act.put, lzA, lzB, lzC]
          refine wpList_nil ?_
          refine hK4 _ _ ?_
          clear hK4 K4
          refine wp_ret ?_
          try simp only [Exit.inBlock, Exit.then]
          go_ret
          exact ⟨rfl, below_none D⟩
      · have hfc := fewC_all hfl (show l.length ≤ 15 by omega)
        refine wt_call (o := ⟨_, _, _, _, _, _⟩) (by rfl) 17 _ _ rfl #[.slice a0 l.length cap0] rfl (run_call Tryz.func17 (by kernel_rfl) (by kernel_rfl)) ?_
        refine (refFew_any _ l _ (hv.on (below_none D))).mono ?_
        rintro r v3 (⟨rfl, e9⟩)
        · replace e9 := e9.symm
          subst e9
          refine Or.inl ⟨.bool true, ret_bool hfl, ?_⟩
          simp only [Act.put, lzA, lzB, lzC]
          refine wl_yield (o := ⟨_, _, _, _, _, _⟩) (.bool false) (yl_not (by rfl) _ _ rfl true rfl) ?_
          simp only [Act.put, lzA, lzB, lzC]
          refine wl_yield (o := ⟨_, _, _, _, _, _⟩) (.bool false) (yl_pickF (by rfl) _ _ _ rfl rfl _ rfl) ?_
          simp only [Act.put, lzA, lzB, lzC]
          refine wl_yield (o := ⟨_, _, _, _, _, _⟩) (.bool false) (yl_move (by rfl) _ rfl _ rfl) ?_
          simp only [Act.put, lzA, lzB, lzC]
          refine wl_yield (o := ⟨_, _, _, _, _, _⟩) (.pointer (some ⟨g1, 2, none⟩)) (yt_fVa2 (by rfl) _ rfl g1 0 rfl) ?_
          simp only [Act.put, lzA, lzB, lzC]
          refine wl_yield (o := ⟨_, _, _, _, _, _⟩) (.string (bs sl)) (yt_ldS (by rfl) _ rfl _ _ rfl (bs sl) (fun _ h => by subst h; exact cell_heap G1 2)) ?_
          simp only [Act.put, lzA, lzB, lzC]
          refine wl_yield (o := ⟨_, _, _, _, _, _⟩) (.int .i64 (sl.length : Nat)) (yt_lenS (by rfl) _ rfl sl rfl) ?_
          simp only [Act.put, lzA, lzB, lzC]
          refine wl_yield (o := ⟨_, _, _, _, _, _⟩) (.bool true) (yt_gtrI (by rfl) _ _ _ rfl ((sl.length : Nat) : Int) 100 true rfl rfl (decide_eq_true (by omega))) ?_
          simp only [Act.put, lzA, lzB, lzC]
          refine wl_yield (o := ⟨_, _, _, _, _, _⟩) (.bool true) (yl_pickF (by rfl) _ _ _ rfl rfl _ rfl) ?_
          simp only [Act.put, lzA, lzB, lzC]
          refine wpList_nil ?_
          refine hK3 _ _ ?_
          clear hK3 K3
          refine wp_cond_true rfl ?_
          refine wp_seq_k (fun K4 hK4 => ?_)
          refine wp_region_lit ?_
          refine wt_call (o := ⟨_, _, _, _, _, _⟩) (by rfl) 16 _ _ rfl #[] rfl (run_call Tryz.func16 (by kernel_rfl) (by kernel_rfl)) ?_
          refine (awake9_any _ HE).mono ?_
          rintro r v4 ⟨rfl, kb⟩
          replace D := grown_below D kb
          replace HE := HE.on kb
          replace G1 := heap_on G1 kb
          clear kb
          refine Or.inl ⟨.bool true, rfl, ?_⟩
          simp only [Act.put, lzA, lzB, lzC]
          refine wl_yield (o := ⟨_, _, _, _, _, _⟩) (.bool true) (yl_assign (by rfl) _ rfl _ rfl) ?_
          simp only [Act.put, lzA, lzB, lzC]
          refine wpList_nil ?_
          refine hK4 _ _ ?_
          clear hK4 K4
          refine wp_ret ?_
          try simp only [Exit.inBlock, Exit.then]
          go_ret
          exact ⟨rfl, below_none D⟩
    · refine wp_seq_k (fun K1 hK1 => ?_)
      refine wp_region_lit ?_
      refine wt_boxVa (o := ⟨_, _, _, _, _, _⟩) (by rfl) _ rfl ((kk, nn, (bs sl))) rfl (fun v1 g1 hg G1 kb => ?_)
      simp only [Act.put, lzA, lzB, lzC]
      have ge_g1 : w.heap.size ≤ g1 := Nat.le_trans D.size hg
      have six_g1 : 2 ≤ g1 := Nat.le_trans w6 ge_g1
      clear hg
      replace D := grown_below D kb
      replace HE := HE.on kb
      clear kb
      replace G1 : v1.heap[g1]? = some (.cells #[.int .i64 kk, .int .i64 nn, .string (bs sl)] 48 (0, 0)) := G1
      refine wl_yield (o := ⟨_, _, _, _, _, _⟩) (.bool false) (yl_assign (by rfl) _ rfl _ rfl) ?_
      simp only [Act.put, lzA, lzB, lzC]
      refine wpList_nil ?_
      refine hK1 _ _ ?_
      clear hK1 K1
      refine wp_seq_k (fun K2 hK2 => ?_)
      refine wp_seq_k (fun K3 hK3 => ?_)
      refine wp_region_lit ?_
      refine wt_call (o := ⟨_, _, _, _, _, _⟩) (by rfl) 16 _ _ rfl #[] rfl (run_call Tryz.func16 (by kernel_rfl) (by kernel_rfl)) ?_
      refine (awake9_any _ HE).mono ?_
      rintro r v2 ⟨rfl, kb⟩
      replace D := grown_below D kb
      replace HE := HE.on kb
      replace G1 := heap_on G1 kb
      clear kb
      refine Or.inl ⟨.bool true, rfl, ?_⟩
      simp only [Act.put, lzA, lzB, lzC]
      refine wl_yield (o := ⟨_, _, _, _, _, _⟩) (.bool false) (yl_not (by rfl) _ _ rfl true rfl) ?_
      simp only [Act.put, lzA, lzB, lzC]
      refine wl_yield (o := ⟨_, _, _, _, _, _⟩) (.bool false) (yl_move (by rfl) _ rfl _ rfl) ?_
      simp only [Act.put, lzA, lzB, lzC]
      refine wl_yield (o := ⟨_, _, _, _, _, _⟩) (.slice a0 l.length cap0) (yl_move (by rfl) _ rfl _ rfl) ?_
      simp only [Act.put, lzA, lzB, lzC]
      refine wl_yield (o := ⟨_, _, _, _, _, _⟩) (.int .i64 (l.length : Nat)) (yt_lenQ (by rfl) _ rfl a0 l.length cap0 rfl) ?_
      simp only [Act.put, lzA, lzB, lzC]
      refine wl_yield (o := ⟨_, _, _, _, _, _⟩) (.bool false) (yt_gtrI (by rfl) _ _ _ rfl ((l.length : Nat) : Int) 12 false rfl rfl (decide_eq_false (by omega))) ?_
      simp only [Act.put, lzA, lzB, lzC]
      refine wl_yield (o := ⟨_, _, _, _, _, _⟩) (.bool false) (yl_pickF (by rfl) _ _ _ rfl rfl _ rfl) ?_
      simp only [Act.put, lzA, lzB, lzC]
      refine wl_yield (o := ⟨_, _, _, _, _, _⟩) (.bool false) (yl_move (by rfl) _ rfl _ rfl) ?_
      simp only [Act.put, lzA, lzB, lzC]
      refine wl_yield (o := ⟨_, _, _, _, _, _⟩) (.slice a0 l.length cap0) (yl_move (by rfl) _ rfl _ rfl) ?_
      simp only [Act.put, lzA, lzB, lzC]
      cases hfl : (l).all fewB
      · refine wt_call (o := ⟨_, _, _, _, _, _⟩) (by rfl) 17 _ _ rfl #[.slice a0 l.length cap0] rfl (run_call Tryz.func17 (by kernel_rfl) (by kernel_rfl)) ?_
        refine (refFew_any _ l _ (hv.on (below_none D))).mono ?_
        rintro r v3 (⟨rfl, e9⟩)
        · replace e9 := e9.symm
          subst e9
          refine Or.inl ⟨.bool false, ret_bool hfl, ?_⟩
          simp only [Act.put, lzA, lzB, lzC]
          refine wl_yield (o := ⟨_, _, _, _, _, _⟩) (.bool true) (yl_not (by rfl) _ _ rfl false rfl) ?_
          simp only [Act.put, lzA, lzB, lzC]
          refine wl_yield (o := ⟨_, _, _, _, _, _⟩) (.bool true) (yl_pickF (by rfl) _ _ _ rfl rfl _ rfl) ?_
          simp only [Act.put, lzA, lzB, lzC]
          refine wl_yield (o := ⟨_, _, _, _, _, _⟩) (.bool true) (yl_move (by rfl) _ rfl _ rfl) ?_
          simp only [Act.put, lzA, lzB, lzC]
          with_reducible refine wl_yield (o := ⟨_, _, _, _, _, _⟩) undef (yl_undef (by kernel_rfl)) ?_
          simp only [Act.put, lzA, lzB, lzC]
          with_reducible refine wl_yield (o := ⟨_, _, _, _, _, _⟩) undef (yl_undef (by kernel_rfl)) ?_
          simp only [Act.put, lzA, lzB, lzC]
          with_reducible refine wl_yield (o := ⟨_, _, _, _, _, _⟩) undef (yl_undef (by kernel_rfl)) ?_
          simp only [Act.put, lzA, lzB, lzC]
          with_reducible refine wl_yield (o := ⟨_, _, _, _, _, _⟩) undef (yl_undef (by kernel_rfl)) ?_
          simp only [Act.put, lzA, lzB, lzC]
          refine wl_yield (o := ⟨_, _, _, _, _, _⟩) (.bool true) (yl_pickT (by rfl) _ _ _ rfl rfl _ rfl) ?_
          simp only [Act.put, lzA, lzB, lzC]
          refine wpList_nil ?_
          refine hK3 _ _ ?_
          clear hK3 K3
          refine wp_cond_true rfl ?_
          refine wp_seq_k (fun K4 hK4 => ?_)
          refine wp_region_lit ?_
          refine wt_call (o := ⟨_, _, _, _, _, _⟩) (by rfl) 16 _ _ rfl #[] rfl (run_call Tryz.func16 (by kernel_rfl) (by kernel_rfl)) ?_
          refine (awake9_any _ HE).mono ?_
          rintro r v4 ⟨rfl, kb⟩
          replace D := grown_below D kb
          replace HE := HE.on kb
          replace G1 := heap_on G1 kb
          clear kb
          refine Or.inl ⟨.bool true, rfl, ?_⟩
          simp only [Act.put, lzA, lzB, lzC]
          refine wl_yield (o := ⟨_, _, _, _, _, _⟩) (.bool true) (yl_assign (by rfl) _ rfl _ rfl) ?_
          simp only [Act.put, lzA, lzB, lzC]
          refine wpList_nil ?_
          refine hK4 _ _ ?_
          clear hK4 K4
          refine wp_ret ?_
          try simp only [Exit.inBlock, Exit.then]
          go_ret
          exact ⟨rfl, below_none D⟩
      · have hfc := fewC_all hfl (show l.length ≤ 15 by omega)
        refine wt_call (o := ⟨_, _, _, _, _, _⟩) (by rfl) 17 _ _ rfl #[.slice a0 l.length cap0] rfl (run_call Tryz.func17 (by kernel_rfl) (by kernel_rfl)) ?_
        refine (refFew_any _ l _ (hv.on (below_none D))).mono ?_
        rintro r v3 (⟨rfl, e9⟩)
        · replace e9 := e9.symm
          subst e9
          refine Or.inl ⟨.bool true, ret_bool hfl, ?_⟩
          simp only [Act.put, lzA, lzB, lzC]
          refine wl_yield (o := ⟨_, _, _, _, _, _⟩) (.bool false) (yl_not (by rfl) _ _ rfl true rfl) ?_
          simp only [Act.put, lzA, lzB, lzC]
          refine wl_yield (o := ⟨_, _, _, _, _, _⟩) (.bool false) (yl_pickF (by rfl) _ _ _ rfl rfl _ rfl) ?_
          simp only [Act.put, lzA, lzB, lzC]
          refine wl_yield (o := ⟨_, _, _, _, _, _⟩) (.bool false) (yl_move (by rfl) _ rfl _ rfl) ?_
          simp only [Act.put, lzA, lzB, lzC]
          refine wl_yield (o := ⟨_, _, _, _, _, _⟩) (.pointer (some ⟨g1, 2, none⟩)) (yt_fVa2 (by rfl) _ rfl g1 0 rfl) ?_
          simp only [Act.put, lzA, lzB, lzC]
          refine wl_yield (o := ⟨_, _, _, _, _, _⟩) (.string (bs sl)) (yt_ldS (by rfl) _ rfl _ _ rfl (bs sl) (fun _ h => by subst h; exact cell_heap G1 2)) ?_
          simp only [Act.put, lzA, lzB, lzC]
          refine wl_yield (o := ⟨_, _, _, _, _, _⟩) (.int .i64 (sl.length : Nat)) (yt_lenS (by rfl) _ rfl sl rfl) ?_
          simp only [Act.put, lzA, lzB, lzC]
          refine wl_yield (o := ⟨_, _, _, _, _, _⟩) (.bool false) (yt_gtrI (by rfl) _ _ _ rfl ((sl.length : Nat) : Int) 100 false rfl rfl (decide_eq_false (by omega))) ?_
          simp only [Act.put, lzA, lzB, lzC]
          refine wl_yield (o := ⟨_, _, _, _, _, _⟩) (.bool false) (yl_pickF (by rfl) _ _ _ rfl rfl _ rfl) ?_
          simp only [Act.put, lzA, lzB, lzC]
          refine wpList_nil ?_
          refine hK3 _ _ ?_
          clear hK3 K3
          refine wp_cond_false rfl ?_
          refine wp_skip ?_
          refine hK2 _ _ ?_
          clear hK2 K2
          refine wp_seq_k (fun K4 hK4 => ?_)
          refine wp_region_lit ?_
          refine wq_row0Q (o := ⟨_, _, _, _, _, _⟩) (by rfl) rfl (fun v4 g4 OT kb => ?_)
          simp only [Act.put, lzA, lzB, lzC]
          have mB := D.size
          have mV := kb.size
          have hV_g1 := lt_heap G1
          replace D := grown_below D kb
          replace HE := HE.on kb
          replace G1 := heap_on G1 kb
          clear kb
          refine wl_yield (o := ⟨_, _, _, _, _, _⟩) (.slice a0 l.length cap0) (yl_move (by rfl) _ rfl _ rfl) ?_
          simp only [Act.put, lzA, lzB, lzC]
          refine wpList_appRowT _ rfl _ _ rfl v2.heap.size _ _ [] cs0 rfl OT rfl (hR0.on (below_none D)) hn0 (by simp; have := hA0.1; omega) mV ?_
          intro v5' v5 OT' kB
          simp only [Act.put, lzA, lzB, lzC]
          replace OT := OT'
          clear OT'
          rw [List.nil_append] at OT
          replace D := grown_none ((below_none D).trans (kB.mono mB))
          replace HE := HE.below (by have := HE0.big; omega) kB
          replace G1 := (kB.block _ hV_g1).trans G1
          clear kB
          refine wt_call (o := ⟨_, _, _, _, _, _⟩) (by rfl) 18 _ _ rfl #[v5'] rfl (run_call Tryz.func18 (by kernel_rfl) (by kernel_rfl)) ?_
          refine (cut_any _ l _ (sets_of_row (OwnT.row OT (by have := hA0.1; omega)) (hA0.on (below_none D))) hfc).mono ?_
          rintro r v6 (⟨⟨u, rfl, HC⟩, kb⟩)
          · replace D := grown_below D kb
            replace HE := HE.on kb
            replace G1 := heap_on G1 kb
            clear kb
            obtain ⟨a5, cap5, rfl⟩ : ∃ a5 cap5, u = .slice a5 (cutL l).length cap5 := by
              obtain ⟨q, e1, e2⟩ := HC.form
              exact ⟨q.p, q.c, by rw [e1]; unfold Sl.val; rw [e2]⟩
            have HS := HC.sets (Kept.refl _ _)
            clear HC
            have hmost := cutL_most hfc
            have hfit := fit_cut hil hfc
            have D2 : v6.grownBy v6 none := grown_refl _ _
            refine Or.inl ⟨.slice a5 (cutL l).length cap5, rfl, ?_⟩
            simp only [Act.put, lzA, lzB, lzC]
            refine wl_yield (o := ⟨_, _, _, _, _, _⟩) (.slice a5 (cutL l).length cap5) (yl_assign (by rfl) _ rfl _ rfl) ?_
            simp only [Act.put, lzA, lzB, lzC]
            refine wpList_nil ?_
            refine hK4 _ _ ?_
            clear hK4 K4
            refine wp_seq_k (fun K5 hK5 => ?_)
            refine wp_region_lit ?_
            refine wl_yield (o := ⟨_, _, _, _, _, _⟩) (.int .i64 0) (yl_assign (by rfl) _ rfl _ rfl) ?_
            simp only [Act.put, lzA, lzB, lzC]
            refine wl_yield (o := ⟨_, _, _, _, _, _⟩) (.int .i64 (-1)) (yl_assign (by rfl) _ rfl _ rfl) ?_
            simp only [Act.put, lzA, lzB, lzC]
            refine wpList_nil ?_
            refine hK5 _ _ ?_
            clear hK5 K5
            refine wp_seq_k (fun K6 hK6 => ?_)
            refine wp_seq_k (fun K7 hK7 => ?_)
            refine wp_region_lit ?_
            refine wl_yield (o := ⟨_, _, _, _, _, _⟩) (.slice a5 (cutL l).length cap5) (yl_move (by rfl) _ rfl _ rfl) ?_
            simp only [Act.put, lzA, lzB, lzC]
            refine wl_yield (o := ⟨_, _, _, _, _, _⟩) (.int .i64 ((cutL l).length : Nat)) (yt_lenQ (by rfl) _ rfl a5 (cutL l).length cap5 rfl) ?_
            simp only [Act.put, lzA, lzB, lzC]
            refine wl_yield (o := ⟨_, _, _, _, _, _⟩) (.int .i64 0) (yl_move (by rfl) _ rfl _ rfl) ?_
            simp only [Act.put, lzA, lzB, lzC]
            refine wpList_nil ?_
            refine hK7 _ _ ?_
            clear hK7 K7
            refine wp_block ?_
            have HS0 := HS
            generalize hC : cutL l = C at HS hmost hfit
            generalize hJ : whichN C (kk, nn, bs sl) = J
            have hoh : ∀ j, j < C.length → hasP (C.getD j noSet) (kk, nn, bs sl) = decide (j = J) := fun j hj => by rw [← hJ, ← hC]; exact one_has hil (by rw [hC]; exact hj)
            have hsm : ∀ j, j < C.length → ∃ q, sampleV (C.getD j noSet) = some q := fun j hj => by rw [← hC]; exact cell_sample (cut_of hil) (by have := hj; rw [← hC] at this; exact this)
            clear HS0
            go_loopw [6, 7, 40] (fun x y i wr => ∃ (k : Nat) (nv av : Int), x = .int .i64 nv ∧ y = .int .i64 av ∧ i = .int .i64 ((k : Nat) : Int) ∧ k ≤ C.length ∧ (nv = if J < k then 1 else 0) ∧ (av = if J < k then (J : Int) else -1) ∧ wr.heap[g1]? = some (.cells #[.int .i64 kk, .int .i64 nn, .string (bs sl)] 48 (0, 0)) ∧ Env wr ∧ v6.grownBy wr none ∧ w.grownBy wr none) (fun _ _ i _ => C.length - (intOf i).toNat)
            case atStart => exact ⟨0, 0, -1, rfl, rfl, rfl, Nat.zero_le _, by rw [if_neg (Nat.not_lt_zero _)], by rw [if_neg (Nat.not_lt_zero _)], G1, HE, D2, D⟩
            case round =>
              clear D D2 HE G1
              obtain ⟨k, nv, av, rfl, rfl, rfl, hk, hnv, hav, G1, HE, D2, D⟩ := hrel
              have hnb : 0 ≤ nv ∧ nv ≤ 1 := by rw [hnv]; split <;> omega
              by_cases hlt : k < C.length
              · obtain ⟨q, hq⟩ := hsm k hlt
                have hfk := hfit _ (gD_mem (d := noSet) hlt)
                have hqh := sample_has hq (by have := hfk.ns; omega)
                obtain ⟨gI, oI, vi, vs, rfl, hg1, C0, C1, C2, C3, hI, hT⟩ := HS.at.2 k hlt
                have cellD := fun (W : World) (D : v6.grownBy W none) (j : Nat) => (below_none D).cell (p := ⟨gI, j, none⟩) hg1
                obtain ⟨ai, ci, rfl⟩ := hI.form
                obtain ⟨az, cz, rfl⟩ := hT.form
                have hkh := hoh k hlt
                generalize hX : C.getD k noSet = Y9 at C0 C1 C2 C3 hI hT hq hqh hfk hkh
                refine wp_seq_k (fun K8 hK8 => ?_)
                refine wp_region_lit ?_
                refine wl_yield (o := ⟨_, _, _, _, _, _⟩) (.bool true) (yt_lssI (by rfl) _ _ _ rfl ((k : Nat) : Int) ((C.length : Nat) : Int) true rfl rfl (decide_eq_true (by omega))) ?_
                simp only [Act.put, lzA, lzB, lzC]
                refine wpList_nil ?_
                refine hK8 _ _ ?_
                clear hK8 K8
                refine wp_seq_k (fun K9 hK9 => ?_)
                refine wp_cond_true rfl ?_
                refine wp_skip ?_
                refine hK9 _ _ ?_
                clear hK9 K9
                refine wp_seq_k (fun K10 hK10 => ?_)
                refine wp_block ?_
                refine wp_seq_k (fun K11 hK11 => ?_)
                refine wp_region_lit ?_
                refine wl_yield (o := ⟨_, _, _, _, _, _⟩) (.int .i64 (k : Nat)) (yl_move (by rfl) _ rfl _ rfl) ?_
                simp only [Act.put, lzA, lzB, lzC]
                refine wl_yield (o := ⟨_, _, _, _, _, _⟩) (.pointer (some ⟨gI, oI + k * 4, none⟩)) (yt_atQ (by rfl) _ _ rfl gI oI _ _ k rfl rfl (hlt)) ?_
                simp only [Act.put, lzA, lzB, lzC]
                refine wl_yield (o := ⟨_, _, _, _, _, _⟩) (.agg #[.bool (Y9.absent), .slice ai Y9.ints.length ci, .bool (Y9.co), .slice az Y9.strs.length cz]) (yl_set (by rfl) _ rfl _ _ rfl _ _ _ _ (fun _ h => by subst h; exact ⟨(cellD _ D2 _).trans C0, (cellD _ D2 _).trans C1, (cellD _ D2 _).trans C2, (cellD _ D2 _).trans C3⟩)) ?_
                simp only [Act.put, lzA, lzB, lzC]
                refine wt_allocSt (o := ⟨_, _, _, _, _, _⟩) (by rfl) rfl (fun v7 g7 hg G7 kb => ?_)
                simp only [Act.put, lzA, lzB, lzC]
                have n_g1_g7 : g1 ≠ g7 := by have := lt_heap G1; omega
                have ge_g7 : w.heap.size ≤ g7 := Nat.le_trans D.size hg
                have ge_D2_g7 : v6.heap.size ≤ g7 := Nat.le_trans D2.size hg
                have six_g7 : 2 ≤ g7 := Nat.le_trans w6 ge_g7
                clear hg
                replace D := grown_below D kb
                replace HE := HE.on kb
                replace G1 := heap_on G1 kb
                replace D2 := grown_below D2 kb
                clear kb
                replace G7 : v7.heap[g7]? = some (.cells #[.bool false, .slice none 0 0, .bool false, .slice none 0 0] 26 (0, 0)) := G7
                refine wl_yield (o := ⟨_, _, _, _, _, _⟩) (.int .i64 (k : Nat)) (yl_assign (by rfl) _ rfl _ rfl) ?_
                simp only [Act.put, lzA, lzB, lzC]
                refine wt_putSt (o := ⟨_, _, _, _, _, _⟩) rfl _ _ rfl _ rfl (⟨Y9.absent, ai, Y9.ints.length, ci, Y9.co, az, Y9.strs.length, cz⟩) rfl G7 rfl (fun v8 X kg => ?_)
                simp only [Act.put, lzA, lzB, lzC]
                replace D := gr_new D ge_g7 kg
                replace HE := Env.gr HE kg six_g7
                replace G1 := heap_gr G1 kg n_g1_g7
                replace D2 := gr_new D2 ge_D2_g7 kg
                clear kg
                replace G7 : v8.heap[g7]? = some (.cells #[.bool (Y9.absent), .slice ai Y9.ints.length ci, .bool (Y9.co), .slice az Y9.strs.length cz] 26 (0, 0)) := X
                clear X
                refine wpList_nil ?_
                refine hK11 _ _ ?_
                clear hK11 K11
                refine wp_seq_k (fun K12 hK12 => ?_)
                refine wp_seq_k (fun K13 hK13 => ?_)
                refine wp_region_lit ?_
                refine wl_yield (o := ⟨_, _, _, _, _, _⟩) (.agg #[.bool (Y9.absent), .slice ai Y9.ints.length ci, .bool (Y9.co), .slice az Y9.strs.length cz]) (yl_set (by rfl) _ rfl _ 0 rfl _ _ _ _ (fun _ h => by subst h; exact ⟨cell_heap G7 0, cell_heap G7 1, cell_heap G7 2, cell_heap G7 3⟩)) ?_
                simp only [Act.put, lzA, lzB, lzC]
                refine wl_yield (o := ⟨_, _, _, _, _, _⟩) (.agg #[.int .i64 kk, .int .i64 nn, .string (bs sl)]) (yl_val (by rfl) _ rfl _ 0 rfl _ _ _ (fun _ h => by subst h; exact ⟨cell_heap G1 0, cell_heap G1 1, cell_heap G1 2⟩)) ?_
                simp only [Act.put, lzA, lzB, lzC]
                refine wt_call (o := ⟨_, _, _, _, _, _⟩) (by rfl) 23 _ _ rfl #[.agg #[.bool (Y9.absent), .slice ai Y9.ints.length ci, .bool (Y9.co), .slice az Y9.strs.length cz], .agg #[.int .i64 kk, .int .i64 nn, .string (bs sl)]] rfl (run_call Tryz.func23 (by kernel_rfl) (by kernel_rfl)) ?_
                refine (refHas_any _ Y9 kk nn (bs sl) _ (show SetAt _ (SC.val ⟨Y9.absent, ai, Y9.ints.length, ci, Y9.co, az, Y9.strs.length, cz⟩) Y9 from ⟨_, _, rfl, hI.on (below_none D2), hT.on (below_none D2)⟩) hs).mono ?_
                rintro r v9 (⟨rfl, kb⟩)
                · replace D := grown_below D kb
                  replace HE := HE.on kb
                  replace G1 := heap_on G1 kb
                  replace D2 := grown_below D2 kb
                  replace G7 := heap_on G7 kb
                  clear kb
                  refine Or.inl ⟨.bool (decide (k = J)), ret_bool hkh, ?_⟩
                  simp only [Act.put, lzA, lzB, lzC]
                  refine wpList_nil ?_
                  refine hK13 _ _ ?_
                  clear hK13 K13
                  refine wp_cond_split (t := (decide (k = J))) rfl (fun hc => ?_) (fun hc => ?_)
                  · have hkJ : k = J := of_decide_eq_true hc
                    refine wp_seq_k (fun K14 hK14 => ?_)
                    refine wp_region_lit ?_
                    refine wl_yield (o := ⟨_, _, _, _, _, _⟩) (.int .i64 nv) (yl_move (by rfl) _ rfl _ rfl) ?_
                    simp only [Act.put, lzA, lzB, lzC]
                    refine wl_yield (o := ⟨_, _, _, _, _, _⟩) (.int .i64 (nv + 1)) (yt_addI (by rfl) _ _ _ rfl nv 1 (nv + 1) rfl rfl (by omega) (by omega) (by omega)) ?_
                    simp only [Act.put, lzA, lzB, lzC]
                    refine wl_yield (o := ⟨_, _, _, _, _, _⟩) (.int .i64 (nv + 1)) (yl_assign (by rfl) _ rfl _ rfl) ?_
                    simp only [Act.put, lzA, lzB, lzC]
                    refine wpList_nil ?_
                    refine hK14 _ _ ?_
                    clear hK14 K14
                    refine wp_region_lit ?_
                    refine wl_yield (o := ⟨_, _, _, _, _, _⟩) (.int .i64 (k : Nat)) (yl_move (by rfl) _ rfl _ rfl) ?_
                    simp only [Act.put, lzA, lzB, lzC]
                    refine wl_yield (o := ⟨_, _, _, _, _, _⟩) (.int .i64 (k : Nat)) (yl_assign (by rfl) _ rfl _ rfl) ?_
                    simp only [Act.put, lzA, lzB, lzC]
                    refine wpList_nil ?_
                    refine hK12 _ _ ?_
                    clear hK12 K12
                    refine wp_seq_k (fun K15 hK15 => ?_)
                    refine wp_region_lit ?_
                    refine wl_yield (o := ⟨_, _, _, _, _, _⟩) (.agg #[.bool (Y9.absent), .slice ai Y9.ints.length ci, .bool (Y9.co), .slice az Y9.strs.length cz]) (yl_set (by rfl) _ rfl _ 0 rfl _ _ _ _ (fun _ h => by subst h; exact ⟨cell_heap G7 0, cell_heap G7 1, cell_heap G7 2, cell_heap G7 3⟩)) ?_
                    simp only [Act.put, lzA, lzB, lzC]
                    refine wt_call (o := ⟨_, _, _, _, _, _⟩) (by rfl) 25 _ _ rfl #[.agg #[.bool (Y9.absent), .slice ai Y9.ints.length ci, .bool (Y9.co), .slice az Y9.strs.length cz]] rfl (run_call Tryz.func25 (by kernel_rfl) (by kernel_rfl)) ?_
                    refine (sample_any _ Y9 _ HE (show SetAt _ (SC.val ⟨Y9.absent, ai, Y9.ints.length, ci, Y9.co, az, Y9.strs.length, cz⟩) Y9 from ⟨_, _, rfl, hI.on (below_none D2), hT.on (below_none D2)⟩) (fun _ => hfk)).mono ?_
                    rintro r v10 (⟨rfl, kb⟩)
                    · replace D := grown_below D kb
                      replace HE := HE.on kb
                      replace G1 := heap_on G1 kb
                      replace D2 := grown_below D2 kb
                      replace G7 := heap_on G7 kb
                      clear kb
                      refine Or.inl ⟨.tuple #[vVal q, .bool true], by rw [hq]; rfl, ?_⟩
                      simp only [Act.put, lzA, lzB, lzC]
                      refine wl_yield (o := ⟨_, _, _, _, _, _⟩) (.tuple #[vVal q, .bool true]) (yl_move (by rfl) _ rfl _ rfl) ?_
                      simp only [Act.put, lzA, lzB, lzC]
                      refine wl_yield (o := ⟨_, _, _, _, _, _⟩) (vVal q) (yl_extract0 (by rfl) _ rfl _ _ rfl) ?_
                      simp only [Act.put, lzA, lzB, lzC]
                      refine wl_yield (o := ⟨_, _, _, _, _, _⟩) (.bool true) (yl_extract1 (by rfl) _ rfl _ _ rfl) ?_
                      simp only [Act.put, lzA, lzB, lzC]
                      refine wt_allocVa (o := ⟨_, _, _, _, _, _⟩) (by rfl) rfl (fun v11 g11 hg G11 kb => ?_)
                      simp only [Act.put, lzA, lzB, lzC]
                      have n_g1_g11 : g1 ≠ g11 := by have := lt_heap G1; omega
                      have n_g7_g11 : g7 ≠ g11 := by have := lt_heap G7; omega
                      have ge_g11 : w.heap.size ≤ g11 := Nat.le_trans D.size hg
                      have ge_D2_g11 : v6.heap.size ≤ g11 := Nat.le_trans D2.size hg
                      have six_g11 : 2 ≤ g11 := Nat.le_trans w6 ge_g11
                      clear hg
                      replace D := grown_below D kb
                      replace HE := HE.on kb
                      replace G1 := heap_on G1 kb
                      replace D2 := grown_below D2 kb
                      replace G7 := heap_on G7 kb
                      clear kb
                      replace G11 : v11.heap[g11]? = some (.cells #[.int .i64 0, .int .i64 0, .string (bs ([]))] 48 (0, 0)) := G11
                      refine wt_putVa (o := ⟨_, _, _, _, _, _⟩) rfl _ _ rfl _ rfl (q) rfl G11 rfl (fun v12 X kg => ?_)
                      simp only [Act.put, lzA, lzB, lzC]
                      replace D := gr_new D ge_g11 kg
                      replace HE := Env.gr HE kg six_g11
                      replace G1 := heap_gr G1 kg n_g1_g11
                      replace D2 := gr_new D2 ge_D2_g11 kg
                      replace G7 := heap_gr G7 kg n_g7_g11
                      clear kg
                      replace G11 : v12.heap[g11]? = some (.cells #[.int .i64 (q.1), .int .i64 (q.2.1), .string q.2.2] 48 (0, 0)) := X
                      clear X
                      refine wl_yield (o := ⟨_, _, _, _, _, _⟩) (.bool true) (yl_assign (by rfl) _ rfl _ rfl) ?_
                      simp only [Act.put, lzA, lzB, lzC]
                      refine wpList_nil ?_
                      refine hK15 _ _ ?_
                      clear hK15 K15
                      refine wp_seq_k (fun K16 hK16 => ?_)
                      refine wp_region_lit ?_
                      refine wl_yield (o := ⟨_, _, _, _, _, _⟩) (.agg #[.bool (Y9.absent), .slice ai Y9.ints.length ci, .bool (Y9.co), .slice az Y9.strs.length cz]) (yl_set (by rfl) _ rfl _ 0 rfl _ _ _ _ (fun _ h => by subst h; exact ⟨cell_heap G7 0, cell_heap G7 1, cell_heap G7 2, cell_heap G7 3⟩)) ?_
                      simp only [Act.put, lzA, lzB, lzC]
                      refine wt_call (o := ⟨_, _, _, _, _, _⟩) (by rfl) 26 _ _ rfl #[.agg #[.bool (Y9.absent), .slice ai Y9.ints.length ci, .bool (Y9.co), .slice az Y9.strs.length cz]] rfl (run_call Tryz.func26 (by kernel_rfl) (by kernel_rfl)) ?_
                      refine (refSample9_any _ Y9 _ (show SetAt _ (SC.val ⟨Y9.absent, ai, Y9.ints.length, ci, Y9.co, az, Y9.strs.length, cz⟩) Y9 from ⟨_, _, rfl, hI.on (below_none D2), hT.on (below_none D2)⟩) (by have := hfk.ns; omega)).mono ?_
                      rintro r v13 (⟨rfl, kb⟩)
                      · replace D := grown_below D kb
                        replace HE := HE.on kb
                        replace G1 := heap_on G1 kb
                        replace D2 := grown_below D2 kb
                        replace G7 := heap_on G7 kb
                        replace G11 := heap_on G11 kb
                        clear kb
                        refine Or.inl ⟨.tuple #[vVal q, .bool true], by rw [hq]; rfl, ?_⟩
                        simp only [Act.put, lzA, lzB, lzC]
                        refine wl_yield (o := ⟨_, _, _, _, _, _⟩) (.tuple #[vVal q, .bool true]) (yl_move (by rfl) _ rfl _ rfl) ?_
                        simp only [Act.put, lzA, lzB, lzC]
                        refine wl_yield (o := ⟨_, _, _, _, _, _⟩) (vVal q) (yl_extract0 (by rfl) _ rfl _ _ rfl) ?_
                        simp only [Act.put, lzA, lzB, lzC]
                        refine wl_yield (o := ⟨_, _, _, _, _, _⟩) (.bool true) (yl_extract1 (by rfl) _ rfl _ _ rfl) ?_
                        simp only [Act.put, lzA, lzB, lzC]
                        refine wt_allocVa (o := ⟨_, _, _, _, _, _⟩) (by rfl) rfl (fun v14 g14 hg G14 kb => ?_)
                        simp only [Act.put, lzA, lzB, lzC]
                        have n_g1_g14 : g1 ≠ g14 := by have := lt_heap G1; omega
                        have n_g7_g14 : g7 ≠ g14 := by have := lt_heap G7; omega
                        have n_g11_g14 : g11 ≠ g14 := by have := lt_heap G11; omega
                        have ge_g14 : w.heap.size ≤ g14 := Nat.le_trans D.size hg
                        have ge_D2_g14 : v6.heap.size ≤ g14 := Nat.le_trans D2.size hg
                        have six_g14 : 2 ≤ g14 := Nat.le_trans w6 ge_g14
                        clear hg
                        replace D := grown_below D kb
                        replace HE := HE.on kb
                        replace G1 := heap_on G1 kb
                        replace D2 := grown_below D2 kb
                        replace G7 := heap_on G7 kb
                        replace G11 := heap_on G11 kb
                        clear kb
                        replace G14 : v14.heap[g14]? = some (.cells #[.int .i64 0, .int .i64 0, .string (bs ([]))] 48 (0, 0)) := G14
                        refine wt_putVa (o := ⟨_, _, _, _, _, _⟩) rfl _ _ rfl _ rfl (q) rfl G14 rfl (fun v15 X kg => ?_)
                        simp only [Act.put, lzA, lzB, lzC]
                        replace D := gr_new D ge_g14 kg
                        replace HE := Env.gr HE kg six_g14
                        replace G1 := heap_gr G1 kg n_g1_g14
                        replace D2 := gr_new D2 ge_D2_g14 kg
                        replace G7 := heap_gr G7 kg n_g7_g14
                        replace G11 := heap_gr G11 kg n_g11_g14
                        clear kg
                        replace G14 : v15.heap[g14]? = some (.cells #[.int .i64 (q.1), .int .i64 (q.2.1), .string q.2.2] 48 (0, 0)) := X
                        clear X
                        refine wl_yield (o := ⟨_, _, _, _, _, _⟩) (.bool true) (yl_assign (by rfl) _ rfl _ rfl) ?_
                        simp only [Act.put, lzA, lzB, lzC]
                        refine wpList_nil ?_
                        refine hK16 _ _ ?_
                        clear hK16 K16
                        refine wp_seq_k (fun K17 hK17 => ?_)
                        refine wp_region_lit ?_
                        refine wl_yield (o := ⟨_, _, _, _, _, _⟩) (vVal q) (yl_val (by rfl) _ rfl _ 0 rfl _ _ _ (fun _ h => by subst h; exact ⟨cell_heap G11 0, cell_heap G11 1, cell_heap G11 2⟩)) ?_
                        simp only [Act.put, lzA, lzB, lzC]
                        refine wl_yield (o := ⟨_, _, _, _, _, _⟩) (vVal q) (yl_val (by rfl) _ rfl _ 0 rfl _ _ _ (fun _ h => by subst h; exact ⟨cell_heap G14 0, cell_heap G14 1, cell_heap G14 2⟩)) ?_
                        simp only [Act.put, lzA, lzB, lzC]
                        refine wl_yield (o := ⟨_, _, _, _, _, _⟩) (.bool false) (yq_neqVa (by rfl) _ _ _ rfl q q false rfl rfl (⟨fun h => (by cases h), fun h => absurd rfl h⟩)) ?_
                        simp only [Act.put, lzA, lzB, lzC]
                        refine wl_yield (o := ⟨_, _, _, _, _, _⟩) (.bool false) (yl_move (by rfl) _ rfl _ rfl) ?_
                        simp only [Act.put, lzA, lzB, lzC]
                        refine wl_yield (o := ⟨_, _, _, _, _, _⟩) (.bool true) (yl_move (by rfl) _ rfl _ rfl) ?_
                        simp only [Act.put, lzA, lzB, lzC]
                        refine wl_yield (o := ⟨_, _, _, _, _, _⟩) (.bool true) (yl_move (by rfl) _ rfl _ rfl) ?_
                        simp only [Act.put, lzA, lzB, lzC]
                        refine wl_yield (o := ⟨_, _, _, _, _, _⟩) (.bool false) (yq_neqB (by rfl) _ _ _ rfl true true rfl rfl) ?_
                        simp only [Act.put, lzA, lzB, lzC]
                        refine wl_yield (o := ⟨_, _, _, _, _, _⟩) (.bool false) (yl_pickF (by rfl) _ _ _ rfl rfl _ rfl) ?_
                        simp only [Act.put, lzA, lzB, lzC]
                        refine wl_yield (o := ⟨_, _, _, _, _, _⟩) (.bool false) (yl_move (by rfl) _ rfl _ rfl) ?_
                        simp only [Act.put, lzA, lzB, lzC]
                        refine wl_yield (o := ⟨_, _, _, _, _, _⟩) (.bool true) (yl_move (by rfl) _ rfl _ rfl) ?_
                        simp only [Act.put, lzA, lzB, lzC]
                        refine wl_yield (o := ⟨_, _, _, _, _, _⟩) (.bool false) (yl_not (by rfl) _ _ rfl true rfl) ?_
                        simp only [Act.put, lzA, lzB, lzC]
                        refine wl_yield (o := ⟨_, _, _, _, _, _⟩) (.bool false) (yl_pickF (by rfl) _ _ _ rfl rfl _ rfl) ?_
                        simp only [Act.put, lzA, lzB, lzC]
                        refine wl_yield (o := ⟨_, _, _, _, _, _⟩) (.bool false) (yl_move (by rfl) _ rfl _ rfl) ?_
                        simp only [Act.put, lzA, lzB, lzC]
                        refine wl_yield (o := ⟨_, _, _, _, _, _⟩) (.agg #[.bool (Y9.absent), .slice ai Y9.ints.length ci, .bool (Y9.co), .slice az Y9.strs.length cz]) (yl_set (by rfl) _ rfl _ 0 rfl _ _ _ _ (fun _ h => by subst h; exact ⟨cell_heap G7 0, cell_heap G7 1, cell_heap G7 2, cell_heap G7 3⟩)) ?_
                        simp only [Act.put, lzA, lzB, lzC]
                        refine wl_yield (o := ⟨_, _, _, _, _, _⟩) (vVal q) (yl_val (by rfl) _ rfl _ 0 rfl _ _ _ (fun _ h => by subst h; exact ⟨cell_heap G11 0, cell_heap G11 1, cell_heap G11 2⟩)) ?_
                        simp only [Act.put, lzA, lzB, lzC]
                        refine wt_call (o := ⟨_, _, _, _, _, _⟩) (by rfl) 23 _ _ rfl #[.agg #[.bool (Y9.absent), .slice ai Y9.ints.length ci, .bool (Y9.co), .slice az Y9.strs.length cz], vVal q] rfl (run_call Tryz.func23 (by kernel_rfl) (by kernel_rfl)) ?_
                        refine (refHas_any _ Y9 q.1 q.2.1 q.2.2 _ (show SetAt _ (SC.val ⟨Y9.absent, ai, Y9.ints.length, ci, Y9.co, az, Y9.strs.length, cz⟩) Y9 from ⟨_, _, rfl, hI.on (below_none D2), hT.on (below_none D2)⟩) (hasP_max hqh)).mono ?_
                        rintro r v16 (⟨rfl, kb⟩)
                        · replace D := grown_below D kb
                          replace HE := HE.on kb
                          replace G1 := heap_on G1 kb
                          replace D2 := grown_below D2 kb
                          replace G7 := heap_on G7 kb
                          replace G11 := heap_on G11 kb
                          replace G14 := heap_on G14 kb
                          clear kb
                          refine Or.inl ⟨.bool true, ret_bool hqh, ?_⟩
                          simp only [Act.put, lzA, lzB, lzC]
                          refine wl_yield (o := ⟨_, _, _, _, _, _⟩) (.bool false) (yl_not (by rfl) _ _ rfl true rfl) ?_
                          simp only [Act.put, lzA, lzB, lzC]
                          refine wl_yield (o := ⟨_, _, _, _, _, _⟩) (.bool false) (yl_pickF (by rfl) _ _ _ rfl rfl _ rfl) ?_
                          simp only [Act.put, lzA, lzB, lzC]
                          refine wpList_nil ?_
                          refine hK17 _ _ ?_
                          clear hK17 K17
                          refine wp_cond_false rfl ?_
                          refine wp_skip ?_
                          refine hK10 _ _ ?_
                          clear hK10 K10
                          refine wp_region_lit ?_
                          refine wl_yield (o := ⟨_, _, _, _, _, _⟩) (.int .i64 (k + 1 : Nat)) (yt_addI (by rfl) _ _ _ rfl ((k : Nat) : Int) 1 ((k + 1 : Nat) : Int) rfl rfl (by omega) (by omega) (by omega)) ?_
                          simp only [Act.put, lzA, lzB, lzC]
                          refine wl_yield (o := ⟨_, _, _, _, _, _⟩) (.int .i64 (k + 1 : Nat)) (yl_move (by rfl) _ rfl _ rfl) ?_
                          simp only [Act.put, lzA, lzB, lzC]
                          refine wpList_nil ?_
                          show _ ∧ _
                          go_roundw
                          case rel => exact ⟨k + 1, _, _, rfl, rfl, rfl, by omega, by rw [hnv, if_neg (by omega), if_pos (by omega)]; rfl, by rw [if_pos (by omega), hkJ], G1, HE, D2, D⟩
                          case measure => simp [intOf]; omega
                  · have hkJ : ¬ k = J := of_decide_eq_false hc
                    refine wp_skip ?_
                    refine hK12 _ _ ?_
                    clear hK12 K12
                    refine wp_seq_k (fun K14 hK14 => ?_)
                    refine wp_region_lit ?_
                    refine wl_yield (o := ⟨_, _, _, _, _, _⟩) (.agg #[.bool (Y9.absent), .slice ai Y9.ints.length ci, .bool (Y9.co), .slice az Y9.strs.length cz]) (yl_set (by rfl) _ rfl _ 0 rfl _ _ _ _ (fun _ h => by subst h; exact ⟨cell_heap G7 0, cell_heap G7 1, cell_heap G7 2, cell_heap G7 3⟩)) ?_
                    simp only [Act.put, lzA, lzB, lzC]
                    refine wt_call (o := ⟨_, _, _, _, _, _⟩) (by rfl) 25 _ _ rfl #[.agg #[.bool (Y9.absent), .slice ai Y9.ints.length ci, .bool (Y9.co), .slice az Y9.strs.length cz]] rfl (run_call Tryz.func25 (by kernel_rfl) (by kernel_rfl)) ?_
                    refine (sample_any _ Y9 _ HE (show SetAt _ (SC.val ⟨Y9.absent, ai, Y9.ints.length, ci, Y9.co, az, Y9.strs.length, cz⟩) Y9 from ⟨_, _, rfl, hI.on (below_none D2), hT.on (below_none D2)⟩) (fun _ => hfk)).mono ?_
                    rintro r v10 (⟨rfl, kb⟩)
                    · replace D := grown_below D kb
                      replace HE := HE.on kb
                      replace G1 := heap_on G1 kb
                      replace D2 := grown_below D2 kb
                      replace G7 := heap_on G7 kb
                      clear kb
                      refine Or.inl ⟨.tuple #[vVal q, .bool true], by rw [hq]; rfl, ?_⟩
                      simp only [Act.put, lzA, lzB, lzC]
                      refine wl_yield (o := ⟨_, _, _, _, _, _⟩) (.tuple #[vVal q, .bool true]) (yl_move (by rfl) _ rfl _ rfl) ?_
                      simp only [Act.put, lzA, lzB, lzC]
                      refine wl_yield (o := ⟨_, _, _, _, _, _⟩) (vVal q) (yl_extract0 (by rfl) _ rfl _ _ rfl) ?_
                      simp only [Act.put, lzA, lzB, lzC]
                      refine wl_yield (o := ⟨_, _, _, _, _, _⟩) (.bool true) (yl_extract1 (by rfl) _ rfl _ _ rfl) ?_
                      simp only [Act.put, lzA, lzB, lzC]
                      refine wt_allocVa (o := ⟨_, _, _, _, _, _⟩) (by rfl) rfl (fun v11 g11 hg G11 kb => ?_)
                      simp only [Act.put, lzA, lzB, lzC]
                      have n_g1_g11 : g1 ≠ g11 := by have := lt_heap G1; omega
                      have n_g7_g11 : g7 ≠ g11 := by have := lt_heap G7; omega
                      have ge_g11 : w.heap.size ≤ g11 := Nat.le_trans D.size hg
                      have ge_D2_g11 : v6.heap.size ≤ g11 := Nat.le_trans D2.size hg
                      have six_g11 : 2 ≤ g11 := Nat.le_trans w6 ge_g11
                      clear hg
                      replace D := grown_below D kb
                      replace HE := HE.on kb
                      replace G1 := heap_on G1 kb
                      replace D2 := grown_below D2 kb
                      replace G7 := heap_on G7 kb
                      clear kb
                      replace G11 : v11.heap[g11]? = some (.cells #[.int .i64 0, .int .i64 0, .string (bs ([]))] 48 (0, 0)) := G11
                      refine wt_putVa (o := ⟨_, _, _, _, _, _⟩) rfl _ _ rfl _ rfl (q) rfl G11 rfl (fun v12 X kg => ?_)
                      simp only [Act.put, lzA, lzB, lzC]
                      replace D := gr_new D ge_g11 kg
                      replace HE := Env.gr HE kg six_g11
                      replace G1 := heap_gr G1 kg n_g1_g11
                      replace D2 := gr_new D2 ge_D2_g11 kg
                      replace G7 := heap_gr G7 kg n_g7_g11
                      clear kg
                      replace G11 : v12.heap[g11]? = some (.cells #[.int .i64 (q.1), .int .i64 (q.2.1), .string q.2.2] 48 (0, 0)) := X
                      clear X
                      refine wl_yield (o := ⟨_, _, _, _, _, _⟩) (.bool true) (yl_assign (by rfl) _ rfl _ rfl) ?_
                      simp only [Act.put, lzA, lzB, lzC]
                      refine wpList_nil ?_
                      refine hK14 _ _ ?_
                      clear hK14 K14
                      refine wp_seq_k (fun K15 hK15 => ?_)
                      refine wp_region_lit ?_
                      refine wl_yield (o := ⟨_, _, _, _, _, _⟩) (.agg #[.bool (Y9.absent), .slice ai Y9.ints.length ci, .bool (Y9.co), .slice az Y9.strs.length cz]) (yl_set (by rfl) _ rfl _ 0 rfl _ _ _ _ (fun _ h => by subst h; exact ⟨cell_heap G7 0, cell_heap G7 1, cell_heap G7 2, cell_heap G7 3⟩)) ?_
                      simp only [Act.put, lzA, lzB, lzC]
                      refine wt_call (o := ⟨_, _, _, _, _, _⟩) (by rfl) 26 _ _ rfl #[.agg #[.bool (Y9.absent), .slice ai Y9.ints.length ci, .bool (Y9.co), .slice az Y9.strs.length cz]] rfl (run_call Tryz.func26 (by kernel_rfl) (by kernel_rfl)) ?_
                      refine (refSample9_any _ Y9 _ (show SetAt _ (SC.val ⟨Y9.absent, ai, Y9.ints.length, ci, Y9.co, az, Y9.strs.length, cz⟩) Y9 from ⟨_, _, rfl, hI.on (below_none D2), hT.on (below_none D2)⟩) (by have := hfk.ns; omega)).mono ?_
                      rintro r v13 (⟨rfl, kb⟩)
                      · replace D := grown_below D kb
                        replace HE := HE.on kb
                        replace G1 := heap_on G1 kb
                        replace D2 := grown_below D2 kb
                        replace G7 := heap_on G7 kb
                        replace G11 := heap_on G11 kb
                        clear kb
                        refine Or.inl ⟨.tuple #[vVal q, .bool true], by rw [hq]; rfl, ?_⟩
                        simp only [Act.put, lzA, lzB, lzC]
                        refine wl_yield (o := ⟨_, _, _, _, _, _⟩) (.tuple #[vVal q, .bool true]) (yl_move (by rfl) _ rfl _ rfl) ?_
                        simp only [Act.put, lzA, lzB, lzC]
                        refine wl_yield (o := ⟨_, _, _, _, _, _⟩) (vVal q) (yl_extract0 (by rfl) _ rfl _ _ rfl) ?_
                        simp only [Act.put, lzA, lzB, lzC]
                        refine wl_yield (o := ⟨_, _, _, _, _, _⟩) (.bool true) (yl_extract1 (by rfl) _ rfl _ _ rfl) ?_
                        simp only [Act.put, lzA, lzB, lzC]
                        refine wt_allocVa (o := ⟨_, _, _, _, _, _⟩) (by rfl) rfl (fun v14 g14 hg G14 kb => ?_)
                        simp only [Act.put, lzA, lzB, lzC]
                        have n_g1_g14 : g1 ≠ g14 := by have := lt_heap G1; omega
                        have n_g7_g14 : g7 ≠ g14 := by have := lt_heap G7; omega
                        have n_g11_g14 : g11 ≠ g14 := by have := lt_heap G11; omega
                        have ge_g14 : w.heap.size ≤ g14 := Nat.le_trans D.size hg
                        have ge_D2_g14 : v6.heap.size ≤ g14 := Nat.le_trans D2.size hg
                        have six_g14 : 2 ≤ g14 := Nat.le_trans w6 ge_g14
                        clear hg
                        replace D := grown_below D kb
                        replace HE := HE.on kb
                        replace G1 := heap_on G1 kb
                        replace D2 := grown_below D2 kb
                        replace G7 := heap_on G7 kb
                        replace G11 := heap_on G11 kb
                        clear kb
                        replace G14 : v14.heap[g14]? = some (.cells #[.int .i64 0, .int .i64 0, .string (bs ([]))] 48 (0, 0)) := G14
                        refine wt_putVa (o := ⟨_, _, _, _, _, _⟩) rfl _ _ rfl _ rfl (q) rfl G14 rfl (fun v15 X kg => ?_)
                        simp only [Act.put, lzA, lzB, lzC]
                        replace D := gr_new D ge_g14 kg
                        replace HE := Env.gr HE kg six_g14
                        replace G1 := heap_gr G1 kg n_g1_g14
                        replace D2 := gr_new D2 ge_D2_g14 kg
                        replace G7 := heap_gr G7 kg n_g7_g14
                        replace G11 := heap_gr G11 kg n_g11_g14
                        clear kg
                        replace G14 : v15.heap[g14]? = some (.cells #[.int .i64 (q.1), .int .i64 (q.2.1), .string q.2.2] 48 (0, 0)) := X
                        clear X
                        refine wl_yield (o := ⟨_, _, _, _, _, _⟩) (.bool true) (yl_assign (by rfl) _ rfl _ rfl) ?_
                        simp only [Act.put, lzA, lzB, lzC]
                        refine wpList_nil ?_
                        refine hK15 _ _ ?_
                        clear hK15 K15
                        refine wp_seq_k (fun K16 hK16 => ?_)
                        refine wp_region_lit ?_
                        refine wl_yield (o := ⟨_, _, _, _, _, _⟩) (vVal q) (yl_val (by rfl) _ rfl _ 0 rfl _ _ _ (fun _ h => by subst h; exact ⟨cell_heap G11 0, cell_heap G11 1, cell_heap G11 2⟩)) ?_
                        simp only [Act.put, lzA, lzB, lzC]
                        refine wl_yield (o := ⟨_, _, _, _, _, _⟩) (vVal q) (yl_val (by rfl) _ rfl _ 0 rfl _ _ _ (fun _ h => by subst h; exact ⟨cell_heap G14 0, cell_heap G14 1, cell_heap G14 2⟩)) ?_
                        simp only [Act.put, lzA, lzB, lzC]
                        refine wl_yield (o := ⟨_, _, _, _, _, _⟩) (.bool false) (yq_neqVa (by rfl) _ _ _ rfl q q false rfl rfl (⟨fun h => (by cases h), fun h => absurd rfl h⟩)) ?_
                        simp only [Act.put, lzA, lzB, lzC]
                        refine wl_yield (o := ⟨_, _, _, _, _, _⟩) (.bool false) (yl_move (by rfl) _ rfl _ rfl) ?_
                        simp only [Act.put, lzA, lzB, lzC]
                        refine wl_yield (o := ⟨_, _, _, _, _, _⟩) (.bool true) (yl_move (by rfl) _ rfl _ rfl) ?_
                        simp only [Act.put, lzA, lzB, lzC]
                        refine wl_yield (o := ⟨_, _, _, _, _, _⟩) (.bool true) (yl_move (by rfl) _ rfl _ rfl) ?_
                        simp only [Act.put, lzA, lzB, lzC]
                        refine wl_yield (o := ⟨_, _, _, _, _, _⟩) (.bool false) (yq_neqB (by rfl) _ _ _ rfl true true rfl rfl) ?_
                        simp only [Act.put, lzA, lzB, lzC]
                        refine wl_yield (o := ⟨_, _, _, _, _, _⟩) (.bool false) (yl_pickF (by rfl) _ _ _ rfl rfl _ rfl) ?_
                        simp only [Act.put, lzA, lzB, lzC]
                        refine wl_yield (o := ⟨_, _, _, _, _, _⟩) (.bool false) (yl_move (by rfl) _ rfl _ rfl) ?_
                        simp only [Act.put, lzA, lzB, lzC]
                        refine wl_yield (o := ⟨_, _, _, _, _, _⟩) (.bool true) (yl_move (by rfl) _ rfl _ rfl) ?_
                        simp only [Act.put, lzA, lzB, lzC]
                        refine wl_yield (o := ⟨_, _, _, _, _, _⟩) (.bool false) (yl_not (by rfl) _ _ rfl true rfl) ?_
                        simp only [Act.put, lzA, lzB, lzC]
                        refine wl_yield (o := ⟨_, _, _, _, _, _⟩) (.bool false) (yl_pickF (by rfl) _ _ _ rfl rfl _ rfl) ?_
                        simp only [Act.put, lzA, lzB, lzC]
                        refine wl_yield (o := ⟨_, _, _, _, _, _⟩) (.bool false) (yl_move (by rfl) _ rfl _ rfl) ?_
                        simp only [Act.put, lzA, lzB, lzC]
                        refine wl_yield (o := ⟨_, _, _, _, _, _⟩) (.agg #[.bool (Y9.absent), .slice ai Y9.ints.length ci, .bool (Y9.co), .slice az Y9.strs.length cz]) (yl_set (by rfl) _ rfl _ 0 rfl _ _ _ _ (fun _ h => by subst h; exact ⟨cell_heap G7 0, cell_heap G7 1, cell_heap G7 2, cell_heap G7 3⟩)) ?_
                        simp only [Act.put, lzA, lzB, lzC]
                        refine wl_yield (o := ⟨_, _, _, _, _, _⟩) (vVal q) (yl_val (by rfl) _ rfl _ 0 rfl _ _ _ (fun _ h => by subst h; exact ⟨cell_heap G11 0, cell_heap G11 1, cell_heap G11 2⟩)) ?_
                        simp only [Act.put, lzA, lzB, lzC]
                        refine wt_call (o := ⟨_, _, _, _, _, _⟩) (by rfl) 23 _ _ rfl #[.agg #[.bool (Y9.absent), .slice ai Y9.ints.length ci, .bool (Y9.co), .slice az Y9.strs.length cz], vVal q] rfl (run_call Tryz.func23 (by kernel_rfl) (by kernel_rfl)) ?_
                        refine (refHas_any _ Y9 q.1 q.2.1 q.2.2 _ (show SetAt _ (SC.val ⟨Y9.absent, ai, Y9.ints.length, ci, Y9.co, az, Y9.strs.length, cz⟩) Y9 from ⟨_, _, rfl, hI.on (below_none D2), hT.on (below_none D2)⟩) (hasP_max hqh)).mono ?_
                        rintro r v16 (⟨rfl, kb⟩)
                        · replace D := grown_below D kb
                          replace HE := HE.on kb
                          replace G1 := heap_on G1 kb
                          replace D2 := grown_below D2 kb
                          replace G7 := heap_on G7 kb
                          replace G11 := heap_on G11 kb
                          replace G14 := heap_on G14 kb
                          clear kb
                          refine Or.inl ⟨.bool true, ret_bool hqh, ?_⟩
                          simp only [Act.put, lzA, lzB, lzC]
                          refine wl_yield (o := ⟨_, _, _, _, _, _⟩) (.bool false) (yl_not (by rfl) _ _ rfl true rfl) ?_
                          simp only [Act.put, lzA, lzB, lzC]
                          refine wl_yield (o := ⟨_, _, _, _, _, _⟩) (.bool false) (yl_pickF (by rfl) _ _ _ rfl rfl _ rfl) ?_
                          simp only [Act.put, lzA, lzB, lzC]
                          refine wpList_nil ?_
                          refine hK16 _ _ ?_
                          clear hK16 K16
                          refine wp_cond_false rfl ?_
                          refine wp_skip ?_
                          refine hK10 _ _ ?_
                          clear hK10 K10
                          refine wp_region_lit ?_
                          refine wl_yield (o := ⟨_, _, _, _, _, _⟩) (.int .i64 (k + 1 : Nat)) (yt_addI (by rfl) _ _ _ rfl ((k : Nat) : Int) 1 ((k + 1 : Nat) : Int) rfl rfl (by omega) (by omega) (by omega)) ?_
                          simp only [Act.put, lzA, lzB, lzC]
                          refine wl_yield (o := ⟨_, _, _, _, _, _⟩) (.int .i64 (k + 1 : Nat)) (yl_move (by rfl) _ rfl _ rfl) ?_
                          simp only [Act.put, lzA, lzB, lzC]
                          refine wpList_nil ?_
                          show _ ∧ _
                          go_roundw
                          have e1 : nv = if J < k + 1 then 1 else 0 := by
                            rw [hnv]; by_cases e : J < k
                            · rw [if_pos e, if_pos (by omega)]
                            · rw [if_neg e, if_neg (by omega)]
                          have e2 : av = if J < k + 1 then (J : Int) else -1 := by
                            rw [hav]; by_cases e : J < k
                            · rw [if_pos e, if_pos (by omega)]
                            · rw [if_neg e, if_neg (by omega)]
                          case rel => exact ⟨k + 1, _, _, rfl, rfl, rfl, by omega, e1, e2, G1, HE, D2, D⟩
                          case measure => simp [intOf]; omega
              · obtain rfl : k = C.length := by omega
                have hwr : rightB kk nn (bs sl) = true → J < C.length := fun h => by rw [← hJ, ← hC]; exact which_right hil hn0' hn1' h
                have hww : rightB kk nn (bs sl) = false → ¬ J < C.length := fun h => by rw [← hJ, ← hC]; exact which_wrong h
                have hwi : whichI C (kk, nn, bs sl) = if J < C.length then (J : Int) else -1 := by unfold whichI; rw [hJ]
                unfold rightB at hwr hww
                rw [isE, bs_size] at hwr hww
                refine wp_seq_k (fun K8 hK8 => ?_)
                refine wp_region_lit ?_
                refine wl_yield (o := ⟨_, _, _, _, _, _⟩) (.bool false) (yt_lssI (by rfl) _ _ _ rfl ((C.length : Nat) : Int) ((C.length : Nat) : Int) false rfl rfl (decide_eq_false (by omega))) ?_
                simp only [Act.put, lzA, lzB, lzC]
                refine wpList_nil ?_
                refine hK8 _ _ ?_
                clear hK8 K8
                refine wp_seq_k (fun K9 hK9 => ?_)
                refine wp_cond_false rfl ?_
                refine wp_exit ?_
                refine hK6 _ _ ?_
                clear hK9 K9 hK6 K6
                refine wp_seq_k (fun K10 hK10 => ?_)
                by_cases hkz0 : kk = 0
                · subst hkz0
                  by_cases hn0 : nn = 0
                  · by_cases hs0 : sl = []
                    · have hJ2 := hwr (by simp [hn0, hs0])
                      rw [if_pos hJ2] at hnv hav hwi
                      subst hnv hav
                      refine wp_region_lit ?_
                      refine wl_yield (o := ⟨_, _, _, _, _, _⟩) (.pointer (some ⟨g1, 0, none⟩)) (yt_fVa0 (by rfl) _ rfl g1 0 rfl) ?_
                      simp only [Act.put, lzA, lzB, lzC]
                      refine wl_yield (o := ⟨_, _, _, _, _, _⟩) (.int .i64 0) (yt_ldI (by rfl) _ rfl _ _ rfl 0 (fun _ h => by subst h; exact cell_heap G1 0)) ?_
                      simp only [Act.put, lzA, lzB, lzC]
                      refine wl_yield (o := ⟨_, _, _, _, _, _⟩) (.bool true) (yt_eqlI (by rfl) _ _ _ rfl 0 0 true rfl rfl (by decide)) ?_
                      simp only [Act.put, lzA, lzB, lzC]
                      refine wl_yield (o := ⟨_, _, _, _, _, _⟩) (.bool true) (yl_move (by rfl) _ rfl _ rfl) ?_
                      simp only [Act.put, lzA, lzB, lzC]
                      refine wl_yield (o := ⟨_, _, _, _, _, _⟩) (.pointer (some ⟨g1, 1, none⟩)) (yt_fVa1 (by rfl) _ rfl g1 0 rfl) ?_
                      simp only [Act.put, lzA, lzB, lzC]
                      refine wl_yield (o := ⟨_, _, _, _, _, _⟩) (.int .i64 nn) (yt_ldI (by rfl) _ rfl _ _ rfl nn (fun _ h => by subst h; exact cell_heap G1 1)) ?_
                      simp only [Act.put, lzA, lzB, lzC]
                      refine wl_yield (o := ⟨_, _, _, _, _, _⟩) (.bool true) (yt_eqlI (by rfl) _ _ _ rfl nn 0 true rfl rfl (decide_eq_true hn0)) ?_
                      simp only [Act.put, lzA, lzB, lzC]
                      refine wl_yield (o := ⟨_, _, _, _, _, _⟩) (.bool true) (yl_pickT (by rfl) _ _ _ rfl rfl _ rfl) ?_
                      simp only [Act.put, lzA, lzB, lzC]
                      refine wl_yield (o := ⟨_, _, _, _, _, _⟩) (.bool true) (yl_move (by rfl) _ rfl _ rfl) ?_
                      simp only [Act.put, lzA, lzB, lzC]
                      refine wl_yield (o := ⟨_, _, _, _, _, _⟩) (.pointer (some ⟨g1, 2, none⟩)) (yt_fVa2 (by rfl) _ rfl g1 0 rfl) ?_
                      simp only [Act.put, lzA, lzB, lzC]
                      refine wl_yield (o := ⟨_, _, _, _, _, _⟩) (.string (bs sl)) (yt_ldS (by rfl) _ rfl _ _ rfl (bs sl) (fun _ h => by subst h; exact cell_heap G1 2)) ?_
                      simp only [Act.put, lzA, lzB, lzC]
                      refine wl_yield (o := ⟨_, _, _, _, _, _⟩) (.bool true) (yt_eqS (by rfl) _ _ _ rfl sl ([]) true rfl rfl (beq_nil_t hs0)) ?_
                      simp only [Act.put, lzA, lzB, lzC]
                      refine wl_yield (o := ⟨_, _, _, _, _, _⟩) (.bool true) (yl_pickT (by rfl) _ _ _ rfl rfl _ rfl) ?_
                      simp only [Act.put, lzA, lzB, lzC]
                      refine wl_yield (o := ⟨_, _, _, _, _, _⟩) (.bool true) (yl_move (by rfl) _ rfl _ rfl) ?_
                      simp only [Act.put, lzA, lzB, lzC]
                      with_reducible refine wl_yield (o := ⟨_, _, _, _, _, _⟩) undef (yl_undef (by kernel_rfl)) ?_
                      simp only [Act.put, lzA, lzB, lzC]
                      with_reducible refine wl_yield (o := ⟨_, _, _, _, _, _⟩) undef (yl_undef (by kernel_rfl)) ?_
                      simp only [Act.put, lzA, lzB, lzC]
                      with_reducible refine wl_yield (o := ⟨_, _, _, _, _, _⟩) undef (yl_undef (by kernel_rfl)) ?_
                      simp only [Act.put, lzA, lzB, lzC]
                      with_reducible refine wl_yield (o := ⟨_, _, _, _, _, _⟩) undef (yl_undef (by kernel_rfl)) ?_
                      simp only [Act.put, lzA, lzB, lzC]
                      with_reducible refine wl_yield (o := ⟨_, _, _, _, _, _⟩) undef (yl_undef (by kernel_rfl)) ?_
                      simp only [Act.put, lzA, lzB, lzC]
                      with_reducible refine wl_yield (o := ⟨_, _, _, _, _, _⟩) undef (yl_undef (by kernel_rfl)) ?_
                      simp only [Act.put, lzA, lzB, lzC]
                      with_reducible refine wl_yield (o := ⟨_, _, _, _, _, _⟩) undef (yl_undef (by kernel_rfl)) ?_
                      simp only [Act.put, lzA, lzB, lzC]
                      with_reducible refine wl_yield (o := ⟨_, _, _, _, _, _⟩) undef (yl_undef (by kernel_rfl)) ?_
                      simp only [Act.put, lzA, lzB, lzC]
                      refine wl_yield (o := ⟨_, _, _, _, _, _⟩) (.bool true) (yl_pickT (by rfl) _ _ _ rfl rfl _ rfl) ?_
                      simp only [Act.put, lzA, lzB, lzC]
                      refine wl_yield (o := ⟨_, _, _, _, _, _⟩) (.bool true) (yl_move (by rfl) _ rfl _ rfl) ?_
                      simp only [Act.put, lzA, lzB, lzC]
                      with_reducible refine wl_yield (o := ⟨_, _, _, _, _, _⟩) undef (yl_undef (by kernel_rfl)) ?_
                      simp only [Act.put, lzA, lzB, lzC]
                      with_reducible refine wl_yield (o := ⟨_, _, _, _, _, _⟩) undef (yl_undef (by kernel_rfl)) ?_
                      simp only [Act.put, lzA, lzB, lzC]
                      with_reducible refine wl_yield (o := ⟨_, _, _, _, _, _⟩) undef (yl_undef (by kernel_rfl)) ?_
                      simp only [Act.put, lzA, lzB, lzC]
                      with_reducible refine wl_yield (o := ⟨_, _, _, _, _, _⟩) undef (yl_undef (by kernel_rfl)) ?_
                      simp only [Act.put, lzA, lzB, lzC]
                      with_reducible refine wl_yield (o := ⟨_, _, _, _, _, _⟩) undef (yl_undef (by kernel_rfl)) ?_
                      simp only [Act.put, lzA, lzB, lzC]
                      with_reducible refine wl_yield (o := ⟨_, _, _, _, _, _⟩) undef (yl_undef (by kernel_rfl)) ?_
                      simp only [Act.put, lzA, lzB, lzC]
                      with_reducible refine wl_yield (o := ⟨_, _, _, _, _, _⟩) undef (yl_undef (by kernel_rfl)) ?_
                      simp only [Act.put, lzA, lzB, lzC]
                      with_reducible refine wl_yield (o := ⟨_, _, _, _, _, _⟩) undef (yl_undef (by kernel_rfl)) ?_
                      simp only [Act.put, lzA, lzB, lzC]
                      with_reducible refine wl_yield (o := ⟨_, _, _, _, _, _⟩) undef (yl_undef (by kernel_rfl)) ?_
                      simp only [Act.put, lzA, lzB, lzC]
                      with_reducible refine wl_yield (o := ⟨_, _, _, _, _, _⟩) undef (yl_undef (by kernel_rfl)) ?_
                      simp only [Act.put, lzA, lzB, lzC]
                      with_reducible refine wl_yield (o := ⟨_, _, _, _, _, _⟩) undef (yl_undef (by kernel_rfl)) ?_
                      simp only [Act.put, lzA, lzB, lzC]
                      with_reducible refine wl_yield (o := ⟨_, _, _, _, _, _⟩) undef (yl_undef (by kernel_rfl)) ?_
                      simp only [Act.put, lzA, lzB, lzC]
                      with_reducible refine wl_yield (o := ⟨_, _, _, _, _, _⟩) undef (yl_undef (by kernel_rfl)) ?_
                      simp only [Act.put, lzA, lzB, lzC]
                      with_reducible refine wl_yield (o := ⟨_, _, _, _, _, _⟩) undef (yl_undef (by kernel_rfl)) ?_
                      simp only [Act.put, lzA, lzB, lzC]
                      refine wl_yield (o := ⟨_, _, _, _, _, _⟩) (.bool true) (yl_pickT (by rfl) _ _ _ rfl rfl _ rfl) ?_
                      simp only [Act.put, lzA, lzB, lzC]
                      refine wl_yield (o := ⟨_, _, _, _, _, _⟩) (.bool true) (yl_assign (by rfl) _ rfl _ rfl) ?_
                      simp only [Act.put, lzA, lzB, lzC]
                      refine wpList_nil ?_
                      refine hK10 _ _ ?_
                      clear hK10 K10
                      refine wp_seq_k (fun K11 hK11 => ?_)
                      refine wp_region_lit ?_
                      refine wl_yield (o := ⟨_, _, _, _, _, _⟩) (.int .i64 1) (yl_move (by rfl) _ rfl _ rfl) ?_
                      simp only [Act.put, lzA, lzB, lzC]
                      refine wl_yield (o := ⟨_, _, _, _, _, _⟩) (.bool true) (yt_eqlI (by rfl) _ _ _ rfl 1 1 true rfl rfl (by decide)) ?_
                      simp only [Act.put, lzA, lzB, lzC]
                      refine wl_yield (o := ⟨_, _, _, _, _, _⟩) (.bool true) (yl_move (by rfl) _ rfl _ rfl) ?_
                      simp only [Act.put, lzA, lzB, lzC]
                      refine wl_yield (o := ⟨_, _, _, _, _, _⟩) (.bool true) (yl_eqB (by rfl) _ _ _ rfl true true rfl rfl) ?_
                      simp only [Act.put, lzA, lzB, lzC]
                      refine wl_yield (o := ⟨_, _, _, _, _, _⟩) (.bool true) (yl_move (by rfl) _ rfl _ rfl) ?_
                      simp only [Act.put, lzA, lzB, lzC]
                      refine wl_yield (o := ⟨_, _, _, _, _, _⟩) (.int .i64 1) (yl_move (by rfl) _ rfl _ rfl) ?_
                      simp only [Act.put, lzA, lzB, lzC]
                      refine wl_yield (o := ⟨_, _, _, _, _, _⟩) (.bool true) (yt_leqI (by rfl) _ _ _ rfl 1 1 true rfl rfl (by decide)) ?_
                      simp only [Act.put, lzA, lzB, lzC]
                      refine wl_yield (o := ⟨_, _, _, _, _, _⟩) (.bool true) (yl_pickT (by rfl) _ _ _ rfl rfl _ rfl) ?_
                      simp only [Act.put, lzA, lzB, lzC]
                      refine wl_yield (o := ⟨_, _, _, _, _, _⟩) (.bool true) (yl_move (by rfl) _ rfl _ rfl) ?_
                      simp only [Act.put, lzA, lzB, lzC]
                      refine wl_yield (o := ⟨_, _, _, _, _, _⟩) (.slice a5 C.length cap5) (yl_move (by rfl) _ rfl _ rfl) ?_
                      simp only [Act.put, lzA, lzB, lzC]
                      refine wl_yield (o := ⟨_, _, _, _, _, _⟩) (.agg #[.int .i64 0, .int .i64 nn, .string (bs sl)]) (yl_val (by rfl) _ rfl _ 0 rfl _ _ _ (fun _ h => by subst h; exact ⟨cell_heap G1 0, cell_heap G1 1, cell_heap G1 2⟩)) ?_
                      simp only [Act.put, lzA, lzB, lzC]
                      refine wt_call (o := ⟨_, _, _, _, _, _⟩) (by rfl) 27 _ _ rfl #[.slice a5 C.length cap5, .agg #[.int .i64 0, .int .i64 nn, .string (bs sl)]] rfl (run_call Tryz.func27 (by kernel_rfl) (by kernel_rfl)) ?_
                      refine (which_any _ C (0, nn, bs sl) _ (HS.on (below_none D2)) hfit hs).mono ?_
                      rintro r v7 (⟨rfl, kb⟩)
                      · replace D := grown_below D kb
                        replace HE := HE.on kb
                        replace G1 := heap_on G1 kb
                        replace D2 := grown_below D2 kb
                        clear kb
                        refine Or.inl ⟨.int .i64 ((J : Int)), ret_int hwi, ?_⟩
                        simp only [Act.put, lzA, lzB, lzC]
                        refine wl_yield (o := ⟨_, _, _, _, _, _⟩) (.int .i64 ((J : Int))) (yl_move (by rfl) _ rfl _ rfl) ?_
                        simp only [Act.put, lzA, lzB, lzC]
                        refine wl_yield (o := ⟨_, _, _, _, _, _⟩) (.bool true) (yt_eqlI (by rfl) _ _ _ rfl (J : Int) (J : Int) true rfl rfl (decide_eq_true rfl)) ?_
                        simp only [Act.put, lzA, lzB, lzC]
                        refine wl_yield (o := ⟨_, _, _, _, _, _⟩) (.bool true) (yl_pickT (by rfl) _ _ _ rfl rfl _ rfl) ?_
                        simp only [Act.put, lzA, lzB, lzC]
                        refine wl_yield (o := ⟨_, _, _, _, _, _⟩) (.bool true) (yl_assign (by rfl) _ rfl _ rfl) ?_
                        simp only [Act.put, lzA, lzB, lzC]
                        refine wpList_nil ?_
                        refine hK11 _ _ ?_
                        clear hK11 K11
                        refine wp_ret ?_
                        try simp only [Exit.inBlock, Exit.then]
                        go_ret
                        exact ⟨rfl, below_none D⟩
                    · have hJ2 := hww (by simp [hs0])
                      rw [if_neg hJ2] at hnv hav hwi
                      subst hnv hav
                      refine wp_region_lit ?_
                      refine wl_yield (o := ⟨_, _, _, _, _, _⟩) (.pointer (some ⟨g1, 0, none⟩)) (yt_fVa0 (by rfl) _ rfl g1 0 rfl) ?_
                      simp only [Act.put, lzA, lzB, lzC]
                      refine wl_yield (o := ⟨_, _, _, _, _, _⟩) (.int .i64 0) (yt_ldI (by rfl) _ rfl _ _ rfl 0 (fun _ h => by subst h; exact cell_heap G1 0)) ?_
                      simp only [Act.put, lzA, lzB, lzC]
                      refine wl_yield (o := ⟨_, _, _, _, _, _⟩) (.bool true) (yt_eqlI (by rfl) _ _ _ rfl 0 0 true rfl rfl (by decide)) ?_
                      simp only [Act.put, lzA, lzB, lzC]
                      refine wl_yield (o := ⟨_, _, _, _, _, _⟩) (.bool true) (yl_move (by rfl) _ rfl _ rfl) ?_
                      simp only [Act.put, lzA, lzB, lzC]
                      refine wl_yield (o := ⟨_, _, _, _, _, _⟩) (.pointer (some ⟨g1, 1, none⟩)) (yt_fVa1 (by rfl) _ rfl g1 0 rfl) ?_
                      simp only [Act.put, lzA, lzB, lzC]
                      refine wl_yield (o := ⟨_, _, _, _, _, _⟩) (.int .i64 nn) (yt_ldI (by rfl) _ rfl _ _ rfl nn (fun _ h => by subst h; exact cell_heap G1 1)) ?_
                      simp only [Act.put, lzA, lzB, lzC]
                      refine wl_yield (o := ⟨_, _, _, _, _, _⟩) (.bool true) (yt_eqlI (by rfl) _ _ _ rfl nn 0 true rfl rfl (decide_eq_true hn0)) ?_
                      simp only [Act.put, lzA, lzB, lzC]
                      refine wl_yield (o := ⟨_, _, _, _, _, _⟩) (.bool true) (yl_pickT (by rfl) _ _ _ rfl rfl _ rfl) ?_
                      simp only [Act.put, lzA, lzB, lzC]
                      refine wl_yield (o := ⟨_, _, _, _, _, _⟩) (.bool true) (yl_move (by rfl) _ rfl _ rfl) ?_
                      simp only [Act.put, lzA, lzB, lzC]
                      refine wl_yield (o := ⟨_, _, _, _, _, _⟩) (.pointer (some ⟨g1, 2, none⟩)) (yt_fVa2 (by rfl) _ rfl g1 0 rfl) ?_
                      simp only [Act.put, lzA, lzB, lzC]
                      refine wl_yield (o := ⟨_, _, _, _, _, _⟩) (.string (bs sl)) (yt_ldS (by rfl) _ rfl _ _ rfl (bs sl) (fun _ h => by subst h; exact cell_heap G1 2)) ?_
                      simp only [Act.put, lzA, lzB, lzC]
                      refine wl_yield (o := ⟨_, _, _, _, _, _⟩) (.bool false) (yt_eqS (by rfl) _ _ _ rfl sl ([]) false rfl rfl (beq_nil_f hs0)) ?_
                      simp only [Act.put, lzA, lzB, lzC]
                      refine wl_yield (o := ⟨_, _, _, _, _, _⟩) (.bool false) (yl_pickT (by rfl) _ _ _ rfl rfl _ rfl) ?_
                      simp only [Act.put, lzA, lzB, lzC]
                      refine wl_yield (o := ⟨_, _, _, _, _, _⟩) (.bool false) (yl_move (by rfl) _ rfl _ rfl) ?_
                      simp only [Act.put, lzA, lzB, lzC]
                      refine wl_yield (o := ⟨_, _, _, _, _, _⟩) (.pointer (some ⟨g1, 0, none⟩)) (yt_fVa0 (by rfl) _ rfl g1 0 rfl) ?_
                      simp only [Act.put, lzA, lzB, lzC]
                      refine wl_yield (o := ⟨_, _, _, _, _, _⟩) (.int .i64 0) (yt_ldI (by rfl) _ rfl _ _ rfl 0 (fun _ h => by subst h; exact cell_heap G1 0)) ?_
                      simp only [Act.put, lzA, lzB, lzC]
                      refine wl_yield (o := ⟨_, _, _, _, _, _⟩) (.bool false) (yt_eqlI (by rfl) _ _ _ rfl 0 1 false rfl rfl (by decide)) ?_
                      simp only [Act.put, lzA, lzB, lzC]
                      refine wl_yield (o := ⟨_, _, _, _, _, _⟩) (.bool false) (yl_move (by rfl) _ rfl _ rfl) ?_
                      simp only [Act.put, lzA, lzB, lzC]
                      with_reducible refine wl_yield (o := ⟨_, _, _, _, _, _⟩) undef (yl_undef (by kernel_rfl)) ?_
                      simp only [Act.put, lzA, lzB, lzC]
                      with_reducible refine wl_yield (o := ⟨_, _, _, _, _, _⟩) undef (yl_undef (by kernel_rfl)) ?_
                      simp only [Act.put, lzA, lzB, lzC]
                      with_reducible refine wl_yield (o := ⟨_, _, _, _, _, _⟩) undef (yl_undef (by kernel_rfl)) ?_
                      simp only [Act.put, lzA, lzB, lzC]
                      refine wl_yield (o := ⟨_, _, _, _, _, _⟩) (.bool false) (yl_pickF (by rfl) _ _ _ rfl rfl _ rfl) ?_
                      simp only [Act.put, lzA, lzB, lzC]
                      refine wl_yield (o := ⟨_, _, _, _, _, _⟩) (.bool false) (yl_pickF (by rfl) _ _ _ rfl rfl _ rfl) ?_
                      simp only [Act.put, lzA, lzB, lzC]
                      refine wl_yield (o := ⟨_, _, _, _, _, _⟩) (.bool false) (yl_move (by rfl) _ rfl _ rfl) ?_
                      simp only [Act.put, lzA, lzB, lzC]
                      refine wl_yield (o := ⟨_, _, _, _, _, _⟩) (.pointer (some ⟨g1, 0, none⟩)) (yt_fVa0 (by rfl) _ rfl g1 0 rfl) ?_
                      simp only [Act.put, lzA, lzB, lzC]
                      refine wl_yield (o := ⟨_, _, _, _, _, _⟩) (.int .i64 0) (yt_ldI (by rfl) _ rfl _ _ rfl 0 (fun _ h => by subst h; exact cell_heap G1 0)) ?_
                      simp only [Act.put, lzA, lzB, lzC]
                      refine wl_yield (o := ⟨_, _, _, _, _, _⟩) (.bool false) (yt_eqlI (by rfl) _ _ _ rfl 0 2 false rfl rfl (by decide)) ?_
                      simp only [Act.put, lzA, lzB, lzC]
                      refine wl_yield (o := ⟨_, _, _, _, _, _⟩) (.bool false) (yl_move (by rfl) _ rfl _ rfl) ?_
                      simp only [Act.put, lzA, lzB, lzC]
                      with_reducible refine wl_yield (o := ⟨_, _, _, _, _, _⟩) undef (yl_undef (by kernel_rfl)) ?_
                      simp only [Act.put, lzA, lzB, lzC]
                      with_reducible refine wl_yield (o := ⟨_, _, _, _, _, _⟩) undef (yl_undef (by kernel_rfl)) ?_
                      simp only [Act.put, lzA, lzB, lzC]
                      with_reducible refine wl_yield (o := ⟨_, _, _, _, _, _⟩) undef (yl_undef (by kernel_rfl)) ?_
                      simp only [Act.put, lzA, lzB, lzC]
                      refine wl_yield (o := ⟨_, _, _, _, _, _⟩) (.bool false) (yl_pickF (by rfl) _ _ _ rfl rfl _ rfl) ?_
                      simp only [Act.put, lzA, lzB, lzC]
                      refine wl_yield (o := ⟨_, _, _, _, _, _⟩) (.bool false) (yl_move (by rfl) _ rfl _ rfl) ?_
                      simp only [Act.put, lzA, lzB, lzC]
                      with_reducible refine wl_yield (o := ⟨_, _, _, _, _, _⟩) undef (yl_undef (by kernel_rfl)) ?_
                      simp only [Act.put, lzA, lzB, lzC]
                      with_reducible refine wl_yield (o := ⟨_, _, _, _, _, _⟩) undef (yl_undef (by kernel_rfl)) ?_
                      simp only [Act.put, lzA, lzB, lzC]
                      with_reducible refine wl_yield (o := ⟨_, _, _, _, _, _⟩) undef (yl_undef (by kernel_rfl)) ?_
                      simp only [Act.put, lzA, lzB, lzC]
                      with_reducible refine wl_yield (o := ⟨_, _, _, _, _, _⟩) undef (yl_undef (by kernel_rfl)) ?_
                      simp only [Act.put, lzA, lzB, lzC]
                      refine wl_yield (o := ⟨_, _, _, _, _, _⟩) (.bool false) (yl_pickF (by rfl) _ _ _ rfl rfl _ rfl) ?_
                      simp only [Act.put, lzA, lzB, lzC]
                      refine wl_yield (o := ⟨_, _, _, _, _, _⟩) (.bool false) (yl_pickF (by rfl) _ _ _ rfl rfl _ rfl) ?_
                      simp only [Act.put, lzA, lzB, lzC]
                      refine wl_yield (o := ⟨_, _, _, _, _, _⟩) (.bool false) (yl_assign (by rfl) _ rfl _ rfl) ?_
                      simp only [Act.put, lzA, lzB, lzC]
                      refine wpList_nil ?_
                      refine hK10 _ _ ?_
                      clear hK10 K10
                      refine wp_seq_k (fun K11 hK11 => ?_)
                      refine wp_region_lit ?_
                      refine wl_yield (o := ⟨_, _, _, _, _, _⟩) (.int .i64 0) (yl_move (by rfl) _ rfl _ rfl) ?_
                      simp only [Act.put, lzA, lzB, lzC]
                      refine wl_yield (o := ⟨_, _, _, _, _, _⟩) (.bool false) (yt_eqlI (by rfl) _ _ _ rfl 0 1 false rfl rfl (by decide)) ?_
                      simp only [Act.put, lzA, lzB, lzC]
                      refine wl_yield (o := ⟨_, _, _, _, _, _⟩) (.bool false) (yl_move (by rfl) _ rfl _ rfl) ?_
                      simp only [Act.put, lzA, lzB, lzC]
                      refine wl_yield (o := ⟨_, _, _, _, _, _⟩) (.bool true) (yl_eqB (by rfl) _ _ _ rfl false false rfl rfl) ?_
                      simp only [Act.put, lzA, lzB, lzC]
                      refine wl_yield (o := ⟨_, _, _, _, _, _⟩) (.bool true) (yl_move (by rfl) _ rfl _ rfl) ?_
                      simp only [Act.put, lzA, lzB, lzC]
                      refine wl_yield (o := ⟨_, _, _, _, _, _⟩) (.int .i64 0) (yl_move (by rfl) _ rfl _ rfl) ?_
                      simp only [Act.put, lzA, lzB, lzC]
                      refine wl_yield (o := ⟨_, _, _, _, _, _⟩) (.bool true) (yt_leqI (by rfl) _ _ _ rfl 0 1 true rfl rfl (by decide)) ?_
                      simp only [Act.put, lzA, lzB, lzC]
                      refine wl_yield (o := ⟨_, _, _, _, _, _⟩) (.bool true) (yl_pickT (by rfl) _ _ _ rfl rfl _ rfl) ?_
                      simp only [Act.put, lzA, lzB, lzC]
                      refine wl_yield (o := ⟨_, _, _, _, _, _⟩) (.bool true) (yl_move (by rfl) _ rfl _ rfl) ?_
                      simp only [Act.put, lzA, lzB, lzC]
                      refine wl_yield (o := ⟨_, _, _, _, _, _⟩) (.slice a5 C.length cap5) (yl_move (by rfl) _ rfl _ rfl) ?_
                      simp only [Act.put, lzA, lzB, lzC]
                      refine wl_yield (o := ⟨_, _, _, _, _, _⟩) (.agg #[.int .i64 0, .int .i64 nn, .string (bs sl)]) (yl_val (by rfl) _ rfl _ 0 rfl _ _ _ (fun _ h => by subst h; exact ⟨cell_heap G1 0, cell_heap G1 1, cell_heap G1 2⟩)) ?_
                      simp only [Act.put, lzA, lzB, lzC]
                      refine wt_call (o := ⟨_, _, _, _, _, _⟩) (by rfl) 27 _ _ rfl #[.slice a5 C.length cap5, .agg #[.int .i64 0, .int .i64 nn, .string (bs sl)]] rfl (run_call Tryz.func27 (by kernel_rfl) (by kernel_rfl)) ?_
                      refine (which_any _ C (0, nn, bs sl) _ (HS.on (below_none D2)) hfit hs).mono ?_
                      rintro r v7 (⟨rfl, kb⟩)
                      · replace D := grown_below D kb
                        replace HE := HE.on kb
                        replace G1 := heap_on G1 kb
                        replace D2 := grown_below D2 kb
                        clear kb
                        refine Or.inl ⟨.int .i64 (-1), ret_int hwi, ?_⟩
                        simp only [Act.put, lzA, lzB, lzC]
                        refine wl_yield (o := ⟨_, _, _, _, _, _⟩) (.int .i64 (-1)) (yl_move (by rfl) _ rfl _ rfl) ?_
                        simp only [Act.put, lzA, lzB, lzC]
                        refine wl_yield (o := ⟨_, _, _, _, _, _⟩) (.bool true) (yt_eqlI (by rfl) _ _ _ rfl (-1) (-1) true rfl rfl (by decide)) ?_
                        simp only [Act.put, lzA, lzB, lzC]
                        refine wl_yield (o := ⟨_, _, _, _, _, _⟩) (.bool true) (yl_pickT (by rfl) _ _ _ rfl rfl _ rfl) ?_
                        simp only [Act.put, lzA, lzB, lzC]
                        refine wl_yield (o := ⟨_, _, _, _, _, _⟩) (.bool true) (yl_assign (by rfl) _ rfl _ rfl) ?_
                        simp only [Act.put, lzA, lzB, lzC]
                        refine wpList_nil ?_
                        refine hK11 _ _ ?_
                        clear hK11 K11
                        refine wp_ret ?_
                        try simp only [Exit.inBlock, Exit.then]
                        go_ret
                        exact ⟨rfl, below_none D⟩
                  · have hJ2 := hww (by simp [hn0])
                    rw [if_neg hJ2] at hnv hav hwi
                    subst hnv hav
                    refine wp_region_lit ?_
                    refine wl_yield (o := ⟨_, _, _, _, _, _⟩) (.pointer (some ⟨g1, 0, none⟩)) (yt_fVa0 (by rfl) _ rfl g1 0 rfl) ?_
                    simp only [Act.put, lzA, lzB, lzC]
                    refine wl_yield (o := ⟨_, _, _, _, _, _⟩) (.int .i64 0) (yt_ldI (by rfl) _ rfl _ _ rfl 0 (fun _ h => by subst h; exact cell_heap G1 0)) ?_
                    simp only [Act.put, lzA, lzB, lzC]
                    refine wl_yield (o := ⟨_, _, _, _, _, _⟩) (.bool true) (yt_eqlI (by rfl) _ _ _ rfl 0 0 true rfl rfl (by decide)) ?_
                    simp only [Act.put, lzA, lzB, lzC]
                    refine wl_yield (o := ⟨_, _, _, _, _, _⟩) (.bool true) (yl_move (by rfl) _ rfl _ rfl) ?_
                    simp only [Act.put, lzA, lzB, lzC]
                    refine wl_yield (o := ⟨_, _, _, _, _, _⟩) (.pointer (some ⟨g1, 1, none⟩)) (yt_fVa1 (by rfl) _ rfl g1 0 rfl) ?_
                    simp only [Act.put, lzA, lzB, lzC]
                    refine wl_yield (o := ⟨_, _, _, _, _, _⟩) (.int .i64 nn) (yt_ldI (by rfl) _ rfl _ _ rfl nn (fun _ h => by subst h; exact cell_heap G1 1)) ?_
                    simp only [Act.put, lzA, lzB, lzC]
                    refine wl_yield (o := ⟨_, _, _, _, _, _⟩) (.bool false) (yt_eqlI (by rfl) _ _ _ rfl nn 0 false rfl rfl (decide_eq_false hn0)) ?_
                    simp only [Act.put, lzA, lzB, lzC]
                    refine wl_yield (o := ⟨_, _, _, _, _, _⟩) (.bool false) (yl_pickT (by rfl) _ _ _ rfl rfl _ rfl) ?_
                    simp only [Act.put, lzA, lzB, lzC]
                    refine wl_yield (o := ⟨_, _, _, _, _, _⟩) (.bool false) (yl_move (by rfl) _ rfl _ rfl) ?_
                    simp only [Act.put, lzA, lzB, lzC]
                    with_reducible refine wl_yield (o := ⟨_, _, _, _, _, _⟩) undef (yl_undef (by kernel_rfl)) ?_
                    simp only [Act.put, lzA, lzB, lzC]
                    with_reducible refine wl_yield (o := ⟨_, _, _, _, _, _⟩) undef (yl_undef (by kernel_rfl)) ?_
                    simp only [Act.put, lzA, lzB, lzC]
                    with_reducible refine wl_yield (o := ⟨_, _, _, _, _, _⟩) undef (yl_undef (by kernel_rfl)) ?_
                    simp only [Act.put, lzA, lzB, lzC]
                    refine wl_yield (o := ⟨_, _, _, _, _, _⟩) (.bool false) (yl_pickF (by rfl) _ _ _ rfl rfl _ rfl) ?_
                    simp only [Act.put, lzA, lzB, lzC]
                    refine wl_yield (o := ⟨_, _, _, _, _, _⟩) (.bool false) (yl_move (by rfl) _ rfl _ rfl) ?_
                    simp only [Act.put, lzA, lzB, lzC]
                    refine wl_yield (o := ⟨_, _, _, _, _, _⟩) (.pointer (some ⟨g1, 0, none⟩)) (yt_fVa0 (by rfl) _ rfl g1 0 rfl) ?_
                    simp only [Act.put, lzA, lzB, lzC]
                    refine wl_yield (o := ⟨_, _, _, _, _, _⟩) (.int .i64 0) (yt_ldI (by rfl) _ rfl _ _ rfl 0 (fun _ h => by subst h; exact cell_heap G1 0)) ?_
                    simp only [Act.put, lzA, lzB, lzC]
                    refine wl_yield (o := ⟨_, _, _, _, _, _⟩) (.bool false) (yt_eqlI (by rfl) _ _ _ rfl 0 1 false rfl rfl (by decide)) ?_
                    simp only [Act.put, lzA, lzB, lzC]
                    refine wl_yield (o := ⟨_, _, _, _, _, _⟩) (.bool false) (yl_move (by rfl) _ rfl _ rfl) ?_
                    simp only [Act.put, lzA, lzB, lzC]
                    with_reducible refine wl_yield (o := ⟨_, _, _, _, _, _⟩) undef (yl_undef (by kernel_rfl)) ?_
                    simp only [Act.put, lzA, lzB, lzC]
                    with_reducible refine wl_yield (o := ⟨_, _, _, _, _, _⟩) undef (yl_undef (by kernel_rfl)) ?_
                    simp only [Act.put, lzA, lzB, lzC]
                    with_reducible refine wl_yield (o := ⟨_, _, _, _, _, _⟩) undef (yl_undef (by kernel_rfl)) ?_
                    simp only [Act.put, lzA, lzB, lzC]
                    refine wl_yield (o := ⟨_, _, _, _, _, _⟩) (.bool false) (yl_pickF (by rfl) _ _ _ rfl rfl _ rfl) ?_
                    simp only [Act.put, lzA, lzB, lzC]
                    refine wl_yield (o := ⟨_, _, _, _, _, _⟩) (.bool false) (yl_pickF (by rfl) _ _ _ rfl rfl _ rfl) ?_
                    simp only [Act.put, lzA, lzB, lzC]
                    refine wl_yield (o := ⟨_, _, _, _, _, _⟩) (.bool false) (yl_move (by rfl) _ rfl _ rfl) ?_
                    simp only [Act.put, lzA, lzB, lzC]
                    refine wl_yield (o := ⟨_, _, _, _, _, _⟩) (.pointer (some ⟨g1, 0, none⟩)) (yt_fVa0 (by rfl) _ rfl g1 0 rfl) ?_
                    simp only [Act.put, lzA, lzB, lzC]
                    refine wl_yield (o := ⟨_, _, _, _, _, _⟩) (.int .i64 0) (yt_ldI (by rfl) _ rfl _ _ rfl 0 (fun _ h => by subst h; exact cell_heap G1 0)) ?_
                    simp only [Act.put, lzA, lzB, lzC]
                    refine wl_yield (o := ⟨_, _, _, _, _, _⟩) (.bool false) (yt_eqlI (by rfl) _ _ _ rfl 0 2 false rfl rfl (by decide)) ?_
                    simp only [Act.put, lzA, lzB, lzC]
                    refine wl_yield (o := ⟨_, _, _, _, _, _⟩) (.bool false) (yl_move (by rfl) _ rfl _ rfl) ?_
                    simp only [Act.put, lzA, lzB, lzC]
                    with_reducible refine wl_yield (o := ⟨_, _, _, _, _, _⟩) undef (yl_undef (by kernel_rfl)) ?_
                    simp only [Act.put, lzA, lzB, lzC]
                    with_reducible refine wl_yield (o := ⟨_, _, _, _, _, _⟩) undef (yl_undef (by kernel_rfl)) ?_
                    simp only [Act.put, lzA, lzB, lzC]
                    with_reducible refine wl_yield (o := ⟨_, _, _, _, _, _⟩) undef (yl_undef (by kernel_rfl)) ?_
                    simp only [Act.put, lzA, lzB, lzC]
                    refine wl_yield (o := ⟨_, _, _, _, _, _⟩) (.bool false) (yl_pickF (by rfl) _ _ _ rfl rfl _ rfl) ?_
                    simp only [Act.put, lzA, lzB, lzC]
                    refine wl_yield (o := ⟨_, _, _, _, _, _⟩) (.bool false) (yl_move (by rfl) _ rfl _ rfl) ?_
                    simp only [Act.put, lzA, lzB, lzC]
                    with_reducible refine wl_yield (o := ⟨_, _, _, _, _, _⟩) undef (yl_undef (by kernel_rfl)) ?_
                    simp only [Act.put, lzA, lzB, lzC]
                    with_reducible refine wl_yield (o := ⟨_, _, _, _, _, _⟩) undef (yl_undef (by kernel_rfl)) ?_
                    simp only [Act.put, lzA, lzB, lzC]
                    with_reducible refine wl_yield (o := ⟨_, _, _, _, _, _⟩) undef (yl_undef (by kernel_rfl)) ?_
                    simp only [Act.put, lzA, lzB, lzC]
                    with_reducible refine wl_yield (o := ⟨_, _, _, _, _, _⟩) undef (yl_undef (by kernel_rfl)) ?_
                    simp only [Act.put, lzA, lzB, lzC]
                    refine wl_yield (o := ⟨_, _, _, _, _, _⟩) (.bool false) (yl_pickF (by rfl) _ _ _ rfl rfl _ rfl) ?_
                    simp only [Act.put, lzA, lzB, lzC]
                    refine wl_yield (o := ⟨_, _, _, _, _, _⟩) (.bool false) (yl_pickF (by rfl) _ _ _ rfl rfl _ rfl) ?_
                    simp only [Act.put, lzA, lzB, lzC]
                    refine wl_yield (o := ⟨_, _, _, _, _, _⟩) (.bool false) (yl_assign (by rfl) _ rfl _ rfl) ?_
                    simp only [Act.put, lzA, lzB, lzC]
                    refine wpList_nil ?_
                    refine hK10 _ _ ?_
                    clear hK10 K10
                    refine wp_seq_k (fun K11 hK11 => ?_)
                    refine wp_region_lit ?_
                    refine wl_yield (o := ⟨_, _, _, _, _, _⟩) (.int .i64 0) (yl_move (by rfl) _ rfl _ rfl) ?_
                    simp only [Act.put, lzA, lzB, lzC]
                    refine wl_yield (o := ⟨_, _, _, _, _, _⟩) (.bool false) (yt_eqlI (by rfl) _ _ _ rfl 0 1 false rfl rfl (by decide)) ?_
                    simp only [Act.put, lzA, lzB, lzC]
                    refine wl_yield (o := ⟨_, _, _, _, _, _⟩) (.bool false) (yl_move (by rfl) _ rfl _ rfl) ?_
                    simp only [Act.put, lzA, lzB, lzC]
                    refine wl_yield (o := ⟨_, _, _, _, _, _⟩) (.bool true) (yl_eqB (by rfl) _ _ _ rfl false false rfl rfl) ?_
                    simp only [Act.put, lzA, lzB, lzC]
                    refine wl_yield (o := ⟨_, _, _, _, _, _⟩) (.bool true) (yl_move (by rfl) _ rfl _ rfl) ?_
                    simp only [Act.put, lzA, lzB, lzC]
                    refine wl_yield (o := ⟨_, _, _, _, _, _⟩) (.int .i64 0) (yl_move (by rfl) _ rfl _ rfl) ?_
                    simp only [Act.put, lzA, lzB, lzC]
                    refine wl_yield (o := ⟨_, _, _, _, _, _⟩) (.bool true) (yt_leqI (by rfl) _ _ _ rfl 0 1 true rfl rfl (by decide)) ?_
                    simp only [Act.put, lzA, lzB, lzC]
                    refine wl_yield (o := ⟨_, _, _, _, _, _⟩) (.bool true) (yl_pickT (by rfl) _ _ _ rfl rfl _ rfl) ?_
                    simp only [Act.put, lzA, lzB, lzC]
                    refine wl_yield (o := ⟨_, _, _, _, _, _⟩) (.bool true) (yl_move (by rfl) _ rfl _ rfl) ?_
                    simp only [Act.put, lzA, lzB, lzC]
                    refine wl_yield (o := ⟨_, _, _, _, _, _⟩) (.slice a5 C.length cap5) (yl_move (by rfl) _ rfl _ rfl) ?_
                    simp only [Act.put, lzA, lzB, lzC]
                    refine wl_yield (o := ⟨_, _, _, _, _, _⟩) (.agg #[.int .i64 0, .int .i64 nn, .string (bs sl)]) (yl_val (by rfl) _ rfl _ 0 rfl _ _ _ (fun _ h => by subst h; exact ⟨cell_heap G1 0, cell_heap G1 1, cell_heap G1 2⟩)) ?_
                    simp only [Act.put, lzA, lzB, lzC]
                    refine wt_call (o := ⟨_, _, _, _, _, _⟩) (by rfl) 27 _ _ rfl #[.slice a5 C.length cap5, .agg #[.int .i64 0, .int .i64 nn, .string (bs sl)]] rfl (run_call Tryz.func27 (by kernel_rfl) (by kernel_rfl)) ?_
                    refine (which_any _ C (0, nn, bs sl) _ (HS.on (below_none D2)) hfit hs).mono ?_
                    rintro r v7 (⟨rfl, kb⟩)
                    · replace D := grown_below D kb
                      replace HE := HE.on kb
                      replace G1 := heap_on G1 kb
                      replace D2 := grown_below D2 kb
                      clear kb
                      refine Or.inl ⟨.int .i64 (-1), ret_int hwi, ?_⟩
                      simp only [Act.put, lzA, lzB, lzC]
                      refine wl_yield (o := ⟨_, _, _, _, _, _⟩) (.int .i64 (-1)) (yl_move (by rfl) _ rfl _ rfl) ?_
                      simp only [Act.put, lzA, lzB, lzC]
                      refine wl_yield (o := ⟨_, _, _, _, _, _⟩) (.bool true) (yt_eqlI (by rfl) _ _ _ rfl (-1) (-1) true rfl rfl (by decide)) ?_
                      simp only [Act.put, lzA, lzB, lzC]
                      refine wl_yield (o := ⟨_, _, _, _, _, _⟩) (.bool true) (yl_pickT (by rfl) _ _ _ rfl rfl _ rfl) ?_
                      simp only [Act.put, lzA, lzB, lzC]
                      refine wl_yield (o := ⟨_, _, _, _, _, _⟩) (.bool true) (yl_assign (by rfl) _ rfl _ rfl) ?_
                      simp only [Act.put, lzA, lzB, lzC]
                      refine wpList_nil ?_
                      refine hK11 _ _ ?_
                      clear hK11 K11
                      refine wp_ret ?_
                      try simp only [Exit.inBlock, Exit.then]
                      go_ret
                      exact ⟨rfl, below_none D⟩
                · by_cases hkz1 : kk = 1
                  · subst hkz1
                    by_cases hs0 : sl = []
                    · have hJ2 := hwr (by simp [hs0])
                      rw [if_pos hJ2] at hnv hav hwi
                      subst hnv hav
                      refine wp_region_lit ?_
                      refine wl_yield (o := ⟨_, _, _, _, _, _⟩) (.pointer (some ⟨g1, 0, none⟩)) (yt_fVa0 (by rfl) _ rfl g1 0 rfl) ?_
                      simp only [Act.put, lzA, lzB, lzC]
                      refine wl_yield (o := ⟨_, _, _, _, _, _⟩) (.int .i64 1) (yt_ldI (by rfl) _ rfl _ _ rfl 1 (fun _ h => by subst h; exact cell_heap G1 0)) ?_
                      simp only [Act.put, lzA, lzB, lzC]
                      refine wl_yield (o := ⟨_, _, _, _, _, _⟩) (.bool false) (yt_eqlI (by rfl) _ _ _ rfl 1 0 false rfl rfl (by decide)) ?_
                      simp only [Act.put, lzA, lzB, lzC]
                      refine wl_yield (o := ⟨_, _, _, _, _, _⟩) (.bool false) (yl_move (by rfl) _ rfl _ rfl) ?_
                      simp only [Act.put, lzA, lzB, lzC]
                      with_reducible refine wl_yield (o := ⟨_, _, _, _, _, _⟩) undef (yl_undef (by kernel_rfl)) ?_
                      simp only [Act.put, lzA, lzB, lzC]
                      with_reducible refine wl_yield (o := ⟨_, _, _, _, _, _⟩) undef (yl_undef (by kernel_rfl)) ?_
                      simp only [Act.put, lzA, lzB, lzC]
                      with_reducible refine wl_yield (o := ⟨_, _, _, _, _, _⟩) undef (yl_undef (by kernel_rfl)) ?_
                      simp only [Act.put, lzA, lzB, lzC]
                      refine wl_yield (o := ⟨_, _, _, _, _, _⟩) (.bool false) (yl_pickF (by rfl) _ _ _ rfl rfl _ rfl) ?_
                      simp only [Act.put, lzA, lzB, lzC]
                      refine wl_yield (o := ⟨_, _, _, _, _, _⟩) (.bool false) (yl_move (by rfl) _ rfl _ rfl) ?_
                      simp only [Act.put, lzA, lzB, lzC]
                      with_reducible refine wl_yield (o := ⟨_, _, _, _, _, _⟩) undef (yl_undef (by kernel_rfl)) ?_
                      simp only [Act.put, lzA, lzB, lzC]
                      with_reducible refine wl_yield (o := ⟨_, _, _, _, _, _⟩) undef (yl_undef (by kernel_rfl)) ?_
                      simp only [Act.put, lzA, lzB, lzC]
                      with_reducible refine wl_yield (o := ⟨_, _, _, _, _, _⟩) undef (yl_undef (by kernel_rfl)) ?_
                      simp only [Act.put, lzA, lzB, lzC]
                      refine wl_yield (o := ⟨_, _, _, _, _, _⟩) (.bool false) (yl_pickF (by rfl) _ _ _ rfl rfl _ rfl) ?_
                      simp only [Act.put, lzA, lzB, lzC]
                      refine wl_yield (o := ⟨_, _, _, _, _, _⟩) (.bool false) (yl_move (by rfl) _ rfl _ rfl) ?_
                      simp only [Act.put, lzA, lzB, lzC]
                      refine wl_yield (o := ⟨_, _, _, _, _, _⟩) (.pointer (some ⟨g1, 0, none⟩)) (yt_fVa0 (by rfl) _ rfl g1 0 rfl) ?_
                      simp only [Act.put, lzA, lzB, lzC]
                      refine wl_yield (o := ⟨_, _, _, _, _, _⟩) (.int .i64 1) (yt_ldI (by rfl) _ rfl _ _ rfl 1 (fun _ h => by subst h; exact cell_heap G1 0)) ?_
                      simp only [Act.put, lzA, lzB, lzC]
                      refine wl_yield (o := ⟨_, _, _, _, _, _⟩) (.bool true) (yt_eqlI (by rfl) _ _ _ rfl 1 1 true rfl rfl (by decide)) ?_
                      simp only [Act.put, lzA, lzB, lzC]
                      refine wl_yield (o := ⟨_, _, _, _, _, _⟩) (.bool true) (yl_move (by rfl) _ rfl _ rfl) ?_
                      simp only [Act.put, lzA, lzB, lzC]
                      refine wl_yield (o := ⟨_, _, _, _, _, _⟩) (.pointer (some ⟨g1, 2, none⟩)) (yt_fVa2 (by rfl) _ rfl g1 0 rfl) ?_
                      simp only [Act.put, lzA, lzB, lzC]
                      refine wl_yield (o := ⟨_, _, _, _, _, _⟩) (.string (bs sl)) (yt_ldS (by rfl) _ rfl _ _ rfl (bs sl) (fun _ h => by subst h; exact cell_heap G1 2)) ?_
                      simp only [Act.put, lzA, lzB, lzC]
                      refine wl_yield (o := ⟨_, _, _, _, _, _⟩) (.bool true) (yt_eqS (by rfl) _ _ _ rfl sl ([]) true rfl rfl (beq_nil_t hs0)) ?_
                      simp only [Act.put, lzA, lzB, lzC]
                      refine wl_yield (o := ⟨_, _, _, _, _, _⟩) (.bool true) (yl_pickT (by rfl) _ _ _ rfl rfl _ rfl) ?_
                      simp only [Act.put, lzA, lzB, lzC]
                      refine wl_yield (o := ⟨_, _, _, _, _, _⟩) (.bool true) (yl_pickF (by rfl) _ _ _ rfl rfl _ rfl) ?_
                      simp only [Act.put, lzA, lzB, lzC]
                      refine wl_yield (o := ⟨_, _, _, _, _, _⟩) (.bool true) (yl_move (by rfl) _ rfl _ rfl) ?_
                      simp only [Act.put, lzA, lzB, lzC]
                      with_reducible refine wl_yield (o := ⟨_, _, _, _, _, _⟩) undef (yl_undef (by kernel_rfl)) ?_
                      simp only [Act.put, lzA, lzB, lzC]
                      with_reducible refine wl_yield (o := ⟨_, _, _, _, _, _⟩) undef (yl_undef (by kernel_rfl)) ?_
                      simp only [Act.put, lzA, lzB, lzC]
                      with_reducible refine wl_yield (o := ⟨_, _, _, _, _, _⟩) undef (yl_undef (by kernel_rfl)) ?_
                      simp only [Act.put, lzA, lzB, lzC]
                      with_reducible refine wl_yield (o := ⟨_, _, _, _, _, _⟩) undef (yl_undef (by kernel_rfl)) ?_
                      simp only [Act.put, lzA, lzB, lzC]
                      with_reducible refine wl_yield (o := ⟨_, _, _, _, _, _⟩) undef (yl_undef (by kernel_rfl)) ?_
                      simp only [Act.put, lzA, lzB, lzC]
                      with_reducible refine wl_yield (o := ⟨_, _, _, _, _, _⟩) undef (yl_undef (by kernel_rfl)) ?_
                      simp only [Act.put, lzA, lzB, lzC]
                      with_reducible refine wl_yield (o := ⟨_, _, _, _, _, _⟩) undef (yl_undef (by kernel_rfl)) ?_
                      simp only [Act.put, lzA, lzB, lzC]
                      with_reducible refine wl_yield (o := ⟨_, _, _, _, _, _⟩) undef (yl_undef (by kernel_rfl)) ?_
                      simp only [Act.put, lzA, lzB, lzC]
                      with_reducible refine wl_yield (o := ⟨_, _, _, _, _, _⟩) undef (yl_undef (by kernel_rfl)) ?_
                      simp only [Act.put, lzA, lzB, lzC]
                      with_reducible refine wl_yield (o := ⟨_, _, _, _, _, _⟩) undef (yl_undef (by kernel_rfl)) ?_
                      simp only [Act.put, lzA, lzB, lzC]
                      with_reducible refine wl_yield (o := ⟨_, _, _, _, _, _⟩) undef (yl_undef (by kernel_rfl)) ?_
                      simp only [Act.put, lzA, lzB, lzC]
                      with_reducible refine wl_yield (o := ⟨_, _, _, _, _, _⟩) undef (yl_undef (by kernel_rfl)) ?_
                      simp only [Act.put, lzA, lzB, lzC]
                      with_reducible refine wl_yield (o := ⟨_, _, _, _, _, _⟩) undef (yl_undef (by kernel_rfl)) ?_
                      simp only [Act.put, lzA, lzB, lzC]
                      with_reducible refine wl_yield (o := ⟨_, _, _, _, _, _⟩) undef (yl_undef (by kernel_rfl)) ?_
                      simp only [Act.put, lzA, lzB, lzC]
                      refine wl_yield (o := ⟨_, _, _, _, _, _⟩) (.bool true) (yl_pickT (by rfl) _ _ _ rfl rfl _ rfl) ?_
                      simp only [Act.put, lzA, lzB, lzC]
                      refine wl_yield (o := ⟨_, _, _, _, _, _⟩) (.bool true) (yl_assign (by rfl) _ rfl _ rfl) ?_
                      simp only [Act.put, lzA, lzB, lzC]
                      refine wpList_nil ?_
                      refine hK10 _ _ ?_
                      clear hK10 K10
                      refine wp_seq_k (fun K11 hK11 => ?_)
                      refine wp_region_lit ?_
                      refine wl_yield (o := ⟨_, _, _, _, _, _⟩) (.int .i64 1) (yl_move (by rfl) _ rfl _ rfl) ?_
                      simp only [Act.put, lzA, lzB, lzC]
                      refine wl_yield (o := ⟨_, _, _, _, _, _⟩) (.bool true) (yt_eqlI (by rfl) _ _ _ rfl 1 1 true rfl rfl (by decide)) ?_
                      simp only [Act.put, lzA, lzB, lzC]
                      refine wl_yield (o := ⟨_, _, _, _, _, _⟩) (.bool true) (yl_move (by rfl) _ rfl _ rfl) ?_
                      simp only [Act.put, lzA, lzB, lzC]
                      refine wl_yield (o := ⟨_, _, _, _, _, _⟩) (.bool true) (yl_eqB (by rfl) _ _ _ rfl true true rfl rfl) ?_
                      simp only [Act.put, lzA, lzB, lzC]
                      refine wl_yield (o := ⟨_, _, _, _, _, _⟩) (.bool true) (yl_move (by rfl) _ rfl _ rfl) ?_
                      simp only [Act.put, lzA, lzB, lzC]
                      refine wl_yield (o := ⟨_, _, _, _, _, _⟩) (.int .i64 1) (yl_move (by rfl) _ rfl _ rfl) ?_
                      simp only [Act.put, lzA, lzB, lzC]
                      refine wl_yield (o := ⟨_, _, _, _, _, _⟩) (.bool true) (yt_leqI (by rfl) _ _ _ rfl 1 1 true rfl rfl (by decide)) ?_
                      simp only [Act.put, lzA, lzB, lzC]
                      refine wl_yield (o := ⟨_, _, _, _, _, _⟩) (.bool true) (yl_pickT (by rfl) _ _ _ rfl rfl _ rfl) ?_
                      simp only [Act.put, lzA, lzB, lzC]
                      refine wl_yield (o := ⟨_, _, _, _, _, _⟩) (.bool true) (yl_move (by rfl) _ rfl _ rfl) ?_
                      simp only [Act.put, lzA, lzB, lzC]
                      refine wl_yield (o := ⟨_, _, _, _, _, _⟩) (.slice a5 C.length cap5) (yl_move (by rfl) _ rfl _ rfl) ?_
                      simp only [Act.put, lzA, lzB, lzC]
                      refine wl_yield (o := ⟨_, _, _, _, _, _⟩) (.agg #[.int .i64 1, .int .i64 nn, .string (bs sl)]) (yl_val (by rfl) _ rfl _ 0 rfl _ _ _ (fun _ h => by subst h; exact ⟨cell_heap G1 0, cell_heap G1 1, cell_heap G1 2⟩)) ?_
                      simp only [Act.put, lzA, lzB, lzC]
                      refine wt_call (o := ⟨_, _, _, _, _, _⟩) (by rfl) 27 _ _ rfl #[.slice a5 C.length cap5, .agg #[.int .i64 1, .int .i64 nn, .string (bs sl)]] rfl (run_call Tryz.func27 (by kernel_rfl) (by kernel_rfl)) ?_
                      refine (which_any _ C (1, nn, bs sl) _ (HS.on (below_none D2)) hfit hs).mono ?_
                      rintro r v7 (⟨rfl, kb⟩)
                      · replace D := grown_below D kb
                        replace HE := HE.on kb
                        replace G1 := heap_on G1 kb
                        replace D2 := grown_below D2 kb
                        clear kb
                        refine Or.inl ⟨.int .i64 ((J : Int)), ret_int hwi, ?_⟩
                        simp only [Act.put, lzA, lzB, lzC]
                        refine wl_yield (o := ⟨_, _, _, _, _, _⟩) (.int .i64 ((J : Int))) (yl_move (by rfl) _ rfl _ rfl) ?_
                        simp only [Act.put, lzA, lzB, lzC]
                        refine wl_yield (o := ⟨_, _, _, _, _, _⟩) (.bool true) (yt_eqlI (by rfl) _ _ _ rfl (J : Int) (J : Int) true rfl rfl (decide_eq_true rfl)) ?_
                        simp only [Act.put, lzA, lzB, lzC]
                        refine wl_yield (o := ⟨_, _, _, _, _, _⟩) (.bool true) (yl_pickT (by rfl) _ _ _ rfl rfl _ rfl) ?_
                        simp only [Act.put, lzA, lzB, lzC]
                        refine wl_yield (o := ⟨_, _, _, _, _, _⟩) (.bool true) (yl_assign (by rfl) _ rfl _ rfl) ?_
                        simp only [Act.put, lzA, lzB, lzC]
                        refine wpList_nil ?_
                        refine hK11 _ _ ?_
                        clear hK11 K11
                        refine wp_ret ?_
                        try simp only [Exit.inBlock, Exit.then]
                        go_ret
                        exact ⟨rfl, below_none D⟩
                    · have hJ2 := hww (by simp [hs0])
                      rw [if_neg hJ2] at hnv hav hwi
                      subst hnv hav
                      refine wp_region_lit ?_
                      refine wl_yield (o := ⟨_, _, _, _, _, _⟩) (.pointer (some ⟨g1, 0, none⟩)) (yt_fVa0 (by rfl) _ rfl g1 0 rfl) ?_
                      simp only [Act.put, lzA, lzB, lzC]
                      refine wl_yield (o := ⟨_, _, _, _, _, _⟩) (.int .i64 1) (yt_ldI (by rfl) _ rfl _ _ rfl 1 (fun _ h => by subst h; exact cell_heap G1 0)) ?_
                      simp only [Act.put, lzA, lzB, lzC]
                      refine wl_yield (o := ⟨_, _, _, _, _, _⟩) (.bool false) (yt_eqlI (by rfl) _ _ _ rfl 1 0 false rfl rfl (by decide)) ?_
                      simp only [Act.put, lzA, lzB, lzC]
                      refine wl_yield (o := ⟨_, _, _, _, _, _⟩) (.bool false) (yl_move (by rfl) _ rfl _ rfl) ?_
                      simp only [Act.put, lzA, lzB, lzC]
                      with_reducible refine wl_yield (o := ⟨_, _, _, _, _, _⟩) undef (yl_undef (by kernel_rfl)) ?_
                      simp only [Act.put, lzA, lzB, lzC]
                      with_reducible refine wl_yield (o := ⟨_, _, _, _, _, _⟩) undef (yl_undef (by kernel_rfl)) ?_
                      simp only [Act.put, lzA, lzB, lzC]
                      with_reducible refine wl_yield (o := ⟨_, _, _, _, _, _⟩) undef (yl_undef (by kernel_rfl)) ?_
                      simp only [Act.put, lzA, lzB, lzC]
                      refine wl_yield (o := ⟨_, _, _, _, _, _⟩) (.bool false) (yl_pickF (by rfl) _ _ _ rfl rfl _ rfl) ?_
                      simp only [Act.put, lzA, lzB, lzC]
                      refine wl_yield (o := ⟨_, _, _, _, _, _⟩) (.bool false) (yl_move (by rfl) _ rfl _ rfl) ?_
                      simp only [Act.put, lzA, lzB, lzC]
                      with_reducible refine wl_yield (o := ⟨_, _, _, _, _, _⟩) undef (yl_undef (by kernel_rfl)) ?_
                      simp only [Act.put, lzA, lzB, lzC]
                      with_reducible refine wl_yield (o := ⟨_, _, _, _, _, _⟩) undef (yl_undef (by kernel_rfl)) ?_
                      simp only [Act.put, lzA, lzB, lzC]
                      with_reducible refine wl_yield (o := ⟨_, _, _, _, _, _⟩) undef (yl_undef (by kernel_rfl)) ?_
                      simp only [Act.put, lzA, lzB, lzC]
                      refine wl_yield (o := ⟨_, _, _, _, _, _⟩) (.bool false) (yl_pickF (by rfl) _ _ _ rfl rfl _ rfl) ?_
                      simp only [Act.put, lzA, lzB, lzC]
                      refine wl_yield (o := ⟨_, _, _, _, _, _⟩) (.bool false) (yl_move (by rfl) _ rfl _ rfl) ?_
                      simp only [Act.put, lzA, lzB, lzC]
                      refine wl_yield (o := ⟨_, _, _, _, _, _⟩) (.pointer (some ⟨g1, 0, none⟩)) (yt_fVa0 (by rfl) _ rfl g1 0 rfl) ?_
                      simp only [Act.put, lzA, lzB, lzC]
                      refine wl_yield (o := ⟨_, _, _, _, _, _⟩) (.int .i64 1) (yt_ldI (by rfl) _ rfl _ _ rfl 1 (fun _ h => by subst h; exact cell_heap G1 0)) ?_
                      simp only [Act.put, lzA, lzB, lzC]
                      refine wl_yield (o := ⟨_, _, _, _, _, _⟩) (.bool true) (yt_eqlI (by rfl) _ _ _ rfl 1 1 true rfl rfl (by decide)) ?_
                      simp only [Act.put, lzA, lzB, lzC]
                      refine wl_yield (o := ⟨_, _, _, _, _, _⟩) (.bool true) (yl_move (by rfl) _ rfl _ rfl) ?_
                      simp only [Act.put, lzA, lzB, lzC]
                      refine wl_yield (o := ⟨_, _, _, _, _, _⟩) (.pointer (some ⟨g1, 2, none⟩)) (yt_fVa2 (by rfl) _ rfl g1 0 rfl) ?_
                      simp only [Act.put, lzA, lzB, lzC]
                      refine wl_yield (o := ⟨_, _, _, _, _, _⟩) (.string (bs sl)) (yt_ldS (by rfl) _ rfl _ _ rfl (bs sl) (fun _ h => by subst h; exact cell_heap G1 2)) ?_
                      simp only [Act.put, lzA, lzB, lzC]
                      refine wl_yield (o := ⟨_, _, _, _, _, _⟩) (.bool false) (yt_eqS (by rfl) _ _ _ rfl sl ([]) false rfl rfl (beq_nil_f hs0)) ?_
                      simp only [Act.put, lzA, lzB, lzC]
                      refine wl_yield (o := ⟨_, _, _, _, _, _⟩) (.bool false) (yl_pickT (by rfl) _ _ _ rfl rfl _ rfl) ?_
                      simp only [Act.put, lzA, lzB, lzC]
                      refine wl_yield (o := ⟨_, _, _, _, _, _⟩) (.bool false) (yl_pickF (by rfl) _ _ _ rfl rfl _ rfl) ?_
                      simp only [Act.put, lzA, lzB, lzC]
                      refine wl_yield (o := ⟨_, _, _, _, _, _⟩) (.bool false) (yl_move (by rfl) _ rfl _ rfl) ?_
                      simp only [Act.put, lzA, lzB, lzC]
                      refine wl_yield (o := ⟨_, _, _, _, _, _⟩) (.pointer (some ⟨g1, 0, none⟩)) (yt_fVa0 (by rfl) _ rfl g1 0 rfl) ?_
                      simp only [Act.put, lzA, lzB, lzC]
                      refine wl_yield (o := ⟨_, _, _, _, _, _⟩) (.int .i64 1) (yt_ldI (by rfl) _ rfl _ _ rfl 1 (fun _ h => by subst h; exact cell_heap G1 0)) ?_
                      simp only [Act.put, lzA, lzB, lzC]
                      refine wl_yield (o := ⟨_, _, _, _, _, _⟩) (.bool false) (yt_eqlI (by rfl) _ _ _ rfl 1 2 false rfl rfl (by decide)) ?_
                      simp only [Act.put, lzA, lzB, lzC]
                      refine wl_yield (o := ⟨_, _, _, _, _, _⟩) (.bool false) (yl_move (by rfl) _ rfl _ rfl) ?_
                      simp only [Act.put, lzA, lzB, lzC]
                      with_reducible refine wl_yield (o := ⟨_, _, _, _, _, _⟩) undef (yl_undef (by kernel_rfl)) ?_
                      simp only [Act.put, lzA, lzB, lzC]
                      with_reducible refine wl_yield (o := ⟨_, _, _, _, _, _⟩) undef (yl_undef (by kernel_rfl)) ?_
                      simp only [Act.put, lzA, lzB, lzC]
                      with_reducible refine wl_yield (o := ⟨_, _, _, _, _, _⟩) undef (yl_undef (by kernel_rfl)) ?_
                      simp only [Act.put, lzA, lzB, lzC]
                      refine wl_yield (o := ⟨_, _, _, _, _, _⟩) (.bool false) (yl_pickF (by rfl) _ _ _ rfl rfl _ rfl) ?_
                      simp only [Act.put, lzA, lzB, lzC]
                      refine wl_yield (o := ⟨_, _, _, _, _, _⟩) (.bool false) (yl_move (by rfl) _ rfl _ rfl) ?_
                      simp only [Act.put, lzA, lzB, lzC]
                      with_reducible refine wl_yield (o := ⟨_, _, _, _, _, _⟩) undef (yl_undef (by kernel_rfl)) ?_
                      simp only [Act.put, lzA, lzB, lzC]
                      with_reducible refine wl_yield (o := ⟨_, _, _, _, _, _⟩) undef (yl_undef (by kernel_rfl)) ?_
                      simp only [Act.put, lzA, lzB, lzC]
                      with_reducible refine wl_yield (o := ⟨_, _, _, _, _, _⟩) undef (yl_undef (by kernel_rfl)) ?_
                      simp only [Act.put, lzA, lzB, lzC]
                      with_reducible refine wl_yield (o := ⟨_, _, _, _, _, _⟩) undef (yl_undef (by kernel_rfl)) ?_
                      simp only [Act.put, lzA, lzB, lzC]
                      refine wl_yield (o := ⟨_, _, _, _, _, _⟩) (.bool false) (yl_pickF (by rfl) _ _ _ rfl rfl _ rfl) ?_
                      simp only [Act.put, lzA, lzB, lzC]
                      refine wl_yield (o := ⟨_, _, _, _, _, _⟩) (.bool false) (yl_pickF (by rfl) _ _ _ rfl rfl _ rfl) ?_
                      simp only [Act.put, lzA, lzB, lzC]
                      refine wl_yield (o := ⟨_, _, _, _, _, _⟩) (.bool false) (yl_assign (by rfl) _ rfl _ rfl) ?_
                      simp only [Act.put, lzA, lzB, lzC]
                      refine wpList_nil ?_
                      refine hK10 _ _ ?_
                      clear hK10 K10
                      refine wp_seq_k (fun K11 hK11 => ?_)
                      refine wp_region_lit ?_
                      refine wl_yield (o := ⟨_, _, _, _, _, _⟩) (.int .i64 0) (yl_move (by rfl) _ rfl _ rfl) ?_
                      simp only [Act.put, lzA, lzB, lzC]
                      refine wl_yield (o := ⟨_, _, _, _, _, _⟩) (.bool false) (yt_eqlI (by rfl) _ _ _ rfl 0 1 false rfl rfl (by decide)) ?_
                      simp only [Act.put, lzA, lzB, lzC]
                      refine wl_yield (o := ⟨_, _, _, _, _, _⟩) (.bool false) (yl_move (by rfl) _ rfl _ rfl) ?_
                      simp only [Act.put, lzA, lzB, lzC]
                      refine wl_yield (o := ⟨_, _, _, _, _, _⟩) (.bool true) (yl_eqB (by rfl) _ _ _ rfl false false rfl rfl) ?_
                      simp only [Act.put, lzA, lzB, lzC]
                      refine wl_yield (o := ⟨_, _, _, _, _, _⟩) (.bool true) (yl_move (by rfl) _ rfl _ rfl) ?_
                      simp only [Act.put, lzA, lzB, lzC]
                      refine wl_yield (o := ⟨_, _, _, _, _, _⟩) (.int .i64 0) (yl_move (by rfl) _ rfl _ rfl) ?_
                      simp only [Act.put, lzA, lzB, lzC]
                      refine wl_yield (o := ⟨_, _, _, _, _, _⟩) (.bool true) (yt_leqI (by rfl) _ _ _ rfl 0 1 true rfl rfl (by decide)) ?_
                      simp only [Act.put, lzA, lzB, lzC]
                      refine wl_yield (o := ⟨_, _, _, _, _, _⟩) (.bool true) (yl_pickT (by rfl) _ _ _ rfl rfl _ rfl) ?_
                      simp only [Act.put, lzA, lzB, lzC]
                      refine wl_yield (o := ⟨_, _, _, _, _, _⟩) (.bool true) (yl_move (by rfl) _ rfl _ rfl) ?_
                      simp only [Act.put, lzA, lzB, lzC]
                      refine wl_yield (o := ⟨_, _, _, _, _, _⟩) (.slice a5 C.length cap5) (yl_move (by rfl) _ rfl _ rfl) ?_
                      simp only [Act.put, lzA, lzB, lzC]
                      refine wl_yield (o := ⟨_, _, _, _, _, _⟩) (.agg #[.int .i64 1, .int .i64 nn, .string (bs sl)]) (yl_val (by rfl) _ rfl _ 0 rfl _ _ _ (fun _ h => by subst h; exact ⟨cell_heap G1 0, cell_heap G1 1, cell_heap G1 2⟩)) ?_
                      simp only [Act.put, lzA, lzB, lzC]
                      refine wt_call (o := ⟨_, _, _, _, _, _⟩) (by rfl) 27 _ _ rfl #[.slice a5 C.length cap5, .agg #[.int .i64 1, .int .i64 nn, .string (bs sl)]] rfl (run_call Tryz.func27 (by kernel_rfl) (by kernel_rfl)) ?_
                      refine (which_any _ C (1, nn, bs sl) _ (HS.on (below_none D2)) hfit hs).mono ?_
                      rintro r v7 (⟨rfl, kb⟩)
                      · replace D := grown_below D kb
                        replace HE := HE.on kb
                        replace G1 := heap_on G1 kb
                        replace D2 := grown_below D2 kb
                        clear kb
                        refine Or.inl ⟨.int .i64 (-1), ret_int hwi, ?_⟩
                        simp only [Act.put, lzA, lzB, lzC]
                        refine wl_yield (o := ⟨_, _, _, _, _, _⟩) (.int .i64 (-1)) (yl_move (by rfl) _ rfl _ rfl) ?_
                        simp only [Act.put, lzA, lzB, lzC]
                        refine wl_yield (o := ⟨_, _, _, _, _, _⟩) (.bool true) (yt_eqlI (by rfl) _ _ _ rfl (-1) (-1) true rfl rfl (by decide)) ?_
                        simp only [Act.put, lzA, lzB, lzC]
                        refine wl_yield (o := ⟨_, _, _, _, _, _⟩) (.bool true) (yl_pickT (by rfl) _ _ _ rfl rfl _ rfl) ?_
                        simp only [Act.put, lzA, lzB, lzC]
                        refine wl_yield (o := ⟨_, _, _, _, _, _⟩) (.bool true) (yl_assign (by rfl) _ rfl _ rfl) ?_
                        simp only [Act.put, lzA, lzB, lzC]
                        refine wpList_nil ?_
                        refine hK11 _ _ ?_
                        clear hK11 K11
                        refine wp_ret ?_
                        try simp only [Exit.inBlock, Exit.then]
                        go_ret
                        exact ⟨rfl, below_none D⟩
                  · by_cases hkz2 : kk = 2
                    · subst hkz2
                      by_cases hn0 : nn = 0
                      · by_cases hl8 : sl.length ≤ 8
                        · have hJ2 := hwr (by simp [hn0]; omega)
                          rw [if_pos hJ2] at hnv hav hwi
                          subst hnv hav
                          refine wp_region_lit ?_
                          refine wl_yield (o := ⟨_, _, _, _, _, _⟩) (.pointer (some ⟨g1, 0, none⟩)) (yt_fVa0 (by rfl) _ rfl g1 0 rfl) ?_
                          simp only [Act.put, lzA, lzB, lzC]
                          refine wl_yield (o := ⟨_, _, _, _, _, _⟩) (.int .i64 2) (yt_ldI (by rfl) _ rfl _ _ rfl 2 (fun _ h => by subst h; exact cell_heap G1 0)) ?_
                          simp only [Act.put, lzA, lzB, lzC]
                          refine wl_yield (o := ⟨_, _, _, _, _, _⟩) (.bool false) (yt_eqlI (by rfl) _ _ _ rfl 2 0 false rfl rfl (by decide)) ?_
                          simp only [Act.put, lzA, lzB, lzC]
                          refine wl_yield (o := ⟨_, _, _, _, _, _⟩) (.bool false) (yl_move (by rfl) _ rfl _ rfl) ?_
                          simp only [Act.put, lzA, lzB, lzC]
                          with_reducible refine wl_yield (o := ⟨_, _, _, _, _, _⟩) undef (yl_undef (by kernel_rfl)) ?_
                          simp only [Act.put, lzA, lzB, lzC]
                          with_reducible refine wl_yield (o := ⟨_, _, _, _, _, _⟩) undef (yl_undef (by kernel_rfl)) ?_
                          simp only [Act.put, lzA, lzB, lzC]
                          with_reducible refine wl_yield (o := ⟨_, _, _, _, _, _⟩) undef (yl_undef (by kernel_rfl)) ?_
                          simp only [Act.put, lzA, lzB, lzC]
                          refine wl_yield (o := ⟨_, _, _, _, _, _⟩) (.bool false) (yl_pickF (by rfl) _ _ _ rfl rfl _ rfl) ?_
                          simp only [Act.put, lzA, lzB, lzC]
                          refine wl_yield (o := ⟨_, _, _, _, _, _⟩) (.bool false) (yl_move (by rfl) _ rfl _ rfl) ?_
                          simp only [Act.put, lzA, lzB, lzC]
                          with_reducible refine wl_yield (o := ⟨_, _, _, _, _, _⟩) undef (yl_undef (by kernel_rfl)) ?_
                          simp only [Act.put, lzA, lzB, lzC]
                          with_reducible refine wl_yield (o := ⟨_, _, _, _, _, _⟩) undef (yl_undef (by kernel_rfl)) ?_
                          simp only [Act.put, lzA, lzB, lzC]
                          with_reducible refine wl_yield (o := ⟨_, _, _, _, _, _⟩) undef (yl_undef (by kernel_rfl)) ?_
                          simp only [Act.put, lzA, lzB, lzC]
                          refine wl_yield (o := ⟨_, _, _, _, _, _⟩) (.bool false) (yl_pickF (by rfl) _ _ _ rfl rfl _ rfl) ?_
                          simp only [Act.put, lzA, lzB, lzC]
                          refine wl_yield (o := ⟨_, _, _, _, _, _⟩) (.bool false) (yl_move (by rfl) _ rfl _ rfl) ?_
                          simp only [Act.put, lzA, lzB, lzC]
                          refine wl_yield (o := ⟨_, _, _, _, _, _⟩) (.pointer (some ⟨g1, 0, none⟩)) (yt_fVa0 (by rfl) _ rfl g1 0 rfl) ?_
                          simp only [Act.put, lzA, lzB, lzC]
                          refine wl_yield (o := ⟨_, _, _, _, _, _⟩) (.int .i64 2) (yt_ldI (by rfl) _ rfl _ _ rfl 2 (fun _ h => by subst h; exact cell_heap G1 0)) ?_
                          simp only [Act.put, lzA, lzB, lzC]
                          refine wl_yield (o := ⟨_, _, _, _, _, _⟩) (.bool false) (yt_eqlI (by rfl) _ _ _ rfl 2 1 false rfl rfl (by decide)) ?_
                          simp only [Act.put, lzA, lzB, lzC]
                          refine wl_yield (o := ⟨_, _, _, _, _, _⟩) (.bool false) (yl_move (by rfl) _ rfl _ rfl) ?_
                          simp only [Act.put, lzA, lzB, lzC]
                          with_reducible refine wl_yield (o := ⟨_, _, _, _, _, _⟩) undef (yl_undef (by kernel_rfl)) ?_
                          simp only [Act.put, lzA, lzB, lzC]
                          with_reducible refine wl_yield (o := ⟨_, _, _, _, _, _⟩) undef (yl_undef (by kernel_rfl)) ?_
                          simp only [Act.put, lzA, lzB, lzC]
                          with_reducible refine wl_yield (o := ⟨_, _, _, _, _, _⟩) undef (yl_undef (by kernel_rfl)) ?_
                          simp only [Act.put, lzA, lzB, lzC]
                          refine wl_yield (o := ⟨_, _, _, _, _, _⟩) (.bool false) (yl_pickF (by rfl) _ _ _ rfl rfl _ rfl) ?_
                          simp only [Act.put, lzA, lzB, lzC]
                          refine wl_yield (o := ⟨_, _, _, _, _, _⟩) (.bool false) (yl_pickF (by rfl) _ _ _ rfl rfl _ rfl) ?_
                          simp only [Act.put, lzA, lzB, lzC]
                          refine wl_yield (o := ⟨_, _, _, _, _, _⟩) (.bool false) (yl_move (by rfl) _ rfl _ rfl) ?_
                          simp only [Act.put, lzA, lzB, lzC]
                          refine wl_yield (o := ⟨_, _, _, _, _, _⟩) (.pointer (some ⟨g1, 0, none⟩)) (yt_fVa0 (by rfl) _ rfl g1 0 rfl) ?_
                          simp only [Act.put, lzA, lzB, lzC]
                          refine wl_yield (o := ⟨_, _, _, _, _, _⟩) (.int .i64 2) (yt_ldI (by rfl) _ rfl _ _ rfl 2 (fun _ h => by subst h; exact cell_heap G1 0)) ?_
                          simp only [Act.put, lzA, lzB, lzC]
                          refine wl_yield (o := ⟨_, _, _, _, _, _⟩) (.bool true) (yt_eqlI (by rfl) _ _ _ rfl 2 2 true rfl rfl (by decide)) ?_
                          simp only [Act.put, lzA, lzB, lzC]
                          refine wl_yield (o := ⟨_, _, _, _, _, _⟩) (.bool true) (yl_move (by rfl) _ rfl _ rfl) ?_
                          simp only [Act.put, lzA, lzB, lzC]
                          refine wl_yield (o := ⟨_, _, _, _, _, _⟩) (.pointer (some ⟨g1, 1, none⟩)) (yt_fVa1 (by rfl) _ rfl g1 0 rfl) ?_
                          simp only [Act.put, lzA, lzB, lzC]
                          refine wl_yield (o := ⟨_, _, _, _, _, _⟩) (.int .i64 nn) (yt_ldI (by rfl) _ rfl _ _ rfl nn (fun _ h => by subst h; exact cell_heap G1 1)) ?_
                          simp only [Act.put, lzA, lzB, lzC]
                          refine wl_yield (o := ⟨_, _, _, _, _, _⟩) (.bool true) (yt_eqlI (by rfl) _ _ _ rfl nn 0 true rfl rfl (decide_eq_true hn0)) ?_
                          simp only [Act.put, lzA, lzB, lzC]
                          refine wl_yield (o := ⟨_, _, _, _, _, _⟩) (.bool true) (yl_pickT (by rfl) _ _ _ rfl rfl _ rfl) ?_
                          simp only [Act.put, lzA, lzB, lzC]
                          refine wl_yield (o := ⟨_, _, _, _, _, _⟩) (.bool true) (yl_move (by rfl) _ rfl _ rfl) ?_
                          simp only [Act.put, lzA, lzB, lzC]
                          refine wl_yield (o := ⟨_, _, _, _, _, _⟩) (.pointer (some ⟨g1, 2, none⟩)) (yt_fVa2 (by rfl) _ rfl g1 0 rfl) ?_
                          simp only [Act.put, lzA, lzB, lzC]
                          refine wl_yield (o := ⟨_, _, _, _, _, _⟩) (.string (bs sl)) (yt_ldS (by rfl) _ rfl _ _ rfl (bs sl) (fun _ h => by subst h; exact cell_heap G1 2)) ?_
                          simp only [Act.put, lzA, lzB, lzC]
                          refine wl_yield (o := ⟨_, _, _, _, _, _⟩) (.int .i64 (sl.length : Nat)) (yt_lenS (by rfl) _ rfl sl rfl) ?_
                          simp only [Act.put, lzA, lzB, lzC]
                          refine wl_yield (o := ⟨_, _, _, _, _, _⟩) (.bool true) (yt_leqI (by rfl) _ _ _ rfl ((sl.length : Nat) : Int) 8 true rfl rfl (decide_eq_true (by omega))) ?_
                          simp only [Act.put, lzA, lzB, lzC]
                          refine wl_yield (o := ⟨_, _, _, _, _, _⟩) (.bool true) (yl_pickT (by rfl) _ _ _ rfl rfl _ rfl) ?_
                          simp only [Act.put, lzA, lzB, lzC]
                          refine wl_yield (o := ⟨_, _, _, _, _, _⟩) (.bool true) (yl_pickF (by rfl) _ _ _ rfl rfl _ rfl) ?_
                          simp only [Act.put, lzA, lzB, lzC]
                          refine wl_yield (o := ⟨_, _, _, _, _, _⟩) (.bool true) (yl_assign (by rfl) _ rfl _ rfl) ?_
                          simp only [Act.put, lzA, lzB, lzC]
                          refine wpList_nil ?_
                          refine hK10 _ _ ?_
                          clear hK10 K10
                          refine wp_seq_k (fun K11 hK11 => ?_)
                          refine wp_region_lit ?_
                          refine wl_yield (o := ⟨_, _, _, _, _, _⟩) (.int .i64 1) (yl_move (by rfl) _ rfl _ rfl) ?_
                          simp only [Act.put, lzA, lzB, lzC]
                          refine wl_yield (o := ⟨_, _, _, _, _, _⟩) (.bool true) (yt_eqlI (by rfl) _ _ _ rfl 1 1 true rfl rfl (by decide)) ?_
                          simp only [Act.put, lzA, lzB, lzC]
                          refine wl_yield (o := ⟨_, _, _, _, _, _⟩) (.bool true) (yl_move (by rfl) _ rfl _ rfl) ?_
                          simp only [Act.put, lzA, lzB, lzC]
                          refine wl_yield (o := ⟨_, _, _, _, _, _⟩) (.bool true) (yl_eqB (by rfl) _ _ _ rfl true true rfl rfl) ?_
                          simp only [Act.put, lzA, lzB, lzC]
                          refine wl_yield (o := ⟨_, _, _, _, _, _⟩) (.bool true) (yl_move (by rfl) _ rfl _ rfl) ?_
                          simp only [Act.put, lzA, lzB, lzC]
                          refine wl_yield (o := ⟨_, _, _, _, _, _⟩) (.int .i64 1) (yl_move (by rfl) _ rfl _ rfl) ?_
                          simp only [Act.put, lzA, lzB, lzC]
                          refine wl_yield (o := ⟨_, _, _, _, _, _⟩) (.bool true) (yt_leqI (by rfl) _ _ _ rfl 1 1 true rfl rfl (by decide)) ?_
                          simp only [Act.put, lzA, lzB, lzC]
                          refine wl_yield (o := ⟨_, _, _, _, _, _⟩) (.bool true) (yl_pickT (by rfl) _ _ _ rfl rfl _ rfl) ?_
                          simp only [Act.put, lzA, lzB, lzC]
                          refine wl_yield (o := ⟨_, _, _, _, _, _⟩) (.bool true) (yl_move (by rfl) _ rfl _ rfl) ?_
                          simp only [Act.put, lzA, lzB, lzC]
                          refine wl_yield (o := ⟨_, _, _, _, _, _⟩) (.slice a5 C.length cap5) (yl_move (by rfl) _ rfl _ rfl) ?_
                          simp only [Act.put, lzA, lzB, lzC]
                          refine wl_yield (o := ⟨_, _, _, _, _, _⟩) (.agg #[.int .i64 2, .int .i64 nn, .string (bs sl)]) (yl_val (by rfl) _ rfl _ 0 rfl _ _ _ (fun _ h => by subst h; exact ⟨cell_heap G1 0, cell_heap G1 1, cell_heap G1 2⟩)) ?_
                          simp only [Act.put, lzA, lzB, lzC]
                          refine wt_call (o := ⟨_, _, _, _, _, _⟩) (by rfl) 27 _ _ rfl #[.slice a5 C.length cap5, .agg #[.int .i64 2, .int .i64 nn, .string (bs sl)]] rfl (run_call Tryz.func27 (by kernel_rfl) (by kernel_rfl)) ?_
                          refine (which_any _ C (2, nn, bs sl) _ (HS.on (below_none D2)) hfit hs).mono ?_
                          rintro r v7 (⟨rfl, kb⟩)
                          · replace D := grown_below D kb
                            replace HE := HE.on kb
                            replace G1 := heap_on G1 kb
                            replace D2 := grown_below D2 kb
                            clear kb
                            refine Or.inl ⟨.int .i64 ((J : Int)), ret_int hwi, ?_⟩
                            simp only [Act.put, lzA, lzB, lzC]
                            refine wl_yield (o := ⟨_, _, _, _, _, _⟩) (.int .i64 ((J : Int))) (yl_move (by rfl) _ rfl _ rfl) ?_
                            simp only [Act.put, lzA, lzB, lzC]
                            refine wl_yield (o := ⟨_, _, _, _, _, _⟩) (.bool true) (yt_eqlI (by rfl) _ _ _ rfl (J : Int) (J : Int) true rfl rfl (decide_eq_true rfl)) ?_
                            simp only [Act.put, lzA, lzB, lzC]
                            refine wl_yield (o := ⟨_, _, _, _, _, _⟩) (.bool true) (yl_pickT (by rfl) _ _ _ rfl rfl _ rfl) ?_
                            simp only [Act.put, lzA, lzB, lzC]
                            refine wl_yield (o := ⟨_, _, _, _, _, _⟩) (.bool true) (yl_assign (by rfl) _ rfl _ rfl) ?_
                            simp only [Act.put, lzA, lzB, lzC]
                            refine wpList_nil ?_
                            refine hK11 _ _ ?_
                            clear hK11 K11
                            refine wp_ret ?_
                            try simp only [Exit.inBlock, Exit.then]
                            go_ret
                            exact ⟨rfl, below_none D⟩
                        · have hJ2 := hww (by simp [hn0]; omega)
                          rw [if_neg hJ2] at hnv hav hwi
                          subst hnv hav
                          refine wp_region_lit ?_
                          refine wl_yield (o := ⟨_, _, _, _, _, _⟩) (.pointer (some ⟨g1, 0, none⟩)) (yt_fVa0 (by rfl) _ rfl g1 0 rfl) ?_
                          simp only [Act.put, lzA, lzB, lzC]
                          refine wl_yield (o := ⟨_, _, _, _, _, _⟩) (.int .i64 2) (yt_ldI (by rfl) _ rfl _ _ rfl 2 (fun _ h => by subst h; exact cell_heap G1 0)) ?_
                          simp only [Act.put, lzA, lzB, lzC]
                          refine wl_yield (o := ⟨_, _, _, _, _, _⟩) (.bool false) (yt_eqlI (by rfl) _ _ _ rfl 2 0 false rfl rfl (by decide)) ?_
                          simp only [Act.put, lzA, lzB, lzC]
                          refine wl_yield (o := ⟨_, _, _, _, _, _⟩) (.bool false) (yl_move (by rfl) _ rfl _ rfl) ?_
                          simp only [Act.put, lzA, lzB, lzC]
                          with_reducible refine wl_yield (o := ⟨_, _, _, _, _, _⟩) undef (yl_undef (by kernel_rfl)) ?_
                          simp only [Act.put, lzA, lzB, lzC]
                          with_reducible refine wl_yield (o := ⟨_, _, _, _, _, _⟩) undef (yl_undef (by kernel_rfl)) ?_
                          simp only [Act.put, lzA, lzB, lzC]
                          with_reducible refine wl_yield (o := ⟨_, _, _, _, _, _⟩) undef (yl_undef (by kernel_rfl)) ?_
                          simp only [Act.put, lzA, lzB, lzC]
                          refine wl_yield (o := ⟨_, _, _, _, _, _⟩) (.bool false) (yl_pickF (by rfl) _ _ _ rfl rfl _ rfl) ?_
                          simp only [Act.put, lzA, lzB, lzC]
                          refine wl_yield (o := ⟨_, _, _, _, _, _⟩) (.bool false) (yl_move (by rfl) _ rfl _ rfl) ?_
                          simp only [Act.put, lzA, lzB, lzC]
                          with_reducible refine wl_yield (o := ⟨_, _, _, _, _, _⟩) undef (yl_undef (by kernel_rfl)) ?_
                          simp only [Act.put, lzA, lzB, lzC]
                          with_reducible refine wl_yield (o := ⟨_, _, _, _, _, _⟩) undef (yl_undef (by kernel_rfl)) ?_
                          simp only [Act.put, lzA, lzB, lzC]
                          with_reducible refine wl_yield (o := ⟨_, _, _, _, _, _⟩) undef (yl_undef (by kernel_rfl)) ?_
                          simp only [Act.put, lzA, lzB, lzC]
                          refine wl_yield (o := ⟨_, _, _, _, _, _⟩) (.bool false) (yl_pickF (by rfl) _ _ _ rfl rfl _ rfl) ?_
                          simp only [Act.put, lzA, lzB, lzC]
                          refine wl_yield (o := ⟨_, _, _, _, _, _⟩) (.bool false) (yl_move (by rfl) _ rfl _ rfl) ?_
                          simp only [Act.put, lzA, lzB, lzC]
                          refine wl_yield (o := ⟨_, _, _, _, _, _⟩) (.pointer (some ⟨g1, 0, none⟩)) (yt_fVa0 (by rfl) _ rfl g1 0 rfl) ?_
                          simp only [Act.put, lzA, lzB, lzC]
                          refine wl_yield (o := ⟨_, _, _, _, _, _⟩) (.int .i64 2) (yt_ldI (by rfl) _ rfl _ _ rfl 2 (fun _ h => by subst h; exact cell_heap G1 0)) ?_
                          simp only [Act.put, lzA, lzB, lzC]
                          refine wl_yield (o := ⟨_, _, _, _, _, _⟩) (.bool false) (yt_eqlI (by rfl) _ _ _ rfl 2 1 false rfl rfl (by decide)) ?_
                          simp only [Act.put, lzA, lzB, lzC]
                          refine wl_yield (o := ⟨_, _, _, _, _, _⟩) (.bool false) (yl_move (by rfl) _ rfl _ rfl) ?_
                          simp only [Act.put, lzA, lzB, lzC]
                          with_reducible refine wl_yield (o := ⟨_, _, _, _, _, _⟩) undef (yl_undef (by kernel_rfl)) ?_
                          simp only [Act.put, lzA, lzB, lzC]
                          with_reducible refine wl_yield (o := ⟨_, _, _, _, _, _⟩) undef (yl_undef (by kernel_rfl)) ?_
                          simp only [Act.put, lzA, lzB, lzC]
                          with_reducible refine wl_yield (o := ⟨_, _, _, _, _, _⟩) undef (yl_undef (by kernel_rfl)) ?_
                          simp only [Act.put, lzA, lzB, lzC]
                          refine wl_yield (o := ⟨_, _, _, _, _, _⟩) (.bool false) (yl_pickF (by rfl) _ _ _ rfl rfl _ rfl) ?_
                          simp only [Act.put, lzA, lzB, lzC]
                          refine wl_yield (o := ⟨_, _, _, _, _, _⟩) (.bool false) (yl_pickF (by rfl) _ _ _ rfl rfl _ rfl) ?_
                          simp only [Act.put, lzA, lzB, lzC]
                          refine wl_yield (o := ⟨_, _, _, _, _, _⟩) (.bool false) (yl_move (by rfl) _ rfl _ rfl) ?_
                          simp only [Act.put, lzA, lzB, lzC]
                          refine wl_yield (o := ⟨_, _, _, _, _, _⟩) (.pointer (some ⟨g1, 0, none⟩)) (yt_fVa0 (by rfl) _ rfl g1 0 rfl) ?_
                          simp only [Act.put, lzA, lzB, lzC]
                          refine wl_yield (o := ⟨_, _, _, _, _, _⟩) (.int .i64 2) (yt_ldI (by rfl) _ rfl _ _ rfl 2 (fun _ h => by subst h; exact cell_heap G1 0)) ?_
                          simp only [Act.put, lzA, lzB, lzC]
                          refine wl_yield (o := ⟨_, _, _, _, _, _⟩) (.bool true) (yt_eqlI (by rfl) _ _ _ rfl 2 2 true rfl rfl (by decide)) ?_
                          simp only [Act.put, lzA, lzB, lzC]
                          refine wl_yield (o := ⟨_, _, _, _, _, _⟩) (.bool true) (yl_move (by rfl) _ rfl _ rfl) ?_
                          simp only [Act.put, lzA, lzB, lzC]
                          refine wl_yield (o := ⟨_, _, _, _, _, _⟩) (.pointer (some ⟨g1, 1, none⟩)) (yt_fVa1 (by rfl) _ rfl g1 0 rfl) ?_
                          simp only [Act.put, lzA, lzB, lzC]
                          refine wl_yield (o := ⟨_, _, _, _, _, _⟩) (.int .i64 nn) (yt_ldI (by rfl) _ rfl _ _ rfl nn (fun _ h => by subst h; exact cell_heap G1 1)) ?_
                          simp only [Act.put, lzA, lzB, lzC]
                          refine wl_yield (o := ⟨_, _, _, _, _, _⟩) (.bool true) (yt_eqlI (by rfl) _ _ _ rfl nn 0 true rfl rfl (decide_eq_true hn0)) ?_
                          simp only [Act.put, lzA, lzB, lzC]
                          refine wl_yield (o := ⟨_, _, _, _, _, _⟩) (.bool true) (yl_pickT (by rfl) _ _ _ rfl rfl _ rfl) ?_
                          simp only [Act.put, lzA, lzB, lzC]
                          refine wl_yield (o := ⟨_, _, _, _, _, _⟩) (.bool true) (yl_move (by rfl) _ rfl _ rfl) ?_
                          simp only [Act.put, lzA, lzB, lzC]
                          refine wl_yield (o := ⟨_, _, _, _, _, _⟩) (.pointer (some ⟨g1, 2, none⟩)) (yt_fVa2 (by rfl) _ rfl g1 0 rfl) ?_
                          simp only [Act.put, lzA, lzB, lzC]
                          refine wl_yield (o := ⟨_, _, _, _, _, _⟩) (.string (bs sl)) (yt_ldS (by rfl) _ rfl _ _ rfl (bs sl) (fun _ h => by subst h; exact cell_heap G1 2)) ?_
                          simp only [Act.put, lzA, lzB, lzC]
                          refine wl_yield (o := ⟨_, _, _, _, _, _⟩) (.int .i64 (sl.length : Nat)) (yt_lenS (by rfl) _ rfl sl rfl) ?_
                          simp only [Act.put, lzA, lzB, lzC]
                          refine wl_yield (o := ⟨_, _, _, _, _, _⟩) (.bool false) (yt_leqI (by rfl) _ _ _ rfl ((sl.length : Nat) : Int) 8 false rfl rfl (decide_eq_false (by omega))) ?_
                          simp only [Act.put, lzA, lzB, lzC]
                          refine wl_yield (o := ⟨_, _, _, _, _, _⟩) (.bool false) (yl_pickT (by rfl) _ _ _ rfl rfl _ rfl) ?_
                          simp only [Act.put, lzA, lzB, lzC]
                          refine wl_yield (o := ⟨_, _, _, _, _, _⟩) (.bool false) (yl_pickF (by rfl) _ _ _ rfl rfl _ rfl) ?_
                          simp only [Act.put, lzA, lzB, lzC]
                          refine wl_yield (o := ⟨_, _, _, _, _, _⟩) (.bool false) (yl_assign (by rfl) _ rfl _ rfl) ?_
                          simp only [Act.put, lzA, lzB, lzC]
                          refine wpList_nil ?_
                          refine hK10 _ _ ?_
                          clear hK10 K10
                          refine wp_seq_k (fun K11 hK11 => ?_)
                          refine wp_region_lit ?_
                          refine wl_yield (o := ⟨_, _, _, _, _, _⟩) (.int .i64 0) (yl_move (by rfl) _ rfl _ rfl) ?_
                          simp only [Act.put, lzA, lzB, lzC]
                          refine wl_yield (o := ⟨_, _, _, _, _, _⟩) (.bool false) (yt_eqlI (by rfl) _ _ _ rfl 0 1 false rfl rfl (by decide)) ?_
                          simp only [Act.put, lzA, lzB, lzC]
                          refine wl_yield (o := ⟨_, _, _, _, _, _⟩) (.bool false) (yl_move (by rfl) _ rfl _ rfl) ?_
                          simp only [Act.put, lzA, lzB, lzC]
                          refine wl_yield (o := ⟨_, _, _, _, _, _⟩) (.bool true) (yl_eqB (by rfl) _ _ _ rfl false false rfl rfl) ?_
                          simp only [Act.put, lzA, lzB, lzC]
                          refine wl_yield (o := ⟨_, _, _, _, _, _⟩) (.bool true) (yl_move (by rfl) _ rfl _ rfl) ?_
                          simp only [Act.put, lzA, lzB, lzC]
                          refine wl_yield (o := ⟨_, _, _, _, _, _⟩) (.int .i64 0) (yl_move (by rfl) _ rfl _ rfl) ?_
                          simp only [Act.put, lzA, lzB, lzC]
                          refine wl_yield (o := ⟨_, _, _, _, _, _⟩) (.bool true) (yt_leqI (by rfl) _ _ _ rfl 0 1 true rfl rfl (by decide)) ?_
                          simp only [Act.put, lzA, lzB, lzC]
                          refine wl_yield (o := ⟨_, _, _, _, _, _⟩) (.bool true) (yl_pickT (by rfl) _ _ _ rfl rfl _ rfl) ?_
                          simp only [Act.put, lzA, lzB, lzC]
                          refine wl_yield (o := ⟨_, _, _, _, _, _⟩) (.bool true) (yl_move (by rfl) _ rfl _ rfl) ?_
                          simp only [Act.put, lzA, lzB, lzC]
                          refine wl_yield (o := ⟨_, _, _, _, _, _⟩) (.slice a5 C.length cap5) (yl_move (by rfl) _ rfl _ rfl) ?_
                          simp only [Act.put, lzA, lzB, lzC]
                          refine wl_yield (o := ⟨_, _, _, _, _, _⟩) (.agg #[.int .i64 2, .int .i64 nn, .string (bs sl)]) (yl_val (by rfl) _ rfl _ 0 rfl _ _ _ (fun _ h => by subst h; exact ⟨cell_heap G1 0, cell_heap G1 1, cell_heap G1 2⟩)) ?_
                          simp only [Act.put, lzA, lzB, lzC]
                          refine wt_call (o := ⟨_, _, _, _, _, _⟩) (by rfl) 27 _ _ rfl #[.slice a5 C.length cap5, .agg #[.int .i64 2, .int .i64 nn, .string (bs sl)]] rfl (run_call Tryz.func27 (by kernel_rfl) (by kernel_rfl)) ?_
                          refine (which_any _ C (2, nn, bs sl) _ (HS.on (below_none D2)) hfit hs).mono ?_
                          rintro r v7 (⟨rfl, kb⟩)
                          · replace D := grown_below D kb
                            replace HE := HE.on kb
                            replace G1 := heap_on G1 kb
                            replace D2 := grown_below D2 kb
                            clear kb
                            refine Or.inl ⟨.int .i64 (-1), ret_int hwi, ?_⟩
                            simp only [Act.put, lzA, lzB, lzC]
                            refine wl_yield (o := ⟨_, _, _, _, _, _⟩) (.int .i64 (-1)) (yl_move (by rfl) _ rfl _ rfl) ?_
                            simp only [Act.put, lzA, lzB, lzC]
                            refine wl_yield (o := ⟨_, _, _, _, _, _⟩) (.bool true) (yt_eqlI (by rfl) _ _ _ rfl (-1) (-1) true rfl rfl (by decide)) ?_
                            simp only [Act.put, lzA, lzB, lzC]
                            refine wl_yield (o := ⟨_, _, _, _, _, _⟩) (.bool true) (yl_pickT (by rfl) _ _ _ rfl rfl _ rfl) ?_
                            simp only [Act.put, lzA, lzB, lzC]
                            refine wl_yield (o := ⟨_, _, _, _, _, _⟩) (.bool true) (yl_assign (by rfl) _ rfl _ rfl) ?_
                            simp only [Act.put, lzA, lzB, lzC]
                            refine wpList_nil ?_
                            refine hK11 _ _ ?_
                            clear hK11 K11
                            refine wp_ret ?_
                            try simp only [Exit.inBlock, Exit.then]
                            go_ret
                            exact ⟨rfl, below_none D⟩
                      · have hJ2 := hww (by simp [hn0])
                        rw [if_neg hJ2] at hnv hav hwi
                        subst hnv hav
                        refine wp_region_lit ?_
                        refine wl_yield (o := ⟨_, _, _, _, _, _⟩) (.pointer (some ⟨g1, 0, none⟩)) (yt_fVa0 (by rfl) _ rfl g1 0 rfl) ?_
                        simp only [Act.put, lzA, lzB, lzC]
                        refine wl_yield (o := ⟨_, _, _, _, _, _⟩) (.int .i64 2) (yt_ldI (by rfl) _ rfl _ _ rfl 2 (fun _ h => by subst h; exact cell_heap G1 0)) ?_
                        simp only [Act.put, lzA, lzB, lzC]
                        refine wl_yield (o := ⟨_, _, _, _, _, _⟩) (.bool false) (yt_eqlI (by rfl) _ _ _ rfl 2 0 false rfl rfl (by decide)) ?_
                        simp only [Act.put, lzA, lzB, lzC]
                        refine wl_yield (o := ⟨_, _, _, _, _, _⟩) (.bool false) (yl_move (by rfl) _ rfl _ rfl) ?_
                        simp only [Act.put, lzA, lzB, lzC]
                        with_reducible refine wl_yield (o := ⟨_, _, _, _, _, _⟩) undef (yl_undef (by kernel_rfl)) ?_
                        simp only [Act.put, lzA, lzB, lzC]
                        with_reducible refine wl_yield (o := ⟨_, _, _, _, _, _⟩) undef (yl_undef (by kernel_rfl)) ?_
                        simp only [Act.put, lzA, lzB, lzC]
                        with_reducible refine wl_yield (o := ⟨_, _, _, _, _, _⟩) undef (yl_undef (by kernel_rfl)) ?_
                        simp only [Act.put, lzA, lzB, lzC]
                        refine wl_yield (o := ⟨_, _, _, _, _, _⟩) (.bool false) (yl_pickF (by rfl) _ _ _ rfl rfl _ rfl) ?_
                        simp only [Act.put, lzA, lzB, lzC]
                        refine wl_yield (o := ⟨_, _, _, _, _, _⟩) (.bool false) (yl_move (by rfl) _ rfl _ rfl) ?_
                        simp only [Act.put, lzA, lzB, lzC]
                        with_reducible refine wl_yield (o := ⟨_, _, _, _, _, _⟩) undef (yl_undef (by kernel_rfl)) ?_
                        simp only [Act.put, lzA, lzB, lzC]
                        with_reducible refine wl_yield (o := ⟨_, _, _, _, _, _⟩) undef (yl_undef (by kernel_rfl)) ?_
                        simp only [Act.put, lzA, lzB, lzC]
                        with_reducible refine wl_yield (o := ⟨_, _, _, _, _, _⟩) undef (yl_undef (by kernel_rfl)) ?_
                        simp only [Act.put, lzA, lzB, lzC]
                        refine wl_yield (o := ⟨_, _, _, _, _, _⟩) (.bool false) (yl_pickF (by rfl) _ _ _ rfl rfl _ rfl) ?_
                        simp only [Act.put, lzA, lzB, lzC]
                        refine wl_yield (o := ⟨_, _, _, _, _, _⟩) (.bool false) (yl_move (by rfl) _ rfl _ rfl) ?_
                        simp only [Act.put, lzA, lzB, lzC]
                        refine wl_yield (o := ⟨_, _, _, _, _, _⟩) (.pointer (some ⟨g1, 0, none⟩)) (yt_fVa0 (by rfl) _ rfl g1 0 rfl) ?_
                        simp only [Act.put, lzA, lzB, lzC]
                        refine wl_yield (o := ⟨_, _, _, _, _, _⟩) (.int .i64 2) (yt_ldI (by rfl) _ rfl _ _ rfl 2 (fun _ h => by subst h; exact cell_heap G1 0)) ?_
                        simp only [Act.put, lzA, lzB, lzC]
                        refine wl_yield (o := ⟨_, _, _, _, _, _⟩) (.bool false) (yt_eqlI (by rfl) _ _ _ rfl 2 1 false rfl rfl (by decide)) ?_
                        simp only [Act.put, lzA, lzB, lzC]
                        refine wl_yield (o := ⟨_, _, _, _, _, _⟩) (.bool false) (yl_move (by rfl) _ rfl _ rfl) ?_
                        simp only [Act.put, lzA, lzB, lzC]
                        with_reducible refine wl_yield (o := ⟨_, _, _, _, _, _⟩) undef (yl_undef (by kernel_rfl)) ?_
                        simp only [Act.put, lzA, lzB, lzC]
                        with_reducible refine wl_yield (o := ⟨_, _, _, _, _, _⟩) undef (yl_undef (by kernel_rfl)) ?_
                        simp only [Act.put, lzA, lzB, lzC]
                        with_reducible refine wl_yield (o := ⟨_, _, _, _, _, _⟩) undef (yl_undef (by kernel_rfl)) ?_
                        simp only [Act.put, lzA, lzB, lzC]
                        refine wl_yield (o := ⟨_, _, _, _, _, _⟩) (.bool false) (yl_pickF (by rfl) _ _ _ rfl rfl _ rfl) ?_
                        simp only [Act.put, lzA, lzB, lzC]
                        refine wl_yield (o := ⟨_, _, _, _, _, _⟩) (.bool false) (yl_pickF (by rfl) _ _ _ rfl rfl _ rfl) ?_
                        simp only [Act.put, lzA, lzB, lzC]
                        refine wl_yield (o := ⟨_, _, _, _, _, _⟩) (.bool false) (yl_move (by rfl) _ rfl _ rfl) ?_
                        simp only [Act.put, lzA, lzB, lzC]
                        refine wl_yield (o := ⟨_, _, _, _, _, _⟩) (.pointer (some ⟨g1, 0, none⟩)) (yt_fVa0 (by rfl) _ rfl g1 0 rfl) ?_
                        simp only [Act.put, lzA, lzB, lzC]
                        refine wl_yield (o := ⟨_, _, _, _, _, _⟩) (.int .i64 2) (yt_ldI (by rfl) _ rfl _ _ rfl 2 (fun _ h => by subst h; exact cell_heap G1 0)) ?_
                        simp only [Act.put, lzA, lzB, lzC]
                        refine wl_yield (o := ⟨_, _, _, _, _, _⟩) (.bool true) (yt_eqlI (by rfl) _ _ _ rfl 2 2 true rfl rfl (by decide)) ?_
                        simp only [Act.put, lzA, lzB, lzC]
                        refine wl_yield (o := ⟨_, _, _, _, _, _⟩) (.bool true) (yl_move (by rfl) _ rfl _ rfl) ?_
                        simp only [Act.put, lzA, lzB, lzC]
                        refine wl_yield (o := ⟨_, _, _, _, _, _⟩) (.pointer (some ⟨g1, 1, none⟩)) (yt_fVa1 (by rfl) _ rfl g1 0 rfl) ?_
                        simp only [Act.put, lzA, lzB, lzC]
                        refine wl_yield (o := ⟨_, _, _, _, _, _⟩) (.int .i64 nn) (yt_ldI (by rfl) _ rfl _ _ rfl nn (fun _ h => by subst h; exact cell_heap G1 1)) ?_
                        simp only [Act.put, lzA, lzB, lzC]
                        refine wl_yield (o := ⟨_, _, _, _, _, _⟩) (.bool false) (yt_eqlI (by rfl) _ _ _ rfl nn 0 false rfl rfl (decide_eq_false hn0)) ?_
                        simp only [Act.put, lzA, lzB, lzC]
                        refine wl_yield (o := ⟨_, _, _, _, _, _⟩) (.bool false) (yl_pickT (by rfl) _ _ _ rfl rfl _ rfl) ?_
                        simp only [Act.put, lzA, lzB, lzC]
                        refine wl_yield (o := ⟨_, _, _, _, _, _⟩) (.bool false) (yl_move (by rfl) _ rfl _ rfl) ?_
                        simp only [Act.put, lzA, lzB, lzC]
                        with_reducible refine wl_yield (o := ⟨_, _, _, _, _, _⟩) undef (yl_undef (by kernel_rfl)) ?_
                        simp only [Act.put, lzA, lzB, lzC]
                        with_reducible refine wl_yield (o := ⟨_, _, _, _, _, _⟩) undef (yl_undef (by kernel_rfl)) ?_
                        simp only [Act.put, lzA, lzB, lzC]
                        with_reducible refine wl_yield (o := ⟨_, _, _, _, _, _⟩) undef (yl_undef (by kernel_rfl)) ?_
                        simp only [Act.put, lzA, lzB, lzC]
                        with_reducible refine wl_yield (o := ⟨_, _, _, _, _, _⟩) undef (yl_undef (by kernel_rfl)) ?_
                        simp only [Act.put, lzA, lzB, lzC]
                        refine wl_yield (o := ⟨_, _, _, _, _, _⟩) (.bool false) (yl_pickF (by rfl) _ _ _ rfl rfl _ rfl) ?_
                        simp only [Act.put, lzA, lzB, lzC]
                        refine wl_yield (o := ⟨_, _, _, _, _, _⟩) (.bool false) (yl_pickF (by rfl) _ _ _ rfl rfl _ rfl) ?_
                        simp only [Act.put, lzA, lzB, lzC]
                        refine wl_yield (o := ⟨_, _, _, _, _, _⟩) (.bool false) (yl_assign (by rfl) _ rfl _ rfl) ?_
                        simp only [Act.put, lzA, lzB, lzC]
                        refine wpList_nil ?_
                        refine hK10 _ _ ?_
                        clear hK10 K10
                        refine wp_seq_k (fun K11 hK11 => ?_)
                        refine wp_region_lit ?_
                        refine wl_yield (o := ⟨_, _, _, _, _, _⟩) (.int .i64 0) (yl_move (by rfl) _ rfl _ rfl) ?_
                        simp only [Act.put, lzA, lzB, lzC]
                        refine wl_yield (o := ⟨_, _, _, _, _, _⟩) (.bool false) (yt_eqlI (by rfl) _ _ _ rfl 0 1 false rfl rfl (by decide)) ?_
                        simp only [Act.put, lzA, lzB, lzC]
                        refine wl_yield (o := ⟨_, _, _, _, _, _⟩) (.bool false) (yl_move (by rfl) _ rfl _ rfl) ?_
                        simp only [Act.put, lzA, lzB, lzC]
                        refine wl_yield (o := ⟨_, _, _, _, _, _⟩) (.bool true) (yl_eqB (by rfl) _ _ _ rfl false false rfl rfl) ?_
                        simp only [Act.put, lzA, lzB, lzC]
                        refine wl_yield (o := ⟨_, _, _, _, _, _⟩) (.bool true) (yl_move (by rfl) _ rfl _ rfl) ?_
                        simp only [Act.put, lzA, lzB, lzC]
                        refine wl_yield (o := ⟨_, _, _, _, _, _⟩) (.int .i64 0) (yl_move (by rfl) _ rfl _ rfl) ?_
                        simp only [Act.put, lzA, lzB, lzC]
                        refine wl_yield (o := ⟨_, _, _, _, _, _⟩) (.bool true) (yt_leqI (by rfl) _ _ _ rfl 0 1 true rfl rfl (by decide)) ?_
                        simp only [Act.put, lzA, lzB, lzC]
                        refine wl_yield (o := ⟨_, _, _, _, _, _⟩) (.bool true) (yl_pickT (by rfl) _ _ _ rfl rfl _ rfl) ?_
                        simp only [Act.put, lzA, lzB, lzC]
                        refine wl_yield (o := ⟨_, _, _, _, _, _⟩) (.bool true) (yl_move (by rfl) _ rfl _ rfl) ?_
                        simp only [Act.put, lzA, lzB, lzC]
                        refine wl_yield (o := ⟨_, _, _, _, _, _⟩) (.slice a5 C.length cap5) (yl_move (by rfl) _ rfl _ rfl) ?_
                        simp only [Act.put, lzA, lzB, lzC]
                        refine wl_yield (o := ⟨_, _, _, _, _, _⟩) (.agg #[.int .i64 2, .int .i64 nn, .string (bs sl)]) (yl_val (by rfl) _ rfl _ 0 rfl _ _ _ (fun _ h => by subst h; exact ⟨cell_heap G1 0, cell_heap G1 1, cell_heap G1 2⟩)) ?_
                        simp only [Act.put, lzA, lzB, lzC]
                        refine wt_call (o := ⟨_, _, _, _, _, _⟩) (by rfl) 27 _ _ rfl #[.slice a5 C.length cap5, .agg #[.int .i64 2, .int .i64 nn, .string (bs sl)]] rfl (run_call Tryz.func27 (by kernel_rfl) (by kernel_rfl)) ?_
                        refine (which_any _ C (2, nn, bs sl) _ (HS.on (below_none D2)) hfit hs).mono ?_
                        rintro r v7 (⟨rfl, kb⟩)
                        · replace D := grown_below D kb
                          replace HE := HE.on kb
                          replace G1 := heap_on G1 kb
                          replace D2 := grown_below D2 kb
                          clear kb
                          refine Or.inl ⟨.int .i64 (-1), ret_int hwi, ?_⟩
                          simp only [Act.put, lzA, lzB, lzC]
                          refine wl_yield (o := ⟨_, _, _, _, _, _⟩) (.int .i64 (-1)) (yl_move (by rfl) _ rfl _ rfl) ?_
                          simp only [Act.put, lzA, lzB, lzC]
                          refine wl_yield (o := ⟨_, _, _, _, _, _⟩) (.bool true) (yt_eqlI (by rfl) _ _ _ rfl (-1) (-1) true rfl rfl (by decide)) ?_
                          simp only [Act.put, lzA, lzB, lzC]
                          refine wl_yield (o := ⟨_, _, _, _, _, _⟩) (.bool true) (yl_pickT (by rfl) _ _ _ rfl rfl _ rfl) ?_
                          simp only [Act.put, lzA, lzB, lzC]
                          refine wl_yield (o := ⟨_, _, _, _, _, _⟩) (.bool true) (yl_assign (by rfl) _ rfl _ rfl) ?_
                          simp only [Act.put, lzA, lzB, lzC]
                          refine wpList_nil ?_
                          refine hK11 _ _ ?_
                          clear hK11 K11
                          refine wp_ret ?_
                          try simp only [Exit.inBlock, Exit.then]
                          go_ret
                          exact ⟨rfl, below_none D⟩
                    · have hJ2 := hww (by rw [if_neg hkz0, if_neg hkz1, if_neg hkz2])
                      rw [if_neg hJ2] at hnv hav hwi
                      subst hnv hav
                      refine wp_region_lit ?_
                      refine wl_yield (o := ⟨_, _, _, _, _, _⟩) (.pointer (some ⟨g1, 0, none⟩)) (yt_fVa0 (by rfl) _ rfl g1 0 rfl) ?_
                      simp only [Act.put, lzA, lzB, lzC]
                      refine wl_yield (o := ⟨_, _, _, _, _, _⟩) (.int .i64 kk) (yt_ldI (by rfl) _ rfl _ _ rfl kk (fun _ h => by subst h; exact cell_heap G1 0)) ?_
                      simp only [Act.put, lzA, lzB, lzC]
                      refine wl_yield (o := ⟨_, _, _, _, _, _⟩) (.bool false) (yt_eqlI (by rfl) _ _ _ rfl kk 0 false rfl rfl (decide_eq_false hkz0)) ?_
                      simp only [Act.put, lzA, lzB, lzC]
                      refine wl_yield (o := ⟨_, _, _, _, _, _⟩) (.bool false) (yl_move (by rfl) _ rfl _ rfl) ?_
                      simp only [Act.put, lzA, lzB, lzC]
                      with_reducible refine wl_yield (o := ⟨_, _, _, _, _, _⟩) undef (yl_undef (by kernel_rfl)) ?_
                      simp only [Act.put, lzA, lzB, lzC]
                      with_reducible refine wl_yield (o := ⟨_, _, _, _, _, _⟩) undef (yl_undef (by kernel_rfl)) ?_
                      simp only [Act.put, lzA, lzB, lzC]
                      with_reducible refine wl_yield (o := ⟨_, _, _, _, _, _⟩) undef (yl_undef (by kernel_rfl)) ?_
                      simp only [Act.put, lzA, lzB, lzC]
                      refine wl_yield (o := ⟨_, _, _, _, _, _⟩) (.bool false) (yl_pickF (by rfl) _ _ _ rfl rfl _ rfl) ?_
                      simp only [Act.put, lzA, lzB, lzC]
                      refine wl_yield (o := ⟨_, _, _, _, _, _⟩) (.bool false) (yl_move (by rfl) _ rfl _ rfl) ?_
                      simp only [Act.put, lzA, lzB, lzC]
                      with_reducible refine wl_yield (o := ⟨_, _, _, _, _, _⟩) undef (yl_undef (by kernel_rfl)) ?_
                      simp only [Act.put, lzA, lzB, lzC]
                      with_reducible refine wl_yield (o := ⟨_, _, _, _, _, _⟩) undef (yl_undef (by kernel_rfl)) ?_
                      simp only [Act.put, lzA, lzB, lzC]
                      with_reducible refine wl_yield (o := ⟨_, _, _, _, _, _⟩) undef (yl_undef (by kernel_rfl)) ?_
                      simp only [Act.put, lzA, lzB, lzC]
                      refine wl_yield (o := ⟨_, _, _, _, _, _⟩) (.bool false) (yl_pickF (by rfl) _ _ _ rfl rfl _ rfl) ?_
                      simp only [Act.put, lzA, lzB, lzC]
                      refine wl_yield (o := ⟨_, _, _, _, _, _⟩) (.bool false) (yl_move (by rfl) _ rfl _ rfl) ?_
                      simp only [Act.put, lzA, lzB, lzC]
                      refine wl_yield (o := ⟨_, _, _, _, _, _⟩) (.pointer (some ⟨g1, 0, none⟩)) (yt_fVa0 (by rfl) _ rfl g1 0 rfl) ?_
                      simp only [Act.put, lzA, lzB, lzC]
                      refine wl_yield (o := ⟨_, _, _, _, _, _⟩) (.int .i64 kk) (yt_ldI (by rfl) _ rfl _ _ rfl kk (fun _ h => by subst h; exact cell_heap G1 0)) ?_
                      simp only [Act.put, lzA, lzB, lzC]
                      refine wl_yield (o := ⟨_, _, _, _, _, _⟩) (.bool false) (yt_eqlI (by rfl) _ _ _ rfl kk 1 false rfl rfl (decide_eq_false hkz1)) ?_
                      simp only [Act.put, lzA, lzB, lzC]
                      refine wl_yield (o := ⟨_, _, _, _, _, _⟩) (.bool false) (yl_move (by rfl) _ rfl _ rfl) ?_
                      simp only [Act.put, lzA, lzB, lzC]
                      with_reducible refine wl_yield (o := ⟨_, _, _, _, _, _⟩) undef (yl_undef (by kernel_rfl)) ?_
                      simp only [Act.put, lzA, lzB, lzC]
                      with_reducible refine wl_yield (o := ⟨_, _, _, _, _, _⟩) undef (yl_undef (by kernel_rfl)) ?_
                      simp only [Act.put, lzA, lzB, lzC]
                      with_reducible refine wl_yield (o := ⟨_, _, _, _, _, _⟩) undef (yl_undef (by kernel_rfl)) ?_
                      simp only [Act.put, lzA, lzB, lzC]
                      refine wl_yield (o := ⟨_, _, _, _, _, _⟩) (.bool false) (yl_pickF (by rfl) _ _ _ rfl rfl _ rfl) ?_
                      simp only [Act.put, lzA, lzB, lzC]
                      refine wl_yield (o := ⟨_, _, _, _, _, _⟩) (.bool false) (yl_pickF (by rfl) _ _ _ rfl rfl _ rfl) ?_
                      simp only [Act.put, lzA, lzB, lzC]
                      refine wl_yield (o := ⟨_, _, _, _, _, _⟩) (.bool false) (yl_move (by rfl) _ rfl _ rfl) ?_
                      simp only [Act.put, lzA, lzB, lzC]
                      refine wl_yield (o := ⟨_, _, _, _, _, _⟩) (.pointer (some ⟨g1, 0, none⟩)) (yt_fVa0 (by rfl) _ rfl g1 0 rfl) ?_
                      simp only [Act.put, lzA, lzB, lzC]
                      refine wl_yield (o := ⟨_, _, _, _, _, _⟩) (.int .i64 kk) (yt_ldI (by rfl) _ rfl _ _ rfl kk (fun _ h => by subst h; exact cell_heap G1 0)) ?_
                      simp only [Act.put, lzA, lzB, lzC]
                      refine wl_yield (o := ⟨_, _, _, _, _, _⟩) (.bool false) (yt_eqlI (by rfl) _ _ _ rfl kk 2 false rfl rfl (decide_eq_false hkz2)) ?_
                      simp only [Act.put, lzA, lzB, lzC]
                      refine wl_yield (o := ⟨_, _, _, _, _, _⟩) (.bool false) (yl_move (by rfl) _ rfl _ rfl) ?_
                      simp only [Act.put, lzA, lzB, lzC]
                      with_reducible refine wl_yield (o := ⟨_, _, _, _, _, _⟩) undef (yl_undef (by kernel_rfl)) ?_
                      simp only [Act.put, lzA, lzB, lzC]
                      with_reducible refine wl_yield (o := ⟨_, _, _, _, _, _⟩) undef (yl_undef (by kernel_rfl)) ?_
                      simp only [Act.put, lzA, lzB, lzC]
                      with_reducible refine wl_yield (o := ⟨_, _, _, _, _, _⟩) undef (yl_undef (by kernel_rfl)) ?_
                      simp only [Act.put, lzA, lzB, lzC]
                      refine wl_yield (o := ⟨_, _, _, _, _, _⟩) (.bool false) (yl_pickF (by rfl) _ _ _ rfl rfl _ rfl) ?_
                      simp only [Act.put, lzA, lzB, lzC]
                      refine wl_yield (o := ⟨_, _, _, _, _, _⟩) (.bool false) (yl_move (by rfl) _ rfl _ rfl) ?_
                      simp only [Act.put, lzA, lzB, lzC]
                      with_reducible refine wl_yield (o := ⟨_, _, _, _, _, _⟩) undef (yl_undef (by kernel_rfl)) ?_
                      simp only [Act.put, lzA, lzB, lzC]
                      with_reducible refine wl_yield (o := ⟨_, _, _, _, _, _⟩) undef (yl_undef (by kernel_rfl)) ?_
                      simp only [Act.put, lzA, lzB, lzC]
                      with_reducible refine wl_yield (o := ⟨_, _, _, _, _, _⟩) undef (yl_undef (by kernel_rfl)) ?_
                      simp only [Act.put, lzA, lzB, lzC]
                      with_reducible refine wl_yield (o := ⟨_, _, _, _, _, _⟩) undef (yl_undef (by kernel_rfl)) ?_
                      simp only [Act.put, lzA, lzB, lzC]
                      refine wl_yield (o := ⟨_, _, _, _, _, _⟩) (.bool false) (yl_pickF (by rfl) _ _ _ rfl rfl _ rfl) ?_
                      simp only [Act.put, lzA, lzB, lzC]
                      refine wl_yield (o := ⟨_, _, _, _, _, _⟩) (.bool false) (yl_pickF (by rfl) _ _ _ rfl rfl _ rfl) ?_
                      simp only [Act.put, lzA, lzB, lzC]
                      refine wl_yield (o := ⟨_, _, _, _, _, _⟩) (.bool false) (yl_assign (by rfl) _ rfl _ rfl) ?_
                      simp only [Act.put, lzA, lzB, lzC]
                      refine wpList_nil ?_
                      refine hK10 _ _ ?_
                      clear hK10 K10
                      refine wp_seq_k (fun K11 hK11 => ?_)
                      refine wp_region_lit ?_
                      refine wl_yield (o := ⟨_, _, _, _, _, _⟩) (.int .i64 0) (yl_move (by rfl) _ rfl _ rfl) ?_
                      simp only [Act.put, lzA, lzB, lzC]
                      refine wl_yield (o := ⟨_, _, _, _, _, _⟩) (.bool false) (yt_eqlI (by rfl) _ _ _ rfl 0 1 false rfl rfl (by decide)) ?_
                      simp only [Act.put, lzA, lzB, lzC]
                      refine wl_yield (o := ⟨_, _, _, _, _, _⟩) (.bool false) (yl_move (by rfl) _ rfl _ rfl) ?_
                      simp only [Act.put, lzA, lzB, lzC]
                      refine wl_yield (o := ⟨_, _, _, _, _, _⟩) (.bool true) (yl_eqB (by rfl) _ _ _ rfl false false rfl rfl) ?_
                      simp only [Act.put, lzA, lzB, lzC]
                      refine wl_yield (o := ⟨_, _, _, _, _, _⟩) (.bool true) (yl_move (by rfl) _ rfl _ rfl) ?_
                      simp only [Act.put, lzA, lzB, lzC]
                      refine wl_yield (o := ⟨_, _, _, _, _, _⟩) (.int .i64 0) (yl_move (by rfl) _ rfl _ rfl) ?_
                      simp only [Act.put, lzA, lzB, lzC]
                      refine wl_yield (o := ⟨_, _, _, _, _, _⟩) (.bool true) (yt_leqI (by rfl) _ _ _ rfl 0 1 true rfl rfl (by decide)) ?_
                      simp only [Act.put, lzA, lzB, lzC]
                      refine wl_yield (o := ⟨_, _, _, _, _, _⟩) (.bool true) (yl_pickT (by rfl) _ _ _ rfl rfl _ rfl) ?_
                      simp only [Act.put, lzA, lzB, lzC]
                      refine wl_yield (o := ⟨_, _, _, _, _, _⟩) (.bool true) (yl_move (by rfl) _ rfl _ rfl) ?_
                      simp only [Act.put, lzA, lzB, lzC]
                      refine wl_yield (o := ⟨_, _, _, _, _, _⟩) (.slice a5 C.length cap5) (yl_move (by rfl) _ rfl _ rfl) ?_
                      simp only [Act.put, lzA, lzB, lzC]
                      refine wl_yield (o := ⟨_, _, _, _, _, _⟩) (.agg #[.int .i64 kk, .int .i64 nn, .string (bs sl)]) (yl_val (by rfl) _ rfl _ 0 rfl _ _ _ (fun _ h => by subst h; exact ⟨cell_heap G1 0, cell_heap G1 1, cell_heap G1 2⟩)) ?_
                      simp only [Act.put, lzA, lzB, lzC]
                      refine wt_call (o := ⟨_, _, _, _, _, _⟩) (by rfl) 27 _ _ rfl #[.slice a5 C.length cap5, .agg #[.int .i64 kk, .int .i64 nn, .string (bs sl)]] rfl (run_call Tryz.func27 (by kernel_rfl) (by kernel_rfl)) ?_
                      refine (which_any _ C (kk, nn, bs sl) _ (HS.on (below_none D2)) hfit hs).mono ?_
                      rintro r v7 (⟨rfl, kb⟩)
                      · replace D := grown_below D kb
                        replace HE := HE.on kb
                        replace G1 := heap_on G1 kb
                        replace D2 := grown_below D2 kb
                        clear kb
                        refine Or.inl ⟨.int .i64 (-1), ret_int hwi, ?_⟩
                        simp only [Act.put, lzA, lzB, lzC]
                        refine wl_yield (o := ⟨_, _, _, _, _, _⟩) (.int .i64 (-1)) (yl_move (by rfl) _ rfl _ rfl) ?_
                        simp only [Act.put, lzA, lzB, lzC]
                        refine wl_yield (o := ⟨_, _, _, _, _, _⟩) (.bool true) (yt_eqlI (by rfl) _ _ _ rfl (-1) (-1) true rfl rfl (by decide)) ?_
                        simp only [Act.put, lzA, lzB, lzC]
                        refine wl_yield (o := ⟨_, _, _, _, _, _⟩) (.bool true) (yl_pickT (by rfl) _ _ _ rfl rfl _ rfl) ?_
                        simp only [Act.put, lzA, lzB, lzC]
                        refine wl_yield (o := ⟨_, _, _, _, _, _⟩) (.bool true) (yl_assign (by rfl) _ rfl _ rfl) ?_
                        simp only [Act.put, lzA, lzB, lzC]
                        refine wpList_nil ?_
                        refine hK11 _ _ ?_
                        clear hK11 K11
                        refine wp_ret ?_
                        try simp only [Exit.inBlock, Exit.then]
                        go_ret
                        exact ⟨rfl, below_none D⟩
end Go.Proofs.YtjbgjdjmejhejaaGreatDoor
namespace Go.Proofs.YtjbgjdjmejhejaaGreatDoor
open Go.ChangeShapes Go.WideShapes Go.ChangeAt Go.WideMaps Go.WideElems Go.RowKit Go.Joins
theorem cellsVal : Tryz.prog.cellsOf 48 = 3 := by kernel_rfl
section
variable {H : Type} {enc : TypeId × Value → H} {W : World} {base : Nat} {sp : Nat → Bool} {held : Bool}
set_option maxRecDepth 100000 in
theorem open_val {r : Reach} {b0 : Nat} {v : Value} {d : DataW H} {p : List MemPlace} (hv : Value.okWide Tryz.prog W r b0 48 v) (h : DataW.Trod enc Tryz.prog W base sp held 48 v d p) :
    ∃ (k n : Int) (s : ByteArray), v = .agg #[.int .i64 k, .int .i64 n, .string s] ∧ d = .agg [.lit (.int .i64 k), .lit (.int .i64 n), .lit (.string s.data.toList)] ∧ p = [] ∧ (Lit.int .i64 k).wf = true ∧ (Lit.int .i64 n).wf = true ∧ s.size ≤ maxLen := by
  obtain ⟨v0, v1, v2, y0, y1, y2, m, rfl, rfl, rfl, h0, h1, h2⟩ := open_agg3 Tryz.underlying48 (by kernel_rfl) cellsVal hv h
  obtain ⟨k, e0, rfl, wk⟩ := DataW.trod_int Tryz.underlying3 h0
  obtain ⟨n, e1, rfl, wn⟩ := DataW.trod_int Tryz.underlying3 h1
  obtain ⟨s, e2, rfl, ws⟩ := DataW.trod_string Tryz.underlying9 h2
  simp at e0 e1 e2
  subst e0 e1 e2
  exact ⟨k, n, s, rfl, rfl, rfl, wk, wn, ws⟩
set_option maxRecDepth 100000 in
theorem shut_val {k n : Int} {s : ByteArray} (wk : (Lit.int .i64 k).wf = true) (wn : (Lit.int .i64 n).wf = true) (ws : s.size ≤ maxLen) :
    DataW.Trod enc Tryz.prog W base sp held 48 (.agg #[.int .i64 k, .int .i64 n, .string s]) (.agg [.lit (.int .i64 k), .lit (.int .i64 n), .lit (.string s.data.toList)]) [] :=
  shut_agg3 (y0 := (.lit (.int .i64 k), [])) (y1 := (.lit (.int .i64 n), [])) (y2 := (.lit (.string s.data.toList), [])) Tryz.underlying48 (by kernel_rfl) cellsVal ⟨1, by simp [DataW.trod, Tryz.underlying3, wk]⟩ ⟨1, by simp [DataW.trod, Tryz.underlying3, wn]⟩ ⟨1, by simp [DataW.trod, Tryz.underlying9, ws]⟩
end
section
variable {H : Type} {enc : TypeId × Value → H} {W : World}
end
end Go.Proofs.YtjbgjdjmejhejaaGreatDoor
namespace Go.Proofs.YtjbgjdjmejhejaaGreatDoor
open Go.Deep Go.ChangeShapes Go.WideShapes Go.ChangeAt Go.WideMaps Go.WideElems Go.RowKit Go.Joins
section
variable {H : Type} {enc : TypeId × Value → H} {W : World}
end
end Go.Proofs.YtjbgjdjmejhejaaGreatDoor
namespace Go.Proofs.YtjbgjdjmejhejaaGreatDoor
open Go.ChangeShapes Go.WideShapes Go.ChangeAt Go.WideMaps Go.WideElems Go.RowKit Go.Joins
theorem own : ownKnob Tryz.prog.godebug = none := by kernel_rfl
theorem gPowType : (Tryz.prog.globals[1]?).map (·.type) = some 275 := by kernel_rfl
theorem cellsPow : Tryz.prog.cellsOf 275 = 20 := by kernel_rfl
theorem cellsU64 : Tryz.prog.cellsOf 164 = 1 := by kernel_rfl
abbrev laid5 : List (String × DataW Unit) := [("math/bits.deBruijn32tab", Rows.laid_math_bits_deBruijn32tab), ("math/bits.deBruijn64tab", Rows.laid_math_bits_deBruijn64tab), ("internal/strconv.uint64pow10", Rows.laid_internal_strconv_uint64pow10)]
theorem env_of_laid {W : World} (h : laidMetH Tryz.prog laid5 W) : Env W := by
  rw [MakeChecks.laidMetH_plain _ _ _ (by kernel_rfl)] at h
  have hp : Lib.TabIs Tryz.prog W "internal/strconv.uint64pow10" .u64 Lib.pow10Tab := Lib.tabIs_of_head gPow gPowType Tryz.underlying275 Tryz.underlying164 cellsU64 cellsPow (show laidMet Tryz.prog (("internal/strconv.uint64pow10", Lib.tabData .u64 Lib.pow10Tab) :: _) W from h.tail.tail)
  have big : 2 ≤ W.heap.size := by
    rcases Nat.lt_or_ge 1 W.heap.size with h' | h'
    · exact h'
    · exfalso
      have := hp.cell gPow 0 (by decide); simp [World.cell?, Array.getElem?_eq_none h'] at this
  exact ⟨big, hp⟩
theorem door_met (os : Os) (args : Array Value) : laidMetH Tryz.prog laid5 ((World.doorLaid Tryz.prog 400 os).forCall (fun _ _ => 0) ⟨#[], args, []⟩).memory :=
  laidMetH_of_parts3 (fuel := 8) (laidMet_of_run' 8 (by kernel_rfl) (by kernel_rfl)) (by kernel_rfl) (by kernel_rfl)
end Go.Proofs.YtjbgjdjmejhejaaGreatDoor
