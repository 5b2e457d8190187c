import Derived.Test.YtbaijjclofekcaaGreatDoorRV7
import Derived.Test.YtbaijjclofekcaaGreatDoorRV3
import Derived.Test.YtbaijjclofekcaaGreatDoorTie
import Derived.Test.YtbaijjclofekcaaGreatDoorCards
import Derived.ProofKit
import Derived.LaidMore
import Derived.OpenShut
import Derived.Stop.Joined
import Derived.Stop.LaidErr
import Derived.Lib.LaidTab
import Derived.Lib.SmallJoins
import Derived.Carry
import Derived.Test.YtbaijjclofekcaaGreatDoorRV6
import Derived.Test.YtbaijjclofekcaaGreatDoorRows
import Derived.Test.YtbaijjclofekcaaGreatDoorChecked
import Derived.JoinedOf
set_option linter.unusedSimpArgs false
set_option linter.unusedVariables false
namespace Go.Proofs.YtbaijjclofekcaaGreatDoor
open Go.RowKit
set_option maxHeartbeats 4000000 in
set_option maxRecDepth 100000 in
theorem cellsEvents_law (v : Value) (l : List BoxV) (e : EvV) (w : World) (HE : Env w) (hv0 : Bxs w v l) (hfe : evFit e) (hne : ∀ i, i < 4 → -9223372036854775808 ≤ (e.get i).2.1 ∧ (e.get i).2.1 ≤ 9223372036854775807) :
    Calls Tryz.prog 4 #[v, evVal e] w fun r w' => r = .returned (.bool true) ∧ Below w.heap.size w w' := by
  have w6 : 2 ≤ w.heap.size := HE.big
  have HE0 := HE
  obtain ⟨a0, cap0, rfl⟩ : ∃ a0 cap0, v = .slice a0 l.length cap0 := by
    obtain ⟨cs, ⟨_, a, cap, e, _⟩, HA⟩ := hv0
    exact ⟨a, cap, by rw [e, HA.1]⟩
  have D : w.grownBy w none := grown_refl _ _
  go_enter Tryz.func4, Tryz.ntmps4
  refine wp_seq_k (fun K1 hK1 => ?_)
  refine wp_region_lit ?_
  refine wt_boxEv (o := ⟨_, _, _, _, _, _⟩) (by rfl) _ rfl (e) rfl (fun v1 g1 hg G1 kb => ?_)
  simp only [Act.put, lzA, lzB, lzC]
  have ge_g1 : w.heap.size ≤ g1 := Nat.le_trans D.size hg
  have six_g1 : 2 ≤ g1 := Nat.le_trans w6 ge_g1
  clear hg
  replace D := grown_below D kb
  replace HE := HE.on kb
  clear kb
  replace G1 : v1.heap[g1]? = some (.cells #[.int .i64 (e.v0.1), .int .i64 (e.v0.2.1), .string e.v0.2.2, .int .i64 (e.v1.1), .int .i64 (e.v1.2.1), .string e.v1.2.2, .int .i64 (e.v2.1), .int .i64 (e.v2.2.1), .string e.v2.2.2, .int .i64 (e.v3.1), .int .i64 (e.v3.2.1), .string e.v3.2.2] 26 (0, 0)) := G1
  refine wl_yield (o := ⟨_, _, _, _, _, _⟩) (.bool false) (yl_assign (by rfl) _ rfl _ rfl) ?_
  simp only [Act.put, lzA, lzB, lzC]
  refine wpList_nil ?_
  refine hK1 _ _ ?_
  clear hK1 K1
  refine wp_seq_k (fun K2 hK2 => ?_)
  refine wp_seq_k (fun K3 hK3 => ?_)
  refine wp_region_lit ?_
  refine wt_call (o := ⟨_, _, _, _, _, _⟩) (by rfl) 5 _ _ rfl #[] rfl (run_call Tryz.func5 (by kernel_rfl) (by kernel_rfl)) ?_
  refine (awake9_any _ HE).mono ?_
  rintro r v2 ⟨rfl, kb⟩
  replace D := grown_below D kb
  replace HE := HE.on kb
  replace G1 := heap_on G1 kb
  clear kb
  refine Or.inl ⟨.bool true, rfl, ?_⟩
  simp only [Act.put, lzA, lzB, lzC]
  refine wl_yield (o := ⟨_, _, _, _, _, _⟩) (.bool false) (yl_not (by rfl) _ _ rfl true rfl) ?_
  simp only [Act.put, lzA, lzB, lzC]
  refine wl_yield (o := ⟨_, _, _, _, _, _⟩) (.bool false) (yl_move (by rfl) _ rfl _ rfl) ?_
  simp only [Act.put, lzA, lzB, lzC]
  refine wl_yield (o := ⟨_, _, _, _, _, _⟩) (.slice a0 l.length cap0) (yl_move (by rfl) _ rfl _ rfl) ?_
  simp only [Act.put, lzA, lzB, lzC]
  cases hfw : (decide (l.length ≤ 20) && l.all fewBx)
  · refine wt_call (o := ⟨_, _, _, _, _, _⟩) (by rfl) 6 _ _ rfl #[.slice a0 l.length cap0] rfl (run_call Tryz.func6 (by kernel_rfl) (by kernel_rfl)) ?_
    refine (refFew6_any _ l _ (hv0.on (below_none D))).mono ?_
    rintro r v3 (⟨rfl, kb⟩)
    · replace D := grown_below D kb
      replace HE := HE.on kb
      replace G1 := heap_on G1 kb
      clear kb
      refine Or.inl ⟨.bool false, ret_bool hfw, ?_⟩
      simp only [Act.put, lzA, lzB, lzC]
      refine wl_yield (o := ⟨_, _, _, _, _, _⟩) (.bool true) (yl_not (by rfl) _ _ rfl false rfl) ?_
      simp only [Act.put, lzA, lzB, lzC]
      refine wl_yield (o := ⟨_, _, _, _, _, _⟩) (.bool true) (yl_pickF (by rfl) _ _ _ rfl rfl _ rfl) ?_
      simp only [Act.put, lzA, lzB, lzC]
      refine wl_yield (o := ⟨_, _, _, _, _, _⟩) (.bool true) (yl_move (by rfl) _ rfl _ rfl) ?_
      simp only [Act.put, lzA, lzB, lzC]
      with_reducible refine wl_yield (o := ⟨_, _, _, _, _, _⟩) undef (yl_undef (by kernel_rfl)) ?_
      simp only [Act.put, lzA, lzB, lzC]
      with_reducible refine wl_yield (o := ⟨_, _, _, _, _, _⟩) undef (yl_undef (by kernel_rfl)) ?_
      simp only [Act.put, lzA, lzB, lzC]
      with_reducible refine wl_yield (o := ⟨_, _, _, _, _, _⟩) undef (yl_undef (by kernel_rfl)) ?_
      simp only [Act.put, lzA, lzB, lzC]
      refine wl_yield (o := ⟨_, _, _, _, _, _⟩) (.bool true) (yl_pickT (by rfl) _ _ _ rfl rfl _ rfl) ?_
      simp only [Act.put, lzA, lzB, lzC]
      refine wl_yield (o := ⟨_, _, _, _, _, _⟩) (.bool true) (yl_move (by rfl) _ rfl _ rfl) ?_
      simp only [Act.put, lzA, lzB, lzC]
      with_reducible refine wl_yield (o := ⟨_, _, _, _, _, _⟩) undef (yl_undef (by kernel_rfl)) ?_
      simp only [Act.put, lzA, lzB, lzC]
      with_reducible refine wl_yield (o := ⟨_, _, _, _, _, _⟩) undef (yl_undef (by kernel_rfl)) ?_
      simp only [Act.put, lzA, lzB, lzC]
      with_reducible refine wl_yield (o := ⟨_, _, _, _, _, _⟩) undef (yl_undef (by kernel_rfl)) ?_
      simp only [Act.put, lzA, lzB, lzC]
      refine wl_yield (o := ⟨_, _, _, _, _, _⟩) (.bool true) (yl_pickT (by rfl) _ _ _ rfl rfl _ rfl) ?_
      simp only [Act.put, lzA, lzB, lzC]
      refine wpList_nil ?_
      refine hK3 _ _ ?_
      clear hK3 K3
      refine wp_cond_true rfl ?_
      refine wp_seq_k (fun K4 hK4 => ?_)
      refine wp_region_lit ?_
      refine wt_call (o := ⟨_, _, _, _, _, _⟩) (by rfl) 5 _ _ rfl #[] rfl (run_call Tryz.func5 (by kernel_rfl) (by kernel_rfl)) ?_
      refine (awake9_any _ HE).mono ?_
      rintro r v4 ⟨rfl, kb⟩
      replace D := grown_below D kb
      replace HE := HE.on kb
      replace G1 := heap_on G1 kb
      clear kb
      refine Or.inl ⟨.bool true, rfl, ?_⟩
      simp only [Act.put, lzA, lzB, lzC]
      refine wl_yield (o := ⟨_, _, _, _, _, _⟩) (.bool true) (yl_assign (by rfl) _ rfl _ rfl) ?_
      simp only [Act.put, lzA, lzB, lzC]
      refine wpList_nil ?_
      refine hK4 _ _ ?_
      clear hK4 K4
      refine wp_ret ?_
      try simp only [Exit.inBlock, Exit.then]
      go_ret
      exact ⟨rfl, below_none D⟩
  · have hfb : l.length ≤ 20 ∧ l.all fewBx = true := by
      rw [Bool.and_eq_true] at hfw
      exact ⟨of_decide_eq_true hfw.1, hfw.2⟩
    refine wt_call (o := ⟨_, _, _, _, _, _⟩) (by rfl) 6 _ _ rfl #[.slice a0 l.length cap0] rfl (run_call Tryz.func6 (by kernel_rfl) (by kernel_rfl)) ?_
    refine (refFew6_any _ l _ (hv0.on (below_none D))).mono ?_
    rintro r v3 (⟨rfl, kb⟩)
    · replace D := grown_below D kb
      replace HE := HE.on kb
      replace G1 := heap_on G1 kb
      clear kb
      refine Or.inl ⟨.bool true, ret_bool hfw, ?_⟩
      simp only [Act.put, lzA, lzB, lzC]
      refine wl_yield (o := ⟨_, _, _, _, _, _⟩) (.bool false) (yl_not (by rfl) _ _ rfl true rfl) ?_
      simp only [Act.put, lzA, lzB, lzC]
      refine wl_yield (o := ⟨_, _, _, _, _, _⟩) (.bool false) (yl_pickF (by rfl) _ _ _ rfl rfl _ rfl) ?_
      simp only [Act.put, lzA, lzB, lzC]
      refine wl_yield (o := ⟨_, _, _, _, _, _⟩) (.bool false) (yl_move (by rfl) _ rfl _ rfl) ?_
      simp only [Act.put, lzA, lzB, lzC]
      refine wl_yield (o := ⟨_, _, _, _, _, _⟩) (.slice a0 l.length cap0) (yl_move (by rfl) _ rfl _ rfl) ?_
      simp only [Act.put, lzA, lzB, lzC]
      cases hrt : rightF l
      · refine wt_call (o := ⟨_, _, _, _, _, _⟩) (by rfl) 7 _ _ rfl #[.slice a0 l.length cap0] rfl (run_call Tryz.func7 (by kernel_rfl) (by kernel_rfl)) ?_
        refine (refRight6_all _ l _ (hv0.on (below_none D)) (mid_small (hv0.on (below_none D)))).mono ?_
        rintro r v4 (⟨rfl, kb⟩)
        · replace D := grown_below D kb
          replace HE := HE.on kb
          replace G1 := heap_on G1 kb
          clear kb
          refine Or.inl ⟨.bool false, ret_bool hrt, ?_⟩
          simp only [Act.put, lzA, lzB, lzC]
          refine wl_yield (o := ⟨_, _, _, _, _, _⟩) (.bool true) (yl_not (by rfl) _ _ rfl false rfl) ?_
          simp only [Act.put, lzA, lzB, lzC]
          refine wl_yield (o := ⟨_, _, _, _, _, _⟩) (.bool true) (yl_pickF (by rfl) _ _ _ rfl rfl _ rfl) ?_
          simp only [Act.put, lzA, lzB, lzC]
          refine wl_yield (o := ⟨_, _, _, _, _, _⟩) (.bool true) (yl_move (by rfl) _ rfl _ rfl) ?_
          simp only [Act.put, lzA, lzB, lzC]
          with_reducible refine wl_yield (o := ⟨_, _, _, _, _, _⟩) undef (yl_undef (by kernel_rfl)) ?_
          simp only [Act.put, lzA, lzB, lzC]
          with_reducible refine wl_yield (o := ⟨_, _, _, _, _, _⟩) undef (yl_undef (by kernel_rfl)) ?_
          simp only [Act.put, lzA, lzB, lzC]
          with_reducible refine wl_yield (o := ⟨_, _, _, _, _, _⟩) undef (yl_undef (by kernel_rfl)) ?_
          simp only [Act.put, lzA, lzB, lzC]
          refine wl_yield (o := ⟨_, _, _, _, _, _⟩) (.bool true) (yl_pickT (by rfl) _ _ _ rfl rfl _ rfl) ?_
          simp only [Act.put, lzA, lzB, lzC]
          refine wpList_nil ?_
          refine hK3 _ _ ?_
          clear hK3 K3
          refine wp_cond_true rfl ?_
          refine wp_seq_k (fun K4 hK4 => ?_)
          refine wp_region_lit ?_
          refine wt_call (o := ⟨_, _, _, _, _, _⟩) (by rfl) 5 _ _ rfl #[] rfl (run_call Tryz.func5 (by kernel_rfl) (by kernel_rfl)) ?_
          refine (awake9_any _ HE).mono ?_
          rintro r v5 ⟨rfl, kb⟩
          replace D := grown_below D kb
          replace HE := HE.on kb
          replace G1 := heap_on G1 kb
          clear kb
          refine Or.inl ⟨.bool true, rfl, ?_⟩
          simp only [Act.put, lzA, lzB, lzC]
          refine wl_yield (o := ⟨_, _, _, _, _, _⟩) (.bool true) (yl_assign (by rfl) _ rfl _ rfl) ?_
          simp only [Act.put, lzA, lzB, lzC]
          refine wpList_nil ?_
          refine hK4 _ _ ?_
          clear hK4 K4
          refine wp_ret ?_
          try simp only [Exit.inBlock, Exit.then]
          go_ret
          exact ⟨rfl, below_none D⟩
      · have hlen0 := rightF_len hrt
        have hfc : ∀ i, i < 4 → FewC (attrL l i) := fun i hi => fewC_attr hfb.2 (by omega) hi
        have hil : ∀ i, i < 4 → InL (attrL l i) := fun i hi => Bxs.inL hv0 hi
        refine wt_call (o := ⟨_, _, _, _, _, _⟩) (by rfl) 7 _ _ rfl #[.slice a0 l.length cap0] rfl (run_call Tryz.func7 (by kernel_rfl) (by kernel_rfl)) ?_
        refine (refRight6_all _ l _ (hv0.on (below_none D)) (mid_small (hv0.on (below_none D)))).mono ?_
        rintro r v4 (⟨rfl, kb⟩)
        · replace D := grown_below D kb
          replace HE := HE.on kb
          replace G1 := heap_on G1 kb
          clear kb
          refine Or.inl ⟨.bool true, ret_bool hrt, ?_⟩
          simp only [Act.put, lzA, lzB, lzC]
          refine wl_yield (o := ⟨_, _, _, _, _, _⟩) (.bool false) (yl_not (by rfl) _ _ rfl true rfl) ?_
          simp only [Act.put, lzA, lzB, lzC]
          refine wl_yield (o := ⟨_, _, _, _, _, _⟩) (.bool false) (yl_pickF (by rfl) _ _ _ rfl rfl _ rfl) ?_
          simp only [Act.put, lzA, lzB, lzC]
          refine wl_yield (o := ⟨_, _, _, _, _, _⟩) (.bool false) (yl_move (by rfl) _ rfl _ rfl) ?_
          simp only [Act.put, lzA, lzB, lzC]
          refine wl_yield (o := ⟨_, _, _, _, _, _⟩) (.slice a0 l.length cap0) (yl_move (by rfl) _ rfl _ rfl) ?_
          simp only [Act.put, lzA, lzB, lzC]
          rcases Decidable.em (5000 < cntU (fun i => (cutL (attrL l i)).length) 4) with hc5 | hc5
          · refine wt_call (o := ⟨_, _, _, _, _, _⟩) (by rfl) 12 _ _ rfl #[.slice a0 l.length cap0] rfl (run_call Tryz.func12 (by kernel_rfl) (by kernel_rfl)) ?_
            refine (refCount9_any _ l _ (hv0.on (below_none D)) (by omega) hfc).mono ?_
            rintro r v5 (⟨rfl, kb⟩)
            · replace D := grown_below D kb
              replace HE := HE.on kb
              replace G1 := heap_on G1 kb
              clear kb
              refine Or.inl ⟨.int .i64 (cntU (fun i => (cutL (attrL l i)).length) 4 : Nat), rfl, ?_⟩
              simp only [Act.put, lzA, lzB, lzC]
              refine wl_yield (o := ⟨_, _, _, _, _, _⟩) (.bool true) (yt_gtrI (by rfl) _ _ _ rfl ((cntU (fun i => (cutL (attrL l i)).length) 4 : Nat) : Int) 5000 true rfl rfl (decide_eq_true (by omega))) ?_
              simp only [Act.put, lzA, lzB, lzC]
              refine wl_yield (o := ⟨_, _, _, _, _, _⟩) (.bool true) (yl_pickF (by rfl) _ _ _ rfl rfl _ rfl) ?_
              simp only [Act.put, lzA, lzB, lzC]
              refine wpList_nil ?_
              refine hK3 _ _ ?_
              clear hK3 K3
              refine wp_cond_true rfl ?_
              refine wp_seq_k (fun K4 hK4 => ?_)
              refine wp_region_lit ?_
              refine wt_call (o := ⟨_, _, _, _, _, _⟩) (by rfl) 5 _ _ rfl #[] rfl (run_call Tryz.func5 (by kernel_rfl) (by kernel_rfl)) ?_
              refine (awake9_any _ HE).mono ?_
              rintro r v6 ⟨rfl, kb⟩
              replace D := grown_below D kb
              replace HE := HE.on kb
              replace G1 := heap_on G1 kb
              clear kb
              refine Or.inl ⟨.bool true, rfl, ?_⟩
              simp only [Act.put, lzA, lzB, lzC]
              refine wl_yield (o := ⟨_, _, _, _, _, _⟩) (.bool true) (yl_assign (by rfl) _ rfl _ rfl) ?_
              simp only [Act.put, lzA, lzB, lzC]
              refine wpList_nil ?_
              refine hK4 _ _ ?_
              clear hK4 K4
              refine wp_ret ?_
              try simp only [Exit.inBlock, Exit.then]
              go_ret
              exact ⟨rfl, below_none D⟩
          · refine wt_call (o := ⟨_, _, _, _, _, _⟩) (by rfl) 12 _ _ rfl #[.slice a0 l.length cap0] rfl (run_call Tryz.func12 (by kernel_rfl) (by kernel_rfl)) ?_
            refine (refCount9_any _ l _ (hv0.on (below_none D)) (by omega) hfc).mono ?_
            rintro r v5 (⟨rfl, kb⟩)
            · replace D := grown_below D kb
              replace HE := HE.on kb
              replace G1 := heap_on G1 kb
              clear kb
              refine Or.inl ⟨.int .i64 (cntU (fun i => (cutL (attrL l i)).length) 4 : Nat), rfl, ?_⟩
              simp only [Act.put, lzA, lzB, lzC]
              refine wl_yield (o := ⟨_, _, _, _, _, _⟩) (.bool false) (yt_gtrI (by rfl) _ _ _ rfl ((cntU (fun i => (cutL (attrL l i)).length) 4 : Nat) : Int) 5000 false rfl rfl (decide_eq_false (by omega))) ?_
              simp only [Act.put, lzA, lzB, lzC]
              refine wl_yield (o := ⟨_, _, _, _, _, _⟩) (.bool false) (yl_pickF (by rfl) _ _ _ rfl rfl _ rfl) ?_
              simp only [Act.put, lzA, lzB, lzC]
              refine wpList_nil ?_
              refine hK3 _ _ ?_
              clear hK3 K3
              refine wp_cond_false rfl ?_
              refine wp_skip ?_
              refine hK2 _ _ ?_
              clear hK2 K2
              refine wp_seq_k (fun K4 hK4 => ?_)
              refine wp_region_lit ?_
              refine wl_yield (o := ⟨_, _, _, _, _, _⟩) (.slice a0 l.length cap0) (yl_move (by rfl) _ rfl _ rfl) ?_
              simp only [Act.put, lzA, lzB, lzC]
              refine wq_row1F (o := ⟨_, _, _, _, _, _⟩) (by rfl) _ rfl a0 l.length cap0 rfl (fun v6 g6 hg G6 kb => ?_)
              simp only [Act.put, lzA, lzB, lzC]
              have n_g1_g6 : g1 ≠ g6 := by have := lt_heap G1; omega
              have ge_g6 : w.heap.size ≤ g6 := Nat.le_trans D.size hg
              have six_g6 : 2 ≤ g6 := Nat.le_trans w6 ge_g6
              clear hg
              replace D := grown_below D kb
              replace HE := HE.on kb
              replace G1 := heap_on G1 kb
              clear kb
              have hc5k : ¬ 5000 < cntU (fun i => (cutL (attrL l i)).length) 4 := by first | exact hc5 | (intro h; omega)
              have hwV := D.size
              have hg3V := lt_heap G1
              refine wt_call (o := ⟨_, _, _, _, _, _⟩) (by rfl) 8 _ _ rfl #[.slice (some ⟨g6, 0, none⟩) 1 1] rfl (run_call Tryz.func8 (by kernel_rfl) (by kernel_rfl)) ?_
              refine (new_any g6 [l] (fun k => .slice a0 l.length cap0) _ (lt_heap G6)
                (fun k hk => match k, hk with
                  | 0, _ => cell_heap G6 0)
                (fun k hk => match k, hk with
                  | 0, _ => (hv0.on (below_none D))) (by simp)
                (fun m hm => by
                  simp only [List.mem_cons, List.not_mem_nil, or_false] at hm
                  subst hm; omega)
                (fun m hm x hx j hj => by
                  simp only [List.mem_cons, List.not_mem_nil, or_false] at hm
                  subst hm
                  exact fewBx_sz hfb.2 hx hj)).mono ?_
              rintro r v7 (⟨⟨b, rfl, hb, NG⟩, kb⟩)
              · replace D := grown_below D kb
                replace HE := HE.on kb
                replace G1 := heap_on G1 kb
                clear kb
                have OK : GridN v7 b (fun i => attrL l i) := by
                  have e : ([l] : List (List BoxV)).flatten = l := by simp
                  rw [e] at NG; exact NG
                clear NG
                have hb0 : w.heap.size ≤ b := Nat.le_trans hwV hb
                have six_b : 2 ≤ b := Nat.le_trans w6 hb0
                have ge_b := hb0
                have n_b_g1 : b ≠ g1 := by omega
                clear hb
                refine Or.inl ⟨.pointer (some ⟨b, 0, none⟩), rfl, ?_⟩
                simp only [Act.put, lzA, lzB, lzC]
                have hmV := D.size
                refine wt_call (o := ⟨_, _, _, _, _, _⟩) (by rfl) 17 _ _ rfl #[.pointer (some ⟨b, 0, none⟩)] rfl (run_call Tryz.func17 (by kernel_rfl) (by kernel_rfl)) ?_
                refine (events_any (b + 1) b (fun i => attrL l i) _ HE six_b (GridN.ok OK _) hfc hil (GridN.lt OK) (by omega)).mono ?_
                rintro r v8 (⟨⟨u5, rfl, OA⟩, GL, kg⟩)
                · replace D := gr_new D ge_b kg
                  replace HE := Env.gr HE kg six_b
                  replace G1 := heap_gr G1 kg (Ne.symm n_b_g1)
                  clear kg
                  clear OK GL
                  have hA0 : OwnE9 v8 w.heap.size u5 (evsL (fun i => cutL (attrL l i)) 4) := OwnE9.mono OA hmV
                  clear OA
                  refine Or.inl ⟨u5, rfl, ?_⟩
                  simp only [Act.put, lzA, lzB, lzC]
                  refine wl_yield (o := ⟨_, _, _, _, _, _⟩) (.slice a0 l.length cap0) (yl_move (by rfl) _ rfl _ rfl) ?_
                  simp only [Act.put, lzA, lzB, lzC]
                  have hmV2 := D.size
                  refine wt_call (o := ⟨_, _, _, _, _, _⟩) (by rfl) 18 _ _ rfl #[.slice a0 l.length cap0] rfl (run_call Tryz.func18 (by kernel_rfl) (by kernel_rfl)) ?_
                  refine (refEvents9_any _ l _ (hv0.on (below_none D)) (by omega) hfc hil (by omega)).mono ?_
                  rintro r v9 (⟨⟨u6, rfl, OB⟩, kb⟩)
                  · replace D := grown_below D kb
                    replace HE := HE.on kb
                    replace G1 := heap_on G1 kb
                    replace hA0 := OwnE9.on hA0 kb
                    clear kb
                    have hB0 : OwnE9 v9 w.heap.size u6 (evsL (fun i => cutL (attrL l i)) 4) := OwnE9.mono OB hmV2
                    clear OB
                    have h3 : ∀ j, j < 4 → 3 ≤ (cutL (attrL l j)).length := fun j _ => cutL_len (attrL l j)
                    have hfew := evs_few (C := (fun i => cutL (attrL l i))) h3 (by omega) (k := 4) (by omega)
                    have hwfA := evsL_wf (C := (fun i => cutL (attrL l i))) (fun j hj => fit_cut (hil j hj) (hfc j hj)) 4 (by omega)
                    have hlenA : (evsL (fun i => cutL (attrL l i)) 4).length = cntU (fun i => (cutL (attrL l i)).length) 4 := by
                      rw [evsL_len, cnt_prod (ns := fun i => (cutL (attrL l i)).length) (fun j hj => by have := h3 j hj; show 1 ≤ (cutL (attrL l j)).length; omega) (by omega) 4 (by omega)]
                    have hfnd : ∀ b ∈ l, hasE b e = true → ∃ v ∈ evsL (fun i => cutL (attrL l i)) 4, hasE b v = true := fun b hb he => evs_found hil hfc hb (fun i hi => rightF_set hrt hb hi) hne he
                    generalize hEs : evsL (fun i => cutL (attrL l i)) 4 = es at hA0 hB0 hfew hwfA hlenA hfnd
                    obtain ⟨-, aA, capA, rfl, hrowA⟩ := OwnE9.row hA0 (by omega)
                    obtain ⟨-, aB, capB, rfl, hrowB⟩ := OwnE9.row hB0 (by omega)
                    clear hA0 hB0
                    have D5 : v9.grownBy v9 none := grown_refl _ _
                    refine Or.inl ⟨.slice aB es.length capB, rfl, ?_⟩
                    simp only [Act.put, lzA, lzB, lzC]
                    refine wl_yield (o := ⟨_, _, _, _, _, _⟩) (.slice aA es.length capA) (yl_assign (by rfl) _ rfl _ rfl) ?_
                    simp only [Act.put, lzA, lzB, lzC]
                    refine wl_yield (o := ⟨_, _, _, _, _, _⟩) (.slice aB es.length capB) (yl_assign (by rfl) _ rfl _ rfl) ?_
                    simp only [Act.put, lzA, lzB, lzC]
                    refine wpList_nil ?_
                    refine hK4 _ _ ?_
                    clear hK4 K4
                    refine wp_seq_k (fun K5 hK5 => ?_)
                    refine wp_seq_k (fun K6 hK6 => ?_)
                    refine wp_region_lit ?_
                    refine wl_yield (o := ⟨_, _, _, _, _, _⟩) (.slice aA es.length capA) (yl_move (by rfl) _ rfl _ rfl) ?_
                    simp only [Act.put, lzA, lzB, lzC]
                    refine wl_yield (o := ⟨_, _, _, _, _, _⟩) (.int .i64 (es.length : Nat)) (yt_lenV (by rfl) _ rfl aA es.length capA rfl) ?_
                    simp only [Act.put, lzA, lzB, lzC]
                    refine wl_yield (o := ⟨_, _, _, _, _, _⟩) (.slice aB es.length capB) (yl_move (by rfl) _ rfl _ rfl) ?_
                    simp only [Act.put, lzA, lzB, lzC]
                    refine wl_yield (o := ⟨_, _, _, _, _, _⟩) (.int .i64 (es.length : Nat)) (yt_lenV (by rfl) _ rfl aB es.length capB rfl) ?_
                    simp only [Act.put, lzA, lzB, lzC]
                    refine wl_yield (o := ⟨_, _, _, _, _, _⟩) (.bool false) (yt_neqI (by rfl) _ _ _ rfl ((es.length : Nat) : Int) ((es.length : Nat) : Int) false rfl rfl (decide_eq_false (fun h => h rfl))) ?_
                    simp only [Act.put, lzA, lzB, lzC]
                    refine wpList_nil ?_
                    refine hK6 _ _ ?_
                    clear hK6 K6
                    refine wp_cond_false rfl ?_
                    refine wp_skip ?_
                    refine hK5 _ _ ?_
                    clear hK5 K5
                    refine wp_seq_k (fun K7 hK7 => ?_)
                    refine wp_seq_k (fun K8 hK8 => ?_)
                    refine wp_region_lit ?_
                    refine wl_yield (o := ⟨_, _, _, _, _, _⟩) (.slice aA es.length capA) (yl_move (by rfl) _ rfl _ rfl) ?_
                    simp only [Act.put, lzA, lzB, lzC]
                    refine wl_yield (o := ⟨_, _, _, _, _, _⟩) (.int .i64 (es.length : Nat)) (yt_lenV (by rfl) _ rfl aA es.length capA rfl) ?_
                    simp only [Act.put, lzA, lzB, lzC]
                    refine wl_yield (o := ⟨_, _, _, _, _, _⟩) (.int .i64 0) (yl_move (by rfl) _ rfl _ rfl) ?_
                    simp only [Act.put, lzA, lzB, lzC]
                    refine wpList_nil ?_
                    refine hK8 _ _ ?_
                    clear hK8 K8
                    refine wp_block ?_
                    go_loopw [44] (fun n wr => ∃ (k : Nat), n = .int .i64 ((k : Nat) : Int) ∧ k ≤ es.length ∧ wr.heap[g1]? = some (.cells #[.int .i64 (e.v0.1), .int .i64 (e.v0.2.1), .string e.v0.2.2, .int .i64 (e.v1.1), .int .i64 (e.v1.2.1), .string e.v1.2.2, .int .i64 (e.v2.1), .int .i64 (e.v2.2.1), .string e.v2.2.2, .int .i64 (e.v3.1), .int .i64 (e.v3.2.1), .string e.v3.2.2] 26 (0, 0)) ∧ v9.grownBy wr none ∧ w.grownBy wr none) (fun n _ => es.length - (intOf n).toNat)
                    case atStart => exact ⟨0, rfl, Nat.zero_le _, G1, D5, D⟩
                    case round =>
                      clear D D5 HE G1
                      obtain ⟨k, rfl, hk, G1, D5, D⟩ := hrel
                      by_cases hlt : k < es.length
                      · have hwf : wfE (es.getD k evZ) := hwfA _ (gD_mem hlt)
                        obtain ⟨gA, oA, rfl, hgA, hrA⟩ := hrowA k hlt
                        obtain ⟨gB, oB, rfl, hgB, hrB⟩ := hrowB k hlt
                        generalize he9 : es.getD k evZ = e9 at hwf hrA hrB
                        have cellA := fun (W : World) (D : v9.grownBy W none) => evRow_cells (rangeAt_on hrA ((below_none D).block gA hgA))
                        have cellB := fun (W : World) (D : v9.grownBy W none) => evRow_cells (rangeAt_on hrB ((below_none D).block gB hgB))
                        refine wp_seq_k (fun K9 hK9 => ?_)
                        refine wp_region_lit ?_
                        refine wl_yield (o := ⟨_, _, _, _, _, _⟩) (.bool true) (yt_lssI (by rfl) _ _ _ rfl ((k : Nat) : Int) ((es.length : Nat) : Int) true rfl rfl (decide_eq_true (by omega))) ?_
                        simp only [Act.put, lzA, lzB, lzC]
                        refine wpList_nil ?_
                        refine hK9 _ _ ?_
                        clear hK9 K9
                        refine wp_seq_k (fun K10 hK10 => ?_)
                        refine wp_cond_true rfl ?_
                        refine wp_skip ?_
                        refine hK10 _ _ ?_
                        clear hK10 K10
                        refine wp_seq_k (fun K11 hK11 => ?_)
                        refine wp_block ?_
                        refine wp_seq_k (fun K12 hK12 => ?_)
                        refine wp_region_lit ?_
                        refine wl_yield (o := ⟨_, _, _, _, _, _⟩) (.int .i64 (k : Nat)) (yl_move (by rfl) _ rfl _ rfl) ?_
                        simp only [Act.put, lzA, lzB, lzC]
                        refine wl_yield (o := ⟨_, _, _, _, _, _⟩) (.int .i64 (k : Nat)) (yl_assign (by rfl) _ rfl _ rfl) ?_
                        simp only [Act.put, lzA, lzB, lzC]
                        refine wpList_nil ?_
                        refine hK12 _ _ ?_
                        clear hK12 K12
                        refine wp_seq_k (fun K13 hK13 => ?_)
                        refine wp_region_late (S := fun w' => (w'.cell? ⟨gA, oA + k * 12, none⟩ = some (.int .i64 e9.v0.1) ∧ w'.cell? ⟨gA, oA + k * 12 + 1, none⟩ = some (.int .i64 e9.v0.2.1) ∧ w'.cell? ⟨gA, oA + k * 12 + 2, none⟩ = some (.string e9.v0.2.2) ∧ w'.cell? ⟨gA, oA + k * 12 + 3, none⟩ = some (.int .i64 e9.v1.1) ∧ w'.cell? ⟨gA, oA + k * 12 + 4, none⟩ = some (.int .i64 e9.v1.2.1) ∧ w'.cell? ⟨gA, oA + k * 12 + 5, none⟩ = some (.string e9.v1.2.2) ∧ w'.cell? ⟨gA, oA + k * 12 + 6, none⟩ = some (.int .i64 e9.v2.1) ∧ w'.cell? ⟨gA, oA + k * 12 + 7, none⟩ = some (.int .i64 e9.v2.2.1) ∧ w'.cell? ⟨gA, oA + k * 12 + 8, none⟩ = some (.string e9.v2.2.2) ∧ w'.cell? ⟨gA, oA + k * 12 + 9, none⟩ = some (.int .i64 e9.v3.1) ∧ w'.cell? ⟨gA, oA + k * 12 + 10, none⟩ = some (.int .i64 e9.v3.2.1) ∧ w'.cell? ⟨gA, oA + k * 12 + 11, none⟩ = some (.string e9.v3.2.2)) ∧ (w'.cell? ⟨gB, oB + k * 12, none⟩ = some (.int .i64 e9.v0.1) ∧ w'.cell? ⟨gB, oB + k * 12 + 1, none⟩ = some (.int .i64 e9.v0.2.1) ∧ w'.cell? ⟨gB, oB + k * 12 + 2, none⟩ = some (.string e9.v0.2.2) ∧ w'.cell? ⟨gB, oB + k * 12 + 3, none⟩ = some (.int .i64 e9.v1.1) ∧ w'.cell? ⟨gB, oB + k * 12 + 4, none⟩ = some (.int .i64 e9.v1.2.1) ∧ w'.cell? ⟨gB, oB + k * 12 + 5, none⟩ = some (.string e9.v1.2.2) ∧ w'.cell? ⟨gB, oB + k * 12 + 6, none⟩ = some (.int .i64 e9.v2.1) ∧ w'.cell? ⟨gB, oB + k * 12 + 7, none⟩ = some (.int .i64 e9.v2.2.1) ∧ w'.cell? ⟨gB, oB + k * 12 + 8, none⟩ = some (.string e9.v2.2.2) ∧ w'.cell? ⟨gB, oB + k * 12 + 9, none⟩ = some (.int .i64 e9.v3.1) ∧ w'.cell? ⟨gB, oB + k * 12 + 10, none⟩ = some (.int .i64 e9.v3.2.1) ∧ w'.cell? ⟨gB, oB + k * 12 + 11, none⟩ = some (.string e9.v3.2.2))) (late := fun j => [].contains j) (by kernel_rfl) ?_
                        have kb : Below wr.heap.size wr wr.drew := (Below.refl _ wr).drew
                        replace D := grown_below D kb
                        replace G1 := heap_on G1 kb
                        replace D5 := grown_below D5 kb
                        clear kb
                        generalize wr.drew = v10 at D G1 D5 ⊢
                        refine wpAnyL_pure (i := 0) (oi := ⟨_, _, _, _, _, _⟩) (v := .slice (some ⟨gA, oA, none⟩) es.length capA) rfl (by kernel_rfl) (by kernel_rfl) (by kernel_rfl) (fun _ _ _ h => h) (yl_move (by rfl) _ rfl _ rfl) ?_
                        simp only [Act.put, lzA, lzB, lzC]
                        refine wpAnyL_pure (i := 1) (oi := ⟨_, _, _, _, _, _⟩) (v := .int .i64 (k : Nat)) rfl (by kernel_rfl) (by kernel_rfl) (by kernel_rfl) (fun _ _ _ h => h) (yl_move (by rfl) _ rfl _ rfl) ?_
                        simp only [Act.put, lzA, lzB, lzC]
                        refine wpAnyL_pure (i := 2) (oi := ⟨_, _, _, _, _, _⟩) (v := .pointer (some ⟨gA, oA + k * 12, none⟩)) rfl (by kernel_rfl) (by kernel_rfl) (by kernel_rfl) (fun _ _ _ h => h) (yt_atV (by rfl) _ _ rfl gA oA _ _ k rfl rfl (hlt)) ?_
                        simp only [Act.put, lzA, lzB, lzC]
                        refine wpAnyL_load (i := 3) (oi := ⟨_, _, _, _, _, _⟩) (v := evVal e9) rfl (by kernel_rfl) (by kernel_rfl) (by kernel_rfl) (by kernel_rfl) (fun _ _ _ h => h) (yl_ev (by rfl) _ rfl _ _ rfl _ _ _ _ _ _ _ _ _ _ _ _ (fun _ h => h.1)) ⟨cellA _ D5, cellB _ D5⟩ ?_
                        simp only [Act.put, lzA, lzB, lzC]
                        refine wpAnyL_pure (i := 4) (oi := ⟨_, _, _, _, _, _⟩) (v := .slice (some ⟨gB, oB, none⟩) es.length capB) rfl (by kernel_rfl) (by kernel_rfl) (by kernel_rfl) (fun _ _ _ h => h) (yl_move (by rfl) _ rfl _ rfl) ?_
                        simp only [Act.put, lzA, lzB, lzC]
                        refine wpAnyL_pure (i := 5) (oi := ⟨_, _, _, _, _, _⟩) (v := .int .i64 (k : Nat)) rfl (by kernel_rfl) (by kernel_rfl) (by kernel_rfl) (fun _ _ _ h => h) (yl_move (by rfl) _ rfl _ rfl) ?_
                        simp only [Act.put, lzA, lzB, lzC]
                        refine wpAnyL_pure (i := 6) (oi := ⟨_, _, _, _, _, _⟩) (v := .pointer (some ⟨gB, oB + k * 12, none⟩)) rfl (by kernel_rfl) (by kernel_rfl) (by kernel_rfl) (fun _ _ _ h => h) (yt_atV (by rfl) _ _ rfl gB oB _ _ k rfl rfl (hlt)) ?_
                        simp only [Act.put, lzA, lzB, lzC]
                        refine wpAnyL_load (i := 7) (oi := ⟨_, _, _, _, _, _⟩) (v := evVal e9) rfl (by kernel_rfl) (by kernel_rfl) (by kernel_rfl) (by kernel_rfl) (fun _ _ _ h => h) (yl_ev (by rfl) _ rfl _ _ rfl _ _ _ _ _ _ _ _ _ _ _ _ (fun _ h => h.2)) ⟨cellA _ D5, cellB _ D5⟩ ?_
                        simp only [Act.put, lzA, lzB, lzC]
                        refine wpAnyL_pure (i := 8) (oi := ⟨_, _, _, _, _, _⟩) (v := .bool false) rfl (by kernel_rfl) (by kernel_rfl) (by kernel_rfl) (fun _ _ _ h => h) (yt_neqEv (by rfl) _ _ _ rfl e9 e9 hwf hwf false rfl rfl ⟨fun h => (by cases h), fun h => absurd rfl h⟩) ?_
                        simp only [Act.put, lzA, lzB, lzC]
                        refine wpAnyL_done (by kernel_rfl) ?_ _
                        refine hK13 _ _ ?_
                        clear hK13 K13
                        refine wp_cond_false rfl ?_
                        refine wp_skip ?_
                        refine hK11 _ _ ?_
                        clear hK11 K11
                        refine wp_region_lit ?_
                        refine wl_yield (o := ⟨_, _, _, _, _, _⟩) (.int .i64 (k + 1 : Nat)) (yt_addI (by rfl) _ _ _ rfl ((k : Nat) : Int) 1 ((k + 1 : Nat) : Int) rfl rfl (by omega) (by omega) (by omega)) ?_
                        simp only [Act.put, lzA, lzB, lzC]
                        refine wl_yield (o := ⟨_, _, _, _, _, _⟩) (.int .i64 (k + 1 : Nat)) (yl_move (by rfl) _ rfl _ rfl) ?_
                        simp only [Act.put, lzA, lzB, lzC]
                        refine wpList_nil ?_
                        show _ ∧ _
                        go_roundw
                        case rel => exact ⟨k + 1, rfl, by omega, G1, D5, D⟩
                        case measure => simp [intOf]; omega
                      · obtain rfl : k = es.length := by omega
                        refine wp_seq_k (fun K9 hK9 => ?_)
                        refine wp_region_lit ?_
                        refine wl_yield (o := ⟨_, _, _, _, _, _⟩) (.bool false) (yt_lssI (by rfl) _ _ _ rfl ((es.length : Nat) : Int) ((es.length : Nat) : Int) false rfl rfl (decide_eq_false (by omega))) ?_
                        simp only [Act.put, lzA, lzB, lzC]
                        refine wpList_nil ?_
                        refine hK9 _ _ ?_
                        clear hK9 K9
                        refine wp_seq_k (fun K10 hK10 => ?_)
                        refine wp_cond_false rfl ?_
                        refine wp_exit ?_
                        refine hK7 _ _ ?_
                        clear hK10 K10 hK7 K7
                        refine wp_seq_k (fun K11 hK11 => ?_)
                        refine wp_seq_k (fun K12 hK12 => ?_)
                        refine wp_region_lit ?_
                        refine wl_yield (o := ⟨_, _, _, _, _, _⟩) (.slice a0 l.length cap0) (yl_move (by rfl) _ rfl _ rfl) ?_
                        simp only [Act.put, lzA, lzB, lzC]
                        refine wl_yield (o := ⟨_, _, _, _, _, _⟩) (.int .i64 (l.length : Nat)) (yt_lenBx (by rfl) _ rfl a0 l.length cap0 rfl) ?_
                        simp only [Act.put, lzA, lzB, lzC]
                        refine wl_yield (o := ⟨_, _, _, _, _, _⟩) (.int .i64 0) (yl_move (by rfl) _ rfl _ rfl) ?_
                        simp only [Act.put, lzA, lzB, lzC]
                        refine wpList_nil ?_
                        refine hK12 _ _ ?_
                        clear hK12 K12
                        refine wp_block ?_
                        obtain ⟨bs9, ⟨hbs9, aX, capX, hvX, hrowX⟩, HAX⟩ := hv0
                        have hclX := HAX.1
                        injection hvX with hx1 hx2 hx3
                        subst hx1
                        go_loopw [59] (fun n wr => ∃ (q : Nat), n = .int .i64 ((q : Nat) : Int) ∧ q ≤ l.length ∧ wr.heap[g1]? = some (.cells #[.int .i64 (e.v0.1), .int .i64 (e.v0.2.1), .string e.v0.2.2, .int .i64 (e.v1.1), .int .i64 (e.v1.2.1), .string e.v1.2.2, .int .i64 (e.v2.1), .int .i64 (e.v2.2.1), .string e.v2.2.2, .int .i64 (e.v3.1), .int .i64 (e.v3.2.1), .string e.v3.2.2] 26 (0, 0)) ∧ v9.grownBy wr none ∧ w.grownBy wr none) (fun n _ => l.length - (intOf n).toNat)
                        case atStart => exact ⟨0, rfl, Nat.zero_le _, G1, D5, D⟩
                        case round =>
                          clear D D5 G1
                          obtain ⟨q, rfl, hq, G1, D5, D⟩ := hrel
                          by_cases hlq : q < l.length
                          · obtain ⟨gX, oX, rfl, hgX, hrX⟩ := hrowX q (by omega)
                            have HAq := HAX.2 q hlq
                            have hmem : l.getD q zBox ∈ l := gD_mem hlq
                            have HBc : BcAt w gX (oX + q * 16) (bs9.getD q bc0) := ⟨hgX, hrX⟩
                            have cellX := fun (W : World) (D : w.grownBy W none) => HBc.on (below_none D)
                            generalize hbx : l.getD q zBox = bx at HAq hmem
                            generalize bs9.getD q bc0 = c9 at HAq hrX cellX HBc
                            have hfound : (!hasE bx e || es.any (hasE bx)) = true := by
                              cases hE : hasE bx e
                              · rfl
                              · obtain ⟨v, hv, hh⟩ := hfnd bx hmem hE
                                exact List.any_eq_true.2 ⟨v, hv, hh⟩
                            refine wp_seq_k (fun K13 hK13 => ?_)
                            refine wp_region_lit ?_
                            refine wl_yield (o := ⟨_, _, _, _, _, _⟩) (.bool true) (yt_lssI (by rfl) _ _ _ rfl ((q : Nat) : Int) ((l.length : Nat) : Int) true rfl rfl (decide_eq_true (by omega))) ?_
                            simp only [Act.put, lzA, lzB, lzC]
                            refine wpList_nil ?_
                            refine hK13 _ _ ?_
                            clear hK13 K13
                            refine wp_seq_k (fun K14 hK14 => ?_)
                            refine wp_cond_true rfl ?_
                            refine wp_skip ?_
                            refine hK14 _ _ ?_
                            clear hK14 K14
                            refine wp_seq_k (fun K15 hK15 => ?_)
                            refine wp_block ?_
                            refine wp_seq_k (fun K16 hK16 => ?_)
                            refine wp_region_lit ?_
                            refine wl_yield (o := ⟨_, _, _, _, _, _⟩) (.pointer (some ⟨gX, oX + q * 16, none⟩)) (yt_atBx (by rfl) _ _ rfl gX oX _ _ q rfl rfl (hlq)) ?_
                            simp only [Act.put, lzA, lzB, lzC]
                            refine wl_yield (o := ⟨_, _, _, _, _, _⟩) (BxC.val c9) (yl_bx (by rfl) _ rfl _ _ rfl _ (fun _ h => by subst h; exact cellX _ D)) ?_
                            simp only [Act.put, lzA, lzB, lzC]
                            refine wl_newB (o := ⟨_, _, _, _, _, _⟩) (o2 := ⟨_, _, _, _, _, _⟩) (by rfl) rfl _ _ rfl rfl (fun _ => rfl) (fun _ => rfl) (fun v10 g10 hg G10 kb => ?_)
                            simp only [Act.put, lzA, lzB, lzC]
                            have n_g1_g10 : g1 ≠ g10 := by have := lt_heap G1; omega
                            have ge_g10 : w.heap.size ≤ g10 := Nat.le_trans D.size hg
                            have ge_D5_g10 : v9.heap.size ≤ g10 := Nat.le_trans D5.size hg
                            have six_g10 : 2 ≤ g10 := Nat.le_trans w6 ge_g10
                            clear hg
                            replace D := grown_below D kb
                            replace G1 := heap_on G1 kb
                            replace D5 := grown_below D5 kb
                            clear kb
                            refine wpList_nil ?_
                            refine hK16 _ _ ?_
                            clear hK16 K16
                            refine wp_seq_k (fun K17 hK17 => ?_)
                            refine wp_region_lit ?_
                            refine wl_yield (o := ⟨_, _, _, _, _, _⟩) (BxC.val c9) (yl_bx (by rfl) _ rfl _ _ rfl _ (fun _ h => by subst h; exact BcIn.at G10)) ?_
                            simp only [Act.put, lzA, lzB, lzC]
                            refine wl_yield (o := ⟨_, _, _, _, _, _⟩) (evVal e) (yl_ev (by rfl) _ rfl _ 0 rfl _ _ _ _ _ _ _ _ _ _ _ _ (fun _ h => by subst h; exact ⟨cell_heap G1 0, cell_heap G1 1, cell_heap G1 2, cell_heap G1 3, cell_heap G1 4, cell_heap G1 5, cell_heap G1 6, cell_heap G1 7, cell_heap G1 8, cell_heap G1 9, cell_heap G1 10, cell_heap G1 11⟩)) ?_
                            simp only [Act.put, lzA, lzB, lzC]
                            refine wt_call (o := ⟨_, _, _, _, _, _⟩) (by rfl) 19 _ _ rfl #[BxC.val c9, evVal e] rfl (run_call Tryz.func19 (by kernel_rfl) (by kernel_rfl)) ?_
                            refine (refHasBx_any _ bx e _ (HAq.on (below_none D)) hfe).mono ?_
                            rintro r v11 (⟨rfl, kb⟩)
                            · replace D := grown_below D kb
                              replace G1 := heap_on G1 kb
                              replace D5 := grown_below D5 kb
                              replace G10 := BcIn.on G10 kb
                              clear kb
                              refine Or.inl ⟨.bool (hasE bx e), rfl, ?_⟩
                              simp only [Act.put, lzA, lzB, lzC]
                              refine wl_yield (o := ⟨_, _, _, _, _, _⟩) (.bool (!hasE bx e)) (yl_not (by rfl) _ _ rfl (hasE bx e) rfl) ?_
                              simp only [Act.put, lzA, lzB, lzC]
                              refine wl_yield (o := ⟨_, _, _, _, _, _⟩) (.bool (!hasE bx e)) (yl_assign (by rfl) _ rfl _ rfl) ?_
                              simp only [Act.put, lzA, lzB, lzC]
                              refine wpList_nil ?_
                              refine hK17 _ _ ?_
                              clear hK17 K17
                              refine wp_seq_k (fun K18 hK18 => ?_)
                              refine wp_seq_k (fun K19 hK19 => ?_)
                              refine wp_region_lit ?_
                              refine wl_yield (o := ⟨_, _, _, _, _, _⟩) (.slice aA es.length capA) (yl_move (by rfl) _ rfl _ rfl) ?_
                              simp only [Act.put, lzA, lzB, lzC]
                              refine wl_yield (o := ⟨_, _, _, _, _, _⟩) (.int .i64 (es.length : Nat)) (yt_lenV (by rfl) _ rfl aA es.length capA rfl) ?_
                              simp only [Act.put, lzA, lzB, lzC]
                              refine wl_yield (o := ⟨_, _, _, _, _, _⟩) (.int .i64 0) (yl_move (by rfl) _ rfl _ rfl) ?_
                              simp only [Act.put, lzA, lzB, lzC]
                              refine wpList_nil ?_
                              refine hK19 _ _ ?_
                              clear hK19 K19
                              refine wp_block ?_
                              go_loopw [10, 69] (fun x n wr => ∃ (j : Nat) (fd : Bool), x = .bool fd ∧ n = .int .i64 ((j : Nat) : Int) ∧ j ≤ es.length ∧ fd = (!hasE bx e || (es.take j).any (hasE bx)) ∧ BcIn wr g10 c9 ∧ wr.heap[g1]? = some (.cells #[.int .i64 (e.v0.1), .int .i64 (e.v0.2.1), .string e.v0.2.2, .int .i64 (e.v1.1), .int .i64 (e.v1.2.1), .string e.v1.2.2, .int .i64 (e.v2.1), .int .i64 (e.v2.2.1), .string e.v2.2.2, .int .i64 (e.v3.1), .int .i64 (e.v3.2.1), .string e.v3.2.2] 26 (0, 0)) ∧ v9.grownBy wr none ∧ w.grownBy wr none) (fun _ n _ => es.length - (intOf n).toNat)
                              case atStart => exact ⟨0, _, rfl, rfl, Nat.zero_le _, by rw [List.take_zero, List.any_nil, Bool.or_false], G10, G1, D5, D⟩
                              case round =>
                                clear D D5 G1 G10
                                obtain ⟨j, fd, rfl, rfl, hj, hfd, G10, G1, D5, D⟩ := hrel
                                by_cases hlj : j < es.length
                                · have hwf : wfE (es.getD j evZ) := hwfA _ (gD_mem hlj)
                                  obtain ⟨gA, oA, rfl, hgA, hrA⟩ := hrowA j hlj
                                  obtain ⟨e9, he9⟩ : ∃ e9, es.getD j evZ = e9 := ⟨_, rfl⟩
                                  rw [he9] at hwf hrA
                                  have cellA := fun (W : World) (D : v9.grownBy W none) => evRow_cells (rangeAt_on hrA ((below_none D).block gA hgA))
                                  cases fd
                                  · refine wp_seq_k (fun K20 hK20 => ?_)
                                    refine wp_region_lit ?_
                                    refine wl_yield (o := ⟨_, _, _, _, _, _⟩) (.bool true) (yt_lssI (by rfl) _ _ _ rfl ((j : Nat) : Int) ((es.length : Nat) : Int) true rfl rfl (decide_eq_true (by omega))) ?_
                                    simp only [Act.put, lzA, lzB, lzC]
                                    refine wpList_nil ?_
                                    refine hK20 _ _ ?_
                                    clear hK20 K20
                                    refine wp_seq_k (fun K21 hK21 => ?_)
                                    refine wp_cond_true rfl ?_
                                    refine wp_skip ?_
                                    refine hK21 _ _ ?_
                                    clear hK21 K21
                                    refine wp_seq_k (fun K22 hK22 => ?_)
                                    refine wp_block ?_
                                    refine wp_seq_k (fun K23 hK23 => ?_)
                                    refine wp_region_lit ?_
                                    refine wl_yield (o := ⟨_, _, _, _, _, _⟩) (.pointer (some ⟨gA, oA + j * 12, none⟩)) (yt_atV (by rfl) _ _ rfl gA oA _ _ j rfl rfl (hlj)) ?_
                                    simp only [Act.put, lzA, lzB, lzC]
                                    refine wl_yield (o := ⟨_, _, _, _, _, _⟩) (evVal e9) (yl_ev (by rfl) _ rfl _ _ rfl _ _ _ _ _ _ _ _ _ _ _ _ (fun _ h => by subst h; exact cellA _ D5)) ?_
                                    simp only [Act.put, lzA, lzB, lzC]
                                    refine wt_allocEv (o := ⟨_, _, _, _, _, _⟩) (by rfl) rfl (fun v12 g12 hg G12 kb => ?_)
                                    simp only [Act.put, lzA, lzB, lzC]
                                    have n_g10_g12 : g10 ≠ g12 := by have := lt_heap G10; omega
                                    have n_g1_g12 : g1 ≠ g12 := by have := lt_heap G1; omega
                                    have ge_g12 : w.heap.size ≤ g12 := Nat.le_trans D.size hg
                                    have ge_D5_g12 : v9.heap.size ≤ g12 := Nat.le_trans D5.size hg
                                    have six_g12 : 2 ≤ g12 := Nat.le_trans w6 ge_g12
                                    clear hg
                                    replace D := grown_below D kb
                                    replace G1 := heap_on G1 kb
                                    replace G10 := BcIn.on G10 kb
                                    replace D5 := grown_below D5 kb
                                    clear kb
                                    replace G12 : v12.heap[g12]? = some (.cells #[.int .i64 0, .int .i64 0, .string (bs ([])), .int .i64 0, .int .i64 0, .string (bs ([])), .int .i64 0, .int .i64 0, .string (bs ([])), .int .i64 0, .int .i64 0, .string (bs ([]))] 26 (0, 0)) := G12
                                    refine wt_putEv (o := ⟨_, _, _, _, _, _⟩) rfl _ _ rfl _ rfl (e9) rfl G12 rfl (fun v13 X kg => ?_)
                                    simp only [Act.put, lzA, lzB, lzC]
                                    replace D := gr_new D ge_g12 kg
                                    replace G1 := heap_gr G1 kg n_g1_g12
                                    replace G10 := heap_gr G10 kg n_g10_g12
                                    replace D5 := gr_new D5 ge_D5_g12 kg
                                    clear kg
                                    replace G12 : v13.heap[g12]? = some (.cells #[.int .i64 (e9.v0.1), .int .i64 (e9.v0.2.1), .string e9.v0.2.2, .int .i64 (e9.v1.1), .int .i64 (e9.v1.2.1), .string e9.v1.2.2, .int .i64 (e9.v2.1), .int .i64 (e9.v2.2.1), .string e9.v2.2.2, .int .i64 (e9.v3.1), .int .i64 (e9.v3.2.1), .string e9.v3.2.2] 26 (0, 0)) := X
                                    clear X
                                    refine wpList_nil ?_
                                    refine hK23 _ _ ?_
                                    clear hK23 K23
                                    refine wp_region_lit ?_
                                    refine wl_yield (o := ⟨_, _, _, _, _, _⟩) (.bool false) (yl_move (by rfl) _ rfl _ rfl) ?_
                                    simp only [Act.put, lzA, lzB, lzC]
                                    refine wl_yield (o := ⟨_, _, _, _, _, _⟩) (.bool false) (yl_move (by rfl) _ rfl _ rfl) ?_
                                    simp only [Act.put, lzA, lzB, lzC]
                                    refine wl_yield (o := ⟨_, _, _, _, _, _⟩) (BxC.val c9) (yl_bx (by rfl) _ rfl _ _ rfl _ (fun _ h => by subst h; exact BcIn.at G10)) ?_
                                    simp only [Act.put, lzA, lzB, lzC]
                                    refine wl_yield (o := ⟨_, _, _, _, _, _⟩) (evVal e9) (yl_ev (by rfl) _ rfl _ 0 rfl _ _ _ _ _ _ _ _ _ _ _ _ (fun _ h => by subst h; exact ⟨cell_heap G12 0, cell_heap G12 1, cell_heap G12 2, cell_heap G12 3, cell_heap G12 4, cell_heap G12 5, cell_heap G12 6, cell_heap G12 7, cell_heap G12 8, cell_heap G12 9, cell_heap G12 10, cell_heap G12 11⟩)) ?_
                                    simp only [Act.put, lzA, lzB, lzC]
                                    refine wt_call (o := ⟨_, _, _, _, _, _⟩) (by rfl) 19 _ _ rfl #[BxC.val c9, evVal e9] rfl (run_call Tryz.func19 (by kernel_rfl) (by kernel_rfl)) ?_
                                    refine (refHasBx_any _ bx e9 _ (HAq.on (below_none D)) (wf_fit hwf)).mono ?_
                                    rintro r v14 (⟨rfl, kb⟩)
                                    · replace D := grown_below D kb
                                      replace G1 := heap_on G1 kb
                                      replace G10 := BcIn.on G10 kb
                                      replace D5 := grown_below D5 kb
                                      replace G12 := heap_on G12 kb
                                      clear kb
                                      refine Or.inl ⟨.bool (hasE bx e9), rfl, ?_⟩
                                      simp only [Act.put, lzA, lzB, lzC]
                                      refine wl_yield (o := ⟨_, _, _, _, _, _⟩) (.bool (hasE bx e9)) (yl_pickF (by rfl) _ _ _ rfl rfl _ rfl) ?_
                                      simp only [Act.put, lzA, lzB, lzC]
                                      refine wl_yield (o := ⟨_, _, _, _, _, _⟩) (.bool (hasE bx e9)) (yl_assign (by rfl) _ rfl _ rfl) ?_
                                      simp only [Act.put, lzA, lzB, lzC]
                                      refine wpList_nil ?_
                                      refine hK22 _ _ ?_
                                      clear hK22 K22
                                      refine wp_region_lit ?_
                                      refine wl_yield (o := ⟨_, _, _, _, _, _⟩) (.int .i64 (j + 1 : Nat)) (yt_addI (by rfl) _ _ _ rfl ((j : Nat) : Int) 1 ((j + 1 : Nat) : Int) rfl rfl (by omega) (by omega) (by omega)) ?_
                                      simp only [Act.put, lzA, lzB, lzC]
                                      refine wl_yield (o := ⟨_, _, _, _, _, _⟩) (.int .i64 (j + 1 : Nat)) (yl_move (by rfl) _ rfl _ rfl) ?_
                                      simp only [Act.put, lzA, lzB, lzC]
                                      refine wpList_nil ?_
                                      show _ ∧ _
                                      go_roundw
                                      case rel => exact ⟨j + 1, _, rfl, rfl, by omega, by rw [any_takeE hlj, ← Bool.or_assoc, ← hfd, he9]; rfl, G10, G1, D5, D⟩
                                      case measure => simp [intOf]; omega
                                  · refine wp_seq_k (fun K20 hK20 => ?_)
                                    refine wp_region_lit ?_
                                    refine wl_yield (o := ⟨_, _, _, _, _, _⟩) (.bool true) (yt_lssI (by rfl) _ _ _ rfl ((j : Nat) : Int) ((es.length : Nat) : Int) true rfl rfl (decide_eq_true (by omega))) ?_
                                    simp only [Act.put, lzA, lzB, lzC]
                                    refine wpList_nil ?_
                                    refine hK20 _ _ ?_
                                    clear hK20 K20
                                    refine wp_seq_k (fun K21 hK21 => ?_)
                                    refine wp_cond_true rfl ?_
                                    refine wp_skip ?_
                                    refine hK21 _ _ ?_
                                    clear hK21 K21
                                    refine wp_seq_k (fun K22 hK22 => ?_)
                                    refine wp_block ?_
                                    refine wp_seq_k (fun K23 hK23 => ?_)
                                    refine wp_region_lit ?_
                                    refine wl_yield (o := ⟨_, _, _, _, _, _⟩) (.pointer (some ⟨gA, oA + j * 12, none⟩)) (yt_atV (by rfl) _ _ rfl gA oA _ _ j rfl rfl (hlj)) ?_
                                    simp only [Act.put, lzA, lzB, lzC]
                                    refine wl_yield (o := ⟨_, _, _, _, _, _⟩) (evVal e9) (yl_ev (by rfl) _ rfl _ _ rfl _ _ _ _ _ _ _ _ _ _ _ _ (fun _ h => by subst h; exact cellA _ D5)) ?_
                                    simp only [Act.put, lzA, lzB, lzC]
                                    refine wt_allocEv (o := ⟨_, _, _, _, _, _⟩) (by rfl) rfl (fun v12 g12 hg G12 kb => ?_)
                                    simp only [Act.put, lzA, lzB, lzC]
                                    have n_g10_g12 : g10 ≠ g12 := by have := lt_heap G10; omega
                                    have n_g1_g12 : g1 ≠ g12 := by have := lt_heap G1; omega
                                    have ge_g12 : w.heap.size ≤ g12 := Nat.le_trans D.size hg
                                    have ge_D5_g12 : v9.heap.size ≤ g12 := Nat.le_trans D5.size hg
                                    have six_g12 : 2 ≤ g12 := Nat.le_trans w6 ge_g12
                                    clear hg
                                    replace D := grown_below D kb
                                    replace G1 := heap_on G1 kb
                                    replace G10 := BcIn.on G10 kb
                                    replace D5 := grown_below D5 kb
                                    clear kb
                                    replace G12 : v12.heap[g12]? = some (.cells #[.int .i64 0, .int .i64 0, .string (bs ([])), .int .i64 0, .int .i64 0, .string (bs ([])), .int .i64 0, .int .i64 0, .string (bs ([])), .int .i64 0, .int .i64 0, .string (bs ([]))] 26 (0, 0)) := G12
                                    refine wt_putEv (o := ⟨_, _, _, _, _, _⟩) rfl _ _ rfl _ rfl (e9) rfl G12 rfl (fun v13 X kg => ?_)
                                    simp only [Act.put, lzA, lzB, lzC]
                                    replace D := gr_new D ge_g12 kg
                                    replace G1 := heap_gr G1 kg n_g1_g12
                                    replace G10 := heap_gr G10 kg n_g10_g12
                                    replace D5 := gr_new D5 ge_D5_g12 kg
                                    clear kg
                                    replace G12 : v13.heap[g12]? = some (.cells #[.int .i64 (e9.v0.1), .int .i64 (e9.v0.2.1), .string e9.v0.2.2, .int .i64 (e9.v1.1), .int .i64 (e9.v1.2.1), .string e9.v1.2.2, .int .i64 (e9.v2.1), .int .i64 (e9.v2.2.1), .string e9.v2.2.2, .int .i64 (e9.v3.1), .int .i64 (e9.v3.2.1), .string e9.v3.2.2] 26 (0, 0)) := X
                                    clear X
                                    refine wpList_nil ?_
                                    refine hK23 _ _ ?_
                                    clear hK23 K23
                                    refine wp_region_lit ?_
                                    refine wl_yield (o := ⟨_, _, _, _, _, _⟩) (.bool true) (yl_move (by rfl) _ rfl _ rfl) ?_
                                    simp only [Act.put, lzA, lzB, lzC]
                                    refine wl_yield (o := ⟨_, _, _, _, _, _⟩) (.bool true) (yl_move (by rfl) _ rfl _ rfl) ?_
                                    simp only [Act.put, lzA, lzB, lzC]
                                    with_reducible refine wl_yield (o := ⟨_, _, _, _, _, _⟩) undef (yl_undef (by kernel_rfl)) ?_
                                    simp only [Act.put, lzA, lzB, lzC]
                                    with_reducible refine wl_yield (o := ⟨_, _, _, _, _, _⟩) undef (yl_undef (by kernel_rfl)) ?_
                                    simp only [Act.put, lzA, lzB, lzC]
                                    with_reducible refine wl_yield (o := ⟨_, _, _, _, _, _⟩) undef (yl_undef (by kernel_rfl)) ?_
                                    simp only [Act.put, lzA, lzB, lzC]
                                    refine wl_yield (o := ⟨_, _, _, _, _, _⟩) (.bool true) (yl_pickT (by rfl) _ _ _ rfl rfl _ rfl) ?_
                                    simp only [Act.put, lzA, lzB, lzC]
                                    refine wl_yield (o := ⟨_, _, _, _, _, _⟩) (.bool true) (yl_assign (by rfl) _ rfl _ rfl) ?_
                                    simp only [Act.put, lzA, lzB, lzC]
                                    refine wpList_nil ?_
                                    refine hK22 _ _ ?_
                                    clear hK22 K22
                                    refine wp_region_lit ?_
                                    refine wl_yield (o := ⟨_, _, _, _, _, _⟩) (.int .i64 (j + 1 : Nat)) (yt_addI (by rfl) _ _ _ rfl ((j : Nat) : Int) 1 ((j + 1 : Nat) : Int) rfl rfl (by omega) (by omega) (by omega)) ?_
                                    simp only [Act.put, lzA, lzB, lzC]
                                    refine wl_yield (o := ⟨_, _, _, _, _, _⟩) (.int .i64 (j + 1 : Nat)) (yl_move (by rfl) _ rfl _ rfl) ?_
                                    simp only [Act.put, lzA, lzB, lzC]
                                    refine wpList_nil ?_
                                    show _ ∧ _
                                    go_roundw
                                    case rel => exact ⟨j + 1, _, rfl, rfl, by omega, by rw [any_takeE hlj, ← Bool.or_assoc, ← hfd, he9]; rfl, G10, G1, D5, D⟩
                                    case measure => simp [intOf]; omega
                                · obtain rfl : j = es.length := by omega
                                  rw [List.take_length, hfound] at hfd
                                  subst hfd
                                  refine wp_seq_k (fun K20 hK20 => ?_)
                                  refine wp_region_lit ?_
                                  refine wl_yield (o := ⟨_, _, _, _, _, _⟩) (.bool false) (yt_lssI (by rfl) _ _ _ rfl ((es.length : Nat) : Int) ((es.length : Nat) : Int) false rfl rfl (decide_eq_false (by omega))) ?_
                                  simp only [Act.put, lzA, lzB, lzC]
                                  refine wpList_nil ?_
                                  refine hK20 _ _ ?_
                                  clear hK20 K20
                                  refine wp_seq_k (fun K21 hK21 => ?_)
                                  refine wp_cond_false rfl ?_
                                  refine wp_exit ?_
                                  refine hK18 _ _ ?_
                                  clear hK21 K21 hK18 K18
                                  refine wp_seq_k (fun K22 hK22 => ?_)
                                  refine wp_region_lit ?_
                                  refine wl_yield (o := ⟨_, _, _, _, _, _⟩) (.bool true) (yl_move (by rfl) _ rfl _ rfl) ?_
                                  simp only [Act.put, lzA, lzB, lzC]
                                  refine wl_yield (o := ⟨_, _, _, _, _, _⟩) (.bool false) (yl_not (by rfl) _ _ rfl true rfl) ?_
                                  simp only [Act.put, lzA, lzB, lzC]
                                  refine wpList_nil ?_
                                  refine hK22 _ _ ?_
                                  clear hK22 K22
                                  refine wp_cond_false rfl ?_
                                  refine wp_skip ?_
                                  refine hK15 _ _ ?_
                                  clear hK15 K15
                                  refine wp_region_lit ?_
                                  refine wl_yield (o := ⟨_, _, _, _, _, _⟩) (.int .i64 (q + 1 : Nat)) (yt_addI (by rfl) _ _ _ rfl ((q : Nat) : Int) 1 ((q + 1 : Nat) : Int) rfl rfl (by omega) (by omega) (by omega)) ?_
                                  simp only [Act.put, lzA, lzB, lzC]
                                  refine wl_yield (o := ⟨_, _, _, _, _, _⟩) (.int .i64 (q + 1 : Nat)) (yl_move (by rfl) _ rfl _ rfl) ?_
                                  simp only [Act.put, lzA, lzB, lzC]
                                  refine wpList_nil ?_
                                  show _ ∧ _
                                  go_roundw
                                  case rel => exact ⟨q + 1, rfl, by omega, G1, D5, D⟩
                                  case measure => simp [intOf]; omega
                          · obtain rfl : q = l.length := by omega
                            have hv0 : Bxs w (.slice a0 l.length cap0) l := ⟨bs9, ⟨hbs9, a0, cap0, by rw [hclX], hrowX⟩, HAX⟩
                            refine wp_seq_k (fun K13 hK13 => ?_)
                            refine wp_region_lit ?_
                            refine wl_yield (o := ⟨_, _, _, _, _, _⟩) (.bool false) (yt_lssI (by rfl) _ _ _ rfl ((l.length : Nat) : Int) ((l.length : Nat) : Int) false rfl rfl (decide_eq_false (by omega))) ?_
                            simp only [Act.put, lzA, lzB, lzC]
                            refine wpList_nil ?_
                            refine hK13 _ _ ?_
                            clear hK13 K13
                            refine wp_seq_k (fun K14 hK14 => ?_)
                            refine wp_cond_false rfl ?_
                            refine wp_exit ?_
                            refine hK11 _ _ ?_
                            clear hK14 K14 hK11 K11
                            refine wp_seq_k (fun K15 hK15 => ?_)
                            refine wp_region_lit ?_
                            refine wl_yield (o := ⟨_, _, _, _, _, _⟩) (.slice aA es.length capA) (yl_move (by rfl) _ rfl _ rfl) ?_
                            simp only [Act.put, lzA, lzB, lzC]
                            refine wl_yield (o := ⟨_, _, _, _, _, _⟩) (.int .i64 (es.length : Nat)) (yt_lenV (by rfl) _ rfl aA es.length capA rfl) ?_
                            simp only [Act.put, lzA, lzB, lzC]
                            refine wl_yield (o := ⟨_, _, _, _, _, _⟩) (.slice a0 l.length cap0) (yl_move (by rfl) _ rfl _ rfl) ?_
                            simp only [Act.put, lzA, lzB, lzC]
                            refine wt_call (o := ⟨_, _, _, _, _, _⟩) (by rfl) 12 _ _ rfl #[.slice a0 l.length cap0] rfl (run_call Tryz.func12 (by kernel_rfl) (by kernel_rfl)) ?_
                            refine (refCount9_any _ l _ (hv0.on (below_none D)) (by omega) hfc).mono ?_
                            rintro r v10 (⟨rfl, kb⟩)
                            · replace D := grown_below D kb
                              replace G1 := heap_on G1 kb
                              replace D5 := grown_below D5 kb
                              clear kb
                              refine Or.inl ⟨.int .i64 (cntU (fun i => (cutL (attrL l i)).length) 4 : Nat), rfl, ?_⟩
                              simp only [Act.put, lzA, lzB, lzC]
                              refine wl_yield (o := ⟨_, _, _, _, _, _⟩) (.bool true) (yt_eqlI (by rfl) _ _ _ rfl ((es.length : Nat) : Int) ((cntU (fun i => (cutL (attrL l i)).length) 4 : Nat) : Int) true rfl rfl (decide_eq_true (by omega))) ?_
                              simp only [Act.put, lzA, lzB, lzC]
                              refine wl_yield (o := ⟨_, _, _, _, _, _⟩) (.bool true) (yl_assign (by rfl) _ rfl _ rfl) ?_
                              simp only [Act.put, lzA, lzB, lzC]
                              refine wpList_nil ?_
                              refine hK15 _ _ ?_
                              clear hK15 K15
                              refine wp_ret ?_
                              try simp only [Exit.inBlock, Exit.then]
                              go_ret
                              exact ⟨rfl, below_none D⟩
end Go.Proofs.YtbaijjclofekcaaGreatDoor
namespace Go.Proofs.YtbaijjclofekcaaGreatDoor
open Go.ChangeShapes Go.WideShapes Go.ChangeAt Go.WideMaps Go.WideElems Go.RowKit Go.Joins
theorem own : ownKnob Tryz.prog.godebug = none := by kernel_rfl
theorem gPowType : (Tryz.prog.globals[0]?).map (·.type) = some 175 := by kernel_rfl
def d64 : List Int := [0, 1, 56, 2, 57, 49, 28, 3, 61, 58, 42, 50, 38, 29, 17, 4, 62, 47, 59, 36, 45, 43, 51, 22, 53, 39, 33, 30, 24, 18, 12, 5, 63, 55, 48, 27, 60, 41, 37, 16, 46, 35, 44, 21, 52, 32, 23, 11, 54, 26, 40, 15, 34, 20, 31, 10, 25, 14, 19, 9, 13, 8, 7, 6]
theorem gD64 : Tryz.prog.globalNamed "math/bits.deBruijn64tab" = some 2 := by kernel_rfl
theorem gD64Type : (Tryz.prog.globals[2]?).map (·.type) = some 190 := by kernel_rfl
theorem cellsU8 : Tryz.prog.cellsOf 5 = 1 := by kernel_rfl
theorem cellsD64 : Tryz.prog.cellsOf 190 = 64 := by kernel_rfl
theorem cellsPow : Tryz.prog.cellsOf 175 = 20 := by kernel_rfl
theorem cellsU64 : Tryz.prog.cellsOf 107 = 1 := by kernel_rfl
abbrev laid5 : List (String × DataW Unit) := [("math/bits.deBruijn32tab", Rows.laid_math_bits_deBruijn32tab), ("math/bits.deBruijn64tab", Rows.laid_math_bits_deBruijn64tab), ("internal/strconv.uint64pow10", Rows.laid_internal_strconv_uint64pow10)]
theorem env_of_laid {W : World} (h : laidMetH Tryz.prog laid5 W) : Env W := by
  rw [MakeChecks.laidMetH_plain _ _ _ (by kernel_rfl)] at h
  have hp : Lib.TabIs Tryz.prog W "internal/strconv.uint64pow10" .u64 Lib.pow10Tab := Lib.tabIs_of_head gPow gPowType Tryz.underlying175 Tryz.underlying107 cellsU64 cellsPow (show laidMet Tryz.prog (("internal/strconv.uint64pow10", Lib.tabData .u64 Lib.pow10Tab) :: _) W from h.tail.tail)
  have big : 2 ≤ W.heap.size := by
    rcases Nat.lt_or_ge 1 W.heap.size with h' | h'
    · exact h'
    · exfalso
      have hq : Lib.TabIs Tryz.prog W "math/bits.deBruijn64tab" .u8 d64 := Lib.tabIs_of_head gD64 gD64Type Tryz.underlying190 Tryz.underlying5 cellsU8 cellsD64 (show laidMet Tryz.prog (("math/bits.deBruijn64tab", Lib.tabData .u8 d64) :: _) W from h.tail)
      have k1 := hp.cell gPow 0 (by decide)
      have k2 := hq.cell gD64 0 (by decide)
      have e : ∀ {g : Nat} {x : Value}, W.cell? ⟨g, 0, none⟩ = some x → g < W.heap.size := fun {g x} hc => by
        rcases Nat.lt_or_ge g W.heap.size with q | q
        · exact q
        · unfold World.cell? at hc
          rw [Array.getElem?_eq_none q] at hc
          cases hc
      first | (have := e k1; omega) | (have := e k2; omega)
  exact ⟨big, hp⟩
theorem door_met (os : Os) (args : Array Value) : laidMetH Tryz.prog laid5 ((World.doorLaid Tryz.prog 400 os).forCall (fun _ _ => 0) ⟨#[], args, []⟩).memory :=
  laidMetH_of_parts3 (fuel := 8) (laidMet_of_run' 8 (by kernel_rfl) (by kernel_rfl)) (by kernel_rfl) (by kernel_rfl)
end Go.Proofs.YtbaijjclofekcaaGreatDoor
namespace Go.Proofs.YtbaijjclofekcaaGreatDoor
open Go.ChangeShapes Go.WideShapes Go.ChangeAt Go.WideMaps Go.WideElems Go.RowKit Go.Joins
open Go.ChangeMaps (open_string shut_string)
theorem cellsEvents_laid : laidOutB Tryz.prog = true := by kernel_rfl
set_option maxRecDepth 100000 in
set_option maxHeartbeats 1000000 in
theorem cellsEvents_lifted (os : Os) (started : os.Started) (H : Type) (enc : TypeId × Value → H) :
    ReturnsInHanded {} Tryz.checked os 4 .any (fun w args => (Rows.cellsEventsSpec.pre enc Tryz.prog Tryz.f4 [] false w args ∧ laidMetH Tryz.prog laid5 w) ∧ sizedMet enc Tryz.prog Tryz.f4 (OpenSpec.ofChange Rows.cellsEventsSpec) false w args)
      (Rows.cellsEventsSpec.post enc Tryz.prog Tryz.f4 false true false false) := by
  refine returnsInHanded_of_change_and (C := Tryz.checked) (X := fun w _ => laidMetH Tryz.prog laid5 w) (fun _ _ _ hh h => h.of_heap hh) own started (by kernel_rfl) Tryz.func4
    (ChangeSpec.witness_shaped (enc := enc) (C := Tryz.checked) (os := os) (X := fun w _ => laidMetH Tryz.prog laid5 w) false (World.doorLaid Tryz.prog 400 os) #[.slice none 0 0, .agg #[.int .i64 0, .int .i64 0, .string ⟨#[]⟩, .int .i64 0, .int .i64 0, .string ⟨#[]⟩, .int .i64 0, .int .i64 0, .string ⟨#[]⟩, .int .i64 0, .int .i64 0, .string ⟨#[]⟩]] 8 rfl (World.shaped_of_RefB (by kernel_rfl) (by kernel_rfl)) (by kernel_rfl) (by kernel_rfl) (by kernel_rfl) (door_met os _)) ?_
  intro W base args ds gs before hval0 hW _ _ hL _
  have hval : ∀ (j : Nat) t v, Tryz.f4.params[j]? = some t → args[j]? = some v → Value.okWide Tryz.prog W .any base t v := hval0
  have hW' := hW
  obtain ⟨p, q, hA0, hV, rfl, hfz, hnd⟩ := hW
  have hA : DataW.TrodAll enc Tryz.prog W 0 (fun _ => true) true Tryz.f4.params.toList args.toList ds p := hA0
  rw [Tryz.params4] at hA hval
  obtain ⟨v0, v1, d0, d1, p0, p1, rfl, rfl, rfl, h0, h1⟩ := trodAll_two hA
  obtain ⟨rfl, rfl⟩ := trodVars_none hV
  have hlt0 : ∀ x ∈ p0, x.block < W.heap.size := fun x hx => hW'.lt x (by simp [hx])
  obtain ⟨A0, o0, q0⟩ := open_boxesA (hval 0 22 v0 rfl rfl) h0
  have hlt1 : ∀ x ∈ p1, x.block < W.heap.size := fun x hx => hW'.lt x (by simp [hx])
  obtain ⟨A1, rfl, f1, n1⟩ := open_evA (hval 1 26 v1 rfl rfl) h1
  clear hA0 hval0
  have hE := env_of_laid hL
  refine (cellsEvents_law v0 A0 A1 W hE o0 f1 n1).mono fun e W' ⟨he, hb⟩ => ?_
  subst he
  simp only [List.append_nil, List.nil_append] at hW'
  refine ⟨_, rfl, _, _, _, [], (p0 ++ p1), [], hW', ?_, ?_, rfl, hb.frame _, fun h => by cases h⟩
  · exact trodAll_mk1 (shut_bool Tryz.underlying4 _)
  · exact trodAll_mk2 (Below.trod cellsEvents_laid (by kernel_rfl) (of_decide_eq_true (by kernel_rfl)) h0 hb hlt0) (Below.trod cellsEvents_laid (by kernel_rfl) (of_decide_eq_true (by kernel_rfl)) h1 hb hlt1)
end Go.Proofs.YtbaijjclofekcaaGreatDoor
namespace Go.Proofs.YtbaijjclofekcaaGreatDoor
open Go
theorem and2 {a b : Bool} (h : a = true) (k : b = true) : (a && b) = true := by rw [h, k]; rfl
theorem sp_laid : laidOutB Tryz.pinned.checked.prog = true := by kernel_rfl
theorem sp_maps : mapsRowed Tryz.pinned.checked.prog = true := by kernel_rfl
theorem sp_stops : (Tryz.pinned.checked.prog.stops == []) = true := by kernel_rfl
theorem sp_knobs : (Tryz.pinned.checked.prog.stopKnobs == []) = true := by kernel_rfl
theorem sp_plain : (Rows.cellsGridRow.plainKeys == Tryz.pinned.checked.prog.plainKeys) = true := by kernel_rfl
theorem sp_heard : Tryz.pinned.checked.prog.stopsHeard = true := by kernel_rfl
theorem sp_enter : Tryz.pinned.checked.prog.mayEnter = true := by kernel_rfl
theorem sp_lift : (Rows.cellsGridRow.lifted == Tryz.pinned.checked.prog.liftsFinal) = true := by kernel_rfl
theorem sp_make : (Tryz.pinned.checked.prog.make == some Rows.cellsGridRow.make) = true := by kernel_rfl
end Go.Proofs.YtbaijjclofekcaaGreatDoor
namespace Go.Proofs.YtbaijjclofekcaaGreatDoor
open Go.ChangeShapes Go.WideShapes Go.ChangeAt Go.WideMaps Go.WideElems Go.RowKit Go.Joins
open Go.ChangeMaps (open_string shut_string)
theorem cellsEvents_ip : (Rows.cellsEventsRow.inPlace == Tryz.pinned.checked.prog.inPlace 4) = true := by kernel_rfl
theorem cellsEvents_uf : (Rows.cellsEventsRow.unfollowed == Tryz.pinned.checked.prog.unfollowed 4) = true := by kernel_rfl
theorem cellsEvents_rc : (Rows.cellsEventsRow.recurses == Tryz.pinned.checked.prog.recurses 4) = true := by kernel_rfl
theorem cellsEvents_nm : (Rows.cellsEventsRow.named == Tryz.pinned.checked.prog.varsNamed 4) = true := by kernel_rfl
theorem cellsEvents_nt : (namedTie Tryz.pinned.checked.prog Rows.cellsEventsRow.named Rows.cellsEventsSpec.vars) = true := by kernel_rfl
theorem cellsEvents_closed : joinedFacts Tryz.pinned.checked.prog 4 Tryz.f4 Rows.cellsEventsSpec Rows.cellsEventsRow = true := by
  unfold joinedFacts
  exact (and2 (and2 (and2 (and2 (and2 (and2 (and2 (and2 (and2 (and2 (and2 (and2 (and2 (and2 (and2 (and2 (and2 (and2 (and2 (and2 (and2 (and2 (and2 (and2 (and2 (and2 (and2 (and2 (and2 (and2 (and2 (by kernel_rfl) sp_laid) sp_maps) (by kernel_rfl)) cellsEvents_nt) (by kernel_rfl)) sp_stops) (by kernel_rfl)) sp_knobs) cellsEvents_ip) cellsEvents_uf) cellsEvents_rc) cellsEvents_nm) (by kernel_rfl)) (by kernel_rfl)) (by kernel_rfl)) (by kernel_rfl)) (by kernel_rfl)) (by kernel_rfl)) (by kernel_rfl)) (by kernel_rfl)) (by kernel_rfl)) sp_plain) (by kernel_rfl)) sp_heard) sp_enter) sp_lift) sp_make) (by kernel_rfl)) (by kernel_rfl)) (by kernel_rfl)) (by kernel_rfl))
theorem cellsEvents_said : Rows.CellsEventsSaid :=
  OpenClaim.holds_of_wide 4 Tryz.f4 rfl rfl rfl rfl rfl rfl rfl ⟨rfl, rfl, rfl, rfl, rfl⟩ rfl rfl rfl rfl rfl (by kernel_rfl) Tryz.func4 cellsEvents_closed
    (of_decide_eq_true (by kernel_rfl)) (by unfold Func.isWrapper; first | (rw [if_pos (by decide +kernel)]; kernel_rfl) | (rw [if_neg (by decide +kernel)]; exact ⟨rfl, rfl⟩))
    (fun os started H enc _ => cellsEvents_lifted os started H enc)
end Go.Proofs.YtbaijjclofekcaaGreatDoor
namespace Go.Proofs.YtbaijjclofekcaaGreatDoor
open Go.ChangeShapes Go.WideShapes Go.ChangeAt Go.WideMaps Go.WideElems Go.RowKit Go.Joins
open Go.ChangeMaps (open_string shut_string)
theorem cellsEvents_plain (f : FuncId) (fn : Func) (hf : Tryz.pinned.checked.prog.funcNamed "arbour/arbourlaw09.CellsEvents" = some f) (hfn : Tryz.pinned.checked.prog.funcs[f]? = some fn) :
    false = Tryz.pinned.checked.prog.looks [] ∧ ∀ (j : Nat) t, fn.params[j]? = some t → Tryz.pinned.checked.prog.wantsStandIn t = false := by
  obtain rfl : f = 4 := Option.some.inj ((show Tryz.prog.funcNamed "arbour/arbourlaw09.CellsEvents" = some 4 by kernel_rfl).symm.trans hf) |>.symm
  obtain rfl : fn = Tryz.f4 := (Option.some.inj (Tryz.func4.symm.trans hfn)).symm
  refine ⟨by kernel_rfl, fun j t ht => ?_⟩
  rw [Tryz.params4] at ht
  have hm : t ∈ [22, 26] := by simpa using Array.mem_of_getElem? ht
  have hall : ([22, 26].all fun u => !Tryz.prog.wantsStandIn u) = true := by kernel_rfl
  exact (show Tryz.prog.wantsStandIn t = false by simpa using List.all_eq_true.1 hall t (by simpa using hm))
end Go.Proofs.YtbaijjclofekcaaGreatDoor
namespace Go.Proofs.YtbaijjclofekcaaGreatDoor
open Go.ChangeShapes Go.WideShapes Go.ChangeAt Go.WideMaps Go.WideElems Go.RowKit Go.Joins
open Go.ChangeMaps (open_string shut_string)
theorem cellsEvents_goes : false = Rows.cellsEventsRow.goesBy Tryz.pinned.checked.prog := by kernel_rfl
theorem cellsEvents_wft : Rows.cellsEventsRow.wfByText (OpenSpec.ofChange Rows.cellsEventsSpec) = true := by kernel_rfl
end Go.Proofs.YtbaijjclofekcaaGreatDoor
