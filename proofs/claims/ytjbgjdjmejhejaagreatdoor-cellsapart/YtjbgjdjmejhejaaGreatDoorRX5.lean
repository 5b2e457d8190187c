import Derived.Test.YtjbgjdjmejhejaaGreatDoorRX4
import Derived.Test.YtjbgjdjmejhejaaGreatDoorRX1
import Derived.Lib.SmallJoins
import Derived.Deep.Strs
import Derived.Test.YtjbgjdjmejhejaaGreatDoorRX3
import Derived.Test.YtjbgjdjmejhejaaGreatDoorTie
import Derived.Test.YtjbgjdjmejhejaaGreatDoorCards
import Derived.ProofKit
import Derived.LaidMore
import Derived.OpenShut
import Derived.Stop.Joined
import Derived.Stop.LaidErr
import Derived.Lib.LaidTab
import Derived.Carry
set_option linter.unusedSimpArgs false
set_option linter.unusedVariables false
namespace Go.Proofs.YtjbgjdjmejhejaaGreatDoor
open Go.RowKit
theorem pl4 {a d : Bool} {p q : Option Addr} {n c m e : Nat} : ∀ x ∈ (#[.bool a, .slice p n c, .bool d, .slice q m e] : Array Value).toList, plainQ x = true := fun x hx => plq_list ⟨a, p, n, c, d, q, m, e⟩ x hx
theorem SetAt.asg {w w' : World} {v : Value} {S : SetV} {g : Nat} {cs : Array Value} {T : TypeId} {fz : Nat × Nat} (h : SetAt w v S) (hg : w.heap[g]? = some (.cells cs T fz)) (hn : ∀ x ∈ cs.toList, plainQ x = true) (kg : w.grownBy w' (some g)) : SetAt w' v S :=
  h.asq hg hn kg.size (fun k hk hne => kg.block k hk (fun e => hne (Option.some.inj e)))
theorem setAt_sc {w : World} {u : Value} {S : SetV} (h : SetAt w u S) : ∃ d : SC, u = d.val ∧ SetAt w d.val S := by
  have h0 := h
  obtain ⟨ai, ci, az, cz, rfl, hI, hT⟩ := sc_open h
  exact ⟨⟨S.absent, ai, S.ints.length, ci, S.co, az, S.strs.length, cz⟩, rfl, h0⟩
set_option maxHeartbeats 4000000 in
set_option maxRecDepth 100000 in
theorem cellsApart_law (v : Value) (l : List SetV) (w : World) (HE : Env w) (hv : SetsAt w v l) (hn0 : nilOkQ v) :
    Calls Tryz.prog 10 #[v] w fun r w' => r = .returned (.bool true) ∧ Below w.heap.size w w' := by
  have w6 : 2 ≤ w.heap.size := HE.big
  have HE0 := HE
  have hil := hv.inL
  obtain ⟨cs0, hR0, hA0⟩ := hv.row
  obtain ⟨a0, cap0, rfl, -⟩ := hv.2
  have hl64 := hv.1
  have D : w.grownBy w none := grown_refl _ _
  go_enter Tryz.func10, Tryz.ntmps10
  by_cases h10 : 6 < l.length
  · refine wp_seq_k (fun K1 hK1 => ?_)
    refine wp_region_lit ?_
    refine wl_yield (o := ⟨_, _, _, _, _, _⟩) (.bool false) (yl_assign (by rfl) _ rfl _ rfl) ?_
    simp only [Act.put, lzA, lzB, lzC]
    refine wpList_nil ?_
    refine hK1 _ _ ?_
    clear hK1 K1
    refine wp_seq_k (fun K2 hK2 => ?_)
    refine wp_seq_k (fun K3 hK3 => ?_)
    refine wp_region_lit ?_
    refine wt_call (o := ⟨_, _, _, _, _, _⟩) (by rfl) 16 _ _ rfl #[] rfl (run_call Tryz.func16 (by kernel_rfl) (by kernel_rfl)) ?_
    refine (awake9_any _ HE).mono ?_
    rintro r v1 ⟨rfl, kb⟩
    replace D := grown_below D kb
    replace HE := HE.on kb
    clear kb
    refine Or.inl ⟨.bool true, rfl, ?_⟩
    simp only [Act.put, lzA, lzB, lzC]
    refine wl_yield (o := ⟨_, _, _, _, _, _⟩) (.bool false) (yl_not (by rfl) _ _ rfl true rfl) ?_
    simp only [Act.put, lzA, lzB, lzC]
    refine wl_yield (o := ⟨_, _, _, _, _, _⟩) (.bool false) (yl_move (by rfl) _ rfl _ rfl) ?_
    simp only [Act.put, lzA, lzB, lzC]
    refine wl_yield (o := ⟨_, _, _, _, _, _⟩) (.slice a0 l.length cap0) (yl_move (by rfl) _ rfl _ rfl) ?_
    simp only [Act.put, lzA, lzB, lzC]
    refine wl_yield (o := ⟨_, _, _, _, _, _⟩) (.int .i64 (l.length : Nat)) (yt_lenQ (by rfl) _ rfl a0 l.length cap0 rfl) ?_
    simp only [Act.put, lzA, lzB, lzC]
    refine wl_yield (o := ⟨_, _, _, _, _, _⟩) (.bool true) (yt_gtrI (by rfl) _ _ _ rfl ((l.length : Nat) : Int) 6 true rfl rfl (decide_eq_true (by omega))) ?_
    simp only [Act.put, lzA, lzB, lzC]
    refine wl_yield (o := ⟨_, _, _, _, _, _⟩) (.bool true) (yl_pickF (by rfl) _ _ _ rfl rfl _ rfl) ?_
    simp only [Act.put, lzA, lzB, lzC]
    refine wl_yield (o := ⟨_, _, _, _, _, _⟩) (.bool true) (yl_move (by rfl) _ rfl _ rfl) ?_
    simp only [Act.put, lzA, lzB, lzC]
    with_reducible refine wl_yield (o := ⟨_, _, _, _, _, _⟩) undef (yl_undef (by kernel_rfl)) ?_
    simp only [Act.put, lzA, lzB, lzC]
    with_reducible refine wl_yield (o := ⟨_, _, _, _, _, _⟩) undef (yl_undef (by kernel_rfl)) ?_
    simp only [Act.put, lzA, lzB, lzC]
    with_reducible refine wl_yield (o := ⟨_, _, _, _, _, _⟩) undef (yl_undef (by kernel_rfl)) ?_
    simp only [Act.put, lzA, lzB, lzC]
    refine wl_yield (o := ⟨_, _, _, _, _, _⟩) (.bool true) (yl_pickT (by rfl) _ _ _ rfl rfl _ rfl) ?_
    simp only [Act.put, lzA, lzB, lzC]
    refine wpList_nil ?_
    refine hK3 _ _ ?_
    clear hK3 K3
    refine wp_cond_true rfl ?_
    refine wp_seq_k (fun K4 hK4 => ?_)
    refine wp_region_lit ?_
    refine wt_call (o := ⟨_, _, _, _, _, _⟩) (by rfl) 16 _ _ rfl #[] rfl (run_call Tryz.func16 (by kernel_rfl) (by kernel_rfl)) ?_
    refine (awake9_any _ HE).mono ?_
    rintro r v2 ⟨rfl, kb⟩
    replace D := grown_below D kb
    replace HE := HE.on kb
    clear kb
    refine Or.inl ⟨.bool true, rfl, ?_⟩
    simp only [Act.put, lzA, lzB, lzC]
    refine wl_yield (o := ⟨_, _, _, _, _, _⟩) (.bool true) (yl_assign (by rfl) _ rfl _ rfl) ?_
    simp only [Act.put, lzA, lzB, lzC]
    refine wpList_nil ?_
    refine hK4 _ _ ?_
    clear hK4 K4
    refine wp_ret ?_
    try simp only [Exit.inBlock, Exit.then]
    go_ret
    exact ⟨rfl, below_none D⟩
  · refine wp_seq_k (fun K1 hK1 => ?_)
    refine wp_region_lit ?_
    refine wl_yield (o := ⟨_, _, _, _, _, _⟩) (.bool false) (yl_assign (by rfl) _ rfl _ rfl) ?_
    simp only [Act.put, lzA, lzB, lzC]
    refine wpList_nil ?_
    refine hK1 _ _ ?_
    clear hK1 K1
    refine wp_seq_k (fun K2 hK2 => ?_)
    refine wp_seq_k (fun K3 hK3 => ?_)
    refine wp_region_lit ?_
    refine wt_call (o := ⟨_, _, _, _, _, _⟩) (by rfl) 16 _ _ rfl #[] rfl (run_call Tryz.func16 (by kernel_rfl) (by kernel_rfl)) ?_
    refine (awake9_any _ HE).mono ?_
    rintro r v1 ⟨rfl, kb⟩
    replace D := grown_below D kb
    replace HE := HE.on kb
    clear kb
    refine Or.inl ⟨.bool true, rfl, ?_⟩
    simp only [Act.put, lzA, lzB, lzC]
    refine wl_yield (o := ⟨_, _, _, _, _, _⟩) (.bool false) (yl_not (by rfl) _ _ rfl true rfl) ?_
    simp only [Act.put, lzA, lzB, lzC]
    refine wl_yield (o := ⟨_, _, _, _, _, _⟩) (.bool false) (yl_move (by rfl) _ rfl _ rfl) ?_
    simp only [Act.put, lzA, lzB, lzC]
    refine wl_yield (o := ⟨_, _, _, _, _, _⟩) (.slice a0 l.length cap0) (yl_move (by rfl) _ rfl _ rfl) ?_
    simp only [Act.put, lzA, lzB, lzC]
    refine wl_yield (o := ⟨_, _, _, _, _, _⟩) (.int .i64 (l.length : Nat)) (yt_lenQ (by rfl) _ rfl a0 l.length cap0 rfl) ?_
    simp only [Act.put, lzA, lzB, lzC]
    refine wl_yield (o := ⟨_, _, _, _, _, _⟩) (.bool false) (yt_gtrI (by rfl) _ _ _ rfl ((l.length : Nat) : Int) 6 false rfl rfl (decide_eq_false (by omega))) ?_
    simp only [Act.put, lzA, lzB, lzC]
    refine wl_yield (o := ⟨_, _, _, _, _, _⟩) (.bool false) (yl_pickF (by rfl) _ _ _ rfl rfl _ rfl) ?_
    simp only [Act.put, lzA, lzB, lzC]
    refine wl_yield (o := ⟨_, _, _, _, _, _⟩) (.bool false) (yl_move (by rfl) _ rfl _ rfl) ?_
    simp only [Act.put, lzA, lzB, lzC]
    refine wl_yield (o := ⟨_, _, _, _, _, _⟩) (.slice a0 l.length cap0) (yl_move (by rfl) _ rfl _ rfl) ?_
    simp only [Act.put, lzA, lzB, lzC]
    cases hfl : (l).all fewB
    · refine wt_call (o := ⟨_, _, _, _, _, _⟩) (by rfl) 17 _ _ rfl #[.slice a0 l.length cap0] rfl (run_call Tryz.func17 (by kernel_rfl) (by kernel_rfl)) ?_
      refine (refFew_any _ l _ (hv.on (below_none D))).mono ?_
      rintro r v2 (⟨rfl, e9⟩)
      · replace e9 := e9.symm
        subst e9
        refine Or.inl ⟨.bool false, ret_bool hfl, ?_⟩
        simp only [Act.put, lzA, lzB, lzC]
        refine wl_yield (o := ⟨_, _, _, _, _, _⟩) (.bool true) (yl_not (by rfl) _ _ rfl false rfl) ?_
        simp only [Act.put, lzA, lzB, lzC]
        refine wl_yield (o := ⟨_, _, _, _, _, _⟩) (.bool true) (yl_pickF (by rfl) _ _ _ rfl rfl _ rfl) ?_
        simp only [Act.put, lzA, lzB, lzC]
        refine wpList_nil ?_
        refine hK3 _ _ ?_
        clear hK3 K3
        refine wp_cond_true rfl ?_
        refine wp_seq_k (fun K4 hK4 => ?_)
        refine wp_region_lit ?_
        refine wt_call (o := ⟨_, _, _, _, _, _⟩) (by rfl) 16 _ _ rfl #[] rfl (run_call Tryz.func16 (by kernel_rfl) (by kernel_rfl)) ?_
        refine (awake9_any _ HE).mono ?_
        rintro r v3 ⟨rfl, kb⟩
        replace D := grown_below D kb
        replace HE := HE.on kb
        clear kb
        refine Or.inl ⟨.bool true, rfl, ?_⟩
        simp only [Act.put, lzA, lzB, lzC]
        refine wl_yield (o := ⟨_, _, _, _, _, _⟩) (.bool true) (yl_assign (by rfl) _ rfl _ rfl) ?_
        simp only [Act.put, lzA, lzB, lzC]
        refine wpList_nil ?_
        refine hK4 _ _ ?_
        clear hK4 K4
        refine wp_ret ?_
        try simp only [Exit.inBlock, Exit.then]
        go_ret
        exact ⟨rfl, below_none D⟩
    · have hfc := fewC_all hfl (show l.length ≤ 15 by omega)
      have hl6 : l.length ≤ 6 := by omega
      refine wt_call (o := ⟨_, _, _, _, _, _⟩) (by rfl) 17 _ _ rfl #[.slice a0 l.length cap0] rfl (run_call Tryz.func17 (by kernel_rfl) (by kernel_rfl)) ?_
      refine (refFew_any _ l _ (hv.on (below_none D))).mono ?_
      rintro r v2 (⟨rfl, e9⟩)
      · replace e9 := e9.symm
        subst e9
        refine Or.inl ⟨.bool true, ret_bool hfl, ?_⟩
        simp only [Act.put, lzA, lzB, lzC]
        refine wl_yield (o := ⟨_, _, _, _, _, _⟩) (.bool false) (yl_not (by rfl) _ _ rfl true rfl) ?_
        simp only [Act.put, lzA, lzB, lzC]
        refine wl_yield (o := ⟨_, _, _, _, _, _⟩) (.bool false) (yl_pickF (by rfl) _ _ _ rfl rfl _ rfl) ?_
        simp only [Act.put, lzA, lzB, lzC]
        refine wpList_nil ?_
        refine hK3 _ _ ?_
        clear hK3 K3
        refine wp_cond_false rfl ?_
        refine wp_skip ?_
        refine hK2 _ _ ?_
        clear hK2 K2
        refine wp_seq_k (fun K4 hK4 => ?_)
        refine wp_region_lit ?_
        refine wq_row0Q (o := ⟨_, _, _, _, _, _⟩) (by rfl) rfl (fun v3 g3 OT kb => ?_)
        simp only [Act.put, lzA, lzB, lzC]
        have mB := D.size
        have mV := kb.size
        replace D := grown_below D kb
        replace HE := HE.on kb
        clear kb
        refine wl_yield (o := ⟨_, _, _, _, _, _⟩) (.slice a0 l.length cap0) (yl_move (by rfl) _ rfl _ rfl) ?_
        simp only [Act.put, lzA, lzB, lzC]
        refine wpList_appRowT _ rfl _ _ rfl v1.heap.size _ _ [] cs0 rfl OT rfl (hR0.on (below_none D)) hn0 (by simp; have := hA0.1; omega) mV ?_
        intro v4' v4 OT' kB
        simp only [Act.put, lzA, lzB, lzC]
        replace OT := OT'
        clear OT'
        rw [List.nil_append] at OT
        replace D := grown_none ((below_none D).trans (kB.mono mB))
        replace HE := HE.below (by have := HE0.big; omega) kB
        clear kB
        refine wt_call (o := ⟨_, _, _, _, _, _⟩) (by rfl) 18 _ _ rfl #[v4'] rfl (run_call Tryz.func18 (by kernel_rfl) (by kernel_rfl)) ?_
        refine (cut_any _ l _ (sets_of_row (OwnT.row OT (by have := hA0.1; omega)) (hA0.on (below_none D))) hfc).mono ?_
        rintro r v5 (⟨⟨u, rfl, HC⟩, kb⟩)
        · replace D := grown_below D kb
          replace HE := HE.on kb
          clear kb
          obtain ⟨a5, cap5, rfl⟩ : ∃ a5 cap5, u = .slice a5 (cutL l).length cap5 := by
            obtain ⟨q, e1, e2⟩ := HC.form
            exact ⟨q.p, q.c, by rw [e1]; unfold Sl.val; rw [e2]⟩
          have HS := HC.sets (Kept.refl _ _)
          clear HC
          have hmost := cutL_most hfc
          have hfit := fit_cut hil hfc
          have D2 : v5.grownBy v5 none := grown_refl _ _
          refine Or.inl ⟨.slice a5 (cutL l).length cap5, rfl, ?_⟩
          simp only [Act.put, lzA, lzB, lzC]
          refine wl_yield (o := ⟨_, _, _, _, _, _⟩) (.slice a5 (cutL l).length cap5) (yl_assign (by rfl) _ rfl _ rfl) ?_
          simp only [Act.put, lzA, lzB, lzC]
          refine wpList_nil ?_
          refine hK4 _ _ ?_
          clear hK4 K4
          refine wp_seq_k (fun K5 hK5 => ?_)
          refine wp_region_lit ?_
          refine wl_yield (o := ⟨_, _, _, _, _, _⟩) (.agg #[.bool false, .slice none 0 0, .bool false, .slice none 0 0]) (yq_bS (by rfl) rfl) ?_
          simp only [Act.put, lzA, lzB, lzC]
          refine wt_allocSt (o := ⟨_, _, _, _, _, _⟩) (by rfl) rfl (fun v6 g6 hg G6 kb => ?_)
          simp only [Act.put, lzA, lzB, lzC]
          have ge_g6 : w.heap.size ≤ g6 := Nat.le_trans D.size hg
          have ge_D2_g6 : v5.heap.size ≤ g6 := Nat.le_trans D2.size hg
          have six_g6 : 2 ≤ g6 := Nat.le_trans w6 ge_g6
          clear hg
          replace D := grown_below D kb
          replace HE := HE.on kb
          replace D2 := grown_below D2 kb
          clear kb
          replace G6 : v6.heap[g6]? = some (.cells #[.bool false, .slice none 0 0, .bool false, .slice none 0 0] 26 (0, 0)) := G6
          refine wt_putSt (o := ⟨_, _, _, _, _, _⟩) rfl _ _ rfl _ rfl (⟨false, none, 0, 0, false, none, 0, 0⟩) rfl G6 rfl (fun v7 X kg => ?_)
          simp only [Act.put, lzA, lzB, lzC]
          replace D := gr_new D ge_g6 kg
          replace HE := Env.gr HE kg six_g6
          replace D2 := gr_new D2 ge_D2_g6 kg
          clear kg
          replace G6 : v7.heap[g6]? = some (.cells #[.bool false, .slice none 0 0, .bool false, .slice none 0 0] 26 (0, 0)) := X
          clear X
          refine wpList_nil ?_
          refine hK5 _ _ ?_
          clear hK5 K5
          refine wp_seq_k (fun K6 hK6 => ?_)
          refine wp_seq_k (fun K7 hK7 => ?_)
          refine wp_region_lit ?_
          refine wl_yield (o := ⟨_, _, _, _, _, _⟩) (.slice a5 (cutL l).length cap5) (yl_move (by rfl) _ rfl _ rfl) ?_
          simp only [Act.put, lzA, lzB, lzC]
          refine wl_yield (o := ⟨_, _, _, _, _, _⟩) (.int .i64 ((cutL l).length : Nat)) (yt_lenQ (by rfl) _ rfl a5 (cutL l).length cap5 rfl) ?_
          simp only [Act.put, lzA, lzB, lzC]
          refine wl_yield (o := ⟨_, _, _, _, _, _⟩) (.int .i64 0) (yl_move (by rfl) _ rfl _ rfl) ?_
          simp only [Act.put, lzA, lzB, lzC]
          refine wpList_nil ?_
          refine hK7 _ _ ?_
          clear hK7 K7
          refine wp_block ?_
          have hsm : ∀ j, j < (cutL l).length → ∃ q, sampleV ((cutL l).getD j noSet) = some q := fun j hj => cell_sample (cut_of hil) hj
          go_loopw [32] (fun i wr => ∃ (k : Nat) (c : SC), i = .int .i64 ((k : Nat) : Int) ∧ k ≤ (cutL l).length ∧ k ≤ 201 ∧ wr.heap[g6]? = some (.cells #[.bool (c.a), .slice c.p c.n c.c, .bool (c.d), .slice c.q c.m c.e] 26 (0, 0)) ∧ SetAt wr c.val (accV ((cutL l).take k)) ∧ Env wr ∧ v5.grownBy wr none ∧ w.grownBy wr none) (fun i _ => (cutL l).length - (intOf i).toNat)
          case atStart => exact ⟨0, ⟨false, none, 0, 0, false, none, 0, 0⟩, rfl, Nat.zero_le _, by omega, G6, noSet_sc _ false false, HE, D2, D⟩
          case round =>
            clear D D2 HE G6
            obtain ⟨k, c, rfl, hk, hk201, G6, HC4, HE, D2, D⟩ := hrel
            by_cases hlt : k < (cutL l).length
            · have hAE := apart_empty hil hfc hfl hl6 hlt (by omega)
              have fa : Fit (accV ((cutL l).take k)) := acc_fit hil hfc hfl hl6 (fun S hS => List.mem_of_mem_take hS) (by rw [List.length_take]; omega) (tot_take _ _ _)
              have hYm : (cutL l).getD k noSet ∈ cutL l := gD_mem hlt
              have hfk := hfit _ hYm
              obtain ⟨q, hq⟩ := hsm k hlt
              have hqh := sample_has hq (by have := hfk.ns; omega)
              obtain ⟨gA, oA, vi', vs', rfl, hgA, A0, A1, A2, A3, hI9, hT9⟩ := HS.at.2 k hlt
              have cellA := fun (W : World) (D : v5.grownBy W none) (j : Nat) => (below_none D).cell (p := ⟨gA, j, none⟩) hgA
              obtain ⟨ai', ci', rfl⟩ := hI9.form
              obtain ⟨az', cz', rfl⟩ := hT9.form
              have hqm := hasP_max hqh
              generalize hX9 : (cutL l).getD k noSet = Y9 at A0 A1 A2 A3 hI9 hT9 hq hqh hfk hAE
              by_cases hk2 : 200 < k
              · refine wp_seq_k (fun K8 hK8 => ?_)
                refine wp_region_lit ?_
                refine wl_yield (o := ⟨_, _, _, _, _, _⟩) (.bool true) (yt_lssI (by rfl) _ _ _ rfl ((k : Nat) : Int) (((cutL l).length : Nat) : Int) true rfl rfl (decide_eq_true (by omega))) ?_
                simp only [Act.put, lzA, lzB, lzC]
                refine wpList_nil ?_
                refine hK8 _ _ ?_
                clear hK8 K8
                refine wp_seq_k (fun K9 hK9 => ?_)
                refine wp_cond_true rfl ?_
                refine wp_skip ?_
                refine hK9 _ _ ?_
                clear hK9 K9
                refine wp_seq_k (fun K10 hK10 => ?_)
                refine wp_block ?_
                refine wp_seq_k (fun K11 hK11 => ?_)
                refine wp_region_lit ?_
                refine wl_yield (o := ⟨_, _, _, _, _, _⟩) (.int .i64 (k : Nat)) (yl_move (by rfl) _ rfl _ rfl) ?_
                simp only [Act.put, lzA, lzB, lzC]
                refine wl_yield (o := ⟨_, _, _, _, _, _⟩) (.pointer (some ⟨gA, oA + k * 4, none⟩)) (yt_atQ (by rfl) _ _ rfl gA oA _ _ k rfl rfl (hlt)) ?_
                simp only [Act.put, lzA, lzB, lzC]
                refine wl_yield (o := ⟨_, _, _, _, _, _⟩) (.agg #[.bool (Y9.absent), .slice ai' Y9.ints.length ci', .bool (Y9.co), .slice az' Y9.strs.length cz']) (yl_set (by rfl) _ rfl _ _ rfl _ _ _ _ (fun _ h => by subst h; exact ⟨(cellA _ D2 _).trans A0, (cellA _ D2 _).trans A1, (cellA _ D2 _).trans A2, (cellA _ D2 _).trans A3⟩)) ?_
                simp only [Act.put, lzA, lzB, lzC]
                refine wt_allocSt (o := ⟨_, _, _, _, _, _⟩) (by rfl) rfl (fun v8 g8 hg G8 kb => ?_)
                simp only [Act.put, lzA, lzB, lzC]
                have n_g6_g8 : g6 ≠ g8 := by have := lt_heap G6; omega
                have ge_g8 : w.heap.size ≤ g8 := Nat.le_trans D.size hg
                have ge_D2_g8 : v5.heap.size ≤ g8 := Nat.le_trans D2.size hg
                have six_g8 : 2 ≤ g8 := Nat.le_trans w6 ge_g8
                clear hg
                replace D := grown_below D kb
                replace HE := HE.on kb
                replace D2 := grown_below D2 kb
                replace G6 := heap_on G6 kb
                replace HC4 := HC4.on kb
                clear kb
                replace G8 : v8.heap[g8]? = some (.cells #[.bool false, .slice none 0 0, .bool false, .slice none 0 0] 26 (0, 0)) := G8
                refine wl_yield (o := ⟨_, _, _, _, _, _⟩) (.int .i64 (k : Nat)) (yl_assign (by rfl) _ rfl _ rfl) ?_
                simp only [Act.put, lzA, lzB, lzC]
                refine wt_putSt (o := ⟨_, _, _, _, _, _⟩) rfl _ _ rfl _ rfl (⟨Y9.absent, ai', Y9.ints.length, ci', Y9.co, az', Y9.strs.length, cz'⟩) rfl G8 rfl (fun v9 X kg => ?_)
                simp only [Act.put, lzA, lzB, lzC]
                replace D := gr_new D ge_g8 kg
                replace HE := Env.gr HE kg six_g8
                replace D2 := gr_new D2 ge_D2_g8 kg
                replace G6 := heap_gr G6 kg n_g6_g8
                replace HC4 := SetAt.asg HC4 G8 pl4 kg
                clear kg
                replace G8 : v9.heap[g8]? = some (.cells #[.bool (Y9.absent), .slice ai' Y9.ints.length ci', .bool (Y9.co), .slice az' Y9.strs.length cz'] 26 (0, 0)) := X
                clear X
                refine wpList_nil ?_
                refine hK11 _ _ ?_
                clear hK11 K11
                refine wp_seq_k (fun K12 hK12 => ?_)
                refine wp_seq_k (fun K13 hK13 => ?_)
                refine wp_region_lit ?_
                refine wl_yield (o := ⟨_, _, _, _, _, _⟩) (SC.val c) (yl_set (by rfl) _ rfl _ 0 rfl _ _ _ _ (fun _ h => by subst h; exact ⟨cell_heap G6 0, cell_heap G6 1, cell_heap G6 2, cell_heap G6 3⟩)) ?_
                simp only [Act.put, lzA, lzB, lzC]
                refine wl_yield (o := ⟨_, _, _, _, _, _⟩) (.agg #[.bool (Y9.absent), .slice ai' Y9.ints.length ci', .bool (Y9.co), .slice az' Y9.strs.length cz']) (yl_set (by rfl) _ rfl _ 0 rfl _ _ _ _ (fun _ h => by subst h; exact ⟨cell_heap G8 0, cell_heap G8 1, cell_heap G8 2, cell_heap G8 3⟩)) ?_
                simp only [Act.put, lzA, lzB, lzC]
                refine wt_call (o := ⟨_, _, _, _, _, _⟩) (by rfl) 41 _ _ rfl #[SC.val c, .agg #[.bool (Y9.absent), .slice ai' Y9.ints.length ci', .bool (Y9.co), .slice az' Y9.strs.length cz']] rfl (run_call Tryz.func41 (by kernel_rfl) (by kernel_rfl)) ?_
                refine (and_any _ _ (accV ((cutL l).take k)) Y9 _ HC4 (show SetAt _ (SC.val ⟨Y9.absent, ai', Y9.ints.length, ci', Y9.co, az', Y9.strs.length, cz'⟩) Y9 from ⟨_, _, rfl, hI9.on (below_none D2), hT9.on (below_none D2)⟩) fa.two hfk.two).mono ?_
                rintro r v10 (⟨⟨x9, rfl, HA9⟩, kb⟩)
                · replace HA9 := HA9
                  replace D := grown_below D kb
                  replace HE := HE.on kb
                  replace D2 := grown_below D2 kb
                  replace G6 := heap_on G6 kb
                  replace HC4 := HC4.on kb
                  replace G8 := heap_on G8 kb
                  clear kb
                  refine Or.inl ⟨x9, rfl, ?_⟩
                  simp only [Act.put, lzA, lzB, lzC]
                  refine wt_call (o := ⟨_, _, _, _, _, _⟩) (by rfl) 40 _ _ rfl #[x9] rfl (run_call Tryz.func40 (by kernel_rfl) (by kernel_rfl)) ?_
                  refine (empty_any _ _ _ HA9).mono ?_
                  rintro r v11 (⟨rfl, kb⟩)
                  · replace D := grown_below D kb
                    replace HE := HE.on kb
                    replace D2 := grown_below D2 kb
                    replace G6 := heap_on G6 kb
                    replace HC4 := HC4.on kb
                    replace G8 := heap_on G8 kb
                    clear kb
                    refine Or.inl ⟨.bool true, ret_bool hAE.1, ?_⟩
                    simp only [Act.put, lzA, lzB, lzC]
                    refine wl_yield (o := ⟨_, _, _, _, _, _⟩) (.bool false) (yl_not (by rfl) _ _ rfl true rfl) ?_
                    simp only [Act.put, lzA, lzB, lzC]
                    refine wl_yield (o := ⟨_, _, _, _, _, _⟩) (.bool false) (yl_move (by rfl) _ rfl _ rfl) ?_
                    simp only [Act.put, lzA, lzB, lzC]
                    refine wl_yield (o := ⟨_, _, _, _, _, _⟩) (.agg #[.bool (Y9.absent), .slice ai' Y9.ints.length ci', .bool (Y9.co), .slice az' Y9.strs.length cz']) (yl_set (by rfl) _ rfl _ 0 rfl _ _ _ _ (fun _ h => by subst h; exact ⟨cell_heap G8 0, cell_heap G8 1, cell_heap G8 2, cell_heap G8 3⟩)) ?_
                    simp only [Act.put, lzA, lzB, lzC]
                    refine wt_call (o := ⟨_, _, _, _, _, _⟩) (by rfl) 21 _ _ rfl #[.agg #[.bool (Y9.absent), .slice ai' Y9.ints.length ci', .bool (Y9.co), .slice az' Y9.strs.length cz']] rfl (run_call Tryz.func21 (by kernel_rfl) (by kernel_rfl)) ?_
                    refine (refRightSet_any _ Y9 _ (show SetAt _ (SC.val ⟨Y9.absent, ai', Y9.ints.length, ci', Y9.co, az', Y9.strs.length, cz'⟩) Y9 from ⟨_, _, rfl, hI9.on (below_none D2), hT9.on (below_none D2)⟩)).mono ?_
                    rintro r v12 (⟨rfl, kb⟩)
                    · replace D := grown_below D kb
                      replace HE := HE.on kb
                      replace D2 := grown_below D2 kb
                      replace G6 := heap_on G6 kb
                      replace HC4 := HC4.on kb
                      replace G8 := heap_on G8 kb
                      clear kb
                      refine Or.inl ⟨.bool true, ret_bool hfk.good.r, ?_⟩
                      simp only [Act.put, lzA, lzB, lzC]
                      refine wl_yield (o := ⟨_, _, _, _, _, _⟩) (.bool false) (yl_not (by rfl) _ _ rfl true rfl) ?_
                      simp only [Act.put, lzA, lzB, lzC]
                      refine wl_yield (o := ⟨_, _, _, _, _, _⟩) (.bool false) (yl_pickF (by rfl) _ _ _ rfl rfl _ rfl) ?_
                      simp only [Act.put, lzA, lzB, lzC]
                      refine wl_yield (o := ⟨_, _, _, _, _, _⟩) (.bool false) (yl_move (by rfl) _ rfl _ rfl) ?_
                      simp only [Act.put, lzA, lzB, lzC]
                      refine wl_yield (o := ⟨_, _, _, _, _, _⟩) (.int .i64 (k : Nat)) (yl_move (by rfl) _ rfl _ rfl) ?_
                      simp only [Act.put, lzA, lzB, lzC]
                      refine wl_yield (o := ⟨_, _, _, _, _, _⟩) (.bool true) (yt_gtrI (by rfl) _ _ _ rfl ((k : Nat) : Int) 200 true rfl rfl (decide_eq_true (by omega))) ?_
                      simp only [Act.put, lzA, lzB, lzC]
                      refine wl_yield (o := ⟨_, _, _, _, _, _⟩) (.bool true) (yl_pickF (by rfl) _ _ _ rfl rfl _ rfl) ?_
                      simp only [Act.put, lzA, lzB, lzC]
                      refine wpList_nil ?_
                      refine hK13 _ _ ?_
                      clear hK13 K13
                      refine wp_cond_true rfl ?_
                      refine wp_seq_k (fun K14 hK14 => ?_)
                      refine wp_region_lit ?_
                      refine wl_yield (o := ⟨_, _, _, _, _, _⟩) (.int .i64 (k : Nat)) (yl_move (by rfl) _ rfl _ rfl) ?_
                      simp only [Act.put, lzA, lzB, lzC]
                      refine wl_yield (o := ⟨_, _, _, _, _, _⟩) (.bool true) (yt_gtrI (by rfl) _ _ _ rfl ((k : Nat) : Int) 200 true rfl rfl (decide_eq_true (by omega))) ?_
                      simp only [Act.put, lzA, lzB, lzC]
                      refine wl_yield (o := ⟨_, _, _, _, _, _⟩) (.bool true) (yl_assign (by rfl) _ rfl _ rfl) ?_
                      simp only [Act.put, lzA, lzB, lzC]
                      refine wpList_nil ?_
                      refine hK14 _ _ ?_
                      clear hK14 K14
                      refine wp_ret ?_
                      try simp only [Exit.inBlock, Exit.then]
                      go_ret
                      exact ⟨rfl, below_none D⟩
              · refine wp_seq_k (fun K8 hK8 => ?_)
                refine wp_region_lit ?_
                refine wl_yield (o := ⟨_, _, _, _, _, _⟩) (.bool true) (yt_lssI (by rfl) _ _ _ rfl ((k : Nat) : Int) (((cutL l).length : Nat) : Int) true rfl rfl (decide_eq_true (by omega))) ?_
                simp only [Act.put, lzA, lzB, lzC]
                refine wpList_nil ?_
                refine hK8 _ _ ?_
                clear hK8 K8
                refine wp_seq_k (fun K9 hK9 => ?_)
                refine wp_cond_true rfl ?_
                refine wp_skip ?_
                refine hK9 _ _ ?_
                clear hK9 K9
                refine wp_seq_k (fun K10 hK10 => ?_)
                refine wp_block ?_
                refine wp_seq_k (fun K11 hK11 => ?_)
                refine wp_region_lit ?_
                refine wl_yield (o := ⟨_, _, _, _, _, _⟩) (.int .i64 (k : Nat)) (yl_move (by rfl) _ rfl _ rfl) ?_
                simp only [Act.put, lzA, lzB, lzC]
                refine wl_yield (o := ⟨_, _, _, _, _, _⟩) (.pointer (some ⟨gA, oA + k * 4, none⟩)) (yt_atQ (by rfl) _ _ rfl gA oA _ _ k rfl rfl (hlt)) ?_
                simp only [Act.put, lzA, lzB, lzC]
                refine wl_yield (o := ⟨_, _, _, _, _, _⟩) (.agg #[.bool (Y9.absent), .slice ai' Y9.ints.length ci', .bool (Y9.co), .slice az' Y9.strs.length cz']) (yl_set (by rfl) _ rfl _ _ rfl _ _ _ _ (fun _ h => by subst h; exact ⟨(cellA _ D2 _).trans A0, (cellA _ D2 _).trans A1, (cellA _ D2 _).trans A2, (cellA _ D2 _).trans A3⟩)) ?_
                simp only [Act.put, lzA, lzB, lzC]
                refine wt_allocSt (o := ⟨_, _, _, _, _, _⟩) (by rfl) rfl (fun v8 g8 hg G8 kb => ?_)
                simp only [Act.put, lzA, lzB, lzC]
                have n_g6_g8 : g6 ≠ g8 := by have := lt_heap G6; omega
                have ge_g8 : w.heap.size ≤ g8 := Nat.le_trans D.size hg
                have ge_D2_g8 : v5.heap.size ≤ g8 := Nat.le_trans D2.size hg
                have six_g8 : 2 ≤ g8 := Nat.le_trans w6 ge_g8
                clear hg
                replace D := grown_below D kb
                replace HE := HE.on kb
                replace D2 := grown_below D2 kb
                replace G6 := heap_on G6 kb
                replace HC4 := HC4.on kb
                clear kb
                replace G8 : v8.heap[g8]? = some (.cells #[.bool false, .slice none 0 0, .bool false, .slice none 0 0] 26 (0, 0)) := G8
                refine wl_yield (o := ⟨_, _, _, _, _, _⟩) (.int .i64 (k : Nat)) (yl_assign (by rfl) _ rfl _ rfl) ?_
                simp only [Act.put, lzA, lzB, lzC]
                refine wt_putSt (o := ⟨_, _, _, _, _, _⟩) rfl _ _ rfl _ rfl (⟨Y9.absent, ai', Y9.ints.length, ci', Y9.co, az', Y9.strs.length, cz'⟩) rfl G8 rfl (fun v9 X kg => ?_)
                simp only [Act.put, lzA, lzB, lzC]
                replace D := gr_new D ge_g8 kg
                replace HE := Env.gr HE kg six_g8
                replace D2 := gr_new D2 ge_D2_g8 kg
                replace G6 := heap_gr G6 kg n_g6_g8
                replace HC4 := SetAt.asg HC4 G8 pl4 kg
                clear kg
                replace G8 : v9.heap[g8]? = some (.cells #[.bool (Y9.absent), .slice ai' Y9.ints.length ci', .bool (Y9.co), .slice az' Y9.strs.length cz'] 26 (0, 0)) := X
                clear X
                refine wpList_nil ?_
                refine hK11 _ _ ?_
                clear hK11 K11
                refine wp_seq_k (fun K12 hK12 => ?_)
                refine wp_seq_k (fun K13 hK13 => ?_)
                refine wp_region_lit ?_
                refine wl_yield (o := ⟨_, _, _, _, _, _⟩) (SC.val c) (yl_set (by rfl) _ rfl _ 0 rfl _ _ _ _ (fun _ h => by subst h; exact ⟨cell_heap G6 0, cell_heap G6 1, cell_heap G6 2, cell_heap G6 3⟩)) ?_
                simp only [Act.put, lzA, lzB, lzC]
                refine wl_yield (o := ⟨_, _, _, _, _, _⟩) (.agg #[.bool (Y9.absent), .slice ai' Y9.ints.length ci', .bool (Y9.co), .slice az' Y9.strs.length cz']) (yl_set (by rfl) _ rfl _ 0 rfl _ _ _ _ (fun _ h => by subst h; exact ⟨cell_heap G8 0, cell_heap G8 1, cell_heap G8 2, cell_heap G8 3⟩)) ?_
                simp only [Act.put, lzA, lzB, lzC]
                refine wt_call (o := ⟨_, _, _, _, _, _⟩) (by rfl) 41 _ _ rfl #[SC.val c, .agg #[.bool (Y9.absent), .slice ai' Y9.ints.length ci', .bool (Y9.co), .slice az' Y9.strs.length cz']] rfl (run_call Tryz.func41 (by kernel_rfl) (by kernel_rfl)) ?_
                refine (and_any _ _ (accV ((cutL l).take k)) Y9 _ HC4 (show SetAt _ (SC.val ⟨Y9.absent, ai', Y9.ints.length, ci', Y9.co, az', Y9.strs.length, cz'⟩) Y9 from ⟨_, _, rfl, hI9.on (below_none D2), hT9.on (below_none D2)⟩) fa.two hfk.two).mono ?_
                rintro r v10 (⟨⟨x9, rfl, HA9⟩, kb⟩)
                · replace HA9 := HA9
                  replace D := grown_below D kb
                  replace HE := HE.on kb
                  replace D2 := grown_below D2 kb
                  replace G6 := heap_on G6 kb
                  replace HC4 := HC4.on kb
                  replace G8 := heap_on G8 kb
                  clear kb
                  refine Or.inl ⟨x9, rfl, ?_⟩
                  simp only [Act.put, lzA, lzB, lzC]
                  refine wt_call (o := ⟨_, _, _, _, _, _⟩) (by rfl) 40 _ _ rfl #[x9] rfl (run_call Tryz.func40 (by kernel_rfl) (by kernel_rfl)) ?_
                  refine (empty_any _ _ _ HA9).mono ?_
                  rintro r v11 (⟨rfl, kb⟩)
                  · replace D := grown_below D kb
                    replace HE := HE.on kb
                    replace D2 := grown_below D2 kb
                    replace G6 := heap_on G6 kb
                    replace HC4 := HC4.on kb
                    replace G8 := heap_on G8 kb
                    clear kb
                    refine Or.inl ⟨.bool true, ret_bool hAE.1, ?_⟩
                    simp only [Act.put, lzA, lzB, lzC]
                    refine wl_yield (o := ⟨_, _, _, _, _, _⟩) (.bool false) (yl_not (by rfl) _ _ rfl true rfl) ?_
                    simp only [Act.put, lzA, lzB, lzC]
                    refine wl_yield (o := ⟨_, _, _, _, _, _⟩) (.bool false) (yl_move (by rfl) _ rfl _ rfl) ?_
                    simp only [Act.put, lzA, lzB, lzC]
                    refine wl_yield (o := ⟨_, _, _, _, _, _⟩) (.agg #[.bool (Y9.absent), .slice ai' Y9.ints.length ci', .bool (Y9.co), .slice az' Y9.strs.length cz']) (yl_set (by rfl) _ rfl _ 0 rfl _ _ _ _ (fun _ h => by subst h; exact ⟨cell_heap G8 0, cell_heap G8 1, cell_heap G8 2, cell_heap G8 3⟩)) ?_
                    simp only [Act.put, lzA, lzB, lzC]
                    refine wt_call (o := ⟨_, _, _, _, _, _⟩) (by rfl) 21 _ _ rfl #[.agg #[.bool (Y9.absent), .slice ai' Y9.ints.length ci', .bool (Y9.co), .slice az' Y9.strs.length cz']] rfl (run_call Tryz.func21 (by kernel_rfl) (by kernel_rfl)) ?_
                    refine (refRightSet_any _ Y9 _ (show SetAt _ (SC.val ⟨Y9.absent, ai', Y9.ints.length, ci', Y9.co, az', Y9.strs.length, cz'⟩) Y9 from ⟨_, _, rfl, hI9.on (below_none D2), hT9.on (below_none D2)⟩)).mono ?_
                    rintro r v12 (⟨rfl, kb⟩)
                    · replace D := grown_below D kb
                      replace HE := HE.on kb
                      replace D2 := grown_below D2 kb
                      replace G6 := heap_on G6 kb
                      replace HC4 := HC4.on kb
                      replace G8 := heap_on G8 kb
                      clear kb
                      refine Or.inl ⟨.bool true, ret_bool hfk.good.r, ?_⟩
                      simp only [Act.put, lzA, lzB, lzC]
                      refine wl_yield (o := ⟨_, _, _, _, _, _⟩) (.bool false) (yl_not (by rfl) _ _ rfl true rfl) ?_
                      simp only [Act.put, lzA, lzB, lzC]
                      refine wl_yield (o := ⟨_, _, _, _, _, _⟩) (.bool false) (yl_pickF (by rfl) _ _ _ rfl rfl _ rfl) ?_
                      simp only [Act.put, lzA, lzB, lzC]
                      refine wl_yield (o := ⟨_, _, _, _, _, _⟩) (.bool false) (yl_move (by rfl) _ rfl _ rfl) ?_
                      simp only [Act.put, lzA, lzB, lzC]
                      refine wl_yield (o := ⟨_, _, _, _, _, _⟩) (.int .i64 (k : Nat)) (yl_move (by rfl) _ rfl _ rfl) ?_
                      simp only [Act.put, lzA, lzB, lzC]
                      refine wl_yield (o := ⟨_, _, _, _, _, _⟩) (.bool false) (yt_gtrI (by rfl) _ _ _ rfl ((k : Nat) : Int) 200 false rfl rfl (decide_eq_false (by omega))) ?_
                      simp only [Act.put, lzA, lzB, lzC]
                      refine wl_yield (o := ⟨_, _, _, _, _, _⟩) (.bool false) (yl_pickF (by rfl) _ _ _ rfl rfl _ rfl) ?_
                      simp only [Act.put, lzA, lzB, lzC]
                      refine wpList_nil ?_
                      refine hK13 _ _ ?_
                      clear hK13 K13
                      refine wp_cond_false rfl ?_
                      refine wp_skip ?_
                      refine hK12 _ _ ?_
                      clear hK12 K12
                      refine wp_region_lit ?_
                      refine wl_yield (o := ⟨_, _, _, _, _, _⟩) (SC.val c) (yl_set (by rfl) _ rfl _ 0 rfl _ _ _ _ (fun _ h => by subst h; exact ⟨cell_heap G6 0, cell_heap G6 1, cell_heap G6 2, cell_heap G6 3⟩)) ?_
                      simp only [Act.put, lzA, lzB, lzC]
                      refine wl_yield (o := ⟨_, _, _, _, _, _⟩) (.agg #[.bool (Y9.absent), .slice ai' Y9.ints.length ci', .bool (Y9.co), .slice az' Y9.strs.length cz']) (yl_set (by rfl) _ rfl _ 0 rfl _ _ _ _ (fun _ h => by subst h; exact ⟨cell_heap G8 0, cell_heap G8 1, cell_heap G8 2, cell_heap G8 3⟩)) ?_
                      simp only [Act.put, lzA, lzB, lzC]
                      refine wt_call (o := ⟨_, _, _, _, _, _⟩) (by rfl) 42 _ _ rfl #[SC.val c, .agg #[.bool (Y9.absent), .slice ai' Y9.ints.length ci', .bool (Y9.co), .slice az' Y9.strs.length cz']] rfl (run_call Tryz.func42 (by kernel_rfl) (by kernel_rfl)) ?_
                      refine (or_any _ _ (accV ((cutL l).take k)) Y9 _ HC4 (show SetAt _ (SC.val ⟨Y9.absent, ai', Y9.ints.length, ci', Y9.co, az', Y9.strs.length, cz'⟩) Y9 from ⟨_, _, rfl, hI9.on (below_none D2), hT9.on (below_none D2)⟩) fa.two hfk.two).mono ?_
                      rintro r v13 (⟨⟨x9, rfl, HO9⟩, kb⟩)
                      · replace D := grown_below D kb
                        replace HE := HE.on kb
                        replace D2 := grown_below D2 kb
                        replace G6 := heap_on G6 kb
                        replace HC4 := HC4.on kb
                        replace G8 := heap_on G8 kb
                        clear kb
                        obtain ⟨d9, rfl, HO9⟩ := setAt_sc HO9
                        refine Or.inl ⟨SC.val d9, rfl, ?_⟩
                        simp only [Act.put, lzA, lzB, lzC]
                        refine wt_putSt (o := ⟨_, _, _, _, _, _⟩) rfl _ _ rfl _ rfl (d9) rfl G6 rfl (fun v14 X kg => ?_)
                        simp only [Act.put, lzA, lzB, lzC]
                        replace D := gr_new D ge_g6 kg
                        replace HE := Env.gr HE kg six_g6
                        replace D2 := gr_new D2 ge_D2_g6 kg
                        replace G8 := heap_gr G8 kg (Ne.symm n_g6_g8)
                        replace HO9 := SetAt.asg HO9 G6 pl4 kg
                        clear kg
                        replace G6 : v14.heap[g6]? = some (.cells #[.bool (d9.a), .slice d9.p d9.n d9.c, .bool (d9.d), .slice d9.q d9.m d9.e] 26 (0, 0)) := X
                        clear X
                        refine wpList_nil ?_
                        refine hK10 _ _ ?_
                        clear hK10 K10
                        refine wp_region_lit ?_
                        refine wl_yield (o := ⟨_, _, _, _, _, _⟩) (.int .i64 (k + 1 : Nat)) (yt_addI (by rfl) _ _ _ rfl ((k : Nat) : Int) 1 ((k + 1 : Nat) : Int) rfl rfl (by omega) (by omega) (by omega)) ?_
                        simp only [Act.put, lzA, lzB, lzC]
                        refine wl_yield (o := ⟨_, _, _, _, _, _⟩) (.int .i64 (k + 1 : Nat)) (yl_move (by rfl) _ rfl _ rfl) ?_
                        simp only [Act.put, lzA, lzB, lzC]
                        refine wpList_nil ?_
                        show _ ∧ _
                        go_roundw
                        case rel => exact ⟨k + 1, d9, rfl, by omega, by omega, G6, by rw [take_more9 hlt, acc_snoc, hX9]; exact HO9, HE, D2, D⟩
                        case measure => simp [intOf]; omega
            · obtain rfl : k = (cutL l).length := by omega
              rw [List.take_length] at HC4
              have hn500 : (cutL l).length ≤ 500 := by omega
              refine wp_seq_k (fun K8 hK8 => ?_)
              refine wp_region_lit ?_
              refine wl_yield (o := ⟨_, _, _, _, _, _⟩) (.bool false) (yt_lssI (by rfl) _ _ _ rfl (((cutL l).length : Nat) : Int) (((cutL l).length : Nat) : Int) false rfl rfl (decide_eq_false (by omega))) ?_
              simp only [Act.put, lzA, lzB, lzC]
              refine wpList_nil ?_
              refine hK8 _ _ ?_
              clear hK8 K8
              refine wp_seq_k (fun K9 hK9 => ?_)
              refine wp_cond_false rfl ?_
              refine wp_exit ?_
              refine hK6 _ _ ?_
              clear hK9 K9 hK6 K6
              refine wp_seq_k (fun K10 hK10 => ?_)
              refine wp_seq_k (fun K11 hK11 => ?_)
              refine wp_region_lit ?_
              refine wl_yield (o := ⟨_, _, _, _, _, _⟩) (.slice a0 l.length cap0) (yl_move (by rfl) _ rfl _ rfl) ?_
              simp only [Act.put, lzA, lzB, lzC]
              refine wl_yield (o := ⟨_, _, _, _, _, _⟩) (.int .i64 (l.length : Nat)) (yt_lenQ (by rfl) _ rfl a0 l.length cap0 rfl) ?_
              simp only [Act.put, lzA, lzB, lzC]
              refine wl_yield (o := ⟨_, _, _, _, _, _⟩) (.int .i64 0) (yl_move (by rfl) _ rfl _ rfl) ?_
              simp only [Act.put, lzA, lzB, lzC]
              refine wpList_nil ?_
              refine hK11 _ _ ?_
              clear hK11 K11
              refine wp_block ?_
              go_loopw [59] (fun i wr => ∃ (k : Nat), i = .int .i64 ((k : Nat) : Int) ∧ k ≤ l.length ∧ wr.heap[g6]? = some (.cells #[.bool (c.a), .slice c.p c.n c.c, .bool (c.d), .slice c.q c.m c.e] 26 (0, 0)) ∧ SetAt wr c.val (accV (cutL l)) ∧ Env wr ∧ v5.grownBy wr none ∧ w.grownBy wr none) (fun i _ => l.length - (intOf i).toNat)
              case atStart => exact ⟨0, rfl, Nat.zero_le _, G6, HC4, HE, D2, D⟩
              case round =>
                clear D D2 HE HC4 G6 hk
                obtain ⟨k, rfl, hk, G6, HC4, HE, D2, D⟩ := hrel
                by_cases hlt : k < l.length
                · have hSm : l.getD k noSet ∈ l := gD_mem hlt
                  obtain ⟨gI, oI, vi, vs, rfl, hgI, C0, C1, C2, C3, hI, hT⟩ := hv.at.2 k hlt
                  generalize hS : l.getD k noSet = S at C0 C2 hI hT hSm
                  obtain ⟨ai, ci, rfl⟩ := hI.form
                  obtain ⟨az, cz, rfl⟩ := hT.form
                  have hfS1 := List.all_eq_true.1 hfl S hSm
                  have cellD := fun (W : World) (D : w.grownBy W none) (j : Nat) => (below_none D).cell (p := ⟨gI, j, none⟩) hgI
                  refine wp_seq_k (fun K12 hK12 => ?_)
                  refine wp_region_lit ?_
                  refine wl_yield (o := ⟨_, _, _, _, _, _⟩) (.bool true) (yt_lssI (by rfl) _ _ _ rfl ((k : Nat) : Int) ((l.length : Nat) : Int) true rfl rfl (decide_eq_true (by omega))) ?_
                  simp only [Act.put, lzA, lzB, lzC]
                  refine wpList_nil ?_
                  refine hK12 _ _ ?_
                  clear hK12 K12
                  refine wp_seq_k (fun K13 hK13 => ?_)
                  refine wp_cond_true rfl ?_
                  refine wp_skip ?_
                  refine hK13 _ _ ?_
                  clear hK13 K13
                  refine wp_seq_k (fun K14 hK14 => ?_)
                  refine wp_block ?_
                  refine wp_seq_k (fun K15 hK15 => ?_)
                  refine wp_region_lit ?_
                  refine wl_yield (o := ⟨_, _, _, _, _, _⟩) (.pointer (some ⟨gI, oI + k * 4, none⟩)) (yt_atQ (by rfl) _ _ rfl gI oI _ _ k rfl rfl (hlt)) ?_
                  simp only [Act.put, lzA, lzB, lzC]
                  refine wl_yield (o := ⟨_, _, _, _, _, _⟩) (.agg #[.bool (S.absent), .slice ai S.ints.length ci, .bool (S.co), .slice az S.strs.length cz]) (yl_set (by rfl) _ rfl _ _ rfl _ _ _ _ (fun _ h => by subst h; exact ⟨(cellD _ D _).trans C0, (cellD _ D _).trans C1, (cellD _ D _).trans C2, (cellD _ D _).trans C3⟩)) ?_
                  simp only [Act.put, lzA, lzB, lzC]
                  refine wt_allocSt (o := ⟨_, _, _, _, _, _⟩) (by rfl) rfl (fun v8 g8 hg G8 kb => ?_)
                  simp only [Act.put, lzA, lzB, lzC]
                  have n_g6_g8 : g6 ≠ g8 := by have := lt_heap G6; omega
                  have ge_g8 : w.heap.size ≤ g8 := Nat.le_trans D.size hg
                  have ge_D2_g8 : v5.heap.size ≤ g8 := Nat.le_trans D2.size hg
                  have six_g8 : 2 ≤ g8 := Nat.le_trans w6 ge_g8
                  clear hg
                  replace D := grown_below D kb
                  replace HE := HE.on kb
                  replace D2 := grown_below D2 kb
                  replace G6 := heap_on G6 kb
                  replace HC4 := HC4.on kb
                  clear kb
                  replace G8 : v8.heap[g8]? = some (.cells #[.bool false, .slice none 0 0, .bool false, .slice none 0 0] 26 (0, 0)) := G8
                  refine wt_putSt (o := ⟨_, _, _, _, _, _⟩) rfl _ _ rfl _ rfl (⟨S.absent, ai, S.ints.length, ci, S.co, az, S.strs.length, cz⟩) rfl G8 rfl (fun v9 X kg => ?_)
                  simp only [Act.put, lzA, lzB, lzC]
                  replace D := gr_new D ge_g8 kg
                  replace HE := Env.gr HE kg six_g8
                  replace D2 := gr_new D2 ge_D2_g8 kg
                  replace G6 := heap_gr G6 kg n_g6_g8
                  replace HC4 := SetAt.asg HC4 G8 pl4 kg
                  clear kg
                  replace G8 : v9.heap[g8]? = some (.cells #[.bool (S.absent), .slice ai S.ints.length ci, .bool (S.co), .slice az S.strs.length cz] 26 (0, 0)) := X
                  clear X
                  refine wpList_nil ?_
                  refine hK15 _ _ ?_
                  clear hK15 K15
                  refine wp_seq_k (fun K16 hK16 => ?_)
                  refine wp_seq_k (fun K17 hK17 => ?_)
                  refine wp_region_lit ?_
                  refine wl_yield (o := ⟨_, _, _, _, _, _⟩) (.agg #[.bool (S.absent), .slice ai S.ints.length ci, .bool (S.co), .slice az S.strs.length cz]) (yl_set (by rfl) _ rfl _ 0 rfl _ _ _ _ (fun _ h => by subst h; exact ⟨cell_heap G8 0, cell_heap G8 1, cell_heap G8 2, cell_heap G8 3⟩)) ?_
                  simp only [Act.put, lzA, lzB, lzC]
                  cases hr : rightSet S
                  · refine wt_call (o := ⟨_, _, _, _, _, _⟩) (by rfl) 21 _ _ rfl #[.agg #[.bool (S.absent), .slice ai S.ints.length ci, .bool (S.co), .slice az S.strs.length cz]] rfl (run_call Tryz.func21 (by kernel_rfl) (by kernel_rfl)) ?_
                    refine (refRightSet_any _ S _ (show SetAt _ (SC.val ⟨S.absent, ai, S.ints.length, ci, S.co, az, S.strs.length, cz⟩) S from ⟨_, _, rfl, hI.on (below_none D), hT.on (below_none D)⟩)).mono ?_
                    rintro r v10 (⟨rfl, kb⟩)
                    · replace D := grown_below D kb
                      replace HE := HE.on kb
                      replace D2 := grown_below D2 kb
                      replace G6 := heap_on G6 kb
                      replace HC4 := HC4.on kb
                      replace G8 := heap_on G8 kb
                      clear kb
                      refine Or.inl ⟨.bool false, ret_bool hr, ?_⟩
                      simp only [Act.put, lzA, lzB, lzC]
                      refine wl_yield (o := ⟨_, _, _, _, _, _⟩) (.bool true) (yl_not (by rfl) _ _ rfl false rfl) ?_
                      simp only [Act.put, lzA, lzB, lzC]
                      refine wpList_nil ?_
                      refine hK17 _ _ ?_
                      clear hK17 K17
                      refine wp_cond_true rfl ?_
                      refine wp_exit ?_
                      refine hK14 _ _ ?_
                      clear hK16 K16 hK14 K14
                      refine wp_region_lit ?_
                      refine wl_yield (o := ⟨_, _, _, _, _, _⟩) (.int .i64 (k + 1 : Nat)) (yt_addI (by rfl) _ _ _ rfl ((k : Nat) : Int) 1 ((k + 1 : Nat) : Int) rfl rfl (by omega) (by omega) (by omega)) ?_
                      simp only [Act.put, lzA, lzB, lzC]
                      refine wl_yield (o := ⟨_, _, _, _, _, _⟩) (.int .i64 (k + 1 : Nat)) (yl_move (by rfl) _ rfl _ rfl) ?_
                      simp only [Act.put, lzA, lzB, lzC]
                      refine wpList_nil ?_
                      show _ ∧ _
                      go_roundw
                      case rel => exact ⟨k + 1, rfl, by omega, G6, HC4, HE, D2, D⟩
                      case measure => simp [intOf]; omega
                  · refine wt_call (o := ⟨_, _, _, _, _, _⟩) (by rfl) 21 _ _ rfl #[.agg #[.bool (S.absent), .slice ai S.ints.length ci, .bool (S.co), .slice az S.strs.length cz]] rfl (run_call Tryz.func21 (by kernel_rfl) (by kernel_rfl)) ?_
                    refine (refRightSet_any _ S _ (show SetAt _ (SC.val ⟨S.absent, ai, S.ints.length, ci, S.co, az, S.strs.length, cz⟩) S from ⟨_, _, rfl, hI.on (below_none D), hT.on (below_none D)⟩)).mono ?_
                    rintro r v10 (⟨rfl, kb⟩)
                    · replace D := grown_below D kb
                      replace HE := HE.on kb
                      replace D2 := grown_below D2 kb
                      replace G6 := heap_on G6 kb
                      replace HC4 := HC4.on kb
                      replace G8 := heap_on G8 kb
                      clear kb
                      refine Or.inl ⟨.bool true, ret_bool hr, ?_⟩
                      simp only [Act.put, lzA, lzB, lzC]
                      refine wl_yield (o := ⟨_, _, _, _, _, _⟩) (.bool false) (yl_not (by rfl) _ _ rfl true rfl) ?_
                      simp only [Act.put, lzA, lzB, lzC]
                      refine wpList_nil ?_
                      refine hK17 _ _ ?_
                      clear hK17 K17
                      refine wp_cond_false rfl ?_
                      refine wp_skip ?_
                      refine hK16 _ _ ?_
                      clear hK16 K16
                      refine wp_seq_k (fun K18 hK18 => ?_)
                      refine wp_region_lit ?_
                      refine wl_yield (o := ⟨_, _, _, _, _, _⟩) (.agg #[.bool false, .slice none 0 0, .bool false, .slice none 0 0]) (yq_bS (by rfl) rfl) ?_
                      simp only [Act.put, lzA, lzB, lzC]
                      refine wt_allocSt (o := ⟨_, _, _, _, _, _⟩) (by rfl) rfl (fun v11 g11 hg G11 kb => ?_)
                      simp only [Act.put, lzA, lzB, lzC]
                      have n_g6_g11 : g6 ≠ g11 := by have := lt_heap G6; omega
                      have n_g8_g11 : g8 ≠ g11 := by have := lt_heap G8; omega
                      have ge_g11 : w.heap.size ≤ g11 := Nat.le_trans D.size hg
                      have ge_D2_g11 : v5.heap.size ≤ g11 := Nat.le_trans D2.size hg
                      have six_g11 : 2 ≤ g11 := Nat.le_trans w6 ge_g11
                      clear hg
                      replace D := grown_below D kb
                      replace HE := HE.on kb
                      replace D2 := grown_below D2 kb
                      replace G6 := heap_on G6 kb
                      replace HC4 := HC4.on kb
                      replace G8 := heap_on G8 kb
                      clear kb
                      replace G11 : v11.heap[g11]? = some (.cells #[.bool false, .slice none 0 0, .bool false, .slice none 0 0] 26 (0, 0)) := G11
                      refine wt_putSt (o := ⟨_, _, _, _, _, _⟩) rfl _ _ rfl _ rfl (⟨false, none, 0, 0, false, none, 0, 0⟩) rfl G11 rfl (fun v12 X kg => ?_)
                      simp only [Act.put, lzA, lzB, lzC]
                      replace D := gr_new D ge_g11 kg
                      replace HE := Env.gr HE kg six_g11
                      replace D2 := gr_new D2 ge_D2_g11 kg
                      replace G6 := heap_gr G6 kg n_g6_g11
                      replace HC4 := SetAt.asg HC4 G11 pl4 kg
                      replace G8 := heap_gr G8 kg n_g8_g11
                      clear kg
                      replace G11 : v12.heap[g11]? = some (.cells #[.bool false, .slice none 0 0, .bool false, .slice none 0 0] 26 (0, 0)) := X
                      clear X
                      refine wpList_nil ?_
                      refine hK18 _ _ ?_
                      clear hK18 K18
                      refine wp_seq_k (fun K19 hK19 => ?_)
                      refine wp_seq_k (fun K20 hK20 => ?_)
                      refine wp_region_lit ?_
                      refine wl_yield (o := ⟨_, _, _, _, _, _⟩) (.slice a5 (cutL l).length cap5) (yl_move (by rfl) _ rfl _ rfl) ?_
                      simp only [Act.put, lzA, lzB, lzC]
                      refine wl_yield (o := ⟨_, _, _, _, _, _⟩) (.int .i64 ((cutL l).length : Nat)) (yt_lenQ (by rfl) _ rfl a5 (cutL l).length cap5 rfl) ?_
                      simp only [Act.put, lzA, lzB, lzC]
                      refine wl_yield (o := ⟨_, _, _, _, _, _⟩) (.int .i64 0) (yl_move (by rfl) _ rfl _ rfl) ?_
                      simp only [Act.put, lzA, lzB, lzC]
                      refine wpList_nil ?_
                      refine hK20 _ _ ?_
                      clear hK20 K20
                      refine wp_block ?_
                      have hfS : Fit S := fit_few hr hI.1 hfS1
                      go_loopw [69] (fun i wr => ∃ (j : Nat) (d : SC), i = .int .i64 ((j : Nat) : Int) ∧ j ≤ (cutL l).length ∧ wr.heap[g6]? = some (.cells #[.bool (c.a), .slice c.p c.n c.c, .bool (c.d), .slice c.q c.m c.e] 26 (0, 0)) ∧ SetAt wr c.val (accV (cutL l)) ∧ wr.heap[g8]? = some (.cells #[.bool (S.absent), .slice ai S.ints.length ci, .bool (S.co), .slice az S.strs.length cz] 26 (0, 0)) ∧ wr.heap[g11]? = some (.cells #[.bool (d.a), .slice d.p d.n d.c, .bool (d.d), .slice d.q d.m d.e] 26 (0, 0)) ∧ SetAt wr d.val (accV (((cutL l).take j).filter fun x => hasP S (smpV x))) ∧ Env wr ∧ v5.grownBy wr none ∧ w.grownBy wr none) (fun i _ => (cutL l).length - (intOf i).toNat)
                      case atStart => exact ⟨0, ⟨false, none, 0, 0, false, none, 0, 0⟩, rfl, Nat.zero_le _, G6, HC4, G8, G11, noSet_sc _ false false, HE, D2, D⟩
                      case round =>
                        clear D D2 HE HC4 G6 G8 G11
                        obtain ⟨j, d, rfl, hj, G6, HC4, G8, G11, HC9, HE, D2, D⟩ := hrel
                        by_cases hlj : j < (cutL l).length
                        · have hYm : (cutL l).getD j noSet ∈ cutL l := gD_mem hlj
                          have hfk := hfit _ hYm
                          obtain ⟨q, hq⟩ := hsm j hlj
                          have hqh := sample_has hq (by have := hfk.ns; omega)
                          obtain ⟨gA, oA, vi', vs', rfl, hgA, A0, A1, A2, A3, hI9, hT9⟩ := HS.at.2 j hlj
                          have cellA := fun (W : World) (D : v5.grownBy W none) (j : Nat) => (below_none D).cell (p := ⟨gA, j, none⟩) hgA
                          obtain ⟨ai', ci', rfl⟩ := hI9.form
                          obtain ⟨az', cz', rfl⟩ := hT9.form
                          have hqm := hasP_max hqh
                          generalize hX9 : (cutL l).getD j noSet = Y9 at A0 A1 A2 A3 hI9 hT9 hq hqh hfk
                          have hsq : smpV Y9 = q := by unfold smpV; rw [hq]; rfl
                          have fs9 : Fit (accV (((cutL l).take j).filter fun x => hasP S (smpV x))) := acc_fit hil hfc hfl hl6 (fun T hT => List.mem_of_mem_take (List.mem_filter.1 hT).1) (Nat.le_trans (List.length_filter_le _ _) (by rw [List.length_take]; omega)) (Nat.le_trans (tot_filter _ _ _) (tot_take _ _ _))
                          refine wp_seq_k (fun K21 hK21 => ?_)
                          refine wp_region_lit ?_
                          refine wl_yield (o := ⟨_, _, _, _, _, _⟩) (.bool true) (yt_lssI (by rfl) _ _ _ rfl ((j : Nat) : Int) (((cutL l).length : Nat) : Int) true rfl rfl (decide_eq_true (by omega))) ?_
                          simp only [Act.put, lzA, lzB, lzC]
                          refine wpList_nil ?_
                          refine hK21 _ _ ?_
                          clear hK21 K21
                          refine wp_seq_k (fun K22 hK22 => ?_)
                          refine wp_cond_true rfl ?_
                          refine wp_skip ?_
                          refine hK22 _ _ ?_
                          clear hK22 K22
                          refine wp_seq_k (fun K23 hK23 => ?_)
                          refine wp_block ?_
                          refine wp_seq_k (fun K24 hK24 => ?_)
                          refine wp_region_lit ?_
                          refine wl_yield (o := ⟨_, _, _, _, _, _⟩) (.pointer (some ⟨gA, oA + j * 4, none⟩)) (yt_atQ (by rfl) _ _ rfl gA oA _ _ j rfl rfl (hlj)) ?_
                          simp only [Act.put, lzA, lzB, lzC]
                          refine wl_yield (o := ⟨_, _, _, _, _, _⟩) (.agg #[.bool (Y9.absent), .slice ai' Y9.ints.length ci', .bool (Y9.co), .slice az' Y9.strs.length cz']) (yl_set (by rfl) _ rfl _ _ rfl _ _ _ _ (fun _ h => by subst h; exact ⟨(cellA _ D2 _).trans A0, (cellA _ D2 _).trans A1, (cellA _ D2 _).trans A2, (cellA _ D2 _).trans A3⟩)) ?_
                          simp only [Act.put, lzA, lzB, lzC]
                          refine wt_allocSt (o := ⟨_, _, _, _, _, _⟩) (by rfl) rfl (fun v13 g13 hg G13 kb => ?_)
                          simp only [Act.put, lzA, lzB, lzC]
                          have n_g6_g13 : g6 ≠ g13 := by have := lt_heap G6; omega
                          have n_g8_g13 : g8 ≠ g13 := by have := lt_heap G8; omega
                          have n_g11_g13 : g11 ≠ g13 := by have := lt_heap G11; omega
                          have ge_g13 : w.heap.size ≤ g13 := Nat.le_trans D.size hg
                          have ge_D2_g13 : v5.heap.size ≤ g13 := Nat.le_trans D2.size hg
                          have six_g13 : 2 ≤ g13 := Nat.le_trans w6 ge_g13
                          clear hg
                          replace D := grown_below D kb
                          replace HE := HE.on kb
                          replace D2 := grown_below D2 kb
                          replace G6 := heap_on G6 kb
                          replace HC4 := HC4.on kb
                          replace G8 := heap_on G8 kb
                          replace G11 := heap_on G11 kb
                          replace HC9 := HC9.on kb
                          clear kb
                          replace G13 : v13.heap[g13]? = some (.cells #[.bool false, .slice none 0 0, .bool false, .slice none 0 0] 26 (0, 0)) := G13
                          refine wt_putSt (o := ⟨_, _, _, _, _, _⟩) rfl _ _ rfl _ rfl (⟨Y9.absent, ai', Y9.ints.length, ci', Y9.co, az', Y9.strs.length, cz'⟩) rfl G13 rfl (fun v14 X kg => ?_)
                          simp only [Act.put, lzA, lzB, lzC]
                          replace D := gr_new D ge_g13 kg
                          replace HE := Env.gr HE kg six_g13
                          replace D2 := gr_new D2 ge_D2_g13 kg
                          replace G6 := heap_gr G6 kg n_g6_g13
                          replace HC4 := SetAt.asg HC4 G13 pl4 kg
                          replace G8 := heap_gr G8 kg n_g8_g13
                          replace G11 := heap_gr G11 kg n_g11_g13
                          replace HC9 := SetAt.asg HC9 G13 pl4 kg
                          clear kg
                          replace G13 : v14.heap[g13]? = some (.cells #[.bool (Y9.absent), .slice ai' Y9.ints.length ci', .bool (Y9.co), .slice az' Y9.strs.length cz'] 26 (0, 0)) := X
                          clear X
                          refine wpList_nil ?_
                          refine hK24 _ _ ?_
                          clear hK24 K24
                          refine wp_seq_k (fun K25 hK25 => ?_)
                          refine wp_region_lit ?_
                          refine wl_yield (o := ⟨_, _, _, _, _, _⟩) (.agg #[.bool (Y9.absent), .slice ai' Y9.ints.length ci', .bool (Y9.co), .slice az' Y9.strs.length cz']) (yl_set (by rfl) _ rfl _ 0 rfl _ _ _ _ (fun _ h => by subst h; exact ⟨cell_heap G13 0, cell_heap G13 1, cell_heap G13 2, cell_heap G13 3⟩)) ?_
                          simp only [Act.put, lzA, lzB, lzC]
                          refine wl_yield (o := ⟨_, _, _, _, _, _⟩) (.agg #[.bool (S.absent), .slice ai S.ints.length ci, .bool (S.co), .slice az S.strs.length cz]) (yl_set (by rfl) _ rfl _ 0 rfl _ _ _ _ (fun _ h => by subst h; exact ⟨cell_heap G8 0, cell_heap G8 1, cell_heap G8 2, cell_heap G8 3⟩)) ?_
                          simp only [Act.put, lzA, lzB, lzC]
                          cases hin : hasP S q
                          · refine wt_call (o := ⟨_, _, _, _, _, _⟩) (by rfl) 24 _ _ rfl #[.agg #[.bool (Y9.absent), .slice ai' Y9.ints.length ci', .bool (Y9.co), .slice az' Y9.strs.length cz'], .agg #[.bool (S.absent), .slice ai S.ints.length ci, .bool (S.co), .slice az S.strs.length cz]] rfl (run_call Tryz.func24 (by kernel_rfl) (by kernel_rfl)) ?_
                            refine (in_any _ _ Y9 S q _ HE (show SetAt _ (SC.val ⟨Y9.absent, ai', Y9.ints.length, ci', Y9.co, az', Y9.strs.length, cz'⟩) Y9 from ⟨_, _, rfl, hI9.on (below_none D2), hT9.on (below_none D2)⟩) (show SetAt _ (SC.val ⟨S.absent, ai, S.ints.length, ci, S.co, az, S.strs.length, cz⟩) S from ⟨_, _, rfl, hI.on (below_none D), hT.on (below_none D)⟩) (fun _ => hfk) hfS hq hqm).mono ?_
                            rintro r v15 (⟨rfl, kb⟩)
                            · replace D := grown_below D kb
                              replace HE := HE.on kb
                              replace D2 := grown_below D2 kb
                              replace G6 := heap_on G6 kb
                              replace HC4 := HC4.on kb
                              replace G8 := heap_on G8 kb
                              replace G11 := heap_on G11 kb
                              replace HC9 := HC9.on kb
                              replace G13 := heap_on G13 kb
                              clear kb
                              refine Or.inl ⟨.bool false, ret_bool hin, ?_⟩
                              simp only [Act.put, lzA, lzB, lzC]
                              refine wpList_nil ?_
                              refine hK25 _ _ ?_
                              clear hK25 K25
                              refine wp_cond_false rfl ?_
                              refine wp_skip ?_
                              refine hK23 _ _ ?_
                              clear hK23 K23
                              refine wp_region_lit ?_
                              refine wl_yield (o := ⟨_, _, _, _, _, _⟩) (.int .i64 (j + 1 : Nat)) (yt_addI (by rfl) _ _ _ rfl ((j : Nat) : Int) 1 ((j + 1 : Nat) : Int) rfl rfl (by omega) (by omega) (by omega)) ?_
                              simp only [Act.put, lzA, lzB, lzC]
                              refine wl_yield (o := ⟨_, _, _, _, _, _⟩) (.int .i64 (j + 1 : Nat)) (yl_move (by rfl) _ rfl _ rfl) ?_
                              simp only [Act.put, lzA, lzB, lzC]
                              refine wpList_nil ?_
                              show _ ∧ _
                              go_roundw
                              case rel => exact ⟨j + 1, d, rfl, by omega, G6, HC4, G8, G11, by rw [take_filter hlj, hX9, if_neg (show ¬ hasP S (smpV Y9) = true by rw [hsq, hin]; decide), List.append_nil]; exact HC9, HE, D2, D⟩
                              case measure => simp [intOf]; omega
                          · refine wt_call (o := ⟨_, _, _, _, _, _⟩) (by rfl) 24 _ _ rfl #[.agg #[.bool (Y9.absent), .slice ai' Y9.ints.length ci', .bool (Y9.co), .slice az' Y9.strs.length cz'], .agg #[.bool (S.absent), .slice ai S.ints.length ci, .bool (S.co), .slice az S.strs.length cz]] rfl (run_call Tryz.func24 (by kernel_rfl) (by kernel_rfl)) ?_
                            refine (in_any _ _ Y9 S q _ HE (show SetAt _ (SC.val ⟨Y9.absent, ai', Y9.ints.length, ci', Y9.co, az', Y9.strs.length, cz'⟩) Y9 from ⟨_, _, rfl, hI9.on (below_none D2), hT9.on (below_none D2)⟩) (show SetAt _ (SC.val ⟨S.absent, ai, S.ints.length, ci, S.co, az, S.strs.length, cz⟩) S from ⟨_, _, rfl, hI.on (below_none D), hT.on (below_none D)⟩) (fun _ => hfk) hfS hq hqm).mono ?_
                            rintro r v15 (⟨rfl, kb⟩)
                            · replace D := grown_below D kb
                              replace HE := HE.on kb
                              replace D2 := grown_below D2 kb
                              replace G6 := heap_on G6 kb
                              replace HC4 := HC4.on kb
                              replace G8 := heap_on G8 kb
                              replace G11 := heap_on G11 kb
                              replace HC9 := HC9.on kb
                              replace G13 := heap_on G13 kb
                              clear kb
                              refine Or.inl ⟨.bool true, ret_bool hin, ?_⟩
                              simp only [Act.put, lzA, lzB, lzC]
                              refine wpList_nil ?_
                              refine hK25 _ _ ?_
                              clear hK25 K25
                              refine wp_cond_true rfl ?_
                              refine wp_region_lit ?_
                              refine wl_yield (o := ⟨_, _, _, _, _, _⟩) (SC.val d) (yl_set (by rfl) _ rfl _ 0 rfl _ _ _ _ (fun _ h => by subst h; exact ⟨cell_heap G11 0, cell_heap G11 1, cell_heap G11 2, cell_heap G11 3⟩)) ?_
                              simp only [Act.put, lzA, lzB, lzC]
                              refine wl_yield (o := ⟨_, _, _, _, _, _⟩) (.agg #[.bool (Y9.absent), .slice ai' Y9.ints.length ci', .bool (Y9.co), .slice az' Y9.strs.length cz']) (yl_set (by rfl) _ rfl _ 0 rfl _ _ _ _ (fun _ h => by subst h; exact ⟨cell_heap G13 0, cell_heap G13 1, cell_heap G13 2, cell_heap G13 3⟩)) ?_
                              simp only [Act.put, lzA, lzB, lzC]
                              refine wt_call (o := ⟨_, _, _, _, _, _⟩) (by rfl) 42 _ _ rfl #[SC.val d, .agg #[.bool (Y9.absent), .slice ai' Y9.ints.length ci', .bool (Y9.co), .slice az' Y9.strs.length cz']] rfl (run_call Tryz.func42 (by kernel_rfl) (by kernel_rfl)) ?_
                              refine (or_any _ _ (accV (((cutL l).take j).filter fun x => hasP S (smpV x))) Y9 _ HC9 (show SetAt _ (SC.val ⟨Y9.absent, ai', Y9.ints.length, ci', Y9.co, az', Y9.strs.length, cz'⟩) Y9 from ⟨_, _, rfl, hI9.on (below_none D2), hT9.on (below_none D2)⟩) fs9.two hfk.two).mono ?_
                              rintro r v16 (⟨⟨x9, rfl, HO9⟩, kb⟩)
                              · replace D := grown_below D kb
                                replace HE := HE.on kb
                                replace D2 := grown_below D2 kb
                                replace G6 := heap_on G6 kb
                                replace HC4 := HC4.on kb
                                replace G8 := heap_on G8 kb
                                replace G11 := heap_on G11 kb
                                replace HC9 := HC9.on kb
                                replace G13 := heap_on G13 kb
                                clear kb
                                obtain ⟨d9, rfl, HO9⟩ := setAt_sc HO9
                                refine Or.inl ⟨SC.val d9, rfl, ?_⟩
                                simp only [Act.put, lzA, lzB, lzC]
                                refine wt_putSt (o := ⟨_, _, _, _, _, _⟩) rfl _ _ rfl _ rfl (d9) rfl G11 rfl (fun v17 X kg => ?_)
                                simp only [Act.put, lzA, lzB, lzC]
                                replace D := gr_new D ge_g11 kg
                                replace HE := Env.gr HE kg six_g11
                                replace D2 := gr_new D2 ge_D2_g11 kg
                                replace G6 := heap_gr G6 kg n_g6_g11
                                replace HC4 := SetAt.asg HC4 G11 pl4 kg
                                replace G8 := heap_gr G8 kg n_g8_g11
                                replace G13 := heap_gr G13 kg (Ne.symm n_g11_g13)
                                replace HO9 := SetAt.asg HO9 G11 pl4 kg
                                clear kg
                                replace G11 : v17.heap[g11]? = some (.cells #[.bool (d9.a), .slice d9.p d9.n d9.c, .bool (d9.d), .slice d9.q d9.m d9.e] 26 (0, 0)) := X
                                clear X
                                refine wpList_nil ?_
                                refine hK23 _ _ ?_
                                clear hK23 K23
                                refine wp_region_lit ?_
                                refine wl_yield (o := ⟨_, _, _, _, _, _⟩) (.int .i64 (j + 1 : Nat)) (yt_addI (by rfl) _ _ _ rfl ((j : Nat) : Int) 1 ((j + 1 : Nat) : Int) rfl rfl (by omega) (by omega) (by omega)) ?_
                                simp only [Act.put, lzA, lzB, lzC]
                                refine wl_yield (o := ⟨_, _, _, _, _, _⟩) (.int .i64 (j + 1 : Nat)) (yl_move (by rfl) _ rfl _ rfl) ?_
                                simp only [Act.put, lzA, lzB, lzC]
                                refine wpList_nil ?_
                                show _ ∧ _
                                go_roundw
                                case rel => exact ⟨j + 1, d9, rfl, by omega, G6, HC4, G8, G11, by rw [take_filter hlj, hX9, if_pos (show hasP S (smpV Y9) = true by rw [hsq]; exact hin), acc_snoc]; exact HO9, HE, D2, D⟩
                                case measure => simp [intOf]; omega
                        · obtain rfl : j = (cutL l).length := by omega
                          rw [List.take_length] at HC9
                          refine wp_seq_k (fun K21 hK21 => ?_)
                          refine wp_region_lit ?_
                          refine wl_yield (o := ⟨_, _, _, _, _, _⟩) (.bool false) (yt_lssI (by rfl) _ _ _ rfl (((cutL l).length : Nat) : Int) (((cutL l).length : Nat) : Int) false rfl rfl (decide_eq_false (by omega))) ?_
                          simp only [Act.put, lzA, lzB, lzC]
                          refine wpList_nil ?_
                          refine hK21 _ _ ?_
                          clear hK21 K21
                          refine wp_seq_k (fun K22 hK22 => ?_)
                          refine wp_cond_false rfl ?_
                          refine wp_exit ?_
                          refine hK19 _ _ ?_
                          clear hK22 K22 hK19 K19
                          refine wp_seq_k (fun K23 hK23 => ?_)
                          refine wp_region_lit ?_
                          refine wl_yield (o := ⟨_, _, _, _, _, _⟩) (SC.val d) (yl_set (by rfl) _ rfl _ 0 rfl _ _ _ _ (fun _ h => by subst h; exact ⟨cell_heap G11 0, cell_heap G11 1, cell_heap G11 2, cell_heap G11 3⟩)) ?_
                          simp only [Act.put, lzA, lzB, lzC]
                          refine wl_yield (o := ⟨_, _, _, _, _, _⟩) (.agg #[.bool (S.absent), .slice ai S.ints.length ci, .bool (S.co), .slice az S.strs.length cz]) (yl_set (by rfl) _ rfl _ 0 rfl _ _ _ _ (fun _ h => by subst h; exact ⟨cell_heap G8 0, cell_heap G8 1, cell_heap G8 2, cell_heap G8 3⟩)) ?_
                          simp only [Act.put, lzA, lzB, lzC]
                          refine wt_call (o := ⟨_, _, _, _, _, _⟩) (by rfl) 43 _ _ rfl #[SC.val d, .agg #[.bool (S.absent), .slice ai S.ints.length ci, .bool (S.co), .slice az S.strs.length cz]] rfl (run_call Tryz.func43 (by kernel_rfl) (by kernel_rfl)) ?_
                          refine (same_any _ _ _ S _ HC9 (show SetAt _ (SC.val ⟨S.absent, ai, S.ints.length, ci, S.co, az, S.strs.length, cz⟩) S from ⟨_, _, rfl, hI.on (below_none D), hT.on (below_none D)⟩)).mono ?_
                          rintro r v13 (⟨rfl, kb⟩)
                          · replace D := grown_below D kb
                            replace HE := HE.on kb
                            replace D2 := grown_below D2 kb
                            replace G6 := heap_on G6 kb
                            replace HC4 := HC4.on kb
                            replace G8 := heap_on G8 kb
                            replace G11 := heap_on G11 kb
                            replace HC9 := HC9.on kb
                            clear kb
                            refine Or.inl ⟨.bool true, ret_bool ((sameB_iff _ _).2 (acc_set hil hfc hfl hl6 hn500 hSm hr)), ?_⟩
                            simp only [Act.put, lzA, lzB, lzC]
                            refine wl_yield (o := ⟨_, _, _, _, _, _⟩) (.bool false) (yl_not (by rfl) _ _ rfl true rfl) ?_
                            simp only [Act.put, lzA, lzB, lzC]
                            refine wpList_nil ?_
                            refine hK23 _ _ ?_
                            clear hK23 K23
                            refine wp_cond_false rfl ?_
                            refine wp_skip ?_
                            refine hK14 _ _ ?_
                            clear hK14 K14
                            refine wp_region_lit ?_
                            refine wl_yield (o := ⟨_, _, _, _, _, _⟩) (.int .i64 (k + 1 : Nat)) (yt_addI (by rfl) _ _ _ rfl ((k : Nat) : Int) 1 ((k + 1 : Nat) : Int) rfl rfl (by omega) (by omega) (by omega)) ?_
                            simp only [Act.put, lzA, lzB, lzC]
                            refine wl_yield (o := ⟨_, _, _, _, _, _⟩) (.int .i64 (k + 1 : Nat)) (yl_move (by rfl) _ rfl _ rfl) ?_
                            simp only [Act.put, lzA, lzB, lzC]
                            refine wpList_nil ?_
                            show _ ∧ _
                            go_roundw
                            case rel => exact ⟨k + 1, rfl, by omega, G6, HC4, HE, D2, D⟩
                            case measure => simp [intOf]; omega
                · obtain rfl : k = l.length := by omega
                  refine wp_seq_k (fun K12 hK12 => ?_)
                  refine wp_region_lit ?_
                  refine wl_yield (o := ⟨_, _, _, _, _, _⟩) (.bool false) (yt_lssI (by rfl) _ _ _ rfl ((l.length : Nat) : Int) ((l.length : Nat) : Int) false rfl rfl (decide_eq_false (by omega))) ?_
                  simp only [Act.put, lzA, lzB, lzC]
                  refine wpList_nil ?_
                  refine hK12 _ _ ?_
                  clear hK12 K12
                  refine wp_seq_k (fun K13 hK13 => ?_)
                  refine wp_cond_false rfl ?_
                  refine wp_exit ?_
                  refine hK10 _ _ ?_
                  clear hK13 K13 hK10 K10
                  refine wp_seq_k (fun K14 hK14 => ?_)
                  refine wp_region_late (S := fun w' => w'.heap[g6]? = some (.cells #[.bool (c.a), .slice c.p c.n c.c, .bool (c.d), .slice c.q c.m c.e] 26 (0, 0))) (late := fun j => [].contains j) (by kernel_rfl) ?_
                  have kb : Below wr.heap.size wr wr.drew := (Below.refl _ wr).drew
                  replace D := grown_below D kb
                  replace HE := HE.on kb
                  replace D2 := grown_below D2 kb
                  replace G6 := heap_on G6 kb
                  replace HC4 := HC4.on kb
                  clear kb
                  generalize wr.drew = v8 at D HE D2 G6 HC4 ⊢
                  refine wpAnyL_load (i := 0) (oi := ⟨_, _, _, _, _, _⟩) (v := SC.val c) rfl (by kernel_rfl) (by kernel_rfl) (by kernel_rfl) (by kernel_rfl) (fun _ _ _ h => h) (yl_set (by rfl) _ rfl _ 0 rfl _ _ _ _ (fun _ h => ⟨cell_heap h 0, cell_heap h 1, cell_heap h 2, cell_heap h 3⟩)) G6 ?_
                  simp only [Act.put, lzA, lzB, lzC]
                  refine wpAnyL_all (rs := [1]) (by kernel_rfl) (by simp) ?_
                  intro j hj
                  have hj := List.mem_singleton.1 hj
                  subst hj
                  refine ot_call (o := ⟨_, _, _, _, _, _⟩) rfl (by rfl) 44 _ _ rfl #[] rfl (run_call Tryz.func44 (by kernel_rfl) (by kernel_rfl)) ?_
                  refine (all_any _).mono ?_
                  rintro r v9 (⟨⟨u9, rfl, HU9⟩, kb⟩)
                  replace D := grown_below D kb
                  replace HE := HE.on kb
                  replace D2 := grown_below D2 kb
                  replace G6 := heap_on G6 kb
                  replace HC4 := HC4.on kb
                  clear kb
                  refine Or.inl ⟨u9, rfl, ⟨fun _ _ => G6, ?_⟩⟩
                  simp only [Act.put, lzA, lzB, lzC]
                  refine wpAnyL_all (rs := [2]) (by kernel_rfl) (by simp) ?_
                  intro j hj
                  have hj := List.mem_singleton.1 hj
                  subst hj
                  refine ot_call (o := ⟨_, _, _, _, _, _⟩) rfl (by rfl) 43 _ _ rfl #[SC.val c, u9] rfl (run_call Tryz.func43 (by kernel_rfl) (by kernel_rfl)) ?_
                  refine (same_any _ _ (accV (cutL l)) allV _ HC4 HU9).mono ?_
                  rintro r v10 (⟨rfl, kb⟩)
                  replace D := grown_below D kb
                  replace HE := HE.on kb
                  replace D2 := grown_below D2 kb
                  replace G6 := heap_on G6 kb
                  replace HC4 := HC4.on kb
                  clear kb
                  refine Or.inl ⟨.bool true, ret_bool ((sameB_iff _ _).2 (acc_all hil hfc hfl hl6 hn500)), ⟨fun _ _ => G6, ?_⟩⟩
                  simp only [Act.put, lzA, lzB, lzC]
                  refine wpAnyL_pure (i := 3) (oi := ⟨_, _, _, _, _, _⟩) (v := .bool true) rfl (by kernel_rfl) (by kernel_rfl) (by kernel_rfl) (fun _ _ _ h => h) (yl_assign (by rfl) _ rfl _ rfl) ?_
                  simp only [Act.put, lzA, lzB, lzC]
                  refine wpAnyL_done (by kernel_rfl) ?_ _
                  refine hK14 _ _ ?_
                  clear hK14 K14
                  refine wp_ret ?_
                  try simp only [Exit.inBlock, Exit.then]
                  go_ret
                  exact ⟨rfl, below_none D⟩
end Go.Proofs.YtjbgjdjmejhejaaGreatDoor
namespace Go.Proofs.YtjbgjdjmejhejaaGreatDoor
open Go.ChangeShapes Go.WideShapes Go.ChangeAt Go.WideMaps Go.WideElems Go.RowKit Go.Joins
section
variable {H : Type} {enc : TypeId × Value → H} {W : World} {base : Nat} {sp : Nat → Bool} {held : Bool}
end
section
variable {H : Type} {enc : TypeId × Value → H} {W : World}
end
end Go.Proofs.YtjbgjdjmejhejaaGreatDoor
namespace Go.Proofs.YtjbgjdjmejhejaaGreatDoor
open Go.Deep Go.ChangeShapes Go.WideShapes Go.ChangeAt Go.WideMaps Go.WideElems Go.RowKit Go.Joins
section
variable {H : Type} {enc : TypeId × Value → H} {W : World}
end
end Go.Proofs.YtjbgjdjmejhejaaGreatDoor
namespace Go.Proofs.YtjbgjdjmejhejaaGreatDoor
open Go.ChangeShapes Go.WideShapes Go.ChangeAt Go.WideMaps Go.WideElems Go.RowKit Go.Joins
theorem own : ownKnob Tryz.prog.godebug = none := by kernel_rfl
theorem gPowType : (Tryz.prog.globals[1]?).map (·.type) = some 275 := by kernel_rfl
theorem cellsPow : Tryz.prog.cellsOf 275 = 20 := by kernel_rfl
theorem cellsU64 : Tryz.prog.cellsOf 164 = 1 := by kernel_rfl
abbrev laid5 : List (String × DataW Unit) := [("math/bits.deBruijn32tab", Rows.laid_math_bits_deBruijn32tab), ("math/bits.deBruijn64tab", Rows.laid_math_bits_deBruijn64tab), ("internal/strconv.uint64pow10", Rows.laid_internal_strconv_uint64pow10)]
theorem env_of_laid {W : World} (h : laidMetH Tryz.prog laid5 W) : Env W := by
  rw [MakeChecks.laidMetH_plain _ _ _ (by kernel_rfl)] at h
  have hp : Lib.TabIs Tryz.prog W "internal/strconv.uint64pow10" .u64 Lib.pow10Tab := Lib.tabIs_of_head gPow gPowType Tryz.underlying275 Tryz.underlying164 cellsU64 cellsPow (show laidMet Tryz.prog (("internal/strconv.uint64pow10", Lib.tabData .u64 Lib.pow10Tab) :: _) W from h.tail.tail)
  have big : 2 ≤ W.heap.size := by
    rcases Nat.lt_or_ge 1 W.heap.size with h' | h'
    · exact h'
    · exfalso
      have := hp.cell gPow 0 (by decide); simp [World.cell?, Array.getElem?_eq_none h'] at this
  exact ⟨big, hp⟩
theorem door_met (os : Os) (args : Array Value) : laidMetH Tryz.prog laid5 ((World.doorLaid Tryz.prog 400 os).forCall (fun _ _ => 0) ⟨#[], args, []⟩).memory :=
  laidMetH_of_parts3 (fuel := 8) (laidMet_of_run' 8 (by kernel_rfl) (by kernel_rfl)) (by kernel_rfl) (by kernel_rfl)
end Go.Proofs.YtjbgjdjmejhejaaGreatDoor
