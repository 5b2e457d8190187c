import Derived.Test.YtlmdcaemjaldfaaGreatR7
import Derived.Test.YtlmdcaemjaldfaaGreatR2
import Derived.Test.YtlmdcaemjaldfaaGreatR6
import Derived.DeepKeys
set_option linter.unusedSimpArgs false
set_option linter.unusedVariables false
namespace Go.Proofs.YtlmdcaemjaldfaaGreat
open Go.RowKit
theorem c_read (l : List UInt8) (w : World) : Calls Tryz.prog 33 #[.string (bs l)] w fun r w' => (∃ rb : Nat, r = .returned (.pointer (some ⟨rb, 0, none⟩)) ∧ w.heap.size ≤ rb ∧ PS w' rb l 0) ∧ Below w.heap.size w w' :=
  (read_any (bs l) w).mono fun r w' h => ⟨⟨_, h.1, Nat.le_refl _, ⟨h.2.1, fun h => absurd rfl h⟩⟩, h.2.2⟩
def rdF (l : List UInt8) : List BoxV × Int := if (filO l 0).2.2 = 0 ∧ (filO l 0).2.1.length = 0 then ((filO l 0).1, 0) else ([], 2)
def rdE (l : List UInt8) : EvV × Int := if (evO l 0).2.2 = 0 ∧ (evO l 0).2.1.length = 0 then ((evO l 0).1, 0) else (evZ, 2)
theorem results_cs {fn : Func} {p q : Tmp} {ty : TypeId} (h : fn.results = #[.cell p ty, .tmp q]) (tmps : Array Value) (w : World) (g : Nat) (cs : Array Value) (z : Value)
    (hp : tmps.getD p undef = .pointer (some ⟨g, 0, none⟩)) (hq : tmps.getD q undef = z) (hv : (loadVar ty ⟨g, 0, none⟩).run Tryz.prog w = .ok (.agg cs) w) :
    (results fn tmps).run Tryz.prog w = .ok (.tuple #[.agg cs, z]) w := by
  have hp' : tmps[p]?.getD undef = .pointer (some ⟨g, 0, none⟩) := by simpa using hp
  have hq' : tmps[q]?.getD undef = z := by simpa using hq
  simp [results, h, hp', hq', asAddr, hv]
set_option maxHeartbeats 4000000 in
set_option maxRecDepth 100000 in
theorem readF_any (l : List UInt8) (w : World) (hz : l.length ≤ 1048576) :
    Calls Tryz.prog 61 #[.string (bs l), .func (.func 34) #[] #[]] w fun r w' => (∃ (p : Option Addr) (n c : Nat) (z : Int), r = .returned (.tuple #[.slice p n c, .int .i64 z]) ∧ (Bxs w' (.slice p n c) (rdF l).1 ∧ z = (rdF l).2) ∧ Below w.heap.size w w') := by
  have D : w.grownBy w none := grown_refl _ _
  by_cases hE : (filO l 0).2.2 = 0
  · by_cases hL : 0 < (filO l 0).2.1.length
    · go_enter Tryz.func61, Tryz.ntmps61
      refine wp_seq_k (fun K1 hK1 => ?_)
      refine wp_region_lit ?_
      refine wl_yield (o := ⟨_, _, _, _, _, _⟩) (.slice none 0 0) (yl_assign (by rfl) _ rfl _ rfl) ?_
      simp only [Act.put, lzA, lzB, lzC]
      refine wl_yield (o := ⟨_, _, _, _, _, _⟩) (.int .i64 0) (yl_assign (by rfl) _ rfl _ rfl) ?_
      simp only [Act.put, lzA, lzB, lzC]
      refine wpList_nil ?_
      refine hK1 _ _ ?_
      clear hK1 K1
      refine wp_seq_k (fun K2 hK2 => ?_)
      refine wp_region_lit ?_
      refine wl_yield (o := ⟨_, _, _, _, _, _⟩) (.string (bs l)) (yl_move (by rfl) _ rfl _ rfl) ?_
      simp only [Act.put, lzA, lzB, lzC]
      refine wt_call (o := ⟨_, _, _, _, _, _⟩) (by rfl) 33 _ _ rfl #[.string (bs l)] rfl (run_call Tryz.func33 (by kernel_rfl) (by kernel_rfl)) ?_
      refine (c_read l _).mono ?_
      rintro r v1 (⟨⟨rb, rfl, hrb, H⟩, kb⟩)
      · have ge_rb : w.heap.size ≤ rb := Nat.le_trans D.size hrb
        clear hrb
        replace D := grown_below D kb
        clear kb
        refine Or.inl ⟨.pointer (some ⟨rb, 0, none⟩), rfl, ?_⟩
        simp only [Act.put, lzA, lzB, lzC]
        refine wl_yield (o := ⟨_, _, _, _, _, _⟩) (.pointer (some ⟨rb, 0, none⟩)) (yl_assign (by rfl) _ rfl _ rfl) ?_
        simp only [Act.put, lzA, lzB, lzC]
        refine wpList_nil ?_
        refine hK2 _ _ ?_
        clear hK2 K2
        refine wp_seq_k (fun K3 hK3 => ?_)
        refine wp_region_lit ?_
        refine wl_yield (o := ⟨_, _, _, _, _, _⟩) (.func (.func 34) #[] #[]) (yl_move (by rfl) _ rfl _ rfl) ?_
        simp only [Act.put, lzA, lzB, lzC]
        refine wl_yield (o := ⟨_, _, _, _, _, _⟩) (.pointer (some ⟨rb, 0, none⟩)) (yl_move (by rfl) _ rfl _ rfl) ?_
        simp only [Act.put, lzA, lzB, lzC]
        have sz0 := D.size
        refine wt_callv (o := ⟨_, _, _, _, _, _⟩) (by rfl) 34 _ _ _ rfl #[] rfl #[.pointer (some ⟨rb, 0, none⟩)] rfl (run_call Tryz.func34 (by kernel_rfl) (by kernel_rfl)) ?_
        refine (takeFilter_any rb l 0 _ H hz).mono ?_
        rintro r v2 (⟨p, n, c, rfl, LB, hr, kg⟩)
        · replace H := hr
          clear hr
          replace D := gr_new D ge_rb kg
          clear kg
          replace LB : Lives _ _ (fun w'' => Bxs w'' (.slice p n c) (filO l 0).1) := LB
          refine Or.inl ⟨.slice p n c, rfl, ?_⟩
          simp only [Act.put, lzA, lzB, lzC]
          refine wl_yield (o := ⟨_, _, _, _, _, _⟩) (.slice p n c) (yl_assign (by rfl) _ rfl _ rfl) ?_
          simp only [Act.put, lzA, lzB, lzC]
          refine wpList_nil ?_
          refine hK3 _ _ ?_
          clear hK3 K3
          refine wp_seq_k (fun K4 hK4 => ?_)
          refine wp_seq_k (fun K5 hK5 => ?_)
          refine wp_region_lit ?_
          refine wl_yield (o := ⟨_, _, _, _, _, _⟩) (.pointer (some ⟨rb, 0, none⟩)) (yl_move (by rfl) _ rfl _ rfl) ?_
          simp only [Act.put, lzA, lzB, lzC]
          refine wt_call (o := ⟨_, _, _, _, _, _⟩) (by rfl) 36 _ _ rfl #[.pointer (some ⟨rb, 0, none⟩)] rfl (run_call Tryz.func36 (by kernel_rfl) (by kernel_rfl)) ?_
          refine (c_err H).mono ?_
          rintro r v3 ⟨rfl, kb⟩
          replace D := grown_below D kb
          replace H := H.on kb
          replace LB := LB.on kb
          clear kb
          refine Or.inl ⟨.int .i64 ((filO l 0).2.2), rfl, ?_⟩
          simp only [Act.put, lzA, lzB, lzC]
          refine wl_yield (o := ⟨_, _, _, _, _, _⟩) (.bool false) (yt_neqE (by rfl) _ _ _ rfl (filO l 0).2.2 0 false rfl rfl (decide_eq_false (Decidable.not_not.2 hE))) ?_
          simp only [Act.put, lzA, lzB, lzC]
          refine wl_yield (o := ⟨_, _, _, _, _, _⟩) (.bool false) (yl_move (by rfl) _ rfl _ rfl) ?_
          simp only [Act.put, lzA, lzB, lzC]
          refine wl_yield (o := ⟨_, _, _, _, _, _⟩) (.pointer (some ⟨rb, 0, none⟩)) (yl_move (by rfl) _ rfl _ rfl) ?_
          simp only [Act.put, lzA, lzB, lzC]
          refine wt_call (o := ⟨_, _, _, _, _, _⟩) (by rfl) 37 _ _ rfl #[.pointer (some ⟨rb, 0, none⟩)] rfl (run_call Tryz.func37 (by kernel_rfl) (by kernel_rfl)) ?_
          refine (c_left H (Nat.le_trans (filO_tk.le l 0) hz)).mono ?_
          rintro r v4 ⟨rfl, kb⟩
          replace D := grown_below D kb
          replace H := H.on kb
          replace LB := LB.on kb
          clear kb
          refine Or.inl ⟨.int .i64 ((filO l 0).2.1.length : Nat), rfl, ?_⟩
          simp only [Act.put, lzA, lzB, lzC]
          refine wl_yield (o := ⟨_, _, _, _, _, _⟩) (.bool true) (yt_gtrI (by rfl) _ _ _ rfl (((filO l 0).2.1.length : Nat) : Int) 0 true rfl rfl (decide_eq_true (by omega))) ?_
          simp only [Act.put, lzA, lzB, lzC]
          refine wl_yield (o := ⟨_, _, _, _, _, _⟩) (.bool true) (yl_pickF (by rfl) _ _ _ rfl rfl _ rfl) ?_
          simp only [Act.put, lzA, lzB, lzC]
          refine wpList_nil ?_
          refine hK5 _ _ ?_
          clear hK5 K5
          refine wp_cond_true rfl ?_
          refine wp_seq_k (fun K6 hK6 => ?_)
          refine wp_region_lit ?_
          refine wl_yield (o := ⟨_, _, _, _, _, _⟩) (.slice none 0 0) (yl_assign (by rfl) _ rfl _ rfl) ?_
          simp only [Act.put, lzA, lzB, lzC]
          refine wpList_nil ?_
          refine hK6 _ _ ?_
          clear hK6 K6
          refine wp_seq_k (fun K7 hK7 => ?_)
          refine wp_region_lit ?_
          refine wl_yield (o := ⟨_, _, _, _, _, _⟩) (.slice none 0 0) (yl_move (by rfl) _ rfl _ rfl) ?_
          simp only [Act.put, lzA, lzB, lzC]
          refine wl_yield (o := ⟨_, _, _, _, _, _⟩) (.slice none 0 0) (yl_assign (by rfl) _ rfl _ rfl) ?_
          simp only [Act.put, lzA, lzB, lzC]
          refine wl_yield (o := ⟨_, _, _, _, _, _⟩) (.int .i64 2) (yl_assign (by rfl) _ rfl _ rfl) ?_
          simp only [Act.put, lzA, lzB, lzC]
          refine wpList_nil ?_
          refine hK7 _ _ ?_
          clear hK7 K7
          refine wp_ret ?_
          go_ret2
          exact ⟨none, 0, 0, 2, rfl, (by rw [rdF, if_neg (fun k => by have := k.2; omega)]; exact ⟨bxs_nil _, rfl⟩), below_none D⟩
    · go_enter Tryz.func61, Tryz.ntmps61
      refine wp_seq_k (fun K1 hK1 => ?_)
      refine wp_region_lit ?_
      refine wl_yield (o := ⟨_, _, _, _, _, _⟩) (.slice none 0 0) (yl_assign (by rfl) _ rfl _ rfl) ?_
      simp only [Act.put, lzA, lzB, lzC]
      refine wl_yield (o := ⟨_, _, _, _, _, _⟩) (.int .i64 0) (yl_assign (by rfl) _ rfl _ rfl) ?_
      simp only [Act.put, lzA, lzB, lzC]
      refine wpList_nil ?_
      refine hK1 _ _ ?_
      clear hK1 K1
      refine wp_seq_k (fun K2 hK2 => ?_)
      refine wp_region_lit ?_
      refine wl_yield (o := ⟨_, _, _, _, _, _⟩) (.string (bs l)) (yl_move (by rfl) _ rfl _ rfl) ?_
      simp only [Act.put, lzA, lzB, lzC]
      refine wt_call (o := ⟨_, _, _, _, _, _⟩) (by rfl) 33 _ _ rfl #[.string (bs l)] rfl (run_call Tryz.func33 (by kernel_rfl) (by kernel_rfl)) ?_
      refine (c_read l _).mono ?_
      rintro r v1 (⟨⟨rb, rfl, hrb, H⟩, kb⟩)
      · have ge_rb : w.heap.size ≤ rb := Nat.le_trans D.size hrb
        clear hrb
        replace D := grown_below D kb
        clear kb
        refine Or.inl ⟨.pointer (some ⟨rb, 0, none⟩), rfl, ?_⟩
        simp only [Act.put, lzA, lzB, lzC]
        refine wl_yield (o := ⟨_, _, _, _, _, _⟩) (.pointer (some ⟨rb, 0, none⟩)) (yl_assign (by rfl) _ rfl _ rfl) ?_
        simp only [Act.put, lzA, lzB, lzC]
        refine wpList_nil ?_
        refine hK2 _ _ ?_
        clear hK2 K2
        refine wp_seq_k (fun K3 hK3 => ?_)
        refine wp_region_lit ?_
        refine wl_yield (o := ⟨_, _, _, _, _, _⟩) (.func (.func 34) #[] #[]) (yl_move (by rfl) _ rfl _ rfl) ?_
        simp only [Act.put, lzA, lzB, lzC]
        refine wl_yield (o := ⟨_, _, _, _, _, _⟩) (.pointer (some ⟨rb, 0, none⟩)) (yl_move (by rfl) _ rfl _ rfl) ?_
        simp only [Act.put, lzA, lzB, lzC]
        have sz0 := D.size
        refine wt_callv (o := ⟨_, _, _, _, _, _⟩) (by rfl) 34 _ _ _ rfl #[] rfl #[.pointer (some ⟨rb, 0, none⟩)] rfl (run_call Tryz.func34 (by kernel_rfl) (by kernel_rfl)) ?_
        refine (takeFilter_any rb l 0 _ H hz).mono ?_
        rintro r v2 (⟨p, n, c, rfl, LB, hr, kg⟩)
        · replace H := hr
          clear hr
          replace D := gr_new D ge_rb kg
          clear kg
          replace LB : Lives _ _ (fun w'' => Bxs w'' (.slice p n c) (filO l 0).1) := LB
          refine Or.inl ⟨.slice p n c, rfl, ?_⟩
          simp only [Act.put, lzA, lzB, lzC]
          refine wl_yield (o := ⟨_, _, _, _, _, _⟩) (.slice p n c) (yl_assign (by rfl) _ rfl _ rfl) ?_
          simp only [Act.put, lzA, lzB, lzC]
          refine wpList_nil ?_
          refine hK3 _ _ ?_
          clear hK3 K3
          refine wp_seq_k (fun K4 hK4 => ?_)
          refine wp_seq_k (fun K5 hK5 => ?_)
          refine wp_region_lit ?_
          refine wl_yield (o := ⟨_, _, _, _, _, _⟩) (.pointer (some ⟨rb, 0, none⟩)) (yl_move (by rfl) _ rfl _ rfl) ?_
          simp only [Act.put, lzA, lzB, lzC]
          refine wt_call (o := ⟨_, _, _, _, _, _⟩) (by rfl) 36 _ _ rfl #[.pointer (some ⟨rb, 0, none⟩)] rfl (run_call Tryz.func36 (by kernel_rfl) (by kernel_rfl)) ?_
          refine (c_err H).mono ?_
          rintro r v3 ⟨rfl, kb⟩
          replace D := grown_below D kb
          replace H := H.on kb
          replace LB := LB.on kb
          clear kb
          refine Or.inl ⟨.int .i64 ((filO l 0).2.2), rfl, ?_⟩
          simp only [Act.put, lzA, lzB, lzC]
          refine wl_yield (o := ⟨_, _, _, _, _, _⟩) (.bool false) (yt_neqE (by rfl) _ _ _ rfl (filO l 0).2.2 0 false rfl rfl (decide_eq_false (Decidable.not_not.2 hE))) ?_
          simp only [Act.put, lzA, lzB, lzC]
          refine wl_yield (o := ⟨_, _, _, _, _, _⟩) (.bool false) (yl_move (by rfl) _ rfl _ rfl) ?_
          simp only [Act.put, lzA, lzB, lzC]
          refine wl_yield (o := ⟨_, _, _, _, _, _⟩) (.pointer (some ⟨rb, 0, none⟩)) (yl_move (by rfl) _ rfl _ rfl) ?_
          simp only [Act.put, lzA, lzB, lzC]
          refine wt_call (o := ⟨_, _, _, _, _, _⟩) (by rfl) 37 _ _ rfl #[.pointer (some ⟨rb, 0, none⟩)] rfl (run_call Tryz.func37 (by kernel_rfl) (by kernel_rfl)) ?_
          refine (c_left H (Nat.le_trans (filO_tk.le l 0) hz)).mono ?_
          rintro r v4 ⟨rfl, kb⟩
          replace D := grown_below D kb
          replace H := H.on kb
          replace LB := LB.on kb
          clear kb
          refine Or.inl ⟨.int .i64 ((filO l 0).2.1.length : Nat), rfl, ?_⟩
          simp only [Act.put, lzA, lzB, lzC]
          refine wl_yield (o := ⟨_, _, _, _, _, _⟩) (.bool false) (yt_gtrI (by rfl) _ _ _ rfl (((filO l 0).2.1.length : Nat) : Int) 0 false rfl rfl (decide_eq_false (by omega))) ?_
          simp only [Act.put, lzA, lzB, lzC]
          refine wl_yield (o := ⟨_, _, _, _, _, _⟩) (.bool false) (yl_pickF (by rfl) _ _ _ rfl rfl _ rfl) ?_
          simp only [Act.put, lzA, lzB, lzC]
          refine wpList_nil ?_
          refine hK5 _ _ ?_
          clear hK5 K5
          refine wp_cond_false rfl ?_
          refine wp_skip ?_
          refine hK4 _ _ ?_
          clear hK4 K4
          refine wp_seq_k (fun K6 hK6 => ?_)
          refine wp_region_lit ?_
          refine wl_yield (o := ⟨_, _, _, _, _, _⟩) (.slice p n c) (yl_move (by rfl) _ rfl _ rfl) ?_
          simp only [Act.put, lzA, lzB, lzC]
          refine wl_yield (o := ⟨_, _, _, _, _, _⟩) (.slice p n c) (yl_assign (by rfl) _ rfl _ rfl) ?_
          simp only [Act.put, lzA, lzB, lzC]
          refine wl_yield (o := ⟨_, _, _, _, _, _⟩) (.int .i64 0) (yl_assign (by rfl) _ rfl _ rfl) ?_
          simp only [Act.put, lzA, lzB, lzC]
          refine wpList_nil ?_
          refine hK6 _ _ ?_
          clear hK6 K6
          refine wp_ret ?_
          go_ret2
          exact ⟨p, n, c, 0, rfl, (by rw [rdF, if_pos ⟨hE, by omega⟩]; exact ⟨LB.now, rfl⟩), below_none D⟩
  · go_enter Tryz.func61, Tryz.ntmps61
    refine wp_seq_k (fun K1 hK1 => ?_)
    refine wp_region_lit ?_
    refine wl_yield (o := ⟨_, _, _, _, _, _⟩) (.slice none 0 0) (yl_assign (by rfl) _ rfl _ rfl) ?_
    simp only [Act.put, lzA, lzB, lzC]
    refine wl_yield (o := ⟨_, _, _, _, _, _⟩) (.int .i64 0) (yl_assign (by rfl) _ rfl _ rfl) ?_
    simp only [Act.put, lzA, lzB, lzC]
    refine wpList_nil ?_
    refine hK1 _ _ ?_
    clear hK1 K1
    refine wp_seq_k (fun K2 hK2 => ?_)
    refine wp_region_lit ?_
    refine wl_yield (o := ⟨_, _, _, _, _, _⟩) (.string (bs l)) (yl_move (by rfl) _ rfl _ rfl) ?_
    simp only [Act.put, lzA, lzB, lzC]
    refine wt_call (o := ⟨_, _, _, _, _, _⟩) (by rfl) 33 _ _ rfl #[.string (bs l)] rfl (run_call Tryz.func33 (by kernel_rfl) (by kernel_rfl)) ?_
    refine (c_read l _).mono ?_
    rintro r v1 (⟨⟨rb, rfl, hrb, H⟩, kb⟩)
    · have ge_rb : w.heap.size ≤ rb := Nat.le_trans D.size hrb
      clear hrb
      replace D := grown_below D kb
      clear kb
      refine Or.inl ⟨.pointer (some ⟨rb, 0, none⟩), rfl, ?_⟩
      simp only [Act.put, lzA, lzB, lzC]
      refine wl_yield (o := ⟨_, _, _, _, _, _⟩) (.pointer (some ⟨rb, 0, none⟩)) (yl_assign (by rfl) _ rfl _ rfl) ?_
      simp only [Act.put, lzA, lzB, lzC]
      refine wpList_nil ?_
      refine hK2 _ _ ?_
      clear hK2 K2
      refine wp_seq_k (fun K3 hK3 => ?_)
      refine wp_region_lit ?_
      refine wl_yield (o := ⟨_, _, _, _, _, _⟩) (.func (.func 34) #[] #[]) (yl_move (by rfl) _ rfl _ rfl) ?_
      simp only [Act.put, lzA, lzB, lzC]
      refine wl_yield (o := ⟨_, _, _, _, _, _⟩) (.pointer (some ⟨rb, 0, none⟩)) (yl_move (by rfl) _ rfl _ rfl) ?_
      simp only [Act.put, lzA, lzB, lzC]
      have sz0 := D.size
      refine wt_callv (o := ⟨_, _, _, _, _, _⟩) (by rfl) 34 _ _ _ rfl #[] rfl #[.pointer (some ⟨rb, 0, none⟩)] rfl (run_call Tryz.func34 (by kernel_rfl) (by kernel_rfl)) ?_
      refine (takeFilter_any rb l 0 _ H hz).mono ?_
      rintro r v2 (⟨p, n, c, rfl, LB, hr, kg⟩)
      · replace H := hr
        clear hr
        replace D := gr_new D ge_rb kg
        clear kg
        replace LB : Lives _ _ (fun w'' => Bxs w'' (.slice p n c) (filO l 0).1) := LB
        refine Or.inl ⟨.slice p n c, rfl, ?_⟩
        simp only [Act.put, lzA, lzB, lzC]
        refine wl_yield (o := ⟨_, _, _, _, _, _⟩) (.slice p n c) (yl_assign (by rfl) _ rfl _ rfl) ?_
        simp only [Act.put, lzA, lzB, lzC]
        refine wpList_nil ?_
        refine hK3 _ _ ?_
        clear hK3 K3
        refine wp_seq_k (fun K4 hK4 => ?_)
        refine wp_seq_k (fun K5 hK5 => ?_)
        refine wp_region_lit ?_
        refine wl_yield (o := ⟨_, _, _, _, _, _⟩) (.pointer (some ⟨rb, 0, none⟩)) (yl_move (by rfl) _ rfl _ rfl) ?_
        simp only [Act.put, lzA, lzB, lzC]
        refine wt_call (o := ⟨_, _, _, _, _, _⟩) (by rfl) 36 _ _ rfl #[.pointer (some ⟨rb, 0, none⟩)] rfl (run_call Tryz.func36 (by kernel_rfl) (by kernel_rfl)) ?_
        refine (c_err H).mono ?_
        rintro r v3 ⟨rfl, kb⟩
        replace D := grown_below D kb
        replace H := H.on kb
        replace LB := LB.on kb
        clear kb
        refine Or.inl ⟨.int .i64 ((filO l 0).2.2), rfl, ?_⟩
        simp only [Act.put, lzA, lzB, lzC]
        refine wl_yield (o := ⟨_, _, _, _, _, _⟩) (.bool true) (yt_neqE (by rfl) _ _ _ rfl (filO l 0).2.2 0 true rfl rfl (decide_eq_true hE)) ?_
        simp only [Act.put, lzA, lzB, lzC]
        refine wl_yield (o := ⟨_, _, _, _, _, _⟩) (.bool true) (yl_move (by rfl) _ rfl _ rfl) ?_
        simp only [Act.put, lzA, lzB, lzC]
        with_reducible refine wl_yield (o := ⟨_, _, _, _, _, _⟩) undef (yl_undef (by kernel_rfl)) ?_
        simp only [Act.put, lzA, lzB, lzC]
        with_reducible refine wl_yield (o := ⟨_, _, _, _, _, _⟩) undef (yl_undef (by kernel_rfl)) ?_
        simp only [Act.put, lzA, lzB, lzC]
        with_reducible refine wl_yield (o := ⟨_, _, _, _, _, _⟩) undef (yl_undef (by kernel_rfl)) ?_
        simp only [Act.put, lzA, lzB, lzC]
        refine wl_yield (o := ⟨_, _, _, _, _, _⟩) (.bool true) (yl_pickT (by rfl) _ _ _ rfl rfl _ rfl) ?_
        simp only [Act.put, lzA, lzB, lzC]
        refine wpList_nil ?_
        refine hK5 _ _ ?_
        clear hK5 K5
        refine wp_cond_true rfl ?_
        refine wp_seq_k (fun K6 hK6 => ?_)
        refine wp_region_lit ?_
        refine wl_yield (o := ⟨_, _, _, _, _, _⟩) (.slice none 0 0) (yl_assign (by rfl) _ rfl _ rfl) ?_
        simp only [Act.put, lzA, lzB, lzC]
        refine wpList_nil ?_
        refine hK6 _ _ ?_
        clear hK6 K6
        refine wp_seq_k (fun K7 hK7 => ?_)
        refine wp_region_lit ?_
        refine wl_yield (o := ⟨_, _, _, _, _, _⟩) (.slice none 0 0) (yl_move (by rfl) _ rfl _ rfl) ?_
        simp only [Act.put, lzA, lzB, lzC]
        refine wl_yield (o := ⟨_, _, _, _, _, _⟩) (.slice none 0 0) (yl_assign (by rfl) _ rfl _ rfl) ?_
        simp only [Act.put, lzA, lzB, lzC]
        refine wl_yield (o := ⟨_, _, _, _, _, _⟩) (.int .i64 2) (yl_assign (by rfl) _ rfl _ rfl) ?_
        simp only [Act.put, lzA, lzB, lzC]
        refine wpList_nil ?_
        refine hK7 _ _ ?_
        clear hK7 K7
        refine wp_ret ?_
        go_ret2
        exact ⟨none, 0, 0, 2, rfl, (by rw [rdF, if_neg (fun k => hE k.1)]; exact ⟨bxs_nil _, rfl⟩), below_none D⟩
set_option maxHeartbeats 4000000 in
set_option maxRecDepth 100000 in
theorem readE_any (l : List UInt8) (w : World) (hz : l.length ≤ 1048576) :
    Calls Tryz.prog 68 #[.string (bs l), .func (.func 35) #[] #[]] w fun r w' => (r = .returned (.tuple #[evVal (rdE l).1, .int .i64 (rdE l).2]) ∧ Below w.heap.size w w') := by
  have D : w.grownBy w none := grown_refl _ _
  by_cases hE : (evO l 0).2.2 = 0
  · by_cases hL : 0 < (evO l 0).2.1.length
    · go_enter Tryz.func68, Tryz.ntmps68
      refine wp_seq_k (fun K1 hK1 => ?_)
      refine wp_region_lit ?_
      refine wt_allocEv (o := ⟨_, _, _, _, _, _⟩) (by rfl) rfl (fun v1 g1 hg G1 kb => ?_)
      simp only [Act.put, lzA, lzB, lzC]
      have ge_g1 : w.heap.size ≤ g1 := Nat.le_trans D.size hg
      clear hg
      replace D := grown_below D kb
      clear kb
      replace G1 : EvIn v1 g1 evZ := G1
      refine wl_yield (o := ⟨_, _, _, _, _, _⟩) (.int .i64 0) (yl_assign (by rfl) _ rfl _ rfl) ?_
      simp only [Act.put, lzA, lzB, lzC]
      refine wpList_nil ?_
      refine hK1 _ _ ?_
      clear hK1 K1
      refine wp_seq_k (fun K2 hK2 => ?_)
      refine wp_region_lit ?_
      refine wl_yield (o := ⟨_, _, _, _, _, _⟩) (.string (bs l)) (yl_move (by rfl) _ rfl _ rfl) ?_
      simp only [Act.put, lzA, lzB, lzC]
      refine wt_call (o := ⟨_, _, _, _, _, _⟩) (by rfl) 33 _ _ rfl #[.string (bs l)] rfl (run_call Tryz.func33 (by kernel_rfl) (by kernel_rfl)) ?_
      refine (c_read l _).mono ?_
      rintro r v2 (⟨⟨rb, rfl, hrb, H⟩, kb⟩)
      · have n_g1_rb : g1 ≠ rb := by have := lt_heap G1; omega
        have ge_rb : w.heap.size ≤ rb := Nat.le_trans D.size hrb
        clear hrb
        replace D := grown_below D kb
        replace G1 := heap_on G1 kb
        clear kb
        refine Or.inl ⟨.pointer (some ⟨rb, 0, none⟩), rfl, ?_⟩
        simp only [Act.put, lzA, lzB, lzC]
        refine wl_yield (o := ⟨_, _, _, _, _, _⟩) (.pointer (some ⟨rb, 0, none⟩)) (yl_assign (by rfl) _ rfl _ rfl) ?_
        simp only [Act.put, lzA, lzB, lzC]
        refine wpList_nil ?_
        refine hK2 _ _ ?_
        clear hK2 K2
        refine wp_seq_k (fun K3 hK3 => ?_)
        refine wp_region_lit ?_
        refine wl_yield (o := ⟨_, _, _, _, _, _⟩) (.func (.func 35) #[] #[]) (yl_move (by rfl) _ rfl _ rfl) ?_
        simp only [Act.put, lzA, lzB, lzC]
        refine wl_yield (o := ⟨_, _, _, _, _, _⟩) (.pointer (some ⟨rb, 0, none⟩)) (yl_move (by rfl) _ rfl _ rfl) ?_
        simp only [Act.put, lzA, lzB, lzC]
        refine wt_callv (o := ⟨_, _, _, _, _, _⟩) (by rfl) 35 _ _ _ rfl #[] rfl #[.pointer (some ⟨rb, 0, none⟩)] rfl (run_call Tryz.func35 (by kernel_rfl) (by kernel_rfl)) ?_
        refine (takeEvent_any rb l 0 _ H hz).mono ?_
        rintro r v3 (⟨rfl, hr, kg⟩)
        · replace H := hr
          clear hr
          replace D := gr_new D ge_rb kg
          replace G1 := heap_gr G1 kg n_g1_rb
          clear kg
          refine Or.inl ⟨evVal (evO l 0).1, rfl, ?_⟩
          simp only [Act.put, lzA, lzB, lzC]
          refine wt_allocEv (o := ⟨_, _, _, _, _, _⟩) (by rfl) rfl (fun v4 g4 hg G4 kb => ?_)
          simp only [Act.put, lzA, lzB, lzC]
          have n_rb_g4 : rb ≠ g4 := by have := H.lt; omega
          have n_g1_g4 : g1 ≠ g4 := by have := lt_heap G1; omega
          have ge_g4 : w.heap.size ≤ g4 := Nat.le_trans D.size hg
          clear hg
          replace D := grown_below D kb
          replace G1 := heap_on G1 kb
          replace H := H.on kb
          clear kb
          replace G4 : EvIn v4 g4 evZ := G4
          refine wt_putEv (o := ⟨_, _, _, _, _, _⟩) rfl _ _ rfl g4 rfl (evO l 0).1 rfl G4 rfl (fun v5 X kg => ?_)
          simp only [Act.put, lzA, lzB, lzC]
          replace D := gr_new D ge_g4 kg
          replace G1 := heap_gr G1 kg n_g1_g4
          replace H := H.gr kg n_rb_g4
          clear kg
          replace G4 : EvIn v5 g4 (evO l 0).1 := X
          clear X
          refine wpList_nil ?_
          refine hK3 _ _ ?_
          clear hK3 K3
          refine wp_seq_k (fun K4 hK4 => ?_)
          refine wp_seq_k (fun K5 hK5 => ?_)
          refine wp_region_lit ?_
          refine wl_yield (o := ⟨_, _, _, _, _, _⟩) (.pointer (some ⟨rb, 0, none⟩)) (yl_move (by rfl) _ rfl _ rfl) ?_
          simp only [Act.put, lzA, lzB, lzC]
          refine wt_call (o := ⟨_, _, _, _, _, _⟩) (by rfl) 36 _ _ rfl #[.pointer (some ⟨rb, 0, none⟩)] rfl (run_call Tryz.func36 (by kernel_rfl) (by kernel_rfl)) ?_
          refine (c_err H).mono ?_
          rintro r v6 ⟨rfl, kb⟩
          replace D := grown_below D kb
          replace G1 := heap_on G1 kb
          replace H := H.on kb
          replace G4 := heap_on G4 kb
          clear kb
          refine Or.inl ⟨.int .i64 ((evO l 0).2.2), rfl, ?_⟩
          simp only [Act.put, lzA, lzB, lzC]
          refine wl_yield (o := ⟨_, _, _, _, _, _⟩) (.bool false) (yt_neqE (by rfl) _ _ _ rfl (evO l 0).2.2 0 false rfl rfl (decide_eq_false (Decidable.not_not.2 hE))) ?_
          simp only [Act.put, lzA, lzB, lzC]
          refine wl_yield (o := ⟨_, _, _, _, _, _⟩) (.bool false) (yl_move (by rfl) _ rfl _ rfl) ?_
          simp only [Act.put, lzA, lzB, lzC]
          refine wl_yield (o := ⟨_, _, _, _, _, _⟩) (.pointer (some ⟨rb, 0, none⟩)) (yl_move (by rfl) _ rfl _ rfl) ?_
          simp only [Act.put, lzA, lzB, lzC]
          refine wt_call (o := ⟨_, _, _, _, _, _⟩) (by rfl) 37 _ _ rfl #[.pointer (some ⟨rb, 0, none⟩)] rfl (run_call Tryz.func37 (by kernel_rfl) (by kernel_rfl)) ?_
          refine (c_left H (Nat.le_trans (evO_tk.le l 0) hz)).mono ?_
          rintro r v7 ⟨rfl, kb⟩
          replace D := grown_below D kb
          replace G1 := heap_on G1 kb
          replace H := H.on kb
          replace G4 := heap_on G4 kb
          clear kb
          refine Or.inl ⟨.int .i64 ((evO l 0).2.1.length : Nat), rfl, ?_⟩
          simp only [Act.put, lzA, lzB, lzC]
          refine wl_yield (o := ⟨_, _, _, _, _, _⟩) (.bool true) (yt_gtrI (by rfl) _ _ _ rfl (((evO l 0).2.1.length : Nat) : Int) 0 true rfl rfl (decide_eq_true (by omega))) ?_
          simp only [Act.put, lzA, lzB, lzC]
          refine wl_yield (o := ⟨_, _, _, _, _, _⟩) (.bool true) (yl_pickF (by rfl) _ _ _ rfl rfl _ rfl) ?_
          simp only [Act.put, lzA, lzB, lzC]
          refine wpList_nil ?_
          refine hK5 _ _ ?_
          clear hK5 K5
          refine wp_cond_true rfl ?_
          refine wp_seq_k (fun K6 hK6 => ?_)
          refine wp_region_lit ?_
          refine wt_allocEv (o := ⟨_, _, _, _, _, _⟩) (by rfl) rfl (fun v8 g8 hg G8 kb => ?_)
          simp only [Act.put, lzA, lzB, lzC]
          have n_rb_g8 : rb ≠ g8 := by have := H.lt; omega
          have n_g1_g8 : g1 ≠ g8 := by have := lt_heap G1; omega
          have n_g4_g8 : g4 ≠ g8 := by have := lt_heap G4; omega
          have ge_g8 : w.heap.size ≤ g8 := Nat.le_trans D.size hg
          clear hg
          replace D := grown_below D kb
          replace G1 := heap_on G1 kb
          replace H := H.on kb
          replace G4 := heap_on G4 kb
          clear kb
          replace G8 : EvIn v8 g8 evZ := G8
          refine wpList_nil ?_
          refine hK6 _ _ ?_
          clear hK6 K6
          refine wp_seq_k (fun K7 hK7 => ?_)
          refine wp_region_lit ?_
          refine wl_yield (o := ⟨_, _, _, _, _, _⟩) (evVal evZ) (yl_ev (by rfl) _ rfl _ 0 rfl _ _ _ _ _ _ _ _ _ _ _ _ (fun _ h => by subst h; exact EvIn.cells G8)) ?_
          simp only [Act.put, lzA, lzB, lzC]
          refine wt_putEv (o := ⟨_, _, _, _, _, _⟩) rfl _ _ rfl g1 rfl evZ rfl G1 rfl (fun v9 X kg => ?_)
          simp only [Act.put, lzA, lzB, lzC]
          replace D := gr_new D ge_g1 kg
          replace H := H.gr kg (Ne.symm n_g1_rb)
          replace G4 := heap_gr G4 kg (Ne.symm n_g1_g4)
          replace G8 := heap_gr G8 kg (Ne.symm n_g1_g8)
          clear kg
          replace G1 : EvIn v9 g1 evZ := X
          clear X
          refine wl_yield (o := ⟨_, _, _, _, _, _⟩) (.int .i64 2) (yl_assign (by rfl) _ rfl _ rfl) ?_
          simp only [Act.put, lzA, lzB, lzC]
          refine wpList_nil ?_
          refine hK7 _ _ ?_
          clear hK7 K7
          refine wp_ret ?_
          try simp only [Exit.inBlock, Exit.then]
          rw [show rdE l = (evZ, 2) from by rw [rdE, if_neg (fun k => by have := k.2; omega)]]
          refine bodyPost_ret (results_cs rfl _ _ g1 _ (.int .i64 2) rfl rfl (run_loadVar_row _ _ _ _ _ _ _ G1 Tryz.underlying44 rfl (by rw [infoEv12]; rfl))) rfl ⟨rfl, below_none D⟩
    · go_enter Tryz.func68, Tryz.ntmps68
      refine wp_seq_k (fun K1 hK1 => ?_)
      refine wp_region_lit ?_
      refine wt_allocEv (o := ⟨_, _, _, _, _, _⟩) (by rfl) rfl (fun v1 g1 hg G1 kb => ?_)
      simp only [Act.put, lzA, lzB, lzC]
      have ge_g1 : w.heap.size ≤ g1 := Nat.le_trans D.size hg
      clear hg
      replace D := grown_below D kb
      clear kb
      replace G1 : EvIn v1 g1 evZ := G1
      refine wl_yield (o := ⟨_, _, _, _, _, _⟩) (.int .i64 0) (yl_assign (by rfl) _ rfl _ rfl) ?_
      simp only [Act.put, lzA, lzB, lzC]
      refine wpList_nil ?_
      refine hK1 _ _ ?_
      clear hK1 K1
      refine wp_seq_k (fun K2 hK2 => ?_)
      refine wp_region_lit ?_
      refine wl_yield (o := ⟨_, _, _, _, _, _⟩) (.string (bs l)) (yl_move (by rfl) _ rfl _ rfl) ?_
      simp only [Act.put, lzA, lzB, lzC]
      refine wt_call (o := ⟨_, _, _, _, _, _⟩) (by rfl) 33 _ _ rfl #[.string (bs l)] rfl (run_call Tryz.func33 (by kernel_rfl) (by kernel_rfl)) ?_
      refine (c_read l _).mono ?_
      rintro r v2 (⟨⟨rb, rfl, hrb, H⟩, kb⟩)
      · have n_g1_rb : g1 ≠ rb := by have := lt_heap G1; omega
        have ge_rb : w.heap.size ≤ rb := Nat.le_trans D.size hrb
        clear hrb
        replace D := grown_below D kb
        replace G1 := heap_on G1 kb
        clear kb
        refine Or.inl ⟨.pointer (some ⟨rb, 0, none⟩), rfl, ?_⟩
        simp only [Act.put, lzA, lzB, lzC]
        refine wl_yield (o := ⟨_, _, _, _, _, _⟩) (.pointer (some ⟨rb, 0, none⟩)) (yl_assign (by rfl) _ rfl _ rfl) ?_
        simp only [Act.put, lzA, lzB, lzC]
        refine wpList_nil ?_
        refine hK2 _ _ ?_
        clear hK2 K2
        refine wp_seq_k (fun K3 hK3 => ?_)
        refine wp_region_lit ?_
        refine wl_yield (o := ⟨_, _, _, _, _, _⟩) (.func (.func 35) #[] #[]) (yl_move (by rfl) _ rfl _ rfl) ?_
        simp only [Act.put, lzA, lzB, lzC]
        refine wl_yield (o := ⟨_, _, _, _, _, _⟩) (.pointer (some ⟨rb, 0, none⟩)) (yl_move (by rfl) _ rfl _ rfl) ?_
        simp only [Act.put, lzA, lzB, lzC]
        refine wt_callv (o := ⟨_, _, _, _, _, _⟩) (by rfl) 35 _ _ _ rfl #[] rfl #[.pointer (some ⟨rb, 0, none⟩)] rfl (run_call Tryz.func35 (by kernel_rfl) (by kernel_rfl)) ?_
        refine (takeEvent_any rb l 0 _ H hz).mono ?_
        rintro r v3 (⟨rfl, hr, kg⟩)
        · replace H := hr
          clear hr
          replace D := gr_new D ge_rb kg
          replace G1 := heap_gr G1 kg n_g1_rb
          clear kg
          refine Or.inl ⟨evVal (evO l 0).1, rfl, ?_⟩
          simp only [Act.put, lzA, lzB, lzC]
          refine wt_allocEv (o := ⟨_, _, _, _, _, _⟩) (by rfl) rfl (fun v4 g4 hg G4 kb => ?_)
          simp only [Act.put, lzA, lzB, lzC]
          have n_rb_g4 : rb ≠ g4 := by have := H.lt; omega
          have n_g1_g4 : g1 ≠ g4 := by have := lt_heap G1; omega
          have ge_g4 : w.heap.size ≤ g4 := Nat.le_trans D.size hg
          clear hg
          replace D := grown_below D kb
          replace G1 := heap_on G1 kb
          replace H := H.on kb
          clear kb
          replace G4 : EvIn v4 g4 evZ := G4
          refine wt_putEv (o := ⟨_, _, _, _, _, _⟩) rfl _ _ rfl g4 rfl (evO l 0).1 rfl G4 rfl (fun v5 X kg => ?_)
          simp only [Act.put, lzA, lzB, lzC]
          replace D := gr_new D ge_g4 kg
          replace G1 := heap_gr G1 kg n_g1_g4
          replace H := H.gr kg n_rb_g4
          clear kg
          replace G4 : EvIn v5 g4 (evO l 0).1 := X
          clear X
          refine wpList_nil ?_
          refine hK3 _ _ ?_
          clear hK3 K3
          refine wp_seq_k (fun K4 hK4 => ?_)
          refine wp_seq_k (fun K5 hK5 => ?_)
          refine wp_region_lit ?_
          refine wl_yield (o := ⟨_, _, _, _, _, _⟩) (.pointer (some ⟨rb, 0, none⟩)) (yl_move (by rfl) _ rfl _ rfl) ?_
          simp only [Act.put, lzA, lzB, lzC]
          refine wt_call (o := ⟨_, _, _, _, _, _⟩) (by rfl) 36 _ _ rfl #[.pointer (some ⟨rb, 0, none⟩)] rfl (run_call Tryz.func36 (by kernel_rfl) (by kernel_rfl)) ?_
          refine (c_err H).mono ?_
          rintro r v6 ⟨rfl, kb⟩
          replace D := grown_below D kb
          replace G1 := heap_on G1 kb
          replace H := H.on kb
          replace G4 := heap_on G4 kb
          clear kb
          refine Or.inl ⟨.int .i64 ((evO l 0).2.2), rfl, ?_⟩
          simp only [Act.put, lzA, lzB, lzC]
          refine wl_yield (o := ⟨_, _, _, _, _, _⟩) (.bool false) (yt_neqE (by rfl) _ _ _ rfl (evO l 0).2.2 0 false rfl rfl (decide_eq_false (Decidable.not_not.2 hE))) ?_
          simp only [Act.put, lzA, lzB, lzC]
          refine wl_yield (o := ⟨_, _, _, _, _, _⟩) (.bool false) (yl_move (by rfl) _ rfl _ rfl) ?_
          simp only [Act.put, lzA, lzB, lzC]
          refine wl_yield (o := ⟨_, _, _, _, _, _⟩) (.pointer (some ⟨rb, 0, none⟩)) (yl_move (by rfl) _ rfl _ rfl) ?_
          simp only [Act.put, lzA, lzB, lzC]
          refine wt_call (o := ⟨_, _, _, _, _, _⟩) (by rfl) 37 _ _ rfl #[.pointer (some ⟨rb, 0, none⟩)] rfl (run_call Tryz.func37 (by kernel_rfl) (by kernel_rfl)) ?_
          refine (c_left H (Nat.le_trans (evO_tk.le l 0) hz)).mono ?_
          rintro r v7 ⟨rfl, kb⟩
          replace D := grown_below D kb
          replace G1 := heap_on G1 kb
          replace H := H.on kb
          replace G4 := heap_on G4 kb
          clear kb
          refine Or.inl ⟨.int .i64 ((evO l 0).2.1.length : Nat), rfl, ?_⟩
          simp only [Act.put, lzA, lzB, lzC]
          refine wl_yield (o := ⟨_, _, _, _, _, _⟩) (.bool false) (yt_gtrI (by rfl) _ _ _ rfl (((evO l 0).2.1.length : Nat) : Int) 0 false rfl rfl (decide_eq_false (by omega))) ?_
          simp only [Act.put, lzA, lzB, lzC]
          refine wl_yield (o := ⟨_, _, _, _, _, _⟩) (.bool false) (yl_pickF (by rfl) _ _ _ rfl rfl _ rfl) ?_
          simp only [Act.put, lzA, lzB, lzC]
          refine wpList_nil ?_
          refine hK5 _ _ ?_
          clear hK5 K5
          refine wp_cond_false rfl ?_
          refine wp_skip ?_
          refine hK4 _ _ ?_
          clear hK4 K4
          refine wp_seq_k (fun K6 hK6 => ?_)
          refine wp_region_lit ?_
          refine wl_yield (o := ⟨_, _, _, _, _, _⟩) (evVal (evO l 0).1) (yl_ev (by rfl) _ rfl _ 0 rfl _ _ _ _ _ _ _ _ _ _ _ _ (fun _ h => by subst h; exact EvIn.cells G4)) ?_
          simp only [Act.put, lzA, lzB, lzC]
          refine wt_putEv (o := ⟨_, _, _, _, _, _⟩) rfl _ _ rfl g1 rfl (evO l 0).1 rfl G1 rfl (fun v8 X kg => ?_)
          simp only [Act.put, lzA, lzB, lzC]
          replace D := gr_new D ge_g1 kg
          replace H := H.gr kg (Ne.symm n_g1_rb)
          replace G4 := heap_gr G4 kg (Ne.symm n_g1_g4)
          clear kg
          replace G1 : EvIn v8 g1 (evO l 0).1 := X
          clear X
          refine wl_yield (o := ⟨_, _, _, _, _, _⟩) (.int .i64 0) (yl_assign (by rfl) _ rfl _ rfl) ?_
          simp only [Act.put, lzA, lzB, lzC]
          refine wpList_nil ?_
          refine hK6 _ _ ?_
          clear hK6 K6
          refine wp_ret ?_
          try simp only [Exit.inBlock, Exit.then]
          rw [show rdE l = ((evO l 0).1, 0) from by rw [rdE, if_pos ⟨hE, by omega⟩]]
          refine bodyPost_ret (results_cs rfl _ _ g1 _ (.int .i64 0) rfl rfl (run_loadVar_row _ _ _ _ _ _ _ G1 Tryz.underlying44 rfl (by rw [infoEv12]; rfl))) rfl ⟨rfl, below_none D⟩
  · go_enter Tryz.func68, Tryz.ntmps68
    refine wp_seq_k (fun K1 hK1 => ?_)
    refine wp_region_lit ?_
    refine wt_allocEv (o := ⟨_, _, _, _, _, _⟩) (by rfl) rfl (fun v1 g1 hg G1 kb => ?_)
    simp only [Act.put, lzA, lzB, lzC]
    have ge_g1 : w.heap.size ≤ g1 := Nat.le_trans D.size hg
    clear hg
    replace D := grown_below D kb
    clear kb
    replace G1 : EvIn v1 g1 evZ := G1
    refine wl_yield (o := ⟨_, _, _, _, _, _⟩) (.int .i64 0) (yl_assign (by rfl) _ rfl _ rfl) ?_
    simp only [Act.put, lzA, lzB, lzC]
    refine wpList_nil ?_
    refine hK1 _ _ ?_
    clear hK1 K1
    refine wp_seq_k (fun K2 hK2 => ?_)
    refine wp_region_lit ?_
    refine wl_yield (o := ⟨_, _, _, _, _, _⟩) (.string (bs l)) (yl_move (by rfl) _ rfl _ rfl) ?_
    simp only [Act.put, lzA, lzB, lzC]
    refine wt_call (o := ⟨_, _, _, _, _, _⟩) (by rfl) 33 _ _ rfl #[.string (bs l)] rfl (run_call Tryz.func33 (by kernel_rfl) (by kernel_rfl)) ?_
    refine (c_read l _).mono ?_
    rintro r v2 (⟨⟨rb, rfl, hrb, H⟩, kb⟩)
    · have n_g1_rb : g1 ≠ rb := by have := lt_heap G1; omega
      have ge_rb : w.heap.size ≤ rb := Nat.le_trans D.size hrb
      clear hrb
      replace D := grown_below D kb
      replace G1 := heap_on G1 kb
      clear kb
      refine Or.inl ⟨.pointer (some ⟨rb, 0, none⟩), rfl, ?_⟩
      simp only [Act.put, lzA, lzB, lzC]
      refine wl_yield (o := ⟨_, _, _, _, _, _⟩) (.pointer (some ⟨rb, 0, none⟩)) (yl_assign (by rfl) _ rfl _ rfl) ?_
      simp only [Act.put, lzA, lzB, lzC]
      refine wpList_nil ?_
      refine hK2 _ _ ?_
      clear hK2 K2
      refine wp_seq_k (fun K3 hK3 => ?_)
      refine wp_region_lit ?_
      refine wl_yield (o := ⟨_, _, _, _, _, _⟩) (.func (.func 35) #[] #[]) (yl_move (by rfl) _ rfl _ rfl) ?_
      simp only [Act.put, lzA, lzB, lzC]
      refine wl_yield (o := ⟨_, _, _, _, _, _⟩) (.pointer (some ⟨rb, 0, none⟩)) (yl_move (by rfl) _ rfl _ rfl) ?_
      simp only [Act.put, lzA, lzB, lzC]
      refine wt_callv (o := ⟨_, _, _, _, _, _⟩) (by rfl) 35 _ _ _ rfl #[] rfl #[.pointer (some ⟨rb, 0, none⟩)] rfl (run_call Tryz.func35 (by kernel_rfl) (by kernel_rfl)) ?_
      refine (takeEvent_any rb l 0 _ H hz).mono ?_
      rintro r v3 (⟨rfl, hr, kg⟩)
      · replace H := hr
        clear hr
        replace D := gr_new D ge_rb kg
        replace G1 := heap_gr G1 kg n_g1_rb
        clear kg
        refine Or.inl ⟨evVal (evO l 0).1, rfl, ?_⟩
        simp only [Act.put, lzA, lzB, lzC]
        refine wt_allocEv (o := ⟨_, _, _, _, _, _⟩) (by rfl) rfl (fun v4 g4 hg G4 kb => ?_)
        simp only [Act.put, lzA, lzB, lzC]
        have n_rb_g4 : rb ≠ g4 := by have := H.lt; omega
        have n_g1_g4 : g1 ≠ g4 := by have := lt_heap G1; omega
        have ge_g4 : w.heap.size ≤ g4 := Nat.le_trans D.size hg
        clear hg
        replace D := grown_below D kb
        replace G1 := heap_on G1 kb
        replace H := H.on kb
        clear kb
        replace G4 : EvIn v4 g4 evZ := G4
        refine wt_putEv (o := ⟨_, _, _, _, _, _⟩) rfl _ _ rfl g4 rfl (evO l 0).1 rfl G4 rfl (fun v5 X kg => ?_)
        simp only [Act.put, lzA, lzB, lzC]
        replace D := gr_new D ge_g4 kg
        replace G1 := heap_gr G1 kg n_g1_g4
        replace H := H.gr kg n_rb_g4
        clear kg
        replace G4 : EvIn v5 g4 (evO l 0).1 := X
        clear X
        refine wpList_nil ?_
        refine hK3 _ _ ?_
        clear hK3 K3
        refine wp_seq_k (fun K4 hK4 => ?_)
        refine wp_seq_k (fun K5 hK5 => ?_)
        refine wp_region_lit ?_
        refine wl_yield (o := ⟨_, _, _, _, _, _⟩) (.pointer (some ⟨rb, 0, none⟩)) (yl_move (by rfl) _ rfl _ rfl) ?_
        simp only [Act.put, lzA, lzB, lzC]
        refine wt_call (o := ⟨_, _, _, _, _, _⟩) (by rfl) 36 _ _ rfl #[.pointer (some ⟨rb, 0, none⟩)] rfl (run_call Tryz.func36 (by kernel_rfl) (by kernel_rfl)) ?_
        refine (c_err H).mono ?_
        rintro r v6 ⟨rfl, kb⟩
        replace D := grown_below D kb
        replace G1 := heap_on G1 kb
        replace H := H.on kb
        replace G4 := heap_on G4 kb
        clear kb
        refine Or.inl ⟨.int .i64 ((evO l 0).2.2), rfl, ?_⟩
        simp only [Act.put, lzA, lzB, lzC]
        refine wl_yield (o := ⟨_, _, _, _, _, _⟩) (.bool true) (yt_neqE (by rfl) _ _ _ rfl (evO l 0).2.2 0 true rfl rfl (decide_eq_true hE)) ?_
        simp only [Act.put, lzA, lzB, lzC]
        refine wl_yield (o := ⟨_, _, _, _, _, _⟩) (.bool true) (yl_move (by rfl) _ rfl _ rfl) ?_
        simp only [Act.put, lzA, lzB, lzC]
        with_reducible refine wl_yield (o := ⟨_, _, _, _, _, _⟩) undef (yl_undef (by kernel_rfl)) ?_
        simp only [Act.put, lzA, lzB, lzC]
        with_reducible refine wl_yield (o := ⟨_, _, _, _, _, _⟩) undef (yl_undef (by kernel_rfl)) ?_
        simp only [Act.put, lzA, lzB, lzC]
        with_reducible refine wl_yield (o := ⟨_, _, _, _, _, _⟩) undef (yl_undef (by kernel_rfl)) ?_
        simp only [Act.put, lzA, lzB, lzC]
        refine wl_yield (o := ⟨_, _, _, _, _, _⟩) (.bool true) (yl_pickT (by rfl) _ _ _ rfl rfl _ rfl) ?_
        simp only [Act.put, lzA, lzB, lzC]
        refine wpList_nil ?_
        refine hK5 _ _ ?_
        clear hK5 K5
        refine wp_cond_true rfl ?_
        refine wp_seq_k (fun K6 hK6 => ?_)
        refine wp_region_lit ?_
        refine wt_allocEv (o := ⟨_, _, _, _, _, _⟩) (by rfl) rfl (fun v7 g7 hg G7 kb => ?_)
        simp only [Act.put, lzA, lzB, lzC]
        have n_rb_g7 : rb ≠ g7 := by have := H.lt; omega
        have n_g1_g7 : g1 ≠ g7 := by have := lt_heap G1; omega
        have n_g4_g7 : g4 ≠ g7 := by have := lt_heap G4; omega
        have ge_g7 : w.heap.size ≤ g7 := Nat.le_trans D.size hg
        clear hg
        replace D := grown_below D kb
        replace G1 := heap_on G1 kb
        replace H := H.on kb
        replace G4 := heap_on G4 kb
        clear kb
        replace G7 : EvIn v7 g7 evZ := G7
        refine wpList_nil ?_
        refine hK6 _ _ ?_
        clear hK6 K6
        refine wp_seq_k (fun K7 hK7 => ?_)
        refine wp_region_lit ?_
        refine wl_yield (o := ⟨_, _, _, _, _, _⟩) (evVal evZ) (yl_ev (by rfl) _ rfl _ 0 rfl _ _ _ _ _ _ _ _ _ _ _ _ (fun _ h => by subst h; exact EvIn.cells G7)) ?_
        simp only [Act.put, lzA, lzB, lzC]
        refine wt_putEv (o := ⟨_, _, _, _, _, _⟩) rfl _ _ rfl g1 rfl evZ rfl G1 rfl (fun v8 X kg => ?_)
        simp only [Act.put, lzA, lzB, lzC]
        replace D := gr_new D ge_g1 kg
        replace H := H.gr kg (Ne.symm n_g1_rb)
        replace G4 := heap_gr G4 kg (Ne.symm n_g1_g4)
        replace G7 := heap_gr G7 kg (Ne.symm n_g1_g7)
        clear kg
        replace G1 : EvIn v8 g1 evZ := X
        clear X
        refine wl_yield (o := ⟨_, _, _, _, _, _⟩) (.int .i64 2) (yl_assign (by rfl) _ rfl _ rfl) ?_
        simp only [Act.put, lzA, lzB, lzC]
        refine wpList_nil ?_
        refine hK7 _ _ ?_
        clear hK7 K7
        refine wp_ret ?_
        try simp only [Exit.inBlock, Exit.then]
        rw [show rdE l = (evZ, 2) from by rw [rdE, if_neg (fun k => hE k.1)]]
        refine bodyPost_ret (results_cs rfl _ _ g1 _ (.int .i64 2) rfl rfl (run_loadVar_row _ _ _ _ _ _ _ G1 Tryz.underlying44 rfl (by rw [infoEv12]; rfl))) rfl ⟨rfl, below_none D⟩
set_option maxHeartbeats 4000000 in
set_option maxRecDepth 100000 in
theorem readFilter_any (l : List UInt8) (w : World) (hz : l.length ≤ 1048576) :
    Calls Tryz.prog 23 #[.string (bs l)] w fun r w' => (∃ (p : Option Addr) (n c : Nat) (z : Int), r = .returned (.tuple #[.slice p n c, .int .i64 z]) ∧ (Bxs w' (.slice p n c) (rdF l).1 ∧ z = (rdF l).2) ∧ Below w.heap.size w w') := by
  have D : w.grownBy w none := grown_refl _ _
  go_enter Tryz.func23, Tryz.ntmps23
  refine wp_seq_k (fun K1 hK1 => ?_)
  refine wp_region_lit ?_
  refine wl_yield (o := ⟨_, _, _, _, _, _⟩) (.slice none 0 0) (yl_assign (by rfl) _ rfl _ rfl) ?_
  simp only [Act.put, lzA, lzB, lzC]
  refine wl_yield (o := ⟨_, _, _, _, _, _⟩) (.int .i64 0) (yl_assign (by rfl) _ rfl _ rfl) ?_
  simp only [Act.put, lzA, lzB, lzC]
  refine wpList_nil ?_
  refine hK1 _ _ ?_
  clear hK1 K1
  refine wp_seq_k (fun K2 hK2 => ?_)
  refine wp_region_lit ?_
  refine wl_yield (o := ⟨_, _, _, _, _, _⟩) (.string (bs l)) (yl_move (by rfl) _ rfl _ rfl) ?_
  simp only [Act.put, lzA, lzB, lzC]
  refine wt_call (o := ⟨_, _, _, _, _, _⟩) (by rfl) 61 _ _ rfl #[.string (bs l), .func (.func 34) #[] #[]] rfl (run_call Tryz.func61 (by kernel_rfl) (by kernel_rfl)) ?_
  refine (readF_any l _ hz).mono ?_
  rintro r v1 (⟨p, n, c, z, rfl, ⟨HX, hzz⟩, kb⟩)
  · replace D := grown_below D kb
    clear kb
    refine Or.inl ⟨.tuple #[.slice p n c, .int .i64 z], rfl, ?_⟩
    simp only [Act.put, lzA, lzB, lzC]
    refine wl_yield (o := ⟨_, _, _, _, _, _⟩) (.slice p n c) (yl_extract0 (by rfl) _ rfl _ _ rfl) ?_
    simp only [Act.put, lzA, lzB, lzC]
    refine wl_yield (o := ⟨_, _, _, _, _, _⟩) (.int .i64 z) (yl_extract1 (by rfl) _ rfl _ _ rfl) ?_
    simp only [Act.put, lzA, lzB, lzC]
    refine wl_yield (o := ⟨_, _, _, _, _, _⟩) (.slice p n c) (yl_assign (by rfl) _ rfl _ rfl) ?_
    simp only [Act.put, lzA, lzB, lzC]
    refine wl_yield (o := ⟨_, _, _, _, _, _⟩) (.int .i64 z) (yl_assign (by rfl) _ rfl _ rfl) ?_
    simp only [Act.put, lzA, lzB, lzC]
    refine wpList_nil ?_
    refine hK2 _ _ ?_
    clear hK2 K2
    refine wp_ret ?_
    go_ret2
    exact ⟨p, n, c, z, rfl, ⟨HX, hzz⟩, below_none D⟩
set_option maxHeartbeats 4000000 in
set_option maxRecDepth 100000 in
theorem readEvent8_any (l : List UInt8) (w : World) (hz : l.length ≤ 1048576) :
    Calls Tryz.prog 27 #[.string (bs l)] w fun r w' => (r = .returned (.tuple #[evVal (rdE l).1, .int .i64 (rdE l).2]) ∧ Below w.heap.size w w') := by
  have D : w.grownBy w none := grown_refl _ _
  go_enter Tryz.func27, Tryz.ntmps27
  refine wp_seq_k (fun K1 hK1 => ?_)
  refine wp_region_lit ?_
  refine wt_allocEv (o := ⟨_, _, _, _, _, _⟩) (by rfl) rfl (fun v1 g1 hg G1 kb => ?_)
  simp only [Act.put, lzA, lzB, lzC]
  have ge_g1 : w.heap.size ≤ g1 := Nat.le_trans D.size hg
  clear hg
  replace D := grown_below D kb
  clear kb
  replace G1 : EvIn v1 g1 evZ := G1
  refine wl_yield (o := ⟨_, _, _, _, _, _⟩) (.int .i64 0) (yl_assign (by rfl) _ rfl _ rfl) ?_
  simp only [Act.put, lzA, lzB, lzC]
  refine wpList_nil ?_
  refine hK1 _ _ ?_
  clear hK1 K1
  refine wp_seq_k (fun K2 hK2 => ?_)
  refine wp_region_lit ?_
  refine wl_yield (o := ⟨_, _, _, _, _, _⟩) (.string (bs l)) (yl_move (by rfl) _ rfl _ rfl) ?_
  simp only [Act.put, lzA, lzB, lzC]
  refine wt_call (o := ⟨_, _, _, _, _, _⟩) (by rfl) 68 _ _ rfl #[.string (bs l), .func (.func 35) #[] #[]] rfl (run_call Tryz.func68 (by kernel_rfl) (by kernel_rfl)) ?_
  refine (readE_any l _ hz).mono ?_
  rintro r v2 (⟨rfl, kb⟩)
  · replace D := grown_below D kb
    replace G1 := heap_on G1 kb
    clear kb
    refine Or.inl ⟨.tuple #[evVal (rdE l).1, .int .i64 ((rdE l).2)], rfl, ?_⟩
    simp only [Act.put, lzA, lzB, lzC]
    refine wl_yield (o := ⟨_, _, _, _, _, _⟩) (evVal (rdE l).1) (yl_extract0 (by rfl) _ rfl _ _ rfl) ?_
    simp only [Act.put, lzA, lzB, lzC]
    refine wl_yield (o := ⟨_, _, _, _, _, _⟩) (.int .i64 ((rdE l).2)) (yl_extract1 (by rfl) _ rfl _ _ rfl) ?_
    simp only [Act.put, lzA, lzB, lzC]
    refine wt_putEv (o := ⟨_, _, _, _, _, _⟩) rfl _ _ rfl g1 rfl (rdE l).1 rfl G1 rfl (fun v3 X kg => ?_)
    simp only [Act.put, lzA, lzB, lzC]
    replace D := gr_new D ge_g1 kg
    clear kg
    replace G1 : EvIn v3 g1 (rdE l).1 := X
    clear X
    refine wl_yield (o := ⟨_, _, _, _, _, _⟩) (.int .i64 ((rdE l).2)) (yl_assign (by rfl) _ rfl _ rfl) ?_
    simp only [Act.put, lzA, lzB, lzC]
    refine wpList_nil ?_
    refine hK2 _ _ ?_
    clear hK2 K2
    refine wp_ret ?_
    try simp only [Exit.inBlock, Exit.then]
    refine bodyPost_ret (results_cs rfl _ _ g1 _ (.int .i64 (rdE l).2) rfl rfl (run_loadVar_row _ _ _ _ _ _ _ G1 Tryz.underlying44 rfl (by rw [infoEv12]; rfl))) rfl ⟨rfl, below_none D⟩
end Go.Proofs.YtlmdcaemjaldfaaGreat
namespace Go.Proofs.YtlmdcaemjaldfaaGreat
open Go.RowKit
section
variable {ops : Array Oper} {Q : Exit → Act → World → Prop} {S : World → Prop} {o : Oper} {a : Act} {i : Nat} {K : Act → World → Prop} {w : World}
end
end Go.Proofs.YtlmdcaemjaldfaaGreat
namespace Go.Proofs.YtlmdcaemjaldfaaGreat
open Go.RowKit
end Go.Proofs.YtlmdcaemjaldfaaGreat
namespace Go.Proofs.YtlmdcaemjaldfaaGreat
open Go.RowKit
theorem Tk.mono {α : Type} {f : TkF α} {en : α → List UInt8} {P : α → Prop} (h : Tk f en P) {k m : Nat} {l : List UInt8} {e : Int} (hk : k ≤ m) (hn : (iterO f k l e).2.2 ≠ 0) : (iterO f m l e).2.2 ≠ 0 := by
  induction m with
  | zero => rw [show (0 : Nat) = k by omega]; exact hn
  | succ m ih =>
    by_cases hkm : k ≤ m
    · rw [iterO_s2]; exact h.stick _ _ (ih hkm)
    · rw [show m + 1 = k by omega]; exact hn
theorem Kept.skip {m g : Nat} {w0 W W' : World} (h : Kept m w0 W) (k : W.grownBy W' (some g)) (hg : w0.heap.size ≤ g) : Kept m w0 W' :=
  ⟨Nat.le_trans h.size k.size, fun i hm hi => (k.block i (Nat.lt_of_lt_of_le hi h.size) (by intro e; injection e with e; omega)).trans (h.block i hm hi)⟩
end Go.Proofs.YtlmdcaemjaldfaaGreat
namespace Go.Proofs.YtlmdcaemjaldfaaGreat
open Go.RowKit
section
variable {ops : Array Oper} {Q : Exit → Act → World → Prop} {S : World → Prop} {o : Oper} {a : Act}
end
end Go.Proofs.YtlmdcaemjaldfaaGreat
namespace Go.Proofs.YtlmdcaemjaldfaaGreat
open Go.RowKit
set_option maxRecDepth 100000
theorem cI : Tryz.prog.cellsOf 3 = 1 := by kernel_rfl
theorem cS : Tryz.prog.cellsOf 9 = 1 := by kernel_rfl
section
variable {ops : Array Oper} {S : World → Prop} {o : Oper} {a : Act}
end
end Go.Proofs.YtlmdcaemjaldfaaGreat
