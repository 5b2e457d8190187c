import Derived.Test.YtlmdcaemjaldfaaGreatR5
import Derived.Test.YtlmdcaemjaldfaaGreatR2
import Derived.Test.YtlmdcaemjaldfaaGreatR4
import Derived.DeepKeys
import Derived.Test.YtlmdcaemjaldfaaGreatR1
import Derived.Test.YtlmdcaemjaldfaaGreatR3
import Derived.Lib.SmallJoins
import Derived.Deep.Strs
set_option linter.unusedSimpArgs false
set_option linter.unusedVariables false
namespace Go.Proofs.YtlmdcaemjaldfaaGreat
open Go.RowKit
theorem c_read (l : List UInt8) (w : World) : Calls Tryz.prog 33 #[.string (bs l)] w fun r w' => (∃ rb : Nat, r = .returned (.pointer (some ⟨rb, 0, none⟩)) ∧ w.heap.size ≤ rb ∧ PS w' rb l 0) ∧ Below w.heap.size w w' :=
  (read_any (bs l) w).mono fun r w' h => ⟨⟨_, h.1, Nat.le_refl _, ⟨h.2.1, fun h => absurd rfl h⟩⟩, h.2.2⟩
def rdF (l : List UInt8) : List BoxV × Int := if (filO l 0).2.2 = 0 ∧ (filO l 0).2.1.length = 0 then ((filO l 0).1, 0) else ([], 2)
def rdE (l : List UInt8) : EvV × Int := if (evO l 0).2.2 = 0 ∧ (evO l 0).2.1.length = 0 then ((evO l 0).1, 0) else (evZ, 2)
theorem results_cs {fn : Func} {p q : Tmp} {ty : TypeId} (h : fn.results = #[.cell p ty, .tmp q]) (tmps : Array Value) (w : World) (g : Nat) (cs : Array Value) (z : Value)
    (hp : tmps.getD p undef = .pointer (some ⟨g, 0, none⟩)) (hq : tmps.getD q undef = z) (hv : (loadVar ty ⟨g, 0, none⟩).run Tryz.prog w = .ok (.agg cs) w) :
    (results fn tmps).run Tryz.prog w = .ok (.tuple #[.agg cs, z]) w := by
  have hp' : tmps[p]?.getD undef = .pointer (some ⟨g, 0, none⟩) := by simpa using hp
  have hq' : tmps[q]?.getD undef = z := by simpa using hq
  simp [results, h, hp', hq', asAddr, hv]
set_option maxHeartbeats 4000000 in
set_option maxRecDepth 100000 in
theorem readF_any (l : List UInt8) (w : World) (hz : l.length ≤ 1048576) :
    Calls Tryz.prog 61 #[.string (bs l), .func (.func 34) #[] #[]] w fun r w' => (∃ (p : Option Addr) (n c : Nat) (z : Int), r = .returned (.tuple #[.slice p n c, .int .i64 z]) ∧ (Bxs w' (.slice p n c) (rdF l).1 ∧ z = (rdF l).2) ∧ Below w.heap.size w w') := by
  have D : w.grownBy w none := grown_refl _ _
  by_cases hE : (filO l 0).2.2 = 0
  · by_cases hL : 0 < (filO l 0).2.1.length
    · go_enter Tryz.func61, Tryz.ntmps61
      refine wp_seq_k (fun K1 hK1 => ?_)
      refine wp_region_lit ?_
      refine wl_yield (o := ⟨_, _, _, _, _, _⟩) (.slice none 0 0) (yl_assign (by rfl) _ rfl _ rfl) ?_
      simp only [Act.put, lzA, lzB, lzC]
      refine wl_yield (o := ⟨_, _, _, _, _, _⟩) (.int .i64 0) (yl_assign (by rfl) _ rfl _ rfl) ?_
      simp only [Act.put, lzA, lzB, lzC]
      refine wpList_nil ?_
      refine hK1 _ _ ?_
      clear hK1 K1
      refine wp_seq_k (fun K2 hK2 => ?_)
      refine wp_region_lit ?_
      refine wl_yield (o := ⟨_, _, _, _, _, _⟩) (.string (bs l)) (yl_move (by rfl) _ rfl _ rfl) ?_
      simp only [Act.put, lzA, lzB, lzC]
      refine wt_call (o := ⟨_, _, _, _, _, _⟩) (by rfl) 33 _ _ rfl #[.string (bs l)] rfl (run_call Tryz.func33 (by kernel_rfl) (by kernel_rfl)) ?_
      refine (c_read l _).mono ?_
      rintro r v1 (⟨⟨rb, rfl, hrb, H⟩, kb⟩)
      · have ge_rb : w.heap.size ≤ rb := Nat.le_trans D.size hrb
        clear hrb
        replace D := grown_below D kb
        clear kb
        refine Or.inl ⟨.pointer (some ⟨rb, 0, none⟩), rfl, ?_⟩
        simp only [Act.put, lzA, lzB, lzC]
        refine wl_yield (o := ⟨_, _, _, _, _, _⟩) (.pointer (some ⟨rb, 0, none⟩)) (yl_assign (by rfl) _ rfl _ rfl) ?_
        simp only [Act.put, lzA, lzB, lzC]
        refine wpList_nil ?_
        refine hK2 _ _ ?_
        clear hK2 K2
        refine wp_seq_k (fun K3 hK3 => ?_)
        refine wp_region_lit ?_
        refine wl_yield (o := ⟨_, _, _, _, _, _⟩) (.func (.func 34) #[] #[]) (yl_move (by rfl) _ rfl _ rfl) ?_
        simp only [Act.put, lzA, lzB, lzC]
        refine wl_yield (o := ⟨_, _, _, _, _, _⟩) (.pointer (some ⟨rb, 0, none⟩)) (yl_move (by rfl) _ rfl _ rfl) ?_
        simp only [Act.put, lzA, lzB, lzC]
        have sz0 := D.size
        refine wt_callv (o := ⟨_, _, _, _, _, _⟩) (by rfl) 34 _ _ _ rfl #[] rfl #[.pointer (some ⟨rb, 0, none⟩)] rfl (run_call Tryz.func34 (by kernel_rfl) (by kernel_rfl)) ?_
        refine (takeFilter_any rb l 0 _ H hz).mono ?_
        rintro r v2 (⟨p, n, c, rfl, LB, hr, kg⟩)
        · replace H := hr
          clear hr
          replace D := gr_new D ge_rb kg
          clear kg
          replace LB : Lives _ _ (fun w'' => Bxs w'' (.slice p n c) (filO l 0).1) := LB
          refine Or.inl ⟨.slice p n c, rfl, ?_⟩
          simp only [Act.put, lzA, lzB, lzC]
          refine wl_yield (o := ⟨_, _, _, _, _, _⟩) (.slice p n c) (yl_assign (by rfl) _ rfl _ rfl) ?_
          simp only [Act.put, lzA, lzB, lzC]
          refine wpList_nil ?_
          refine hK3 _ _ ?_
          clear hK3 K3
          refine wp_seq_k (fun K4 hK4 => ?_)
          refine wp_seq_k (fun K5 hK5 => ?_)
          refine wp_region_lit ?_
          refine wl_yield (o := ⟨_, _, _, _, _, _⟩) (.pointer (some ⟨rb, 0, none⟩)) (yl_move (by rfl) _ rfl _ rfl) ?_
          simp only [Act.put, lzA, lzB, lzC]
          refine wt_call (o := ⟨_, _, _, _, _, _⟩) (by rfl) 36 _ _ rfl #[.pointer (some ⟨rb, 0, none⟩)] rfl (run_call Tryz.func36 (by kernel_rfl) (by kernel_rfl)) ?_
          refine (c_err H).mono ?_
          rintro r v3 ⟨rfl, kb⟩
          replace D := grown_below D kb
          replace H := H.on kb
          replace LB := LB.on kb
          clear kb
          refine Or.inl ⟨.int .i64 ((filO l 0).2.2), rfl, ?_⟩
          simp only [Act.put, lzA, lzB, lzC]
          refine wl_yield (o := ⟨_, _, _, _, _, _⟩) (.bool false) (yt_neqE (by rfl) _ _ _ rfl (filO l 0).2.2 0 false rfl rfl (decide_eq_false (Decidable.not_not.2 hE))) ?_
          simp only [Act.put, lzA, lzB, lzC]
          refine wl_yield (o := ⟨_, _, _, _, _, _⟩) (.bool false) (yl_move (by rfl) _ rfl _ rfl) ?_
          simp only [Act.put, lzA, lzB, lzC]
          refine wl_yield (o := ⟨_, _, _, _, _, _⟩) (.pointer (some ⟨rb, 0, none⟩)) (yl_move (by rfl) _ rfl _ rfl) ?_
          simp only [Act.put, lzA, lzB, lzC]
          refine wt_call (o := ⟨_, _, _, _, _, _⟩) (by rfl) 37 _ _ rfl #[.pointer (some ⟨rb, 0, none⟩)] rfl (run_call Tryz.func37 (by kernel_rfl) (by kernel_rfl)) ?_
          refine (c_left H (Nat.le_trans (filO_tk.le l 0) hz)).mono ?_
          rintro r v4 ⟨rfl, kb⟩
          replace D := grown_below D kb
          replace H := H.on kb
          replace LB := LB.on kb
          clear kb
          refine Or.inl ⟨.int .i64 ((filO l 0).2.1.length : Nat), rfl, ?_⟩
          simp only [Act.put, lzA, lzB, lzC]
          refine wl_yield (o := ⟨_, _, _, _, _, _⟩) (.bool true) (yt_gtrI (by rfl) _ _ _ rfl (((filO l 0).2.1.length : Nat) : Int) 0 true rfl rfl (decide_eq_true (by omega))) ?_
          simp only [Act.put, lzA, lzB, lzC]
          refine wl_yield (o := ⟨_, _, _, _, _, _⟩) (.bool true) (yl_pickF (by rfl) _ _ _ rfl rfl _ rfl) ?_
          simp only [Act.put, lzA, lzB, lzC]
          refine wpList_nil ?_
          refine hK5 _ _ ?_
          clear hK5 K5
          refine wp_cond_true rfl ?_
          refine wp_seq_k (fun K6 hK6 => ?_)
          refine wp_region_lit ?_
          refine wl_yield (o := ⟨_, _, _, _, _, _⟩) (.slice none 0 0) (yl_assign (by rfl) _ rfl _ rfl) ?_
          simp only [Act.put, lzA, lzB, lzC]
          refine wpList_nil ?_
          refine hK6 _ _ ?_
          clear hK6 K6
          refine wp_seq_k (fun K7 hK7 => ?_)
          refine wp_region_lit ?_
          refine wl_yield (o := ⟨_, _, _, _, _, _⟩) (.slice none 0 0) (yl_move (by rfl) _ rfl _ rfl) ?_
          simp only [Act.put, lzA, lzB, lzC]
          refine wl_yield (o := ⟨_, _, _, _, _, _⟩) (.slice none 0 0) (yl_assign (by rfl) _ rfl _ rfl) ?_
          simp only [Act.put, lzA, lzB, lzC]
          refine wl_yield (o := ⟨_, _, _, _, _, _⟩) (.int .i64 2) (yl_assign (by rfl) _ rfl _ rfl) ?_
          simp only [Act.put, lzA, lzB, lzC]
          refine wpList_nil ?_
          refine hK7 _ _ ?_
          clear hK7 K7
          refine wp_ret ?_
          go_ret2
          exact ⟨none, 0, 0, 2, rfl, (by rw [rdF, if_neg (fun k => by have := k.2; omega)]; exact ⟨bxs_nil _, rfl⟩), below_none D⟩
    · go_enter Tryz.func61, Tryz.ntmps61
      refine wp_seq_k (fun K1 hK1 => ?_)
      refine wp_region_lit ?_
      refine wl_yield (o := ⟨_, _, _, _, _, _⟩) (.slice none 0 0) (yl_assign (by rfl) _ rfl _ rfl) ?_
      simp only [Act.put, lzA, lzB, lzC]
      refine wl_yield (o := ⟨_, _, _, _, _, _⟩) (.int .i64 0) (yl_assign (by rfl) _ rfl _ rfl) ?_
      simp only [Act.put, lzA, lzB, lzC]
      refine wpList_nil ?_
      refine hK1 _ _ ?_
      clear hK1 K1
      refine wp_seq_k (fun K2 hK2 => ?_)
      refine wp_region_lit ?_
      refine wl_yield (o := ⟨_, _, _, _, _, _⟩) (.string (bs l)) (yl_move (by rfl) _ rfl _ rfl) ?_
      simp only [Act.put, lzA, lzB, lzC]
      refine wt_call (o := ⟨_, _, _, _, _, _⟩) (by rfl) 33 _ _ rfl #[.string (bs l)] rfl (run_call Tryz.func33 (by kernel_rfl) (by kernel_rfl)) ?_
      refine (c_read l _).mono ?_
      rintro r v1 (⟨⟨rb, rfl, hrb, H⟩, kb⟩)
      · have ge_rb : w.heap.size ≤ rb := Nat.le_trans D.size hrb
        clear hrb
        replace D := grown_below D kb
        clear kb
        refine Or.inl ⟨.pointer (some ⟨rb, 0, none⟩), rfl, ?_⟩
        simp only [Act.put, lzA, lzB, lzC]
        refine wl_yield (o := ⟨_, _, _, _, _, _⟩) (.pointer (some ⟨rb, 0, none⟩)) (yl_assign (by rfl) _ rfl _ rfl) ?_
        simp only [Act.put, lzA, lzB, lzC]
        refine wpList_nil ?_
        refine hK2 _ _ ?_
        clear hK2 K2
        refine wp_seq_k (fun K3 hK3 => ?_)
        refine wp_region_lit ?_
        refine wl_yield (o := ⟨_, _, _, _, _, _⟩) (.func (.func 34) #[] #[]) (yl_move (by rfl) _ rfl _ rfl) ?_
        simp only [Act.put, lzA, lzB, lzC]
        refine wl_yield (o := ⟨_, _, _, _, _, _⟩) (.pointer (some ⟨rb, 0, none⟩)) (yl_move (by rfl) _ rfl _ rfl) ?_
        simp only [Act.put, lzA, lzB, lzC]
        have sz0 := D.size
        refine wt_callv (o := ⟨_, _, _, _, _, _⟩) (by rfl) 34 _ _ _ rfl #[] rfl #[.pointer (some ⟨rb, 0, none⟩)] rfl (run_call Tryz.func34 (by kernel_rfl) (by kernel_rfl)) ?_
        refine (takeFilter_any rb l 0 _ H hz).mono ?_
        rintro r v2 (⟨p, n, c, rfl, LB, hr, kg⟩)
        · replace H := hr
          clear hr
          replace D := gr_new D ge_rb kg
          clear kg
          replace LB : Lives _ _ (fun w'' => Bxs w'' (.slice p n c) (filO l 0).1) := LB
          refine Or.inl ⟨.slice p n c, rfl, ?_⟩
          simp only [Act.put, lzA, lzB, lzC]
          refine wl_yield (o := ⟨_, _, _, _, _, _⟩) (.slice p n c) (yl_assign (by rfl) _ rfl _ rfl) ?_
          simp only [Act.put, lzA, lzB, lzC]
          refine wpList_nil ?_
          refine hK3 _ _ ?_
          clear hK3 K3
          refine wp_seq_k (fun K4 hK4 => ?_)
          refine wp_seq_k (fun K5 hK5 => ?_)
          refine wp_region_lit ?_
          refine wl_yield (o := ⟨_, _, _, _, _, _⟩) (.pointer (some ⟨rb, 0, none⟩)) (yl_move (by rfl) _ rfl _ rfl) ?_
          simp only [Act.put, lzA, lzB, lzC]
          refine wt_call (o := ⟨_, _, _, _, _, _⟩) (by rfl) 36 _ _ rfl #[.pointer (some ⟨rb, 0, none⟩)] rfl (run_call Tryz.func36 (by kernel_rfl) (by kernel_rfl)) ?_
          refine (c_err H).mono ?_
          rintro r v3 ⟨rfl, kb⟩
          replace D := grown_below D kb
          replace H := H.on kb
          replace LB := LB.on kb
          clear kb
          refine Or.inl ⟨.int .i64 ((filO l 0).2.2), rfl, ?_⟩
          simp only [Act.put, lzA, lzB, lzC]
          refine wl_yield (o := ⟨_, _, _, _, _, _⟩) (.bool false) (yt_neqE (by rfl) _ _ _ rfl (filO l 0).2.2 0 false rfl rfl (decide_eq_false (Decidable.not_not.2 hE))) ?_
          simp only [Act.put, lzA, lzB, lzC]
          refine wl_yield (o := ⟨_, _, _, _, _, _⟩) (.bool false) (yl_move (by rfl) _ rfl _ rfl) ?_
          simp only [Act.put, lzA, lzB, lzC]
          refine wl_yield (o := ⟨_, _, _, _, _, _⟩) (.pointer (some ⟨rb, 0, none⟩)) (yl_move (by rfl) _ rfl _ rfl) ?_
          simp only [Act.put, lzA, lzB, lzC]
          refine wt_call (o := ⟨_, _, _, _, _, _⟩) (by rfl) 37 _ _ rfl #[.pointer (some ⟨rb, 0, none⟩)] rfl (run_call Tryz.func37 (by kernel_rfl) (by kernel_rfl)) ?_
          refine (c_left H (Nat.le_trans (filO_tk.le l 0) hz)).mono ?_
          rintro r v4 ⟨rfl, kb⟩
          replace D := grown_below D kb
          replace H := H.on kb
          replace LB := LB.on kb
          clear kb
          refine Or.inl ⟨.int .i64 ((filO l 0).2.1.length : Nat), rfl, ?_⟩
          simp only [Act.put, lzA, lzB, lzC]
          refine wl_yield (o := ⟨_, _, _, _, _, _⟩) (.bool false) (yt_gtrI (by rfl) _ _ _ rfl (((filO l 0).2.1.length : Nat) : Int) 0 false rfl rfl (decide_eq_false (by omega))) ?_
          simp only [Act.put, lzA, lzB, lzC]
          refine wl_yield (o := ⟨_, _, _, _, _, _⟩) (.bool false) (yl_pickF (by rfl) _ _ _ rfl rfl _ rfl) ?_
          simp only [Act.put, lzA, lzB, lzC]
          refine wpList_nil ?_
          refine hK5 _ _ ?_
          clear hK5 K5
          refine wp_cond_false rfl ?_
          refine wp_skip ?_
          refine hK4 _ _ ?_
          clear hK4 K4
          refine wp_seq_k (fun K6 hK6 => ?_)
          refine wp_region_lit ?_
          refine wl_yield (o := ⟨_, _, _, _, _, _⟩) (.slice p n c) (yl_move (by rfl) _ rfl _ rfl) ?_
          simp only [Act.put, lzA, lzB, lzC]
          refine wl_yield (o := ⟨_, _, _, _, _, _⟩) (.slice p n c) (yl_assign (by rfl) _ rfl _ rfl) ?_
          simp only [Act.put, lzA, lzB, lzC]
          refine wl_yield (o := ⟨_, _, _, _, _, _⟩) (.int .i64 0) (yl_assign (by rfl) _ rfl _ rfl) ?_
          simp only [Act.put, lzA, lzB, lzC]
          refine wpList_nil ?_
          refine hK6 _ _ ?_
          clear hK6 K6
          refine wp_ret ?_
          go_ret2
          exact ⟨p, n, c, 0, rfl, (by rw [rdF, if_pos ⟨hE, by omega⟩]; exact ⟨LB.now, rfl⟩), below_none D⟩
  · go_enter Tryz.func61, Tryz.ntmps61
    refine wp_seq_k (fun K1 hK1 => ?_)
    refine wp_region_lit ?_
    refine wl_yield (o := ⟨_, _, _, _, _, _⟩) (.slice none 0 0) (yl_assign (by rfl) _ rfl _ rfl) ?_
    simp only [Act.put, lzA, lzB, lzC]
    refine wl_yield (o := ⟨_, _, _, _, _, _⟩) (.int .i64 0) (yl_assign (by rfl) _ rfl _ rfl) ?_
    simp only [Act.put, lzA, lzB, lzC]
    refine wpList_nil ?_
    refine hK1 _ _ ?_
    clear hK1 K1
    refine wp_seq_k (fun K2 hK2 => ?_)
    refine wp_region_lit ?_
    refine wl_yield (o := ⟨_, _, _, _, _, _⟩) (.string (bs l)) (yl_move (by rfl) _ rfl _ rfl) ?_
    simp only [Act.put, lzA, lzB, lzC]
    refine wt_call (o := ⟨_, _, _, _, _, _⟩) (by rfl) 33 _ _ rfl #[.string (bs l)] rfl (run_call Tryz.func33 (by kernel_rfl) (by kernel_rfl)) ?_
    refine (c_read l _).mono ?_
    rintro r v1 (⟨⟨rb, rfl, hrb, H⟩, kb⟩)
    · have ge_rb : w.heap.size ≤ rb := Nat.le_trans D.size hrb
      clear hrb
      replace D := grown_below D kb
      clear kb
      refine Or.inl ⟨.pointer (some ⟨rb, 0, none⟩), rfl, ?_⟩
      simp only [Act.put, lzA, lzB, lzC]
      refine wl_yield (o := ⟨_, _, _, _, _, _⟩) (.pointer (some ⟨rb, 0, none⟩)) (yl_assign (by rfl) _ rfl _ rfl) ?_
      simp only [Act.put, lzA, lzB, lzC]
      refine wpList_nil ?_
      refine hK2 _ _ ?_
      clear hK2 K2
      refine wp_seq_k (fun K3 hK3 => ?_)
      refine wp_region_lit ?_
      refine wl_yield (o := ⟨_, _, _, _, _, _⟩) (.func (.func 34) #[] #[]) (yl_move (by rfl) _ rfl _ rfl) ?_
      simp only [Act.put, lzA, lzB, lzC]
      refine wl_yield (o := ⟨_, _, _, _, _, _⟩) (.pointer (some ⟨rb, 0, none⟩)) (yl_move (by rfl) _ rfl _ rfl) ?_
      simp only [Act.put, lzA, lzB, lzC]
      have sz0 := D.size
      refine wt_callv (o := ⟨_, _, _, _, _, _⟩) (by rfl) 34 _ _ _ rfl #[] rfl #[.pointer (some ⟨rb, 0, none⟩)] rfl (run_call Tryz.func34 (by kernel_rfl) (by kernel_rfl)) ?_
      refine (takeFilter_any rb l 0 _ H hz).mono ?_
      rintro r v2 (⟨p, n, c, rfl, LB, hr, kg⟩)
      · replace H := hr
        clear hr
        replace D := gr_new D ge_rb kg
        clear kg
        replace LB : Lives _ _ (fun w'' => Bxs w'' (.slice p n c) (filO l 0).1) := LB
        refine Or.inl ⟨.slice p n c, rfl, ?_⟩
        simp only [Act.put, lzA, lzB, lzC]
        refine wl_yield (o := ⟨_, _, _, _, _, _⟩) (.slice p n c) (yl_assign (by rfl) _ rfl _ rfl) ?_
        simp only [Act.put, lzA, lzB, lzC]
        refine wpList_nil ?_
        refine hK3 _ _ ?_
        clear hK3 K3
        refine wp_seq_k (fun K4 hK4 => ?_)
        refine wp_seq_k (fun K5 hK5 => ?_)
        refine wp_region_lit ?_
        refine wl_yield (o := ⟨_, _, _, _, _, _⟩) (.pointer (some ⟨rb, 0, none⟩)) (yl_move (by rfl) _ rfl _ rfl) ?_
        simp only [Act.put, lzA, lzB, lzC]
        refine wt_call (o := ⟨_, _, _, _, _, _⟩) (by rfl) 36 _ _ rfl #[.pointer (some ⟨rb, 0, none⟩)] rfl (run_call Tryz.func36 (by kernel_rfl) (by kernel_rfl)) ?_
        refine (c_err H).mono ?_
        rintro r v3 ⟨rfl, kb⟩
        replace D := grown_below D kb
        replace H := H.on kb
        replace LB := LB.on kb
        clear kb
        refine Or.inl ⟨.int .i64 ((filO l 0).2.2), rfl, ?_⟩
        simp only [Act.put, lzA, lzB, lzC]
        refine wl_yield (o := ⟨_, _, _, _, _, _⟩) (.bool true) (yt_neqE (by rfl) _ _ _ rfl (filO l 0).2.2 0 true rfl rfl (decide_eq_true hE)) ?_
        simp only [Act.put, lzA, lzB, lzC]
        refine wl_yield (o := ⟨_, _, _, _, _, _⟩) (.bool true) (yl_move (by rfl) _ rfl _ rfl) ?_
        simp only [Act.put, lzA, lzB, lzC]
        with_reducible refine wl_yield (o := ⟨_, _, _, _, _, _⟩) undef (yl_undef (by kernel_rfl)) ?_
        simp only [Act.put, lzA, lzB, lzC]
        with_reducible refine wl_yield (o := ⟨_, _, _, _, _, _⟩) undef (yl_undef (by kernel_rfl)) ?_
        simp only [Act.put, lzA, lzB, lzC]
        with_reducible refine wl_yield (o := ⟨_, _, _, _, _, _⟩) undef (yl_undef (by kernel_rfl)) ?_
        simp only [Act.put, lzA, lzB, lzC]
        refine wl_yield (o := ⟨_, _, _, _, _, _⟩) (.bool true) (yl_pickT (by rfl) _ _ _ rfl rfl _ rfl) ?_
        simp only [Act.put, lzA, lzB, lzC]
        refine wpList_nil ?_
        refine hK5 _ _ ?_
        clear hK5 K5
        refine wp_cond_true rfl ?_
        refine wp_seq_k (fun K6 hK6 => ?_)
        refine wp_region_lit ?_
        refine wl_yield (o := ⟨_, _, _, _, _, _⟩) (.slice none 0 0) (yl_assign (by rfl) _ rfl _ rfl) ?_
        simp only [Act.put, lzA, lzB, lzC]
        refine wpList_nil ?_
        refine hK6 _ _ ?_
        clear hK6 K6
        refine wp_seq_k (fun K7 hK7 => ?_)
        refine wp_region_lit ?_
        refine wl_yield (o := ⟨_, _, _, _, _, _⟩) (.slice none 0 0) (yl_move (by rfl) _ rfl _ rfl) ?_
        simp only [Act.put, lzA, lzB, lzC]
        refine wl_yield (o := ⟨_, _, _, _, _, _⟩) (.slice none 0 0) (yl_assign (by rfl) _ rfl _ rfl) ?_
        simp only [Act.put, lzA, lzB, lzC]
        refine wl_yield (o := ⟨_, _, _, _, _, _⟩) (.int .i64 2) (yl_assign (by rfl) _ rfl _ rfl) ?_
        simp only [Act.put, lzA, lzB, lzC]
        refine wpList_nil ?_
        refine hK7 _ _ ?_
        clear hK7 K7
        refine wp_ret ?_
        go_ret2
        exact ⟨none, 0, 0, 2, rfl, (by rw [rdF, if_neg (fun k => hE k.1)]; exact ⟨bxs_nil _, rfl⟩), below_none D⟩
set_option maxHeartbeats 4000000 in
set_option maxRecDepth 100000 in
theorem readE_any (l : List UInt8) (w : World) (hz : l.length ≤ 1048576) :
    Calls Tryz.prog 68 #[.string (bs l), .func (.func 35) #[] #[]] w fun r w' => (r = .returned (.tuple #[evVal (rdE l).1, .int .i64 (rdE l).2]) ∧ Below w.heap.size w w') := by
  have D : w.grownBy w none := grown_refl _ _
  by_cases hE : (evO l 0).2.2 = 0
  · by_cases hL : 0 < (evO l 0).2.1.length
    · go_enter Tryz.func68, Tryz.ntmps68
      refine wp_seq_k (fun K1 hK1 => ?_)
      refine wp_region_lit ?_
      refine wt_allocEv (o := ⟨_, _, _, _, _, _⟩) (by rfl) rfl (fun v1 g1 hg G1 kb => ?_)
      simp only [Act.put, lzA, lzB, lzC]
      have ge_g1 : w.heap.size ≤ g1 := Nat.le_trans D.size hg
      clear hg
      replace D := grown_below D kb
      clear kb
      replace G1 : EvIn v1 g1 evZ := G1
      refine wl_yield (o := ⟨_, _, _, _, _, _⟩) (.int .i64 0) (yl_assign (by rfl) _ rfl _ rfl) ?_
      simp only [Act.put, lzA, lzB, lzC]
      refine wpList_nil ?_
      refine hK1 _ _ ?_
      clear hK1 K1
      refine wp_seq_k (fun K2 hK2 => ?_)
      refine wp_region_lit ?_
      refine wl_yield (o := ⟨_, _, _, _, _, _⟩) (.string (bs l)) (yl_move (by rfl) _ rfl _ rfl) ?_
      simp only [Act.put, lzA, lzB, lzC]
      refine wt_call (o := ⟨_, _, _, _, _, _⟩) (by rfl) 33 _ _ rfl #[.string (bs l)] rfl (run_call Tryz.func33 (by kernel_rfl) (by kernel_rfl)) ?_
      refine (c_read l _).mono ?_
      rintro r v2 (⟨⟨rb, rfl, hrb, H⟩, kb⟩)
      · have n_g1_rb : g1 ≠ rb := by have := lt_heap G1; omega
        have ge_rb : w.heap.size ≤ rb := Nat.le_trans D.size hrb
        clear hrb
        replace D := grown_below D kb
        replace G1 := heap_on G1 kb
        clear kb
        refine Or.inl ⟨.pointer (some ⟨rb, 0, none⟩), rfl, ?_⟩
        simp only [Act.put, lzA, lzB, lzC]
        refine wl_yield (o := ⟨_, _, _, _, _, _⟩) (.pointer (some ⟨rb, 0, none⟩)) (yl_assign (by rfl) _ rfl _ rfl) ?_
        simp only [Act.put, lzA, lzB, lzC]
        refine wpList_nil ?_
        refine hK2 _ _ ?_
        clear hK2 K2
        refine wp_seq_k (fun K3 hK3 => ?_)
        refine wp_region_lit ?_
        refine wl_yield (o := ⟨_, _, _, _, _, _⟩) (.func (.func 35) #[] #[]) (yl_move (by rfl) _ rfl _ rfl) ?_
        simp only [Act.put, lzA, lzB, lzC]
        refine wl_yield (o := ⟨_, _, _, _, _, _⟩) (.pointer (some ⟨rb, 0, none⟩)) (yl_move (by rfl) _ rfl _ rfl) ?_
        simp only [Act.put, lzA, lzB, lzC]
        refine wt_callv (o := ⟨_, _, _, _, _, _⟩) (by rfl) 35 _ _ _ rfl #[] rfl #[.pointer (some ⟨rb, 0, none⟩)] rfl (run_call Tryz.func35 (by kernel_rfl) (by kernel_rfl)) ?_
        refine (takeEvent_any rb l 0 _ H hz).mono ?_
        rintro r v3 (⟨rfl, hr, kg⟩)
        · replace H := hr
          clear hr
          replace D := gr_new D ge_rb kg
          replace G1 := heap_gr G1 kg n_g1_rb
          clear kg
          refine Or.inl ⟨evVal (evO l 0).1, rfl, ?_⟩
          simp only [Act.put, lzA, lzB, lzC]
          refine wt_allocEv (o := ⟨_, _, _, _, _, _⟩) (by rfl) rfl (fun v4 g4 hg G4 kb => ?_)
          simp only [Act.put, lzA, lzB, lzC]
          have n_rb_g4 : rb ≠ g4 := by have := H.lt; omega
          have n_g1_g4 : g1 ≠ g4 := by have := lt_heap G1; omega
          have ge_g4 : w.heap.size ≤ g4 := Nat.le_trans D.size hg
          clear hg
          replace D := grown_below D kb
          replace G1 := heap_on G1 kb
          replace H := H.on kb
          clear kb
          replace G4 : EvIn v4 g4 evZ := G4
          refine wt_putEv (o := ⟨_, _, _, _, _, _⟩) rfl _ _ rfl g4 rfl (evO l 0).1 rfl G4 rfl (fun v5 X kg => ?_)
          simp only [Act.put, lzA, lzB, lzC]
          replace D := gr_new D ge_g4 kg
          replace G1 := heap_gr G1 kg n_g1_g4
          replace H := H.gr kg n_rb_g4
          clear kg
          replace G4 : EvIn v5 g4 (evO l 0).1 := X
          clear X
          refine wpList_nil ?_
          refine hK3 _ _ ?_
          clear hK3 K3
          refine wp_seq_k (fun K4 hK4 => ?_)
          refine wp_seq_k (fun K5 hK5 => ?_)
          refine wp_region_lit ?_
          refine wl_yield (o := ⟨_, _, _, _, _, _⟩) (.pointer (some ⟨rb, 0, none⟩)) (yl_move (by rfl) _ rfl _ rfl) ?_
          simp only [Act.put, lzA, lzB, lzC]
          refine wt_call (o := ⟨_, _, _, _, _, _⟩) (by rfl) 36 _ _ rfl #[.pointer (some ⟨rb, 0, none⟩)] rfl (run_call Tryz.func36 (by kernel_rfl) (by kernel_rfl)) ?_
          refine (c_err H).mono ?_
          rintro r v6 ⟨rfl, kb⟩
          replace D := grown_below D kb
          replace G1 := heap_on G1 kb
          replace H := H.on kb
          replace G4 := heap_on G4 kb
          clear kb
          refine Or.inl ⟨.int .i64 ((evO l 0).2.2), rfl, ?_⟩
          simp only [Act.put, lzA, lzB, lzC]
          refine wl_yield (o := ⟨_, _, _, _, _, _⟩) (.bool false) (yt_neqE (by rfl) _ _ _ rfl (evO l 0).2.2 0 false rfl rfl (decide_eq_false (Decidable.not_not.2 hE))) ?_
          simp only [Act.put, lzA, lzB, lzC]
          refine wl_yield (o := ⟨_, _, _, _, _, _⟩) (.bool false) (yl_move (by rfl) _ rfl _ rfl) ?_
          simp only [Act.put, lzA, lzB, lzC]
          refine wl_yield (o := ⟨_, _, _, _, _, _⟩) (.pointer (some ⟨rb, 0, none⟩)) (yl_move (by rfl) _ rfl _ rfl) ?_
          simp only [Act.put, lzA, lzB, lzC]
          refine wt_call (o := ⟨_, _, _, _, _, _⟩) (by rfl) 37 _ _ rfl #[.pointer (some ⟨rb, 0, none⟩)] rfl (run_call Tryz.func37 (by kernel_rfl) (by kernel_rfl)) ?_
          refine (c_left H (Nat.le_trans (evO_tk.le l 0) hz)).mono ?_
          rintro r v7 ⟨rfl, kb⟩
          replace D := grown_below D kb
          replace G1 := heap_on G1 kb
          replace H := H.on kb
          replace G4 := heap_on G4 kb
          clear kb
          refine Or.inl ⟨.int .i64 ((evO l 0).2.1.length : Nat), rfl, ?_⟩
          simp only [Act.put, lzA, lzB, lzC]
          refine wl_yield (o := ⟨_, _, _, _, _, _⟩) (.bool true) (yt_gtrI (by rfl) _ _ _ rfl (((evO l 0).2.1.length : Nat) : Int) 0 true rfl rfl (decide_eq_true (by omega))) ?_
          simp only [Act.put, lzA, lzB, lzC]
          refine wl_yield (o := ⟨_, _, _, _, _, _⟩) (.bool true) (yl_pickF (by rfl) _ _ _ rfl rfl _ rfl) ?_
          simp only [Act.put, lzA, lzB, lzC]
          refine wpList_nil ?_
          refine hK5 _ _ ?_
          clear hK5 K5
          refine wp_cond_true rfl ?_
          refine wp_seq_k (fun K6 hK6 => ?_)
          refine wp_region_lit ?_
          refine wt_allocEv (o := ⟨_, _, _, _, _, _⟩) (by rfl) rfl (fun v8 g8 hg G8 kb => ?_)
          simp only [Act.put, lzA, lzB, lzC]
          have n_rb_g8 : rb ≠ g8 := by have := H.lt; omega
          have n_g1_g8 : g1 ≠ g8 := by have := lt_heap G1; omega
          have n_g4_g8 : g4 ≠ g8 := by have := lt_heap G4; omega
          have ge_g8 : w.heap.size ≤ g8 := Nat.le_trans D.size hg
          clear hg
          replace D := grown_below D kb
          replace G1 := heap_on G1 kb
          replace H := H.on kb
          replace G4 := heap_on G4 kb
          clear kb
          replace G8 : EvIn v8 g8 evZ := G8
          refine wpList_nil ?_
          refine hK6 _ _ ?_
          clear hK6 K6
          refine wp_seq_k (fun K7 hK7 => ?_)
          refine wp_region_lit ?_
          refine wl_yield (o := ⟨_, _, _, _, _, _⟩) (evVal evZ) (yl_ev (by rfl) _ rfl _ 0 rfl _ _ _ _ _ _ _ _ _ _ _ _ (fun _ h => by subst h; exact EvIn.cells G8)) ?_
          simp only [Act.put, lzA, lzB, lzC]
          refine wt_putEv (o := ⟨_, _, _, _, _, _⟩) rfl _ _ rfl g1 rfl evZ rfl G1 rfl (fun v9 X kg => ?_)
          simp only [Act.put, lzA, lzB, lzC]
          replace D := gr_new D ge_g1 kg
          replace H := H.gr kg (Ne.symm n_g1_rb)
          replace G4 := heap_gr G4 kg (Ne.symm n_g1_g4)
          replace G8 := heap_gr G8 kg (Ne.symm n_g1_g8)
          clear kg
          replace G1 : EvIn v9 g1 evZ := X
          clear X
          refine wl_yield (o := ⟨_, _, _, _, _, _⟩) (.int .i64 2) (yl_assign (by rfl) _ rfl _ rfl) ?_
          simp only [Act.put, lzA, lzB, lzC]
          refine wpList_nil ?_
          refine hK7 _ _ ?_
          clear hK7 K7
          refine wp_ret ?_
          try simp only [Exit.inBlock, Exit.then]
          rw [show rdE l = (evZ, 2) from by rw [rdE, if_neg (fun k => by have := k.2; omega)]]
          refine bodyPost_ret (results_cs rfl _ _ g1 _ (.int .i64 2) rfl rfl (run_loadVar_row _ _ _ _ _ _ _ G1 Tryz.underlying44 rfl (by rw [infoEv12]; rfl))) rfl ⟨rfl, below_none D⟩
    · go_enter Tryz.func68, Tryz.ntmps68
      refine wp_seq_k (fun K1 hK1 => ?_)
      refine wp_region_lit ?_
      refine wt_allocEv (o := ⟨_, _, _, _, _, _⟩) (by rfl) rfl (fun v1 g1 hg G1 kb => ?_)
      simp only [Act.put, lzA, lzB, lzC]
      have ge_g1 : w.heap.size ≤ g1 := Nat.le_trans D.size hg
      clear hg
      replace D := grown_below D kb
      clear kb
      replace G1 : EvIn v1 g1 evZ := G1
      refine wl_yield (o := ⟨_, _, _, _, _, _⟩) (.int .i64 0) (yl_assign (by rfl) _ rfl _ rfl) ?_
      simp only [Act.put, lzA, lzB, lzC]
      refine wpList_nil ?_
      refine hK1 _ _ ?_
      clear hK1 K1
      refine wp_seq_k (fun K2 hK2 => ?_)
      refine wp_region_lit ?_
      refine wl_yield (o := ⟨_, _, _, _, _, _⟩) (.string (bs l)) (yl_move (by rfl) _ rfl _ rfl) ?_
      simp only [Act.put, lzA, lzB, lzC]
      refine wt_call (o := ⟨_, _, _, _, _, _⟩) (by rfl) 33 _ _ rfl #[.string (bs l)] rfl (run_call Tryz.func33 (by kernel_rfl) (by kernel_rfl)) ?_
      refine (c_read l _).mono ?_
      rintro r v2 (⟨⟨rb, rfl, hrb, H⟩, kb⟩)
      · have n_g1_rb : g1 ≠ rb := by have := lt_heap G1; omega
        have ge_rb : w.heap.size ≤ rb := Nat.le_trans D.size hrb
        clear hrb
        replace D := grown_below D kb
        replace G1 := heap_on G1 kb
        clear kb
        refine Or.inl ⟨.pointer (some ⟨rb, 0, none⟩), rfl, ?_⟩
        simp only [Act.put, lzA, lzB, lzC]
        refine wl_yield (o := ⟨_, _, _, _, _, _⟩) (.pointer (some ⟨rb, 0, none⟩)) (yl_assign (by rfl) _ rfl _ rfl) ?_
        simp only [Act.put, lzA, lzB, lzC]
        refine wpList_nil ?_
        refine hK2 _ _ ?_
        clear hK2 K2
        refine wp_seq_k (fun K3 hK3 => ?_)
        refine wp_region_lit ?_
        refine wl_yield (o := ⟨_, _, _, _, _, _⟩) (.func (.func 35) #[] #[]) (yl_move (by rfl) _ rfl _ rfl) ?_
        simp only [Act.put, lzA, lzB, lzC]
        refine wl_yield (o := ⟨_, _, _, _, _, _⟩) (.pointer (some ⟨rb, 0, none⟩)) (yl_move (by rfl) _ rfl _ rfl) ?_
        simp only [Act.put, lzA, lzB, lzC]
        refine wt_callv (o := ⟨_, _, _, _, _, _⟩) (by rfl) 35 _ _ _ rfl #[] rfl #[.pointer (some ⟨rb, 0, none⟩)] rfl (run_call Tryz.func35 (by kernel_rfl) (by kernel_rfl)) ?_
        refine (takeEvent_any rb l 0 _ H hz).mono ?_
        rintro r v3 (⟨rfl, hr, kg⟩)
        · replace H := hr
          clear hr
          replace D := gr_new D ge_rb kg
          replace G1 := heap_gr G1 kg n_g1_rb
          clear kg
          refine Or.inl ⟨evVal (evO l 0).1, rfl, ?_⟩
          simp only [Act.put, lzA, lzB, lzC]
          refine wt_allocEv (o := ⟨_, _, _, _, _, _⟩) (by rfl) rfl (fun v4 g4 hg G4 kb => ?_)
          simp only [Act.put, lzA, lzB, lzC]
          have n_rb_g4 : rb ≠ g4 := by have := H.lt; omega
          have n_g1_g4 : g1 ≠ g4 := by have := lt_heap G1; omega
          have ge_g4 : w.heap.size ≤ g4 := Nat.le_trans D.size hg
          clear hg
          replace D := grown_below D kb
          replace G1 := heap_on G1 kb
          replace H := H.on kb
          clear kb
          replace G4 : EvIn v4 g4 evZ := G4
          refine wt_putEv (o := ⟨_, _, _, _, _, _⟩) rfl _ _ rfl g4 rfl (evO l 0).1 rfl G4 rfl (fun v5 X kg => ?_)
          simp only [Act.put, lzA, lzB, lzC]
          replace D := gr_new D ge_g4 kg
          replace G1 := heap_gr G1 kg n_g1_g4
          replace H := H.gr kg n_rb_g4
          clear kg
          replace G4 : EvIn v5 g4 (evO l 0).1 := X
          clear X
          refine wpList_nil ?_
          refine hK3 _ _ ?_
          clear hK3 K3
          refine wp_seq_k (fun K4 hK4 => ?_)
          refine wp_seq_k (fun K5 hK5 => ?_)
          refine wp_region_lit ?_
          refine wl_yield (o := ⟨_, _, _, _, _, _⟩) (.pointer (some ⟨rb, 0, none⟩)) (yl_move (by rfl) _ rfl _ rfl) ?_
          simp only [Act.put, lzA, lzB, lzC]
          refine wt_call (o := ⟨_, _, _, _, _, _⟩) (by rfl) 36 _ _ rfl #[.pointer (some ⟨rb, 0, none⟩)] rfl (run_call Tryz.func36 (by kernel_rfl) (by kernel_rfl)) ?_
          refine (c_err H).mono ?_
          rintro r v6 ⟨rfl, kb⟩
          replace D := grown_below D kb
          replace G1 := heap_on G1 kb
          replace H := H.on kb
          replace G4 := heap_on G4 kb
          clear kb
          refine Or.inl ⟨.int .i64 ((evO l 0).2.2), rfl, ?_⟩
          simp only [Act.put, lzA, lzB, lzC]
          refine wl_yield (o := ⟨_, _, _, _, _, _⟩) (.bool false) (yt_neqE (by rfl) _ _ _ rfl (evO l 0).2.2 0 false rfl rfl (decide_eq_false (Decidable.not_not.2 hE))) ?_
          simp only [Act.put, lzA, lzB, lzC]
          refine wl_yield (o := ⟨_, _, _, _, _, _⟩) (.bool false) (yl_move (by rfl) _ rfl _ rfl) ?_
          simp only [Act.put, lzA, lzB, lzC]
          refine wl_yield (o := ⟨_, _, _, _, _, _⟩) (.pointer (some ⟨rb, 0, none⟩)) (yl_move (by rfl) _ rfl _ rfl) ?_
          simp only [Act.put, lzA, lzB, lzC]
          refine wt_call (o := ⟨_, _, _, _, _, _⟩) (by rfl) 37 _ _ rfl #[.pointer (some ⟨rb, 0, none⟩)] rfl (run_call Tryz.func37 (by kernel_rfl) (by kernel_rfl)) ?_
          refine (c_left H (Nat.le_trans (evO_tk.le l 0) hz)).mono ?_
          rintro r v7 ⟨rfl, kb⟩
          replace D := grown_below D kb
          replace G1 := heap_on G1 kb
          replace H := H.on kb
          replace G4 := heap_on G4 kb
          clear kb
          refine Or.inl ⟨.int .i64 ((evO l 0).2.1.length : Nat), rfl, ?_⟩
          simp only [Act.put, lzA, lzB, lzC]
          refine wl_yield (o := ⟨_, _, _, _, _, _⟩) (.bool false) (yt_gtrI (by rfl) _ _ _ rfl (((evO l 0).2.1.length : Nat) : Int) 0 false rfl rfl (decide_eq_false (by omega))) ?_
          simp only [Act.put, lzA, lzB, lzC]
          refine wl_yield (o := ⟨_, _, _, _, _, _⟩) (.bool false) (yl_pickF (by rfl) _ _ _ rfl rfl _ rfl) ?_
          simp only [Act.put, lzA, lzB, lzC]
          refine wpList_nil ?_
          refine hK5 _ _ ?_
          clear hK5 K5
          refine wp_cond_false rfl ?_
          refine wp_skip ?_
          refine hK4 _ _ ?_
          clear hK4 K4
          refine wp_seq_k (fun K6 hK6 => ?_)
          refine wp_region_lit ?_
          refine wl_yield (o := ⟨_, _, _, _, _, _⟩) (evVal (evO l 0).1) (yl_ev (by rfl) _ rfl _ 0 rfl _ _ _ _ _ _ _ _ _ _ _ _ (fun _ h => by subst h; exact EvIn.cells G4)) ?_
          simp only [Act.put, lzA, lzB, lzC]
          refine wt_putEv (o := ⟨_, _, _, _, _, _⟩) rfl _ _ rfl g1 rfl (evO l 0).1 rfl G1 rfl (fun v8 X kg => ?_)
          simp only [Act.put, lzA, lzB, lzC]
          replace D := gr_new D ge_g1 kg
          replace H := H.gr kg (Ne.symm n_g1_rb)
          replace G4 := heap_gr G4 kg (Ne.symm n_g1_g4)
          clear kg
          replace G1 : EvIn v8 g1 (evO l 0).1 := X
          clear X
          refine wl_yield (o := ⟨_, _, _, _, _, _⟩) (.int .i64 0) (yl_assign (by rfl) _ rfl _ rfl) ?_
          simp only [Act.put, lzA, lzB, lzC]
          refine wpList_nil ?_
          refine hK6 _ _ ?_
          clear hK6 K6
          refine wp_ret ?_
          try simp only [Exit.inBlock, Exit.then]
          rw [show rdE l = ((evO l 0).1, 0) from by rw [rdE, if_pos ⟨hE, by omega⟩]]
          refine bodyPost_ret (results_cs rfl _ _ g1 _ (.int .i64 0) rfl rfl (run_loadVar_row _ _ _ _ _ _ _ G1 Tryz.underlying44 rfl (by rw [infoEv12]; rfl))) rfl ⟨rfl, below_none D⟩
  · go_enter Tryz.func68, Tryz.ntmps68
    refine wp_seq_k (fun K1 hK1 => ?_)
    refine wp_region_lit ?_
    refine wt_allocEv (o := ⟨_, _, _, _, _, _⟩) (by rfl) rfl (fun v1 g1 hg G1 kb => ?_)
    simp only [Act.put, lzA, lzB, lzC]
    have ge_g1 : w.heap.size ≤ g1 := Nat.le_trans D.size hg
    clear hg
    replace D := grown_below D kb
    clear kb
    replace G1 : EvIn v1 g1 evZ := G1
    refine wl_yield (o := ⟨_, _, _, _, _, _⟩) (.int .i64 0) (yl_assign (by rfl) _ rfl _ rfl) ?_
    simp only [Act.put, lzA, lzB, lzC]
    refine wpList_nil ?_
    refine hK1 _ _ ?_
    clear hK1 K1
    refine wp_seq_k (fun K2 hK2 => ?_)
    refine wp_region_lit ?_
    refine wl_yield (o := ⟨_, _, _, _, _, _⟩) (.string (bs l)) (yl_move (by rfl) _ rfl _ rfl) ?_
    simp only [Act.put, lzA, lzB, lzC]
    refine wt_call (o := ⟨_, _, _, _, _, _⟩) (by rfl) 33 _ _ rfl #[.string (bs l)] rfl (run_call Tryz.func33 (by kernel_rfl) (by kernel_rfl)) ?_
    refine (c_read l _).mono ?_
    rintro r v2 (⟨⟨rb, rfl, hrb, H⟩, kb⟩)
    · have n_g1_rb : g1 ≠ rb := by have := lt_heap G1; omega
      have ge_rb : w.heap.size ≤ rb := Nat.le_trans D.size hrb
      clear hrb
      replace D := grown_below D kb
      replace G1 := heap_on G1 kb
      clear kb
      refine Or.inl ⟨.pointer (some ⟨rb, 0, none⟩), rfl, ?_⟩
      simp only [Act.put, lzA, lzB, lzC]
      refine wl_yield (o := ⟨_, _, _, _, _, _⟩) (.pointer (some ⟨rb, 0, none⟩)) (yl_assign (by rfl) _ rfl _ rfl) ?_
      simp only [Act.put, lzA, lzB, lzC]
      refine wpList_nil ?_
      refine hK2 _ _ ?_
      clear hK2 K2
      refine wp_seq_k (fun K3 hK3 => ?_)
      refine wp_region_lit ?_
      refine wl_yield (o := ⟨_, _, _, _, _, _⟩) (.func (.func 35) #[] #[]) (yl_move (by rfl) _ rfl _ rfl) ?_
      simp only [Act.put, lzA, lzB, lzC]
      refine wl_yield (o := ⟨_, _, _, _, _, _⟩) (.pointer (some ⟨rb, 0, none⟩)) (yl_move (by rfl) _ rfl _ rfl) ?_
      simp only [Act.put, lzA, lzB, lzC]
      refine wt_callv (o := ⟨_, _, _, _, _, _⟩) (by rfl) 35 _ _ _ rfl #[] rfl #[.pointer (some ⟨rb, 0, none⟩)] rfl (run_call Tryz.func35 (by kernel_rfl) (by kernel_rfl)) ?_
      refine (takeEvent_any rb l 0 _ H hz).mono ?_
      rintro r v3 (⟨rfl, hr, kg⟩)
      · replace H := hr
        clear hr
        replace D := gr_new D ge_rb kg
        replace G1 := heap_gr G1 kg n_g1_rb
        clear kg
        refine Or.inl ⟨evVal (evO l 0).1, rfl, ?_⟩
        simp only [Act.put, lzA, lzB, lzC]
        refine wt_allocEv (o := ⟨_, _, _, _, _, _⟩) (by rfl) rfl (fun v4 g4 hg G4 kb => ?_)
        simp only [Act.put, lzA, lzB, lzC]
        have n_rb_g4 : rb ≠ g4 := by have := H.lt; omega
        have n_g1_g4 : g1 ≠ g4 := by have := lt_heap G1; omega
        have ge_g4 : w.heap.size ≤ g4 := Nat.le_trans D.size hg
        clear hg
        replace D := grown_below D kb
        replace G1 := heap_on G1 kb
        replace H := H.on kb
        clear kb
        replace G4 : EvIn v4 g4 evZ := G4
        refine wt_putEv (o := ⟨_, _, _, _, _, _⟩) rfl _ _ rfl g4 rfl (evO l 0).1 rfl G4 rfl (fun v5 X kg => ?_)
        simp only [Act.put, lzA, lzB, lzC]
        replace D := gr_new D ge_g4 kg
        replace G1 := heap_gr G1 kg n_g1_g4
        replace H := H.gr kg n_rb_g4
        clear kg
        replace G4 : EvIn v5 g4 (evO l 0).1 := X
        clear X
        refine wpList_nil ?_
        refine hK3 _ _ ?_
        clear hK3 K3
        refine wp_seq_k (fun K4 hK4 => ?_)
        refine wp_seq_k (fun K5 hK5 => ?_)
        refine wp_region_lit ?_
        refine wl_yield (o := ⟨_, _, _, _, _, _⟩) (.pointer (some ⟨rb, 0, none⟩)) (yl_move (by rfl) _ rfl _ rfl) ?_
        simp only [Act.put, lzA, lzB, lzC]
        refine wt_call (o := ⟨_, _, _, _, _, _⟩) (by rfl) 36 _ _ rfl #[.pointer (some ⟨rb, 0, none⟩)] rfl (run_call Tryz.func36 (by kernel_rfl) (by kernel_rfl)) ?_
        refine (c_err H).mono ?_
        rintro r v6 ⟨rfl, kb⟩
        replace D := grown_below D kb
        replace G1 := heap_on G1 kb
        replace H := H.on kb
        replace G4 := heap_on G4 kb
        clear kb
        refine Or.inl ⟨.int .i64 ((evO l 0).2.2), rfl, ?_⟩
        simp only [Act.put, lzA, lzB, lzC]
        refine wl_yield (o := ⟨_, _, _, _, _, _⟩) (.bool true) (yt_neqE (by rfl) _ _ _ rfl (evO l 0).2.2 0 true rfl rfl (decide_eq_true hE)) ?_
        simp only [Act.put, lzA, lzB, lzC]
        refine wl_yield (o := ⟨_, _, _, _, _, _⟩) (.bool true) (yl_move (by rfl) _ rfl _ rfl) ?_
        simp only [Act.put, lzA, lzB, lzC]
        with_reducible refine wl_yield (o := ⟨_, _, _, _, _, _⟩) undef (yl_undef (by kernel_rfl)) ?_
        simp only [Act.put, lzA, lzB, lzC]
        with_reducible refine wl_yield (o := ⟨_, _, _, _, _, _⟩) undef (yl_undef (by kernel_rfl)) ?_
        simp only [Act.put, lzA, lzB, lzC]
        with_reducible refine wl_yield (o := ⟨_, _, _, _, _, _⟩) undef (yl_undef (by kernel_rfl)) ?_
        simp only [Act.put, lzA, lzB, lzC]
        refine wl_yield (o := ⟨_, _, _, _, _, _⟩) (.bool true) (yl_pickT (by rfl) _ _ _ rfl rfl _ rfl) ?_
        simp only [Act.put, lzA, lzB, lzC]
        refine wpList_nil ?_
        refine hK5 _ _ ?_
        clear hK5 K5
        refine wp_cond_true rfl ?_
        refine wp_seq_k (fun K6 hK6 => ?_)
        refine wp_region_lit ?_
        refine wt_allocEv (o := ⟨_, _, _, _, _, _⟩) (by rfl) rfl (fun v7 g7 hg G7 kb => ?_)
        simp only [Act.put, lzA, lzB, lzC]
        have n_rb_g7 : rb ≠ g7 := by have := H.lt; omega
        have n_g1_g7 : g1 ≠ g7 := by have := lt_heap G1; omega
        have n_g4_g7 : g4 ≠ g7 := by have := lt_heap G4; omega
        have ge_g7 : w.heap.size ≤ g7 := Nat.le_trans D.size hg
        clear hg
        replace D := grown_below D kb
        replace G1 := heap_on G1 kb
        replace H := H.on kb
        replace G4 := heap_on G4 kb
        clear kb
        replace G7 : EvIn v7 g7 evZ := G7
        refine wpList_nil ?_
        refine hK6 _ _ ?_
        clear hK6 K6
        refine wp_seq_k (fun K7 hK7 => ?_)
        refine wp_region_lit ?_
        refine wl_yield (o := ⟨_, _, _, _, _, _⟩) (evVal evZ) (yl_ev (by rfl) _ rfl _ 0 rfl _ _ _ _ _ _ _ _ _ _ _ _ (fun _ h => by subst h; exact EvIn.cells G7)) ?_
        simp only [Act.put, lzA, lzB, lzC]
        refine wt_putEv (o := ⟨_, _, _, _, _, _⟩) rfl _ _ rfl g1 rfl evZ rfl G1 rfl (fun v8 X kg => ?_)
        simp only [Act.put, lzA, lzB, lzC]
        replace D := gr_new D ge_g1 kg
        replace H := H.gr kg (Ne.symm n_g1_rb)
        replace G4 := heap_gr G4 kg (Ne.symm n_g1_g4)
        replace G7 := heap_gr G7 kg (Ne.symm n_g1_g7)
        clear kg
        replace G1 : EvIn v8 g1 evZ := X
        clear X
        refine wl_yield (o := ⟨_, _, _, _, _, _⟩) (.int .i64 2) (yl_assign (by rfl) _ rfl _ rfl) ?_
        simp only [Act.put, lzA, lzB, lzC]
        refine wpList_nil ?_
        refine hK7 _ _ ?_
        clear hK7 K7
        refine wp_ret ?_
        try simp only [Exit.inBlock, Exit.then]
        rw [show rdE l = (evZ, 2) from by rw [rdE, if_neg (fun k => hE k.1)]]
        refine bodyPost_ret (results_cs rfl _ _ g1 _ (.int .i64 2) rfl rfl (run_loadVar_row _ _ _ _ _ _ _ G1 Tryz.underlying44 rfl (by rw [infoEv12]; rfl))) rfl ⟨rfl, below_none D⟩
set_option maxHeartbeats 4000000 in
set_option maxRecDepth 100000 in
theorem readFilter_any (l : List UInt8) (w : World) (hz : l.length ≤ 1048576) :
    Calls Tryz.prog 23 #[.string (bs l)] w fun r w' => (∃ (p : Option Addr) (n c : Nat) (z : Int), r = .returned (.tuple #[.slice p n c, .int .i64 z]) ∧ (Bxs w' (.slice p n c) (rdF l).1 ∧ z = (rdF l).2) ∧ Below w.heap.size w w') := by
  have D : w.grownBy w none := grown_refl _ _
  go_enter Tryz.func23, Tryz.ntmps23
  refine wp_seq_k (fun K1 hK1 => ?_)
  refine wp_region_lit ?_
  refine wl_yield (o := ⟨_, _, _, _, _, _⟩) (.slice none 0 0) (yl_assign (by rfl) _ rfl _ rfl) ?_
  simp only [Act.put, lzA, lzB, lzC]
  refine wl_yield (o := ⟨_, _, _, _, _, _⟩) (.int .i64 0) (yl_assign (by rfl) _ rfl _ rfl) ?_
  simp only [Act.put, lzA, lzB, lzC]
  refine wpList_nil ?_
  refine hK1 _ _ ?_
  clear hK1 K1
  refine wp_seq_k (fun K2 hK2 => ?_)
  refine wp_region_lit ?_
  refine wl_yield (o := ⟨_, _, _, _, _, _⟩) (.string (bs l)) (yl_move (by rfl) _ rfl _ rfl) ?_
  simp only [Act.put, lzA, lzB, lzC]
  refine wt_call (o := ⟨_, _, _, _, _, _⟩) (by rfl) 61 _ _ rfl #[.string (bs l), .func (.func 34) #[] #[]] rfl (run_call Tryz.func61 (by kernel_rfl) (by kernel_rfl)) ?_
  refine (readF_any l _ hz).mono ?_
  rintro r v1 (⟨p, n, c, z, rfl, ⟨HX, hzz⟩, kb⟩)
  · replace D := grown_below D kb
    clear kb
    refine Or.inl ⟨.tuple #[.slice p n c, .int .i64 z], rfl, ?_⟩
    simp only [Act.put, lzA, lzB, lzC]
    refine wl_yield (o := ⟨_, _, _, _, _, _⟩) (.slice p n c) (yl_extract0 (by rfl) _ rfl _ _ rfl) ?_
    simp only [Act.put, lzA, lzB, lzC]
    refine wl_yield (o := ⟨_, _, _, _, _, _⟩) (.int .i64 z) (yl_extract1 (by rfl) _ rfl _ _ rfl) ?_
    simp only [Act.put, lzA, lzB, lzC]
    refine wl_yield (o := ⟨_, _, _, _, _, _⟩) (.slice p n c) (yl_assign (by rfl) _ rfl _ rfl) ?_
    simp only [Act.put, lzA, lzB, lzC]
    refine wl_yield (o := ⟨_, _, _, _, _, _⟩) (.int .i64 z) (yl_assign (by rfl) _ rfl _ rfl) ?_
    simp only [Act.put, lzA, lzB, lzC]
    refine wpList_nil ?_
    refine hK2 _ _ ?_
    clear hK2 K2
    refine wp_ret ?_
    go_ret2
    exact ⟨p, n, c, z, rfl, ⟨HX, hzz⟩, below_none D⟩
set_option maxHeartbeats 4000000 in
set_option maxRecDepth 100000 in
theorem readEvent8_any (l : List UInt8) (w : World) (hz : l.length ≤ 1048576) :
    Calls Tryz.prog 27 #[.string (bs l)] w fun r w' => (r = .returned (.tuple #[evVal (rdE l).1, .int .i64 (rdE l).2]) ∧ Below w.heap.size w w') := by
  have D : w.grownBy w none := grown_refl _ _
  go_enter Tryz.func27, Tryz.ntmps27
  refine wp_seq_k (fun K1 hK1 => ?_)
  refine wp_region_lit ?_
  refine wt_allocEv (o := ⟨_, _, _, _, _, _⟩) (by rfl) rfl (fun v1 g1 hg G1 kb => ?_)
  simp only [Act.put, lzA, lzB, lzC]
  have ge_g1 : w.heap.size ≤ g1 := Nat.le_trans D.size hg
  clear hg
  replace D := grown_below D kb
  clear kb
  replace G1 : EvIn v1 g1 evZ := G1
  refine wl_yield (o := ⟨_, _, _, _, _, _⟩) (.int .i64 0) (yl_assign (by rfl) _ rfl _ rfl) ?_
  simp only [Act.put, lzA, lzB, lzC]
  refine wpList_nil ?_
  refine hK1 _ _ ?_
  clear hK1 K1
  refine wp_seq_k (fun K2 hK2 => ?_)
  refine wp_region_lit ?_
  refine wl_yield (o := ⟨_, _, _, _, _, _⟩) (.string (bs l)) (yl_move (by rfl) _ rfl _ rfl) ?_
  simp only [Act.put, lzA, lzB, lzC]
  refine wt_call (o := ⟨_, _, _, _, _, _⟩) (by rfl) 68 _ _ rfl #[.string (bs l), .func (.func 35) #[] #[]] rfl (run_call Tryz.func68 (by kernel_rfl) (by kernel_rfl)) ?_
  refine (readE_any l _ hz).mono ?_
  rintro r v2 (⟨rfl, kb⟩)
  · replace D := grown_below D kb
    replace G1 := heap_on G1 kb
    clear kb
    refine Or.inl ⟨.tuple #[evVal (rdE l).1, .int .i64 ((rdE l).2)], rfl, ?_⟩
    simp only [Act.put, lzA, lzB, lzC]
    refine wl_yield (o := ⟨_, _, _, _, _, _⟩) (evVal (rdE l).1) (yl_extract0 (by rfl) _ rfl _ _ rfl) ?_
    simp only [Act.put, lzA, lzB, lzC]
    refine wl_yield (o := ⟨_, _, _, _, _, _⟩) (.int .i64 ((rdE l).2)) (yl_extract1 (by rfl) _ rfl _ _ rfl) ?_
    simp only [Act.put, lzA, lzB, lzC]
    refine wt_putEv (o := ⟨_, _, _, _, _, _⟩) rfl _ _ rfl g1 rfl (rdE l).1 rfl G1 rfl (fun v3 X kg => ?_)
    simp only [Act.put, lzA, lzB, lzC]
    replace D := gr_new D ge_g1 kg
    clear kg
    replace G1 : EvIn v3 g1 (rdE l).1 := X
    clear X
    refine wl_yield (o := ⟨_, _, _, _, _, _⟩) (.int .i64 ((rdE l).2)) (yl_assign (by rfl) _ rfl _ rfl) ?_
    simp only [Act.put, lzA, lzB, lzC]
    refine wpList_nil ?_
    refine hK2 _ _ ?_
    clear hK2 K2
    refine wp_ret ?_
    try simp only [Exit.inBlock, Exit.then]
    refine bodyPost_ret (results_cs rfl _ _ g1 _ (.int .i64 (rdE l).2) rfl rfl (run_loadVar_row _ _ _ _ _ _ _ G1 Tryz.underlying44 rfl (by rw [infoEv12]; rfl))) rfl ⟨rfl, below_none D⟩
end Go.Proofs.YtlmdcaemjaldfaaGreat
namespace Go.Proofs.YtlmdcaemjaldfaaGreat
open Go.RowKit
section
variable {ops : Array Oper} {Q : Exit → Act → World → Prop} {S : World → Prop} {o : Oper} {a : Act} {i : Nat} {K : Act → World → Prop} {w : World}
end
end Go.Proofs.YtlmdcaemjaldfaaGreat
namespace Go.Proofs.YtlmdcaemjaldfaaGreat
open Go.RowKit
end Go.Proofs.YtlmdcaemjaldfaaGreat
namespace Go.Proofs.YtlmdcaemjaldfaaGreat
open Go.RowKit
theorem Tk.mono {α : Type} {f : TkF α} {en : α → List UInt8} {P : α → Prop} (h : Tk f en P) {k m : Nat} {l : List UInt8} {e : Int} (hk : k ≤ m) (hn : (iterO f k l e).2.2 ≠ 0) : (iterO f m l e).2.2 ≠ 0 := by
  induction m with
  | zero => rw [show (0 : Nat) = k by omega]; exact hn
  | succ m ih =>
    by_cases hkm : k ≤ m
    · rw [iterO_s2]; exact h.stick _ _ (ih hkm)
    · rw [show m + 1 = k by omega]; exact hn
theorem Kept.skip {m g : Nat} {w0 W W' : World} (h : Kept m w0 W) (k : W.grownBy W' (some g)) (hg : w0.heap.size ≤ g) : Kept m w0 W' :=
  ⟨Nat.le_trans h.size k.size, fun i hm hi => (k.block i (Nat.lt_of_lt_of_le hi h.size) (by intro e; injection e with e; omega)).trans (h.block i hm hi)⟩
end Go.Proofs.YtlmdcaemjaldfaaGreat
namespace Go.Proofs.YtlmdcaemjaldfaaGreat
open Go.RowKit
section
variable {ops : Array Oper} {Q : Exit → Act → World → Prop} {S : World → Prop} {o : Oper} {a : Act}
end
end Go.Proofs.YtlmdcaemjaldfaaGreat
namespace Go.Proofs.YtlmdcaemjaldfaaGreat
open Go.RowKit
set_option maxRecDepth 100000
theorem cV : Tryz.prog.cellsOf 42 = 3 := by kernel_rfl
theorem cE : Tryz.prog.cellsOf 44 = 12 := by kernel_rfl
theorem cI : Tryz.prog.cellsOf 3 = 1 := by kernel_rfl
theorem cS : Tryz.prog.cellsOf 9 = 1 := by kernel_rfl
theorem keyV (k n : Int) (s : ByteArray) (hk : (Lit.int .i64 k).wf = true) (hn : (Lit.int .i64 n).wf = true) (hs : s.size ≤ maxLen) (d : Nat) : Tryz.prog.keyLits (d + 2) 42 [.int .i64 k, .int .i64 n, .string s] = some [.int .i64 k, .int .i64 n, .string s.data.toList] := by
  simp [Program.keyLits, Tryz.underlying42, Tryz.underlying3, Tryz.underlying9, cV, cI, cS, hk, hn, hs]
theorem keyEv (e : EvV) (hw : ∀ k, k < 4 → (Lit.int .i64 (e.get k).1).wf = true ∧ (Lit.int .i64 (e.get k).2.1).wf = true ∧ (e.get k).2.2.size ≤ maxLen) : Tryz.prog.keyLits 5 44 (evVal e).cells.toList = some [.int .i64 e.v0.1, .int .i64 e.v0.2.1, .string e.v0.2.2.data.toList, .int .i64 e.v1.1, .int .i64 e.v1.2.1, .string e.v1.2.2.data.toList, .int .i64 e.v2.1, .int .i64 e.v2.2.1, .string e.v2.2.2.data.toList, .int .i64 e.v3.1, .int .i64 e.v3.2.1, .string e.v3.2.2.data.toList] := by
  obtain ⟨a0, a1, a2⟩ := hw 0 (by omega)
  obtain ⟨b0, b1, b2⟩ := hw 1 (by omega)
  obtain ⟨c0, c1, c2⟩ := hw 2 (by omega)
  obtain ⟨d0, d1, d2⟩ := hw 3 (by omega)
  have k0 := keyV e.v0.1 e.v0.2.1 e.v0.2.2 a0 a1 a2 2
  have k1 := keyV e.v1.1 e.v1.2.1 e.v1.2.2 b0 b1 b2 2
  have k2 := keyV e.v2.1 e.v2.2.1 e.v2.2.2 c0 c1 c2 2
  have k3 := keyV e.v3.1 e.v3.2.1 e.v3.2.2 d0 d1 d2 2
  show Tryz.prog.keyLits (4 + 1) 44 [.int .i64 e.v0.1, .int .i64 e.v0.2.1, .string e.v0.2.2, .int .i64 e.v1.1, .int .i64 e.v1.2.1, .string e.v1.2.2, .int .i64 e.v2.1, .int .i64 e.v2.2.1, .string e.v2.2.2, .int .i64 e.v3.1, .int .i64 e.v3.2.1, .string e.v3.2.2] = _
  unfold Program.keyLits
  simp only [Tryz.underlying44, cE, cV]
  have hr : List.range 4 = [0, 1, 2, 3] := rfl
  rw [if_pos (by rfl), hr]
  simp only [List.mapM_cons, List.mapM_nil, Nat.zero_mul, Nat.one_mul, List.drop_zero, List.drop_succ_cons, List.take_succ_cons, List.take_zero, k0, k1, k2, k3]
  simp [k0, k1, k2, k3]
theorem formEv (e : EvV) : (evVal e).formed Tryz.prog 44 = true := by kernel_rfl
theorem bytes_inj {s t : ByteArray} (h : s.data.toList = t.data.toList) : s = t := by
  have h1 : s = bs s.data.toList := rfl
  rw [h1, h]
  rfl
theorem keyEv_inj {a b : EvV} (h : ([.int .i64 a.v0.1, .int .i64 a.v0.2.1, .string a.v0.2.2.data.toList, .int .i64 a.v1.1, .int .i64 a.v1.2.1, .string a.v1.2.2.data.toList, .int .i64 a.v2.1, .int .i64 a.v2.2.1, .string a.v2.2.2.data.toList, .int .i64 a.v3.1, .int .i64 a.v3.2.1, .string a.v3.2.2.data.toList] : List Lit) = [.int .i64 b.v0.1, .int .i64 b.v0.2.1, .string b.v0.2.2.data.toList, .int .i64 b.v1.1, .int .i64 b.v1.2.1, .string b.v1.2.2.data.toList, .int .i64 b.v2.1, .int .i64 b.v2.2.1, .string b.v2.2.2.data.toList, .int .i64 b.v3.1, .int .i64 b.v3.2.1, .string b.v3.2.2.data.toList]) : a = b := by
  obtain ⟨⟨a0, a1, a2⟩, ⟨a3, a4, a5⟩, ⟨a6, a7, a8⟩, ⟨a9, a10, a11⟩⟩ := a
  obtain ⟨⟨b0, b1, b2⟩, ⟨b3, b4, b5⟩, ⟨b6, b7, b8⟩, ⟨b9, b10, b11⟩⟩ := b
  simp only [List.cons.injEq, Lit.int.injEq, Lit.string.injEq, true_and, and_true] at h
  obtain ⟨h0, h1, h2, h3, h4, h5, h6, h7, h8, h9, h10, h11⟩ := h
  have e2 := bytes_inj h2
  have e5 := bytes_inj h5
  have e8 := bytes_inj h8
  have e11 := bytes_inj h11
  subst h0 h1 e2 h3 h4 e5 h6 h7 e8 h9 h10 e11
  rfl
def wfE (e : EvV) : Prop := ∀ k, k < 4 → (Lit.int .i64 (e.get k).1).wf = true ∧ (Lit.int .i64 (e.get k).2.1).wf = true ∧ (e.get k).2.2.size ≤ maxLen
theorem run_eqEv (a b : EvV) (ha : wfE a) (hb : wfE b) (w : World) : ∃ r : Bool, (Op.equalIn 10000 44 (evVal a) (evVal b)).run Tryz.prog w = .ok r w ∧ (r = true ↔ a = b) := by
  obtain ⟨r, hr, hi⟩ := run_equalIn_deep (P := Tryz.prog) 9997 3 44 (by kernel_rfl) w 5 5 (evVal a) (evVal b) _ _ (formEv a) (formEv b) (keyEv a ha) (keyEv b hb)
  exact ⟨r, hr, hi.trans ⟨keyEv_inj, fun h => by rw [h]⟩⟩
section
variable {ops : Array Oper} {S : World → Prop} {o : Oper} {a : Act}
set_option maxHeartbeats 1000000 in
theorem yt_eqEv (hw : Region.wanted o (yielded ops a.tmps) = true) (x y : Operand) (t : TypeId) (ho : o.op = .binOp .eql 44 x y t) (p q : EvV) (wp : wfE p) (wq : wfE q) (r : Bool) (hx : a.eval x = evVal p) (hy : a.eval y = evVal q) (hr : r = true ↔ p = q) : YieldsIf Tryz.prog ops S o (.bool r) a :=
  Or.inl ⟨hw, fun w _ => by
    obtain ⟨r', h, hi⟩ := run_eqEv p q wp wq w
    have e : r' = r := Bool.eq_iff_iff.2 (hi.trans hr.symm)
    subst e
    simp only [evVal] at h
    simp only [execOp, ho, hx, hy, evVal]
    go_simp⟩
end
theorem wf_ok {e : EvV} (h : okEv e) : wfE e := fun k hk => by
  have hv := okEv_get h k hk
  have wfi : ∀ n : Int, okI n → (Lit.int .i64 n).wf = true := fun n hn => by
    have m1 : IntKind.i64.min = -9223372036854775808 := rfl
    have m2 : IntKind.i64.max = 9223372036854775807 := rfl
    obtain ⟨a, b⟩ := hn
    simp [Lit.wf, m1, m2]
    omega
  rcases okVa_cases hv with h1 | ⟨n, h1, h2⟩ | ⟨s, h1, h2⟩
  · rw [h1]; exact ⟨rfl, rfl, Nat.zero_le _⟩
  · rw [h1]
    exact ⟨rfl, wfi n h2, Nat.zero_le _⟩
  · rw [h1]
    exact ⟨rfl, rfl, Nat.le_trans h2 (by decide)⟩
end Go.Proofs.YtlmdcaemjaldfaaGreat
namespace Go.Proofs.YtlmdcaemjaldfaaGreat
open Go.RowKit
set_option maxRecDepth 100000 in
theorem rn_row1Y {o : Oper} {w : World} (a : Act) (x : Operand) (ho : o.op = .buildSlice 94 1 #[(0, x)]) (c : Int) (hx : a.eval x = .int .u8 c) : (execOp a.eval o).run Tryz.prog w = .ok (.value (.slice (some ⟨w.heap.size, 0, none⟩) 1 1)) (w.alloc (.cells #[.int .u8 c] 5)) := by
  simp only [execOp, ho, List.map_toArray, List.map_cons, List.map_nil, hx]
  go_simp
theorem conv8 {w : World} {g : Nat} {c : Int} {t : TypeId} (h0 : 0 ≤ c) (h1 : c < 256) (h : w.heap[g]? = some (.cells #[.int .u8 c] t (0, 0))) : (convert 94 9 (.slice (some ⟨g, 0, none⟩) 1 1)).run Tryz.prog w = .ok (.string (bs [UInt8.ofNat c.toNat])) w :=
  conv_one w g (UInt8.ofNat c.toNat) (by rw [cell_heap h, ofNat_val (by omega), Int.toNat_of_nonneg h0]; rfl)
section
variable {ops : Array Oper} {Q : Exit → Act → World → Prop} {S : World → Prop} {o : Oper} {a : Act} {i : Nat} {w : World} {K : Act → World → Prop}
theorem wt_row1Y {rest : List Oper} (hw : Region.wanted o (yielded ops a.tmps) = true) (x : Operand) (ho : o.op = .buildSlice 94 1 #[(0, x)]) (c : Int) (hx : a.eval x = .int .u8 c)
    (h : ∀ W g, w.heap.size ≤ g → W.heap[g]? = some (.cells #[.int .u8 c] 5 (0, 0)) → Below w.heap.size w W → wpList Tryz.prog ops Q rest (a.put o.dst (.slice (some ⟨g, 0, none⟩) 1 1)) W) : wpList Tryz.prog ops Q (o :: rest) a w :=
  wl_run hw _ _ (rn_row1Y a x ho c hx) (h _ _ (Nat.le_refl _) (heap_new _ _) ((Below.refl _ w).alloc (Nat.le_refl _) _))
theorem yw_conv1 (hw : Region.wanted o (yielded ops a.tmps) = true) (x : Operand) (ho : o.op = .convert 94 9 x) (g : Nat) (hx : a.eval x = .slice (some ⟨g, 0, none⟩) 1 1) (c : Int) (h0 : 0 ≤ c) (h1 : c < 256) {t : TypeId}
    (h : ∀ w, S w → w.heap[g]? = some (.cells #[.int .u8 c] t (0, 0))) : YieldsIf Tryz.prog ops S o (.string (bs [UInt8.ofNat c.toNat])) a :=
  Or.inl ⟨hw, fun w hS => by
    simp only [execOp, ho, hx, Sem.run_bind, conv8 h0 h1 (h w hS), Result.andThen_ok, Sem.run_pure]⟩
end
theorem c_refInt (n : Int) (w : World) (h : okI n) : Calls Tryz.prog 72 #[.int .i64 n] w fun e w' => e = .returned (.string (bs (enc (zz n)))) ∧ Below w.heap.size w w' := refInt_any n w h.1 h.2
theorem c_refStr (s : ByteArray) (w : World) (hs : s.size ≤ 8) : Calls Tryz.prog 73 #[.string s] w fun e w' => e = .returned (.string (bs (stB2 s))) ∧ Below w.heap.size w w' :=
  (refStr_any s w (by omega)).mono fun e w' h => ⟨by rw [h.1]; exact congrArg (fun z => Ending.returned (.string z)) (bs_cat (enc s.size) s.data.toList), h.2⟩
end Go.Proofs.YtlmdcaemjaldfaaGreat
namespace Go.Proofs.YtlmdcaemjaldfaaGreat
open Go.RowKit
section
variable {ops : Array Oper} {S : World → Prop} {o : Oper} {a : Act}
end
theorem two_ne_one8 : ¬ (2 : Int) = 1 := by decide
theorem okVa_bd {v : Va} (h : okVa v) : 0 ≤ v.1 ∧ v.1 < 256 ∧ (v.1 = 2 → v.2.2.size ≤ 8) := by
  rcases okVa_cases h with rfl | ⟨n, rfl, hi⟩ | ⟨s, rfl, hs⟩
  · exact ⟨by decide, by decide, fun h => by cases h⟩
  · exact ⟨by simp, by simp, fun h => by simp at h⟩
  · exact ⟨by simp, by simp, fun _ => hs⟩
set_option maxHeartbeats 4000000 in
set_option maxRecDepth 100000 in
theorem refEvent8_any (ev : EvV) (w : World) (hok : okEv ev) :
    Calls Tryz.prog 32 #[evVal ev] w fun e w' => e = .returned (.string (bs (evB ev))) ∧ Below w.heap.size w w' := by
  have D : w.grownBy w none := grown_refl _ _
  go_enter Tryz.func32, Tryz.ntmps32
  refine wp_seq_k (fun K1 hK1 => ?_)
  refine wp_region_lit ?_
  refine wt_boxEv (o := ⟨_, _, _, _, _, _⟩) (by rfl) _ rfl ev rfl (fun v1 g1 hg G1 kb => ?_)
  simp only [Act.put, lzA, lzB, lzC]
  have ge_g1 : w.heap.size ≤ g1 := Nat.le_trans D.size hg
  clear hg
  replace D := grown_below D kb
  clear kb
  replace G1 : EvIn v1 g1 ev := G1
  refine wl_yield (o := ⟨_, _, _, _, _, _⟩) (.string (bs ([]))) (yl_assign (by rfl) _ rfl _ rfl) ?_
  simp only [Act.put, lzA, lzB, lzC]
  refine wpList_nil ?_
  refine hK1 _ _ ?_
  clear hK1 K1
  refine wp_seq_k (fun K2 hK2 => ?_)
  refine wp_region_lit ?_
  refine wl_yield (o := ⟨_, _, _, _, _, _⟩) (.string (bs ([]))) (yl_assign (by rfl) _ rfl _ rfl) ?_
  simp only [Act.put, lzA, lzB, lzC]
  refine wpList_nil ?_
  refine hK2 _ _ ?_
  clear hK2 K2
  refine wp_seq_k (fun K3 hK3 => ?_)
  refine wp_seq_k (fun K4 hK4 => ?_)
  refine wp_region_lit ?_
  refine wl_yield (o := ⟨_, _, _, _, _, _⟩) (.int .i64 0) (yl_assign (by rfl) _ rfl _ rfl) ?_
  simp only [Act.put, lzA, lzB, lzC]
  refine wpList_nil ?_
  refine hK4 _ _ ?_
  clear hK4 K4
  refine wp_block ?_
  go_loopw [3, 4] (fun x i wr => ∃ k : Nat, x = .string (bs (evP ev k)) ∧ i = .int .i64 k ∧ k ≤ 4 ∧ EvIn wr g1 ev ∧ w.grownBy wr none) (fun _ i _ => 4 - (intOf i).toNat)
  case atStart => exact ⟨0, rfl, rfl, by omega, G1, D⟩
  case round =>
    clear D G1
    obtain ⟨k, rfl, rfl, hk, G1, D⟩ := hrel
    by_cases hlt : k < 4
    · obtain ⟨kb0, kb1, hs8⟩ := okVa_bd (okEv_get hok k hlt)
      by_cases hk1 : (EvV.get ev k).1 = 1
      · have hk2 : ¬ (EvV.get ev k).1 = 2 := by omega
        refine wp_seq_k (fun K5 hK5 => ?_)
        refine wp_seq_k (fun K6 hK6 => ?_)
        refine wp_region_lit ?_
        refine wl_yield (o := ⟨_, _, _, _, _, _⟩) (.int .i64 (k : Nat)) (yl_move (by rfl) _ rfl _ rfl) ?_
        simp only [Act.put, lzA, lzB, lzC]
        refine wl_yield (o := ⟨_, _, _, _, _, _⟩) (.bool true) (yt_lssI (by rfl) _ _ _ rfl ((k : Nat) : Int) 4 true rfl rfl (decide_eq_true (by omega))) ?_
        simp only [Act.put, lzA, lzB, lzC]
        refine wpList_nil ?_
        refine hK6 _ _ ?_
        clear hK6 K6
        refine wp_cond_true rfl ?_
        refine wp_skip ?_
        refine hK5 _ _ ?_
        clear hK5 K5
        refine wp_seq_k (fun K7 hK7 => ?_)
        refine wp_block ?_
        refine wp_seq_k (fun K8 hK8 => ?_)
        refine wp_region_lit ?_
        refine wl_yield (o := ⟨_, _, _, _, _, _⟩) (.string (bs (evP ev k))) (yl_move (by rfl) _ rfl _ rfl) ?_
        simp only [Act.put, lzA, lzB, lzC]
        refine wl_yield (o := ⟨_, _, _, _, _, _⟩) (.int .i64 (k : Nat)) (yl_move (by rfl) _ rfl _ rfl) ?_
        simp only [Act.put, lzA, lzB, lzC]
        refine wl_yield (o := ⟨_, _, _, _, _, _⟩) (.pointer (some ⟨g1, k * 3, none⟩)) (yl_atEv (by rfl) _ _ rfl g1 k rfl rfl (hlt)) ?_
        simp only [Act.put, lzA, lzB, lzC]
        refine wl_yield (o := ⟨_, _, _, _, _, _⟩) (.pointer (some ⟨g1, k * 3 + 0, none⟩)) (yt_fVa0 (by rfl) _ rfl g1 (k * 3) rfl) ?_
        simp only [Act.put, lzA, lzB, lzC]
        refine wl_yield (o := ⟨_, _, _, _, _, _⟩) (.int .i64 ((EvV.get ev k).1)) (yt_ldI (by rfl) _ rfl _ _ rfl (EvV.get ev k).1 (fun _ h => by subst h; exact (EvIn.atI G1 k hlt).1)) ?_
        simp only [Act.put, lzA, lzB, lzC]
        refine wl_yield (o := ⟨_, _, _, _, _, _⟩) (.int .u8 (EvV.get ev k).1) (yw_iy (by rfl) _ rfl (EvV.get ev k).1 rfl (kb0) (kb1)) ?_
        simp only [Act.put, lzA, lzB, lzC]
        refine wt_row1Y (o := ⟨_, _, _, _, _, _⟩) (by rfl) _ rfl (EvV.get ev k).1 rfl (fun v2 g2 hg G2 kb => ?_)
        have n_g1_g2 : g1 ≠ g2 := by have := lt_heap G1; omega
        have ge_g2 : w.heap.size ≤ g2 := Nat.le_trans D.size hg
        clear hg
        replace D := grown_below D kb
        replace G1 := heap_on G1 kb
        clear kb
        simp only [Act.put, lzA, lzB, lzC]
        refine wl_yield (o := ⟨_, _, _, _, _, _⟩) (.string (bs ([UInt8.ofNat ((EvV.get ev k).1 : Int).toNat]))) (yw_conv1 (by rfl) _ rfl g2 rfl (EvV.get ev k).1 (kb0) (kb1) (fun _ h => by subst h; exact G2)) ?_
        simp only [Act.put, lzA, lzB, lzC]
        refine wl_yield (o := ⟨_, _, _, _, _, _⟩) (.string (bs ((evP ev k) ++ ([UInt8.ofNat ((EvV.get ev k).1 : Int).toNat])))) (yt_cat (by rfl) _ _ _ rfl (evP ev k) ([UInt8.ofNat ((EvV.get ev k).1 : Int).toNat]) rfl rfl (by (try simp only [List.length_append, List.length_cons, List.length_nil]); have q1 := evP_le hok k (by omega); first | omega | (have q2 := (enc_len_le (zz (EvV.get ev k).2.1) (zz_bd _ (okEv_get hok k hlt).2.1 (okEv_get hok k hlt).2.2)).2; omega) | (have q2 := stB_le (hs8 hk2); omega))) ?_
        simp only [Act.put, lzA, lzB, lzC]
        refine wl_yield (o := ⟨_, _, _, _, _, _⟩) (.string (bs ((evP ev k) ++ ([UInt8.ofNat ((EvV.get ev k).1 : Int).toNat])))) (yl_assign (by rfl) _ rfl _ rfl) ?_
        simp only [Act.put, lzA, lzB, lzC]
        refine wpList_nil ?_
        refine hK8 _ _ ?_
        clear hK8 K8
        refine wp_seq_k (fun K9 hK9 => ?_)
        refine wp_seq_k (fun K10 hK10 => ?_)
        refine wp_region_lit ?_
        refine wl_yield (o := ⟨_, _, _, _, _, _⟩) (.int .i64 (k : Nat)) (yl_move (by rfl) _ rfl _ rfl) ?_
        simp only [Act.put, lzA, lzB, lzC]
        refine wl_yield (o := ⟨_, _, _, _, _, _⟩) (.pointer (some ⟨g1, k * 3, none⟩)) (yl_atEv (by rfl) _ _ rfl g1 k rfl rfl (hlt)) ?_
        simp only [Act.put, lzA, lzB, lzC]
        refine wl_yield (o := ⟨_, _, _, _, _, _⟩) (.pointer (some ⟨g1, k * 3 + 0, none⟩)) (yt_fVa0 (by rfl) _ rfl g1 (k * 3) rfl) ?_
        simp only [Act.put, lzA, lzB, lzC]
        refine wl_yield (o := ⟨_, _, _, _, _, _⟩) (.int .i64 ((EvV.get ev k).1)) (yt_ldI (by rfl) _ rfl _ _ rfl (EvV.get ev k).1 (fun _ h => by subst h; exact (EvIn.atI G1 k hlt).1)) ?_
        simp only [Act.put, lzA, lzB, lzC]
        refine wl_yield (o := ⟨_, _, _, _, _, _⟩) (.bool true) (yt_eqlI (by rfl) _ _ _ rfl (EvV.get ev k).1 1 true rfl rfl (decide_eq_true hk1)) ?_
        simp only [Act.put, lzA, lzB, lzC]
        refine wpList_nil ?_
        refine hK10 _ _ ?_
        clear hK10 K10
        refine wp_cond_true rfl ?_
        refine wp_region_lit ?_
        refine wl_yield (o := ⟨_, _, _, _, _, _⟩) (.string (bs ((evP ev k) ++ ([UInt8.ofNat ((EvV.get ev k).1 : Int).toNat])))) (yl_move (by rfl) _ rfl _ rfl) ?_
        simp only [Act.put, lzA, lzB, lzC]
        refine wl_yield (o := ⟨_, _, _, _, _, _⟩) (.int .i64 (k : Nat)) (yl_move (by rfl) _ rfl _ rfl) ?_
        simp only [Act.put, lzA, lzB, lzC]
        refine wl_yield (o := ⟨_, _, _, _, _, _⟩) (.pointer (some ⟨g1, k * 3, none⟩)) (yl_atEv (by rfl) _ _ rfl g1 k rfl rfl (hlt)) ?_
        simp only [Act.put, lzA, lzB, lzC]
        refine wl_yield (o := ⟨_, _, _, _, _, _⟩) (.pointer (some ⟨g1, k * 3 + 1, none⟩)) (yt_fVa1 (by rfl) _ rfl g1 (k * 3) rfl) ?_
        simp only [Act.put, lzA, lzB, lzC]
        refine wl_yield (o := ⟨_, _, _, _, _, _⟩) (.int .i64 ((EvV.get ev k).2.1)) (yt_ldI (by rfl) _ rfl _ _ rfl (EvV.get ev k).2.1 (fun _ h => by subst h; exact (EvIn.atI G1 k hlt).2.1)) ?_
        simp only [Act.put, lzA, lzB, lzC]
        refine wt_call (o := ⟨_, _, _, _, _, _⟩) (by rfl) 72 _ _ rfl #[.int .i64 ((EvV.get ev k).2.1)] rfl (run_call Tryz.func72 (by kernel_rfl) (by kernel_rfl)) ?_
        refine (c_refInt (EvV.get ev k).2.1 _ (okEv_get hok k hlt).2).mono ?_
        rintro r v3 ⟨rfl, kb⟩
        replace D := grown_below D kb
        replace G1 := heap_on G1 kb
        replace G2 := heap_on G2 kb
        clear kb
        refine Or.inl ⟨.string (bs (enc (zz (EvV.get ev k).2.1))), rfl, ?_⟩
        simp only [Act.put, lzA, lzB, lzC]
        refine wl_yield (o := ⟨_, _, _, _, _, _⟩) (.string (bs (((evP ev k) ++ ([UInt8.ofNat ((EvV.get ev k).1 : Int).toNat])) ++ (enc (zz (EvV.get ev k).2.1))))) (yt_cat (by rfl) _ _ _ rfl ((evP ev k) ++ ([UInt8.ofNat ((EvV.get ev k).1 : Int).toNat])) (enc (zz (EvV.get ev k).2.1)) rfl rfl (by (try simp only [List.length_append, List.length_cons, List.length_nil]); have q1 := evP_le hok k (by omega); first | omega | (have q2 := (enc_len_le (zz (EvV.get ev k).2.1) (zz_bd _ (okEv_get hok k hlt).2.1 (okEv_get hok k hlt).2.2)).2; omega) | (have q2 := stB_le (hs8 hk2); omega))) ?_
        simp only [Act.put, lzA, lzB, lzC]
        refine wl_yield (o := ⟨_, _, _, _, _, _⟩) (.string (bs (((evP ev k) ++ ([UInt8.ofNat ((EvV.get ev k).1 : Int).toNat])) ++ (enc (zz (EvV.get ev k).2.1))))) (yl_assign (by rfl) _ rfl _ rfl) ?_
        simp only [Act.put, lzA, lzB, lzC]
        refine wpList_nil ?_
        refine hK9 _ _ ?_
        clear hK9 K9
        refine wp_seq_k (fun K11 hK11 => ?_)
        refine wp_region_lit ?_
        refine wl_yield (o := ⟨_, _, _, _, _, _⟩) (.int .i64 (k : Nat)) (yl_move (by rfl) _ rfl _ rfl) ?_
        simp only [Act.put, lzA, lzB, lzC]
        refine wl_yield (o := ⟨_, _, _, _, _, _⟩) (.pointer (some ⟨g1, k * 3, none⟩)) (yl_atEv (by rfl) _ _ rfl g1 k rfl rfl (hlt)) ?_
        simp only [Act.put, lzA, lzB, lzC]
        refine wl_yield (o := ⟨_, _, _, _, _, _⟩) (.pointer (some ⟨g1, k * 3 + 0, none⟩)) (yt_fVa0 (by rfl) _ rfl g1 (k * 3) rfl) ?_
        simp only [Act.put, lzA, lzB, lzC]
        refine wl_yield (o := ⟨_, _, _, _, _, _⟩) (.int .i64 ((EvV.get ev k).1)) (yt_ldI (by rfl) _ rfl _ _ rfl (EvV.get ev k).1 (fun _ h => by subst h; exact (EvIn.atI G1 k hlt).1)) ?_
        simp only [Act.put, lzA, lzB, lzC]
        refine wl_yield (o := ⟨_, _, _, _, _, _⟩) (.bool false) (yt_eqlI (by rfl) _ _ _ rfl (EvV.get ev k).1 2 false rfl rfl (decide_eq_false hk2)) ?_
        simp only [Act.put, lzA, lzB, lzC]
        refine wpList_nil ?_
        refine hK11 _ _ ?_
        clear hK11 K11
        refine wp_cond_false rfl ?_
        refine wp_skip ?_
        refine hK7 _ _ ?_
        clear hK7 K7
        refine wp_region_lit ?_
        refine wl_yield (o := ⟨_, _, _, _, _, _⟩) (.int .i64 (k : Nat)) (yl_move (by rfl) _ rfl _ rfl) ?_
        simp only [Act.put, lzA, lzB, lzC]
        refine wl_yield (o := ⟨_, _, _, _, _, _⟩) (.int .i64 (k + 1 : Nat)) (yt_addI (by rfl) _ _ _ rfl ((k : Nat) : Int) 1 ((k + 1 : Nat) : Int) rfl rfl (by omega) (by omega) (by omega)) ?_
        simp only [Act.put, lzA, lzB, lzC]
        refine wl_yield (o := ⟨_, _, _, _, _, _⟩) (.int .i64 (k + 1 : Nat)) (yl_assign (by rfl) _ rfl _ rfl) ?_
        simp only [Act.put, lzA, lzB, lzC]
        refine wpList_nil ?_
        show _ ∧ _
        go_roundw
        case rel => exact ⟨k + 1, by rw [evP_step]; simp only [vaB, if_pos hk1, List.append_assoc, List.cons_append, List.nil_append, List.append_nil], rfl, by omega, G1, D⟩
        case measure => simp [intOf]; omega
      · by_cases hk2 : (EvV.get ev k).1 = 2
        · refine wp_seq_k (fun K5 hK5 => ?_)
          refine wp_seq_k (fun K6 hK6 => ?_)
          refine wp_region_lit ?_
          refine wl_yield (o := ⟨_, _, _, _, _, _⟩) (.int .i64 (k : Nat)) (yl_move (by rfl) _ rfl _ rfl) ?_
          simp only [Act.put, lzA, lzB, lzC]
          refine wl_yield (o := ⟨_, _, _, _, _, _⟩) (.bool true) (yt_lssI (by rfl) _ _ _ rfl ((k : Nat) : Int) 4 true rfl rfl (decide_eq_true (by omega))) ?_
          simp only [Act.put, lzA, lzB, lzC]
          refine wpList_nil ?_
          refine hK6 _ _ ?_
          clear hK6 K6
          refine wp_cond_true rfl ?_
          refine wp_skip ?_
          refine hK5 _ _ ?_
          clear hK5 K5
          refine wp_seq_k (fun K7 hK7 => ?_)
          refine wp_block ?_
          refine wp_seq_k (fun K8 hK8 => ?_)
          refine wp_region_lit ?_
          refine wl_yield (o := ⟨_, _, _, _, _, _⟩) (.string (bs (evP ev k))) (yl_move (by rfl) _ rfl _ rfl) ?_
          simp only [Act.put, lzA, lzB, lzC]
          refine wl_yield (o := ⟨_, _, _, _, _, _⟩) (.int .i64 (k : Nat)) (yl_move (by rfl) _ rfl _ rfl) ?_
          simp only [Act.put, lzA, lzB, lzC]
          refine wl_yield (o := ⟨_, _, _, _, _, _⟩) (.pointer (some ⟨g1, k * 3, none⟩)) (yl_atEv (by rfl) _ _ rfl g1 k rfl rfl (hlt)) ?_
          simp only [Act.put, lzA, lzB, lzC]
          refine wl_yield (o := ⟨_, _, _, _, _, _⟩) (.pointer (some ⟨g1, k * 3 + 0, none⟩)) (yt_fVa0 (by rfl) _ rfl g1 (k * 3) rfl) ?_
          simp only [Act.put, lzA, lzB, lzC]
          refine wl_yield (o := ⟨_, _, _, _, _, _⟩) (.int .i64 ((EvV.get ev k).1)) (yt_ldI (by rfl) _ rfl _ _ rfl (EvV.get ev k).1 (fun _ h => by subst h; exact (EvIn.atI G1 k hlt).1)) ?_
          simp only [Act.put, lzA, lzB, lzC]
          refine wl_yield (o := ⟨_, _, _, _, _, _⟩) (.int .u8 (EvV.get ev k).1) (yw_iy (by rfl) _ rfl (EvV.get ev k).1 rfl (kb0) (kb1)) ?_
          simp only [Act.put, lzA, lzB, lzC]
          refine wt_row1Y (o := ⟨_, _, _, _, _, _⟩) (by rfl) _ rfl (EvV.get ev k).1 rfl (fun v2 g2 hg G2 kb => ?_)
          have n_g1_g2 : g1 ≠ g2 := by have := lt_heap G1; omega
          have ge_g2 : w.heap.size ≤ g2 := Nat.le_trans D.size hg
          clear hg
          replace D := grown_below D kb
          replace G1 := heap_on G1 kb
          clear kb
          simp only [Act.put, lzA, lzB, lzC]
          refine wl_yield (o := ⟨_, _, _, _, _, _⟩) (.string (bs ([UInt8.ofNat ((EvV.get ev k).1 : Int).toNat]))) (yw_conv1 (by rfl) _ rfl g2 rfl (EvV.get ev k).1 (kb0) (kb1) (fun _ h => by subst h; exact G2)) ?_
          simp only [Act.put, lzA, lzB, lzC]
          refine wl_yield (o := ⟨_, _, _, _, _, _⟩) (.string (bs ((evP ev k) ++ ([UInt8.ofNat ((EvV.get ev k).1 : Int).toNat])))) (yt_cat (by rfl) _ _ _ rfl (evP ev k) ([UInt8.ofNat ((EvV.get ev k).1 : Int).toNat]) rfl rfl (by (try simp only [List.length_append, List.length_cons, List.length_nil]); have q1 := evP_le hok k (by omega); first | omega | (have q2 := (enc_len_le (zz (EvV.get ev k).2.1) (zz_bd _ (okEv_get hok k hlt).2.1 (okEv_get hok k hlt).2.2)).2; omega) | (have q2 := stB_le (hs8 hk2); omega))) ?_
          simp only [Act.put, lzA, lzB, lzC]
          refine wl_yield (o := ⟨_, _, _, _, _, _⟩) (.string (bs ((evP ev k) ++ ([UInt8.ofNat ((EvV.get ev k).1 : Int).toNat])))) (yl_assign (by rfl) _ rfl _ rfl) ?_
          simp only [Act.put, lzA, lzB, lzC]
          refine wpList_nil ?_
          refine hK8 _ _ ?_
          clear hK8 K8
          refine wp_seq_k (fun K9 hK9 => ?_)
          refine wp_seq_k (fun K10 hK10 => ?_)
          refine wp_region_lit ?_
          refine wl_yield (o := ⟨_, _, _, _, _, _⟩) (.int .i64 (k : Nat)) (yl_move (by rfl) _ rfl _ rfl) ?_
          simp only [Act.put, lzA, lzB, lzC]
          refine wl_yield (o := ⟨_, _, _, _, _, _⟩) (.pointer (some ⟨g1, k * 3, none⟩)) (yl_atEv (by rfl) _ _ rfl g1 k rfl rfl (hlt)) ?_
          simp only [Act.put, lzA, lzB, lzC]
          refine wl_yield (o := ⟨_, _, _, _, _, _⟩) (.pointer (some ⟨g1, k * 3 + 0, none⟩)) (yt_fVa0 (by rfl) _ rfl g1 (k * 3) rfl) ?_
          simp only [Act.put, lzA, lzB, lzC]
          refine wl_yield (o := ⟨_, _, _, _, _, _⟩) (.int .i64 ((EvV.get ev k).1)) (yt_ldI (by rfl) _ rfl _ _ rfl (EvV.get ev k).1 (fun _ h => by subst h; exact (EvIn.atI G1 k hlt).1)) ?_
          simp only [Act.put, lzA, lzB, lzC]
          refine wl_yield (o := ⟨_, _, _, _, _, _⟩) (.bool false) (yt_eqlI (by rfl) _ _ _ rfl (EvV.get ev k).1 1 false rfl rfl (decide_eq_false hk1)) ?_
          simp only [Act.put, lzA, lzB, lzC]
          refine wpList_nil ?_
          refine hK10 _ _ ?_
          clear hK10 K10
          refine wp_cond_false rfl ?_
          refine wp_skip ?_
          refine hK9 _ _ ?_
          clear hK9 K9
          refine wp_seq_k (fun K11 hK11 => ?_)
          refine wp_region_lit ?_
          refine wl_yield (o := ⟨_, _, _, _, _, _⟩) (.int .i64 (k : Nat)) (yl_move (by rfl) _ rfl _ rfl) ?_
          simp only [Act.put, lzA, lzB, lzC]
          refine wl_yield (o := ⟨_, _, _, _, _, _⟩) (.pointer (some ⟨g1, k * 3, none⟩)) (yl_atEv (by rfl) _ _ rfl g1 k rfl rfl (hlt)) ?_
          simp only [Act.put, lzA, lzB, lzC]
          refine wl_yield (o := ⟨_, _, _, _, _, _⟩) (.pointer (some ⟨g1, k * 3 + 0, none⟩)) (yt_fVa0 (by rfl) _ rfl g1 (k * 3) rfl) ?_
          simp only [Act.put, lzA, lzB, lzC]
          refine wl_yield (o := ⟨_, _, _, _, _, _⟩) (.int .i64 ((EvV.get ev k).1)) (yt_ldI (by rfl) _ rfl _ _ rfl (EvV.get ev k).1 (fun _ h => by subst h; exact (EvIn.atI G1 k hlt).1)) ?_
          simp only [Act.put, lzA, lzB, lzC]
          refine wl_yield (o := ⟨_, _, _, _, _, _⟩) (.bool true) (yt_eqlI (by rfl) _ _ _ rfl (EvV.get ev k).1 2 true rfl rfl (decide_eq_true hk2)) ?_
          simp only [Act.put, lzA, lzB, lzC]
          refine wpList_nil ?_
          refine hK11 _ _ ?_
          clear hK11 K11
          refine wp_cond_true rfl ?_
          refine wp_region_lit ?_
          refine wl_yield (o := ⟨_, _, _, _, _, _⟩) (.string (bs ((evP ev k) ++ ([UInt8.ofNat ((EvV.get ev k).1 : Int).toNat])))) (yl_move (by rfl) _ rfl _ rfl) ?_
          simp only [Act.put, lzA, lzB, lzC]
          refine wl_yield (o := ⟨_, _, _, _, _, _⟩) (.int .i64 (k : Nat)) (yl_move (by rfl) _ rfl _ rfl) ?_
          simp only [Act.put, lzA, lzB, lzC]
          refine wl_yield (o := ⟨_, _, _, _, _, _⟩) (.pointer (some ⟨g1, k * 3, none⟩)) (yl_atEv (by rfl) _ _ rfl g1 k rfl rfl (hlt)) ?_
          simp only [Act.put, lzA, lzB, lzC]
          refine wl_yield (o := ⟨_, _, _, _, _, _⟩) (.pointer (some ⟨g1, k * 3 + 2, none⟩)) (yt_fVa2 (by rfl) _ rfl g1 (k * 3) rfl) ?_
          simp only [Act.put, lzA, lzB, lzC]
          refine wl_yield (o := ⟨_, _, _, _, _, _⟩) (.string (EvV.get ev k).2.2) (yt_ldS (by rfl) _ rfl _ _ rfl (EvV.get ev k).2.2 (fun _ h => by subst h; exact (EvIn.atI G1 k hlt).2.2)) ?_
          simp only [Act.put, lzA, lzB, lzC]
          refine wt_call (o := ⟨_, _, _, _, _, _⟩) (by rfl) 73 _ _ rfl #[.string (EvV.get ev k).2.2] rfl (run_call Tryz.func73 (by kernel_rfl) (by kernel_rfl)) ?_
          refine (c_refStr (EvV.get ev k).2.2 _ (hs8 hk2)).mono ?_
          rintro r v3 ⟨rfl, kb⟩
          replace D := grown_below D kb
          replace G1 := heap_on G1 kb
          replace G2 := heap_on G2 kb
          clear kb
          refine Or.inl ⟨.string (bs (stB2 (EvV.get ev k).2.2)), rfl, ?_⟩
          simp only [Act.put, lzA, lzB, lzC]
          refine wl_yield (o := ⟨_, _, _, _, _, _⟩) (.string (bs (((evP ev k) ++ ([UInt8.ofNat ((EvV.get ev k).1 : Int).toNat])) ++ (stB2 (EvV.get ev k).2.2)))) (yt_cat (by rfl) _ _ _ rfl ((evP ev k) ++ ([UInt8.ofNat ((EvV.get ev k).1 : Int).toNat])) (stB2 (EvV.get ev k).2.2) rfl rfl (by (try simp only [List.length_append, List.length_cons, List.length_nil]); have q1 := evP_le hok k (by omega); first | omega | (have q2 := (enc_len_le (zz (EvV.get ev k).2.1) (zz_bd _ (okEv_get hok k hlt).2.1 (okEv_get hok k hlt).2.2)).2; omega) | (have q2 := stB_le (hs8 hk2); omega))) ?_
          simp only [Act.put, lzA, lzB, lzC]
          refine wl_yield (o := ⟨_, _, _, _, _, _⟩) (.string (bs (((evP ev k) ++ ([UInt8.ofNat ((EvV.get ev k).1 : Int).toNat])) ++ (stB2 (EvV.get ev k).2.2)))) (yl_assign (by rfl) _ rfl _ rfl) ?_
          simp only [Act.put, lzA, lzB, lzC]
          refine wpList_nil ?_
          refine hK7 _ _ ?_
          clear hK7 K7
          refine wp_region_lit ?_
          refine wl_yield (o := ⟨_, _, _, _, _, _⟩) (.int .i64 (k : Nat)) (yl_move (by rfl) _ rfl _ rfl) ?_
          simp only [Act.put, lzA, lzB, lzC]
          refine wl_yield (o := ⟨_, _, _, _, _, _⟩) (.int .i64 (k + 1 : Nat)) (yt_addI (by rfl) _ _ _ rfl ((k : Nat) : Int) 1 ((k + 1 : Nat) : Int) rfl rfl (by omega) (by omega) (by omega)) ?_
          simp only [Act.put, lzA, lzB, lzC]
          refine wl_yield (o := ⟨_, _, _, _, _, _⟩) (.int .i64 (k + 1 : Nat)) (yl_assign (by rfl) _ rfl _ rfl) ?_
          simp only [Act.put, lzA, lzB, lzC]
          refine wpList_nil ?_
          show _ ∧ _
          go_roundw
          case rel => exact ⟨k + 1, by rw [evP_step]; simp only [vaB, hk2, if_true, if_neg two_ne_one8, List.append_assoc, List.cons_append, List.nil_append, List.append_nil], rfl, by omega, G1, D⟩
          case measure => simp [intOf]; omega
        · refine wp_seq_k (fun K5 hK5 => ?_)
          refine wp_seq_k (fun K6 hK6 => ?_)
          refine wp_region_lit ?_
          refine wl_yield (o := ⟨_, _, _, _, _, _⟩) (.int .i64 (k : Nat)) (yl_move (by rfl) _ rfl _ rfl) ?_
          simp only [Act.put, lzA, lzB, lzC]
          refine wl_yield (o := ⟨_, _, _, _, _, _⟩) (.bool true) (yt_lssI (by rfl) _ _ _ rfl ((k : Nat) : Int) 4 true rfl rfl (decide_eq_true (by omega))) ?_
          simp only [Act.put, lzA, lzB, lzC]
          refine wpList_nil ?_
          refine hK6 _ _ ?_
          clear hK6 K6
          refine wp_cond_true rfl ?_
          refine wp_skip ?_
          refine hK5 _ _ ?_
          clear hK5 K5
          refine wp_seq_k (fun K7 hK7 => ?_)
          refine wp_block ?_
          refine wp_seq_k (fun K8 hK8 => ?_)
          refine wp_region_lit ?_
          refine wl_yield (o := ⟨_, _, _, _, _, _⟩) (.string (bs (evP ev k))) (yl_move (by rfl) _ rfl _ rfl) ?_
          simp only [Act.put, lzA, lzB, lzC]
          refine wl_yield (o := ⟨_, _, _, _, _, _⟩) (.int .i64 (k : Nat)) (yl_move (by rfl) _ rfl _ rfl) ?_
          simp only [Act.put, lzA, lzB, lzC]
          refine wl_yield (o := ⟨_, _, _, _, _, _⟩) (.pointer (some ⟨g1, k * 3, none⟩)) (yl_atEv (by rfl) _ _ rfl g1 k rfl rfl (hlt)) ?_
          simp only [Act.put, lzA, lzB, lzC]
          refine wl_yield (o := ⟨_, _, _, _, _, _⟩) (.pointer (some ⟨g1, k * 3 + 0, none⟩)) (yt_fVa0 (by rfl) _ rfl g1 (k * 3) rfl) ?_
          simp only [Act.put, lzA, lzB, lzC]
          refine wl_yield (o := ⟨_, _, _, _, _, _⟩) (.int .i64 ((EvV.get ev k).1)) (yt_ldI (by rfl) _ rfl _ _ rfl (EvV.get ev k).1 (fun _ h => by subst h; exact (EvIn.atI G1 k hlt).1)) ?_
          simp only [Act.put, lzA, lzB, lzC]
          refine wl_yield (o := ⟨_, _, _, _, _, _⟩) (.int .u8 (EvV.get ev k).1) (yw_iy (by rfl) _ rfl (EvV.get ev k).1 rfl (kb0) (kb1)) ?_
          simp only [Act.put, lzA, lzB, lzC]
          refine wt_row1Y (o := ⟨_, _, _, _, _, _⟩) (by rfl) _ rfl (EvV.get ev k).1 rfl (fun v2 g2 hg G2 kb => ?_)
          have n_g1_g2 : g1 ≠ g2 := by have := lt_heap G1; omega
          have ge_g2 : w.heap.size ≤ g2 := Nat.le_trans D.size hg
          clear hg
          replace D := grown_below D kb
          replace G1 := heap_on G1 kb
          clear kb
          simp only [Act.put, lzA, lzB, lzC]
          refine wl_yield (o := ⟨_, _, _, _, _, _⟩) (.string (bs ([UInt8.ofNat ((EvV.get ev k).1 : Int).toNat]))) (yw_conv1 (by rfl) _ rfl g2 rfl (EvV.get ev k).1 (kb0) (kb1) (fun _ h => by subst h; exact G2)) ?_
          simp only [Act.put, lzA, lzB, lzC]
          refine wl_yield (o := ⟨_, _, _, _, _, _⟩) (.string (bs ((evP ev k) ++ ([UInt8.ofNat ((EvV.get ev k).1 : Int).toNat])))) (yt_cat (by rfl) _ _ _ rfl (evP ev k) ([UInt8.ofNat ((EvV.get ev k).1 : Int).toNat]) rfl rfl (by (try simp only [List.length_append, List.length_cons, List.length_nil]); have q1 := evP_le hok k (by omega); first | omega | (have q2 := (enc_len_le (zz (EvV.get ev k).2.1) (zz_bd _ (okEv_get hok k hlt).2.1 (okEv_get hok k hlt).2.2)).2; omega) | (have q2 := stB_le (hs8 hk2); omega))) ?_
          simp only [Act.put, lzA, lzB, lzC]
          refine wl_yield (o := ⟨_, _, _, _, _, _⟩) (.string (bs ((evP ev k) ++ ([UInt8.ofNat ((EvV.get ev k).1 : Int).toNat])))) (yl_assign (by rfl) _ rfl _ rfl) ?_
          simp only [Act.put, lzA, lzB, lzC]
          refine wpList_nil ?_
          refine hK8 _ _ ?_
          clear hK8 K8
          refine wp_seq_k (fun K9 hK9 => ?_)
          refine wp_seq_k (fun K10 hK10 => ?_)
          refine wp_region_lit ?_
          refine wl_yield (o := ⟨_, _, _, _, _, _⟩) (.int .i64 (k : Nat)) (yl_move (by rfl) _ rfl _ rfl) ?_
          simp only [Act.put, lzA, lzB, lzC]
          refine wl_yield (o := ⟨_, _, _, _, _, _⟩) (.pointer (some ⟨g1, k * 3, none⟩)) (yl_atEv (by rfl) _ _ rfl g1 k rfl rfl (hlt)) ?_
          simp only [Act.put, lzA, lzB, lzC]
          refine wl_yield (o := ⟨_, _, _, _, _, _⟩) (.pointer (some ⟨g1, k * 3 + 0, none⟩)) (yt_fVa0 (by rfl) _ rfl g1 (k * 3) rfl) ?_
          simp only [Act.put, lzA, lzB, lzC]
          refine wl_yield (o := ⟨_, _, _, _, _, _⟩) (.int .i64 ((EvV.get ev k).1)) (yt_ldI (by rfl) _ rfl _ _ rfl (EvV.get ev k).1 (fun _ h => by subst h; exact (EvIn.atI G1 k hlt).1)) ?_
          simp only [Act.put, lzA, lzB, lzC]
          refine wl_yield (o := ⟨_, _, _, _, _, _⟩) (.bool false) (yt_eqlI (by rfl) _ _ _ rfl (EvV.get ev k).1 1 false rfl rfl (decide_eq_false hk1)) ?_
          simp only [Act.put, lzA, lzB, lzC]
          refine wpList_nil ?_
          refine hK10 _ _ ?_
          clear hK10 K10
          refine wp_cond_false rfl ?_
          refine wp_skip ?_
          refine hK9 _ _ ?_
          clear hK9 K9
          refine wp_seq_k (fun K11 hK11 => ?_)
          refine wp_region_lit ?_
          refine wl_yield (o := ⟨_, _, _, _, _, _⟩) (.int .i64 (k : Nat)) (yl_move (by rfl) _ rfl _ rfl) ?_
          simp only [Act.put, lzA, lzB, lzC]
          refine wl_yield (o := ⟨_, _, _, _, _, _⟩) (.pointer (some ⟨g1, k * 3, none⟩)) (yl_atEv (by rfl) _ _ rfl g1 k rfl rfl (hlt)) ?_
          simp only [Act.put, lzA, lzB, lzC]
          refine wl_yield (o := ⟨_, _, _, _, _, _⟩) (.pointer (some ⟨g1, k * 3 + 0, none⟩)) (yt_fVa0 (by rfl) _ rfl g1 (k * 3) rfl) ?_
          simp only [Act.put, lzA, lzB, lzC]
          refine wl_yield (o := ⟨_, _, _, _, _, _⟩) (.int .i64 ((EvV.get ev k).1)) (yt_ldI (by rfl) _ rfl _ _ rfl (EvV.get ev k).1 (fun _ h => by subst h; exact (EvIn.atI G1 k hlt).1)) ?_
          simp only [Act.put, lzA, lzB, lzC]
          refine wl_yield (o := ⟨_, _, _, _, _, _⟩) (.bool false) (yt_eqlI (by rfl) _ _ _ rfl (EvV.get ev k).1 2 false rfl rfl (decide_eq_false hk2)) ?_
          simp only [Act.put, lzA, lzB, lzC]
          refine wpList_nil ?_
          refine hK11 _ _ ?_
          clear hK11 K11
          refine wp_cond_false rfl ?_
          refine wp_skip ?_
          refine hK7 _ _ ?_
          clear hK7 K7
          refine wp_region_lit ?_
          refine wl_yield (o := ⟨_, _, _, _, _, _⟩) (.int .i64 (k : Nat)) (yl_move (by rfl) _ rfl _ rfl) ?_
          simp only [Act.put, lzA, lzB, lzC]
          refine wl_yield (o := ⟨_, _, _, _, _, _⟩) (.int .i64 (k + 1 : Nat)) (yt_addI (by rfl) _ _ _ rfl ((k : Nat) : Int) 1 ((k + 1 : Nat) : Int) rfl rfl (by omega) (by omega) (by omega)) ?_
          simp only [Act.put, lzA, lzB, lzC]
          refine wl_yield (o := ⟨_, _, _, _, _, _⟩) (.int .i64 (k + 1 : Nat)) (yl_assign (by rfl) _ rfl _ rfl) ?_
          simp only [Act.put, lzA, lzB, lzC]
          refine wpList_nil ?_
          show _ ∧ _
          go_roundw
          case rel => exact ⟨k + 1, by rw [evP_step]; simp only [vaB, if_neg hk1, if_neg hk2, List.append_assoc, List.cons_append, List.nil_append, List.append_nil], rfl, by omega, G1, D⟩
          case measure => simp [intOf]; omega
    · obtain rfl : k = 4 := by omega
      refine wp_seq_k (fun K5 hK5 => ?_)
      refine wp_seq_k (fun K6 hK6 => ?_)
      refine wp_region_lit ?_
      refine wl_yield (o := ⟨_, _, _, _, _, _⟩) (.int .i64 4) (yl_move (by rfl) _ rfl _ rfl) ?_
      simp only [Act.put, lzA, lzB, lzC]
      refine wl_yield (o := ⟨_, _, _, _, _, _⟩) (.bool false) (yt_lssI (by rfl) _ _ _ rfl 4 4 false rfl rfl (by decide)) ?_
      simp only [Act.put, lzA, lzB, lzC]
      refine wpList_nil ?_
      refine hK6 _ _ ?_
      clear hK6 K6
      refine wp_cond_false rfl ?_
      refine wp_exit ?_
      refine hK3 _ _ ?_
      clear hK5 K5 hK3 K3
      refine wp_seq_k (fun K7 hK7 => ?_)
      refine wp_region_lit ?_
      refine wl_yield (o := ⟨_, _, _, _, _, _⟩) (.string (bs (evP ev 4))) (yl_move (by rfl) _ rfl _ rfl) ?_
      simp only [Act.put, lzA, lzB, lzC]
      refine wl_yield (o := ⟨_, _, _, _, _, _⟩) (.string (bs (evP ev 4))) (yl_assign (by rfl) _ rfl _ rfl) ?_
      simp only [Act.put, lzA, lzB, lzC]
      refine wpList_nil ?_
      refine hK7 _ _ ?_
      clear hK7 K7
      refine wp_ret ?_
      try simp only [Exit.inBlock, Exit.then]
      rw [evP_all] at *
      go_ret
      exact ⟨rfl, below_none D⟩
end Go.Proofs.YtlmdcaemjaldfaaGreat
namespace Go.Proofs.YtlmdcaemjaldfaaGreat
open Go.RowKit
def ev1 : EvV := evZ.put 0 (1, 1, ⟨#[]⟩)
def ev3 : EvV := evZ.put 0 (3, 0, ⟨#[]⟩)
theorem aw_f0 : rightF [] = true := by kernel_rfl
theorem aw_s0 : filB [] = [0] := by kernel_rfl
theorem aw_e1 : rightE ev1 = true := by kernel_rfl
theorem aw_s1 : evB ev1 = [1, 2, 0, 0, 0] := by kernel_rfl
theorem aw_e3 : rightE ev3 = false := by kernel_rfl
theorem aw_r1 : (rdF [1]).2 = 2 := by kernel_rfl
theorem aw_r2 : rdE [1, 2, 0, 0, 0] = (ev1, 0) := by kernel_rfl
theorem ev1_fit : evFit ev1 := ⟨Nat.zero_le _, Nat.zero_le _, Nat.zero_le _, Nat.zero_le _⟩
theorem ev3_fit : evFit ev3 := ⟨Nat.zero_le _, Nat.zero_le _, Nat.zero_le _, Nat.zero_le _⟩
theorem ev1_in : inE ev1 := fun i hi => by match i, hi with | 0, _ => exact ⟨by decide, by decide⟩ | 1, _ => exact ⟨by decide, by decide⟩ | 2, _ => exact ⟨by decide, by decide⟩ | 3, _ => exact ⟨by decide, by decide⟩
theorem ev3_in : inE ev3 := fun i hi => by match i, hi with | 0, _ => exact ⟨by decide, by decide⟩ | 1, _ => exact ⟨by decide, by decide⟩ | 2, _ => exact ⟨by decide, by decide⟩ | 3, _ => exact ⟨by decide, by decide⟩
section
variable {ops : Array Oper} {S : World → Prop} {o : Oper} {a : Act}
set_option maxRecDepth 100000 in
theorem yw_va11 (hw : Region.wanted o (yielded ops a.tmps) = true) (x y : Operand) (ho : o.op = .build 42 #[(0, x), (1, y)]) (p q : Int) (hx : a.eval x = .int .i64 p) (hy : a.eval y = .int .i64 q) : YieldsIf Tryz.prog ops S o (vVal (p, q, ⟨#[]⟩)) a :=
  Or.inl ⟨hw, fun w _ => by
    simp only [execOp, ho, List.map_toArray, List.map_cons, List.map_nil, hx, hy, vVal]
    go_simp⟩
set_option maxRecDepth 100000 in
theorem yw_ev0 (hw : Region.wanted o (yielded ops a.tmps) = true) (x : Operand) (ho : o.op = .build 44 #[(0, x)]) (v : Va) (hx : a.eval x = vVal v) : YieldsIf Tryz.prog ops S o (evVal (evZ.put 0 v)) a :=
  Or.inl ⟨hw, fun w _ => by
    simp only [execOp, ho, List.map_toArray, List.map_cons, List.map_nil, hx, vVal, evVal, evZ, vaZ, EvV.put]
    go_simp⟩
end
set_option maxHeartbeats 4000000 in
set_option maxRecDepth 100000 in
theorem awake8_any (w : World) :
    Calls Tryz.prog 20 #[] w fun r w' => r = .returned (.bool true) ∧ Below w.heap.size w w' := by
  have D : w.grownBy w none := grown_refl _ _
  go_enter Tryz.func20, Tryz.ntmps20
  refine wp_seq_k (fun K1 hK1 => ?_)
  refine wp_region_lit ?_
  refine wl_yield (o := ⟨_, _, _, _, _, _⟩) (.bool false) (yl_assign (by rfl) _ rfl _ rfl) ?_
  simp only [Act.put, lzA, lzB, lzC]
  refine wpList_nil ?_
  refine hK1 _ _ ?_
  clear hK1 K1
  refine wp_seq_k (fun K2 hK2 => ?_)
  refine wp_region_lit ?_
  refine wt_call (o := ⟨_, _, _, _, _, _⟩) (by rfl) 21 _ _ rfl #[.slice none 0 0] rfl (run_call Tryz.func21 (by kernel_rfl) (by kernel_rfl)) ?_
  refine (filter8_yes _ [] _ (bxs_nil _) aw_f0).mono ?_
  rintro r v1 ⟨rfl, kb⟩
  replace D := grown_below D kb
  clear kb
  refine Or.inl ⟨.tuple #[.string (bs (filB [])), .int .i64 0], rfl, ?_⟩
  simp only [Act.put, lzA, lzB, lzC]
  refine wl_yield (o := ⟨_, _, _, _, _, _⟩) (.tuple #[.string (bs (filB [])), .int .i64 0]) (yl_move (by rfl) _ rfl _ rfl) ?_
  simp only [Act.put, lzA, lzB, lzC]
  refine wl_yield (o := ⟨_, _, _, _, _, _⟩) (.string (bs (filB []))) (yl_extract0 (by rfl) _ rfl _ _ rfl) ?_
  simp only [Act.put, lzA, lzB, lzC]
  refine wl_yield (o := ⟨_, _, _, _, _, _⟩) (.int .i64 0) (yl_extract1 (by rfl) _ rfl _ _ rfl) ?_
  simp only [Act.put, lzA, lzB, lzC]
  refine wl_yield (o := ⟨_, _, _, _, _, _⟩) (.string (bs (filB []))) (yl_assign (by rfl) _ rfl _ rfl) ?_
  simp only [Act.put, lzA, lzB, lzC]
  refine wl_yield (o := ⟨_, _, _, _, _, _⟩) (.int .i64 0) (yl_assign (by rfl) _ rfl _ rfl) ?_
  simp only [Act.put, lzA, lzB, lzC]
  refine wpList_nil ?_
  refine hK2 _ _ ?_
  clear hK2 K2
  refine wp_seq_k (fun K3 hK3 => ?_)
  refine wp_region_lit ?_
  refine wl_yield (o := ⟨_, _, _, _, _, _⟩) (vVal (1, 1, ⟨#[]⟩)) (yw_va11 (by rfl) _ _ rfl 1 1 rfl rfl) ?_
  simp only [Act.put, lzA, lzB, lzC]
  refine wl_yield (o := ⟨_, _, _, _, _, _⟩) (evVal ev1) (yw_ev0 (by rfl) _ rfl (1, 1, ⟨#[]⟩) rfl) ?_
  simp only [Act.put, lzA, lzB, lzC]
  refine wt_call (o := ⟨_, _, _, _, _, _⟩) (by rfl) 30 _ _ rfl #[evVal ev1] rfl (run_call Tryz.func30 (by kernel_rfl) (by kernel_rfl)) ?_
  refine (event8_yes ev1 _ ev1_fit ev1_in aw_e1).mono ?_
  rintro r v2 ⟨rfl, kb⟩
  replace D := grown_below D kb
  clear kb
  refine Or.inl ⟨.tuple #[.string (bs (evB ev1)), .int .i64 0], rfl, ?_⟩
  simp only [Act.put, lzA, lzB, lzC]
  refine wl_yield (o := ⟨_, _, _, _, _, _⟩) (.tuple #[.string (bs (evB ev1)), .int .i64 0]) (yl_move (by rfl) _ rfl _ rfl) ?_
  simp only [Act.put, lzA, lzB, lzC]
  refine wl_yield (o := ⟨_, _, _, _, _, _⟩) (.string (bs (evB ev1))) (yl_extract0 (by rfl) _ rfl _ _ rfl) ?_
  simp only [Act.put, lzA, lzB, lzC]
  refine wl_yield (o := ⟨_, _, _, _, _, _⟩) (.int .i64 0) (yl_extract1 (by rfl) _ rfl _ _ rfl) ?_
  simp only [Act.put, lzA, lzB, lzC]
  refine wl_yield (o := ⟨_, _, _, _, _, _⟩) (.string (bs (evB ev1))) (yl_assign (by rfl) _ rfl _ rfl) ?_
  simp only [Act.put, lzA, lzB, lzC]
  refine wl_yield (o := ⟨_, _, _, _, _, _⟩) (.int .i64 0) (yl_assign (by rfl) _ rfl _ rfl) ?_
  simp only [Act.put, lzA, lzB, lzC]
  refine wpList_nil ?_
  refine hK3 _ _ ?_
  clear hK3 K3
  refine wp_seq_k (fun K4 hK4 => ?_)
  refine wp_region_lit ?_
  refine wl_yield (o := ⟨_, _, _, _, _, _⟩) (vVal (3, 0, ⟨#[]⟩)) (yw_buildV1 (by rfl) _ rfl 3 rfl) ?_
  simp only [Act.put, lzA, lzB, lzC]
  refine wl_yield (o := ⟨_, _, _, _, _, _⟩) (evVal ev3) (yw_ev0 (by rfl) _ rfl (3, 0, ⟨#[]⟩) rfl) ?_
  simp only [Act.put, lzA, lzB, lzC]
  refine wt_call (o := ⟨_, _, _, _, _, _⟩) (by rfl) 30 _ _ rfl #[evVal ev3] rfl (run_call Tryz.func30 (by kernel_rfl) (by kernel_rfl)) ?_
  refine (event8_no ev3 _ ev3_fit ev3_in aw_e3).mono ?_
  rintro r v3 ⟨rfl, kb⟩
  replace D := grown_below D kb
  clear kb
  refine Or.inl ⟨.tuple #[.string (bs ([])), .int .i64 1], rfl, ?_⟩
  simp only [Act.put, lzA, lzB, lzC]
  refine wl_yield (o := ⟨_, _, _, _, _, _⟩) (.tuple #[.string (bs ([])), .int .i64 1]) (yl_move (by rfl) _ rfl _ rfl) ?_
  simp only [Act.put, lzA, lzB, lzC]
  refine wl_yield (o := ⟨_, _, _, _, _, _⟩) (.string (bs ([]))) (yl_extract0 (by rfl) _ rfl _ _ rfl) ?_
  simp only [Act.put, lzA, lzB, lzC]
  refine wl_yield (o := ⟨_, _, _, _, _, _⟩) (.int .i64 1) (yl_extract1 (by rfl) _ rfl _ _ rfl) ?_
  simp only [Act.put, lzA, lzB, lzC]
  refine wl_yield (o := ⟨_, _, _, _, _, _⟩) (.string (bs ([]))) (yl_assign (by rfl) _ rfl _ rfl) ?_
  simp only [Act.put, lzA, lzB, lzC]
  refine wl_yield (o := ⟨_, _, _, _, _, _⟩) (.int .i64 1) (yl_assign (by rfl) _ rfl _ rfl) ?_
  simp only [Act.put, lzA, lzB, lzC]
  refine wpList_nil ?_
  refine hK4 _ _ ?_
  clear hK4 K4
  refine wp_seq_k (fun K5 hK5 => ?_)
  refine wp_region_lit ?_
  refine wt_call (o := ⟨_, _, _, _, _, _⟩) (by rfl) 23 _ _ rfl #[.string (bs ([1]))] rfl (run_call Tryz.func23 (by kernel_rfl) (by kernel_rfl)) ?_
  refine (readFilter_any [1] _ (by decide)).mono ?_
  rintro r v4 (⟨p, n, c, z, rfl, ⟨-, hzz⟩, kb⟩)
  · rw [aw_r1] at hzz
    subst hzz
    replace D := grown_below D kb
    clear kb
    refine Or.inl ⟨.tuple #[.slice p n c, .int .i64 2], rfl, ?_⟩
    simp only [Act.put, lzA, lzB, lzC]
    refine wl_yield (o := ⟨_, _, _, _, _, _⟩) (.tuple #[.slice p n c, .int .i64 2]) (yl_move (by rfl) _ rfl _ rfl) ?_
    simp only [Act.put, lzA, lzB, lzC]
    refine wl_yield (o := ⟨_, _, _, _, _, _⟩) (.slice p n c) (yl_extract0 (by rfl) _ rfl _ _ rfl) ?_
    simp only [Act.put, lzA, lzB, lzC]
    refine wl_yield (o := ⟨_, _, _, _, _, _⟩) (.int .i64 2) (yl_extract1 (by rfl) _ rfl _ _ rfl) ?_
    simp only [Act.put, lzA, lzB, lzC]
    refine wl_yield (o := ⟨_, _, _, _, _, _⟩) (.slice p n c) (yl_assign (by rfl) _ rfl _ rfl) ?_
    simp only [Act.put, lzA, lzB, lzC]
    refine wl_yield (o := ⟨_, _, _, _, _, _⟩) (.int .i64 2) (yl_assign (by rfl) _ rfl _ rfl) ?_
    simp only [Act.put, lzA, lzB, lzC]
    refine wpList_nil ?_
    refine hK5 _ _ ?_
    clear hK5 K5
    refine wp_seq_k (fun K6 hK6 => ?_)
    refine wp_region_lit ?_
    refine wl_yield (o := ⟨_, _, _, _, _, _⟩) (.string (bs (evB ev1))) (yl_move (by rfl) _ rfl _ rfl) ?_
    simp only [Act.put, lzA, lzB, lzC]
    refine wt_call (o := ⟨_, _, _, _, _, _⟩) (by rfl) 27 _ _ rfl #[.string (bs (evB ev1))] rfl (run_call Tryz.func27 (by kernel_rfl) (by kernel_rfl)) ?_
    refine (readEvent8_any (evB ev1) _ (by rw [aw_s1]; decide)).mono ?_
    rintro r v5 ⟨rfl, kb⟩
    replace D := grown_below D kb
    clear kb
    refine Or.inl ⟨.tuple #[evVal ev1, .int .i64 0], by rw [aw_s1, aw_r2], ?_⟩
    simp only [Act.put, lzA, lzB, lzC]
    refine wl_yield (o := ⟨_, _, _, _, _, _⟩) (.tuple #[evVal ev1, .int .i64 0]) (yl_move (by rfl) _ rfl _ rfl) ?_
    simp only [Act.put, lzA, lzB, lzC]
    refine wl_yield (o := ⟨_, _, _, _, _, _⟩) (evVal ev1) (yl_extract0 (by rfl) _ rfl _ _ rfl) ?_
    simp only [Act.put, lzA, lzB, lzC]
    refine wl_yield (o := ⟨_, _, _, _, _, _⟩) (.int .i64 0) (yl_extract1 (by rfl) _ rfl _ _ rfl) ?_
    simp only [Act.put, lzA, lzB, lzC]
    refine wt_allocEv (o := ⟨_, _, _, _, _, _⟩) (by rfl) rfl (fun v6 g6 hg G6 kb => ?_)
    simp only [Act.put, lzA, lzB, lzC]
    have ge_g6 : w.heap.size ≤ g6 := Nat.le_trans D.size hg
    clear hg
    replace D := grown_below D kb
    clear kb
    replace G6 : EvIn v6 g6 evZ := G6
    refine wt_putEv (o := ⟨_, _, _, _, _, _⟩) rfl _ _ rfl g6 rfl ev1 rfl G6 rfl (fun v7 X kg => ?_)
    simp only [Act.put, lzA, lzB, lzC]
    replace D := gr_new D ge_g6 kg
    clear kg
    replace G6 : EvIn v7 g6 ev1 := X
    clear X
    refine wl_yield (o := ⟨_, _, _, _, _, _⟩) (.int .i64 0) (yl_assign (by rfl) _ rfl _ rfl) ?_
    simp only [Act.put, lzA, lzB, lzC]
    refine wpList_nil ?_
    refine hK6 _ _ ?_
    clear hK6 K6
    refine wp_seq_k (fun K7 hK7 => ?_)
    refine wp_region_lit ?_
    refine wl_yield (o := ⟨_, _, _, _, _, _⟩) (.string (bs (filB []))) (yl_move (by rfl) _ rfl _ rfl) ?_
    simp only [Act.put, lzA, lzB, lzC]
    refine wl_yield (o := ⟨_, _, _, _, _, _⟩) (.bool true) (yt_eqS (by rfl) _ _ _ rfl (filB []) ([0]) true rfl rfl (by rw [aw_s0]; decide)) ?_
    simp only [Act.put, lzA, lzB, lzC]
    refine wl_yield (o := ⟨_, _, _, _, _, _⟩) (.bool true) (yl_move (by rfl) _ rfl _ rfl) ?_
    simp only [Act.put, lzA, lzB, lzC]
    refine wl_yield (o := ⟨_, _, _, _, _, _⟩) (.int .i64 0) (yl_move (by rfl) _ rfl _ rfl) ?_
    simp only [Act.put, lzA, lzB, lzC]
    refine wl_yield (o := ⟨_, _, _, _, _, _⟩) (.bool true) (yt_eqlE (by rfl) _ _ _ rfl 0 0 true rfl rfl (by decide)) ?_
    simp only [Act.put, lzA, lzB, lzC]
    refine wl_yield (o := ⟨_, _, _, _, _, _⟩) (.bool true) (yl_pickT (by rfl) _ _ _ rfl rfl _ rfl) ?_
    simp only [Act.put, lzA, lzB, lzC]
    refine wl_yield (o := ⟨_, _, _, _, _, _⟩) (.bool true) (yl_move (by rfl) _ rfl _ rfl) ?_
    simp only [Act.put, lzA, lzB, lzC]
    refine wl_yield (o := ⟨_, _, _, _, _, _⟩) (.string (bs (evB ev1))) (yl_move (by rfl) _ rfl _ rfl) ?_
    simp only [Act.put, lzA, lzB, lzC]
    refine wl_yield (o := ⟨_, _, _, _, _, _⟩) (.bool true) (yt_eqS (by rfl) _ _ _ rfl (evB ev1) ([1, 2, 0, 0, 0]) true rfl rfl (by rw [aw_s1]; decide)) ?_
    simp only [Act.put, lzA, lzB, lzC]
    refine wl_yield (o := ⟨_, _, _, _, _, _⟩) (.bool true) (yl_pickT (by rfl) _ _ _ rfl rfl _ rfl) ?_
    simp only [Act.put, lzA, lzB, lzC]
    refine wl_yield (o := ⟨_, _, _, _, _, _⟩) (.bool true) (yl_move (by rfl) _ rfl _ rfl) ?_
    simp only [Act.put, lzA, lzB, lzC]
    refine wl_yield (o := ⟨_, _, _, _, _, _⟩) (.int .i64 0) (yl_move (by rfl) _ rfl _ rfl) ?_
    simp only [Act.put, lzA, lzB, lzC]
    refine wl_yield (o := ⟨_, _, _, _, _, _⟩) (.bool true) (yt_eqlE (by rfl) _ _ _ rfl 0 0 true rfl rfl (by decide)) ?_
    simp only [Act.put, lzA, lzB, lzC]
    refine wl_yield (o := ⟨_, _, _, _, _, _⟩) (.bool true) (yl_pickT (by rfl) _ _ _ rfl rfl _ rfl) ?_
    simp only [Act.put, lzA, lzB, lzC]
    refine wl_yield (o := ⟨_, _, _, _, _, _⟩) (.bool true) (yl_move (by rfl) _ rfl _ rfl) ?_
    simp only [Act.put, lzA, lzB, lzC]
    refine wl_yield (o := ⟨_, _, _, _, _, _⟩) (.int .i64 1) (yl_move (by rfl) _ rfl _ rfl) ?_
    simp only [Act.put, lzA, lzB, lzC]
    refine wl_yield (o := ⟨_, _, _, _, _, _⟩) (.bool true) (yt_eqlE (by rfl) _ _ _ rfl 1 1 true rfl rfl (by decide)) ?_
    simp only [Act.put, lzA, lzB, lzC]
    refine wl_yield (o := ⟨_, _, _, _, _, _⟩) (.bool true) (yl_pickT (by rfl) _ _ _ rfl rfl _ rfl) ?_
    simp only [Act.put, lzA, lzB, lzC]
    refine wl_yield (o := ⟨_, _, _, _, _, _⟩) (.bool true) (yl_move (by rfl) _ rfl _ rfl) ?_
    simp only [Act.put, lzA, lzB, lzC]
    refine wl_yield (o := ⟨_, _, _, _, _, _⟩) (.int .i64 2) (yl_move (by rfl) _ rfl _ rfl) ?_
    simp only [Act.put, lzA, lzB, lzC]
    refine wl_yield (o := ⟨_, _, _, _, _, _⟩) (.bool true) (yt_eqlE (by rfl) _ _ _ rfl 2 2 true rfl rfl (by decide)) ?_
    simp only [Act.put, lzA, lzB, lzC]
    refine wl_yield (o := ⟨_, _, _, _, _, _⟩) (.bool true) (yl_pickT (by rfl) _ _ _ rfl rfl _ rfl) ?_
    simp only [Act.put, lzA, lzB, lzC]
    refine wl_yield (o := ⟨_, _, _, _, _, _⟩) (.bool true) (yl_move (by rfl) _ rfl _ rfl) ?_
    simp only [Act.put, lzA, lzB, lzC]
    refine wl_yield (o := ⟨_, _, _, _, _, _⟩) (.pointer (some ⟨g6, 0, none⟩)) (yl_atEv (by rfl) _ _ rfl g6 0 rfl rfl (by omega)) ?_
    simp only [Act.put, lzA, lzB, lzC]
    refine wl_yield (o := ⟨_, _, _, _, _, _⟩) (.pointer (some ⟨g6, 1, none⟩)) (yt_fVa1 (by rfl) _ rfl g6 0 rfl) ?_
    simp only [Act.put, lzA, lzB, lzC]
    refine wl_yield (o := ⟨_, _, _, _, _, _⟩) (.int .i64 1) (yt_ldI (by rfl) _ rfl _ _ rfl 1 (fun _ h => by subst h; exact (EvIn.cells G6).2.1)) ?_
    simp only [Act.put, lzA, lzB, lzC]
    refine wl_yield (o := ⟨_, _, _, _, _, _⟩) (.bool true) (yt_eqlI (by rfl) _ _ _ rfl 1 1 true rfl rfl (by decide)) ?_
    simp only [Act.put, lzA, lzB, lzC]
    refine wl_yield (o := ⟨_, _, _, _, _, _⟩) (.bool true) (yl_pickT (by rfl) _ _ _ rfl rfl _ rfl) ?_
    simp only [Act.put, lzA, lzB, lzC]
    refine wl_yield (o := ⟨_, _, _, _, _, _⟩) (.bool true) (yl_move (by rfl) _ rfl _ rfl) ?_
    simp only [Act.put, lzA, lzB, lzC]
    refine wl_yield (o := ⟨_, _, _, _, _, _⟩) (.int .i64 0) (yl_move (by rfl) _ rfl _ rfl) ?_
    simp only [Act.put, lzA, lzB, lzC]
    refine wl_yield (o := ⟨_, _, _, _, _, _⟩) (.bool true) (yt_eqlE (by rfl) _ _ _ rfl 0 0 true rfl rfl (by decide)) ?_
    simp only [Act.put, lzA, lzB, lzC]
    refine wl_yield (o := ⟨_, _, _, _, _, _⟩) (.bool true) (yl_pickT (by rfl) _ _ _ rfl rfl _ rfl) ?_
    simp only [Act.put, lzA, lzB, lzC]
    refine wl_yield (o := ⟨_, _, _, _, _, _⟩) (.bool true) (yl_assign (by rfl) _ rfl _ rfl) ?_
    simp only [Act.put, lzA, lzB, lzC]
    refine wpList_nil ?_
    refine hK7 _ _ ?_
    clear hK7 K7
    refine wp_ret ?_
    go_ret
    exact ⟨rfl, below_none D⟩
end Go.Proofs.YtlmdcaemjaldfaaGreat
namespace Go.Proofs.YtlmdcaemjaldfaaGreat
open Go.RowKit
section
variable {ops : Array Oper} {S : World → Prop} {o : Oper} {a : Act}
theorem yt_lenB8 (hw : Region.wanted o (yielded ops a.tmps) = true) (x : Operand) (ho : o.op = .call { callee := .builtin .len, args := #[x], argTypes := #[9] }) (s : ByteArray) (hx : a.eval x = .string s) : YieldsIf Tryz.prog ops S o (.int .i64 (s.size : Nat)) a :=
  Or.inl ⟨hw, fun w hS => by
    unfold execOp
    simp only [ho, resolve, invoke, builtin, Sem.run_bind, Sem.run_pure, Result.andThen_ok, List.map_toArray, List.map_cons, List.map_nil, hx]
    go_simp⟩
theorem yt_addW (hw : Region.wanted o (yielded ops a.tmps) = true) (x y : Operand) (t : TypeId) (ho : o.op = .binOp .add 3 x y t) (p q : Int) (hx : a.eval x = .int .i64 p) (hy : a.eval y = .int .i64 q) : YieldsIf Tryz.prog ops S o (.int .i64 (IntKind.i64.wrap (p + q))) a :=
  Or.inl ⟨hw, fun w hS => by
    simp only [execOp, ho, hx, hy]
    go_simp⟩
end
theorem rdE_back {e : EvV} (h : okEv e) : rdE (evB e) = (e, 0) := by
  have := evO_tk.back e [] h
  rw [List.append_nil] at this
  unfold rdE
  rw [this]
  rfl
theorem evB_le {e : EvV} (h : okEv e) : (evB e).length ≤ 80 := by
  have := evP_le h 4 (Nat.le_refl _)
  rw [evP_all] at this
  exact this
theorem ok_sz {e : EvV} (h : okEv e) : e.v0.2.2.size ≤ 8 ∧ e.v1.2.2.size ≤ 8 ∧ e.v2.2.2.size ≤ 8 ∧ e.v3.2.2.size ≤ 8 := by
  have key : ∀ v : Va, okVa v → v.2.2.size ≤ 8 := fun v hv => by
    rcases okVa_cases hv with rfl | ⟨n, rfl, _⟩ | ⟨s, rfl, hs⟩
    · exact Nat.zero_le _
    · exact Nat.zero_le _
    · exact hs
  exact ⟨key _ h.1, key _ h.2.1, key _ h.2.2.1, key _ h.2.2.2⟩
set_option maxHeartbeats 4000000 in
set_option maxRecDepth 100000 in
theorem wireEvents_law (ev : EvV) (w : World) (hf : evFit ev) (hi : inE ev) :
    Calls Tryz.prog 7 #[evVal ev] w fun r w' => r = .returned (.bool true) ∧ Below w.heap.size w w' := by
  have D : w.grownBy w none := grown_refl _ _
  cases hr : rightE ev
  · by_cases hB : (300 : Int) < IntKind.i64.wrap (IntKind.i64.wrap (IntKind.i64.wrap (((ev.v0.2.2.size : Nat) : Int) + ((ev.v1.2.2.size : Nat) : Int)) + ((ev.v2.2.2.size : Nat) : Int)) + ((ev.v3.2.2.size : Nat) : Int))
    · go_enter Tryz.func7, Tryz.ntmps7
      refine wp_seq_k (fun K1 hK1 => ?_)
      refine wp_region_lit ?_
      refine wt_boxEv (o := ⟨_, _, _, _, _, _⟩) (by rfl) _ rfl ev rfl (fun v1 g1 hg G1 kb => ?_)
      simp only [Act.put, lzA, lzB, lzC]
      have ge_g1 : w.heap.size ≤ g1 := Nat.le_trans D.size hg
      clear hg
      replace D := grown_below D kb
      clear kb
      replace G1 : EvIn v1 g1 ev := G1
      refine wl_yield (o := ⟨_, _, _, _, _, _⟩) (.bool false) (yl_assign (by rfl) _ rfl _ rfl) ?_
      simp only [Act.put, lzA, lzB, lzC]
      refine wpList_nil ?_
      refine hK1 _ _ ?_
      clear hK1 K1
      refine wp_seq_k (fun K2 hK2 => ?_)
      refine wp_seq_k (fun K3 hK3 => ?_)
      refine wp_region_lit ?_
      refine wt_call (o := ⟨_, _, _, _, _, _⟩) (by rfl) 20 _ _ rfl #[] rfl (run_call Tryz.func20 (by kernel_rfl) (by kernel_rfl)) ?_
      refine (awake8_any _).mono ?_
      rintro r v2 ⟨rfl, kb⟩
      replace D := grown_below D kb
      replace G1 := heap_on G1 kb
      clear kb
      refine Or.inl ⟨.bool true, rfl, ?_⟩
      simp only [Act.put, lzA, lzB, lzC]
      refine wl_yield (o := ⟨_, _, _, _, _, _⟩) (.bool false) (yl_not (by rfl) _ _ rfl true rfl) ?_
      simp only [Act.put, lzA, lzB, lzC]
      refine wl_yield (o := ⟨_, _, _, _, _, _⟩) (.bool false) (yl_move (by rfl) _ rfl _ rfl) ?_
      simp only [Act.put, lzA, lzB, lzC]
      refine wl_yield (o := ⟨_, _, _, _, _, _⟩) (.pointer (some ⟨g1, 0, none⟩)) (yl_atEv (by rfl) _ _ rfl g1 0 rfl rfl (by omega)) ?_
      simp only [Act.put, lzA, lzB, lzC]
      refine wl_yield (o := ⟨_, _, _, _, _, _⟩) (.pointer (some ⟨g1, 2, none⟩)) (yt_fVa2 (by rfl) _ rfl g1 0 rfl) ?_
      simp only [Act.put, lzA, lzB, lzC]
      refine wl_yield (o := ⟨_, _, _, _, _, _⟩) (.string ev.v0.2.2) (yt_ldS (by rfl) _ rfl _ _ rfl ev.v0.2.2 (fun _ h => by subst h; exact (EvIn.cells G1).2.2.1)) ?_
      simp only [Act.put, lzA, lzB, lzC]
      refine wl_yield (o := ⟨_, _, _, _, _, _⟩) (.int .i64 (ev.v0.2.2.size : Nat)) (yt_lenB8 (by rfl) _ rfl ev.v0.2.2 rfl) ?_
      simp only [Act.put, lzA, lzB, lzC]
      refine wl_yield (o := ⟨_, _, _, _, _, _⟩) (.pointer (some ⟨g1, 3, none⟩)) (yl_atEv (by rfl) _ _ rfl g1 1 rfl rfl (by omega)) ?_
      simp only [Act.put, lzA, lzB, lzC]
      refine wl_yield (o := ⟨_, _, _, _, _, _⟩) (.pointer (some ⟨g1, 5, none⟩)) (yt_fVa2 (by rfl) _ rfl g1 3 rfl) ?_
      simp only [Act.put, lzA, lzB, lzC]
      refine wl_yield (o := ⟨_, _, _, _, _, _⟩) (.string ev.v1.2.2) (yt_ldS (by rfl) _ rfl _ _ rfl ev.v1.2.2 (fun _ h => by subst h; exact (EvIn.cells G1).2.2.2.2.2.1)) ?_
      simp only [Act.put, lzA, lzB, lzC]
      refine wl_yield (o := ⟨_, _, _, _, _, _⟩) (.int .i64 (ev.v1.2.2.size : Nat)) (yt_lenB8 (by rfl) _ rfl ev.v1.2.2 rfl) ?_
      simp only [Act.put, lzA, lzB, lzC]
      refine wl_yield (o := ⟨_, _, _, _, _, _⟩) (.int .i64 (IntKind.i64.wrap (((ev.v0.2.2.size : Nat) : Int) + ((ev.v1.2.2.size : Nat) : Int)))) (yt_addW (by rfl) _ _ _ rfl (((ev.v0.2.2.size : Nat) : Int)) (((ev.v1.2.2.size : Nat) : Int)) rfl rfl) ?_
      simp only [Act.put, lzA, lzB, lzC]
      refine wl_yield (o := ⟨_, _, _, _, _, _⟩) (.pointer (some ⟨g1, 6, none⟩)) (yl_atEv (by rfl) _ _ rfl g1 2 rfl rfl (by omega)) ?_
      simp only [Act.put, lzA, lzB, lzC]
      refine wl_yield (o := ⟨_, _, _, _, _, _⟩) (.pointer (some ⟨g1, 8, none⟩)) (yt_fVa2 (by rfl) _ rfl g1 6 rfl) ?_
      simp only [Act.put, lzA, lzB, lzC]
      refine wl_yield (o := ⟨_, _, _, _, _, _⟩) (.string ev.v2.2.2) (yt_ldS (by rfl) _ rfl _ _ rfl ev.v2.2.2 (fun _ h => by subst h; exact (EvIn.cells G1).2.2.2.2.2.2.2.2.1)) ?_
      simp only [Act.put, lzA, lzB, lzC]
      refine wl_yield (o := ⟨_, _, _, _, _, _⟩) (.int .i64 (ev.v2.2.2.size : Nat)) (yt_lenB8 (by rfl) _ rfl ev.v2.2.2 rfl) ?_
      simp only [Act.put, lzA, lzB, lzC]
      refine wl_yield (o := ⟨_, _, _, _, _, _⟩) (.int .i64 (IntKind.i64.wrap (IntKind.i64.wrap (((ev.v0.2.2.size : Nat) : Int) + ((ev.v1.2.2.size : Nat) : Int)) + ((ev.v2.2.2.size : Nat) : Int)))) (yt_addW (by rfl) _ _ _ rfl (IntKind.i64.wrap (((ev.v0.2.2.size : Nat) : Int) + ((ev.v1.2.2.size : Nat) : Int))) (((ev.v2.2.2.size : Nat) : Int)) rfl rfl) ?_
      simp only [Act.put, lzA, lzB, lzC]
      refine wl_yield (o := ⟨_, _, _, _, _, _⟩) (.pointer (some ⟨g1, 9, none⟩)) (yl_atEv (by rfl) _ _ rfl g1 3 rfl rfl (by omega)) ?_
      simp only [Act.put, lzA, lzB, lzC]
      refine wl_yield (o := ⟨_, _, _, _, _, _⟩) (.pointer (some ⟨g1, 11, none⟩)) (yt_fVa2 (by rfl) _ rfl g1 9 rfl) ?_
      simp only [Act.put, lzA, lzB, lzC]
      refine wl_yield (o := ⟨_, _, _, _, _, _⟩) (.string ev.v3.2.2) (yt_ldS (by rfl) _ rfl _ _ rfl ev.v3.2.2 (fun _ h => by subst h; exact (EvIn.cells G1).2.2.2.2.2.2.2.2.2.2.2)) ?_
      simp only [Act.put, lzA, lzB, lzC]
      refine wl_yield (o := ⟨_, _, _, _, _, _⟩) (.int .i64 (ev.v3.2.2.size : Nat)) (yt_lenB8 (by rfl) _ rfl ev.v3.2.2 rfl) ?_
      simp only [Act.put, lzA, lzB, lzC]
      refine wl_yield (o := ⟨_, _, _, _, _, _⟩) (.int .i64 (IntKind.i64.wrap (IntKind.i64.wrap (IntKind.i64.wrap (((ev.v0.2.2.size : Nat) : Int) + ((ev.v1.2.2.size : Nat) : Int)) + ((ev.v2.2.2.size : Nat) : Int)) + ((ev.v3.2.2.size : Nat) : Int)))) (yt_addW (by rfl) _ _ _ rfl (IntKind.i64.wrap (IntKind.i64.wrap (((ev.v0.2.2.size : Nat) : Int) + ((ev.v1.2.2.size : Nat) : Int)) + ((ev.v2.2.2.size : Nat) : Int))) (((ev.v3.2.2.size : Nat) : Int)) rfl rfl) ?_
      simp only [Act.put, lzA, lzB, lzC]
      refine wl_yield (o := ⟨_, _, _, _, _, _⟩) (.bool true) (yt_gtrI (by rfl) _ _ _ rfl (IntKind.i64.wrap (IntKind.i64.wrap (IntKind.i64.wrap (((ev.v0.2.2.size : Nat) : Int) + ((ev.v1.2.2.size : Nat) : Int)) + ((ev.v2.2.2.size : Nat) : Int)) + ((ev.v3.2.2.size : Nat) : Int))) 300 true rfl rfl (decide_eq_true hB)) ?_
      simp only [Act.put, lzA, lzB, lzC]
      refine wl_yield (o := ⟨_, _, _, _, _, _⟩) (.bool true) (yl_pickF (by rfl) _ _ _ rfl rfl _ rfl) ?_
      simp only [Act.put, lzA, lzB, lzC]
      refine wpList_nil ?_
      refine hK3 _ _ ?_
      clear hK3 K3
      refine wp_cond_true rfl ?_
      refine wp_seq_k (fun K4 hK4 => ?_)
      refine wp_region_lit ?_
      refine wt_call (o := ⟨_, _, _, _, _, _⟩) (by rfl) 20 _ _ rfl #[] rfl (run_call Tryz.func20 (by kernel_rfl) (by kernel_rfl)) ?_
      refine (awake8_any _).mono ?_
      rintro r v3 ⟨rfl, kb⟩
      replace D := grown_below D kb
      replace G1 := heap_on G1 kb
      clear kb
      refine Or.inl ⟨.bool true, rfl, ?_⟩
      simp only [Act.put, lzA, lzB, lzC]
      refine wl_yield (o := ⟨_, _, _, _, _, _⟩) (.bool true) (yl_assign (by rfl) _ rfl _ rfl) ?_
      simp only [Act.put, lzA, lzB, lzC]
      refine wpList_nil ?_
      refine hK4 _ _ ?_
      clear hK4 K4
      refine wp_ret ?_
      go_ret
      exact ⟨rfl, below_none D⟩
    · go_enter Tryz.func7, Tryz.ntmps7
      refine wp_seq_k (fun K1 hK1 => ?_)
      refine wp_region_lit ?_
      refine wt_boxEv (o := ⟨_, _, _, _, _, _⟩) (by rfl) _ rfl ev rfl (fun v1 g1 hg G1 kb => ?_)
      simp only [Act.put, lzA, lzB, lzC]
      have ge_g1 : w.heap.size ≤ g1 := Nat.le_trans D.size hg
      clear hg
      replace D := grown_below D kb
      clear kb
      replace G1 : EvIn v1 g1 ev := G1
      refine wl_yield (o := ⟨_, _, _, _, _, _⟩) (.bool false) (yl_assign (by rfl) _ rfl _ rfl) ?_
      simp only [Act.put, lzA, lzB, lzC]
      refine wpList_nil ?_
      refine hK1 _ _ ?_
      clear hK1 K1
      refine wp_seq_k (fun K2 hK2 => ?_)
      refine wp_seq_k (fun K3 hK3 => ?_)
      refine wp_region_lit ?_
      refine wt_call (o := ⟨_, _, _, _, _, _⟩) (by rfl) 20 _ _ rfl #[] rfl (run_call Tryz.func20 (by kernel_rfl) (by kernel_rfl)) ?_
      refine (awake8_any _).mono ?_
      rintro r v2 ⟨rfl, kb⟩
      replace D := grown_below D kb
      replace G1 := heap_on G1 kb
      clear kb
      refine Or.inl ⟨.bool true, rfl, ?_⟩
      simp only [Act.put, lzA, lzB, lzC]
      refine wl_yield (o := ⟨_, _, _, _, _, _⟩) (.bool false) (yl_not (by rfl) _ _ rfl true rfl) ?_
      simp only [Act.put, lzA, lzB, lzC]
      refine wl_yield (o := ⟨_, _, _, _, _, _⟩) (.bool false) (yl_move (by rfl) _ rfl _ rfl) ?_
      simp only [Act.put, lzA, lzB, lzC]
      refine wl_yield (o := ⟨_, _, _, _, _, _⟩) (.pointer (some ⟨g1, 0, none⟩)) (yl_atEv (by rfl) _ _ rfl g1 0 rfl rfl (by omega)) ?_
      simp only [Act.put, lzA, lzB, lzC]
      refine wl_yield (o := ⟨_, _, _, _, _, _⟩) (.pointer (some ⟨g1, 2, none⟩)) (yt_fVa2 (by rfl) _ rfl g1 0 rfl) ?_
      simp only [Act.put, lzA, lzB, lzC]
      refine wl_yield (o := ⟨_, _, _, _, _, _⟩) (.string ev.v0.2.2) (yt_ldS (by rfl) _ rfl _ _ rfl ev.v0.2.2 (fun _ h => by subst h; exact (EvIn.cells G1).2.2.1)) ?_
      simp only [Act.put, lzA, lzB, lzC]
      refine wl_yield (o := ⟨_, _, _, _, _, _⟩) (.int .i64 (ev.v0.2.2.size : Nat)) (yt_lenB8 (by rfl) _ rfl ev.v0.2.2 rfl) ?_
      simp only [Act.put, lzA, lzB, lzC]
      refine wl_yield (o := ⟨_, _, _, _, _, _⟩) (.pointer (some ⟨g1, 3, none⟩)) (yl_atEv (by rfl) _ _ rfl g1 1 rfl rfl (by omega)) ?_
      simp only [Act.put, lzA, lzB, lzC]
      refine wl_yield (o := ⟨_, _, _, _, _, _⟩) (.pointer (some ⟨g1, 5, none⟩)) (yt_fVa2 (by rfl) _ rfl g1 3 rfl) ?_
      simp only [Act.put, lzA, lzB, lzC]
      refine wl_yield (o := ⟨_, _, _, _, _, _⟩) (.string ev.v1.2.2) (yt_ldS (by rfl) _ rfl _ _ rfl ev.v1.2.2 (fun _ h => by subst h; exact (EvIn.cells G1).2.2.2.2.2.1)) ?_
      simp only [Act.put, lzA, lzB, lzC]
      refine wl_yield (o := ⟨_, _, _, _, _, _⟩) (.int .i64 (ev.v1.2.2.size : Nat)) (yt_lenB8 (by rfl) _ rfl ev.v1.2.2 rfl) ?_
      simp only [Act.put, lzA, lzB, lzC]
      refine wl_yield (o := ⟨_, _, _, _, _, _⟩) (.int .i64 (IntKind.i64.wrap (((ev.v0.2.2.size : Nat) : Int) + ((ev.v1.2.2.size : Nat) : Int)))) (yt_addW (by rfl) _ _ _ rfl (((ev.v0.2.2.size : Nat) : Int)) (((ev.v1.2.2.size : Nat) : Int)) rfl rfl) ?_
      simp only [Act.put, lzA, lzB, lzC]
      refine wl_yield (o := ⟨_, _, _, _, _, _⟩) (.pointer (some ⟨g1, 6, none⟩)) (yl_atEv (by rfl) _ _ rfl g1 2 rfl rfl (by omega)) ?_
      simp only [Act.put, lzA, lzB, lzC]
      refine wl_yield (o := ⟨_, _, _, _, _, _⟩) (.pointer (some ⟨g1, 8, none⟩)) (yt_fVa2 (by rfl) _ rfl g1 6 rfl) ?_
      simp only [Act.put, lzA, lzB, lzC]
      refine wl_yield (o := ⟨_, _, _, _, _, _⟩) (.string ev.v2.2.2) (yt_ldS (by rfl) _ rfl _ _ rfl ev.v2.2.2 (fun _ h => by subst h; exact (EvIn.cells G1).2.2.2.2.2.2.2.2.1)) ?_
      simp only [Act.put, lzA, lzB, lzC]
      refine wl_yield (o := ⟨_, _, _, _, _, _⟩) (.int .i64 (ev.v2.2.2.size : Nat)) (yt_lenB8 (by rfl) _ rfl ev.v2.2.2 rfl) ?_
      simp only [Act.put, lzA, lzB, lzC]
      refine wl_yield (o := ⟨_, _, _, _, _, _⟩) (.int .i64 (IntKind.i64.wrap (IntKind.i64.wrap (((ev.v0.2.2.size : Nat) : Int) + ((ev.v1.2.2.size : Nat) : Int)) + ((ev.v2.2.2.size : Nat) : Int)))) (yt_addW (by rfl) _ _ _ rfl (IntKind.i64.wrap (((ev.v0.2.2.size : Nat) : Int) + ((ev.v1.2.2.size : Nat) : Int))) (((ev.v2.2.2.size : Nat) : Int)) rfl rfl) ?_
      simp only [Act.put, lzA, lzB, lzC]
      refine wl_yield (o := ⟨_, _, _, _, _, _⟩) (.pointer (some ⟨g1, 9, none⟩)) (yl_atEv (by rfl) _ _ rfl g1 3 rfl rfl (by omega)) ?_
      simp only [Act.put, lzA, lzB, lzC]
      refine wl_yield (o := ⟨_, _, _, _, _, _⟩) (.pointer (some ⟨g1, 11, none⟩)) (yt_fVa2 (by rfl) _ rfl g1 9 rfl) ?_
      simp only [Act.put, lzA, lzB, lzC]
      refine wl_yield (o := ⟨_, _, _, _, _, _⟩) (.string ev.v3.2.2) (yt_ldS (by rfl) _ rfl _ _ rfl ev.v3.2.2 (fun _ h => by subst h; exact (EvIn.cells G1).2.2.2.2.2.2.2.2.2.2.2)) ?_
      simp only [Act.put, lzA, lzB, lzC]
      refine wl_yield (o := ⟨_, _, _, _, _, _⟩) (.int .i64 (ev.v3.2.2.size : Nat)) (yt_lenB8 (by rfl) _ rfl ev.v3.2.2 rfl) ?_
      simp only [Act.put, lzA, lzB, lzC]
      refine wl_yield (o := ⟨_, _, _, _, _, _⟩) (.int .i64 (IntKind.i64.wrap (IntKind.i64.wrap (IntKind.i64.wrap (((ev.v0.2.2.size : Nat) : Int) + ((ev.v1.2.2.size : Nat) : Int)) + ((ev.v2.2.2.size : Nat) : Int)) + ((ev.v3.2.2.size : Nat) : Int)))) (yt_addW (by rfl) _ _ _ rfl (IntKind.i64.wrap (IntKind.i64.wrap (((ev.v0.2.2.size : Nat) : Int) + ((ev.v1.2.2.size : Nat) : Int)) + ((ev.v2.2.2.size : Nat) : Int))) (((ev.v3.2.2.size : Nat) : Int)) rfl rfl) ?_
      simp only [Act.put, lzA, lzB, lzC]
      refine wl_yield (o := ⟨_, _, _, _, _, _⟩) (.bool false) (yt_gtrI (by rfl) _ _ _ rfl (IntKind.i64.wrap (IntKind.i64.wrap (IntKind.i64.wrap (((ev.v0.2.2.size : Nat) : Int) + ((ev.v1.2.2.size : Nat) : Int)) + ((ev.v2.2.2.size : Nat) : Int)) + ((ev.v3.2.2.size : Nat) : Int))) 300 false rfl rfl (decide_eq_false hB)) ?_
      simp only [Act.put, lzA, lzB, lzC]
      refine wl_yield (o := ⟨_, _, _, _, _, _⟩) (.bool false) (yl_pickF (by rfl) _ _ _ rfl rfl _ rfl) ?_
      simp only [Act.put, lzA, lzB, lzC]
      refine wpList_nil ?_
      refine hK3 _ _ ?_
      clear hK3 K3
      refine wp_cond_false rfl ?_
      refine wp_skip ?_
      refine hK2 _ _ ?_
      clear hK2 K2
      refine wp_seq_k (fun K4 hK4 => ?_)
      refine wp_region_lit ?_
      refine wl_yield (o := ⟨_, _, _, _, _, _⟩) (evVal ev) (yl_ev (by rfl) _ rfl _ 0 rfl _ _ _ _ _ _ _ _ _ _ _ _ (fun _ h => by subst h; exact EvIn.cells G1)) ?_
      simp only [Act.put, lzA, lzB, lzC]
      refine wt_call (o := ⟨_, _, _, _, _, _⟩) (by rfl) 30 _ _ rfl #[evVal ev] rfl (run_call Tryz.func30 (by kernel_rfl) (by kernel_rfl)) ?_
      refine (event8_no ev _ hf hi hr).mono ?_
      rintro r v3 ⟨rfl, kb⟩
      replace D := grown_below D kb
      replace G1 := heap_on G1 kb
      clear kb
      refine Or.inl ⟨.tuple #[.string (bs ([])), .int .i64 1], rfl, ?_⟩
      simp only [Act.put, lzA, lzB, lzC]
      refine wl_yield (o := ⟨_, _, _, _, _, _⟩) (.tuple #[.string (bs ([])), .int .i64 1]) (yl_move (by rfl) _ rfl _ rfl) ?_
      simp only [Act.put, lzA, lzB, lzC]
      refine wl_yield (o := ⟨_, _, _, _, _, _⟩) (.string (bs ([]))) (yl_extract0 (by rfl) _ rfl _ _ rfl) ?_
      simp only [Act.put, lzA, lzB, lzC]
      refine wl_yield (o := ⟨_, _, _, _, _, _⟩) (.int .i64 1) (yl_extract1 (by rfl) _ rfl _ _ rfl) ?_
      simp only [Act.put, lzA, lzB, lzC]
      refine wl_yield (o := ⟨_, _, _, _, _, _⟩) (.string (bs ([]))) (yl_assign (by rfl) _ rfl _ rfl) ?_
      simp only [Act.put, lzA, lzB, lzC]
      refine wl_yield (o := ⟨_, _, _, _, _, _⟩) (.int .i64 1) (yl_assign (by rfl) _ rfl _ rfl) ?_
      simp only [Act.put, lzA, lzB, lzC]
      refine wpList_nil ?_
      refine hK4 _ _ ?_
      clear hK4 K4
      refine wp_seq_k (fun K5 hK5 => ?_)
      refine wp_seq_k (fun K6 hK6 => ?_)
      refine wp_region_lit ?_
      refine wl_yield (o := ⟨_, _, _, _, _, _⟩) (evVal ev) (yl_ev (by rfl) _ rfl _ 0 rfl _ _ _ _ _ _ _ _ _ _ _ _ (fun _ h => by subst h; exact EvIn.cells G1)) ?_
      simp only [Act.put, lzA, lzB, lzC]
      refine wt_call (o := ⟨_, _, _, _, _, _⟩) (by rfl) 31 _ _ rfl #[evVal ev] rfl (run_call Tryz.func31 (by kernel_rfl) (by kernel_rfl)) ?_
      refine (refEvent_any ev _ hf).mono ?_
      rintro r v4 ⟨rfl, kb⟩
      replace D := grown_below D kb
      replace G1 := heap_on G1 kb
      clear kb
      refine Or.inl ⟨.bool false, ret_bool hr, ?_⟩
      simp only [Act.put, lzA, lzB, lzC]
      refine wl_yield (o := ⟨_, _, _, _, _, _⟩) (.bool true) (yl_not (by rfl) _ _ rfl false rfl) ?_
      simp only [Act.put, lzA, lzB, lzC]
      refine wpList_nil ?_
      refine hK6 _ _ ?_
      clear hK6 K6
      refine wp_cond_true rfl ?_
      refine wp_seq_k (fun K7 hK7 => ?_)
      refine wp_region_lit ?_
      refine wl_yield (o := ⟨_, _, _, _, _, _⟩) (.string (bs ([]))) (yl_move (by rfl) _ rfl _ rfl) ?_
      simp only [Act.put, lzA, lzB, lzC]
      refine wl_yield (o := ⟨_, _, _, _, _, _⟩) (.bool true) (yt_eqS (by rfl) _ _ _ rfl ([]) ([]) true rfl rfl (by decide)) ?_
      simp only [Act.put, lzA, lzB, lzC]
      refine wl_yield (o := ⟨_, _, _, _, _, _⟩) (.bool true) (yl_move (by rfl) _ rfl _ rfl) ?_
      simp only [Act.put, lzA, lzB, lzC]
      refine wl_yield (o := ⟨_, _, _, _, _, _⟩) (.int .i64 1) (yl_move (by rfl) _ rfl _ rfl) ?_
      simp only [Act.put, lzA, lzB, lzC]
      refine wl_yield (o := ⟨_, _, _, _, _, _⟩) (.bool true) (yt_eqlE (by rfl) _ _ _ rfl 1 1 true rfl rfl (by decide)) ?_
      simp only [Act.put, lzA, lzB, lzC]
      refine wl_yield (o := ⟨_, _, _, _, _, _⟩) (.bool true) (yl_pickT (by rfl) _ _ _ rfl rfl _ rfl) ?_
      simp only [Act.put, lzA, lzB, lzC]
      refine wl_yield (o := ⟨_, _, _, _, _, _⟩) (.bool true) (yl_assign (by rfl) _ rfl _ rfl) ?_
      simp only [Act.put, lzA, lzB, lzC]
      refine wpList_nil ?_
      refine hK7 _ _ ?_
      clear hK7 K7
      refine wp_ret ?_
      go_ret
      exact ⟨rfl, below_none D⟩
  · have hok := right_ev hr hi
    obtain ⟨z0, z1, z2, z3⟩ := ok_sz hok
    go_enter Tryz.func7, Tryz.ntmps7
    refine wp_seq_k (fun K1 hK1 => ?_)
    refine wp_region_lit ?_
    refine wt_boxEv (o := ⟨_, _, _, _, _, _⟩) (by rfl) _ rfl ev rfl (fun v1 g1 hg G1 kb => ?_)
    simp only [Act.put, lzA, lzB, lzC]
    have ge_g1 : w.heap.size ≤ g1 := Nat.le_trans D.size hg
    clear hg
    replace D := grown_below D kb
    clear kb
    replace G1 : EvIn v1 g1 ev := G1
    refine wl_yield (o := ⟨_, _, _, _, _, _⟩) (.bool false) (yl_assign (by rfl) _ rfl _ rfl) ?_
    simp only [Act.put, lzA, lzB, lzC]
    refine wpList_nil ?_
    refine hK1 _ _ ?_
    clear hK1 K1
    refine wp_seq_k (fun K2 hK2 => ?_)
    refine wp_seq_k (fun K3 hK3 => ?_)
    refine wp_region_lit ?_
    refine wt_call (o := ⟨_, _, _, _, _, _⟩) (by rfl) 20 _ _ rfl #[] rfl (run_call Tryz.func20 (by kernel_rfl) (by kernel_rfl)) ?_
    refine (awake8_any _).mono ?_
    rintro r v2 ⟨rfl, kb⟩
    replace D := grown_below D kb
    replace G1 := heap_on G1 kb
    clear kb
    refine Or.inl ⟨.bool true, rfl, ?_⟩
    simp only [Act.put, lzA, lzB, lzC]
    refine wl_yield (o := ⟨_, _, _, _, _, _⟩) (.bool false) (yl_not (by rfl) _ _ rfl true rfl) ?_
    simp only [Act.put, lzA, lzB, lzC]
    refine wl_yield (o := ⟨_, _, _, _, _, _⟩) (.bool false) (yl_move (by rfl) _ rfl _ rfl) ?_
    simp only [Act.put, lzA, lzB, lzC]
    refine wl_yield (o := ⟨_, _, _, _, _, _⟩) (.pointer (some ⟨g1, 0, none⟩)) (yl_atEv (by rfl) _ _ rfl g1 0 rfl rfl (by omega)) ?_
    simp only [Act.put, lzA, lzB, lzC]
    refine wl_yield (o := ⟨_, _, _, _, _, _⟩) (.pointer (some ⟨g1, 2, none⟩)) (yt_fVa2 (by rfl) _ rfl g1 0 rfl) ?_
    simp only [Act.put, lzA, lzB, lzC]
    refine wl_yield (o := ⟨_, _, _, _, _, _⟩) (.string ev.v0.2.2) (yt_ldS (by rfl) _ rfl _ _ rfl ev.v0.2.2 (fun _ h => by subst h; exact (EvIn.cells G1).2.2.1)) ?_
    simp only [Act.put, lzA, lzB, lzC]
    refine wl_yield (o := ⟨_, _, _, _, _, _⟩) (.int .i64 (ev.v0.2.2.size : Nat)) (yt_lenB8 (by rfl) _ rfl ev.v0.2.2 rfl) ?_
    simp only [Act.put, lzA, lzB, lzC]
    refine wl_yield (o := ⟨_, _, _, _, _, _⟩) (.pointer (some ⟨g1, 3, none⟩)) (yl_atEv (by rfl) _ _ rfl g1 1 rfl rfl (by omega)) ?_
    simp only [Act.put, lzA, lzB, lzC]
    refine wl_yield (o := ⟨_, _, _, _, _, _⟩) (.pointer (some ⟨g1, 5, none⟩)) (yt_fVa2 (by rfl) _ rfl g1 3 rfl) ?_
    simp only [Act.put, lzA, lzB, lzC]
    refine wl_yield (o := ⟨_, _, _, _, _, _⟩) (.string ev.v1.2.2) (yt_ldS (by rfl) _ rfl _ _ rfl ev.v1.2.2 (fun _ h => by subst h; exact (EvIn.cells G1).2.2.2.2.2.1)) ?_
    simp only [Act.put, lzA, lzB, lzC]
    refine wl_yield (o := ⟨_, _, _, _, _, _⟩) (.int .i64 (ev.v1.2.2.size : Nat)) (yt_lenB8 (by rfl) _ rfl ev.v1.2.2 rfl) ?_
    simp only [Act.put, lzA, lzB, lzC]
    refine wl_yield (o := ⟨_, _, _, _, _, _⟩) (.int .i64 (ev.v0.2.2.size + ev.v1.2.2.size : Nat)) (yt_addI (by rfl) _ _ _ rfl ((ev.v0.2.2.size : Nat) : Int) ((ev.v1.2.2.size : Nat) : Int) ((ev.v0.2.2.size + ev.v1.2.2.size : Nat) : Int) rfl rfl (by omega) (by omega) (by omega)) ?_
    simp only [Act.put, lzA, lzB, lzC]
    refine wl_yield (o := ⟨_, _, _, _, _, _⟩) (.pointer (some ⟨g1, 6, none⟩)) (yl_atEv (by rfl) _ _ rfl g1 2 rfl rfl (by omega)) ?_
    simp only [Act.put, lzA, lzB, lzC]
    refine wl_yield (o := ⟨_, _, _, _, _, _⟩) (.pointer (some ⟨g1, 8, none⟩)) (yt_fVa2 (by rfl) _ rfl g1 6 rfl) ?_
    simp only [Act.put, lzA, lzB, lzC]
    refine wl_yield (o := ⟨_, _, _, _, _, _⟩) (.string ev.v2.2.2) (yt_ldS (by rfl) _ rfl _ _ rfl ev.v2.2.2 (fun _ h => by subst h; exact (EvIn.cells G1).2.2.2.2.2.2.2.2.1)) ?_
    simp only [Act.put, lzA, lzB, lzC]
    refine wl_yield (o := ⟨_, _, _, _, _, _⟩) (.int .i64 (ev.v2.2.2.size : Nat)) (yt_lenB8 (by rfl) _ rfl ev.v2.2.2 rfl) ?_
    simp only [Act.put, lzA, lzB, lzC]
    refine wl_yield (o := ⟨_, _, _, _, _, _⟩) (.int .i64 (ev.v0.2.2.size + ev.v1.2.2.size + ev.v2.2.2.size : Nat)) (yt_addI (by rfl) _ _ _ rfl ((ev.v0.2.2.size + ev.v1.2.2.size : Nat) : Int) ((ev.v2.2.2.size : Nat) : Int) ((ev.v0.2.2.size + ev.v1.2.2.size + ev.v2.2.2.size : Nat) : Int) rfl rfl (by omega) (by omega) (by omega)) ?_
    simp only [Act.put, lzA, lzB, lzC]
    refine wl_yield (o := ⟨_, _, _, _, _, _⟩) (.pointer (some ⟨g1, 9, none⟩)) (yl_atEv (by rfl) _ _ rfl g1 3 rfl rfl (by omega)) ?_
    simp only [Act.put, lzA, lzB, lzC]
    refine wl_yield (o := ⟨_, _, _, _, _, _⟩) (.pointer (some ⟨g1, 11, none⟩)) (yt_fVa2 (by rfl) _ rfl g1 9 rfl) ?_
    simp only [Act.put, lzA, lzB, lzC]
    refine wl_yield (o := ⟨_, _, _, _, _, _⟩) (.string ev.v3.2.2) (yt_ldS (by rfl) _ rfl _ _ rfl ev.v3.2.2 (fun _ h => by subst h; exact (EvIn.cells G1).2.2.2.2.2.2.2.2.2.2.2)) ?_
    simp only [Act.put, lzA, lzB, lzC]
    refine wl_yield (o := ⟨_, _, _, _, _, _⟩) (.int .i64 (ev.v3.2.2.size : Nat)) (yt_lenB8 (by rfl) _ rfl ev.v3.2.2 rfl) ?_
    simp only [Act.put, lzA, lzB, lzC]
    refine wl_yield (o := ⟨_, _, _, _, _, _⟩) (.int .i64 (ev.v0.2.2.size + ev.v1.2.2.size + ev.v2.2.2.size + ev.v3.2.2.size : Nat)) (yt_addI (by rfl) _ _ _ rfl ((ev.v0.2.2.size + ev.v1.2.2.size + ev.v2.2.2.size : Nat) : Int) ((ev.v3.2.2.size : Nat) : Int) ((ev.v0.2.2.size + ev.v1.2.2.size + ev.v2.2.2.size + ev.v3.2.2.size : Nat) : Int) rfl rfl (by omega) (by omega) (by omega)) ?_
    simp only [Act.put, lzA, lzB, lzC]
    refine wl_yield (o := ⟨_, _, _, _, _, _⟩) (.bool false) (yt_gtrI (by rfl) _ _ _ rfl ((ev.v0.2.2.size + ev.v1.2.2.size + ev.v2.2.2.size + ev.v3.2.2.size : Nat) : Int) 300 false rfl rfl (decide_eq_false (by omega))) ?_
    simp only [Act.put, lzA, lzB, lzC]
    refine wl_yield (o := ⟨_, _, _, _, _, _⟩) (.bool false) (yl_pickF (by rfl) _ _ _ rfl rfl _ rfl) ?_
    simp only [Act.put, lzA, lzB, lzC]
    refine wpList_nil ?_
    refine hK3 _ _ ?_
    clear hK3 K3
    refine wp_cond_false rfl ?_
    refine wp_skip ?_
    refine hK2 _ _ ?_
    clear hK2 K2
    refine wp_seq_k (fun K4 hK4 => ?_)
    refine wp_region_lit ?_
    refine wl_yield (o := ⟨_, _, _, _, _, _⟩) (evVal ev) (yl_ev (by rfl) _ rfl _ 0 rfl _ _ _ _ _ _ _ _ _ _ _ _ (fun _ h => by subst h; exact EvIn.cells G1)) ?_
    simp only [Act.put, lzA, lzB, lzC]
    refine wt_call (o := ⟨_, _, _, _, _, _⟩) (by rfl) 30 _ _ rfl #[evVal ev] rfl (run_call Tryz.func30 (by kernel_rfl) (by kernel_rfl)) ?_
    refine (event8_yes ev _ hf hi hr).mono ?_
    rintro r v3 ⟨rfl, kb⟩
    replace D := grown_below D kb
    replace G1 := heap_on G1 kb
    clear kb
    refine Or.inl ⟨.tuple #[.string (bs (evB ev)), .int .i64 0], rfl, ?_⟩
    simp only [Act.put, lzA, lzB, lzC]
    refine wl_yield (o := ⟨_, _, _, _, _, _⟩) (.tuple #[.string (bs (evB ev)), .int .i64 0]) (yl_move (by rfl) _ rfl _ rfl) ?_
    simp only [Act.put, lzA, lzB, lzC]
    refine wl_yield (o := ⟨_, _, _, _, _, _⟩) (.string (bs (evB ev))) (yl_extract0 (by rfl) _ rfl _ _ rfl) ?_
    simp only [Act.put, lzA, lzB, lzC]
    refine wl_yield (o := ⟨_, _, _, _, _, _⟩) (.int .i64 0) (yl_extract1 (by rfl) _ rfl _ _ rfl) ?_
    simp only [Act.put, lzA, lzB, lzC]
    refine wl_yield (o := ⟨_, _, _, _, _, _⟩) (.string (bs (evB ev))) (yl_assign (by rfl) _ rfl _ rfl) ?_
    simp only [Act.put, lzA, lzB, lzC]
    refine wl_yield (o := ⟨_, _, _, _, _, _⟩) (.int .i64 0) (yl_assign (by rfl) _ rfl _ rfl) ?_
    simp only [Act.put, lzA, lzB, lzC]
    refine wpList_nil ?_
    refine hK4 _ _ ?_
    clear hK4 K4
    refine wp_seq_k (fun K5 hK5 => ?_)
    refine wp_seq_k (fun K6 hK6 => ?_)
    refine wp_region_lit ?_
    refine wl_yield (o := ⟨_, _, _, _, _, _⟩) (evVal ev) (yl_ev (by rfl) _ rfl _ 0 rfl _ _ _ _ _ _ _ _ _ _ _ _ (fun _ h => by subst h; exact EvIn.cells G1)) ?_
    simp only [Act.put, lzA, lzB, lzC]
    refine wt_call (o := ⟨_, _, _, _, _, _⟩) (by rfl) 31 _ _ rfl #[evVal ev] rfl (run_call Tryz.func31 (by kernel_rfl) (by kernel_rfl)) ?_
    refine (refEvent_any ev _ hf).mono ?_
    rintro r v4 ⟨rfl, kb⟩
    replace D := grown_below D kb
    replace G1 := heap_on G1 kb
    clear kb
    refine Or.inl ⟨.bool true, ret_bool hr, ?_⟩
    simp only [Act.put, lzA, lzB, lzC]
    refine wl_yield (o := ⟨_, _, _, _, _, _⟩) (.bool false) (yl_not (by rfl) _ _ rfl true rfl) ?_
    simp only [Act.put, lzA, lzB, lzC]
    refine wpList_nil ?_
    refine hK6 _ _ ?_
    clear hK6 K6
    refine wp_cond_false rfl ?_
    refine wp_skip ?_
    refine hK5 _ _ ?_
    clear hK5 K5
    refine wp_seq_k (fun K7 hK7 => ?_)
    refine wp_region_lit ?_
    refine wl_yield (o := ⟨_, _, _, _, _, _⟩) (.string (bs (evB ev))) (yl_move (by rfl) _ rfl _ rfl) ?_
    simp only [Act.put, lzA, lzB, lzC]
    refine wt_call (o := ⟨_, _, _, _, _, _⟩) (by rfl) 27 _ _ rfl #[.string (bs (evB ev))] rfl (run_call Tryz.func27 (by kernel_rfl) (by kernel_rfl)) ?_
    refine (readEvent8_any (evB ev) _ (by have := evB_le hok; omega)).mono ?_
    rintro r v5 ⟨rfl, kb⟩
    replace D := grown_below D kb
    replace G1 := heap_on G1 kb
    clear kb
    refine Or.inl ⟨.tuple #[evVal ev, .int .i64 0], by rw [rdE_back hok], ?_⟩
    simp only [Act.put, lzA, lzB, lzC]
    refine wl_yield (o := ⟨_, _, _, _, _, _⟩) (.tuple #[evVal ev, .int .i64 0]) (yl_move (by rfl) _ rfl _ rfl) ?_
    simp only [Act.put, lzA, lzB, lzC]
    refine wl_yield (o := ⟨_, _, _, _, _, _⟩) (evVal ev) (yl_extract0 (by rfl) _ rfl _ _ rfl) ?_
    simp only [Act.put, lzA, lzB, lzC]
    refine wl_yield (o := ⟨_, _, _, _, _, _⟩) (.int .i64 0) (yl_extract1 (by rfl) _ rfl _ _ rfl) ?_
    simp only [Act.put, lzA, lzB, lzC]
    refine wt_allocEv (o := ⟨_, _, _, _, _, _⟩) (by rfl) rfl (fun v6 g6 hg G6 kb => ?_)
    simp only [Act.put, lzA, lzB, lzC]
    have n_g1_g6 : g1 ≠ g6 := by have := lt_heap G1; omega
    have ge_g6 : w.heap.size ≤ g6 := Nat.le_trans D.size hg
    clear hg
    replace D := grown_below D kb
    replace G1 := heap_on G1 kb
    clear kb
    replace G6 : EvIn v6 g6 evZ := G6
    refine wt_putEv (o := ⟨_, _, _, _, _, _⟩) rfl _ _ rfl g6 rfl ev rfl G6 rfl (fun v7 X kg => ?_)
    simp only [Act.put, lzA, lzB, lzC]
    replace D := gr_new D ge_g6 kg
    replace G1 := heap_gr G1 kg n_g1_g6
    clear kg
    replace G6 : EvIn v7 g6 ev := X
    clear X
    refine wl_yield (o := ⟨_, _, _, _, _, _⟩) (.int .i64 0) (yl_assign (by rfl) _ rfl _ rfl) ?_
    simp only [Act.put, lzA, lzB, lzC]
    refine wpList_nil ?_
    refine hK7 _ _ ?_
    clear hK7 K7
    refine wp_seq_k (fun K8 hK8 => ?_)
    refine wp_region_lit ?_
    refine wl_yield (o := ⟨_, _, _, _, _, _⟩) (.int .i64 0) (yl_move (by rfl) _ rfl _ rfl) ?_
    simp only [Act.put, lzA, lzB, lzC]
    refine wl_yield (o := ⟨_, _, _, _, _, _⟩) (.bool true) (yt_eqlE (by rfl) _ _ _ rfl 0 0 true rfl rfl (by decide)) ?_
    simp only [Act.put, lzA, lzB, lzC]
    refine wl_yield (o := ⟨_, _, _, _, _, _⟩) (.bool true) (yl_move (by rfl) _ rfl _ rfl) ?_
    simp only [Act.put, lzA, lzB, lzC]
    refine wl_yield (o := ⟨_, _, _, _, _, _⟩) (.string (bs (evB ev))) (yl_move (by rfl) _ rfl _ rfl) ?_
    simp only [Act.put, lzA, lzB, lzC]
    refine wl_yield (o := ⟨_, _, _, _, _, _⟩) (evVal ev) (yl_ev (by rfl) _ rfl _ 0 rfl _ _ _ _ _ _ _ _ _ _ _ _ (fun _ h => by subst h; exact EvIn.cells G1)) ?_
    simp only [Act.put, lzA, lzB, lzC]
    refine wt_call (o := ⟨_, _, _, _, _, _⟩) (by rfl) 32 _ _ rfl #[evVal ev] rfl (run_call Tryz.func32 (by kernel_rfl) (by kernel_rfl)) ?_
    refine (refEvent8_any ev _ hok).mono ?_
    rintro r v8 ⟨rfl, kb⟩
    replace D := grown_below D kb
    replace G1 := heap_on G1 kb
    replace G6 := heap_on G6 kb
    clear kb
    refine Or.inl ⟨.string (bs (evB ev)), rfl, ?_⟩
    simp only [Act.put, lzA, lzB, lzC]
    refine wl_yield (o := ⟨_, _, _, _, _, _⟩) (.bool true) (yt_eqS (by rfl) _ _ _ rfl (evB ev) (evB ev) true rfl rfl (by simp)) ?_
    simp only [Act.put, lzA, lzB, lzC]
    refine wl_yield (o := ⟨_, _, _, _, _, _⟩) (.bool true) (yl_pickT (by rfl) _ _ _ rfl rfl _ rfl) ?_
    simp only [Act.put, lzA, lzB, lzC]
    refine wl_yield (o := ⟨_, _, _, _, _, _⟩) (.bool true) (yl_move (by rfl) _ rfl _ rfl) ?_
    simp only [Act.put, lzA, lzB, lzC]
    refine wl_yield (o := ⟨_, _, _, _, _, _⟩) (.int .i64 0) (yl_move (by rfl) _ rfl _ rfl) ?_
    simp only [Act.put, lzA, lzB, lzC]
    refine wl_yield (o := ⟨_, _, _, _, _, _⟩) (.bool true) (yt_eqlE (by rfl) _ _ _ rfl 0 0 true rfl rfl (by decide)) ?_
    simp only [Act.put, lzA, lzB, lzC]
    refine wl_yield (o := ⟨_, _, _, _, _, _⟩) (.bool true) (yl_pickT (by rfl) _ _ _ rfl rfl _ rfl) ?_
    simp only [Act.put, lzA, lzB, lzC]
    refine wl_yield (o := ⟨_, _, _, _, _, _⟩) (.bool true) (yl_move (by rfl) _ rfl _ rfl) ?_
    simp only [Act.put, lzA, lzB, lzC]
    refine wl_yield (o := ⟨_, _, _, _, _, _⟩) (evVal ev) (yl_ev (by rfl) _ rfl _ 0 rfl _ _ _ _ _ _ _ _ _ _ _ _ (fun _ h => by subst h; exact EvIn.cells G6)) ?_
    simp only [Act.put, lzA, lzB, lzC]
    refine wl_yield (o := ⟨_, _, _, _, _, _⟩) (evVal ev) (yl_ev (by rfl) _ rfl _ 0 rfl _ _ _ _ _ _ _ _ _ _ _ _ (fun _ h => by subst h; exact EvIn.cells G1)) ?_
    simp only [Act.put, lzA, lzB, lzC]
    refine wl_yield (o := ⟨_, _, _, _, _, _⟩) (.bool true) (yt_eqEv (by rfl) _ _ _ rfl ev ev (wf_ok hok) (wf_ok hok) true rfl rfl (by simp)) ?_
    simp only [Act.put, lzA, lzB, lzC]
    refine wl_yield (o := ⟨_, _, _, _, _, _⟩) (.bool true) (yl_pickT (by rfl) _ _ _ rfl rfl _ rfl) ?_
    simp only [Act.put, lzA, lzB, lzC]
    refine wl_yield (o := ⟨_, _, _, _, _, _⟩) (.bool true) (yl_assign (by rfl) _ rfl _ rfl) ?_
    simp only [Act.put, lzA, lzB, lzC]
    refine wpList_nil ?_
    refine hK8 _ _ ?_
    clear hK8 K8
    refine wp_ret ?_
    go_ret
    exact ⟨rfl, below_none D⟩
end Go.Proofs.YtlmdcaemjaldfaaGreat
namespace Go.Proofs.YtlmdcaemjaldfaaGreat
open Go.ChangeShapes Go.WideShapes Go.ChangeAt Go.WideMaps Go.WideElems Go.RowKit Go.Joins
theorem cellsVal : Tryz.prog.cellsOf 42 = 3 := by kernel_rfl
section
variable {H : Type} {enc : TypeId × Value → H} {W : World} {base : Nat} {sp : Nat → Bool} {held : Bool}
end
section
variable {H : Type} {enc : TypeId × Value → H} {W : World}
end
end Go.Proofs.YtlmdcaemjaldfaaGreat
namespace Go.Proofs.YtlmdcaemjaldfaaGreat
open Go.Deep Go.ChangeShapes Go.WideShapes Go.ChangeAt Go.WideMaps Go.WideElems Go.RowKit Go.Joins
theorem cut3 {α : Type} (k : Nat) {l : List α} (h : l.length = k + 3) : ∃ a b c r, l = a :: b :: c :: r ∧ r.length = k := by
  cases l with
  | nil => simp at h
  | cons a l => cases l with
    | nil => simp at h
    | cons b l => cases l with
      | nil => simp at h
      | cons c l => exact ⟨a, b, c, l, rfl, by simpa using h⟩
theorem okWide_array {P : Program} {w : World} {r : Reach} {base : Nat} {t : TypeId} {v : Value} {n : Nat} {e : TypeId} (ht : P.underlying t = some (.array n e)) (h : Value.okWide P w r base t v) : ∃ cs, v = .agg cs ∧ cs.size = P.cellsOf t := by
  simp only [Value.okWide, ht] at h
  obtain ⟨cs, h1, h2, _⟩ := h
  exact ⟨cs, h1, h2⟩
theorem cellsEv : Tryz.prog.cellsOf 44 = 12 := by kernel_rfl
section
variable {H : Type} {enc : TypeId × Value → H} {W : World}
set_option maxRecDepth 100000 in
theorem open_cells {m : Nat} {c0 c1 c2 : Value} {y : DataW H × List MemPlace} (h : DataW.trod enc Tryz.prog W 0 (fun _ => true) true m 42 [c0, c1, c2] = some y) :
    ∃ (k n : Int) (s : ByteArray), c0 = .int .i64 k ∧ c1 = .int .i64 n ∧ c2 = .string s ∧ (Lit.int .i64 n).wf = true ∧ s.size ≤ maxLen := by
  obtain ⟨y0, y1, y2, m', rfl, _, h0, h1, h2⟩ := trod_struct3 Tryz.underlying42 h
  simp only [cellsI, cellsS] at h0 h1 h2
  obtain ⟨k, e0, rfl, wk⟩ := DataW.trod_int Tryz.underlying3 h0
  obtain ⟨n, e1, rfl, wn⟩ := DataW.trod_int Tryz.underlying3 h1
  obtain ⟨s, e2, rfl, ws⟩ := DataW.trod_string Tryz.underlying9 h2
  simp at e0 e1 e2
  subst e0 e1 e2
  exact ⟨k, n, s, rfl, rfl, rfl, wn, ws⟩
set_option maxRecDepth 100000 in
theorem open_evA {r : Reach} {b0 : Nat} {v : Value} {d : DataW H} {p : List MemPlace} (hv : Value.okWide Tryz.prog W r b0 44 v) (h : DataW.Trod enc Tryz.prog W 0 (fun _ => true) true 44 v d p) :
    ∃ e : EvV, v = evVal e ∧ evFit e ∧ inE e := by
  obtain ⟨cs, rfl, hsz⟩ := okWide_array Tryz.underlying44 hv
  rw [cellsEv] at hsz
  obtain ⟨l⟩ := cs
  obtain ⟨a0, a1, a2, l1, rfl, q1⟩ := cut3 9 (show l.length = 9 + 3 from hsz)
  obtain ⟨b0, b1, b2, l2, rfl, q2⟩ := cut3 6 q1
  obtain ⟨c0, c1, c2, l3, rfl, q3⟩ := cut3 3 q2
  obtain ⟨d0, d1, d2, l4, rfl, q4⟩ := cut3 0 q3
  obtain rfl : l4 = [] := List.length_eq_zero_iff.1 q4
  obtain ⟨fuel, hf⟩ := h
  obtain ⟨xs, m, _, hx, _, hlen, he⟩ := DataW.trod_array Tryz.underlying44 hf
  simp only [cellsVal, Value.cells] at he
  have g0 := he 0 (by omega)
  have g1 := he 1 (by omega)
  have g2 := he 2 (by omega)
  have g3 := he 3 (by omega)
  match xs, hlen with
  | [y0, y1, y2, y3], _ =>
    simp at g0 g1 g2 g3
    obtain ⟨k0, n0, s0, rfl, rfl, rfl, w1, w2⟩ := open_cells g0
    obtain ⟨k1, n1, s1, rfl, rfl, rfl, w4, w5⟩ := open_cells g1
    obtain ⟨k2, n2, s2, rfl, rfl, rfl, w7, w8⟩ := open_cells g2
    obtain ⟨k3, n3, s3, rfl, rfl, rfl, w10, w11⟩ := open_cells g3
    refine ⟨⟨(k0, n0, s0), (k1, n1, s1), (k2, n2, s2), (k3, n3, s3)⟩, rfl, ⟨w2, w5, w8, w11⟩, fun i hi => ?_⟩
    match i, hi with
    | 0, _ => exact bounds_i64 w1
    | 1, _ => exact bounds_i64 w4
    | 2, _ => exact bounds_i64 w7
    | 3, _ => exact bounds_i64 w10
end
end Go.Proofs.YtlmdcaemjaldfaaGreat
