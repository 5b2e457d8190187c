import Derived.Test.YtlmdcaemjaldfaaGreatDoorR2
import Derived.Test.YtlmdcaemjaldfaaGreatDoorR1
import Derived.Deep.RegionHeld3
set_option linter.unusedSimpArgs false
set_option linter.unusedVariables false
namespace Go.Proofs.YtlmdcaemjaldfaaGreatDoor
open Go.RowKit
theorem valL_read {l r : List UInt8} {v : Va} (h : valL l = some (v, r)) : ∃ j, readL l = some (v.1, v.2.1, v.2.2.data.toList, j) ∧ j ≤ l.length ∧ r = l.drop j := by
  unfold valL at h
  cases e : readL l with
  | none => rw [e] at h; cases h
  | some q =>
    obtain ⟨k, n, s, j⟩ := q
    rw [e] at h
    injection h with h
    injection h with h1 h2
    subst h1
    exact ⟨j, by simp, (readL_long e).2, h2.symm⟩
theorem read_no (l : List UInt8) (w : World) (hE : Env w) (hs : l.length ≤ 1048576) (hv : valL l = none) :
    Calls Tryz.prog 79 #[.string (bs l)] w fun e w' => e = .returned (.tuple #[.agg #[.int .i64 0, .int .i64 0, .string (bs [])], .int .i64 0, .bool false]) ∧ Below w.heap.size w w' := by
  have hr : readL l = none := by
    unfold valL at hv
    cases e : readL l with
    | none => rfl
    | some q => obtain ⟨k, n, s, j⟩ := q; rw [e] at hv; cases hv
  have := read_list l w hE hs
  rw [hr] at this
  exact this
theorem read_yes {l : List UInt8} {v : Va} {j : Nat} (hr : readL l = some (v.1, v.2.1, v.2.2.data.toList, j)) (l' : List UInt8) (w : World) (hE : Env w) (hs : l.length ≤ 1048576) :
    Calls Tryz.prog 79 #[.string (bs l)] w fun e w' => e = .returned (.tuple #[vVal v, .int .i64 (j : Nat), .bool true]) ∧ Below w.heap.size w w' := by
  have := read_list l w hE hs
  rw [hr] at this
  exact this
set_option maxHeartbeats 1000000 in
set_option maxRecDepth 100000 in
theorem value_no (b : Nat) (l : List UInt8) (w : World) (H : Rdr w b l) (hs : l.length ≤ 1048576) (hv : valL l = none) :
    Calls Tryz.prog 55 #[.pointer (some ⟨b, 0, none⟩)] w fun e w' => e = .panicked chE ∧ w.grownBy w' (some b) := by
  have w6 : 6 ≤ w.heap.size := H.env.big
  have D : w.grownBy w (some b) := grown_refl _ _
  go_enter Tryz.func55, Tryz.ntmps55
  refine wp_seq_k (fun K1 hK1 => ?_)
  refine wp_region_lit ?_
  refine wt_allocVa (o := ⟨_, _, _, _, _, _⟩) (by rfl) rfl (fun v1 g1 hg G1 kb => ?_)
  simp only [Act.put, lzA, lzB, lzC]
  have n_b_g1 : b ≠ g1 := by have := H.lt; omega
  have ge_g1 : w.heap.size ≤ g1 := Nat.le_trans D.size hg
  have six_g1 : 6 ≤ g1 := Nat.le_trans w6 ge_g1
  clear hg
  replace D := grown_below D kb
  replace H := H.on kb
  clear kb
  replace G1 : v1.heap[g1]? = some (.cells #[.int .i64 0, .int .i64 0, .string (bs ([]))] 40 (0, 0)) := G1
  refine wpList_nil ?_
  refine hK1 _ _ ?_
  clear hK1 K1
  refine wp_seq_k (fun K2 hK2 => ?_)
  refine wp_region_lit ?_
  refine wl_yield (o := ⟨_, _, _, _, _, _⟩) (.pointer (some ⟨b, 0, none⟩)) (yl_move (by rfl) _ rfl _ rfl) ?_
  simp only [Act.put, lzA, lzB, lzC]
  refine wl_yield (o := ⟨_, _, _, _, _, _⟩) (.pointer (some ⟨b, 0, none⟩)) (yt_nil (by rfl) _ rfl _ rfl) ?_
  simp only [Act.put, lzA, lzB, lzC]
  refine wl_yield (o := ⟨_, _, _, _, _, _⟩) (.pointer (some ⟨b, 0, none⟩)) (yt_fRd0 (by rfl) _ rfl b 0 rfl) ?_
  simp only [Act.put, lzA, lzB, lzC]
  refine wl_yield (o := ⟨_, _, _, _, _, _⟩) (.string (bs l)) (yt_ldS (by rfl) _ rfl _ _ rfl (bs l) (fun _ h => by subst h; exact H.rd.cell.1)) ?_
  simp only [Act.put, lzA, lzB, lzC]
  refine wt_call (o := ⟨_, _, _, _, _, _⟩) (by rfl) 79 _ _ rfl #[.string (bs l)] rfl (run_call Tryz.func79 (by kernel_rfl) (by kernel_rfl)) ?_
  refine (read_no l _ H.env hs hv).mono ?_
  rintro r v2 ⟨rfl, kb⟩
  replace D := grown_below D kb
  replace H := H.on kb
  replace G1 := heap_on G1 kb
  clear kb
  refine Or.inl ⟨.tuple #[.agg #[.int .i64 0, .int .i64 0, .string (bs ([]))], .int .i64 0, .bool false], rfl, ?_⟩
  simp only [Act.put, lzA, lzB, lzC]
  refine wl_yield (o := ⟨_, _, _, _, _, _⟩) (.tuple #[.agg #[.int .i64 0, .int .i64 0, .string (bs ([]))], .int .i64 0, .bool false]) (yl_move (by rfl) _ rfl _ rfl) ?_
  simp only [Act.put, lzA, lzB, lzC]
  refine wl_yield (o := ⟨_, _, _, _, _, _⟩) (.agg #[.int .i64 0, .int .i64 0, .string (bs ([]))]) (yt_ext3_0 (by rfl) _ rfl _ _ _ rfl) ?_
  simp only [Act.put, lzA, lzB, lzC]
  refine wl_yield (o := ⟨_, _, _, _, _, _⟩) (.int .i64 0) (yt_ext3_1 (by rfl) _ rfl _ _ _ rfl) ?_
  simp only [Act.put, lzA, lzB, lzC]
  refine wl_yield (o := ⟨_, _, _, _, _, _⟩) (.bool false) (yt_ext3_2 (by rfl) _ rfl _ _ _ rfl) ?_
  simp only [Act.put, lzA, lzB, lzC]
  refine wt_allocVa (o := ⟨_, _, _, _, _, _⟩) (by rfl) rfl (fun v3 g3 hg G3 kb => ?_)
  simp only [Act.put, lzA, lzB, lzC]
  have n_b_g3 : b ≠ g3 := by have := H.lt; omega
  have n_g1_g3 : g1 ≠ g3 := by have := lt_heap G1; omega
  have ge_g3 : w.heap.size ≤ g3 := Nat.le_trans D.size hg
  have six_g3 : 6 ≤ g3 := Nat.le_trans w6 ge_g3
  clear hg
  replace D := grown_below D kb
  replace H := H.on kb
  replace G1 := heap_on G1 kb
  clear kb
  replace G3 : v3.heap[g3]? = some (.cells #[.int .i64 0, .int .i64 0, .string (bs ([]))] 40 (0, 0)) := G3
  refine wt_putVa (o := ⟨_, _, _, _, _, _⟩) rfl _ _ rfl _ rfl ((0, 0, (bs ([])))) rfl G3 rfl (fun v4 X kg => ?_)
  simp only [Act.put, lzA, lzB, lzC]
  replace D := gr_new D ge_g3 kg
  replace H := H.gr kg n_b_g3 six_g3
  replace G1 := heap_gr G1 kg n_g1_g3
  clear kg
  replace G3 : v4.heap[g3]? = some (.cells #[.int .i64 0, .int .i64 0, .string (bs ([]))] 40 (0, 0)) := X
  clear X
  refine wl_yield (o := ⟨_, _, _, _, _, _⟩) (.int .i64 0) (yl_assign (by rfl) _ rfl _ rfl) ?_
  simp only [Act.put, lzA, lzB, lzC]
  refine wl_yield (o := ⟨_, _, _, _, _, _⟩) (.bool false) (yl_assign (by rfl) _ rfl _ rfl) ?_
  simp only [Act.put, lzA, lzB, lzC]
  refine wpList_nil ?_
  refine hK2 _ _ ?_
  clear hK2 K2
  refine wp_seq_k (fun K3 hK3 => ?_)
  refine wp_seq_k (fun K4 hK4 => ?_)
  refine wp_region_lit ?_
  refine wl_yield (o := ⟨_, _, _, _, _, _⟩) (.bool false) (yl_move (by rfl) _ rfl _ rfl) ?_
  simp only [Act.put, lzA, lzB, lzC]
  refine wl_yield (o := ⟨_, _, _, _, _, _⟩) (.bool true) (yl_not (by rfl) _ _ rfl false rfl) ?_
  simp only [Act.put, lzA, lzB, lzC]
  refine wpList_nil ?_
  refine hK4 _ _ ?_
  clear hK4 K4
  refine wp_cond_true rfl ?_
  refine wp_region_lit ?_
  refine wl_yield (o := ⟨_, _, _, _, _, _⟩) (.iface 30 (.int .i64 2)) (yt_iface (by rfl) _ rfl 2 rfl) ?_
  simp only [Act.put, lzA, lzB, lzC]
  refine wt_panic (o := ⟨_, _, _, _, _, _⟩) (by rfl) _ rfl _ _ rfl ?_
  exact ⟨rfl, rfl, D⟩
set_option maxHeartbeats 1000000 in
set_option maxRecDepth 100000 in
theorem value_yes (b : Nat) (l r : List UInt8) (v : Va) (w : World) (H : Rdr w b l) (hs : l.length ≤ 1048576) (hv : valL l = some (v, r)) :
    Calls Tryz.prog 55 #[.pointer (some ⟨b, 0, none⟩)] w fun e w' => e = .returned (vVal v) ∧ RdL w' b r ∧ w.grownBy w' (some b) := by
  obtain ⟨j, hr, hj, rfl⟩ := valL_read hv
  have w6 : 6 ≤ w.heap.size := H.env.big
  have D : w.grownBy w (some b) := grown_refl _ _
  go_enter Tryz.func55, Tryz.ntmps55
  refine wp_seq_k (fun K1 hK1 => ?_)
  refine wp_region_lit ?_
  refine wt_allocVa (o := ⟨_, _, _, _, _, _⟩) (by rfl) rfl (fun v1 g1 hg G1 kb => ?_)
  simp only [Act.put, lzA, lzB, lzC]
  have n_b_g1 : b ≠ g1 := by have := H.lt; omega
  have ge_g1 : w.heap.size ≤ g1 := Nat.le_trans D.size hg
  have six_g1 : 6 ≤ g1 := Nat.le_trans w6 ge_g1
  clear hg
  replace D := grown_below D kb
  replace H := H.on kb
  clear kb
  replace G1 : v1.heap[g1]? = some (.cells #[.int .i64 0, .int .i64 0, .string (bs ([]))] 40 (0, 0)) := G1
  refine wpList_nil ?_
  refine hK1 _ _ ?_
  clear hK1 K1
  refine wp_seq_k (fun K2 hK2 => ?_)
  refine wp_region_lit ?_
  refine wl_yield (o := ⟨_, _, _, _, _, _⟩) (.pointer (some ⟨b, 0, none⟩)) (yl_move (by rfl) _ rfl _ rfl) ?_
  simp only [Act.put, lzA, lzB, lzC]
  refine wl_yield (o := ⟨_, _, _, _, _, _⟩) (.pointer (some ⟨b, 0, none⟩)) (yt_nil (by rfl) _ rfl _ rfl) ?_
  simp only [Act.put, lzA, lzB, lzC]
  refine wl_yield (o := ⟨_, _, _, _, _, _⟩) (.pointer (some ⟨b, 0, none⟩)) (yt_fRd0 (by rfl) _ rfl b 0 rfl) ?_
  simp only [Act.put, lzA, lzB, lzC]
  refine wl_yield (o := ⟨_, _, _, _, _, _⟩) (.string (bs l)) (yt_ldS (by rfl) _ rfl _ _ rfl (bs l) (fun _ h => by subst h; exact H.rd.cell.1)) ?_
  simp only [Act.put, lzA, lzB, lzC]
  refine wt_call (o := ⟨_, _, _, _, _, _⟩) (by rfl) 79 _ _ rfl #[.string (bs l)] rfl (run_call Tryz.func79 (by kernel_rfl) (by kernel_rfl)) ?_
  refine (read_yes hr l _ H.env hs).mono ?_
  rintro r v2 ⟨rfl, kb⟩
  replace D := grown_below D kb
  replace H := H.on kb
  replace G1 := heap_on G1 kb
  clear kb
  refine Or.inl ⟨.tuple #[vVal v, .int .i64 (j : Nat), .bool true], rfl, ?_⟩
  simp only [Act.put, lzA, lzB, lzC]
  refine wl_yield (o := ⟨_, _, _, _, _, _⟩) (.tuple #[vVal v, .int .i64 (j : Nat), .bool true]) (yl_move (by rfl) _ rfl _ rfl) ?_
  simp only [Act.put, lzA, lzB, lzC]
  refine wl_yield (o := ⟨_, _, _, _, _, _⟩) (vVal v) (yt_ext3_0 (by rfl) _ rfl _ _ _ rfl) ?_
  simp only [Act.put, lzA, lzB, lzC]
  refine wl_yield (o := ⟨_, _, _, _, _, _⟩) (.int .i64 (j : Nat)) (yt_ext3_1 (by rfl) _ rfl _ _ _ rfl) ?_
  simp only [Act.put, lzA, lzB, lzC]
  refine wl_yield (o := ⟨_, _, _, _, _, _⟩) (.bool true) (yt_ext3_2 (by rfl) _ rfl _ _ _ rfl) ?_
  simp only [Act.put, lzA, lzB, lzC]
  refine wt_allocVa (o := ⟨_, _, _, _, _, _⟩) (by rfl) rfl (fun v3 g3 hg G3 kb => ?_)
  simp only [Act.put, lzA, lzB, lzC]
  have n_b_g3 : b ≠ g3 := by have := H.lt; omega
  have n_g1_g3 : g1 ≠ g3 := by have := lt_heap G1; omega
  have ge_g3 : w.heap.size ≤ g3 := Nat.le_trans D.size hg
  have six_g3 : 6 ≤ g3 := Nat.le_trans w6 ge_g3
  clear hg
  replace D := grown_below D kb
  replace H := H.on kb
  replace G1 := heap_on G1 kb
  clear kb
  replace G3 : v3.heap[g3]? = some (.cells #[.int .i64 0, .int .i64 0, .string (bs ([]))] 40 (0, 0)) := G3
  refine wt_putVa (o := ⟨_, _, _, _, _, _⟩) rfl _ _ rfl _ rfl (v) rfl G3 rfl (fun v4 X kg => ?_)
  simp only [Act.put, lzA, lzB, lzC]
  replace D := gr_new D ge_g3 kg
  replace H := H.gr kg n_b_g3 six_g3
  replace G1 := heap_gr G1 kg n_g1_g3
  clear kg
  replace G3 : v4.heap[g3]? = some (.cells #[.int .i64 (v.1), .int .i64 (v.2.1), .string v.2.2] 40 (0, 0)) := X
  clear X
  refine wl_yield (o := ⟨_, _, _, _, _, _⟩) (.int .i64 (j : Nat)) (yl_assign (by rfl) _ rfl _ rfl) ?_
  simp only [Act.put, lzA, lzB, lzC]
  refine wl_yield (o := ⟨_, _, _, _, _, _⟩) (.bool true) (yl_assign (by rfl) _ rfl _ rfl) ?_
  simp only [Act.put, lzA, lzB, lzC]
  refine wpList_nil ?_
  refine hK2 _ _ ?_
  clear hK2 K2
  refine wp_seq_k (fun K3 hK3 => ?_)
  refine wp_seq_k (fun K4 hK4 => ?_)
  refine wp_region_lit ?_
  refine wl_yield (o := ⟨_, _, _, _, _, _⟩) (.bool true) (yl_move (by rfl) _ rfl _ rfl) ?_
  simp only [Act.put, lzA, lzB, lzC]
  refine wl_yield (o := ⟨_, _, _, _, _, _⟩) (.bool false) (yl_not (by rfl) _ _ rfl true rfl) ?_
  simp only [Act.put, lzA, lzB, lzC]
  refine wpList_nil ?_
  refine hK4 _ _ ?_
  clear hK4 K4
  refine wp_cond_false rfl ?_
  refine wp_skip ?_
  refine hK3 _ _ ?_
  clear hK3 K3
  refine wp_seq_k (fun K5 hK5 => ?_)
  refine wp_region_lit ?_
  refine wl_yield (o := ⟨_, _, _, _, _, _⟩) (.pointer (some ⟨b, 0, none⟩)) (yl_move (by rfl) _ rfl _ rfl) ?_
  simp only [Act.put, lzA, lzB, lzC]
  refine wl_yield (o := ⟨_, _, _, _, _, _⟩) (.pointer (some ⟨b, 0, none⟩)) (yl_move (by rfl) _ rfl _ rfl) ?_
  simp only [Act.put, lzA, lzB, lzC]
  refine wl_yield (o := ⟨_, _, _, _, _, _⟩) (.pointer (some ⟨b, 0, none⟩)) (yt_nil (by rfl) _ rfl _ rfl) ?_
  simp only [Act.put, lzA, lzB, lzC]
  refine wl_yield (o := ⟨_, _, _, _, _, _⟩) (.pointer (some ⟨b, 0, none⟩)) (yt_fRd0 (by rfl) _ rfl b 0 rfl) ?_
  simp only [Act.put, lzA, lzB, lzC]
  refine wl_yield (o := ⟨_, _, _, _, _, _⟩) (.string (bs l)) (yt_ldS (by rfl) _ rfl _ _ rfl (bs l) (fun _ h => by subst h; exact H.rd.cell.1)) ?_
  simp only [Act.put, lzA, lzB, lzC]
  refine wl_yield (o := ⟨_, _, _, _, _, _⟩) (.int .i64 (j : Nat)) (yl_move (by rfl) _ rfl _ rfl) ?_
  simp only [Act.put, lzA, lzB, lzC]
  refine wl_yield (o := ⟨_, _, _, _, _, _⟩) (.string (bs (l.drop j))) (yt_fromS (by rfl) _ _ rfl l j rfl rfl (hj)) ?_
  simp only [Act.put, lzA, lzB, lzC]
  refine wl_yield (o := ⟨_, _, _, _, _, _⟩) (.pointer (some ⟨b, 0, none⟩)) (yt_nil (by rfl) _ rfl _ rfl) ?_
  simp only [Act.put, lzA, lzB, lzC]
  refine wl_yield (o := ⟨_, _, _, _, _, _⟩) (.pointer (some ⟨b, 0, none⟩)) (yt_fRd0 (by rfl) _ rfl b 0 rfl) ?_
  simp only [Act.put, lzA, lzB, lzC]
  refine wt_left (o := ⟨_, _, _, _, _, _⟩) (by rfl) _ _ rfl b rfl (l.drop j) rfl H.rd (fun v5 hr kg => ?_)
  simp only [Act.put, lzA, lzB, lzC]
  replace H := H.grown kg hr
  clear hr
  replace D := grown_trans D kg
  replace G1 := heap_gr G1 kg (Ne.symm n_b_g1)
  replace G3 := heap_gr G3 kg (Ne.symm n_b_g3)
  clear kg
  refine wpList_nil ?_
  refine hK5 _ _ ?_
  clear hK5 K5
  refine wp_seq_k (fun K6 hK6 => ?_)
  refine wp_region_lit ?_
  refine wl_yield (o := ⟨_, _, _, _, _, _⟩) (vVal v) (yl_val (by rfl) _ rfl _ 0 rfl _ _ _ (fun _ h => by subst h; exact ⟨cell_heap G3 0, cell_heap G3 1, cell_heap G3 2⟩)) ?_
  simp only [Act.put, lzA, lzB, lzC]
  refine wt_putVa (o := ⟨_, _, _, _, _, _⟩) rfl _ _ rfl _ rfl (v) rfl G1 rfl (fun v6 X kg => ?_)
  simp only [Act.put, lzA, lzB, lzC]
  replace D := gr_new D ge_g1 kg
  replace H := H.gr kg n_b_g1 six_g1
  replace G3 := heap_gr G3 kg (Ne.symm n_g1_g3)
  clear kg
  replace G1 : v6.heap[g1]? = some (.cells #[.int .i64 (v.1), .int .i64 (v.2.1), .string v.2.2] 40 (0, 0)) := X
  clear X
  refine wpList_nil ?_
  refine hK6 _ _ ?_
  clear hK6 K6
  refine wp_ret ?_
  refine bodyPost_ret (results_cell_row rfl _ _ g1 40 _ (0, 0) _ rfl G1 Tryz.underlying40 rfl infoV) rfl ⟨rfl, H.rd, D⟩
theorem has_or (b : Nat) (l m : List UInt8) (w : World) (h : RdL w b l) :
    Calls Tryz.prog 41 #[.pointer (some ⟨b, 0, none⟩), .string (bs m)] w fun e w' => (∃ r, cut m l = some r ∧ e = .returned (.bool true) ∧ RdL w' b r ∧ w.grownBy w' (some b)) ∨ (cut m l = none ∧ e = .returned (.bool false) ∧ RdL w' b l ∧ w.grownBy w' (some b)) := by
  cases hc : cut m l with
  | none => exact (has_no b l m w h hc).mono fun e w' hp => Or.inr ⟨rfl, hp⟩
  | some r => exact (has_yes b l m r w h hc).mono fun e w' hp => Or.inl ⟨r, rfl, hp⟩
theorem need_or (b : Nat) (l m : List UInt8) (w : World) (h : RdL w b l) :
    Calls Tryz.prog 44 #[.pointer (some ⟨b, 0, none⟩), .string (bs m)] w fun e w' => (∃ r, cut m l = some r ∧ e = .returned (.tuple #[]) ∧ RdL w' b r ∧ w.grownBy w' (some b)) ∨ (cut m l = none ∧ e = .panicked chE ∧ w.grownBy w' (some b)) := by
  cases hc : cut m l with
  | none => exact (need_no b l m w h hc).mono fun e w' hp => Or.inr ⟨rfl, hp⟩
  | some r => exact (need_yes b l m r w h hc).mono fun e w' hp => Or.inl ⟨r, rfl, hp⟩
theorem value_or (b : Nat) (l : List UInt8) (w : World) (h : Rdr w b l) (hs : l.length ≤ 1048576) :
    Calls Tryz.prog 55 #[.pointer (some ⟨b, 0, none⟩)] w fun e w' => (∃ v r, valL l = some (v, r) ∧ e = .returned (vVal v) ∧ RdL w' b r ∧ w.grownBy w' (some b)) ∨ (valL l = none ∧ e = .panicked chE ∧ w.grownBy w' (some b)) := by
  cases hc : valL l with
  | none => exact (value_no b l w h hs hc).mono fun e w' hp => Or.inr ⟨rfl, hp⟩
  | some q => obtain ⟨v, r⟩ := q; exact (value_yes b l r v w h hs hc).mono fun e w' hp => Or.inl ⟨v, r, rfl, hp⟩
theorem name_rd (b : Nat) (k : Nat) (l : List UInt8) (w : World) (h : RdL w b l) (hk : k < 4) :
    Calls Tryz.prog 31 #[.pointer (some ⟨b, 1, none⟩), .int .i64 (k : Nat)] w fun e w' => e = .returned (.string (bs (nameL (k : Nat)))) ∧ RdL w' b l ∧ w.grownBy w' (some b) := by
  refine (name_some1 b k w (bs l) h).mono ?_
  rintro e w' ⟨rfl, h1, h2⟩
  refine ⟨ret_str ?_, h1, h2⟩
  match k, hk with
  | 0, _ => rfl
  | 1, _ => rfl
  | 2, _ => rfl
  | 3, _ => rfl
theorem hi_len {lo z : Int} {l r : List UInt8} (h : hiL lo l = some (z, r)) : r.length ≤ l.length := by
  unfold hiL at h
  split at h
  · injection h with h; injection h with _ h; rw [h]; exact Nat.le_refl _
  · rename_i q hq
    have := cut_len hq
    split at h
    · cases h
    · rename_i v r' hv
      have := valL_len hv
      split at h
      · injection h with h; injection h with _ h; rw [← h]; omega
      · cases h
theorem attr_hit {l r : List UInt8} {k : Nat} (hk : k < 4) (h : cut (nameL (k : Nat)) l = some r) : attrL l = some ((k : Int), r) := by
  rw [cut_some h]
  exact attr_back k (by omega) (by omega) r
theorem attr_miss {l : List UInt8} (h : ∀ j : Nat, j < 4 → cut (nameL (j : Nat)) l = none) : attrL l = none := by
  cases l with
  | nil => rfl
  | cons c l =>
    show (if 97 ≤ c.toNat ∧ c.toNat ≤ 100 then some ((c.toNat : Int) - 97, l) else none) = none
    rw [if_neg]
    rintro ⟨h1, h2⟩
    have := h (c.toNat - 97) (by omega)
    have e : nameL ((c.toNat - 97 : Nat) : Int) = [c] := by
      unfold nameL
      have : 97 + ((c.toNat - 97 : Nat) : Int).toNat = c.toNat := by omega
      rw [this]
      simp
    rw [e, cut_one] at this
    cases this
set_option maxHeartbeats 1000000 in
set_option maxRecDepth 100000 in
theorem highest_or (b : Nat) (lo : Int) (l : List UInt8) (w : World) (H : Rdr w b l) (hs : l.length ≤ 1048576) :
    Calls Tryz.prog 89 #[.pointer (some ⟨b, 0, none⟩), .int .i64 lo] w fun e w' => (∃ z r, hiL lo l = some (z, r) ∧ e = .returned (.int .i64 z) ∧ RdL w' b r ∧ w.grownBy w' (some b)) ∨ (hiL lo l = none ∧ e = .panicked chE ∧ w.grownBy w' (some b)) := by
  have w6 : 6 ≤ w.heap.size := H.env.big
  have D : w.grownBy w (some b) := grown_refl _ _
  go_enter Tryz.func89, Tryz.ntmps89
  refine wp_seq_k (fun K1 hK1 => ?_)
  refine wp_region_lit ?_
  refine wl_yield (o := ⟨_, _, _, _, _, _⟩) (.int .i64 0) (yl_assign (by rfl) _ rfl _ rfl) ?_
  simp only [Act.put, lzA, lzB, lzC]
  refine wpList_nil ?_
  refine hK1 _ _ ?_
  clear hK1 K1
  refine wp_seq_k (fun K2 hK2 => ?_)
  refine wp_seq_k (fun K3 hK3 => ?_)
  refine wp_region_lit ?_
  refine wl_yield (o := ⟨_, _, _, _, _, _⟩) (.pointer (some ⟨b, 0, none⟩)) (yl_move (by rfl) _ rfl _ rfl) ?_
  simp only [Act.put, lzA, lzB, lzC]
  refine wt_call (o := ⟨_, _, _, _, _, _⟩) (by rfl) 41 _ _ rfl #[.pointer (some ⟨b, 0, none⟩), .string (bs ([46, 46]))] rfl (run_call Tryz.func41 (by kernel_rfl) (by kernel_rfl)) ?_
  refine (has_or b _ _ _ H.rd).mono ?_
  rintro r v1 (⟨hq, hc, rfl, hr, kg⟩ | ⟨hc, rfl, hr, kg⟩)
  · replace H := H.grown kg hr
    clear hr
    replace D := grown_trans D kg
    clear kg
    refine Or.inl ⟨.bool true, rfl, ?_⟩
    simp only [Act.put, lzA, lzB, lzC]
    refine wl_yield (o := ⟨_, _, _, _, _, _⟩) (.bool false) (yl_not (by rfl) _ _ rfl true rfl) ?_
    simp only [Act.put, lzA, lzB, lzC]
    refine wpList_nil ?_
    refine hK3 _ _ ?_
    clear hK3 K3
    refine wp_cond_false rfl ?_
    refine wp_skip ?_
    refine hK2 _ _ ?_
    clear hK2 K2
    refine wp_seq_k (fun K4 hK4 => ?_)
    refine wp_region_lit ?_
    refine wl_yield (o := ⟨_, _, _, _, _, _⟩) (.pointer (some ⟨b, 0, none⟩)) (yl_move (by rfl) _ rfl _ rfl) ?_
    simp only [Act.put, lzA, lzB, lzC]
    refine wt_call (o := ⟨_, _, _, _, _, _⟩) (by rfl) 55 _ _ rfl #[.pointer (some ⟨b, 0, none⟩)] rfl (run_call Tryz.func55 (by kernel_rfl) (by kernel_rfl)) ?_
    refine (value_or b _ _ H (by have := cut_len hc; omega)).mono ?_
    rintro r v2 (⟨v, r2, hv, rfl, hr, kg⟩ | ⟨hv, rfl, kg⟩)
    · replace H := H.grown kg hr
      clear hr
      replace D := grown_trans D kg
      clear kg
      refine Or.inl ⟨vVal v, rfl, ?_⟩
      simp only [Act.put, lzA, lzB, lzC]
      refine wt_allocVa (o := ⟨_, _, _, _, _, _⟩) (by rfl) rfl (fun v3 g3 hg G3 kb => ?_)
      simp only [Act.put, lzA, lzB, lzC]
      have n_b_g3 : b ≠ g3 := by have := H.lt; omega
      have ge_g3 : w.heap.size ≤ g3 := Nat.le_trans D.size hg
      have six_g3 : 6 ≤ g3 := Nat.le_trans w6 ge_g3
      clear hg
      replace D := grown_below D kb
      replace H := H.on kb
      clear kb
      replace G3 : v3.heap[g3]? = some (.cells #[.int .i64 0, .int .i64 0, .string (bs ([]))] 40 (0, 0)) := G3
      refine wt_putVa (o := ⟨_, _, _, _, _, _⟩) rfl _ _ rfl _ rfl (v) rfl G3 rfl (fun v4 X kg => ?_)
      simp only [Act.put, lzA, lzB, lzC]
      replace D := gr_new D ge_g3 kg
      replace H := H.gr kg n_b_g3 six_g3
      clear kg
      replace G3 : v4.heap[g3]? = some (.cells #[.int .i64 (v.1), .int .i64 (v.2.1), .string v.2.2] 40 (0, 0)) := X
      clear X
      refine wpList_nil ?_
      refine hK4 _ _ ?_
      clear hK4 K4
      refine wp_seq_k (fun K5 hK5 => ?_)
      refine wp_seq_k (fun K6 hK6 => ?_)
      refine wp_region_lit ?_
      refine wl_yield (o := ⟨_, _, _, _, _, _⟩) (.pointer (some ⟨g3, 0, none⟩)) (yt_fVa0 (by rfl) _ rfl g3 0 rfl) ?_
      simp only [Act.put, lzA, lzB, lzC]
      refine wl_yield (o := ⟨_, _, _, _, _, _⟩) (.int .i64 (v.1)) (yt_ldI (by rfl) _ rfl _ _ rfl v.1 (fun _ h => by subst h; exact cell_heap G3 0)) ?_
      simp only [Act.put, lzA, lzB, lzC]
      refine wl_yield (o := ⟨_, _, _, _, _, _⟩) (.bool (decide (¬ v.1 = 1))) (yt_neqI (by rfl) _ _ _ rfl v.1 1 (decide (¬ v.1 = 1)) rfl rfl (rfl)) ?_
      simp only [Act.put, lzA, lzB, lzC]
      refine wpList_nil ?_
      refine hK6 _ _ ?_
      clear hK6 K6
      refine wp_cond_split (t := (decide (¬ v.1 = 1))) rfl (fun hk => ?_) (fun hk => ?_)
      · refine wp_region_lit ?_
        refine wl_yield (o := ⟨_, _, _, _, _, _⟩) (.iface 30 (.int .i64 2)) (yt_iface (by rfl) _ rfl 2 rfl) ?_
        simp only [Act.put, lzA, lzB, lzC]
        refine wt_panic (o := ⟨_, _, _, _, _, _⟩) (by rfl) _ rfl _ _ rfl ?_
        exact ⟨rfl, Or.inr ⟨by unfold hiL; rw [hc]; dsimp only; rw [hv]; exact if_neg (of_decide_eq_true hk), rfl, D⟩⟩
      · refine wp_skip ?_
        refine hK5 _ _ ?_
        clear hK5 K5
        refine wp_seq_k (fun K7 hK7 => ?_)
        refine wp_region_lit ?_
        refine wl_yield (o := ⟨_, _, _, _, _, _⟩) (.pointer (some ⟨g3, 1, none⟩)) (yt_fVa1 (by rfl) _ rfl g3 0 rfl) ?_
        simp only [Act.put, lzA, lzB, lzC]
        refine wl_yield (o := ⟨_, _, _, _, _, _⟩) (.int .i64 (v.2.1)) (yt_ldI (by rfl) _ rfl _ _ rfl v.2.1 (fun _ h => by subst h; exact cell_heap G3 1)) ?_
        simp only [Act.put, lzA, lzB, lzC]
        refine wl_yield (o := ⟨_, _, _, _, _, _⟩) (.int .i64 (v.2.1)) (yl_assign (by rfl) _ rfl _ rfl) ?_
        simp only [Act.put, lzA, lzB, lzC]
        refine wpList_nil ?_
        refine hK7 _ _ ?_
        clear hK7 K7
        refine wp_ret ?_
        have hk1 : v.1 = 1 := Decidable.not_not.1 (of_decide_eq_false hk)
        go_ret
        exact Or.inl ⟨_, _, by unfold hiL; rw [hc]; dsimp only; rw [hv]; exact if_pos hk1, rfl, H.rd, D⟩
    · replace D := grown_trans D kg
      refine Or.inr ⟨_, rfl, ?_⟩
      exact ⟨rfl, Or.inr ⟨by unfold hiL; rw [hc]; dsimp only; rw [hv], rfl, D⟩⟩
  · replace H := H.grown kg hr
    clear hr
    replace D := grown_trans D kg
    clear kg
    refine Or.inl ⟨.bool false, rfl, ?_⟩
    simp only [Act.put, lzA, lzB, lzC]
    refine wl_yield (o := ⟨_, _, _, _, _, _⟩) (.bool true) (yl_not (by rfl) _ _ rfl false rfl) ?_
    simp only [Act.put, lzA, lzB, lzC]
    refine wpList_nil ?_
    refine hK3 _ _ ?_
    clear hK3 K3
    refine wp_cond_true rfl ?_
    refine wp_seq_k (fun K4 hK4 => ?_)
    refine wp_region_lit ?_
    refine wl_yield (o := ⟨_, _, _, _, _, _⟩) (.int .i64 lo) (yl_move (by rfl) _ rfl _ rfl) ?_
    simp only [Act.put, lzA, lzB, lzC]
    refine wl_yield (o := ⟨_, _, _, _, _, _⟩) (.int .i64 lo) (yl_assign (by rfl) _ rfl _ rfl) ?_
    simp only [Act.put, lzA, lzB, lzC]
    refine wpList_nil ?_
    refine hK4 _ _ ?_
    clear hK4 K4
    refine wp_ret ?_
    go_ret
    exact Or.inl ⟨lo, l, by unfold hiL; rw [hc], rfl, H.rd, D⟩
set_option maxHeartbeats 1000000 in
set_option maxRecDepth 100000 in
theorem attr_or (b : Nat) (l : List UInt8) (w : World) (H : Rdr w b l) :
    Calls Tryz.prog 43 #[.pointer (some ⟨b, 0, none⟩)] w fun e w' => (∃ z r, attrL l = some (z, r) ∧ e = .returned (.int .i64 z) ∧ RdL w' b r ∧ w.grownBy w' (some b)) ∨ (attrL l = none ∧ e = .panicked chE ∧ w.grownBy w' (some b)) := by
  have w6 : 6 ≤ w.heap.size := H.env.big
  have D : w.grownBy w (some b) := grown_refl _ _
  go_enter Tryz.func43, Tryz.ntmps43
  refine wp_seq_k (fun K1 hK1 => ?_)
  refine wp_region_lit ?_
  refine wl_yield (o := ⟨_, _, _, _, _, _⟩) (.int .i64 0) (yl_assign (by rfl) _ rfl _ rfl) ?_
  simp only [Act.put, lzA, lzB, lzC]
  refine wpList_nil ?_
  refine hK1 _ _ ?_
  clear hK1 K1
  refine wp_seq_k (fun K2 hK2 => ?_)
  refine wp_seq_k (fun K3 hK3 => ?_)
  refine wp_region_lit ?_
  refine wl_yield (o := ⟨_, _, _, _, _, _⟩) (.int .i64 0) (yl_move (by rfl) _ rfl _ rfl) ?_
  simp only [Act.put, lzA, lzB, lzC]
  refine wpList_nil ?_
  refine hK3 _ _ ?_
  clear hK3 K3
  refine wp_block ?_
  go_loopw [4] (fun i wr => ∃ k : Nat, i = .int .i64 k ∧ k ≤ 4 ∧ (∀ j : Nat, j < k → cut (nameL (j : Nat)) l = none) ∧ Rdr wr b l ∧ w.grownBy wr (some b)) (fun i _ => 4 - (intOf i).toNat)
  case atStart => exact ⟨0, rfl, by omega, fun j h => by omega, H, D⟩
  case round =>
    clear D H
    obtain ⟨k, rfl, hk, hF, H, D⟩ := hrel
    by_cases hlt : k < 4
    · refine wp_seq_k (fun K4 hK4 => ?_)
      refine wp_region_lit ?_
      refine wl_yield (o := ⟨_, _, _, _, _, _⟩) (.bool true) (yt_lssI (by rfl) _ _ _ rfl (((k : Nat) : Int)) 4 true rfl rfl (decide_eq_true (by omega))) ?_
      simp only [Act.put, lzA, lzB, lzC]
      refine wpList_nil ?_
      refine hK4 _ _ ?_
      clear hK4 K4
      refine wp_seq_k (fun K5 hK5 => ?_)
      refine wp_cond_true rfl ?_
      refine wp_skip ?_
      refine hK5 _ _ ?_
      clear hK5 K5
      refine wp_seq_k (fun K6 hK6 => ?_)
      refine wp_block ?_
      refine wp_seq_k (fun K7 hK7 => ?_)
      refine wp_region_lit ?_
      refine wl_yield (o := ⟨_, _, _, _, _, _⟩) (.int .i64 (k : Nat)) (yl_move (by rfl) _ rfl _ rfl) ?_
      simp only [Act.put, lzA, lzB, lzC]
      refine wl_yield (o := ⟨_, _, _, _, _, _⟩) (.int .i64 (k : Nat)) (yl_assign (by rfl) _ rfl _ rfl) ?_
      simp only [Act.put, lzA, lzB, lzC]
      refine wpList_nil ?_
      refine hK7 _ _ ?_
      clear hK7 K7
      refine wp_seq_k (fun K8 hK8 => ?_)
      refine wp_region_lit ?_
      refine wl_yield (o := ⟨_, _, _, _, _, _⟩) (.pointer (some ⟨b, 0, none⟩)) (yl_move (by rfl) _ rfl _ rfl) ?_
      simp only [Act.put, lzA, lzB, lzC]
      refine wl_yield (o := ⟨_, _, _, _, _, _⟩) (.pointer (some ⟨b, 0, none⟩)) (yl_move (by rfl) _ rfl _ rfl) ?_
      simp only [Act.put, lzA, lzB, lzC]
      refine wl_yield (o := ⟨_, _, _, _, _, _⟩) (.pointer (some ⟨b, 0, none⟩)) (yt_nil (by rfl) _ rfl _ rfl) ?_
      simp only [Act.put, lzA, lzB, lzC]
      refine wl_yield (o := ⟨_, _, _, _, _, _⟩) (.pointer (some ⟨b, 1, none⟩)) (yt_fRd1 (by rfl) _ rfl b 0 rfl) ?_
      simp only [Act.put, lzA, lzB, lzC]
      refine wl_yield (o := ⟨_, _, _, _, _, _⟩) (.int .i64 (k : Nat)) (yl_move (by rfl) _ rfl _ rfl) ?_
      simp only [Act.put, lzA, lzB, lzC]
      refine wt_call (o := ⟨_, _, _, _, _, _⟩) (by rfl) 31 _ _ rfl #[.pointer (some ⟨b, 1, none⟩), .int .i64 (k : Nat)] rfl (run_call Tryz.func31 (by kernel_rfl) (by kernel_rfl)) ?_
      refine (name_rd b k l _ H.rd hlt).mono ?_
      rintro r v1 ⟨rfl, hr, kg⟩
      replace H := H.grown kg hr
      clear hr
      replace D := grown_trans D kg
      clear kg
      refine Or.inl ⟨.string (bs (nameL (k : Nat))), rfl, ?_⟩
      simp only [Act.put, lzA, lzB, lzC]
      refine wt_call (o := ⟨_, _, _, _, _, _⟩) (by rfl) 41 _ _ rfl #[.pointer (some ⟨b, 0, none⟩), .string (bs (nameL (k : Nat)))] rfl (run_call Tryz.func41 (by kernel_rfl) (by kernel_rfl)) ?_
      refine (has_or b _ _ _ H.rd).mono ?_
      rintro r v2 (⟨hq, hc, rfl, hr, kg⟩ | ⟨hc, rfl, hr, kg⟩)
      · replace H := H.grown kg hr
        clear hr
        replace D := grown_trans D kg
        clear kg
        refine Or.inl ⟨.bool true, rfl, ?_⟩
        simp only [Act.put, lzA, lzB, lzC]
        refine wpList_nil ?_
        refine hK8 _ _ ?_
        clear hK8 K8
        refine wp_cond_true rfl ?_
        refine wp_seq_k (fun K9 hK9 => ?_)
        refine wp_region_lit ?_
        refine wl_yield (o := ⟨_, _, _, _, _, _⟩) (.int .i64 (k : Nat)) (yl_move (by rfl) _ rfl _ rfl) ?_
        simp only [Act.put, lzA, lzB, lzC]
        refine wl_yield (o := ⟨_, _, _, _, _, _⟩) (.int .i64 (k : Nat)) (yl_assign (by rfl) _ rfl _ rfl) ?_
        simp only [Act.put, lzA, lzB, lzC]
        refine wpList_nil ?_
        refine hK9 _ _ ?_
        clear hK9 K9
        refine wp_ret ?_
        go_ret
        exact Or.inl ⟨_, _, attr_hit hlt hc, rfl, H.rd, D⟩
      · replace H := H.grown kg hr
        clear hr
        replace D := grown_trans D kg
        clear kg
        refine Or.inl ⟨.bool false, rfl, ?_⟩
        simp only [Act.put, lzA, lzB, lzC]
        refine wpList_nil ?_
        refine hK8 _ _ ?_
        clear hK8 K8
        refine wp_cond_false rfl ?_
        refine wp_skip ?_
        refine hK6 _ _ ?_
        clear hK6 K6
        refine wp_region_lit ?_
        refine wl_yield (o := ⟨_, _, _, _, _, _⟩) (.int .i64 (k + 1 : Nat)) (yt_addI (by rfl) _ _ _ rfl (((k : Nat) : Int)) 1 (((k + 1 : Nat) : Int)) rfl rfl (by omega) (by omega) (by omega)) ?_
        simp only [Act.put, lzA, lzB, lzC]
        refine wl_yield (o := ⟨_, _, _, _, _, _⟩) (.int .i64 (k + 1 : Nat)) (yl_move (by rfl) _ rfl _ rfl) ?_
        simp only [Act.put, lzA, lzB, lzC]
        refine wpList_nil ?_
        show _ ∧ _
        go_roundw
        case rel => exact ⟨k + 1, rfl, by omega, fun j hj => by
          rcases Nat.lt_succ_iff_lt_or_eq.1 hj with h | rfl
          · exact hF j h
          · exact hc, H, D⟩
        case measure => simp [intOf]; omega
    · refine wp_seq_k (fun K4 hK4 => ?_)
      refine wp_region_lit ?_
      refine wl_yield (o := ⟨_, _, _, _, _, _⟩) (.bool false) (yt_lssI (by rfl) _ _ _ rfl (((k : Nat) : Int)) 4 false rfl rfl (decide_eq_false (by omega))) ?_
      simp only [Act.put, lzA, lzB, lzC]
      refine wpList_nil ?_
      refine hK4 _ _ ?_
      clear hK4 K4
      refine wp_seq_k (fun K5 hK5 => ?_)
      refine wp_cond_false rfl ?_
      refine wp_exit ?_
      refine hK2 _ _ ?_
      clear hK5 K5 hK2 K2
      refine wp_region_lit ?_
      refine wl_yield (o := ⟨_, _, _, _, _, _⟩) (.iface 30 (.int .i64 2)) (yt_iface (by rfl) _ rfl 2 rfl) ?_
      simp only [Act.put, lzA, lzB, lzC]
      refine wt_panic (o := ⟨_, _, _, _, _, _⟩) (by rfl) _ rfl _ _ rfl ?_
      exact ⟨rfl, Or.inr ⟨attr_miss fun j hj => hF j (by omega), rfl, D⟩⟩
end Go.Proofs.YtlmdcaemjaldfaaGreatDoor
namespace Go.Proofs.YtlmdcaemjaldfaaGreatDoor
open Go.RowKit
end Go.Proofs.YtlmdcaemjaldfaaGreatDoor
namespace Go.Proofs.YtlmdcaemjaldfaaGreatDoor
open Go.RowKit
theorem getD_flip {l : Array Bool} {i : Nat} (h : i < l.size) (d d' : Bool) : l.getD i d = l.getD i d' := by
  rw [Array.getD_eq_getD_getElem?, Array.getD_eq_getD_getElem?, Array.getElem?_eq_getElem h]
  rfl
section
variable {P : Program} {ops : Array Oper} {Q : Exit → Act → World → Prop}
end
end Go.Proofs.YtlmdcaemjaldfaaGreatDoor
namespace Go.Proofs.YtlmdcaemjaldfaaGreatDoor
open Go.RowKit
def wpAnyL (P : Program) (ops : Array Oper) (Q : Exit → Act → World → Prop) (S : World → Prop) (late : Nat → Bool) : Nat → Array Bool → Act → World → Prop
  | 0, l, a, w => Region.ready .any ops l = [] ∧ Q .normal a w
  | n + 1, l, a, w => (Region.ready .any ops l = [] → Q .normal a w) ∧ ∀ i ∈ Region.ready .any ops l, wpOp P ops Q i (fun a' w' => (late i = false → S w → S w') ∧ wpAnyL P ops Q S late n (l.setIfInBounds i true) a' w') a w
section
variable {P : Program} {ops : Array Oper} {Q : Exit → Act → World → Prop} {S : World → Prop} {late : Nat → Bool}
theorem wpAny_of_late : ∀ (n : Nat) (l : Array Bool) (a : Act) (w : World), wpAnyL P ops Q S late n l a w → wpAny P .any ops Q n l a w
  | 0, _, _, _, h => h
  | n + 1, l, a, w, h => ⟨h.1, fun i hi => wpOp_mono (fun a' w' k => wpAny_of_late n _ a' w' k.2) (h.2 i hi)⟩
theorem wp_region_late {id : Nat} {a : Act} {w : World} (hm : P.follows .mixedOrders = true) (h : wpAnyL P ops Q S late ops.size (Array.replicate ops.size false) a w.drew) : (Code.region id ops true).wp P Q a w :=
  wp_region_any hm (wpAny_of_late _ _ _ _ h)
theorem wpAnyL_done {l : Array Bool} {a : Act} {w : World} (hr : Region.ready .any ops l = []) (h : Q .normal a w) : ∀ n, wpAnyL P ops Q S late n l a w
  | 0 => ⟨hr, h⟩
  | n + 1 => ⟨fun _ => h, fun i hi => by rw [hr] at hi; cases hi⟩
theorem wpAnyL_all {rs : List Nat} {n : Nat} {l : Array Bool} {a : Act} {w : World} (hr : Region.ready .any ops l = rs) (hne : rs ≠ [])
    (h : ∀ i ∈ rs, wpOp P ops Q i (fun a' w' => (late i = false → S w → S w') ∧ wpAnyL P ops Q S late n (l.setIfInBounds i true) a' w') a w) : wpAnyL P ops Q S late (n + 1) l a w :=
  ⟨fun e => absurd (hr.symm.trans e) hne, fun i hi => h i (hr ▸ hi)⟩
def lateOn (ops : Array Oper) (late : Nat → Bool) (i : Nat) : Bool := (List.range ops.size).all fun j => !late j || ((ops[j]?).map fun o => o.after.any fun e => Region.binds .any e && (e.on == i)).getD true
theorem lateOn_spec {i j : Nat} {o : Oper} (h : lateOn ops late i = true) (ho : ops[j]? = some o) (hl : late j = true) : ∃ e ∈ o.after, Region.binds .any e = true ∧ e.on = i := by
  unfold lateOn at h
  rw [List.all_eq_true] at h
  have hj := h j (List.mem_range.2 (Array.getElem?_eq_some_iff.1 ho).1)
  rw [hl, ho] at hj
  simp only [Bool.not_true, Bool.false_or, Option.map_some, Option.getD_some] at hj
  rw [Array.any_eq_true'] at hj
  obtain ⟨e, he, hb⟩ := hj
  rw [Bool.and_eq_true, beq_iff_eq] at hb
  exact ⟨e, he, hb.1, hb.2⟩
theorem wpAnyL_swap {T : World → Prop} {i : Nat} {oi : Oper} {v : Value} (hi : ops[i]? = some oi) (hs : Region.noSelect ops = true) (hQ : ∀ c a w, Q (.panic c) (a.put oi.dst v) w → Q (.panic c) a w)
    (hT : ∀ (j : Nat) (o : Oper) (w w' : World), ops[j]? = some o → (∀ e ∈ o.after, Region.binds .any e = true → e.on ≠ i) → T w → (late j = false → S w → S w') → T w') :
    ∀ (n : Nat) (l : Array Bool) (a : Act) (w : World), (∀ j o, ops[j]? = some o → j ≠ i → l.getD j true = false → (∀ e ∈ o.after, Region.binds .any e = true → e.on ≠ i) → oi.apart ops o = true) →
      i ∈ Region.ready .any ops l → YieldsIf P ops T oi v a → T w → wpAnyL P ops Q S late n (l.setIfInBounds i true) (a.put oi.dst v) w → wpAnyL P ops Q S late (n + 1) l a w := by
  intro n
  induction n with
  | zero =>
    intro l a w _ hr hy hw H
    refine And.intro (fun e => by rw [e] at hr; cases hr) (fun j hj => ?_)
    by_cases e : j = i
    · subst e
      exact hy.wpOp hi hw (And.intro (fun _ h => h) H)
    · have hm := ready_mono hj e
      rw [H.1] at hm
      cases hm
  | succ n ih =>
    intro l a w hf hr hy hw H
    refine And.intro (fun e => by rw [e] at hr; cases hr) (fun j hj => ?_)
    by_cases e : j = i
    · subst e
      exact hy.wpOp hi hw (And.intro (fun _ h => h) H)
    · obtain ⟨hun, oj, hoj, hall⟩ := mem_ready.1 hj
      have hno : ∀ x ∈ oj.after, Region.binds .any x = true → x.on ≠ i := by
        intro x hx hb hxi
        have h1 := hall x hx hb
        rw [hxi] at h1
        have h0 := (mem_ready.1 hr).1
        by_cases hlt : i < l.size
        · rw [getD_flip hlt true false] at h0
          rw [h0] at h1
          cases h1
        · have : l.getD i false = false := by rw [Array.getD_eq_getD_getElem?, Array.getElem?_eq_none (by omega)]; rfl
          rw [this] at h1
          cases h1
      have hput := wpOp_putIf hoj (hf j oj hoj e hun hno) (fun cs b => Region.noSelect_spec hs i oi cs b hi) (fun cs b => Region.noSelect_spec hs j oj cs b hoj) hQ hy (H.2 j (ready_mono hj e))
      refine wpOp_mono ?_ hput
      rintro a' w' ⟨hy', hS', hH⟩
      refine ⟨hS', ih (l.setIfInBounds j true) a' w' ?_ (ready_mono hr (Ne.symm e)) hy' (hT j oj w w' hoj hno hw hS') ?_⟩
      · intro k ok hk hki hku hkn
        refine hf k ok hk hki ?_ hkn
        by_cases hjk : j = k
        · subst hjk; exact hun
        · rwa [getD_set_ne true hjk] at hku
      · rw [Array.setIfInBounds_comm _ _ e]
        exact hH
theorem wpAnyL_load {i : Nat} {oi : Oper} {v : Value} {n : Nat} {l : Array Bool} {a : Act} {w : World} (hi : ops[i]? = some oi) (hs : Region.noSelect ops = true) (hf : Region.free .any ops l i = true) (hr : (Region.ready .any ops l).contains i = true)
    (hl : lateOn ops late i = true) (hQ : ∀ c a w, Q (.panic c) (a.put oi.dst v) w → Q (.panic c) a w) (hy : YieldsIf P ops S oi v a) (hS : S w)
    (h : wpAnyL P ops Q S late n (l.setIfInBounds i true) (a.put oi.dst v) w) : wpAnyL P ops Q S late (n + 1) l a w :=
  wpAnyL_swap hi hs hQ (fun j o w w' ho hno hw hk => by
    cases e : late j
    · exact hk e hw
    · obtain ⟨x, hx, hb, hxi⟩ := lateOn_spec hl ho e
      exact absurd hxi (hno x hx hb)) n l a w (Region.free_spec hi hf) (by simpa using hr) hy hS h
theorem wpAnyL_pure {i : Nat} {oi : Oper} {v : Value} {n : Nat} {l : Array Bool} {a : Act} {w : World} (hi : ops[i]? = some oi) (hs : Region.noSelect ops = true) (hf : Region.free .any ops l i = true) (hr : (Region.ready .any ops l).contains i = true)
    (hQ : ∀ c a w, Q (.panic c) (a.put oi.dst v) w → Q (.panic c) a w) (hy : YieldsIf P ops (fun _ => True) oi v a)
    (h : wpAnyL P ops Q S late n (l.setIfInBounds i true) (a.put oi.dst v) w) : wpAnyL P ops Q S late (n + 1) l a w :=
  wpAnyL_swap (T := fun _ => True) hi hs hQ (fun _ _ _ _ _ _ _ _ => trivial) n l a w (Region.free_spec hi hf) (by simpa using hr) hy trivial h
end
end Go.Proofs.YtlmdcaemjaldfaaGreatDoor
namespace Go.Proofs.YtlmdcaemjaldfaaGreatDoor
open Go.RowKit
theorem app_where (w : World) (base t ty e : TypeId) (i : TypeInfo) (z : Value) (size bytes : Nat) (ht : Tryz.prog.underlying t = some (.slice e)) (hi : Tryz.prog.info? e = some i) (hz : i.zero = some z)
    (hsize : i.size = size) (hby : i.bytes = bytes) (hzs : z.cells.size = size) (hsz : 0 < size) (hb : bytes ≤ 1000) (v : Value) (n : Nat) (xs : List Value) (hown : w.ownsRow base e size v n xs)
    (a : Addr) (c : Nat) (news : List Value) (hl : news.length = size) (hnews : ∀ j u, news[j]? = some u → w.cell? (a.add j) = some u) (h1 : ∀ u ∈ news, u.oneCell' = true) (hn : n ≤ 1000000) (hbase : base ≤ w.heap.size) :
    ∃ v' w', (Builtin.append_ #[t, t] ty #[v, .slice (some a) 1 c]).run Tryz.prog w = .ok v' w' ∧ w'.ownsRow base e size v' (n + 1) (xs ++ news) ∧ w.grownBy w' v.ownBlock ∧ (∀ g, v'.ownBlock = some g → some g = v.ownBlock ∨ w.heap.size ≤ g) := by
  have hb2 : (n + 1) * bytes ≤ 140737488355328 := Nat.le_trans (Nat.mul_le_mul (show n + 1 ≤ 1000001 by omega) hb) (by decide)
  obtain ⟨v', w', hr, ho, hg, _⟩ := run_append_own (P := Tryz.prog) w base t ty e i z size bytes ht hi hz hsize hby hzs hsz v n xs hown a 1 c news (by rw [hl]; omega) hnews h1 (by unfold maxLen; omega) hb2 hbase
  refine ⟨v', w', hr, ho, hg, ?_⟩
  subst hsize
  rcases hown.2 with ⟨rfl, rfl⟩ | ⟨g, cap, cur, rfl, hbg, hgc, hnc, hcm, hcs, htake⟩
  · have hr2 := run_append_nil (P := Tryz.prog) w t ty e i z ht hi hz a 1 c news (by rw [hl]; omega) hnews (by omega) (by omega) (by rw [hby]; omega)
    rw [hr] at hr2
    injection hr2 with e1 e2
    intro g hg'
    rw [e1] at hg'
    simp only [Value.ownBlock, Option.some.injEq] at hg'
    right
    omega
  · by_cases hroom : n + 1 ≤ cap
    · have hr2 := run_append_room (P := Tryz.prog) w t ty e i ht hi g n cap cur hgc a 1 c news (by rw [hl]; omega) hnews h1 hroom (by rw [hl, hcs]; have := Nat.mul_le_mul_right i.size hroom; rw [Nat.add_mul] at this; omega)
      rw [hr] at hr2
      injection hr2 with e1 e2
      intro k hk
      rw [e1] at hk
      left
      simp only [Value.ownBlock] at hk ⊢
      exact hk.symm
    · have hr2 := run_append_grow (P := Tryz.prog) w t ty e i z ht hi hz ⟨g, 0, none⟩ n cap xs hown.1 (hown.cells (g := g) rfl) a 1 c news (by rw [hl]; omega) hnews (by omega) (by omega) (by rw [hby]; exact growslice_fits (by omega) hb2)
      rw [hr] at hr2
      injection hr2 with e1 e2
      intro k hk
      rw [e1] at hk
      simp only [Value.ownBlock, Option.some.injEq] at hk
      right
      omega
def rgCells1 (l : List Rg) : List Value := l.flatMap fun r => [.int .i64 r.1, .int .i64 r.2]
def stCells1 (l : List ByteArray) : List Value := l.flatMap fun s => [.string s]
def exCells1 (l : List EC) : List Value := l.flatMap EC.list
def RowS (w : World) (B : Nat) (v : Value) (l : List ByteArray) : Prop := w.ownsRow B 9 1 v l.length (stCells1 l)
def RowR (w : World) (B : Nat) (v : Value) (l : List Rg) : Prop := w.ownsRow B 96 2 v l.length (rgCells1 l)
def RowE (w : World) (B : Nat) (v : Value) (l : List EC) : Prop := w.ownsRow B 29 7 v l.length (exCells1 l)
theorem own_ne {w : World} {B : Nat} {e t : TypeId} {size n g : Nat} {v : Value} {xs : List Value} {cs : Array Value} {fz : Nat × Nat} (h : w.ownsRow B e size v n xs) (hg : w.heap[g]? = some (.cells cs t fz)) (hne : t ≠ e) : v.ownBlock ≠ some g := by
  rcases h.2 with ⟨rfl, _⟩ | ⟨k, cap, cur, rfl, _, hk, _⟩
  · simp [Value.ownBlock]
  · intro e1
    simp only [Value.ownBlock, Option.some.injEq] at e1
    rw [e1, hg] at hk
    injection hk with hk
    injection hk with _ hk
    exact hne hk
theorem heap_gro {w w' : World} {g : Nat} {x : Obj} {r : Option Nat} (h : w.heap[g]? = some x) (hg : w.grownBy w' r) (hn : r ≠ some g) : w'.heap[g]? = some x := (hg.block _ (lt_heap h) (Ne.symm hn)).trans h
theorem gr_own {a w w' : World} {r r' : Option Nat} (h : a.grownBy w r) (hg : ∀ g, r' = some g → a.heap.size ≤ g) (k : w.grownBy w' r') : a.grownBy w' r :=
  ⟨k.os.trans h.os, k.tape.trans h.tape, k.output.trans h.output, Nat.le_trans h.size k.size, fun i hi hr => (k.block i (Nat.lt_of_lt_of_le hi h.size) (by intro e; have := hg i e.symm; omega)).trans (h.block i hi hr)⟩
theorem Rdr.gro {w w' : World} {b : Nat} {l : List UInt8} {B : Nat} {e : TypeId} {size n : Nat} {v : Value} {xs : List Value} (h : Rdr w b l) (ho : w.ownsRow B e size v n xs) (k : w.grownBy w' v.ownBlock) (hB : 6 ≤ B) (hne : 100 ≠ e) : Rdr w' b l := by
  have hb : v.ownBlock ≠ some b := by
    rcases h.rd with hr | hr
    · exact own_ne ho hr hne
    · exact own_ne ho hr hne
  refine ⟨h.env.below (B := 6) (Nat.le_refl _) ⟨k.os, k.tape, k.output, k.size, fun i hi => k.block i (by have := h.env.big; omega) (fun e => by have := (World.ownsRow.lt ho i e.symm).1; omega)⟩, h.six, ?_⟩
  rcases h.rd with hr | hr
  · exact Or.inl (heap_gro hr k hb)
  · exact Or.inr (heap_gro hr k hb)
theorem row_gr_heap {w w' : World} {B : Nat} {e t : TypeId} {size n g : Nat} {v : Value} {xs : List Value} {cs : Array Value} {fz : Nat × Nat} (h : w.ownsRow B e size v n xs) (k : w.grownBy w' (some g)) (hg : w.heap[g]? = some (.cells cs t fz)) (hne : t ≠ e) : w'.ownsRow B e size v n xs := by
  refine ⟨h.1, ?_⟩
  have hn := own_ne h hg hne
  rcases h.2 with h2 | ⟨g', cap, cur, e1, hgb, hc, hr⟩
  · exact Or.inl h2
  · refine Or.inr ⟨g', cap, cur, e1, hgb, heap_gr hc k ?_, hr⟩
    intro e2
    subst e2
    exact hn (by rw [e1]; rfl)
theorem row_gr_rd {w w' : World} {B : Nat} {e : TypeId} {size n b : Nat} {v : Value} {xs : List Value} {l : List UInt8} (h : w.ownsRow B e size v n xs) (k : w.grownBy w' (some b)) (hg : RdL w b l) (hne : 100 ≠ e) : w'.ownsRow B e size v n xs := by
  rcases hg with hg | hg
  · exact row_gr_heap h k hg hne
  · exact row_gr_heap h k hg hne
theorem Rdr.row {w w' : World} {B : Nat} {e : TypeId} {size n b : Nat} {v : Value} {xs : List Value} {l : List UInt8} (h : Rdr w b l) (ho : w.ownsRow B e size v n xs) (k : w.grownBy w' (some b)) (hne : 100 ≠ e) : w'.ownsRow B e size v n xs := row_gr_rd ho k h.rd hne
theorem Env.gro {w w' : World} {B : Nat} {e : TypeId} {size n : Nat} {v : Value} {xs : List Value} (h : Env w) (ho : w.ownsRow B e size v n xs) (k : w.grownBy w' v.ownBlock) (hB : 6 ≤ B) : Env w' :=
  h.below (B := 6) (Nat.le_refl _) ⟨k.os, k.tape, k.output, k.size, fun i hi => k.block i (by have := h.big; omega) (fun e => by have := (World.ownsRow.lt ho i e.symm).1; omega)⟩
structure Nmr (w : World) (b : Nat) : Prop where
  env : Env w
  six : 6 ≤ b
  nm : NamesAt w b
theorem Nmr.lt {w : World} {b : Nat} (h : Nmr w b) : b < w.heap.size := by rcases h.nm with h | h <;> exact lt_heap h
theorem Nmr.on {w w' : World} {b : Nat} (h : Nmr w b) (hb : Below w.heap.size w w') : Nmr w' b := ⟨h.env.on hb, h.six, by
  rcases h.nm with h | h
  · exact Or.inl (heap_on h hb)
  · exact Or.inr (heap_on h hb)⟩
theorem Nmr.gr {w w' : World} {b g : Nat} (h : Nmr w b) (k : w.grownBy w' (some g)) (hn : b ≠ g) (h6 : 6 ≤ g) : Nmr w' b :=
  ⟨Env.gr h.env k h6, h.six, by
    rcases h.nm with hr | hr
    · exact Or.inl (heap_gr hr k hn)
    · exact Or.inr (heap_gr hr k hn)⟩
theorem Nmr.grown {w w' : World} {b : Nat} (h : Nmr w b) (hg : w.grownBy w' (some b)) (hr : NamesAt w' b) : Nmr w' b :=
  ⟨h.env.below h.six (below_of_grown hg (Nat.le_refl _) (Nat.le_of_lt h.lt)), h.six, hr⟩
theorem Nmr.gro {w w' : World} {b : Nat} {B : Nat} {e : TypeId} {size n : Nat} {v : Value} {xs : List Value} (h : Nmr w b) (ho : w.ownsRow B e size v n xs) (k : w.grownBy w' v.ownBlock) (hB : 6 ≤ B) (hne : 82 ≠ e) : Nmr w' b := by
  have hb : v.ownBlock ≠ some b := by
    rcases h.nm with hr | hr
    · exact own_ne ho hr hne
    · exact own_ne ho hr hne
  refine ⟨Env.gro h.env ho k hB, h.six, ?_⟩
  rcases h.nm with hr | hr
  · exact Or.inl (heap_gro hr k hb)
  · exact Or.inr (heap_gro hr k hb)
theorem Nmr.row {w w' : World} {B : Nat} {e : TypeId} {size n b : Nat} {v : Value} {xs : List Value} (h : Nmr w b) (ho : w.ownsRow B e size v n xs) (k : w.grownBy w' (some b)) (hne : 82 ≠ e) : w'.ownsRow B e size v n xs := by
  rcases h.nm with hg | hg
  · exact row_gr_heap ho k hg hne
  · exact row_gr_heap ho k hg hne
theorem row_row {w w' : World} {B B' : Nat} {e e' : TypeId} {size size' n n' : Nat} {v u : Value} {xs ys : List Value} (h : w.ownsRow B e size v n xs) (h' : w.ownsRow B' e' size' u n' ys) (k : w.grownBy w' u.ownBlock) (hne : e ≠ e') : w'.ownsRow B e size v n xs := by
  refine ⟨h.1, ?_⟩
  rcases h.2 with h2 | ⟨g', cap, cur, e1, hgb, hc, hr⟩
  · exact Or.inl h2
  · exact Or.inr ⟨g', cap, cur, e1, hgb, heap_gro hc k (own_ne h' hc hne), hr⟩
theorem ownsRow_on {w w' : World} {B : Nat} {e : TypeId} {size n : Nat} {v : Value} {xs : List Value} (h : w.ownsRow B e size v n xs) (hb : Below w.heap.size w w') : w'.ownsRow B e size v n xs := by
  refine ⟨h.1, ?_⟩
  rcases h.2 with h2 | ⟨g, cap, cur, e1, hg, hc, hr⟩
  · exact Or.inl h2
  · exact Or.inr ⟨g, cap, cur, e1, hg, heap_on hc hb, hr⟩
theorem ownsRow_gr {w w' : World} {B : Nat} {e : TypeId} {size n : Nat} {v : Value} {xs : List Value} {r : Option Nat} (h : w.ownsRow B e size v n xs) (hg : w.grownBy w' r) (hne : ∀ g, v.ownBlock = some g → r ≠ some g) : w'.ownsRow B e size v n xs := by
  refine ⟨h.1, ?_⟩
  rcases h.2 with h2 | ⟨g, cap, cur, e1, hgb, hc, hr⟩
  · exact Or.inl h2
  · exact Or.inr ⟨g, cap, cur, e1, hgb, heap_gro hc hg (hne g (by rw [e1]; rfl)), hr⟩
theorem RowS.nil (w : World) (B : Nat) : RowS w B (.slice none 0 0) [] := World.ownsRow_nil w B _ _
theorem RowS.on {w w' : World} {B : Nat} {v : Value} {l : List ByteArray} (h : RowS w B v l) (hb : Below w.heap.size w w') : RowS w' B v l := ownsRow_on h hb
theorem stCells1_one (d : ByteArray) : stCells1 [d] = [.string d] := by simp [stCells1]
theorem stCells1_app (l : List ByteArray) (d : ByteArray) : stCells1 (l ++ [d]) = stCells1 l ++ [.string d] := by
  rw [← stCells1_one d]
  unfold stCells1
  rw [List.flatMap_append]
theorem rn_appS {o : Oper} {w : World} (a : Act) (s x : Operand) (ho : o.op = .call { callee := .builtin .append, args := #[s, x], argTypes := #[24, 24] }) (B : Nat) (v : Value) (l : List ByteArray) (hs : a.eval s = v) (hown : RowS w B v l)
    (g : Nat) (d : ByteArray) (hx : a.eval x = .slice (some ⟨g, 0, none⟩) 1 1) (hd : w.heap[g]? = some (.cells #[.string d] 9 (0, 0))) (hn : l.length ≤ 1000000) (hB : B ≤ w.heap.size) :
    ∃ v' w', (execOp a.eval o).run Tryz.prog w = .ok (.value v') w' ∧ RowS w' B v' (l ++ [d]) ∧ w.grownBy w' v.ownBlock ∧ (∀ g, v'.ownBlock = some g → some g = v.ownBlock ∨ w.heap.size ≤ g) := by
  obtain ⟨i0, hi, hz0, hz1, hz2⟩ := info_parts cInfoS
  obtain ⟨v', w', hr, h2, h3, h4⟩ := app_where w B 24 o.type 9 i0 _ 1 16 Tryz.underlying24 hi hz0 hz1 hz2 rfl (by decide) (by decide) v l.length _ hown ⟨g, 0, none⟩ 1 [.string d] (by rfl) (fun j u hu => by
    rw [Addr.add_mid, Nat.zero_add, cell_heap hd]
    exact List.getElem?_toArray.trans hu) (fun u hu => by
    first
      | exact d.list_one u hu
      | (simp only [List.mem_cons, List.not_mem_nil, or_false] at hu; rcases hu with rfl | rfl <;> rfl)
      | (simp only [List.mem_cons, List.not_mem_nil, or_false] at hu; rw [hu]; rfl)) hn hB
  refine ⟨v', w', ?_, ?_, h3, h4⟩
  · unfold execOp
    simp only [ho, resolve, invoke, builtin, Sem.run_bind, Sem.run_pure, Result.andThen_ok, List.map_toArray, List.map_cons, List.map_nil, hs, hx, hr]
  · show w'.ownsRow B 9 1 v' (l ++ [d]).length (stCells1 (l ++ [d]))
    rw [stCells1_app, List.length_append]
    exact h2
theorem RowR.nil (w : World) (B : Nat) : RowR w B (.slice none 0 0) [] := World.ownsRow_nil w B _ _
theorem RowR.on {w w' : World} {B : Nat} {v : Value} {l : List Rg} (h : RowR w B v l) (hb : Below w.heap.size w w') : RowR w' B v l := ownsRow_on h hb
theorem rgCells1_one (d : Rg) : rgCells1 [d] = [.int .i64 d.1, .int .i64 d.2] := by simp [rgCells1]
theorem rgCells1_app (l : List Rg) (d : Rg) : rgCells1 (l ++ [d]) = rgCells1 l ++ [.int .i64 d.1, .int .i64 d.2] := by
  rw [← rgCells1_one d]
  unfold rgCells1
  rw [List.flatMap_append]
theorem rn_appR {o : Oper} {w : World} (a : Act) (s x : Operand) (ho : o.op = .call { callee := .builtin .append, args := #[s, x], argTypes := #[23, 23] }) (B : Nat) (v : Value) (l : List Rg) (hs : a.eval s = v) (hown : RowR w B v l)
    (g : Nat) (d : Rg) (hx : a.eval x = .slice (some ⟨g, 0, none⟩) 1 1) (hd : w.heap[g]? = some (.cells #[.int .i64 d.1, .int .i64 d.2] 96 (0, 0))) (hn : l.length ≤ 1000000) (hB : B ≤ w.heap.size) :
    ∃ v' w', (execOp a.eval o).run Tryz.prog w = .ok (.value v') w' ∧ RowR w' B v' (l ++ [d]) ∧ w.grownBy w' v.ownBlock ∧ (∀ g, v'.ownBlock = some g → some g = v.ownBlock ∨ w.heap.size ≤ g) := by
  obtain ⟨i0, hi, hz0, hz1, hz2⟩ := info_parts cInfoR
  obtain ⟨v', w', hr, h2, h3, h4⟩ := app_where w B 23 o.type 96 i0 _ 2 16 Tryz.underlying23 hi hz0 hz1 hz2 rfl (by decide) (by decide) v l.length _ hown ⟨g, 0, none⟩ 1 [.int .i64 d.1, .int .i64 d.2] (by rfl) (fun j u hu => by
    rw [Addr.add_mid, Nat.zero_add, cell_heap hd]
    exact List.getElem?_toArray.trans hu) (fun u hu => by
    first
      | exact d.list_one u hu
      | (simp only [List.mem_cons, List.not_mem_nil, or_false] at hu; rcases hu with rfl | rfl <;> rfl)
      | (simp only [List.mem_cons, List.not_mem_nil, or_false] at hu; rw [hu]; rfl)) hn hB
  refine ⟨v', w', ?_, ?_, h3, h4⟩
  · unfold execOp
    simp only [ho, resolve, invoke, builtin, Sem.run_bind, Sem.run_pure, Result.andThen_ok, List.map_toArray, List.map_cons, List.map_nil, hs, hx, hr]
  · show w'.ownsRow B 96 2 v' (l ++ [d]).length (rgCells1 (l ++ [d]))
    rw [rgCells1_app, List.length_append]
    exact h2
theorem RowE.nil (w : World) (B : Nat) : RowE w B (.slice none 0 0) [] := World.ownsRow_nil w B _ _
theorem RowE.on {w w' : World} {B : Nat} {v : Value} {l : List EC} (h : RowE w B v l) (hb : Below w.heap.size w w') : RowE w' B v l := ownsRow_on h hb
theorem exCells1_one (d : EC) : exCells1 [d] = d.list := by simp [exCells1]
theorem exCells1_app (l : List EC) (d : EC) : exCells1 (l ++ [d]) = exCells1 l ++ d.list := by
  rw [← exCells1_one d]
  unfold exCells1
  rw [List.flatMap_append]
theorem rn_appE {o : Oper} {w : World} (a : Act) (s x : Operand) (ho : o.op = .call { callee := .builtin .append, args := #[s, x], argTypes := #[27, 27] }) (B : Nat) (v : Value) (l : List EC) (hs : a.eval s = v) (hown : RowE w B v l)
    (g : Nat) (d : EC) (hx : a.eval x = .slice (some ⟨g, 0, none⟩) 1 1) (hd : w.heap[g]? = some (exObj d)) (hn : l.length ≤ 1000000) (hB : B ≤ w.heap.size) :
    ∃ v' w', (execOp a.eval o).run Tryz.prog w = .ok (.value v') w' ∧ RowE w' B v' (l ++ [d]) ∧ w.grownBy w' v.ownBlock ∧ (∀ g, v'.ownBlock = some g → some g = v.ownBlock ∨ w.heap.size ≤ g) := by
  obtain ⟨i0, hi, hz0, hz1, hz2⟩ := info_parts cInfoX
  obtain ⟨v', w', hr, h2, h3, h4⟩ := app_where w B 27 o.type 29 i0 _ 7 104 Tryz.underlying27 hi hz0 hz1 hz2 rfl (by decide) (by decide) v l.length _ hown ⟨g, 0, none⟩ 1 d.list (by rfl) (fun j u hu => by
    rw [Addr.add_mid, Nat.zero_add, cell_heap hd]
    exact List.getElem?_toArray.trans hu) (fun u hu => by
    first
      | exact d.list_one u hu
      | (simp only [List.mem_cons, List.not_mem_nil, or_false] at hu; rcases hu with rfl | rfl <;> rfl)
      | (simp only [List.mem_cons, List.not_mem_nil, or_false] at hu; rw [hu]; rfl)) hn hB
  refine ⟨v', w', ?_, ?_, h3, h4⟩
  · unfold execOp
    simp only [ho, resolve, invoke, builtin, Sem.run_bind, Sem.run_pure, Result.andThen_ok, List.map_toArray, List.map_cons, List.map_nil, hs, hx, hr]
  · show w'.ownsRow B 29 7 v' (l ++ [d]).length (exCells1 (l ++ [d]))
    rw [exCells1_app, List.length_append]
    exact h2
theorem rn_row1S {o : Oper} {w : World} (a : Act) (x : Operand) (ho : o.op = .buildSlice 24 1 #[(0, x)]) (d : ByteArray) (hx : a.eval x = .string d) : (execOp a.eval o).run Tryz.prog w = .ok (.value (.slice (some ⟨w.heap.size, 0, none⟩) 1 1)) (w.alloc (.cells #[.string d] 9 (0, 0))) := by
  simp only [execOp, ho, List.map_toArray, List.map_cons, List.map_nil, hx]
  go_simp
theorem rn_row1R {o : Oper} {w : World} (a : Act) (x : Operand) (ho : o.op = .buildSlice 23 1 #[(0, x)]) (d : Rg) (hx : a.eval x = .agg #[.int .i64 d.1, .int .i64 d.2]) : (execOp a.eval o).run Tryz.prog w = .ok (.value (.slice (some ⟨w.heap.size, 0, none⟩) 1 1)) (w.alloc (.cells #[.int .i64 d.1, .int .i64 d.2] 96 (0, 0))) := by
  simp only [execOp, ho, List.map_toArray, List.map_cons, List.map_nil, hx]
  go_simp
set_option maxHeartbeats 1000000 in
set_option maxRecDepth 100000 in
theorem rn_row1E {o : Oper} {w : World} (a : Act) (x : Operand) (ho : o.op = .buildSlice 27 1 #[(0, x)]) (d : EC) (hx : a.eval x = d.val) : (execOp a.eval o).run Tryz.prog w = .ok (.value (.slice (some ⟨w.heap.size, 0, none⟩) 1 1)) (w.alloc (exObj d)) := by
  simp only [execOp, ho, List.map_toArray, List.map_cons, List.map_nil, hx, EC.val, exObj]
  go_simp
theorem yt_buildR {ops : Array Oper} {S : World → Prop} {o : Oper} {a : Act} (hw : Region.wanted o (yielded ops a.tmps) = true) (x y : Operand) (ho : o.op = .build 96 #[(0, x), (1, y)]) (p q : Int) (hx : a.eval x = .int .i64 p) (hy : a.eval y = .int .i64 q) : YieldsIf Tryz.prog ops S o (.agg #[.int .i64 p, .int .i64 q]) a :=
  Or.inl ⟨hw, fun w _ => by
    simp only [execOp, ho, List.map_toArray, List.map_cons, List.map_nil, hx, hy]
    go_simp⟩
section
variable {ops : Array Oper} {Q : Exit → Act → World → Prop} {o : Oper} {a : Act} {i : Nat} {w : World} {K : Act → World → Prop}
theorem ot_run (hi : ops[i]? = some o) (hw : Region.wanted o (yielded ops a.tmps) = true) (v : Value) (w' : World) (hr : (execOp a.eval o).run Tryz.prog w = .ok (.value v) w') (h : K (a.put o.dst v) w') : wpOp Tryz.prog ops Q i K a w := by
  unfold wpOp
  simp only [hi]
  rw [if_pos hw]
  refine Or.inl ?_
  unfold Oper.wp
  rw [hr]
  exact h
theorem ot_skip (hi : ops[i]? = some o) (hw : Region.wanted o (yielded ops a.tmps) = true) (w' : World) (hr : (execOp a.eval o).run Tryz.prog w = .ok .skip w') (h : K (a.put o.dst undef) w') : wpOp Tryz.prog ops Q i K a w := by
  unfold wpOp
  simp only [hi]
  rw [if_pos hw]
  refine Or.inl ?_
  unfold Oper.wp
  rw [hr]
  exact h
theorem ot_call (hi : ops[i]? = some o) (hw : Region.wanted o (yielded ops a.tmps) = true)
    (f : Nat) (xs : Array Operand) (ts : Array TypeId) (ho : o.op = .call { callee := .value (.func f), args := xs, argTypes := ts }) (vs : Array Value) (hv : xs.toList.map a.eval = vs.toList)
    (hrun : ∀ (W : World) (A : Array Value), (callFunc f A).run Tryz.prog W = .ok (.enter f A) W)
    (hc : Calls Tryz.prog f vs w fun r w' => (∃ v, r = .returned v ∧ K (a.put o.dst v) w') ∨ (∃ ch, r = .panicked ch ∧ Q (.panic ch) a w')) : wpOp Tryz.prog ops Q i K a w := by
  unfold wpOp
  simp only [hi]
  rw [if_pos hw]
  refine Or.inl ?_
  have hv : xs.map a.eval = vs := by
    rw [← Array.toList_inj, Array.toList_map]
    exact hv
  have he : a.eval (.func f) = .func (.func f) #[] #[] := rfl
  have hx : (execOp a.eval o).run Tryz.prog w = .ok (.enter f vs) w := by
    have := hrun w vs
    simp [execOp, ho, resolve, he, hv, Deferred.ofValue, invoke, this]
  unfold Oper.wp
  rw [hx, Oper.upon_enter]
  refine hc.mono ?_
  rintro e w' (⟨v, rfl, h1⟩ | ⟨ch, rfl, h1⟩)
  · exact h1
  · exact h1
theorem rn_putL (T : TypeId) (hT : T = 23 ∨ T = 24 ∨ T = 27) (x y : Operand) (ho : o.op = .store T x y) (g k : Nat) (hx : a.eval x = .pointer (some ⟨g, k, none⟩)) (p : Option Addr) (n c : Nat) (hy : a.eval y = .slice p n c)
    {cs : Array Value} {t : TypeId} (hc : w.heap[g]? = some (.cells cs t (0, 0))) (hk : k < cs.size) : (execOp a.eval o).run Tryz.prog w = .ok .skip (w.setCell ⟨g, k, none⟩ (.slice p n c)) := by
  have c0 : w.cell? ⟨g, k, none⟩ = some cs[k] := by rw [cell_heap hc, Array.getElem?_eq_getElem hk]
  have f0 := frozen_heap hc k
  rcases hT with rfl | rfl | rfl
  · simp only [execOp, ho, hx, hy]
    go_simp
  · simp only [execOp, ho, hx, hy]
    go_simp
  · simp only [execOp, ho, hx, hy]
    go_simp
theorem ot_putE (hi : ops[i]? = some o) (hw : Region.wanted o (yielded ops a.tmps) = true) (x y : Operand) (ho : o.op = .store 29 x y) (g k : Nat) (c : EC) (hx : a.eval x = .pointer (some ⟨g, k, none⟩)) (hy : a.eval y = c.val) (ht : w.there g k 7)
    (h : K (a.put o.dst undef) (w.setCells g k c.list)) : wpOp Tryz.prog ops Q i K a w := by
  unfold wpOp
  simp only [hi]
  rw [if_pos hw]
  exact Or.inl (wp_store_mid 29 x y ho g k c.list.toArray hx hy ht (by rw [infoEx]; rfl) (all_oneCell_toArray c.list_one) h)
theorem ot_row1S (hi : ops[i]? = some o) (hw : Region.wanted o (yielded ops a.tmps) = true) (x : Operand) (ho : o.op = .buildSlice 24 1 #[(0, x)]) (d : ByteArray) (hx : a.eval x = .string d)
    (h : ∀ W g, w.heap.size ≤ g → W.heap[g]? = some (.cells #[.string d] 9 (0, 0)) → Below w.heap.size w W → K (a.put o.dst (.slice (some ⟨g, 0, none⟩) 1 1)) W) : wpOp Tryz.prog ops Q i K a w :=
  ot_run hi hw _ _ (rn_row1S a x ho d hx) (h _ _ (Nat.le_refl _) (heap_new _ _) ((Below.refl _ w).alloc (Nat.le_refl _) _))
theorem ot_appS (hi : ops[i]? = some o) (hw : Region.wanted o (yielded ops a.tmps) = true) (s x : Operand) (ho : o.op = .call { callee := .builtin .append, args := #[s, x], argTypes := #[24, 24] }) (B : Nat) (v : Value) (l : List ByteArray) (hs : a.eval s = v) (hown : RowS w B v l)
    (g : Nat) (d : ByteArray) (hx : a.eval x = .slice (some ⟨g, 0, none⟩) 1 1) (hd : w.heap[g]? = some (.cells #[.string d] 9 (0, 0))) (hn : l.length ≤ 1000000) (hB : B ≤ w.heap.size)
    (h : ∀ v' W, RowS W B v' (l ++ [d]) → w.grownBy W v.ownBlock → (∀ g, v'.ownBlock = some g → some g = v.ownBlock ∨ w.heap.size ≤ g) → K (a.put o.dst v') W) : wpOp Tryz.prog ops Q i K a w := by
  obtain ⟨v', w', hr, h2, h3, h4⟩ := rn_appS a s x ho B v l hs hown g d hx hd hn hB
  exact ot_run hi hw v' w' hr (h v' w' h2 h3 h4)
theorem wt_row1S {rest : List Oper} (hw : Region.wanted o (yielded ops a.tmps) = true) (x : Operand) (ho : o.op = .buildSlice 24 1 #[(0, x)]) (d : ByteArray) (hx : a.eval x = .string d)
    (h : ∀ W g, w.heap.size ≤ g → W.heap[g]? = some (.cells #[.string d] 9 (0, 0)) → Below w.heap.size w W → wpList Tryz.prog ops Q rest (a.put o.dst (.slice (some ⟨g, 0, none⟩) 1 1)) W) : wpList Tryz.prog ops Q (o :: rest) a w :=
  wl_run hw _ _ (rn_row1S a x ho d hx) (h _ _ (Nat.le_refl _) (heap_new _ _) ((Below.refl _ w).alloc (Nat.le_refl _) _))
theorem wt_appS {rest : List Oper} (hw : Region.wanted o (yielded ops a.tmps) = true) (s x : Operand) (ho : o.op = .call { callee := .builtin .append, args := #[s, x], argTypes := #[24, 24] }) (B : Nat) (v : Value) (l : List ByteArray) (hs : a.eval s = v) (hown : RowS w B v l)
    (g : Nat) (d : ByteArray) (hx : a.eval x = .slice (some ⟨g, 0, none⟩) 1 1) (hd : w.heap[g]? = some (.cells #[.string d] 9 (0, 0))) (hn : l.length ≤ 1000000) (hB : B ≤ w.heap.size)
    (h : ∀ v' W, RowS W B v' (l ++ [d]) → w.grownBy W v.ownBlock → (∀ g, v'.ownBlock = some g → some g = v.ownBlock ∨ w.heap.size ≤ g) → wpList Tryz.prog ops Q rest (a.put o.dst v') W) : wpList Tryz.prog ops Q (o :: rest) a w := by
  obtain ⟨v', w', hr, h2, h3, h4⟩ := rn_appS a s x ho B v l hs hown g d hx hd hn hB
  exact wl_run hw v' w' hr (h v' w' h2 h3 h4)
theorem ot_row1R (hi : ops[i]? = some o) (hw : Region.wanted o (yielded ops a.tmps) = true) (x : Operand) (ho : o.op = .buildSlice 23 1 #[(0, x)]) (d : Rg) (hx : a.eval x = .agg #[.int .i64 d.1, .int .i64 d.2])
    (h : ∀ W g, w.heap.size ≤ g → W.heap[g]? = some (.cells #[.int .i64 d.1, .int .i64 d.2] 96 (0, 0)) → Below w.heap.size w W → K (a.put o.dst (.slice (some ⟨g, 0, none⟩) 1 1)) W) : wpOp Tryz.prog ops Q i K a w :=
  ot_run hi hw _ _ (rn_row1R a x ho d hx) (h _ _ (Nat.le_refl _) (heap_new _ _) ((Below.refl _ w).alloc (Nat.le_refl _) _))
theorem ot_appR (hi : ops[i]? = some o) (hw : Region.wanted o (yielded ops a.tmps) = true) (s x : Operand) (ho : o.op = .call { callee := .builtin .append, args := #[s, x], argTypes := #[23, 23] }) (B : Nat) (v : Value) (l : List Rg) (hs : a.eval s = v) (hown : RowR w B v l)
    (g : Nat) (d : Rg) (hx : a.eval x = .slice (some ⟨g, 0, none⟩) 1 1) (hd : w.heap[g]? = some (.cells #[.int .i64 d.1, .int .i64 d.2] 96 (0, 0))) (hn : l.length ≤ 1000000) (hB : B ≤ w.heap.size)
    (h : ∀ v' W, RowR W B v' (l ++ [d]) → w.grownBy W v.ownBlock → (∀ g, v'.ownBlock = some g → some g = v.ownBlock ∨ w.heap.size ≤ g) → K (a.put o.dst v') W) : wpOp Tryz.prog ops Q i K a w := by
  obtain ⟨v', w', hr, h2, h3, h4⟩ := rn_appR a s x ho B v l hs hown g d hx hd hn hB
  exact ot_run hi hw v' w' hr (h v' w' h2 h3 h4)
theorem ot_row1E (hi : ops[i]? = some o) (hw : Region.wanted o (yielded ops a.tmps) = true) (x : Operand) (ho : o.op = .buildSlice 27 1 #[(0, x)]) (d : EC) (hx : a.eval x = d.val)
    (h : ∀ W g, w.heap.size ≤ g → W.heap[g]? = some (exObj d) → Below w.heap.size w W → K (a.put o.dst (.slice (some ⟨g, 0, none⟩) 1 1)) W) : wpOp Tryz.prog ops Q i K a w :=
  ot_run hi hw _ _ (rn_row1E a x ho d hx) (h _ _ (Nat.le_refl _) (heap_new _ _) ((Below.refl _ w).alloc (Nat.le_refl _) _))
theorem ot_appE (hi : ops[i]? = some o) (hw : Region.wanted o (yielded ops a.tmps) = true) (s x : Operand) (ho : o.op = .call { callee := .builtin .append, args := #[s, x], argTypes := #[27, 27] }) (B : Nat) (v : Value) (l : List EC) (hs : a.eval s = v) (hown : RowE w B v l)
    (g : Nat) (d : EC) (hx : a.eval x = .slice (some ⟨g, 0, none⟩) 1 1) (hd : w.heap[g]? = some (exObj d)) (hn : l.length ≤ 1000000) (hB : B ≤ w.heap.size)
    (h : ∀ v' W, RowE W B v' (l ++ [d]) → w.grownBy W v.ownBlock → (∀ g, v'.ownBlock = some g → some g = v.ownBlock ∨ w.heap.size ≤ g) → K (a.put o.dst v') W) : wpOp Tryz.prog ops Q i K a w := by
  obtain ⟨v', w', hr, h2, h3, h4⟩ := rn_appE a s x ho B v l hs hown g d hx hd hn hB
  exact ot_run hi hw v' w' hr (h v' w' h2 h3 h4)
theorem wt_row1E {rest : List Oper} (hw : Region.wanted o (yielded ops a.tmps) = true) (x : Operand) (ho : o.op = .buildSlice 27 1 #[(0, x)]) (d : EC) (hx : a.eval x = d.val)
    (h : ∀ W g, w.heap.size ≤ g → W.heap[g]? = some (exObj d) → Below w.heap.size w W → wpList Tryz.prog ops Q rest (a.put o.dst (.slice (some ⟨g, 0, none⟩) 1 1)) W) : wpList Tryz.prog ops Q (o :: rest) a w :=
  wl_run hw _ _ (rn_row1E a x ho d hx) (h _ _ (Nat.le_refl _) (heap_new _ _) ((Below.refl _ w).alloc (Nat.le_refl _) _))
theorem ot_putL (hi : ops[i]? = some o) (hw : Region.wanted o (yielded ops a.tmps) = true) (T : TypeId) (hT : T = 23 ∨ T = 24 ∨ T = 27) (x y : Operand) (ho : o.op = .store T x y) (g k : Nat) (hx : a.eval x = .pointer (some ⟨g, k, none⟩)) (p : Option Addr) (n c : Nat) (hy : a.eval y = .slice p n c)
    {cs : Array Value} {t : TypeId} (hc : w.heap[g]? = some (.cells cs t (0, 0))) (hk : k < cs.size)
    (h : ∀ W, W.heap[g]? = some (.cells (cs.setIfInBounds k (.slice p n c)) t (0, 0)) → w.grownBy W (some g) → K (a.put o.dst undef) W) : wpOp Tryz.prog ops Q i K a w :=
  ot_skip hi hw _ (rn_putL T hT x y ho g k hx p n c hy hc hk) (h _ (heap_setCell _ hc) (grown_put _ _ _ _))
end
end Go.Proofs.YtlmdcaemjaldfaaGreatDoor
namespace Go.Proofs.YtlmdcaemjaldfaaGreatDoor
open Go.RowKit
def leftOf (w : World) (b : Nat) : Nat := match w.cell? ⟨b, 0, none⟩ with
  | some (.string s) => s.size
  | _ => 0
theorem items_step {σ : Type} (stop : UInt8) (f : σ → List UInt8 → Option (σ × List UInt8)) (k : Nat) (first : Bool) (a : σ) (l : List UInt8) : itemsL stop f (k + 1) first a l = (match cut [stop] l with
    | some r => some (a, r)
    | none =>
      match (if first then some l else cut [32] l) with
      | none => none
      | some l' =>
        match f a l' with
        | none => none
        | some (a', r) => itemsL stop f k false a' r) := rfl
theorem leftOf_rd {w : World} {b : Nat} {l : List UInt8} (h : Rdr w b l) : leftOf w b = l.length := by
  unfold leftOf
  rw [h.rd.cell.1]
  exact bs_size l
set_option maxHeartbeats 1000000 in
set_option maxRecDepth 100000 in
theorem items_any {σ : Type} (b : Nat) (stop : UInt8) (N f : Nat) (caps : Array Value) (g : σ → List UInt8 → Option (σ × List UInt8)) (I : World → σ → List UInt8 → Prop) (G : World → Prop)
    (hrun : ∀ (W : World) (A : Array Value), (callFunc f A).run Tryz.prog W = .ok (.enter f A) W) (hG : ∀ W a l, I W a l → G W) (hI : ∀ W W' a l l', I W a l → W.grownBy W' (some b) → l'.length ≤ l.length → I W' a l')
    (hitem : ∀ W a l, I W a l → Rdr W b l → l.length ≤ N → Calls Tryz.prog f caps W fun e W' => (∃ a' r, g a l = some (a', r) ∧ r.length < l.length ∧ e = .returned (.tuple #[]) ∧ I W' a' r ∧ Rdr W' b r) ∨ (g a l = none ∧ e = .panicked chE ∧ G W'))
    (k : Nat) (a : σ) (l : List UInt8) (w : World) (hk : l.length < k) (hl : l.length ≤ N) (HI : I w a l) (H : Rdr w b l) :
    Calls Tryz.prog 53 #[.pointer (some ⟨b, 0, none⟩), .string (bs [stop]), .func (.func f) #[] caps] w fun e w' => (∃ a' r, itemsL stop g k true a l = some (a', r) ∧ r.length < l.length ∧ e = .returned (.tuple #[]) ∧ I w' a' r ∧ Rdr w' b r) ∨ (itemsL stop g k true a l = none ∧ e = .panicked chE ∧ G w') := by
  have w6 : 6 ≤ w.heap.size := H.env.big
  have D : w.grownBy w (some b) := grown_refl _ _
  go_enter Tryz.func53, Tryz.ntmps53
  refine wp_seq_k (fun K1 hK1 => ?_)
  refine wp_region_lit ?_
  refine wl_yield (o := ⟨_, _, _, _, _, _⟩) (.bool true) (yl_assign (by rfl) _ rfl _ rfl) ?_
  simp only [Act.put, lzA, lzB, lzC]
  refine wpList_nil ?_
  refine hK1 _ _ ?_
  clear hK1 K1
  refine wp_block ?_
  go_loopw [6] (fun i wr => ∃ (first : Bool) (a1 : σ) (l1 : List UInt8) (k1 : Nat), i = .bool first ∧ I wr a1 l1 ∧ Rdr wr b l1 ∧ l1.length < k1 ∧ l1.length ≤ N ∧ l1.length ≤ l.length ∧ itemsL stop g k true a l = itemsL stop g k1 first a1 l1) (fun _ wr => leftOf wr b)
  case atStart => exact ⟨true, a, l, k, rfl, HI, H, hk, hl, Nat.le_refl _, rfl⟩
  case round =>
    clear HI H D
    obtain ⟨first, a1, l1, k1, rfl, HI, H, hk1, hl1, hle, E⟩ := hrel
    obtain ⟨k2, rfl⟩ : ∃ k2, k1 = k2 + 1 := ⟨k1 - 1, by omega⟩
    have D : wr.grownBy wr (some b) := grown_refl _ _
    have w6 : 6 ≤ wr.heap.size := H.env.big
    have M := leftOf_rd H
    have HM := hide M
    clear M
    cases first
    · refine wp_seq_k (fun K2 hK2 => ?_)
      refine wp_seq_k (fun K3 hK3 => ?_)
      refine wp_region_lit ?_
      refine wl_yield (o := ⟨_, _, _, _, _, _⟩) (.pointer (some ⟨b, 0, none⟩)) (yl_move (by rfl) _ rfl _ rfl) ?_
      simp only [Act.put, lzA, lzB, lzC]
      refine wl_yield (o := ⟨_, _, _, _, _, _⟩) (.string (bs ([stop]))) (yl_move (by rfl) _ rfl _ rfl) ?_
      simp only [Act.put, lzA, lzB, lzC]
      refine wt_call (o := ⟨_, _, _, _, _, _⟩) (by rfl) 41 _ _ rfl #[.pointer (some ⟨b, 0, none⟩), .string (bs ([stop]))] rfl (run_call Tryz.func41 (by kernel_rfl) (by kernel_rfl)) ?_
      refine (has_or b _ _ _ H.rd).mono ?_
      rintro r v1 (⟨hq, hc, rfl, hr, kg⟩ | ⟨hc, rfl, hr, kg⟩)
      · replace H := H.grown kg hr
        clear hr
        replace D := grown_trans D kg
        clear kg
        have hcl0 := cut_len hc
        replace HI := hI _ _ _ _ hq HI D (by omega)
        refine Or.inl ⟨.bool true, rfl, ?_⟩
        simp only [Act.put, lzA, lzB, lzC]
        refine wl_yield (o := ⟨_, _, _, _, _, _⟩) (.bool false) (yl_not (by rfl) _ _ rfl true rfl) ?_
        simp only [Act.put, lzA, lzB, lzC]
        refine wpList_nil ?_
        refine hK3 _ _ ?_
        clear hK3 K3
        refine wp_cond_false rfl ?_
        refine wp_exit ?_
        simp only [Exit.inBlock, Exit.then, if_true, eq_self_iff_true, beq_self_eq_true]
        go_end0
        exact Or.inl ⟨a1, hq, by rw [E]; rw [items_step, hc], by have := cut_len hc; simp only [List.length_cons, List.length_nil] at this; omega, rfl, HI, H⟩
      · replace H := H.grown kg hr
        clear hr
        replace D := grown_trans D kg
        clear kg
        replace HI := hI _ _ _ _ l1 HI D (Nat.le_refl _)
        refine Or.inl ⟨.bool false, rfl, ?_⟩
        simp only [Act.put, lzA, lzB, lzC]
        refine wl_yield (o := ⟨_, _, _, _, _, _⟩) (.bool true) (yl_not (by rfl) _ _ rfl false rfl) ?_
        simp only [Act.put, lzA, lzB, lzC]
        refine wpList_nil ?_
        refine hK3 _ _ ?_
        clear hK3 K3
        refine wp_cond_true rfl ?_
        refine wp_skip ?_
        refine hK2 _ _ ?_
        clear hK2 K2
        refine wp_seq_k (fun K4 hK4 => ?_)
        refine wp_block ?_
        refine wp_seq_k (fun K5 hK5 => ?_)
        refine wp_seq_k (fun K6 hK6 => ?_)
        refine wp_region_lit ?_
        refine wl_yield (o := ⟨_, _, _, _, _, _⟩) (.bool false) (yl_move (by rfl) _ rfl _ rfl) ?_
        simp only [Act.put, lzA, lzB, lzC]
        refine wl_yield (o := ⟨_, _, _, _, _, _⟩) (.bool true) (yl_not (by rfl) _ _ rfl false rfl) ?_
        simp only [Act.put, lzA, lzB, lzC]
        refine wpList_nil ?_
        refine hK6 _ _ ?_
        clear hK6 K6
        refine wp_cond_true rfl ?_
        refine wp_region_lit ?_
        refine wl_yield (o := ⟨_, _, _, _, _, _⟩) (.pointer (some ⟨b, 0, none⟩)) (yl_move (by rfl) _ rfl _ rfl) ?_
        simp only [Act.put, lzA, lzB, lzC]
        refine wt_call (o := ⟨_, _, _, _, _, _⟩) (by rfl) 44 _ _ rfl #[.pointer (some ⟨b, 0, none⟩), .string (bs ([32]))] rfl (run_call Tryz.func44 (by kernel_rfl) (by kernel_rfl)) ?_
        refine (need_or b _ _ _ H.rd).mono ?_
        rintro r v2 (⟨nq, nc, rfl, hr, kg⟩ | ⟨nc, rfl, kg⟩)
        · have hcl1 := cut_len nc
          replace HI := hI _ _ _ _ nq HI kg (by omega)
          replace H := H.grown kg hr
          clear hr
          replace D := grown_trans D kg
          clear kg
          refine Or.inl ⟨.tuple #[], rfl, ?_⟩
          simp only [Act.put, lzA, lzB, lzC]
          refine wpList_nil ?_
          refine hK5 _ _ ?_
          clear hK5 K5
          refine wp_region_lit ?_
          refine wl_yield (o := ⟨_, _, _, _, _, _⟩) (.func (.func f) #[] caps) (yl_move (by rfl) _ rfl _ rfl) ?_
          simp only [Act.put, lzA, lzB, lzC]
          refine wt_callv (o := ⟨_, _, _, _, _, _⟩) (by rfl) f _ _ _ rfl caps rfl #[] rfl (hrun) ?_
          rw [show (#[] : Array Value) ++ caps = caps from by simp]
          refine (hitem _ a1 nq HI H (by have := cut_len nc; simp only [List.length_cons, List.length_nil] at this; omega)).mono ?_
          rintro r v3 (⟨a2, r2, hg1, hlt, rfl, HI2, H2⟩ | ⟨hg1, rfl, HG⟩)
          · clear HI H D
            have HI := HI2
            have H := H2
            clear HI2 H2
            have hE : itemsL stop g k true a l = itemsL stop g k2 false a2 r2 := by rw [E]; rw [items_step, hc]; dsimp only; rw [if_neg (by decide), nc]; dsimp only; rw [hg1]
            have hcl := cut_len nc
            simp only [List.length_cons, List.length_nil] at hcl
            replace hlt : r2.length < l1.length := by omega
            refine Or.inl ⟨.tuple #[], rfl, ?_⟩
            simp only [Act.put, lzA, lzB, lzC]
            refine wpList_nil ?_
            refine hK4 _ _ ?_
            clear hK4 K4
            refine wp_region_lit ?_
            refine wl_yield (o := ⟨_, _, _, _, _, _⟩) (.bool false) (yl_assign (by rfl) _ rfl _ rfl) ?_
            simp only [Act.put, lzA, lzB, lzC]
            refine wpList_nil ?_
            show _ ∧ _
            go_roundw
            case rel => exact ⟨false, a2, r2, k2, rfl, HI, H, by omega, by omega, by omega, hE⟩
            case measure => rw [HM.out, leftOf_rd H]; exact hlt
          · refine Or.inr ⟨_, rfl, ?_⟩
            exact ⟨rfl, Or.inr ⟨by rw [E]; rw [items_step, hc]; dsimp only; rw [if_neg (by decide), nc]; dsimp only; rw [hg1], rfl, HG⟩⟩
        · have kg' := kg
          replace D := grown_trans D kg
          refine Or.inr ⟨_, rfl, ?_⟩
          exact ⟨rfl, Or.inr ⟨by rw [E]; rw [items_step, hc]; dsimp only; rw [if_neg (by decide), nc], rfl, hG _ _ _ (hI _ _ _ _ l1 HI kg' (Nat.le_refl _))⟩⟩
    · refine wp_seq_k (fun K2 hK2 => ?_)
      refine wp_seq_k (fun K3 hK3 => ?_)
      refine wp_region_lit ?_
      refine wl_yield (o := ⟨_, _, _, _, _, _⟩) (.pointer (some ⟨b, 0, none⟩)) (yl_move (by rfl) _ rfl _ rfl) ?_
      simp only [Act.put, lzA, lzB, lzC]
      refine wl_yield (o := ⟨_, _, _, _, _, _⟩) (.string (bs ([stop]))) (yl_move (by rfl) _ rfl _ rfl) ?_
      simp only [Act.put, lzA, lzB, lzC]
      refine wt_call (o := ⟨_, _, _, _, _, _⟩) (by rfl) 41 _ _ rfl #[.pointer (some ⟨b, 0, none⟩), .string (bs ([stop]))] rfl (run_call Tryz.func41 (by kernel_rfl) (by kernel_rfl)) ?_
      refine (has_or b _ _ _ H.rd).mono ?_
      rintro r v1 (⟨hq, hc, rfl, hr, kg⟩ | ⟨hc, rfl, hr, kg⟩)
      · replace H := H.grown kg hr
        clear hr
        replace D := grown_trans D kg
        clear kg
        have hcl0 := cut_len hc
        replace HI := hI _ _ _ _ hq HI D (by omega)
        refine Or.inl ⟨.bool true, rfl, ?_⟩
        simp only [Act.put, lzA, lzB, lzC]
        refine wl_yield (o := ⟨_, _, _, _, _, _⟩) (.bool false) (yl_not (by rfl) _ _ rfl true rfl) ?_
        simp only [Act.put, lzA, lzB, lzC]
        refine wpList_nil ?_
        refine hK3 _ _ ?_
        clear hK3 K3
        refine wp_cond_false rfl ?_
        refine wp_exit ?_
        simp only [Exit.inBlock, Exit.then, if_true, eq_self_iff_true, beq_self_eq_true]
        go_end0
        exact Or.inl ⟨a1, hq, by rw [E]; rw [items_step, hc], by have := cut_len hc; simp only [List.length_cons, List.length_nil] at this; omega, rfl, HI, H⟩
      · replace H := H.grown kg hr
        clear hr
        replace D := grown_trans D kg
        clear kg
        replace HI := hI _ _ _ _ l1 HI D (Nat.le_refl _)
        refine Or.inl ⟨.bool false, rfl, ?_⟩
        simp only [Act.put, lzA, lzB, lzC]
        refine wl_yield (o := ⟨_, _, _, _, _, _⟩) (.bool true) (yl_not (by rfl) _ _ rfl false rfl) ?_
        simp only [Act.put, lzA, lzB, lzC]
        refine wpList_nil ?_
        refine hK3 _ _ ?_
        clear hK3 K3
        refine wp_cond_true rfl ?_
        refine wp_skip ?_
        refine hK2 _ _ ?_
        clear hK2 K2
        refine wp_seq_k (fun K4 hK4 => ?_)
        refine wp_block ?_
        refine wp_seq_k (fun K5 hK5 => ?_)
        refine wp_seq_k (fun K6 hK6 => ?_)
        refine wp_region_lit ?_
        refine wl_yield (o := ⟨_, _, _, _, _, _⟩) (.bool true) (yl_move (by rfl) _ rfl _ rfl) ?_
        simp only [Act.put, lzA, lzB, lzC]
        refine wl_yield (o := ⟨_, _, _, _, _, _⟩) (.bool false) (yl_not (by rfl) _ _ rfl true rfl) ?_
        simp only [Act.put, lzA, lzB, lzC]
        refine wpList_nil ?_
        refine hK6 _ _ ?_
        clear hK6 K6
        refine wp_cond_false rfl ?_
        refine wp_skip ?_
        refine hK5 _ _ ?_
        clear hK5 K5
        refine wp_region_lit ?_
        refine wl_yield (o := ⟨_, _, _, _, _, _⟩) (.func (.func f) #[] caps) (yl_move (by rfl) _ rfl _ rfl) ?_
        simp only [Act.put, lzA, lzB, lzC]
        refine wt_callv (o := ⟨_, _, _, _, _, _⟩) (by rfl) f _ _ _ rfl caps rfl #[] rfl (hrun) ?_
        rw [show (#[] : Array Value) ++ caps = caps from by simp]
        refine (hitem _ a1 l1 HI H (by omega)).mono ?_
        rintro r v2 (⟨a2, r2, hg1, hlt, rfl, HI2, H2⟩ | ⟨hg1, rfl, HG⟩)
        · clear HI H D
          have HI := HI2
          have H := H2
          clear HI2 H2
          have hE : itemsL stop g k true a l = itemsL stop g k2 false a2 r2 := by rw [E]; rw [items_step, hc]; dsimp only; rw [if_pos rfl]; dsimp only; rw [hg1]
          refine Or.inl ⟨.tuple #[], rfl, ?_⟩
          simp only [Act.put, lzA, lzB, lzC]
          refine wpList_nil ?_
          refine hK4 _ _ ?_
          clear hK4 K4
          refine wp_region_lit ?_
          refine wl_yield (o := ⟨_, _, _, _, _, _⟩) (.bool false) (yl_assign (by rfl) _ rfl _ rfl) ?_
          simp only [Act.put, lzA, lzB, lzC]
          refine wpList_nil ?_
          show _ ∧ _
          go_roundw
          case rel => exact ⟨false, a2, r2, k2, rfl, HI, H, by omega, by omega, by omega, hE⟩
          case measure => rw [HM.out, leftOf_rd H]; exact hlt
        · refine Or.inr ⟨_, rfl, ?_⟩
          exact ⟨rfl, Or.inr ⟨by rw [E]; rw [items_step, hc]; dsimp only; rw [if_pos rfl]; dsimp only; rw [hg1], rfl, HG⟩⟩
end Go.Proofs.YtlmdcaemjaldfaaGreatDoor
namespace Go.Proofs.YtlmdcaemjaldfaaGreatDoor
open Go.RowKit
structure SetOwn (w : World) (gs B : Nat) (S : SetV) (pi : Option Addr) (ci : Nat) (ps : Option Addr) (cs : Nat) : Prop where
  heap : w.heap[gs]? = some (.cells #[.bool S.absent, .slice pi S.ints.length ci, .bool S.co, .slice ps S.strs.length cs] 26 (0, 0))
  ints : RowR w B (.slice pi S.ints.length ci) S.ints
  strs : RowS w B (.slice ps S.strs.length cs) S.strs
def Stays (b gs : Nat) (w w' : World) : Prop := w.heap.size ≤ w'.heap.size ∧ ∀ g cs t fz, g ≠ b → g ≠ gs → t ≠ 96 → t ≠ 9 → w.heap[g]? = some (.cells cs t fz) → w'.heap[g]? = some (.cells cs t fz)
theorem Stays.refl (b gs : Nat) (w : World) : Stays b gs w w := ⟨Nat.le_refl _, fun _ _ _ _ _ _ _ _ h => h⟩
theorem Stays.trans {b gs : Nat} {w w' w'' : World} (h : Stays b gs w w') (k : Stays b gs w' w'') : Stays b gs w w'' := ⟨Nat.le_trans h.1 k.1, fun g cs t fz h1 h2 h3 h4 hg => k.2 g cs t fz h1 h2 h3 h4 (h.2 g cs t fz h1 h2 h3 h4 hg)⟩
theorem Stays.on {b gs : Nat} {w w' w'' : World} (h : Stays b gs w w') (k : Below w'.heap.size w' w'') : Stays b gs w w'' := ⟨Nat.le_trans h.1 k.size, fun g cs t fz h1 h2 h3 h4 hg => heap_on (h.2 g cs t fz h1 h2 h3 h4 hg) k⟩
theorem Stays.gr1 {b gs : Nat} {w w' w'' : World} (h : Stays b gs w w') (k : w'.grownBy w'' (some b)) : Stays b gs w w'' := ⟨Nat.le_trans h.1 k.size, fun g cs t fz h1 h2 h3 h4 hg => heap_gr (h.2 g cs t fz h1 h2 h3 h4 hg) k h1⟩
theorem Stays.gr2 {b gs : Nat} {w w' w'' : World} (h : Stays b gs w w') (k : w'.grownBy w'' (some gs)) : Stays b gs w w'' := ⟨Nat.le_trans h.1 k.size, fun g cs t fz h1 h2 h3 h4 hg => heap_gr (h.2 g cs t fz h1 h2 h3 h4 hg) k h2⟩
theorem Stays.new {b gs n : Nat} {w w' w'' : World} (h : Stays b gs w w') (hn : w.heap.size ≤ n) (k : w'.grownBy w'' (some n)) : Stays b gs w w'' := ⟨Nat.le_trans h.1 k.size, fun g cs t fz h1 h2 h3 h4 hg => heap_gr (h.2 g cs t fz h1 h2 h3 h4 hg) k (by have := lt_heap hg; omega)⟩
theorem Stays.row {b gs B size n : Nat} {e : TypeId} {v : Value} {xs : List Value} {w w' w'' : World} (h : Stays b gs w w') (ho : w'.ownsRow B e size v n xs) (k : w'.grownBy w'' v.ownBlock) (he : e = 96 ∨ e = 9) : Stays b gs w w'' := ⟨Nat.le_trans h.1 k.size, fun g cs t fz h1 h2 h3 h4 hg => heap_gro (h.2 g cs t fz h1 h2 h3 h4 hg) k (own_ne ho (h.2 g cs t fz h1 h2 h3 h4 hg) (by rcases he with rfl | rfl <;> assumption))⟩
theorem ne_type {w : World} {g h : Nat} {cs ds : Array Value} {t u : TypeId} {fz fy : Nat × Nat} (hg : w.heap[g]? = some (.cells cs t fz)) (hh : w.heap[h]? = some (.cells ds u fy)) (hn : t ≠ u) : g ≠ h := by
  intro e
  subst e
  rw [hg] at hh
  injection hh with hh
  injection hh with _ hh
  exact hn hh
theorem ne_rd {w : World} {b h : Nat} {l : List UInt8} {ds : Array Value} {u : TypeId} {fy : Nat × Nat} (hg : RdL w b l) (hh : w.heap[h]? = some (.cells ds u fy)) (hn : 100 ≠ u) : b ≠ h := by
  rcases hg with hg | hg
  · exact ne_type hg hh hn
  · exact ne_type hg hh hn
set_option maxHeartbeats 1000000 in
set_option maxRecDepth 100000 in
theorem part_or (b gs B : Nat) (l : List UInt8) (S : SetV) (pi : Option Addr) (ci : Nat) (ps : Option Addr) (cs : Nat) (w0 w : World) (H : Rdr w b l) (hS : SetOwn w gs B S pi ci ps cs) (D0 : w0.grownBy w (some b)) (h60 : 6 ≤ w0.heap.size) (ge_gs : w0.heap.size ≤ gs) (h0 : w0.heap.size ≤ B) (hB : B ≤ w.heap.size)
    (hs : S.ints.length + S.strs.length + l.length ≤ 1000000) :
    Calls Tryz.prog 71 #[.pointer (some ⟨b, 0, none⟩), .pointer (some ⟨gs, 0, none⟩)] w fun e w' => (∃ S' r, partL S l = some (S', r) ∧ e = .returned (.tuple #[]) ∧ (∃ pi ci ps cs, SetOwn w' gs B S' pi ci ps cs) ∧ RdL w' b r ∧ w0.grownBy w' (some b) ∧ Stays b gs w w' ∧ B ≤ w'.heap.size) ∨ (partL S l = none ∧ e = .panicked chE ∧ w0.grownBy w' (some b)) := by
  have w6 : 6 ≤ w0.heap.size := h60
  obtain ⟨GS, RI, RS⟩ := hS
  have D := D0
  have n_b_gs : b ≠ gs := ne_rd H.rd GS (by decide)
  have six_gs : 6 ≤ gs := Nat.le_trans w6 ge_gs
  have h6 : 6 ≤ B := Nat.le_trans w6 h0
  have HB : B ≤ w.heap.size := hB
  have ST := Stays.refl b gs w
  go_enter Tryz.func71, Tryz.ntmps71
  refine wp_seq_k (fun K1 hK1 => ?_)
  refine wp_seq_k (fun K2 hK2 => ?_)
  refine wp_region_lit ?_
  refine wl_yield (o := ⟨_, _, _, _, _, _⟩) (.pointer (some ⟨b, 0, none⟩)) (yl_move (by rfl) _ rfl _ rfl) ?_
  simp only [Act.put, lzA, lzB, lzC]
  refine wt_call (o := ⟨_, _, _, _, _, _⟩) (by rfl) 41 _ _ rfl #[.pointer (some ⟨b, 0, none⟩), .string (bs ([126]))] rfl (run_call Tryz.func41 (by kernel_rfl) (by kernel_rfl)) ?_
  refine (has_or b _ _ _ H.rd).mono ?_
  rintro r v1 (⟨hq, hc, rfl, hr, kg⟩ | ⟨hc, rfl, hr, kg⟩)
  · replace RI := H.row RI kg (by decide)
    replace RS := H.row RS kg (by decide)
    replace H := H.grown kg hr
    clear hr
    replace D := grown_trans D kg
    replace GS := heap_gr GS kg (Ne.symm n_b_gs)
    replace HB := Nat.le_trans HB kg.size
    replace ST := Stays.gr1 ST kg
    clear kg
    refine Or.inl ⟨.bool true, rfl, ?_⟩
    simp only [Act.put, lzA, lzB, lzC]
    refine wpList_nil ?_
    refine hK2 _ _ ?_
    clear hK2 K2
    refine wp_cond_true rfl ?_
    refine wp_seq_k (fun K3 hK3 => ?_)
    refine wp_region_lit ?_
    refine wl_yield (o := ⟨_, _, _, _, _, _⟩) (.pointer (some ⟨gs, 0, none⟩)) (yl_move (by rfl) _ rfl _ rfl) ?_
    simp only [Act.put, lzA, lzB, lzC]
    refine wl_yield (o := ⟨_, _, _, _, _, _⟩) (.pointer (some ⟨gs, 0, none⟩)) (yt_nil (by rfl) _ rfl _ rfl) ?_
    simp only [Act.put, lzA, lzB, lzC]
    refine wl_yield (o := ⟨_, _, _, _, _, _⟩) (.pointer (some ⟨gs, 2, none⟩)) (yt_fSt2 (by rfl) _ rfl gs 0 rfl) ?_
    simp only [Act.put, lzA, lzB, lzC]
    refine wt_putB (o := ⟨_, _, _, _, _, _⟩) (by rfl) _ _ rfl _ 2 rfl true rfl GS (by simp) (fun v2 X kg => ?_)
    simp only [Act.put, lzA, lzB, lzC]
    replace RI := row_gr_heap RI kg GS (by decide)
    replace RS := row_gr_heap RS kg GS (by decide)
    replace D := gr_new D ge_gs kg
    replace H := H.gr kg n_b_gs six_gs
    replace HB := Nat.le_trans HB kg.size
    replace ST := Stays.gr2 ST kg
    clear kg
    replace GS : v2.heap[gs]? = some (.cells #[.bool (S.absent), .slice pi S.ints.length ci, .bool true, .slice ps S.strs.length cs] 26 (0, 0)) := X
    clear X
    refine wpList_nil ?_
    refine hK3 _ _ ?_
    clear hK3 K3
    refine wp_ret ?_
    try simp only [Exit.inBlock, Exit.then]
    refine bodyPost_ret (results_none rfl _ _ _) rfl ?_
    refine Or.inl ⟨{ S with co := true }, hq, by unfold partL; rw [hc], rfl, ⟨pi, ci, ps, cs, GS, RI, RS⟩, H.rd, D, ST, HB⟩
  · replace RI := H.row RI kg (by decide)
    replace RS := H.row RS kg (by decide)
    replace H := H.grown kg hr
    clear hr
    replace D := grown_trans D kg
    replace GS := heap_gr GS kg (Ne.symm n_b_gs)
    replace HB := Nat.le_trans HB kg.size
    replace ST := Stays.gr1 ST kg
    clear kg
    refine Or.inl ⟨.bool false, rfl, ?_⟩
    simp only [Act.put, lzA, lzB, lzC]
    refine wpList_nil ?_
    refine hK2 _ _ ?_
    clear hK2 K2
    refine wp_cond_false rfl ?_
    refine wp_skip ?_
    refine hK1 _ _ ?_
    clear hK1 K1
    refine wp_seq_k (fun K3 hK3 => ?_)
    refine wp_region_lit ?_
    refine wl_yield (o := ⟨_, _, _, _, _, _⟩) (.pointer (some ⟨b, 0, none⟩)) (yl_move (by rfl) _ rfl _ rfl) ?_
    simp only [Act.put, lzA, lzB, lzC]
    refine wt_call (o := ⟨_, _, _, _, _, _⟩) (by rfl) 55 _ _ rfl #[.pointer (some ⟨b, 0, none⟩)] rfl (run_call Tryz.func55 (by kernel_rfl) (by kernel_rfl)) ?_
    refine (value_or b _ _ H (by omega)).mono ?_
    rintro r v2 (⟨v, r2, hv, rfl, hr, kg⟩ | ⟨hv, rfl, kg⟩)
    · replace RI := H.row RI kg (by decide)
      replace RS := H.row RS kg (by decide)
      replace H := H.grown kg hr
      clear hr
      replace D := grown_trans D kg
      replace GS := heap_gr GS kg (Ne.symm n_b_gs)
      replace HB := Nat.le_trans HB kg.size
      replace ST := Stays.gr1 ST kg
      clear kg
      have hlv := valL_len hv
      refine Or.inl ⟨vVal v, rfl, ?_⟩
      simp only [Act.put, lzA, lzB, lzC]
      refine wt_allocVa (o := ⟨_, _, _, _, _, _⟩) (by rfl) rfl (fun v3 g3 hg G3 kb => ?_)
      simp only [Act.put, lzA, lzB, lzC]
      have n_b_g3 : b ≠ g3 := by have := H.lt; omega
      have n_gs_g3 : gs ≠ g3 := by have := lt_heap GS; omega
      have ge_g3 : w0.heap.size ≤ g3 := Nat.le_trans D.size hg
      have st_g3 := Nat.le_trans ST.1 hg
      have six_g3 : 6 ≤ g3 := Nat.le_trans w6 ge_g3
      clear hg
      replace D := grown_below D kb
      replace RI := ownsRow_on RI kb
      replace RS := ownsRow_on RS kb
      replace H := H.on kb
      replace GS := heap_on GS kb
      replace HB := Nat.le_trans HB kb.size
      replace ST := ST.on kb
      clear kb
      replace G3 : v3.heap[g3]? = some (.cells #[.int .i64 0, .int .i64 0, .string (bs ([]))] 40 (0, 0)) := G3
      refine wt_putVa (o := ⟨_, _, _, _, _, _⟩) rfl _ _ rfl _ rfl (v) rfl G3 rfl (fun v4 X kg => ?_)
      simp only [Act.put, lzA, lzB, lzC]
      replace RI := row_gr_heap RI kg G3 (by decide)
      replace RS := row_gr_heap RS kg G3 (by decide)
      replace D := gr_new D ge_g3 kg
      replace H := H.gr kg n_b_g3 six_g3
      replace GS := heap_gr GS kg n_gs_g3
      replace HB := Nat.le_trans HB kg.size
      replace ST := Stays.new ST st_g3 kg
      clear kg
      replace G3 : v4.heap[g3]? = some (.cells #[.int .i64 (v.1), .int .i64 (v.2.1), .string v.2.2] 40 (0, 0)) := X
      clear X
      refine wpList_nil ?_
      refine hK3 _ _ ?_
      clear hK3 K3
      refine wp_seq_k (fun K4 hK4 => ?_)
      refine wp_region_lit ?_
      refine wl_yield (o := ⟨_, _, _, _, _, _⟩) (.pointer (some ⟨g3, 0, none⟩)) (yt_fVa0 (by rfl) _ rfl g3 0 rfl) ?_
      simp only [Act.put, lzA, lzB, lzC]
      refine wl_yield (o := ⟨_, _, _, _, _, _⟩) (.int .i64 (v.1)) (yt_ldI (by rfl) _ rfl _ _ rfl v.1 (fun _ h => by subst h; exact cell_heap G3 0)) ?_
      simp only [Act.put, lzA, lzB, lzC]
      refine wpList_nil ?_
      refine hK4 _ _ ?_
      clear hK4 K4
      refine wp_block ?_
      refine wp_seq_k (fun K5 hK5 => ?_)
      by_cases hk1 : v.1 = 1
      · refine wp_region_lit ?_
        refine wl_yield (o := ⟨_, _, _, _, _, _⟩) (.bool true) (yt_eqlI (by rfl) _ _ _ rfl v.1 1 true rfl rfl (decide_eq_true hk1)) ?_
        simp only [Act.put, lzA, lzB, lzC]
        refine wl_yield (o := ⟨_, _, _, _, _, _⟩) (.bool true) (yl_assign (by rfl) _ rfl _ rfl) ?_
        simp only [Act.put, lzA, lzB, lzC]
        refine wpList_nil ?_
        refine hK5 _ _ ?_
        clear hK5 K5
        refine wp_cond_true rfl ?_
        refine wp_region_late (S := fun w' => w'.heap[gs]? = some (.cells #[.bool (S.absent), .slice pi S.ints.length ci, .bool (S.co), .slice ps S.strs.length cs] 26 (0, 0)) ∧ w'.heap[g3]? = some (.cells #[.int .i64 (v.1), .int .i64 (v.2.1), .string v.2.2] 40 (0, 0))) (late := fun j => [16].contains j) (by kernel_rfl) ?_
        have kb : Below v4.heap.size v4 v4.drew := (Below.refl _ v4).drew
        replace D := grown_below D kb
        replace RI := ownsRow_on RI kb
        replace RS := ownsRow_on RS kb
        replace H := H.on kb
        replace GS := heap_on GS kb
        replace HB := Nat.le_trans HB kb.size
        replace ST := ST.on kb
        replace G3 := heap_on G3 kb
        clear kb
        generalize v4.drew = v5 at D H GS HB ST G3 RI RS ⊢
        refine wpAnyL_pure (i := 0) (oi := ⟨_, _, _, _, _, _⟩) (v := .pointer (some ⟨gs, 0, none⟩)) rfl (by kernel_rfl) (by kernel_rfl) (by kernel_rfl) (fun _ _ _ h => h) (yl_move (by rfl) _ rfl _ rfl) ?_
        simp only [Act.put, lzA, lzB, lzC]
        refine wpAnyL_pure (i := 1) (oi := ⟨_, _, _, _, _, _⟩) (v := .pointer (some ⟨gs, 0, none⟩)) rfl (by kernel_rfl) (by kernel_rfl) (by kernel_rfl) (fun _ _ _ h => h) (yl_move (by rfl) _ rfl _ rfl) ?_
        simp only [Act.put, lzA, lzB, lzC]
        refine wpAnyL_pure (i := 2) (oi := ⟨_, _, _, _, _, _⟩) (v := .pointer (some ⟨gs, 0, none⟩)) rfl (by kernel_rfl) (by kernel_rfl) (by kernel_rfl) (fun _ _ _ h => h) (yt_nil (by rfl) _ rfl _ rfl) ?_
        simp only [Act.put, lzA, lzB, lzC]
        refine wpAnyL_pure (i := 3) (oi := ⟨_, _, _, _, _, _⟩) (v := .pointer (some ⟨gs, 1, none⟩)) rfl (by kernel_rfl) (by kernel_rfl) (by kernel_rfl) (fun _ _ _ h => h) (yt_fSt1 (by rfl) _ rfl gs 0 rfl) ?_
        simp only [Act.put, lzA, lzB, lzC]
        refine wpAnyL_load (i := 4) (oi := ⟨_, _, _, _, _, _⟩) (v := .slice pi S.ints.length ci) rfl (by kernel_rfl) (by kernel_rfl) (by kernel_rfl) (by kernel_rfl) (fun _ _ _ h => h) (yt_ldLr (by rfl) _ rfl _ _ rfl pi S.ints.length ci (fun _ h => cell_heap h.1 1)) ⟨GS, G3⟩ ?_
        simp only [Act.put, lzA, lzB, lzC]
        refine wpAnyL_pure (i := 5) (oi := ⟨_, _, _, _, _, _⟩) (v := .pointer (some ⟨g3, 1, none⟩)) rfl (by kernel_rfl) (by kernel_rfl) (by kernel_rfl) (fun _ _ _ h => h) (yt_fVa1 (by rfl) _ rfl g3 0 rfl) ?_
        simp only [Act.put, lzA, lzB, lzC]
        refine wpAnyL_load (i := 6) (oi := ⟨_, _, _, _, _, _⟩) (v := .int .i64 (v.2.1)) rfl (by kernel_rfl) (by kernel_rfl) (by kernel_rfl) (by kernel_rfl) (fun _ _ _ h => h) (yt_ldI (by rfl) _ rfl _ _ rfl v.2.1 (fun _ h => cell_heap h.2 1)) ⟨GS, G3⟩ ?_
        simp only [Act.put, lzA, lzB, lzC]
        refine wpAnyL_pure (i := 7) (oi := ⟨_, _, _, _, _, _⟩) (v := .pointer (some ⟨b, 0, none⟩)) rfl (by kernel_rfl) (by kernel_rfl) (by kernel_rfl) (fun _ _ _ h => h) (yl_move (by rfl) _ rfl _ rfl) ?_
        simp only [Act.put, lzA, lzB, lzC]
        refine wpAnyL_pure (i := 8) (oi := ⟨_, _, _, _, _, _⟩) (v := .pointer (some ⟨g3, 1, none⟩)) rfl (by kernel_rfl) (by kernel_rfl) (by kernel_rfl) (fun _ _ _ h => h) (yt_fVa1 (by rfl) _ rfl g3 0 rfl) ?_
        simp only [Act.put, lzA, lzB, lzC]
        refine wpAnyL_load (i := 9) (oi := ⟨_, _, _, _, _, _⟩) (v := .int .i64 (v.2.1)) rfl (by kernel_rfl) (by kernel_rfl) (by kernel_rfl) (by kernel_rfl) (fun _ _ _ h => h) (yt_ldI (by rfl) _ rfl _ _ rfl v.2.1 (fun _ h => cell_heap h.2 1)) ⟨GS, G3⟩ ?_
        simp only [Act.put, lzA, lzB, lzC]
        refine wpAnyL_all (rs := [10]) (by kernel_rfl) (by simp) ?_
        intro j hj
        have hj := List.mem_singleton.1 hj
        subst hj
        refine ot_call (o := ⟨_, _, _, _, _, _⟩) rfl (by rfl) 89 _ _ rfl #[.pointer (some ⟨b, 0, none⟩), .int .i64 (v.2.1)] rfl (run_call Tryz.func89 (by kernel_rfl) (by kernel_rfl)) ?_
        refine (highest_or b v.2.1 _ _ H (by omega)).mono ?_
        rintro r v6 (⟨z, r3, hh, rfl, hr, kg⟩ | ⟨hh, rfl, kg⟩)
        · replace RI := H.row RI kg (by decide)
          replace RS := H.row RS kg (by decide)
          replace H := H.grown kg hr
          clear hr
          replace D := grown_trans D kg
          replace GS := heap_gr GS kg (Ne.symm n_b_gs)
          replace HB := Nat.le_trans HB kg.size
          replace ST := Stays.gr1 ST kg
          replace G3 := heap_gr G3 kg (Ne.symm n_b_g3)
          clear kg
          refine Or.inl ⟨.int .i64 z, rfl, ⟨fun _ _ => ⟨GS, G3⟩, ?_⟩⟩
          simp only [Act.put, lzA, lzB, lzC]
          refine wpAnyL_pure (i := 11) (oi := ⟨_, _, _, _, _, _⟩) (v := .agg #[.int .i64 (v.2.1), .int .i64 z]) rfl (by kernel_rfl) (by kernel_rfl) (by kernel_rfl) (fun _ _ _ h => h) (yt_buildR (by rfl) _ _ rfl v.2.1 z rfl rfl) ?_
          simp only [Act.put, lzA, lzB, lzC]
          refine wpAnyL_all (rs := [12]) (by kernel_rfl) (by simp) ?_
          intro j hj
          have hj := List.mem_singleton.1 hj
          subst hj
          refine ot_row1R (o := ⟨_, _, _, _, _, _⟩) rfl (by rfl) _ rfl (v.2.1, z) rfl (fun v7 g7 hg G7 kb => ?_)
          have n_b_g7 : b ≠ g7 := by have := H.lt; omega
          have n_gs_g7 : gs ≠ g7 := by have := lt_heap GS; omega
          have n_g3_g7 : g3 ≠ g7 := by have := lt_heap G3; omega
          have ge_g7 : w0.heap.size ≤ g7 := Nat.le_trans D.size hg
          have st_g7 := Nat.le_trans ST.1 hg
          have six_g7 : 6 ≤ g7 := Nat.le_trans w6 ge_g7
          clear hg
          replace D := grown_below D kb
          replace RI := ownsRow_on RI kb
          replace RS := ownsRow_on RS kb
          replace H := H.on kb
          replace GS := heap_on GS kb
          replace HB := Nat.le_trans HB kb.size
          replace ST := ST.on kb
          replace G3 := heap_on G3 kb
          clear kb
          refine ⟨fun _ _ => ⟨GS, G3⟩, ?_⟩
          simp only [Act.put, lzA, lzB, lzC]
          refine wpAnyL_all (rs := [13]) (by kernel_rfl) (by simp) ?_
          intro j hj
          have hj := List.mem_singleton.1 hj
          subst hj
          refine ot_appR (o := ⟨_, _, _, _, _, _⟩) rfl (by rfl) _ _ rfl B _ S.ints rfl RI _ (v.2.1, z) rfl G7 ((by omega)) (HB) (fun v8' v8 hrow kg hown => ?_)
          clear G7
          replace H := H.gro RI kg h6 (by decide)
          replace GS := heap_gro GS kg (own_ne RI GS (by decide))
          replace HB := Nat.le_trans HB kg.size
          replace ST := Stays.row ST RI kg (by decide)
          replace G3 := heap_gro G3 kg (own_ne RI G3 (by decide))
          replace RS := row_row RS RI kg (by decide)
          replace D := gr_own D (fun g hg => Nat.le_trans h0 (World.ownsRow.lt RI g hg).1) kg
          clear kg hown
          replace RI := hrow
          clear hrow
          obtain ⟨p8, c8, rfl, -, -, -⟩ := ownsRow_form RI
          refine ⟨fun _ _ => ⟨GS, G3⟩, ?_⟩
          simp only [Act.put, lzA, lzB, lzC]
          refine wpAnyL_pure (i := 14) (oi := ⟨_, _, _, _, _, _⟩) (v := .pointer (some ⟨gs, 0, none⟩)) rfl (by kernel_rfl) (by kernel_rfl) (by kernel_rfl) (fun _ _ _ h => h) (yt_nil (by rfl) _ rfl _ rfl) ?_
          simp only [Act.put, lzA, lzB, lzC]
          refine wpAnyL_pure (i := 15) (oi := ⟨_, _, _, _, _, _⟩) (v := .pointer (some ⟨gs, 1, none⟩)) rfl (by kernel_rfl) (by kernel_rfl) (by kernel_rfl) (fun _ _ _ h => h) (yt_fSt1 (by rfl) _ rfl gs 0 rfl) ?_
          simp only [Act.put, lzA, lzB, lzC]
          refine wpAnyL_all (rs := [16]) (by kernel_rfl) (by simp) ?_
          intro j hj
          have hj := List.mem_singleton.1 hj
          subst hj
          refine ot_putL (o := ⟨_, _, _, _, _, _⟩) rfl (by rfl) _ (Or.inl rfl) _ _ rfl _ 1 rfl p8 ((S.ints ++ [(v.2.1, z)]).length) c8 rfl GS (by simp) (fun v9 X kg => ?_)
          replace RS := row_gr_heap RS kg GS (by decide)
          replace RI := row_gr_heap RI kg GS (by decide)
          replace D := gr_new D ge_gs kg
          replace H := H.gr kg n_b_gs six_gs
          replace HB := Nat.le_trans HB kg.size
          replace ST := Stays.gr2 ST kg
          replace G3 := heap_gr G3 kg (Ne.symm n_gs_g3)
          clear kg
          replace GS : v9.heap[gs]? = some (.cells #[.bool (S.absent), .slice p8 ((S.ints ++ [(v.2.1, z)]).length) c8, .bool (S.co), .slice ps S.strs.length cs] 26 (0, 0)) := X
          clear X
          refine ⟨fun h => absurd h (by decide), ?_⟩
          simp only [Act.put, lzA, lzB, lzC]
          refine wpAnyL_done (by kernel_rfl) ?_ _
          simp only [Exit.inBlock, Exit.then, if_true, eq_self_iff_true, beq_self_eq_true]
          go_end0
          refine Or.inl ⟨{ S with ints := S.ints ++ [(v.2.1, z)] }, r3, by unfold partL; rw [hc]; dsimp only; rw [hv]; dsimp only; rw [if_pos hk1, hh]; rfl, rfl, ⟨p8, c8, ps, cs, GS, RI, RS⟩, H.rd, D, ST, HB⟩
        · replace D := grown_trans D kg
          refine Or.inr ⟨_, rfl, ?_⟩
          exact ⟨rfl, Or.inr ⟨by unfold partL; rw [hc]; dsimp only; rw [hv]; dsimp only; rw [if_pos hk1, hh]; rfl, rfl, D⟩⟩
      · refine wp_region_lit ?_
        refine wl_yield (o := ⟨_, _, _, _, _, _⟩) (.bool false) (yt_eqlI (by rfl) _ _ _ rfl v.1 1 false rfl rfl (decide_eq_false hk1)) ?_
        simp only [Act.put, lzA, lzB, lzC]
        refine wl_yield (o := ⟨_, _, _, _, _, _⟩) (.bool false) (yl_assign (by rfl) _ rfl _ rfl) ?_
        simp only [Act.put, lzA, lzB, lzC]
        refine wpList_nil ?_
        refine hK5 _ _ ?_
        clear hK5 K5
        refine wp_cond_false rfl ?_
        refine wp_seq_k (fun K6 hK6 => ?_)
        by_cases hk2 : v.1 = 2
        · refine wp_region_lit ?_
          refine wl_yield (o := ⟨_, _, _, _, _, _⟩) (.bool true) (yt_eqlI (by rfl) _ _ _ rfl v.1 2 true rfl rfl (decide_eq_true hk2)) ?_
          simp only [Act.put, lzA, lzB, lzC]
          refine wl_yield (o := ⟨_, _, _, _, _, _⟩) (.bool true) (yl_assign (by rfl) _ rfl _ rfl) ?_
          simp only [Act.put, lzA, lzB, lzC]
          refine wpList_nil ?_
          refine hK6 _ _ ?_
          clear hK6 K6
          refine wp_cond_true rfl ?_
          refine wp_region_late (S := fun w' => w'.heap[gs]? = some (.cells #[.bool (S.absent), .slice pi S.ints.length ci, .bool (S.co), .slice ps S.strs.length cs] 26 (0, 0)) ∧ w'.heap[g3]? = some (.cells #[.int .i64 (v.1), .int .i64 (v.2.1), .string v.2.2] 40 (0, 0))) (late := fun j => [11].contains j) (by kernel_rfl) ?_
          have kb : Below v4.heap.size v4 v4.drew := (Below.refl _ v4).drew
          replace D := grown_below D kb
          replace RI := ownsRow_on RI kb
          replace RS := ownsRow_on RS kb
          replace H := H.on kb
          replace GS := heap_on GS kb
          replace HB := Nat.le_trans HB kb.size
          replace ST := ST.on kb
          replace G3 := heap_on G3 kb
          clear kb
          generalize v4.drew = v5 at D H GS HB ST G3 RI RS ⊢
          refine wpAnyL_pure (i := 0) (oi := ⟨_, _, _, _, _, _⟩) (v := .pointer (some ⟨gs, 0, none⟩)) rfl (by kernel_rfl) (by kernel_rfl) (by kernel_rfl) (fun _ _ _ h => h) (yl_move (by rfl) _ rfl _ rfl) ?_
          simp only [Act.put, lzA, lzB, lzC]
          refine wpAnyL_pure (i := 1) (oi := ⟨_, _, _, _, _, _⟩) (v := .pointer (some ⟨gs, 0, none⟩)) rfl (by kernel_rfl) (by kernel_rfl) (by kernel_rfl) (fun _ _ _ h => h) (yl_move (by rfl) _ rfl _ rfl) ?_
          simp only [Act.put, lzA, lzB, lzC]
          refine wpAnyL_pure (i := 2) (oi := ⟨_, _, _, _, _, _⟩) (v := .pointer (some ⟨gs, 0, none⟩)) rfl (by kernel_rfl) (by kernel_rfl) (by kernel_rfl) (fun _ _ _ h => h) (yt_nil (by rfl) _ rfl _ rfl) ?_
          simp only [Act.put, lzA, lzB, lzC]
          refine wpAnyL_pure (i := 3) (oi := ⟨_, _, _, _, _, _⟩) (v := .pointer (some ⟨gs, 3, none⟩)) rfl (by kernel_rfl) (by kernel_rfl) (by kernel_rfl) (fun _ _ _ h => h) (yt_fSt3 (by rfl) _ rfl gs 0 rfl) ?_
          simp only [Act.put, lzA, lzB, lzC]
          refine wpAnyL_load (i := 4) (oi := ⟨_, _, _, _, _, _⟩) (v := .slice ps S.strs.length cs) rfl (by kernel_rfl) (by kernel_rfl) (by kernel_rfl) (by kernel_rfl) (fun _ _ _ h => h) (yt_ldLs (by rfl) _ rfl _ _ rfl ps S.strs.length cs (fun _ h => cell_heap h.1 3)) ⟨GS, G3⟩ ?_
          simp only [Act.put, lzA, lzB, lzC]
          refine wpAnyL_pure (i := 5) (oi := ⟨_, _, _, _, _, _⟩) (v := .pointer (some ⟨g3, 2, none⟩)) rfl (by kernel_rfl) (by kernel_rfl) (by kernel_rfl) (fun _ _ _ h => h) (yt_fVa2 (by rfl) _ rfl g3 0 rfl) ?_
          simp only [Act.put, lzA, lzB, lzC]
          refine wpAnyL_load (i := 6) (oi := ⟨_, _, _, _, _, _⟩) (v := .string v.2.2) rfl (by kernel_rfl) (by kernel_rfl) (by kernel_rfl) (by kernel_rfl) (fun _ _ _ h => h) (yt_ldS (by rfl) _ rfl _ _ rfl _ (fun _ h => cell_heap h.2 2)) ⟨GS, G3⟩ ?_
          simp only [Act.put, lzA, lzB, lzC]
          refine wpAnyL_all (rs := [7]) (by kernel_rfl) (by simp) ?_
          intro j hj
          have hj := List.mem_singleton.1 hj
          subst hj
          refine ot_row1S (o := ⟨_, _, _, _, _, _⟩) rfl (by rfl) _ rfl (v.2.2) rfl (fun v6 g6 hg G6 kb => ?_)
          have n_b_g6 : b ≠ g6 := by have := H.lt; omega
          have n_gs_g6 : gs ≠ g6 := by have := lt_heap GS; omega
          have n_g3_g6 : g3 ≠ g6 := by have := lt_heap G3; omega
          have ge_g6 : w0.heap.size ≤ g6 := Nat.le_trans D.size hg
          have st_g6 := Nat.le_trans ST.1 hg
          have six_g6 : 6 ≤ g6 := Nat.le_trans w6 ge_g6
          clear hg
          replace D := grown_below D kb
          replace RI := ownsRow_on RI kb
          replace RS := ownsRow_on RS kb
          replace H := H.on kb
          replace GS := heap_on GS kb
          replace HB := Nat.le_trans HB kb.size
          replace ST := ST.on kb
          replace G3 := heap_on G3 kb
          clear kb
          refine ⟨fun _ _ => ⟨GS, G3⟩, ?_⟩
          simp only [Act.put, lzA, lzB, lzC]
          refine wpAnyL_all (rs := [8]) (by kernel_rfl) (by simp) ?_
          intro j hj
          have hj := List.mem_singleton.1 hj
          subst hj
          refine ot_appS (o := ⟨_, _, _, _, _, _⟩) rfl (by rfl) _ _ rfl B _ S.strs rfl RS _ (v.2.2) rfl G6 ((by omega)) (HB) (fun v7' v7 hrow kg hown => ?_)
          clear G6
          replace H := H.gro RS kg h6 (by decide)
          replace GS := heap_gro GS kg (own_ne RS GS (by decide))
          replace HB := Nat.le_trans HB kg.size
          replace ST := Stays.row ST RS kg (by decide)
          replace G3 := heap_gro G3 kg (own_ne RS G3 (by decide))
          replace RI := row_row RI RS kg (by decide)
          replace D := gr_own D (fun g hg => Nat.le_trans h0 (World.ownsRow.lt RS g hg).1) kg
          clear kg hown
          replace RS := hrow
          clear hrow
          obtain ⟨p7, c7, rfl, -, -, -⟩ := ownsRow_form RS
          refine ⟨fun _ _ => ⟨GS, G3⟩, ?_⟩
          simp only [Act.put, lzA, lzB, lzC]
          refine wpAnyL_pure (i := 9) (oi := ⟨_, _, _, _, _, _⟩) (v := .pointer (some ⟨gs, 0, none⟩)) rfl (by kernel_rfl) (by kernel_rfl) (by kernel_rfl) (fun _ _ _ h => h) (yt_nil (by rfl) _ rfl _ rfl) ?_
          simp only [Act.put, lzA, lzB, lzC]
          refine wpAnyL_pure (i := 10) (oi := ⟨_, _, _, _, _, _⟩) (v := .pointer (some ⟨gs, 3, none⟩)) rfl (by kernel_rfl) (by kernel_rfl) (by kernel_rfl) (fun _ _ _ h => h) (yt_fSt3 (by rfl) _ rfl gs 0 rfl) ?_
          simp only [Act.put, lzA, lzB, lzC]
          refine wpAnyL_all (rs := [11]) (by kernel_rfl) (by simp) ?_
          intro j hj
          have hj := List.mem_singleton.1 hj
          subst hj
          refine ot_putL (o := ⟨_, _, _, _, _, _⟩) rfl (by rfl) _ (Or.inr (Or.inl rfl)) _ _ rfl _ 3 rfl p7 ((S.strs ++ [(v.2.2)]).length) c7 rfl GS (by simp) (fun v8 X kg => ?_)
          replace RI := row_gr_heap RI kg GS (by decide)
          replace RS := row_gr_heap RS kg GS (by decide)
          replace D := gr_new D ge_gs kg
          replace H := H.gr kg n_b_gs six_gs
          replace HB := Nat.le_trans HB kg.size
          replace ST := Stays.gr2 ST kg
          replace G3 := heap_gr G3 kg (Ne.symm n_gs_g3)
          clear kg
          replace GS : v8.heap[gs]? = some (.cells #[.bool (S.absent), .slice pi S.ints.length ci, .bool (S.co), .slice p7 ((S.strs ++ [(v.2.2)]).length) c7] 26 (0, 0)) := X
          clear X
          refine ⟨fun h => absurd h (by decide), ?_⟩
          simp only [Act.put, lzA, lzB, lzC]
          refine wpAnyL_done (by kernel_rfl) ?_ _
          simp only [Exit.inBlock, Exit.then, if_true, eq_self_iff_true, beq_self_eq_true]
          go_end0
          refine Or.inl ⟨{ S with strs := S.strs ++ [v.2.2] }, r2, by unfold partL; rw [hc]; dsimp only; rw [hv]; dsimp only; rw [if_neg hk1, if_pos hk2], rfl, ⟨pi, ci, p7, c7, GS, RI, RS⟩, H.rd, D, ST, HB⟩
        · refine wp_region_lit ?_
          refine wl_yield (o := ⟨_, _, _, _, _, _⟩) (.bool false) (yt_eqlI (by rfl) _ _ _ rfl v.1 2 false rfl rfl (decide_eq_false hk2)) ?_
          simp only [Act.put, lzA, lzB, lzC]
          refine wl_yield (o := ⟨_, _, _, _, _, _⟩) (.bool false) (yl_assign (by rfl) _ rfl _ rfl) ?_
          simp only [Act.put, lzA, lzB, lzC]
          refine wpList_nil ?_
          refine hK6 _ _ ?_
          clear hK6 K6
          refine wp_cond_false rfl ?_
          refine wp_region_lit ?_
          refine wl_yield (o := ⟨_, _, _, _, _, _⟩) (.pointer (some ⟨gs, 0, none⟩)) (yl_move (by rfl) _ rfl _ rfl) ?_
          simp only [Act.put, lzA, lzB, lzC]
          refine wl_yield (o := ⟨_, _, _, _, _, _⟩) (.pointer (some ⟨gs, 0, none⟩)) (yt_nil (by rfl) _ rfl _ rfl) ?_
          simp only [Act.put, lzA, lzB, lzC]
          refine wl_yield (o := ⟨_, _, _, _, _, _⟩) (.pointer (some ⟨gs, 0, none⟩)) (yt_fSt0 (by rfl) _ rfl gs 0 rfl) ?_
          simp only [Act.put, lzA, lzB, lzC]
          refine wt_putB (o := ⟨_, _, _, _, _, _⟩) (by rfl) _ _ rfl _ 0 rfl true rfl GS (by simp) (fun v5 X kg => ?_)
          simp only [Act.put, lzA, lzB, lzC]
          replace RI := row_gr_heap RI kg GS (by decide)
          replace RS := row_gr_heap RS kg GS (by decide)
          replace D := gr_new D ge_gs kg
          replace H := H.gr kg n_b_gs six_gs
          replace HB := Nat.le_trans HB kg.size
          replace ST := Stays.gr2 ST kg
          replace G3 := heap_gr G3 kg (Ne.symm n_gs_g3)
          clear kg
          replace GS : v5.heap[gs]? = some (.cells #[.bool true, .slice pi S.ints.length ci, .bool (S.co), .slice ps S.strs.length cs] 26 (0, 0)) := X
          clear X
          refine wpList_nil ?_
          simp only [Exit.inBlock, Exit.then, if_true, eq_self_iff_true, beq_self_eq_true]
          go_end0
          refine Or.inl ⟨{ S with absent := true }, r2, by unfold partL; rw [hc]; dsimp only; rw [hv]; dsimp only; rw [if_neg hk1, if_neg hk2], rfl, ⟨pi, ci, ps, cs, GS, RI, RS⟩, H.rd, D, ST, HB⟩
    · replace D := grown_trans D kg
      refine Or.inr ⟨_, rfl, ?_⟩
      exact ⟨rfl, Or.inr ⟨by unfold partL; rw [hc]; dsimp only; rw [hv], rfl, D⟩⟩
end Go.Proofs.YtlmdcaemjaldfaaGreatDoor
namespace Go.Proofs.YtlmdcaemjaldfaaGreatDoor
open Go.RowKit
def IS (b gs gr gt : Nat) (w W : World) (S : SetV) (l : List UInt8) : Prop :=
  w.grownBy W (some b) ∧ (∃ pi ci ps cs, SetOwn W gs (gs + 1) S pi ci ps cs) ∧ gs + 1 ≤ W.heap.size ∧ W.heap[gr]? = some (.cells #[.pointer (some ⟨b, 0, none⟩)] 57 (0, 0)) ∧ W.heap[gt]? = some (stObj SC.zero) ∧ S.ints.length + S.strs.length + l.length ≤ 1000000
theorem own_after {w w' : World} {B : Nat} {e : TypeId} {size n b : Nat} {v : Value} {xs : List Value} (h : w.ownsRow B e size v n xs) (k : w.grownBy w' (some b)) (hb : b < B) : w'.ownsRow B e size v n xs :=
  ownsRow_gr h k fun g hg e => by
    have := (World.ownsRow.lt h g hg).1
    injection e with e
    omega
theorem IS.gr {b gs gr gt : Nat} {w W W' : World} {S : SetV} {l l' : List UInt8} (h : IS b gs gr gt w W S l) (hb : b < gs) (n1 : gr ≠ b) (n2 : gt ≠ b) (k : W.grownBy W' (some b)) (hl : l'.length ≤ l.length) : IS b gs gr gt w W' S l' := by
  obtain ⟨D, ⟨pi, ci, ps, cs, hG, hI, hS⟩, hB, h3, h4, h5⟩ := h
  exact ⟨grown_trans D k, ⟨pi, ci, ps, cs, heap_gr hG k (by omega), own_after hI k (by omega), own_after hS k (by omega)⟩, Nat.le_trans hB k.size, heap_gr h3 k n1, heap_gr h4 k n2, by omega⟩
theorem own_kept {w w' : World} {m B : Nat} {e : TypeId} {size n : Nat} {v : Value} {xs : List Value} (h : w.ownsRow B e size v n xs) (hk : Kept m w w') (hB : m ≤ B) : w'.ownsRow B e size v n xs := ownsRow_kept h (hk.mono hB)
theorem setAt_rows {w : World} {S : SetV} {pi ps : Option Addr} {ci cs B C : Nat} (hI : RowR w B (.slice pi S.ints.length ci) S.ints) (hS : RowS w C (.slice ps S.strs.length cs) S.strs) (h1 : inI64 S.ints) (h2 : ∀ s ∈ S.strs, s.size ≤ 8) (l1 : S.ints.length ≤ 9223372036854775807) (l2 : S.strs.length ≤ 9223372036854775807) :
    SetAt w (SC.val ⟨S.absent, pi, S.ints.length, ci, S.co, ps, S.strs.length, cs⟩) S := by
  refine ⟨_, _, rfl, OwnR.rngs (B := B) hI h1 l1, (fun s hs => by have := h2 s hs; omega), l2, ?_⟩
  rcases hS.2 with ⟨e, h0⟩ | ⟨g, cap, cur, e, _, hg, hc, _⟩
  · injection e with e1 e2 e3
    exact ⟨none, 0, (by rw [e1, e3]; rfl), (fun i hi' => by omega)⟩
  · injection e with e1 e2 e3
    subst e1 e3
    obtain ⟨sp, hsp⟩ := capOf_of (a := some ⟨g, 0, none⟩) hc (fun e => by cases e)
    refine ⟨_, sp, by rw [← hsp], fun i hi' => ⟨g, 0, rfl, lt_heap hg, ?_⟩⟩
    rw [Nat.zero_add]
    refine ownsRow_cell hS i _ ?_
    have : stCells1 S.strs = S.strs.map Value.string := by unfold stCells1; induction S.strs with
      | nil => rfl
      | cons x l ih => simp [List.flatMap_cons, ih]
    rw [this, List.getElem?_map, List.getElem?_eq_getElem hi', Option.map_some, List.getD_eq_getElem?_getD, List.getElem?_eq_getElem hi']
    rfl
theorem valL_ok {l r : List UInt8} {v : Va} (h : valL l = some (v, r)) : (v.1 = 1 → -9223372036854775808 ≤ v.2.1 ∧ v.2.1 ≤ 9223372036854775807) ∧ v.2.2.size ≤ 8 ∧ rightB v.1 v.2.1 v.2.2 = true := by
  unfold valL at h
  split at h
  · cases h
  · rename_i k n s j e
    injection h with h
    injection h with h _
    subst h
    unfold readL at e
    split at e
    · cases e
    · split at e
      · obtain ⟨t, rest, _, h8, e2⟩ := rs_inv _ _ _ _ _ (by simp) e
        injection e2 with e1 e2
        injection e2 with e2 e3
        injection e3 with e3 _
        subst e1 e2
        have hl : s.length ≤ 8 := by rw [e3]; simpa using h8
        refine ⟨(fun h => by cases h), (by show (ByteArray.mk s.toArray).size ≤ 8; rw [Lib.size_eq]; simpa using hl), ?_⟩
        show rightB 2 0 ⟨s.toArray⟩ = true
        have h9 : ((⟨s.toArray⟩ : ByteArray).size : Int) ≤ 8 := by rw [Lib.size_eq]; simp; omega
        unfold rightB
        rw [if_neg (by decide), if_neg (by decide), if_pos rfl]
        simp only [BEq.rfl, Bool.true_and, decide_eq_true_eq]
        exact h9
      · split at e
        · unfold rnL at e
          split at e
          · rename_i z hz
            split at e
            · injection e with e
              injection e with e1 e
              injection e with e2 e
              injection e with e3 _
              subst e1 e2 e3
              exact ⟨fun _ => Lib.atoiAll_bounds hz, Nat.zero_le _, (by unfold rightB; rw [if_neg (by show ¬ (1 : Int) = 0; decide), if_pos (by rfl), ByteArray.toList_eq]; rfl)⟩
            · cases e
          · cases e
        · split at e
          · injection e with e
            injection e with e1 e
            injection e with e2 e
            injection e with e3 _
            subst e1 e2 e3
            exact ⟨(fun h => by cases h), Nat.zero_le _, (by unfold rightB; rw [if_pos (by rfl), ByteArray.toList_eq]; rfl)⟩
          · cases e
theorem items_inv {σ : Type} (stop : UInt8) (g : σ → List UInt8 → Option (σ × List UInt8)) (P : σ → Prop) (hg : ∀ a l a' r, P a → g a l = some (a', r) → P a') : ∀ (k : Nat) (first : Bool) (a : σ) (l : List UInt8) (a' : σ) (r : List UInt8), P a → itemsL stop g k first a l = some (a', r) → P a'
  | 0, _, _, _, _, _, _, h => by cases h
  | k + 1, first, a, l, a', r, hP, h => by
    rw [items_step] at h
    split at h
    · injection h with h; injection h with h _; rw [← h]; exact hP
    · split at h
      · cases h
      · split at h
        · cases h
        · rename_i a2 r2 hg2
          exact items_inv stop g P hg k false a2 r2 a' r (hg _ _ _ _ hP hg2) h
def okB (S : SetV) : Prop := inI64 S.ints ∧ ∀ s ∈ S.strs, s.size ≤ 8
theorem partL_ok {S S' : SetV} {l r : List UInt8} (h0 : okB S) (h : partL S l = some (S', r)) : okB S' := by
  unfold partL at h
  split at h
  · injection h with h; injection h with h1 _
    subst h1
    exact h0
  · split at h
    · cases h
    · rename_i v q hv
      obtain ⟨v1, v2, _⟩ := valL_ok hv
      split at h
      · rename_i hk
        cases hh : hiL v.2.1 q with
        | none => rw [hh] at h; cases h
        | some z =>
          obtain ⟨z, q2⟩ := z
          rw [hh] at h
          injection h with h; injection h with h1 _
          subst h1
          have hz : -9223372036854775808 ≤ z ∧ z ≤ 9223372036854775807 := by
            unfold hiL at hh
            split at hh
            · injection hh with hh; injection hh with hh _; rw [← hh]; exact v1 hk
            · split at hh
              · cases hh
              · rename_i u q3 hu
                split at hh
                · rename_i hu1
                  injection hh with hh; injection hh with hh _; rw [← hh]; exact (valL_ok hu).1 hu1
                · cases hh
          refine ⟨fun x hx => ?_, h0.2⟩
          rcases List.mem_append.1 hx with hx | hx
          · exact h0.1 x hx
          · rw [List.mem_singleton.1 hx]
            exact ⟨(v1 hk).1, (v1 hk).2, hz.1, hz.2⟩
      · split at h
        · injection h with h; injection h with h1 _
          subst h1
          refine ⟨h0.1, fun x hx => ?_⟩
          rcases List.mem_append.1 hx with hx | hx
          · exact h0.2 x hx
          · rw [List.mem_singleton.1 hx]; exact v2
        · injection h with h; injection h with h1 _
          subst h1
          exact h0
theorem okB_no : okB noSet := ⟨(fun r h => by cases h), (fun s h => by cases h)⟩
theorem rd_ok {k : Nat} {l r : List UInt8} {S : SetV} (h : itemsL 93 partL k true noSet l = some (S, r)) : okB S := items_inv 93 partL okB (fun a l a' r h0 h => partL_ok h0 h) k true noSet l S r okB_no h
theorem partL_len {S S' : SetV} {l r : List UInt8} (h : partL S l = some (S', r)) : r.length < l.length ∧ S'.ints.length + S'.strs.length ≤ S.ints.length + S.strs.length + 1 := by
  unfold partL at h
  split at h
  · rename_i q hc
    have := cut_len hc
    injection h with h; injection h with h1 h2
    subst h1 h2
    simp at this ⊢
    omega
  · split at h
    · cases h
    · rename_i v q hv
      have hlv := valL_len hv
      split at h
      · cases hh : hiL v.2.1 q with
        | none => rw [hh] at h; cases h
        | some z =>
          obtain ⟨z, q2⟩ := z
          rw [hh] at h
          injection h with h; injection h with h1 h2
          subst h1 h2
          have := hi_len hh
          simp
          omega
      · split at h
        · injection h with h; injection h with h1 h2
          subst h1 h2
          simp
          omega
        · injection h with h; injection h with h1 h2
          subst h1 h2
          simp
          omega
set_option maxHeartbeats 1000000 in
set_option maxRecDepth 100000 in
theorem set1_item (b gs gr gt : Nat) (w0 : World) (h60 : 6 ≤ w0.heap.size) (h60e : ∀ W, w0.grownBy W (some b) → Env W) (ge_gs : w0.heap.size ≤ gs) (n1 : gr ≠ b) (n2 : gt ≠ b) (n3 : gr ≠ gs) (n4 : gt ≠ gs) (w : World) (S : SetV) (l : List UInt8) (HI : IS b gs gr gt w0 w S l) (H : Rdr w b l) :
    Calls Tryz.prog 70 #[.pointer (some ⟨gr, 0, none⟩), .pointer (some ⟨gs, 0, none⟩)] w fun e w' => (∃ S' r, partL S l = some (S', r) ∧ r.length < l.length ∧ e = .returned (.tuple #[]) ∧ IS b gs gr gt w0 w' S' r ∧ Rdr w' b r) ∨ (partL S l = none ∧ e = .panicked chE ∧ w0.grownBy w' (some b)) := by
  obtain ⟨D, ⟨pi, ci, ps, cs, HS⟩, HB, GR, GT, HL⟩ := HI
  go_enter Tryz.func70, Tryz.ntmps70
  refine wp_region_lit ?_
  refine wl_yield (o := ⟨_, _, _, _, _, _⟩) (.pointer (some ⟨b, 0, none⟩)) (yt_ldPr (by rfl) _ rfl _ _ rfl _ (fun _ h => by subst h; exact cell_heap GR 0)) ?_
  simp only [Act.put, lzA, lzB, lzC]
  refine wt_call (o := ⟨_, _, _, _, _, _⟩) (by rfl) 71 _ _ rfl #[.pointer (some ⟨b, 0, none⟩), .pointer (some ⟨gs, 0, none⟩)] rfl (run_call Tryz.func71 (by kernel_rfl) (by kernel_rfl)) ?_
  refine (part_or b gs (gs + 1) l S pi ci ps cs w0 _ H HS D h60 ge_gs (Nat.le_succ_of_le ge_gs) HB (by omega)).mono ?_
  rintro r v1 (⟨S2, r2, hp, rfl, HS2, hr, D2, ST, HB2⟩ | ⟨hp, rfl, D2⟩)
  · replace H := Rdr.mk (h60e _ D2) H.six hr
    have hp2 := partL_len hp
    refine Or.inl ⟨.tuple #[], rfl, ?_⟩
    simp only [Act.put, lzA, lzB, lzC]
    refine wpList_nil ?_
    go_end0
    exact Or.inl ⟨S2, r2, hp, hp2.1, rfl, ⟨D2, HS2, HB2, ST.2 gr _ _ _ n1 n3 (by decide) (by decide) GR, ST.2 gt _ _ _ n2 n4 (by decide) (by decide) GT, by omega⟩, H⟩
  · refine Or.inr ⟨_, rfl, ?_⟩
    exact ⟨rfl, Or.inr ⟨hp, rfl, D2⟩⟩
set_option maxHeartbeats 1000000 in
set_option maxRecDepth 100000 in
theorem set_or (b : Nat) (l : List UInt8) (w : World) (H : Rdr w b l) (hs : l.length ≤ 100000) :
    Calls Tryz.prog 45 #[.pointer (some ⟨b, 0, none⟩)] w fun e w' => (∃ S r s, setL l = some (S, r) ∧ e = .returned (SC.val s) ∧ (∀ w'', Kept w.heap.size w' w'' → SetAt w'' s.val S) ∧ RdL w' b r ∧ w.grownBy w' (some b)) ∨ (setL l = none ∧ e = .panicked chE ∧ w.grownBy w' (some b)) := by
  have w6 : 6 ≤ w.heap.size := H.env.big
  have D : w.grownBy w (some b) := grown_refl _ _
  have Hb := H.rd.lt
  have he := H.env
  go_enter Tryz.func45, Tryz.ntmps45
  refine wp_seq_k (fun K1 hK1 => ?_)
  refine wp_region_lit ?_
  refine wt_boxPr (o := ⟨_, _, _, _, _, _⟩) (by rfl) _ rfl _ rfl (fun v1 g1 hg G1 kb => ?_)
  simp only [Act.put, lzA, lzB, lzC]
  have n_b_g1 : b ≠ g1 := by have := H.lt; omega
  have ge_g1 : w.heap.size ≤ g1 := Nat.le_trans D.size hg
  have six_g1 : 6 ≤ g1 := Nat.le_trans w6 ge_g1
  clear hg
  replace D := grown_below D kb
  replace H := H.on kb
  clear kb
  replace G1 : v1.heap[g1]? = some (.cells #[.pointer (some ⟨b, 0, none⟩)] 57 (0, 0)) := G1
  refine wt_allocSt (o := ⟨_, _, _, _, _, _⟩) (by rfl) rfl (fun v2 g2 hg G2 kb => ?_)
  simp only [Act.put, lzA, lzB, lzC]
  have n_b_g2 : b ≠ g2 := by have := H.lt; omega
  have n_g1_g2 : g1 ≠ g2 := by have := lt_heap G1; omega
  have ge_g2 : w.heap.size ≤ g2 := Nat.le_trans D.size hg
  have six_g2 : 6 ≤ g2 := Nat.le_trans w6 ge_g2
  clear hg
  replace D := grown_below D kb
  replace H := H.on kb
  replace G1 := heap_on G1 kb
  clear kb
  replace G2 : v2.heap[g2]? = some (.cells #[.bool false, .slice none 0 0, .bool false, .slice none 0 0] 26 (0, 0)) := G2
  refine wpList_nil ?_
  refine hK1 _ _ ?_
  clear hK1 K1
  refine wp_seq_k (fun K2 hK2 => ?_)
  refine wp_region_lit ?_
  refine wt_allocSt (o := ⟨_, _, _, _, _, _⟩) (by rfl) rfl (fun v3 g3 hg G3 kb => ?_)
  simp only [Act.put, lzA, lzB, lzC]
  have n_b_g3 : b ≠ g3 := by have := H.lt; omega
  have n_g1_g3 : g1 ≠ g3 := by have := lt_heap G1; omega
  have n_g2_g3 : g2 ≠ g3 := by have := lt_heap G2; omega
  have ge_g3 : w.heap.size ≤ g3 := Nat.le_trans D.size hg
  have six_g3 : 6 ≤ g3 := Nat.le_trans w6 ge_g3
  clear hg
  replace D := grown_below D kb
  replace H := H.on kb
  replace G1 := heap_on G1 kb
  replace G2 := heap_on G2 kb
  clear kb
  replace G3 : v3.heap[g3]? = some (.cells #[.bool false, .slice none 0 0, .bool false, .slice none 0 0] 26 (0, 0)) := G3
  refine wpList_nil ?_
  refine hK2 _ _ ?_
  clear hK2 K2
  refine wp_seq_k (fun K3 hK3 => ?_)
  refine wp_region_lit ?_
  refine wl_yield (o := ⟨_, _, _, _, _, _⟩) (.pointer (some ⟨b, 0, none⟩)) (yt_ldPr (by rfl) _ rfl _ _ rfl _ (fun _ h => by subst h; exact cell_heap G1 0)) ?_
  simp only [Act.put, lzA, lzB, lzC]
  refine wt_call (o := ⟨_, _, _, _, _, _⟩) (by rfl) 44 _ _ rfl #[.pointer (some ⟨b, 0, none⟩), .string (bs ([91]))] rfl (run_call Tryz.func44 (by kernel_rfl) (by kernel_rfl)) ?_
  refine (need_or b _ _ _ H.rd).mono ?_
  rintro r v4 (⟨nq, nc, rfl, hr, kg⟩ | ⟨nc, rfl, kg⟩)
  · replace H := H.grown kg hr
    clear hr
    replace D := grown_trans D kg
    replace G1 := heap_gr G1 kg (Ne.symm n_b_g1)
    replace G2 := heap_gr G2 kg (Ne.symm n_b_g2)
    replace G3 := heap_gr G3 kg (Ne.symm n_b_g3)
    clear kg
    refine Or.inl ⟨.tuple #[], rfl, ?_⟩
    simp only [Act.put, lzA, lzB, lzC]
    refine wpList_nil ?_
    refine hK3 _ _ ?_
    clear hK3 K3
    refine wp_seq_k (fun K4 hK4 => ?_)
    refine wp_region_lit ?_
    refine wl_yield (o := ⟨_, _, _, _, _, _⟩) (.pointer (some ⟨b, 0, none⟩)) (yt_ldPr (by rfl) _ rfl _ _ rfl _ (fun _ h => by subst h; exact cell_heap G1 0)) ?_
    simp only [Act.put, lzA, lzB, lzC]
    refine wl_yield (o := ⟨_, _, _, _, _, _⟩) (.func (.func 70) #[] #[.pointer (some ⟨g1, 0, none⟩), .pointer (some ⟨g3, 0, none⟩)]) (yt_fn2 (by rfl) _ _ _ rfl _ _ rfl rfl) ?_
    simp only [Act.put, lzA, lzB, lzC]
    have Q : setL l = itemsL 93 partL (nq.length + 1) true noSet nq := by unfold setL; rw [nc]
    have hlq := cut_len nc
    have hbw := Hb
    have b_gs : b < g3 := Nat.lt_of_lt_of_le hbw ge_g3
    have HI0 : IS b g3 g1 g2 w v4 noSet nq := ⟨D, ⟨none, 0, none, 0, G3, RowR.nil _ _, RowS.nil _ _⟩, lt_heap G3, G1, G2, by show 0 + 0 + nq.length ≤ 1000000; omega⟩
    refine wt_call (o := ⟨_, _, _, _, _, _⟩) (by rfl) 53 _ _ rfl #[.pointer (some ⟨b, 0, none⟩), .string (bs ([93])), .func (.func 70) #[] #[.pointer (some ⟨g1, 0, none⟩), .pointer (some ⟨g3, 0, none⟩)]] rfl (run_call Tryz.func53 (by kernel_rfl) (by kernel_rfl)) ?_
    refine (items_any b 93 1000000 _ _ partL (IS b g3 g1 g2 w) (fun W => w.grownBy W (some b)) (run_call Tryz.func70 (by kernel_rfl) (by kernel_rfl)) (fun W a l h => h.1) (fun W W' a l l' h k hl => h.gr b_gs (Ne.symm n_b_g1) (Ne.symm n_b_g2) k hl) (fun W a l h H _ => set1_item b g3 g1 g2 w w6 (fun W k => he.below (B := 6) (Nat.le_refl _) (below_of_grown k H.six w6)) ge_g3 (Ne.symm n_b_g1) (Ne.symm n_b_g2) n_g1_g3 n_g2_g3 W a l h H) (nq.length + 1) noSet nq _ (Nat.lt_succ_self _) (by omega) HI0 H).mono ?_
    rintro r v5 (⟨S2, r2, hq, hlt, rfl, HI2, H2⟩ | ⟨hq, rfl, D2⟩)
    · obtain ⟨D2, ⟨pi, ci, ps, cs, GS, RI, RS⟩, HB, GR, GT, HL⟩ := HI2
      replace D := D2
      replace H := H2
      clear D2 H2
      refine Or.inl ⟨.tuple #[], rfl, ?_⟩
      simp only [Act.put, lzA, lzB, lzC]
      refine wpList_nil ?_
      refine hK4 _ _ ?_
      clear hK4 K4
      refine wp_seq_k (fun K5 hK5 => ?_)
      refine wp_region_lit ?_
      refine wl_yield (o := ⟨_, _, _, _, _, _⟩) (.agg #[.bool (S2.absent), .slice pi S2.ints.length ci, .bool (S2.co), .slice ps S2.strs.length cs]) (yl_set (by rfl) _ rfl _ 0 rfl _ _ _ _ (fun _ h => by subst h; exact ⟨cell_heap GS 0, cell_heap GS 1, cell_heap GS 2, cell_heap GS 3⟩)) ?_
      simp only [Act.put, lzA, lzB, lzC]
      refine wt_putSt (o := ⟨_, _, _, _, _, _⟩) rfl _ _ rfl _ rfl (⟨S2.absent, pi, S2.ints.length, ci, S2.co, ps, S2.strs.length, cs⟩) rfl GT rfl (fun v6 X kg => ?_)
      simp only [Act.put, lzA, lzB, lzC]
      replace RI := row_gr_heap RI kg GT (by decide)
      replace RS := row_gr_heap RS kg GT (by decide)
      replace D := gr_new D ge_g2 kg
      replace H := H.gr kg n_b_g2 six_g2
      replace GS := heap_gr GS kg (Ne.symm n_g2_g3)
      clear kg
      replace GT : v6.heap[g2]? = some (.cells #[.bool (S2.absent), .slice pi S2.ints.length ci, .bool (S2.co), .slice ps S2.strs.length cs] 26 (0, 0)) := X
      clear X
      refine wpList_nil ?_
      refine hK5 _ _ ?_
      clear hK5 K5
      refine wp_ret ?_
      refine bodyPost_ret (results_cell_row rfl _ _ g2 26 _ (0, 0) _ rfl GT Tryz.underlying26 rfl infoSet4) rfl (Or.inl ⟨S2, r2, ⟨S2.absent, pi, S2.ints.length, ci, S2.co, ps, S2.strs.length, cs⟩, by rw [Q]; exact hq, rfl, fun w'' hk => ?_, H.rd, D⟩)
      exact setAt_rows (own_kept RI hk (Nat.le_succ_of_le ge_g3)) (own_kept RS hk (Nat.le_succ_of_le ge_g3)) (rd_ok hq).1 (rd_ok hq).2 (by omega) (by omega)
    · refine Or.inr ⟨_, rfl, ?_⟩
      exact ⟨rfl, Or.inr ⟨by rw [Q]; exact hq, rfl, D2⟩⟩
  · replace D := grown_trans D kg
    refine Or.inr ⟨_, rfl, ?_⟩
    exact ⟨rfl, Or.inr ⟨by unfold setL; rw [nc], rfl, D⟩⟩
end Go.Proofs.YtlmdcaemjaldfaaGreatDoor
namespace Go.Proofs.YtlmdcaemjaldfaaGreatDoor
open Go.RowKit
def NewE (n : Nat) (W : World) (B : Nat) (v : Value) (d : EC) (x : ExV) : Prop :=
  ∃ (m : Nat) (V : World), B ≤ m ∧ Kept m V W ∧ (∀ g, v.ownBlock = some g → g < m ∨ V.heap.size ≤ g) ∧ ∀ w'', Kept m V w'' → ExAt n w'' d.val x
theorem kept_gr {m : Nat} {V W W' : World} {g : Nat} (h : Kept m V W) (k : W.grownBy W' (some g)) (hg : g < m ∨ V.heap.size ≤ g) : Kept m V W' :=
  ⟨Nat.le_trans h.size k.size, fun i hm hi => (k.block i (Nat.lt_of_lt_of_le hi h.size) (by intro e; injection e with e; omega)).trans (h.block i hm hi)⟩
theorem NewE.on {n : Nat} {W W' : World} {B : Nat} {v : Value} {d : EC} {x : ExV} (h : NewE n W B v d x) (k : Below W.heap.size W W') : NewE n W' B v d x := by
  obtain ⟨m, V, h1, h2, h3, h4⟩ := h
  exact ⟨m, V, h1, h2.trans ⟨k.size, fun i _ hi => k.block i hi⟩, h3, h4⟩
theorem NewE.lt {n : Nat} {W W' : World} {B g : Nat} {v : Value} {d : EC} {x : ExV} (h : NewE n W B v d x) (k : W.grownBy W' (some g)) (hg : g < B) : NewE n W' B v d x := by
  obtain ⟨m, V, h1, h2, h3, h4⟩ := h
  exact ⟨m, V, h1, kept_gr h2 k (by omega), h3, h4⟩
theorem NewE.own {n : Nat} {W W' : World} {B g : Nat} {v : Value} {d : EC} {x : ExV} (h : NewE n W B v d x) (hv : v.ownBlock = some g) (k : W.grownBy W' (some g)) : NewE n W' B v d x := by
  obtain ⟨m, V, h1, h2, h3, h4⟩ := h
  exact ⟨m, V, h1, kept_gr h2 k (h3 g hv), h3, h4⟩
theorem NewE.app {n : Nat} {W W' : World} {B : Nat} {v v' : Value} {d : EC} {x : ExV} (h : NewE n W B v d x) (k : W.grownBy W' v.ownBlock) (ho : ∀ g, v'.ownBlock = some g → some g = v.ownBlock ∨ W.heap.size ≤ g) : NewE n W' B v' d x := by
  obtain ⟨m, V, h1, h2, h3, h4⟩ := h
  refine ⟨m, V, h1, ⟨Nat.le_trans h2.size k.size, fun i hm hi => (k.block i (Nat.lt_of_lt_of_le hi h2.size) (by intro e; have := h3 i e.symm; omega)).trans (h2.block i hm hi)⟩, fun g hg => ?_, h4⟩
  rcases ho g hg with e | e
  · exact h3 g e.symm
  · exact Or.inr (Nat.le_trans h2.size e)
def ElsK (n : Nat) (W : World) (B : Nat) (v : Value) (cs : List EC) (xs : List ExV) : Prop := xs.length ≤ cs.length ∧ ∀ j, j < xs.length → NewE n W B v (cs.getD j ec0) (xs.getD j noX)
theorem ElsK.on {n : Nat} {W W' : World} {B : Nat} {v : Value} {cs : List EC} {xs : List ExV} (h : ElsK n W B v cs xs) (k : Below W.heap.size W W') : ElsK n W' B v cs xs := ⟨h.1, fun j hj => (h.2 j hj).on k⟩
theorem ElsK.lt {n : Nat} {W W' : World} {B g : Nat} {v : Value} {cs : List EC} {xs : List ExV} (h : ElsK n W B v cs xs) (k : W.grownBy W' (some g)) (hg : g < B) : ElsK n W' B v cs xs := ⟨h.1, fun j hj => (h.2 j hj).lt k hg⟩
theorem ElsK.own {n : Nat} {W W' : World} {B g : Nat} {v : Value} {cs : List EC} {xs : List ExV} (h : ElsK n W B v cs xs) (hv : v.ownBlock = some g) (k : W.grownBy W' (some g)) : ElsK n W' B v cs xs := ⟨h.1, fun j hj => (h.2 j hj).own hv k⟩
theorem ElsK.app {n : Nat} {W W' : World} {B : Nat} {v v' : Value} {cs : List EC} {xs : List ExV} (h : ElsK n W B v cs xs) (k : W.grownBy W' v.ownBlock) (ho : ∀ g, v'.ownBlock = some g → some g = v.ownBlock ∨ W.heap.size ≤ g) : ElsK n W' B v' cs xs := ⟨h.1, fun j hj => (h.2 j hj).app k ho⟩
theorem ElsK.snoc {n : Nat} {W : World} {B : Nat} {v : Value} {cs : List EC} {xs : List ExV} {d : EC} {x : ExV} (h : ElsK n W B v cs xs) (hl : cs.length = xs.length) (hd : NewE n W B v d x) : ElsK n W B v (cs ++ [d]) (xs ++ [x]) := by
  refine ⟨by simp; omega, fun j hj => ?_⟩
  rw [List.length_append, List.length_cons, List.length_nil] at hj
  by_cases e : j < xs.length
  · have h1 : (cs ++ [d]).getD j ec0 = cs.getD j ec0 := by rw [List.getD_eq_getElem?_getD, List.getD_eq_getElem?_getD, List.getElem?_append_left (by omega)]
    have h2 : (xs ++ [x]).getD j noX = xs.getD j noX := by rw [List.getD_eq_getElem?_getD, List.getD_eq_getElem?_getD, List.getElem?_append_left e]
    rw [h1, h2]
    exact h.2 j e
  · have e2 : j = xs.length := by omega
    have h1 : (cs ++ [d]).getD j ec0 = d := by rw [e2, ← hl, List.getD_eq_getElem?_getD, List.getElem?_append_right (Nat.le_refl _)]; simp
    have h2 : (xs ++ [x]).getD j noX = x := by rw [e2, List.getD_eq_getElem?_getD, List.getElem?_append_right (Nat.le_refl _)]; simp
    rw [h1, h2]
    exact hd
theorem put_mid (g : Nat) (t : TypeId) : ∀ (ds cs pre post : List Value) (w : World), w.heap[g]? = some (.cells (pre ++ (cs ++ post)).toArray t (0, 0)) → cs.length = ds.length → (w.setCells g pre.length ds).heap[g]? = some (.cells (pre ++ (ds ++ post)).toArray t (0, 0)) ∧ w.grownBy (w.setCells g pre.length ds) (some g)
  | [], [], pre, post, w, h, _ => ⟨h, grown_refl _ _⟩
  | d :: ds, c :: cs, pre, post, w, h, hl => by
    have h1 := heap_setCell (i := pre.length) d h
    have e : ((pre ++ ((c :: cs) ++ post)).toArray).setIfInBounds pre.length d = ((pre ++ [d]) ++ (cs ++ post)).toArray := by simp
    rw [e] at h1
    obtain ⟨h2, h3⟩ := put_mid g t ds cs (pre ++ [d]) post _ h1 (by simpa using hl)
    rw [List.length_append, List.length_cons, List.length_nil] at h2 h3
    rw [List.append_assoc, List.cons_append, List.nil_append] at h2
    exact ⟨h2, grown_trans (grown_put _ _ _ _) h3⟩
theorem exCells1_len : ∀ l : List EC, (exCells1 l).length = l.length * 7
  | [] => rfl
  | c :: l => by
    have := exCells1_len l
    unfold exCells1 at this ⊢
    rw [List.flatMap_cons, List.length_append, this, EC.list_len, List.length_cons]
    omega
theorem rowE_some {w : World} {B : Nat} {v : Value} {cs : List EC} {d : EC} (h : RowE w B v (cs ++ [d])) : ∃ g c, v = .slice (some ⟨g, 0, none⟩) (cs ++ [d]).length c ∧ B ≤ g := by
  rcases h.2 with ⟨_, h0⟩ | ⟨g, cap, cur, e, hb, _⟩
  · simp at h0
  · exact ⟨g, cap, e, hb⟩
theorem rowE_put {w : World} {B g c : Nat} {cs : List EC} {d0 : EC} (d : EC) (h : RowE w B (.slice (some ⟨g, 0, none⟩) (cs ++ [d0]).length c) (cs ++ [d0])) :
    w.there g (cs.length * 7) 7 ∧ RowE (w.setCells g (cs.length * 7) d.list) B (.slice (some ⟨g, 0, none⟩) (cs ++ [d]).length c) (cs ++ [d]) ∧ w.grownBy (w.setCells g (cs.length * 7) d.list) (some g) := by
  obtain ⟨hl, hr⟩ := h
  rcases hr with ⟨e, _⟩ | ⟨g', cap, cur, e, hb, hg, hn, hm, hc, ht⟩
  · cases e
  · injection e with e1 e2 e3
    injection e1 with e1
    injection e1 with e1 _ _
    subst e1 e3
    have hlen : (exCells1 (cs ++ [d0])).length = (cs ++ [d0]).length * 7 := exCells1_len _
    have hcur : cur.toList = exCells1 cs ++ (d0.list ++ cur.toList.drop ((cs ++ [d0]).length * 7)) := by
      rw [← List.append_assoc, ← exCells1_app, ← ht, List.take_append_drop]
    have hg' : w.heap[g]? = some (.cells (exCells1 cs ++ (d0.list ++ cur.toList.drop ((cs ++ [d0]).length * 7))).toArray 29 (0, 0)) := by
      rw [← hcur]; exact hg
    have hp := exCells1_len cs
    obtain ⟨p1, p2⟩ := put_mid g _ d.list d0.list (exCells1 cs) _ w hg' (by rw [EC.list_len, EC.list_len])
    rw [hp] at p1 p2
    have hsz : cs.length * 7 + 7 ≤ cur.size := by
      rw [hc]
      rw [List.length_append, List.length_cons, List.length_nil] at hn
      have := Nat.mul_le_mul_right 7 hn
      omega
    refine ⟨fun j hj => ⟨by rw [cell_heap hg, Array.getElem?_eq_getElem (by omega)]; rfl, frozen_heap hg _⟩, ⟨by rw [exCells1_len], Or.inr ⟨g, c, _, rfl, hb, p1, ?_, hm, ?_, ?_⟩⟩, p2⟩
    · rw [List.length_append, List.length_cons, List.length_nil] at hn ⊢
      exact hn
    · have e1 := congrArg List.length hcur
      rw [List.length_append, List.length_append, EC.list_len] at e1
      rw [List.size_toArray, List.length_append, List.length_append, EC.list_len, ← e1, Array.length_toList]
      exact hc
    · rw [List.toList_toArray, ← List.append_assoc, ← exCells1_app, List.take_left' (by rw [exCells1_len])]
section
variable {ops : Array Oper} {S : World → Prop} {o : Oper} {a : Act}
set_option maxRecDepth 100000 in
theorem yt_exAt (hw : Region.wanted o (yielded ops a.tmps) = true) (x y : Operand) (ho : o.op = .indexAddr 27 x y) (b n c i : Nat) (hx : a.eval x = .slice (some ⟨b, 0, none⟩) n c) (hy : a.eval y = .int .i64 i) (hi : i < n) : YieldsIf Tryz.prog ops S o (.pointer (some ⟨b, i * 7, none⟩)) a :=
  Or.inl ⟨hw, fun w hS => by
    simp only [execOp, ho, hx, hy]
    go_simp⟩
theorem yt_lenX (hw : Region.wanted o (yielded ops a.tmps) = true) (x : Operand) (ho : o.op = .call { callee := .builtin .len, args := #[x], argTypes := #[27] }) (p : Option Addr) (n c : Nat) (hx : a.eval x = .slice p n c) : YieldsIf Tryz.prog ops S o (.int .i64 n) a :=
  Or.inl ⟨hw, fun w hS => by
    unfold execOp
    simp only [ho, resolve, invoke, builtin, Sem.run_bind, Sem.run_pure, Result.andThen_ok, List.map_toArray, List.map_cons, List.map_nil, hx]
    go_simp⟩
end
def IL (n b gL gr : Nat) (w W : World) (xs : List ExV) (l : List UInt8) : Prop :=
  w.grownBy W (some b) ∧ W.heap[gr]? = some (.cells #[.pointer (some ⟨b, 0, none⟩)] 57 (0, 0)) ∧ gL + 1 ≤ W.heap.size ∧ xs.length + l.length ≤ 1000000 ∧
  ∃ (p : Option Addr) (c : Nat) (cs : List EC), W.heap[gL]? = some (.cells #[.slice p cs.length c] 27 (0, 0)) ∧ RowE W (gL + 1) (.slice p cs.length c) cs ∧ cs.length = xs.length ∧ ElsK n W (gL + 1) (.slice p cs.length c) cs xs
theorem IL.gr {n b gL gr : Nat} {w W W' : World} {xs : List ExV} {l l' : List UInt8} (h : IL n b gL gr w W xs l) (hb : b < gL) (n1 : gr ≠ b) (k : W.grownBy W' (some b)) (hl : l'.length ≤ l.length) : IL n b gL gr w W' xs l' := by
  obtain ⟨D, hr, hB, h5, p, c, cs, hG, hR, hc, hE⟩ := h
  exact ⟨grown_trans D k, heap_gr hr k n1, Nat.le_trans hB k.size, by omega, p, c, cs, heap_gr hG k (by omega), own_after hR k (by omega), hc, hE.lt k (by omega)⟩
def ExprOr (n b N : Nat) : Prop := ∀ (l : List UInt8) (w : World), Rdr w b l → l.length < n → l.length ≤ N → Calls Tryz.prog 18 #[.pointer (some ⟨b, 0, none⟩)] w fun e w' =>
  (∃ x r d, exL n l = some (x, r) ∧ e = .returned (EC.val d) ∧ (∀ w'', Kept w.heap.size w' w'' → ExAt n w'' d.val x) ∧ RdL w' b r ∧ w.grownBy w' (some b)) ∨ (exL n l = none ∧ e = .panicked chE ∧ w.grownBy w' (some b))
theorem items_len {σ : Type} (stop : UInt8) (g : σ → List UInt8 → Option (σ × List UInt8)) (hg : ∀ a l a' r, g a l = some (a', r) → r.length ≤ l.length) : ∀ (k : Nat) (first : Bool) (a : σ) (l : List UInt8) (a' : σ) (r : List UInt8), itemsL stop g k first a l = some (a', r) → r.length < l.length
  | 0, _, _, _, _, _, h => by cases h
  | k + 1, first, a, l, a', r, h => by
    rw [items_step] at h
    split at h
    · rename_i q hc
      have := cut_len hc
      injection h with h; injection h with _ h
      rw [← h]
      simp at this
      omega
    · split at h
      · cases h
      · rename_i l1 hl1
        have h1 : l1.length ≤ l.length := by
          split at hl1
          · injection hl1 with hl1; rw [hl1]; exact Nat.le_refl _
          · have := cut_len hl1; omega
        split at h
        · cases h
        · rename_i a2 r2 hg2
          have h2 := hg _ _ _ _ hg2
          have h3 := items_len stop g hg k false a2 r2 a' r h
          omega
theorem setL_len {l r : List UInt8} {S : SetV} (h : setL l = some (S, r)) : r.length < l.length := by
  unfold setL at h
  split at h
  · cases h
  · rename_i q hq
    have := cut_len hq
    have h2 := items_len 93 partL (fun a l a' r h => by have := (partL_len h).1; omega) _ _ _ _ _ _ h
    omega
theorem exL_len : ∀ (n : Nat) (l : List UInt8) (x : ExV) (r : List UInt8), exL n l = some (x, r) → r.length < l.length
  | 0, _, _, _, h => by cases h
  | n + 1, l, x, r, h => by
    have hl : ∀ (l : List UInt8) (xs : List ExV) (r : List UInt8), listL (exL n) l = some (xs, r) → r.length < l.length := by
      intro l xs r h
      unfold listL at h
      split at h
      · cases h
      · rename_i q hq
        have := cut_len hq
        have h2 := items_len 41 (subL (exL n)) (fun a l a' r h => by
          unfold subL at h
          cases e : exL n l with
          | none => rw [e] at h; cases h
          | some y =>
            obtain ⟨y, q⟩ := y
            rw [e] at h
            injection h with h; injection h with _ h
            obtain rfl : q = r := h
            have := exL_len n l y q e
            omega) _ _ _ _ _ _ h
        omega
    unfold exL at h
    split at h
    · rename_i q hq
      have := cut_len hq
      cases e : listL (exL n) q with
      | none => rw [e] at h; cases h
      | some y =>
        rw [e] at h
        injection h with h; injection h with _ h
        obtain rfl : y.2 = r := h
        have := hl q y.1 y.2 e
        omega
    · split at h
      · rename_i q hq
        have := cut_len hq
        cases e : listL (exL n) q with
        | none => rw [e] at h; cases h
        | some y =>
          rw [e] at h
          injection h with h; injection h with _ h
          obtain rfl : y.2 = r := h
          have := hl q y.1 y.2 e
          omega
      · split at h
        · rename_i q hq
          have := cut_len hq
          cases e : exL n q with
          | none => rw [e] at h; cases h
          | some y =>
            obtain ⟨y, q2⟩ := y
            rw [e] at h
            injection h with h; injection h with _ h
            obtain rfl : q2 = r := h
            have := exL_len n q y q2 e
            omega
        · unfold atomL at h
          split at h
          · cases h
          · rename_i a q hq
            split at h
            · cases h
            · rename_i q2 hq2
              have h1 := cut_len hq2
              have h0 : q.length < l.length := by
                cases l with
                | nil => cases hq
                | cons c l =>
                  have hq' : (if 97 ≤ c.toNat ∧ c.toNat ≤ 100 then some ((c.toNat : Int) - 97, l) else none) = some (a, q) := hq
                  split at hq'
                  · injection hq' with hq'; injection hq' with _ hq'; rw [← hq']; simp
                  · cases hq'
              cases e : setL q2 with
              | none => rw [e] at h; cases h
              | some y =>
                rw [e] at h
                injection h with h; injection h with _ h
                obtain rfl : y.2 = r := h
                have := setL_len (S := y.1) (r := y.2) e
                omega
set_option maxHeartbeats 1000000 in
set_option maxRecDepth 100000 in
theorem list1_item (n b gL gr N : Nat) (IH : ExprOr n b N) (w0 : World) (h60 : 6 ≤ w0.heap.size) (ge_gL : w0.heap.size ≤ gL) (hbL : b < gL) (w : World) (acc : List ExV) (l : List UInt8) (HI : IL n b gL gr w0 w acc l) (H : Rdr w b l) (hln : l.length < n) (hN : l.length ≤ N) :
    Calls Tryz.prog 69 #[.pointer (some ⟨gL, 0, none⟩), .pointer (some ⟨gr, 0, none⟩)] w fun e w' => (∃ a' r, subL (exL n) acc l = some (a', r) ∧ r.length < l.length ∧ e = .returned (.tuple #[]) ∧ IL n b gL gr w0 w' a' r ∧ Rdr w' b r) ∨ (subL (exL n) acc l = none ∧ e = .panicked chE ∧ w0.grownBy w' (some b)) := by
  obtain ⟨D, GR, HB, HL, p, c, cs, GL, RE, hcs, EL⟩ := HI
  have w6 : 6 ≤ w0.heap.size := h60
  have n_b_gL : b ≠ gL := ne_rd H.rd GL (by decide)
  have n_b_gr : b ≠ gr := ne_rd H.rd GR (by decide)
  have n_gr_gL : gr ≠ gL := ne_type GR GL (by decide)
  have six_gL : 6 ≤ gL := Nat.le_trans h60 ge_gL
  have h0 : w0.heap.size ≤ gL + 1 := Nat.le_succ_of_le ge_gL
  have h6 : 6 ≤ gL + 1 := Nat.le_succ_of_le six_gL
  go_enter Tryz.func69, Tryz.ntmps69
  refine wp_region_late (S := fun w' => w'.heap[gL]? = some (.cells #[.slice p cs.length c] 27 (0, 0)) ∧ w'.heap[gr]? = some (.cells #[.pointer (some ⟨b, 0, none⟩)] 57 (0, 0))) (late := fun j => [7, 8].contains j) (by kernel_rfl) ?_
  have kb : Below w.heap.size w w.drew := (Below.refl _ w).drew
  replace D := grown_below D kb
  replace RE := ownsRow_on RE kb
  replace H := H.on kb
  replace GL := heap_on GL kb
  replace GR := heap_on GR kb
  replace EL := EL.on kb
  replace HB := Nat.le_trans HB kb.size
  clear kb
  generalize w.drew = v1 at D H GL GR EL HB RE ⊢
  refine wpAnyL_load (i := 0) (oi := ⟨_, _, _, _, _, _⟩) (v := .slice p cs.length c) rfl (by kernel_rfl) (by kernel_rfl) (by kernel_rfl) (by kernel_rfl) (fun _ _ _ h => h) (yt_ldLx (by rfl) _ rfl _ _ rfl p cs.length c (fun _ h => cell_heap h.1 0)) ⟨GL, GR⟩ ?_
  simp only [Act.put, lzA, lzB, lzC]
  refine wpAnyL_load (i := 1) (oi := ⟨_, _, _, _, _, _⟩) (v := .pointer (some ⟨b, 0, none⟩)) rfl (by kernel_rfl) (by kernel_rfl) (by kernel_rfl) (by kernel_rfl) (fun _ _ _ h => h) (yt_ldPr (by rfl) _ rfl _ _ rfl _ (fun _ h => cell_heap h.2 0)) ⟨GL, GR⟩ ?_
  simp only [Act.put, lzA, lzB, lzC]
  refine wpAnyL_pure (i := 3) (oi := ⟨_, _, _, _, _, _⟩) (v := .int .i64 (cs.length : Nat)) rfl (by kernel_rfl) (by kernel_rfl) (by kernel_rfl) (fun _ _ _ h => h) (yt_lenX (by rfl) _ rfl _ _ _ rfl) ?_
  simp only [Act.put, lzA, lzB, lzC]
  refine wpAnyL_all (rs := [2, 4]) (by kernel_rfl) (by simp) ?_
  intro j hj
  simp only [List.mem_cons, List.not_mem_nil, or_false] at hj
  rcases hj with rfl | rfl
  · refine ot_call (o := ⟨_, _, _, _, _, _⟩) rfl (by rfl) 18 _ _ rfl #[.pointer (some ⟨b, 0, none⟩)] rfl (run_call Tryz.func18 (by kernel_rfl) (by kernel_rfl)) ?_
    refine (IH l _ H hln hN).mono ?_
    rintro r v2 (⟨x, r2, d, hx, rfl, hk, hr, kg⟩ | ⟨hx, rfl, kg⟩)
    · have NE : NewE n v2 (gL + 1) (.slice p cs.length c) d x := ⟨v1.heap.size, v2, HB, Kept.refl _ _, (fun g hg => Or.inl (World.ownsRow.lt RE g hg).2), hk⟩
      clear hk
      replace RE := H.row RE kg (by decide)
      replace H := H.grown kg hr
      clear hr
      replace D := grown_trans D kg
      replace GL := heap_gr GL kg (Ne.symm n_b_gL)
      replace GR := heap_gr GR kg (Ne.symm n_b_gr)
      replace EL := EL.lt kg (by omega)
      replace HB := Nat.le_trans HB kg.size
      clear kg
      refine Or.inl ⟨EC.val d, rfl, ⟨fun _ _ => ⟨GL, GR⟩, ?_⟩⟩
      simp only [Act.put, lzA, lzB, lzC]
      refine wpAnyL_all (rs := [4]) (by kernel_rfl) (by simp) ?_
      intro j hj
      have hj := List.mem_singleton.1 hj
      subst hj
      refine ot_row1E (o := ⟨_, _, _, _, _, _⟩) rfl (by rfl) _ rfl ec0 rfl (fun v3 g3 hg G3 kb => ?_)
      have n_b_g3 : b ≠ g3 := by have := H.lt; omega
      have n_gL_g3 : gL ≠ g3 := by have := lt_heap GL; omega
      have n_gr_g3 : gr ≠ g3 := by have := lt_heap GR; omega
      have ge_g3 : w0.heap.size ≤ g3 := Nat.le_trans D.size hg
      have six_g3 : 6 ≤ g3 := Nat.le_trans w6 ge_g3
      clear hg
      replace D := grown_below D kb
      replace RE := ownsRow_on RE kb
      replace H := H.on kb
      replace GL := heap_on GL kb
      replace GR := heap_on GR kb
      replace EL := EL.on kb
      replace HB := Nat.le_trans HB kb.size
      replace NE := NE.on kb
      clear kb
      refine ⟨fun _ _ => ⟨GL, GR⟩, ?_⟩
      simp only [Act.put, lzA, lzB, lzC]
      refine wpAnyL_all (rs := [5]) (by kernel_rfl) (by simp) ?_
      intro j hj
      have hj := List.mem_singleton.1 hj
      subst hj
      refine ot_appE (o := ⟨_, _, _, _, _, _⟩) rfl (by rfl) _ _ rfl (gL + 1) _ cs rfl RE _ ec0 rfl G3 ((by omega)) (HB) (fun v4' v4 hrow kg hown => ?_)
      clear G3
      replace H := H.gro RE kg h6 (by decide)
      replace GL := heap_gro GL kg (own_ne RE GL (by decide))
      replace GR := heap_gro GR kg (own_ne RE GR (by decide))
      replace EL := EL.app kg hown
      replace HB := Nat.le_trans HB kg.size
      replace NE := NE.app kg hown
      replace D := gr_own D (fun g hg => Nat.le_trans h0 (World.ownsRow.lt RE g hg).1) kg
      clear kg hown
      replace RE := hrow
      clear hrow
      obtain ⟨go, co, rfl, hgo⟩ := rowE_some RE
      refine ⟨fun _ _ => ⟨GL, GR⟩, ?_⟩
      simp only [Act.put, lzA, lzB, lzC]
      refine wpAnyL_pure (i := 6) (oi := ⟨_, _, _, _, _, _⟩) (v := .pointer (some ⟨go, cs.length * 7, none⟩)) rfl (by kernel_rfl) (by kernel_rfl) (by kernel_rfl) (fun _ _ _ h => h) (yt_exAt (by rfl) _ _ rfl go _ _ cs.length rfl rfl (by simp)) ?_
      simp only [Act.put, lzA, lzB, lzC]
      refine wpAnyL_all (rs := [7, 8]) (by kernel_rfl) (by simp) ?_
      intro j hj
      simp only [List.mem_cons, List.not_mem_nil, or_false] at hj
      rcases hj with rfl | rfl
      · obtain ⟨hth, hrw, kg⟩ := rowE_put (d := d) RE
        refine ot_putE (o := ⟨_, _, _, _, _, _⟩) rfl (by rfl) _ _ rfl go (cs.length * 7) d rfl rfl hth ?_
        generalize v4.setCells go (cs.length * 7) d.list = v5 at hrw kg ⊢
        replace H := Rdr.gro H RE kg h6 (by decide)
        replace GL := heap_gro GL kg (own_ne RE GL (by decide))
        replace GR := heap_gro GR kg (own_ne RE GR (by decide))
        replace EL := EL.own rfl kg
        replace HB := Nat.le_trans HB kg.size
        replace NE := NE.own rfl kg
        replace D := gr_own D (fun g hg => Nat.le_trans h0 (World.ownsRow.lt RE g hg).1) (r' := some go) kg
        replace RE := hrw
        clear hth hrw kg
        refine ⟨fun h => absurd h (by decide), ?_⟩
        simp only [Act.put, lzA, lzB, lzC]
        refine wpAnyL_all (rs := [8]) (by kernel_rfl) (by simp) ?_
        intro j hj
        have hj := List.mem_singleton.1 hj
        subst hj
        refine ot_putL (o := ⟨_, _, _, _, _, _⟩) rfl (by rfl) _ (Or.inr (Or.inr rfl)) _ _ rfl _ 0 rfl ((some ⟨go, 0, none⟩)) ((cs ++ [ec0]).length) co rfl GL (by simp) (fun v6 X kg => ?_)
        replace RE := row_gr_heap RE kg GL (by decide)
        replace D := gr_new D ge_gL kg
        replace H := H.gr kg n_b_gL six_gL
        replace GR := heap_gr GR kg n_gr_gL
        replace EL := EL.lt kg (by omega)
        replace HB := Nat.le_trans HB kg.size
        replace NE := NE.lt kg (by omega)
        clear kg
        replace GL : v6.heap[gL]? = some (.cells #[.slice ((some ⟨go, 0, none⟩)) ((cs ++ [ec0]).length) co] 27 (0, 0)) := X
        clear X
        refine ⟨fun h => absurd h (by decide), ?_⟩
        simp only [Act.put, lzA, lzB, lzC]
        refine wpAnyL_done (by kernel_rfl) ?_ _
        go_end0
        have hl3 := exL_len _ _ _ _ hx
        refine Or.inl ⟨acc ++ [x], r2, by unfold subL; rw [hx]; rfl, hl3, rfl, ⟨D, GR, HB, by simp; omega, some ⟨go, 0, none⟩, co, cs ++ [d], ?_, RE, by simp; omega, ?_⟩, H⟩
        · rw [List.length_append, List.length_cons, List.length_nil] at GL ⊢
          exact GL
        · have EL2 := EL.snoc hcs NE
          rw [List.length_append, List.length_cons, List.length_nil] at EL2 ⊢
          exact EL2
      · refine ot_putL (o := ⟨_, _, _, _, _, _⟩) rfl (by rfl) _ (Or.inr (Or.inr rfl)) _ _ rfl _ 0 rfl ((some ⟨go, 0, none⟩)) ((cs ++ [ec0]).length) co rfl GL (by simp) (fun v5 X kg => ?_)
        replace RE := row_gr_heap RE kg GL (by decide)
        replace D := gr_new D ge_gL kg
        replace H := H.gr kg n_b_gL six_gL
        replace GR := heap_gr GR kg n_gr_gL
        replace EL := EL.lt kg (by omega)
        replace HB := Nat.le_trans HB kg.size
        replace NE := NE.lt kg (by omega)
        clear kg
        replace GL : v5.heap[gL]? = some (.cells #[.slice ((some ⟨go, 0, none⟩)) ((cs ++ [ec0]).length) co] 27 (0, 0)) := X
        clear X
        refine ⟨fun h => absurd h (by decide), ?_⟩
        simp only [Act.put, lzA, lzB, lzC]
        refine wpAnyL_all (rs := [7]) (by kernel_rfl) (by simp) ?_
        intro j hj
        have hj := List.mem_singleton.1 hj
        subst hj
        obtain ⟨hth, hrw, kg⟩ := rowE_put (d := d) RE
        refine ot_putE (o := ⟨_, _, _, _, _, _⟩) rfl (by rfl) _ _ rfl go (cs.length * 7) d rfl rfl hth ?_
        generalize v5.setCells go (cs.length * 7) d.list = v6 at hrw kg ⊢
        replace H := Rdr.gro H RE kg h6 (by decide)
        replace GL := heap_gro GL kg (own_ne RE GL (by decide))
        replace GR := heap_gro GR kg (own_ne RE GR (by decide))
        replace EL := EL.own rfl kg
        replace HB := Nat.le_trans HB kg.size
        replace NE := NE.own rfl kg
        replace D := gr_own D (fun g hg => Nat.le_trans h0 (World.ownsRow.lt RE g hg).1) (r' := some go) kg
        replace RE := hrw
        clear hth hrw kg
        refine ⟨fun h => absurd h (by decide), ?_⟩
        simp only [Act.put, lzA, lzB, lzC]
        refine wpAnyL_done (by kernel_rfl) ?_ _
        go_end0
        have hl3 := exL_len _ _ _ _ hx
        refine Or.inl ⟨acc ++ [x], r2, by unfold subL; rw [hx]; rfl, hl3, rfl, ⟨D, GR, HB, by simp; omega, some ⟨go, 0, none⟩, co, cs ++ [d], ?_, RE, by simp; omega, ?_⟩, H⟩
        · rw [List.length_append, List.length_cons, List.length_nil] at GL ⊢
          exact GL
        · have EL2 := EL.snoc hcs NE
          rw [List.length_append, List.length_cons, List.length_nil] at EL2 ⊢
          exact EL2
    · replace D := grown_trans D kg
      refine Or.inr ⟨_, rfl, ?_⟩
      exact ⟨rfl, Or.inr ⟨by unfold subL; rw [hx]; rfl, rfl, D⟩⟩
  · refine ot_row1E (o := ⟨_, _, _, _, _, _⟩) rfl (by rfl) _ rfl ec0 rfl (fun v2 g2 hg G2 kb => ?_)
    have n_b_g2 : b ≠ g2 := by have := H.lt; omega
    have n_gL_g2 : gL ≠ g2 := by have := lt_heap GL; omega
    have n_gr_g2 : gr ≠ g2 := by have := lt_heap GR; omega
    have ge_g2 : w0.heap.size ≤ g2 := Nat.le_trans D.size hg
    have six_g2 : 6 ≤ g2 := Nat.le_trans w6 ge_g2
    clear hg
    replace D := grown_below D kb
    replace RE := ownsRow_on RE kb
    replace H := H.on kb
    replace GL := heap_on GL kb
    replace GR := heap_on GR kb
    replace EL := EL.on kb
    replace HB := Nat.le_trans HB kb.size
    clear kb
    refine ⟨fun _ _ => ⟨GL, GR⟩, ?_⟩
    simp only [Act.put, lzA, lzB, lzC]
    refine wpAnyL_all (rs := [2]) (by kernel_rfl) (by simp) ?_
    intro j hj
    have hj := List.mem_singleton.1 hj
    subst hj
    refine ot_call (o := ⟨_, _, _, _, _, _⟩) rfl (by rfl) 18 _ _ rfl #[.pointer (some ⟨b, 0, none⟩)] rfl (run_call Tryz.func18 (by kernel_rfl) (by kernel_rfl)) ?_
    refine (IH l _ H hln hN).mono ?_
    rintro r v3 (⟨x, r2, d, hx, rfl, hk, hr, kg⟩ | ⟨hx, rfl, kg⟩)
    · have NE : NewE n v3 (gL + 1) (.slice p cs.length c) d x := ⟨v2.heap.size, v3, HB, Kept.refl _ _, (fun g hg => Or.inl (World.ownsRow.lt RE g hg).2), hk⟩
      clear hk
      replace RE := H.row RE kg (by decide)
      replace H := H.grown kg hr
      clear hr
      replace D := grown_trans D kg
      replace GL := heap_gr GL kg (Ne.symm n_b_gL)
      replace GR := heap_gr GR kg (Ne.symm n_b_gr)
      replace EL := EL.lt kg (by omega)
      replace HB := Nat.le_trans HB kg.size
      replace G2 := heap_gr G2 kg (Ne.symm n_b_g2)
      clear kg
      refine Or.inl ⟨EC.val d, rfl, ⟨fun _ _ => ⟨GL, GR⟩, ?_⟩⟩
      simp only [Act.put, lzA, lzB, lzC]
      refine wpAnyL_all (rs := [5]) (by kernel_rfl) (by simp) ?_
      intro j hj
      have hj := List.mem_singleton.1 hj
      subst hj
      refine ot_appE (o := ⟨_, _, _, _, _, _⟩) rfl (by rfl) _ _ rfl (gL + 1) _ cs rfl RE _ ec0 rfl G2 ((by omega)) (HB) (fun v4' v4 hrow kg hown => ?_)
      clear G2
      replace H := H.gro RE kg h6 (by decide)
      replace GL := heap_gro GL kg (own_ne RE GL (by decide))
      replace GR := heap_gro GR kg (own_ne RE GR (by decide))
      replace EL := EL.app kg hown
      replace HB := Nat.le_trans HB kg.size
      replace NE := NE.app kg hown
      replace D := gr_own D (fun g hg => Nat.le_trans h0 (World.ownsRow.lt RE g hg).1) kg
      clear kg hown
      replace RE := hrow
      clear hrow
      obtain ⟨go, co, rfl, hgo⟩ := rowE_some RE
      refine ⟨fun _ _ => ⟨GL, GR⟩, ?_⟩
      simp only [Act.put, lzA, lzB, lzC]
      refine wpAnyL_pure (i := 6) (oi := ⟨_, _, _, _, _, _⟩) (v := .pointer (some ⟨go, cs.length * 7, none⟩)) rfl (by kernel_rfl) (by kernel_rfl) (by kernel_rfl) (fun _ _ _ h => h) (yt_exAt (by rfl) _ _ rfl go _ _ cs.length rfl rfl (by simp)) ?_
      simp only [Act.put, lzA, lzB, lzC]
      refine wpAnyL_all (rs := [7, 8]) (by kernel_rfl) (by simp) ?_
      intro j hj
      simp only [List.mem_cons, List.not_mem_nil, or_false] at hj
      rcases hj with rfl | rfl
      · obtain ⟨hth, hrw, kg⟩ := rowE_put (d := d) RE
        refine ot_putE (o := ⟨_, _, _, _, _, _⟩) rfl (by rfl) _ _ rfl go (cs.length * 7) d rfl rfl hth ?_
        generalize v4.setCells go (cs.length * 7) d.list = v5 at hrw kg ⊢
        replace H := Rdr.gro H RE kg h6 (by decide)
        replace GL := heap_gro GL kg (own_ne RE GL (by decide))
        replace GR := heap_gro GR kg (own_ne RE GR (by decide))
        replace EL := EL.own rfl kg
        replace HB := Nat.le_trans HB kg.size
        replace NE := NE.own rfl kg
        replace D := gr_own D (fun g hg => Nat.le_trans h0 (World.ownsRow.lt RE g hg).1) (r' := some go) kg
        replace RE := hrw
        clear hth hrw kg
        refine ⟨fun h => absurd h (by decide), ?_⟩
        simp only [Act.put, lzA, lzB, lzC]
        refine wpAnyL_all (rs := [8]) (by kernel_rfl) (by simp) ?_
        intro j hj
        have hj := List.mem_singleton.1 hj
        subst hj
        refine ot_putL (o := ⟨_, _, _, _, _, _⟩) rfl (by rfl) _ (Or.inr (Or.inr rfl)) _ _ rfl _ 0 rfl ((some ⟨go, 0, none⟩)) ((cs ++ [ec0]).length) co rfl GL (by simp) (fun v6 X kg => ?_)
        replace RE := row_gr_heap RE kg GL (by decide)
        replace D := gr_new D ge_gL kg
        replace H := H.gr kg n_b_gL six_gL
        replace GR := heap_gr GR kg n_gr_gL
        replace EL := EL.lt kg (by omega)
        replace HB := Nat.le_trans HB kg.size
        replace NE := NE.lt kg (by omega)
        clear kg
        replace GL : v6.heap[gL]? = some (.cells #[.slice ((some ⟨go, 0, none⟩)) ((cs ++ [ec0]).length) co] 27 (0, 0)) := X
        clear X
        refine ⟨fun h => absurd h (by decide), ?_⟩
        simp only [Act.put, lzA, lzB, lzC]
        refine wpAnyL_done (by kernel_rfl) ?_ _
        go_end0
        have hl3 := exL_len _ _ _ _ hx
        refine Or.inl ⟨acc ++ [x], r2, by unfold subL; rw [hx]; rfl, hl3, rfl, ⟨D, GR, HB, by simp; omega, some ⟨go, 0, none⟩, co, cs ++ [d], ?_, RE, by simp; omega, ?_⟩, H⟩
        · rw [List.length_append, List.length_cons, List.length_nil] at GL ⊢
          exact GL
        · have EL2 := EL.snoc hcs NE
          rw [List.length_append, List.length_cons, List.length_nil] at EL2 ⊢
          exact EL2
      · refine ot_putL (o := ⟨_, _, _, _, _, _⟩) rfl (by rfl) _ (Or.inr (Or.inr rfl)) _ _ rfl _ 0 rfl ((some ⟨go, 0, none⟩)) ((cs ++ [ec0]).length) co rfl GL (by simp) (fun v5 X kg => ?_)
        replace RE := row_gr_heap RE kg GL (by decide)
        replace D := gr_new D ge_gL kg
        replace H := H.gr kg n_b_gL six_gL
        replace GR := heap_gr GR kg n_gr_gL
        replace EL := EL.lt kg (by omega)
        replace HB := Nat.le_trans HB kg.size
        replace NE := NE.lt kg (by omega)
        clear kg
        replace GL : v5.heap[gL]? = some (.cells #[.slice ((some ⟨go, 0, none⟩)) ((cs ++ [ec0]).length) co] 27 (0, 0)) := X
        clear X
        refine ⟨fun h => absurd h (by decide), ?_⟩
        simp only [Act.put, lzA, lzB, lzC]
        refine wpAnyL_all (rs := [7]) (by kernel_rfl) (by simp) ?_
        intro j hj
        have hj := List.mem_singleton.1 hj
        subst hj
        obtain ⟨hth, hrw, kg⟩ := rowE_put (d := d) RE
        refine ot_putE (o := ⟨_, _, _, _, _, _⟩) rfl (by rfl) _ _ rfl go (cs.length * 7) d rfl rfl hth ?_
        generalize v5.setCells go (cs.length * 7) d.list = v6 at hrw kg ⊢
        replace H := Rdr.gro H RE kg h6 (by decide)
        replace GL := heap_gro GL kg (own_ne RE GL (by decide))
        replace GR := heap_gro GR kg (own_ne RE GR (by decide))
        replace EL := EL.own rfl kg
        replace HB := Nat.le_trans HB kg.size
        replace NE := NE.own rfl kg
        replace D := gr_own D (fun g hg => Nat.le_trans h0 (World.ownsRow.lt RE g hg).1) (r' := some go) kg
        replace RE := hrw
        clear hth hrw kg
        refine ⟨fun h => absurd h (by decide), ?_⟩
        simp only [Act.put, lzA, lzB, lzC]
        refine wpAnyL_done (by kernel_rfl) ?_ _
        go_end0
        have hl3 := exL_len _ _ _ _ hx
        refine Or.inl ⟨acc ++ [x], r2, by unfold subL; rw [hx]; rfl, hl3, rfl, ⟨D, GR, HB, by simp; omega, some ⟨go, 0, none⟩, co, cs ++ [d], ?_, RE, by simp; omega, ?_⟩, H⟩
        · rw [List.length_append, List.length_cons, List.length_nil] at GL ⊢
          exact GL
        · have EL2 := EL.snoc hcs NE
          rw [List.length_append, List.length_cons, List.length_nil] at EL2 ⊢
          exact EL2
    · replace D := grown_trans D kg
      refine Or.inr ⟨_, rfl, ?_⟩
      exact ⟨rfl, Or.inr ⟨by unfold subL; rw [hx]; rfl, rfl, D⟩⟩
end Go.Proofs.YtlmdcaemjaldfaaGreatDoor
namespace Go.Proofs.YtlmdcaemjaldfaaGreatDoor
open Go.RowKit
theorem flat7 : ∀ (cs : List EC) (j : Nat) (_ : j < 7) (i : Nat) (d : EC), cs[i]? = some d → (exCells1 cs)[i * 7 + j]? = d.list[j]?
  | [], _, _, _, _, h => by cases h
  | c :: cs, j, hj, 0, d, h => by
    rw [List.getElem?_cons_zero] at h
    injection h with h
    subst h
    unfold exCells1
    rw [List.flatMap_cons, List.getElem?_append_left (by rw [EC.list_len]; omega)]
    congr 1
    omega
  | c :: cs, j, hj, i + 1, d, h => by
    have ih := flat7 cs j hj i d (by simpa using h)
    unfold exCells1 at ih ⊢
    rw [List.flatMap_cons, List.getElem?_append_right (by rw [EC.list_len]; omega), EC.list_len, ← ih]
    congr 1
    omega
def Lives (m : Nat) (W : World) (P : World → Prop) : Prop := ∀ w'', Kept m W w'' → P w''
theorem Lives.on {m : Nat} {W W' : World} {P : World → Prop} (h : Lives m W P) (k : Below W.heap.size W W') : Lives m W' P := fun w'' hk => h w'' (Kept.trans ⟨k.size, fun i _ hi => k.block i hi⟩ hk)
theorem Lives.lt {m g : Nat} {W W' : World} {P : World → Prop} (h : Lives m W P) (k : W.grownBy W' (some g)) (hg : g < m) : Lives m W' P := fun w'' hk => h w'' (Kept.trans (kept_gr (Kept.refl _ _) k (Or.inl hg)) hk)
theorem Lives.back {m m' : Nat} {W : World} {P : World → Prop} (h : Lives m W P) (hm : m' ≤ m) : Lives m' W P := fun w'' hk => h w'' (hk.mono hm)
def RwX (n : Nat) (p : Option Addr) (len c : Nat) (xs : List ExV) (w : World) : Prop :=
  len = xs.length ∧ len ≤ c ∧ c ≤ 9223372036854775807 ∧ (p = none → len = 0 ∧ c = 0) ∧ ∀ i, i < xs.length → ∃ (g off : Nat) (d : EC), p = some ⟨g, off, none⟩ ∧ g < w.heap.size ∧ EcAt w g (off + i * 7) d ∧ ExAt n w d.val (xs.getD i noX)
theorem rwX_own {n : Nat} {w : World} {B : Nat} {p : Option Addr} {c : Nat} {cs : List EC} {xs : List ExV} (hR : RowE w B (.slice p cs.length c) cs) (hl : cs.length = xs.length) (hE : ∀ i, i < xs.length → ExAt n w (cs.getD i ec0).val (xs.getD i noX)) : RwX n p cs.length c xs w := by
  obtain ⟨p', c', e, h1, h2, h3⟩ := ownsRow_form hR
  injection e with e1 e2 e3
  subst e1 e3
  refine ⟨hl, h1, by unfold maxLen at h2; omega, h3, fun i hi => ?_⟩
  have hi2 : i < cs.length := by omega
  cases p with
  | none => have := (h3 rfl).1; omega
  | some a =>
    obtain ⟨g, cur, e, _, hg⟩ := ownsRow_at hR
    subst e
    refine ⟨g, 0, cs.getD i ec0, rfl, lt_heap hg, ?_, hE i hi⟩
    refine EcAt.ofRange fun j u hu => ?_
    rw [Nat.zero_add]
    refine ownsRow_cell hR (i * 7 + j) u ?_
    have hj : j < 7 := by have := (List.getElem?_eq_some_iff.1 hu).1; rw [EC.list_len] at this; exact this
    have := flat7 cs j hj i (cs.getD i ec0) (by rw [List.getD_eq_getElem?_getD, List.getElem?_eq_getElem hi2]; rfl)
    exact this.trans hu
theorem rw_lives {n m B : Nat} {W : World} {p : Option Addr} {c : Nat} {cs : List EC} {xs : List ExV} (hR : RowE W B (.slice p cs.length c) cs) (hE : ElsK n W B (.slice p cs.length c) cs xs) (hl : cs.length = xs.length) (hm : m ≤ B) : Lives m W (RwX n p cs.length c xs) := by
  intro w'' hk
  refine rwX_own (own_kept hR hk hm) hl fun i hi => ?_
  obtain ⟨m', V, h1, h2, _, h4⟩ := hE.2 i hi
  exact h4 w'' (h2.trans (hk.mono (by omega)))
theorem exAt_row {n : Nat} {w : World} {p : Option Addr} {len c : Nat} {xs : List ExV} (kind : Int) (k0 : -9223372036854775808 ≤ kind) (k1 : kind ≤ 9223372036854775807) (h : RwX n p len c xs w) : ExAt (n + 1) w (EC.val ⟨kind, 0, SC.zero, p, len, c⟩) ⟨kind, 0, noSet, xs⟩ := by
  obtain ⟨rfl, h1, h2, h3, h4⟩ := h
  exact ⟨⟨kind, 0, SC.zero, p, xs.length, c⟩, rfl, ⟨rfl, rfl, rfl, k0, k1, by simp, by simp, noSet_at w, h1, h2, h3⟩, h4⟩
theorem exAt_one {n : Nat} {w : World} {g : Nat} {d : EC} {x : ExV} (hg : w.heap[g]? = some (exObj d)) (hx : ExAt n w d.val x) : ExAt (n + 1) w (EC.val ⟨4, 0, SC.zero, some ⟨g, 0, none⟩, 1, 1⟩) (notX x) := by
  refine exAt_row 4 (by decide) (by decide) ⟨rfl, Nat.le_refl _, by decide, (fun e => by cases e), fun i hi => ⟨g, 0, d, rfl, lt_heap hg, ?_, ?_⟩⟩
  · have : i = 0 := by simp at hi; exact hi
    subst this
    exact ExIn.ec hg
  · have : i = 0 := by simp at hi; exact hi
    subst this
    exact hx
theorem exAt_atom {n : Nat} {w : World} {a : Int} {s : SC} {S : SetV} (h : SetAt w s.val S) (a0 : -9223372036854775808 ≤ a) (a1 : a ≤ 9223372036854775807) : ExAt (n + 1) w (EC.val ⟨1, a, s, none, 0, 0⟩) (atomX a S) :=
  ⟨⟨1, a, s, none, 0, 0⟩, rfl, ⟨rfl, rfl, rfl, (by show (-9223372036854775808 : Int) ≤ 1; decide), (by show (1 : Int) ≤ 9223372036854775807; decide), a0, a1, h, Nat.le_refl _, Nat.zero_le _, fun _ => ⟨rfl, rfl⟩⟩, fun i hi => by cases hi⟩
section
variable {ops : Array Oper} {S : World → Prop} {o : Oper} {a : Act}
set_option maxRecDepth 100000 in
theorem yt_buildRow (hw : Region.wanted o (yielded ops a.tmps) = true) (x y : Operand) (ho : o.op = .build 29 #[(0, x), (3, y)]) (k : Int) (p : Option Addr) (n c : Nat) (hx : a.eval x = .int .i64 k) (hy : a.eval y = .slice p n c) : YieldsIf Tryz.prog ops S o (EC.val ⟨k, 0, SC.zero, p, n, c⟩) a :=
  Or.inl ⟨hw, fun w _ => by
    simp only [execOp, ho, List.map_toArray, List.map_cons, List.map_nil, hx, hy, EC.val, SC.zero]
    go_simp⟩
set_option maxRecDepth 100000 in
theorem yt_buildAtom (hw : Region.wanted o (yielded ops a.tmps) = true) (x y z : Operand) (ho : o.op = .build 29 #[(0, x), (1, y), (2, z)]) (k t : Int) (s : SC) (hx : a.eval x = .int .i64 k) (hy : a.eval y = .int .i64 t) (hz : a.eval z = s.val) : YieldsIf Tryz.prog ops S o (EC.val ⟨k, t, s, none, 0, 0⟩) a :=
  Or.inl ⟨hw, fun w _ => by
    simp only [execOp, ho, List.map_toArray, List.map_cons, List.map_nil, hx, hy, hz, EC.val, SC.val]
    go_simp⟩
end
set_option maxHeartbeats 1000000 in
set_option maxRecDepth 100000 in
theorem list_or (n b N : Nat) (IH : ExprOr n b N) (l : List UInt8) (w : World) (H : Rdr w b l) (hln : l.length ≤ n) (hN : l.length ≤ N) (hN2 : N ≤ 1000000) :
    Calls Tryz.prog 42 #[.pointer (some ⟨b, 0, none⟩)] w fun e w' => (∃ xs r p len c, listL (exL n) l = some (xs, r) ∧ e = .returned (.slice p len c) ∧ Lives w.heap.size w' (RwX n p len c xs) ∧ RdL w' b r ∧ w.grownBy w' (some b)) ∨ (listL (exL n) l = none ∧ e = .panicked chE ∧ w.grownBy w' (some b)) := by
  have w6 : 6 ≤ w.heap.size := H.env.big
  have D : w.grownBy w (some b) := grown_refl _ _
  have Hb := H.rd.lt
  go_enter Tryz.func42, Tryz.ntmps42
  refine wp_seq_k (fun K1 hK1 => ?_)
  refine wp_region_lit ?_
  refine wt_boxPr (o := ⟨_, _, _, _, _, _⟩) (by rfl) _ rfl _ rfl (fun v1 g1 hg G1 kb => ?_)
  simp only [Act.put, lzA, lzB, lzC]
  have n_b_g1 : b ≠ g1 := by have := H.lt; omega
  have ge_g1 : w.heap.size ≤ g1 := Nat.le_trans D.size hg
  have six_g1 : 6 ≤ g1 := Nat.le_trans w6 ge_g1
  clear hg
  replace D := grown_below D kb
  replace H := H.on kb
  clear kb
  replace G1 : v1.heap[g1]? = some (.cells #[.pointer (some ⟨b, 0, none⟩)] 57 (0, 0)) := G1
  refine wl_yield (o := ⟨_, _, _, _, _, _⟩) (.slice none 0 0) (yl_assign (by rfl) _ rfl _ rfl) ?_
  simp only [Act.put, lzA, lzB, lzC]
  refine wpList_nil ?_
  refine hK1 _ _ ?_
  clear hK1 K1
  refine wp_seq_k (fun K2 hK2 => ?_)
  refine wp_region_lit ?_
  refine wt_allocLx (o := ⟨_, _, _, _, _, _⟩) (by rfl) rfl (fun v2 g2 hg G2 kb => ?_)
  simp only [Act.put, lzA, lzB, lzC]
  have n_b_g2 : b ≠ g2 := by have := H.lt; omega
  have n_g1_g2 : g1 ≠ g2 := by have := lt_heap G1; omega
  have ge_g2 : w.heap.size ≤ g2 := Nat.le_trans D.size hg
  have six_g2 : 6 ≤ g2 := Nat.le_trans w6 ge_g2
  clear hg
  replace D := grown_below D kb
  replace H := H.on kb
  replace G1 := heap_on G1 kb
  clear kb
  replace G2 : v2.heap[g2]? = some (.cells #[.slice none 0 0] 27 (0, 0)) := G2
  refine wpList_nil ?_
  refine hK2 _ _ ?_
  clear hK2 K2
  refine wp_seq_k (fun K3 hK3 => ?_)
  refine wp_region_lit ?_
  refine wl_yield (o := ⟨_, _, _, _, _, _⟩) (.pointer (some ⟨b, 0, none⟩)) (yt_ldPr (by rfl) _ rfl _ _ rfl _ (fun _ h => by subst h; exact cell_heap G1 0)) ?_
  simp only [Act.put, lzA, lzB, lzC]
  refine wt_call (o := ⟨_, _, _, _, _, _⟩) (by rfl) 44 _ _ rfl #[.pointer (some ⟨b, 0, none⟩), .string (bs ([40]))] rfl (run_call Tryz.func44 (by kernel_rfl) (by kernel_rfl)) ?_
  refine (need_or b _ _ _ H.rd).mono ?_
  rintro r v3 (⟨nq, nc, rfl, hr, kg⟩ | ⟨nc, rfl, kg⟩)
  · replace H := H.grown kg hr
    clear hr
    replace D := grown_trans D kg
    replace G1 := heap_gr G1 kg (Ne.symm n_b_g1)
    replace G2 := heap_gr G2 kg (Ne.symm n_b_g2)
    clear kg
    refine Or.inl ⟨.tuple #[], rfl, ?_⟩
    simp only [Act.put, lzA, lzB, lzC]
    refine wpList_nil ?_
    refine hK3 _ _ ?_
    clear hK3 K3
    refine wp_seq_k (fun K4 hK4 => ?_)
    refine wp_region_lit ?_
    refine wl_yield (o := ⟨_, _, _, _, _, _⟩) (.pointer (some ⟨b, 0, none⟩)) (yt_ldPr (by rfl) _ rfl _ _ rfl _ (fun _ h => by subst h; exact cell_heap G1 0)) ?_
    simp only [Act.put, lzA, lzB, lzC]
    refine wl_yield (o := ⟨_, _, _, _, _, _⟩) (.func (.func 69) #[] #[.pointer (some ⟨g2, 0, none⟩), .pointer (some ⟨g1, 0, none⟩)]) (yt_fn2 (by rfl) _ _ _ rfl _ _ rfl rfl) ?_
    simp only [Act.put, lzA, lzB, lzC]
    have Q : listL (exL n) l = itemsL 41 (subL (exL n)) (nq.length + 1) true [] nq := by unfold listL; rw [nc]
    have hlq := cut_len nc
    simp only [List.length_cons, List.length_nil] at hlq
    have b_gL : b < g2 := Nat.lt_of_lt_of_le Hb ge_g2
    have HI0 : IL n b g2 g1 w v3 [] nq := ⟨D, G1, lt_heap G2, by show 0 + nq.length ≤ 1000000; omega, none, 0, [], G2, RowE.nil _ _, rfl, ⟨Nat.le_refl _, fun j hj => by cases hj⟩⟩
    refine wt_call (o := ⟨_, _, _, _, _, _⟩) (by rfl) 53 _ _ rfl #[.pointer (some ⟨b, 0, none⟩), .string (bs ([41])), .func (.func 69) #[] #[.pointer (some ⟨g2, 0, none⟩), .pointer (some ⟨g1, 0, none⟩)]] rfl (run_call Tryz.func53 (by kernel_rfl) (by kernel_rfl)) ?_
    refine (items_any b 41 nq.length _ _ (subL (exL n)) (IL n b g2 g1 w) (fun W => w.grownBy W (some b)) (run_call Tryz.func69 (by kernel_rfl) (by kernel_rfl)) (fun W a l h => h.1) (fun W W' a l l' h k hl => h.gr b_gL (Ne.symm n_b_g1) k hl) (fun W a l h H hN2 => list1_item n b g2 g1 N IH w w6 ge_g2 b_gL W a l h H (by omega) (by omega)) (nq.length + 1) [] nq _ (Nat.lt_succ_self _) (Nat.le_refl _) HI0 H).mono ?_
    rintro r v4 (⟨xs, r2, hq, hlt, rfl, HI2, H2⟩ | ⟨hq, rfl, D2⟩)
    · obtain ⟨D2, GR, HB, HL, p, c, cs, GL, RE, hcs, EL⟩ := HI2
      replace D := D2
      replace H := H2
      clear D2 H2
      refine Or.inl ⟨.tuple #[], rfl, ?_⟩
      simp only [Act.put, lzA, lzB, lzC]
      refine wpList_nil ?_
      refine hK4 _ _ ?_
      clear hK4 K4
      refine wp_seq_k (fun K5 hK5 => ?_)
      refine wp_region_lit ?_
      refine wl_yield (o := ⟨_, _, _, _, _, _⟩) (.slice p cs.length c) (yt_ldLx (by rfl) _ rfl _ _ rfl p cs.length c (fun _ h => by subst h; exact cell_heap GL 0)) ?_
      simp only [Act.put, lzA, lzB, lzC]
      refine wl_yield (o := ⟨_, _, _, _, _, _⟩) (.slice p cs.length c) (yl_assign (by rfl) _ rfl _ rfl) ?_
      simp only [Act.put, lzA, lzB, lzC]
      refine wpList_nil ?_
      refine hK5 _ _ ?_
      clear hK5 K5
      refine wp_ret ?_
      go_ret
      exact Or.inl ⟨xs, r2, p, cs.length, c, by rw [Q]; exact hq, rfl, rw_lives RE EL hcs (Nat.le_succ_of_le ge_g2), H.rd, D⟩
    · refine Or.inr ⟨_, rfl, ?_⟩
      exact ⟨rfl, Or.inr ⟨by rw [Q]; exact hq, rfl, D2⟩⟩
  · replace D := grown_trans D kg
    refine Or.inr ⟨_, rfl, ?_⟩
    exact ⟨rfl, Or.inr ⟨by unfold listL; rw [nc], rfl, D⟩⟩
theorem attr_len {l r : List UInt8} {z : Int} (h : attrL l = some (z, r)) : r.length < l.length := by
  cases l with
  | nil => cases h
  | cons c l =>
    have h' : (if 97 ≤ c.toNat ∧ c.toNat ≤ 100 then some ((c.toNat : Int) - 97, l) else none) = some (z, r) := h
    split at h'
    · injection h' with h'; injection h' with _ h'; rw [← h']; simp
    · cases h'
theorem attr_bd {l r : List UInt8} {z : Int} (h : attrL l = some (z, r)) : 0 ≤ z ∧ z ≤ 3 := by
  cases l with
  | nil => cases h
  | cons c l =>
    have h' : (if 97 ≤ c.toNat ∧ c.toNat ≤ 100 then some ((c.toNat : Int) - 97, l) else none) = some (z, r) := h
    split at h'
    · injection h' with h'; injection h' with h' _; omega
    · cases h'
set_option maxHeartbeats 1000000 in
set_option maxRecDepth 100000 in
theorem expr_step (n b N : Nat) (IH : ExprOr n b N) (hN2 : N ≤ 100000) (l : List UInt8) (w : World) (H : Rdr w b l) (hln : l.length < n + 1) (hN : l.length ≤ N) :
    Calls Tryz.prog 18 #[.pointer (some ⟨b, 0, none⟩)] w fun e w' => (∃ x r d, exL (n + 1) l = some (x, r) ∧ e = .returned (EC.val d) ∧ (∀ w'', Kept w.heap.size w' w'' → ExAt (n + 1) w'' d.val x) ∧ RdL w' b r ∧ w.grownBy w' (some b)) ∨ (exL (n + 1) l = none ∧ e = .panicked chE ∧ w.grownBy w' (some b)) := by
  have w6 : 6 ≤ w.heap.size := H.env.big
  have D : w.grownBy w (some b) := grown_refl _ _
  go_enter Tryz.func18, Tryz.ntmps18
  refine wp_seq_k (fun K1 hK1 => ?_)
  refine wp_region_lit ?_
  refine wt_allocEx (o := ⟨_, _, _, _, _, _⟩) (by rfl) rfl (fun v1 g1 hg G1 kb => ?_)
  simp only [Act.put, lzA, lzB, lzC]
  have n_b_g1 : b ≠ g1 := by have := H.lt; omega
  have ge_g1 : w.heap.size ≤ g1 := Nat.le_trans D.size hg
  have six_g1 : 6 ≤ g1 := Nat.le_trans w6 ge_g1
  clear hg
  replace D := grown_below D kb
  replace H := H.on kb
  clear kb
  replace G1 : v1.heap[g1]? = some (.cells #[.int .i64 0, .int .i64 0, .bool false, .slice none 0 0, .bool false, .slice none 0 0, .slice none 0 0] 29 (0, 0)) := G1
  refine wpList_nil ?_
  refine hK1 _ _ ?_
  clear hK1 K1
  refine wp_seq_k (fun K2 hK2 => ?_)
  refine wp_block ?_
  refine wp_seq_k (fun K3 hK3 => ?_)
  refine wp_region_lit ?_
  refine wl_yield (o := ⟨_, _, _, _, _, _⟩) (.pointer (some ⟨b, 0, none⟩)) (yl_move (by rfl) _ rfl _ rfl) ?_
  simp only [Act.put, lzA, lzB, lzC]
  refine wt_call (o := ⟨_, _, _, _, _, _⟩) (by rfl) 41 _ _ rfl #[.pointer (some ⟨b, 0, none⟩), .string (bs ([38]))] rfl (run_call Tryz.func41 (by kernel_rfl) (by kernel_rfl)) ?_
  refine (has_or b _ _ _ H.rd).mono ?_
  rintro r v2 (⟨h1q, h1c, rfl, hr, kg⟩ | ⟨h1c, rfl, hr, kg⟩)
  · replace H := H.grown kg hr
    clear hr
    replace D := grown_trans D kg
    replace G1 := heap_gr G1 kg (Ne.symm n_b_g1)
    clear kg
    refine Or.inl ⟨.bool true, rfl, ?_⟩
    simp only [Act.put, lzA, lzB, lzC]
    refine wl_yield (o := ⟨_, _, _, _, _, _⟩) (.bool true) (yl_assign (by rfl) _ rfl _ rfl) ?_
    simp only [Act.put, lzA, lzB, lzC]
    refine wpList_nil ?_
    refine hK3 _ _ ?_
    clear hK3 K3
    refine wp_cond_true rfl ?_
    refine wp_seq_k (fun K4 hK4 => ?_)
    refine wp_region_lit ?_
    refine wl_yield (o := ⟨_, _, _, _, _, _⟩) (.pointer (some ⟨b, 0, none⟩)) (yl_move (by rfl) _ rfl _ rfl) ?_
    simp only [Act.put, lzA, lzB, lzC]
    refine wt_call (o := ⟨_, _, _, _, _, _⟩) (by rfl) 42 _ _ rfl #[.pointer (some ⟨b, 0, none⟩)] rfl (run_call Tryz.func42 (by kernel_rfl) (by kernel_rfl)) ?_
    refine (list_or n b N IH _ _ H (by have := cut_len h1c; simp at this; omega) (by have := cut_len h1c; omega) (by omega)).mono ?_
    rintro r v3 (⟨xs, r2, p, len, c, hx, rfl, LV, hr, kg⟩ | ⟨hx, rfl, kg⟩)
    · have b_lt : b < v2.heap.size := H.rd.lt
      have lt_g1 : g1 < v2.heap.size := lt_heap G1
      have mm : w.heap.size ≤ v2.heap.size := D.size
      replace H := H.grown kg hr
      clear hr
      replace D := grown_trans D kg
      replace G1 := heap_gr G1 kg (Ne.symm n_b_g1)
      clear kg
      refine Or.inl ⟨.slice p len c, rfl, ?_⟩
      simp only [Act.put, lzA, lzB, lzC]
      refine wl_yield (o := ⟨_, _, _, _, _, _⟩) (.agg #[.int .i64 2, .int .i64 0, .bool false, .slice none 0 0, .bool false, .slice none 0 0, .slice p len c]) (yt_buildRow (by rfl) _ _ rfl 2 p len c rfl rfl) ?_
      simp only [Act.put, lzA, lzB, lzC]
      refine wt_putEx (o := ⟨_, _, _, _, _, _⟩) rfl _ _ rfl _ rfl (⟨2, 0, ⟨false, none, 0, 0, false, none, 0, 0⟩, p, len, c⟩) rfl G1 rfl (fun v4 X kg => ?_)
      simp only [Act.put, lzA, lzB, lzC]
      replace D := gr_new D ge_g1 kg
      replace H := H.gr kg n_b_g1 six_g1
      replace LV := LV.lt kg (by have := lt_g1; omega)
      clear kg
      replace G1 : v4.heap[g1]? = some (.cells #[.int .i64 2, .int .i64 0, .bool false, .slice none 0 0, .bool false, .slice none 0 0, .slice p len c] 29 (0, 0)) := X
      clear X
      refine wpList_nil ?_
      refine hK4 _ _ ?_
      clear hK4 K4
      refine wp_ret ?_
      try simp only [Exit.inBlock, Exit.then]
      refine bodyPost_ret (results_cell_row rfl _ _ g1 29 _ (0, 0) _ rfl G1 Tryz.underlying29 rfl infoEx) rfl (Or.inl ⟨andX xs, r2, ⟨2, 0, ⟨false, none, 0, 0, false, none, 0, 0⟩, p, len, c⟩, by unfold exL; rw [h1c]; dsimp only; rw [hx]; rfl, rfl, fun w'' hk => exAt_row 2 (by decide) (by decide) (LV w'' (hk.mono mm)), H.rd, D⟩)
    · replace D := grown_trans D kg
      refine Or.inr ⟨_, rfl, ?_⟩
      exact ⟨rfl, Or.inr ⟨by unfold exL; rw [h1c]; dsimp only; rw [hx]; rfl, rfl, D⟩⟩
  · replace H := H.grown kg hr
    clear hr
    replace D := grown_trans D kg
    replace G1 := heap_gr G1 kg (Ne.symm n_b_g1)
    clear kg
    refine Or.inl ⟨.bool false, rfl, ?_⟩
    simp only [Act.put, lzA, lzB, lzC]
    refine wl_yield (o := ⟨_, _, _, _, _, _⟩) (.bool false) (yl_assign (by rfl) _ rfl _ rfl) ?_
    simp only [Act.put, lzA, lzB, lzC]
    refine wpList_nil ?_
    refine hK3 _ _ ?_
    clear hK3 K3
    refine wp_cond_false rfl ?_
    refine wp_seq_k (fun K4 hK4 => ?_)
    refine wp_region_lit ?_
    refine wl_yield (o := ⟨_, _, _, _, _, _⟩) (.pointer (some ⟨b, 0, none⟩)) (yl_move (by rfl) _ rfl _ rfl) ?_
    simp only [Act.put, lzA, lzB, lzC]
    refine wt_call (o := ⟨_, _, _, _, _, _⟩) (by rfl) 41 _ _ rfl #[.pointer (some ⟨b, 0, none⟩), .string (bs ([124]))] rfl (run_call Tryz.func41 (by kernel_rfl) (by kernel_rfl)) ?_
    refine (has_or b _ _ _ H.rd).mono ?_
    rintro r v3 (⟨h2q, h2c, rfl, hr, kg⟩ | ⟨h2c, rfl, hr, kg⟩)
    · replace H := H.grown kg hr
      clear hr
      replace D := grown_trans D kg
      replace G1 := heap_gr G1 kg (Ne.symm n_b_g1)
      clear kg
      refine Or.inl ⟨.bool true, rfl, ?_⟩
      simp only [Act.put, lzA, lzB, lzC]
      refine wl_yield (o := ⟨_, _, _, _, _, _⟩) (.bool true) (yl_assign (by rfl) _ rfl _ rfl) ?_
      simp only [Act.put, lzA, lzB, lzC]
      refine wpList_nil ?_
      refine hK4 _ _ ?_
      clear hK4 K4
      refine wp_cond_true rfl ?_
      refine wp_seq_k (fun K5 hK5 => ?_)
      refine wp_region_lit ?_
      refine wl_yield (o := ⟨_, _, _, _, _, _⟩) (.pointer (some ⟨b, 0, none⟩)) (yl_move (by rfl) _ rfl _ rfl) ?_
      simp only [Act.put, lzA, lzB, lzC]
      refine wt_call (o := ⟨_, _, _, _, _, _⟩) (by rfl) 42 _ _ rfl #[.pointer (some ⟨b, 0, none⟩)] rfl (run_call Tryz.func42 (by kernel_rfl) (by kernel_rfl)) ?_
      refine (list_or n b N IH _ _ H (by have := cut_len h2c; simp at this; omega) (by have := cut_len h2c; omega) (by omega)).mono ?_
      rintro r v4 (⟨xs, r2, p, len, c, hx, rfl, LV, hr, kg⟩ | ⟨hx, rfl, kg⟩)
      · have b_lt : b < v3.heap.size := H.rd.lt
        have lt_g1 : g1 < v3.heap.size := lt_heap G1
        have mm : w.heap.size ≤ v3.heap.size := D.size
        replace H := H.grown kg hr
        clear hr
        replace D := grown_trans D kg
        replace G1 := heap_gr G1 kg (Ne.symm n_b_g1)
        clear kg
        refine Or.inl ⟨.slice p len c, rfl, ?_⟩
        simp only [Act.put, lzA, lzB, lzC]
        refine wl_yield (o := ⟨_, _, _, _, _, _⟩) (.agg #[.int .i64 3, .int .i64 0, .bool false, .slice none 0 0, .bool false, .slice none 0 0, .slice p len c]) (yt_buildRow (by rfl) _ _ rfl 3 p len c rfl rfl) ?_
        simp only [Act.put, lzA, lzB, lzC]
        refine wt_putEx (o := ⟨_, _, _, _, _, _⟩) rfl _ _ rfl _ rfl (⟨3, 0, ⟨false, none, 0, 0, false, none, 0, 0⟩, p, len, c⟩) rfl G1 rfl (fun v5 X kg => ?_)
        simp only [Act.put, lzA, lzB, lzC]
        replace D := gr_new D ge_g1 kg
        replace H := H.gr kg n_b_g1 six_g1
        replace LV := LV.lt kg (by have := lt_g1; omega)
        clear kg
        replace G1 : v5.heap[g1]? = some (.cells #[.int .i64 3, .int .i64 0, .bool false, .slice none 0 0, .bool false, .slice none 0 0, .slice p len c] 29 (0, 0)) := X
        clear X
        refine wpList_nil ?_
        refine hK5 _ _ ?_
        clear hK5 K5
        refine wp_ret ?_
        try simp only [Exit.inBlock, Exit.then]
        refine bodyPost_ret (results_cell_row rfl _ _ g1 29 _ (0, 0) _ rfl G1 Tryz.underlying29 rfl infoEx) rfl (Or.inl ⟨orX xs, r2, ⟨3, 0, ⟨false, none, 0, 0, false, none, 0, 0⟩, p, len, c⟩, by unfold exL; rw [h1c]; dsimp only; rw [h2c]; dsimp only; rw [hx]; rfl, rfl, fun w'' hk => exAt_row 3 (by decide) (by decide) (LV w'' (hk.mono mm)), H.rd, D⟩)
      · replace D := grown_trans D kg
        refine Or.inr ⟨_, rfl, ?_⟩
        exact ⟨rfl, Or.inr ⟨by unfold exL; rw [h1c]; dsimp only; rw [h2c]; dsimp only; rw [hx]; rfl, rfl, D⟩⟩
    · replace H := H.grown kg hr
      clear hr
      replace D := grown_trans D kg
      replace G1 := heap_gr G1 kg (Ne.symm n_b_g1)
      clear kg
      refine Or.inl ⟨.bool false, rfl, ?_⟩
      simp only [Act.put, lzA, lzB, lzC]
      refine wl_yield (o := ⟨_, _, _, _, _, _⟩) (.bool false) (yl_assign (by rfl) _ rfl _ rfl) ?_
      simp only [Act.put, lzA, lzB, lzC]
      refine wpList_nil ?_
      refine hK4 _ _ ?_
      clear hK4 K4
      refine wp_cond_false rfl ?_
      refine wp_seq_k (fun K5 hK5 => ?_)
      refine wp_region_lit ?_
      refine wl_yield (o := ⟨_, _, _, _, _, _⟩) (.pointer (some ⟨b, 0, none⟩)) (yl_move (by rfl) _ rfl _ rfl) ?_
      simp only [Act.put, lzA, lzB, lzC]
      refine wt_call (o := ⟨_, _, _, _, _, _⟩) (by rfl) 41 _ _ rfl #[.pointer (some ⟨b, 0, none⟩), .string (bs ([33]))] rfl (run_call Tryz.func41 (by kernel_rfl) (by kernel_rfl)) ?_
      refine (has_or b _ _ _ H.rd).mono ?_
      rintro r v4 (⟨h3q, h3c, rfl, hr, kg⟩ | ⟨h3c, rfl, hr, kg⟩)
      · replace H := H.grown kg hr
        clear hr
        replace D := grown_trans D kg
        replace G1 := heap_gr G1 kg (Ne.symm n_b_g1)
        clear kg
        refine Or.inl ⟨.bool true, rfl, ?_⟩
        simp only [Act.put, lzA, lzB, lzC]
        refine wl_yield (o := ⟨_, _, _, _, _, _⟩) (.bool true) (yl_assign (by rfl) _ rfl _ rfl) ?_
        simp only [Act.put, lzA, lzB, lzC]
        refine wpList_nil ?_
        refine hK5 _ _ ?_
        clear hK5 K5
        refine wp_cond_true rfl ?_
        refine wp_seq_k (fun K6 hK6 => ?_)
        refine wp_region_lit ?_
        refine wl_yield (o := ⟨_, _, _, _, _, _⟩) (.pointer (some ⟨b, 0, none⟩)) (yl_move (by rfl) _ rfl _ rfl) ?_
        simp only [Act.put, lzA, lzB, lzC]
        refine wt_call (o := ⟨_, _, _, _, _, _⟩) (by rfl) 18 _ _ rfl #[.pointer (some ⟨b, 0, none⟩)] rfl (run_call Tryz.func18 (by kernel_rfl) (by kernel_rfl)) ?_
        refine (IH _ _ H (by have := cut_len h3c; simp at this; omega) (by have := cut_len h3c; omega)).mono ?_
        rintro r v5 (⟨x, r2, d, hx, rfl, LV, hr, kg⟩ | ⟨hx, rfl, kg⟩)
        · have b_lt : b < v4.heap.size := H.rd.lt
          have lt_g1 : g1 < v4.heap.size := lt_heap G1
          have mm : w.heap.size ≤ v4.heap.size := D.size
          replace LV : Lives v4.heap.size v5 (fun w'' => ExAt n w'' d.val x) := LV
          replace H := H.grown kg hr
          clear hr
          replace D := grown_trans D kg
          replace G1 := heap_gr G1 kg (Ne.symm n_b_g1)
          clear kg
          refine Or.inl ⟨EC.val d, rfl, ?_⟩
          simp only [Act.put, lzA, lzB, lzC]
          refine wt_row1E (o := ⟨_, _, _, _, _, _⟩) (by rfl) _ rfl d rfl (fun v6 g6 hg G6 kb => ?_)
          have n_b_g6 : b ≠ g6 := by have := H.lt; omega
          have n_g1_g6 : g1 ≠ g6 := by have := lt_heap G1; omega
          have ge_g6 : w.heap.size ≤ g6 := Nat.le_trans D.size hg
          have six_g6 : 6 ≤ g6 := Nat.le_trans w6 ge_g6
          clear hg
          replace D := grown_below D kb
          replace H := H.on kb
          replace G1 := heap_on G1 kb
          replace LV := LV.on kb
          clear kb
          simp only [Act.put, lzA, lzB, lzC]
          refine wl_yield (o := ⟨_, _, _, _, _, _⟩) (.agg #[.int .i64 4, .int .i64 0, .bool false, .slice none 0 0, .bool false, .slice none 0 0, .slice ((some ⟨g6, 0, none⟩)) 1 1]) (yt_buildRow (by rfl) _ _ rfl 4 ((some ⟨g6, 0, none⟩)) 1 1 rfl rfl) ?_
          simp only [Act.put, lzA, lzB, lzC]
          refine wt_putEx (o := ⟨_, _, _, _, _, _⟩) rfl _ _ rfl _ rfl (⟨4, 0, ⟨false, none, 0, 0, false, none, 0, 0⟩, (some ⟨g6, 0, none⟩), 1, 1⟩) rfl G1 rfl (fun v7 X kg => ?_)
          simp only [Act.put, lzA, lzB, lzC]
          replace D := gr_new D ge_g1 kg
          replace H := H.gr kg n_b_g1 six_g1
          replace LV := LV.lt kg (by have := lt_g1; omega)
          replace G6 := heap_gr G6 kg (Ne.symm n_g1_g6)
          clear kg
          replace G1 : v7.heap[g1]? = some (.cells #[.int .i64 4, .int .i64 0, .bool false, .slice none 0 0, .bool false, .slice none 0 0, .slice ((some ⟨g6, 0, none⟩)) 1 1] 29 (0, 0)) := X
          clear X
          refine wpList_nil ?_
          refine hK6 _ _ ?_
          clear hK6 K6
          refine wp_ret ?_
          try simp only [Exit.inBlock, Exit.then]
          refine bodyPost_ret (results_cell_row rfl _ _ g1 29 _ (0, 0) _ rfl G1 Tryz.underlying29 rfl infoEx) rfl (Or.inl ⟨notX x, r2, ⟨4, 0, ⟨false, none, 0, 0, false, none, 0, 0⟩, (some ⟨g6, 0, none⟩), 1, 1⟩, by unfold exL; rw [h1c]; dsimp only; rw [h2c]; dsimp only; rw [h3c]; dsimp only; rw [hx]; rfl, rfl, fun w'' hk => exAt_one ((hk.block g6 (by have := ge_g6; omega) (lt_heap G6)).trans G6) (LV w'' (hk.mono mm)), H.rd, D⟩)
        · replace D := grown_trans D kg
          refine Or.inr ⟨_, rfl, ?_⟩
          exact ⟨rfl, Or.inr ⟨by unfold exL; rw [h1c]; dsimp only; rw [h2c]; dsimp only; rw [h3c]; dsimp only; rw [hx]; rfl, rfl, D⟩⟩
      · replace H := H.grown kg hr
        clear hr
        replace D := grown_trans D kg
        replace G1 := heap_gr G1 kg (Ne.symm n_b_g1)
        clear kg
        refine Or.inl ⟨.bool false, rfl, ?_⟩
        simp only [Act.put, lzA, lzB, lzC]
        refine wl_yield (o := ⟨_, _, _, _, _, _⟩) (.bool false) (yl_assign (by rfl) _ rfl _ rfl) ?_
        simp only [Act.put, lzA, lzB, lzC]
        refine wpList_nil ?_
        refine hK5 _ _ ?_
        clear hK5 K5
        refine wp_cond_false rfl ?_
        refine wp_skip ?_
        refine hK2 _ _ ?_
        clear hK2 K2
        refine wp_seq_k (fun K6 hK6 => ?_)
        refine wp_region_lit ?_
        refine wl_yield (o := ⟨_, _, _, _, _, _⟩) (.pointer (some ⟨b, 0, none⟩)) (yl_move (by rfl) _ rfl _ rfl) ?_
        simp only [Act.put, lzA, lzB, lzC]
        refine wt_call (o := ⟨_, _, _, _, _, _⟩) (by rfl) 43 _ _ rfl #[.pointer (some ⟨b, 0, none⟩)] rfl (run_call Tryz.func43 (by kernel_rfl) (by kernel_rfl)) ?_
        refine (attr_or b _ _ H).mono ?_
        rintro r v5 (⟨z, r1, ha, rfl, hr, kg⟩ | ⟨ha, rfl, kg⟩)
        · replace H := H.grown kg hr
          clear hr
          replace D := grown_trans D kg
          replace G1 := heap_gr G1 kg (Ne.symm n_b_g1)
          clear kg
          refine Or.inl ⟨.int .i64 z, rfl, ?_⟩
          simp only [Act.put, lzA, lzB, lzC]
          refine wl_yield (o := ⟨_, _, _, _, _, _⟩) (.int .i64 z) (yl_assign (by rfl) _ rfl _ rfl) ?_
          simp only [Act.put, lzA, lzB, lzC]
          refine wpList_nil ?_
          refine hK6 _ _ ?_
          clear hK6 K6
          refine wp_seq_k (fun K7 hK7 => ?_)
          refine wp_region_lit ?_
          refine wl_yield (o := ⟨_, _, _, _, _, _⟩) (.pointer (some ⟨b, 0, none⟩)) (yl_move (by rfl) _ rfl _ rfl) ?_
          simp only [Act.put, lzA, lzB, lzC]
          refine wt_call (o := ⟨_, _, _, _, _, _⟩) (by rfl) 44 _ _ rfl #[.pointer (some ⟨b, 0, none⟩), .string (bs ([58]))] rfl (run_call Tryz.func44 (by kernel_rfl) (by kernel_rfl)) ?_
          refine (need_or b _ _ _ H.rd).mono ?_
          rintro r v6 (⟨nq, nc, rfl, hr, kg⟩ | ⟨nc, rfl, kg⟩)
          · replace H := H.grown kg hr
            clear hr
            replace D := grown_trans D kg
            replace G1 := heap_gr G1 kg (Ne.symm n_b_g1)
            clear kg
            refine Or.inl ⟨.tuple #[], rfl, ?_⟩
            simp only [Act.put, lzA, lzB, lzC]
            refine wpList_nil ?_
            refine hK7 _ _ ?_
            clear hK7 K7
            refine wp_seq_k (fun K8 hK8 => ?_)
            refine wp_region_lit ?_
            refine wl_yield (o := ⟨_, _, _, _, _, _⟩) (.int .i64 z) (yl_move (by rfl) _ rfl _ rfl) ?_
            simp only [Act.put, lzA, lzB, lzC]
            refine wl_yield (o := ⟨_, _, _, _, _, _⟩) (.pointer (some ⟨b, 0, none⟩)) (yl_move (by rfl) _ rfl _ rfl) ?_
            simp only [Act.put, lzA, lzB, lzC]
            refine wt_call (o := ⟨_, _, _, _, _, _⟩) (by rfl) 45 _ _ rfl #[.pointer (some ⟨b, 0, none⟩)] rfl (run_call Tryz.func45 (by kernel_rfl) (by kernel_rfl)) ?_
            refine (set_or b _ _ H (by have := attr_len ha; have := cut_len nc; omega)).mono ?_
            rintro r v7 (⟨S, r2, s, hx, rfl, LV, hr, kg⟩ | ⟨hx, rfl, kg⟩)
            · have b_lt : b < v6.heap.size := H.rd.lt
              have lt_g1 : g1 < v6.heap.size := lt_heap G1
              have mm : w.heap.size ≤ v6.heap.size := D.size
              replace LV : Lives v6.heap.size v7 (fun w'' => SetAt w'' s.val S) := LV
              replace H := H.grown kg hr
              clear hr
              replace D := grown_trans D kg
              replace G1 := heap_gr G1 kg (Ne.symm n_b_g1)
              clear kg
              refine Or.inl ⟨SC.val s, rfl, ?_⟩
              simp only [Act.put, lzA, lzB, lzC]
              refine wl_yield (o := ⟨_, _, _, _, _, _⟩) (.agg #[.int .i64 1, .int .i64 z, .bool (s.a), .slice s.p s.n s.c, .bool (s.d), .slice s.q s.m s.e, .slice none 0 0]) (yt_buildAtom (by rfl) _ _ _ rfl 1 z s rfl rfl rfl) ?_
              simp only [Act.put, lzA, lzB, lzC]
              refine wt_putEx (o := ⟨_, _, _, _, _, _⟩) rfl _ _ rfl _ rfl (⟨1, z, ⟨s.a, s.p, s.n, s.c, s.d, s.q, s.m, s.e⟩, none, 0, 0⟩) rfl G1 rfl (fun v8 X kg => ?_)
              simp only [Act.put, lzA, lzB, lzC]
              replace D := gr_new D ge_g1 kg
              replace H := H.gr kg n_b_g1 six_g1
              replace LV := LV.lt kg (by have := lt_g1; omega)
              clear kg
              replace G1 : v8.heap[g1]? = some (.cells #[.int .i64 1, .int .i64 z, .bool (s.a), .slice s.p s.n s.c, .bool (s.d), .slice s.q s.m s.e, .slice none 0 0] 29 (0, 0)) := X
              clear X
              refine wpList_nil ?_
              refine hK8 _ _ ?_
              clear hK8 K8
              refine wp_ret ?_
              try simp only [Exit.inBlock, Exit.then]
              refine bodyPost_ret (results_cell_row rfl _ _ g1 29 _ (0, 0) _ rfl G1 Tryz.underlying29 rfl infoEx) rfl (Or.inl ⟨atomX z S, r2, ⟨1, z, ⟨s.a, s.p, s.n, s.c, s.d, s.q, s.m, s.e⟩, none, 0, 0⟩, by unfold exL; rw [h1c]; dsimp only; rw [h2c]; dsimp only; rw [h3c]; dsimp only; unfold atomL; rw [ha]; dsimp only; rw [nc]; dsimp only; rw [hx]; rfl, rfl, fun w'' hk => exAt_atom (LV w'' (hk.mono mm)) (by have := attr_bd ha; omega) (by have := attr_bd ha; omega), H.rd, D⟩)
            · replace D := grown_trans D kg
              refine Or.inr ⟨_, rfl, ?_⟩
              exact ⟨rfl, Or.inr ⟨by unfold exL; rw [h1c]; dsimp only; rw [h2c]; dsimp only; rw [h3c]; dsimp only; unfold atomL; rw [ha]; dsimp only; rw [nc]; dsimp only; rw [hx]; rfl, rfl, D⟩⟩
          · replace D := grown_trans D kg
            refine Or.inr ⟨_, rfl, ?_⟩
            exact ⟨rfl, Or.inr ⟨by unfold exL; rw [h1c]; dsimp only; rw [h2c]; dsimp only; rw [h3c]; dsimp only; unfold atomL; rw [ha]; dsimp only; rw [nc], rfl, D⟩⟩
        · replace D := grown_trans D kg
          refine Or.inr ⟨_, rfl, ?_⟩
          exact ⟨rfl, Or.inr ⟨by unfold exL; rw [h1c]; dsimp only; rw [h2c]; dsimp only; rw [h3c]; dsimp only; unfold atomL; rw [ha], rfl, D⟩⟩
theorem expr_all (b N : Nat) (hN : N ≤ 100000) : ∀ n, ExprOr n b N
  | 0 => fun l w H h _ => by cases h
  | n + 1 => fun l w H hln hl => expr_step n b N (expr_all b N hN n) hN l w H hln hl
end Go.Proofs.YtlmdcaemjaldfaaGreatDoor
namespace Go.Proofs.YtlmdcaemjaldfaaGreatDoor
open Go.RowKit
def EvV.setAt (e : EvV) (a : Int) (v : Va) : EvV := if a = 0 then { e with v0 := v } else if a = 1 then { e with v1 := v } else if a = 2 then { e with v2 := v } else { e with v3 := v }
def evItemL (e : EvV) (l : List UInt8) : Option (EvV × List UInt8) :=
  match attrL l with
  | none => none
  | some (a, r) =>
    match cut [61] r with
    | none => none
    | some r' =>
      match valL r' with
      | none => none
      | some (v, r2) => some (e.setAt a v, r2)
def evL (l : List UInt8) : Option (EvV × List UInt8) :=
  match cut [123] l with
  | none => none
  | some r => itemsL 125 evItemL (r.length + 1) true evZ r
def vaList (v : Va) : List Value := [.int .i64 v.1, .int .i64 v.2.1, .string v.2.2]
def evCells12 (e : EvV) : List Value := [.int .i64 e.v0.1, .int .i64 e.v0.2.1, .string e.v0.2.2, .int .i64 e.v1.1, .int .i64 e.v1.2.1, .string e.v1.2.2, .int .i64 e.v2.1, .int .i64 e.v2.2.1, .string e.v2.2.2, .int .i64 e.v3.1, .int .i64 e.v3.2.1, .string e.v3.2.2]
theorem put_ev {w : World} {g : Nat} {e : EvV} (h : w.heap[g]? = some (evObj e)) (a : Int) (h0 : 0 ≤ a) (h3 : a ≤ 3) (v : Va) : (w.setCells g (a.toNat * 3) (vaList v)).heap[g]? = some (evObj (e.setAt a v)) ∧ w.grownBy (w.setCells g (a.toNat * 3) (vaList v)) (some g) ∧ w.there g (a.toNat * 3) 3 := by
  have ht : w.there g (a.toNat * 3) 3 := fun j hj => ⟨by
    rw [cell_heap h, Array.getElem?_eq_getElem (by show a.toNat * 3 + j < 12; omega)]; rfl, frozen_heap h _⟩
  have hc : a = 0 ∨ a = 1 ∨ a = 2 ∨ a = 3 := by omega
  have hd : ∀ (pre mid post : List Value), (evCells12 e) = pre ++ (mid ++ post) → mid.length = 3 → (w.setCells g pre.length (vaList v)).heap[g]? = some (.cells (pre ++ ((vaList v) ++ post)).toArray 42 (0, 0)) ∧ w.grownBy (w.setCells g pre.length (vaList v)) (some g) := fun pre mid post e1 e2 =>
    put_mid g _ _ mid pre post w (by rw [← e1]; exact h) e2
  rcases hc with rfl | rfl | rfl | rfl
  · have := hd [] ((evCells12 e).take 3) ((evCells12 e).drop 3) rfl rfl
    exact ⟨this.1, this.2, ht⟩
  · have := hd ((evCells12 e).take 3) (((evCells12 e).drop 3).take 3) ((evCells12 e).drop 6) rfl rfl
    exact ⟨this.1, this.2, ht⟩
  · have := hd ((evCells12 e).take 6) (((evCells12 e).drop 6).take 3) ((evCells12 e).drop 9) rfl rfl
    exact ⟨this.1, this.2, ht⟩
  · have := hd ((evCells12 e).take 9) (((evCells12 e).drop 9).take 3) ((evCells12 e).drop 12) rfl rfl
    exact ⟨this.1, this.2, ht⟩
section
variable {ops : Array Oper} {Q : Exit → Act → World → Prop} {S : World → Prop} {o : Oper} {a : Act}
set_option maxRecDepth 100000 in
theorem yt_atEv (hw : Region.wanted o (yielded ops a.tmps) = true) (x y : Operand) (ho : o.op = .indexAddr 42 x y) (g : Nat) (z : Int) (hx : a.eval x = .pointer (some ⟨g, 0, none⟩)) (hy : a.eval y = .int .i64 z) (h0 : 0 ≤ z) (h3 : z ≤ 3) : YieldsIf Tryz.prog ops S o (.pointer (some ⟨g, z.toNat * 3, none⟩)) a := by
  have hc : z = 0 ∨ z = 1 ∨ z = 2 ∨ z = 3 := by omega
  rcases hc with rfl | rfl | rfl | rfl
  all_goals exact Or.inl ⟨hw, fun w hS => by
    simp only [execOp, ho, hx, hy]
    go_simp⟩
theorem wt_putEvAt {rest : List Oper} {w : World} (hw : o.guard = none) (x y : Operand) (ho : o.op = .store 40 x y) (g : Nat) (z : Int) (hx : a.eval x = .pointer (some ⟨g, z.toNat * 3, none⟩)) (v : Va) (hy : a.eval y = vVal v) {e : EvV} (hc : w.heap[g]? = some (evObj e)) (h0 : 0 ≤ z) (h3 : z ≤ 3)
    (h : ∀ W, W.heap[g]? = some (evObj (e.setAt z v)) → w.grownBy W (some g) → wpList Tryz.prog ops Q rest (a.put o.dst undef) W) : wpList Tryz.prog ops Q (o :: rest) a w := by
  obtain ⟨p1, p2, p3⟩ := put_ev hc z h0 h3 v
  exact wpList_store_mid hw 40 x y ho g (z.toNat * 3) #[.int .i64 v.1, .int .i64 v.2.1, .string v.2.2] hx hy p3 (by rw [infoV]; rfl) (by simp [Value.oneCell']) (h _ p1 p2)
end
def IE (b ge gr gt : Nat) (w W : World) (e : EvV) (_ : List UInt8) : Prop :=
  w.grownBy W (some b) ∧ W.heap[ge]? = some (evObj e) ∧ W.heap[gr]? = some (.cells #[.pointer (some ⟨b, 0, none⟩)] 57 (0, 0)) ∧ W.heap[gt]? = some (evObj evZ)
theorem IE.gr {b ge gr gt : Nat} {w W W' : World} {e : EvV} {l l' : List UInt8} (h : IE b ge gr gt w W e l) (n0 : ge ≠ b) (n1 : gr ≠ b) (n2 : gt ≠ b) (k : W.grownBy W' (some b)) : IE b ge gr gt w W' e l' :=
  ⟨grown_trans h.1 k, heap_gr h.2.1 k n0, heap_gr h.2.2.1 k n1, heap_gr h.2.2.2 k n2⟩
theorem evItemL_len {e e' : EvV} {l r : List UInt8} (h : evItemL e l = some (e', r)) : r.length < l.length := by
  unfold evItemL at h
  split at h
  · cases h
  · rename_i a q ha
    have h1 := attr_len ha
    split at h
    · cases h
    · rename_i q2 hq
      have h2 := cut_len hq
      split at h
      · cases h
      · rename_i v q3 hv
        have h3 := valL_len hv
        injection h with h; injection h with _ h
        rw [← h]
        omega
set_option maxHeartbeats 1000000 in
set_option maxRecDepth 100000 in
theorem event1_item (b ge gr gt : Nat) (w0 : World) (h60 : 6 ≤ w0.heap.size) (ge_ge : w0.heap.size ≤ ge) (n1 : gt ≠ ge) (n2 : gt ≠ b) (w : World) (e0 : EvV) (l : List UInt8) (HI : IE b ge gr gt w0 w e0 l) (H : Rdr w b l) (hs : l.length ≤ 100000) :
    Calls Tryz.prog 54 #[.pointer (some ⟨gr, 0, none⟩), .pointer (some ⟨ge, 0, none⟩)] w fun e w' => (∃ a' r, evItemL e0 l = some (a', r) ∧ r.length < l.length ∧ e = .returned (.tuple #[]) ∧ IE b ge gr gt w0 w' a' r ∧ Rdr w' b r) ∨ (evItemL e0 l = none ∧ e = .panicked chE ∧ w0.grownBy w' (some b)) := by
  obtain ⟨D, GE, GR, GT⟩ := HI
  have w6 := h60
  have n_b_ge : b ≠ ge := ne_rd H.rd GE (by decide)
  have n_b_gr : b ≠ gr := ne_rd H.rd GR (by decide)
  have n_b_gt : b ≠ gt := Ne.symm n2
  have n_gr_ge : gr ≠ ge := ne_type GR GE (by decide)
  have n_gr_gt : gr ≠ gt := ne_type GR GT (by decide)
  have n_gt_ge := n1
  have six_ge : 6 ≤ ge := Nat.le_trans h60 ge_ge
  go_enter Tryz.func54, Tryz.ntmps54
  refine wp_seq_k (fun K1 hK1 => ?_)
  refine wp_region_lit ?_
  refine wl_yield (o := ⟨_, _, _, _, _, _⟩) (.pointer (some ⟨b, 0, none⟩)) (yt_ldPr (by rfl) _ rfl _ _ rfl _ (fun _ h => by subst h; exact cell_heap GR 0)) ?_
  simp only [Act.put, lzA, lzB, lzC]
  refine wt_call (o := ⟨_, _, _, _, _, _⟩) (by rfl) 43 _ _ rfl #[.pointer (some ⟨b, 0, none⟩)] rfl (run_call Tryz.func43 (by kernel_rfl) (by kernel_rfl)) ?_
  refine (attr_or b _ _ H).mono ?_
  rintro r v1 (⟨z, r1, ha, rfl, hr, kg⟩ | ⟨ha, rfl, kg⟩)
  · replace H := H.grown kg hr
    clear hr
    replace D := grown_trans D kg
    replace GE := heap_gr GE kg (Ne.symm n_b_ge)
    replace GR := heap_gr GR kg (Ne.symm n_b_gr)
    replace GT := heap_gr GT kg (Ne.symm n_b_gt)
    clear kg
    obtain ⟨z0, z3⟩ := attr_bd ha
    have hl1 := attr_len ha
    refine Or.inl ⟨.int .i64 z, rfl, ?_⟩
    simp only [Act.put, lzA, lzB, lzC]
    refine wl_yield (o := ⟨_, _, _, _, _, _⟩) (.int .i64 z) (yl_assign (by rfl) _ rfl _ rfl) ?_
    simp only [Act.put, lzA, lzB, lzC]
    refine wpList_nil ?_
    refine hK1 _ _ ?_
    clear hK1 K1
    refine wp_seq_k (fun K2 hK2 => ?_)
    refine wp_region_lit ?_
    refine wl_yield (o := ⟨_, _, _, _, _, _⟩) (.pointer (some ⟨b, 0, none⟩)) (yt_ldPr (by rfl) _ rfl _ _ rfl _ (fun _ h => by subst h; exact cell_heap GR 0)) ?_
    simp only [Act.put, lzA, lzB, lzC]
    refine wt_call (o := ⟨_, _, _, _, _, _⟩) (by rfl) 44 _ _ rfl #[.pointer (some ⟨b, 0, none⟩), .string (bs ([61]))] rfl (run_call Tryz.func44 (by kernel_rfl) (by kernel_rfl)) ?_
    refine (need_or b _ _ _ H.rd).mono ?_
    rintro r v2 (⟨nq, nc, rfl, hr, kg⟩ | ⟨nc, rfl, kg⟩)
    · replace H := H.grown kg hr
      clear hr
      replace D := grown_trans D kg
      replace GE := heap_gr GE kg (Ne.symm n_b_ge)
      replace GR := heap_gr GR kg (Ne.symm n_b_gr)
      replace GT := heap_gr GT kg (Ne.symm n_b_gt)
      clear kg
      have hl2 := cut_len nc
      refine Or.inl ⟨.tuple #[], rfl, ?_⟩
      simp only [Act.put, lzA, lzB, lzC]
      refine wpList_nil ?_
      refine hK2 _ _ ?_
      clear hK2 K2
      refine wp_region_lit ?_
      refine wl_yield (o := ⟨_, _, _, _, _, _⟩) (.int .i64 z) (yl_move (by rfl) _ rfl _ rfl) ?_
      simp only [Act.put, lzA, lzB, lzC]
      refine wl_yield (o := ⟨_, _, _, _, _, _⟩) (.pointer (some ⟨b, 0, none⟩)) (yt_ldPr (by rfl) _ rfl _ _ rfl _ (fun _ h => by subst h; exact cell_heap GR 0)) ?_
      simp only [Act.put, lzA, lzB, lzC]
      refine wt_call (o := ⟨_, _, _, _, _, _⟩) (by rfl) 55 _ _ rfl #[.pointer (some ⟨b, 0, none⟩)] rfl (run_call Tryz.func55 (by kernel_rfl) (by kernel_rfl)) ?_
      refine (value_or b _ _ H (by omega)).mono ?_
      rintro r v3 (⟨v, r2, hv, rfl, hr, kg⟩ | ⟨hv, rfl, kg⟩)
      · replace H := H.grown kg hr
        clear hr
        replace D := grown_trans D kg
        replace GE := heap_gr GE kg (Ne.symm n_b_ge)
        replace GR := heap_gr GR kg (Ne.symm n_b_gr)
        replace GT := heap_gr GT kg (Ne.symm n_b_gt)
        clear kg
        refine Or.inl ⟨vVal v, rfl, ?_⟩
        simp only [Act.put, lzA, lzB, lzC]
        refine wl_yield (o := ⟨_, _, _, _, _, _⟩) (.pointer (some ⟨ge, z.toNat * 3, none⟩)) (yt_atEv (by rfl) _ _ rfl ge z rfl rfl z0 z3) ?_
        simp only [Act.put, lzA, lzB, lzC]
        refine wt_putEvAt (o := ⟨_, _, _, _, _, _⟩) rfl _ _ rfl ge z rfl v rfl GE z0 z3 (fun v4 X kg => ?_)
        simp only [Act.put, lzA, lzB, lzC]
        replace D := gr_new D ge_ge kg
        replace H := H.gr kg n_b_ge six_ge
        replace GR := heap_gr GR kg n_gr_ge
        replace GT := heap_gr GT kg n_gt_ge
        clear kg
        replace GE := X
        clear X
        refine wpList_nil ?_
        go_end0
        have hI : evItemL e0 l = some (e0.setAt z v, r2) := by unfold evItemL; rw [ha]; dsimp only; rw [nc]; dsimp only; rw [hv]
        exact Or.inl ⟨_, r2, hI, evItemL_len hI, rfl, ⟨D, GE, GR, GT⟩, H⟩
      · replace D := grown_trans D kg
        refine Or.inr ⟨_, rfl, ?_⟩
        exact ⟨rfl, Or.inr ⟨by unfold evItemL; rw [ha]; dsimp only; rw [nc]; dsimp only; rw [hv], rfl, D⟩⟩
    · replace D := grown_trans D kg
      refine Or.inr ⟨_, rfl, ?_⟩
      exact ⟨rfl, Or.inr ⟨by unfold evItemL; rw [ha]; dsimp only; rw [nc], rfl, D⟩⟩
  · replace D := grown_trans D kg
    refine Or.inr ⟨_, rfl, ?_⟩
    exact ⟨rfl, Or.inr ⟨by unfold evItemL; rw [ha], rfl, D⟩⟩
set_option maxHeartbeats 1000000 in
set_option maxRecDepth 100000 in
theorem event_or (b : Nat) (l : List UInt8) (w : World) (H : Rdr w b l) (hs : l.length ≤ 100000) :
    Calls Tryz.prog 26 #[.pointer (some ⟨b, 0, none⟩)] w fun e w' => (∃ x r, evL l = some (x, r) ∧ e = .returned (evVal x) ∧ RdL w' b r ∧ w.grownBy w' (some b)) ∨ (evL l = none ∧ e = .panicked chE ∧ w.grownBy w' (some b)) := by
  have w6 : 6 ≤ w.heap.size := H.env.big
  have D : w.grownBy w (some b) := grown_refl _ _
  go_enter Tryz.func26, Tryz.ntmps26
  refine wp_seq_k (fun K1 hK1 => ?_)
  refine wp_region_lit ?_
  refine wt_boxPr (o := ⟨_, _, _, _, _, _⟩) (by rfl) _ rfl _ rfl (fun v1 g1 hg G1 kb => ?_)
  simp only [Act.put, lzA, lzB, lzC]
  have n_b_g1 : b ≠ g1 := by have := H.lt; omega
  have ge_g1 : w.heap.size ≤ g1 := Nat.le_trans D.size hg
  have six_g1 : 6 ≤ g1 := Nat.le_trans w6 ge_g1
  clear hg
  replace D := grown_below D kb
  replace H := H.on kb
  clear kb
  replace G1 : v1.heap[g1]? = some (.cells #[.pointer (some ⟨b, 0, none⟩)] 57 (0, 0)) := G1
  refine wt_allocEv (o := ⟨_, _, _, _, _, _⟩) (by rfl) rfl (fun v2 g2 hg G2 kb => ?_)
  simp only [Act.put, lzA, lzB, lzC]
  have n_b_g2 : b ≠ g2 := by have := H.lt; omega
  have n_g1_g2 : g1 ≠ g2 := by have := lt_heap G1; omega
  have ge_g2 : w.heap.size ≤ g2 := Nat.le_trans D.size hg
  have six_g2 : 6 ≤ g2 := Nat.le_trans w6 ge_g2
  clear hg
  replace D := grown_below D kb
  replace H := H.on kb
  replace G1 := heap_on G1 kb
  clear kb
  replace G2 : v2.heap[g2]? = some (.cells #[.int .i64 0, .int .i64 0, .string (bs ([])), .int .i64 0, .int .i64 0, .string (bs ([])), .int .i64 0, .int .i64 0, .string (bs ([])), .int .i64 0, .int .i64 0, .string (bs ([]))] 42 (0, 0)) := G2
  refine wpList_nil ?_
  refine hK1 _ _ ?_
  clear hK1 K1
  refine wp_seq_k (fun K2 hK2 => ?_)
  refine wp_region_lit ?_
  refine wt_allocEv (o := ⟨_, _, _, _, _, _⟩) (by rfl) rfl (fun v3 g3 hg G3 kb => ?_)
  simp only [Act.put, lzA, lzB, lzC]
  have n_b_g3 : b ≠ g3 := by have := H.lt; omega
  have n_g1_g3 : g1 ≠ g3 := by have := lt_heap G1; omega
  have n_g2_g3 : g2 ≠ g3 := by have := lt_heap G2; omega
  have ge_g3 : w.heap.size ≤ g3 := Nat.le_trans D.size hg
  have six_g3 : 6 ≤ g3 := Nat.le_trans w6 ge_g3
  clear hg
  replace D := grown_below D kb
  replace H := H.on kb
  replace G1 := heap_on G1 kb
  replace G2 := heap_on G2 kb
  clear kb
  replace G3 : v3.heap[g3]? = some (.cells #[.int .i64 0, .int .i64 0, .string (bs ([])), .int .i64 0, .int .i64 0, .string (bs ([])), .int .i64 0, .int .i64 0, .string (bs ([])), .int .i64 0, .int .i64 0, .string (bs ([]))] 42 (0, 0)) := G3
  refine wpList_nil ?_
  refine hK2 _ _ ?_
  clear hK2 K2
  refine wp_seq_k (fun K3 hK3 => ?_)
  refine wp_region_lit ?_
  refine wl_yield (o := ⟨_, _, _, _, _, _⟩) (.pointer (some ⟨b, 0, none⟩)) (yt_ldPr (by rfl) _ rfl _ _ rfl _ (fun _ h => by subst h; exact cell_heap G1 0)) ?_
  simp only [Act.put, lzA, lzB, lzC]
  refine wt_call (o := ⟨_, _, _, _, _, _⟩) (by rfl) 44 _ _ rfl #[.pointer (some ⟨b, 0, none⟩), .string (bs ([123]))] rfl (run_call Tryz.func44 (by kernel_rfl) (by kernel_rfl)) ?_
  refine (need_or b _ _ _ H.rd).mono ?_
  rintro r v4 (⟨nq, nc, rfl, hr, kg⟩ | ⟨nc, rfl, kg⟩)
  · replace H := H.grown kg hr
    clear hr
    replace D := grown_trans D kg
    replace G1 := heap_gr G1 kg (Ne.symm n_b_g1)
    replace G2 := heap_gr G2 kg (Ne.symm n_b_g2)
    replace G3 := heap_gr G3 kg (Ne.symm n_b_g3)
    clear kg
    refine Or.inl ⟨.tuple #[], rfl, ?_⟩
    simp only [Act.put, lzA, lzB, lzC]
    refine wpList_nil ?_
    refine hK3 _ _ ?_
    clear hK3 K3
    refine wp_seq_k (fun K4 hK4 => ?_)
    refine wp_region_lit ?_
    refine wl_yield (o := ⟨_, _, _, _, _, _⟩) (.pointer (some ⟨b, 0, none⟩)) (yt_ldPr (by rfl) _ rfl _ _ rfl _ (fun _ h => by subst h; exact cell_heap G1 0)) ?_
    simp only [Act.put, lzA, lzB, lzC]
    refine wl_yield (o := ⟨_, _, _, _, _, _⟩) (.func (.func 54) #[] #[.pointer (some ⟨g1, 0, none⟩), .pointer (some ⟨g3, 0, none⟩)]) (yt_fn2 (by rfl) _ _ _ rfl _ _ rfl rfl) ?_
    simp only [Act.put, lzA, lzB, lzC]
    have Q : evL l = itemsL 125 evItemL (nq.length + 1) true evZ nq := by unfold evL; rw [nc]
    have hlq := cut_len nc
    have HI0 : IE b g3 g1 g2 w v4 evZ nq := ⟨D, G3, G1, G2⟩
    refine wt_call (o := ⟨_, _, _, _, _, _⟩) (by rfl) 53 _ _ rfl #[.pointer (some ⟨b, 0, none⟩), .string (bs ([125])), .func (.func 54) #[] #[.pointer (some ⟨g1, 0, none⟩), .pointer (some ⟨g3, 0, none⟩)]] rfl (run_call Tryz.func53 (by kernel_rfl) (by kernel_rfl)) ?_
    refine (items_any b 125 nq.length _ _ evItemL (IE b g3 g1 g2 w) (fun W => w.grownBy W (some b)) (run_call Tryz.func54 (by kernel_rfl) (by kernel_rfl)) (fun W a l h => h.1) (fun W W' a l l' h k hl => h.gr (Ne.symm n_b_g3) (Ne.symm n_b_g1) (Ne.symm n_b_g2) k) (fun W a l h H hN2 => event1_item b g3 g1 g2 w w6 ge_g3 n_g2_g3 (Ne.symm n_b_g2) W a l h H (by omega)) (nq.length + 1) evZ nq _ (Nat.lt_succ_self _) (Nat.le_refl _) HI0 H).mono ?_
    rintro r v5 (⟨e2, r2, hq, hlt, rfl, HI2, H2⟩ | ⟨hq, rfl, D2⟩)
    · obtain ⟨D2, GE, GR, GT⟩ := HI2
      replace D := D2
      replace H := H2
      clear D2 H2
      refine Or.inl ⟨.tuple #[], rfl, ?_⟩
      simp only [Act.put, lzA, lzB, lzC]
      refine wpList_nil ?_
      refine hK4 _ _ ?_
      clear hK4 K4
      refine wp_seq_k (fun K5 hK5 => ?_)
      refine wp_region_lit ?_
      refine wl_yield (o := ⟨_, _, _, _, _, _⟩) (evVal e2) (yl_ev (by rfl) _ rfl _ 0 rfl _ _ _ _ _ _ _ _ _ _ _ _ (fun _ h => by subst h; exact ⟨cell_heap GE 0, cell_heap GE 1, cell_heap GE 2, cell_heap GE 3, cell_heap GE 4, cell_heap GE 5, cell_heap GE 6, cell_heap GE 7, cell_heap GE 8, cell_heap GE 9, cell_heap GE 10, cell_heap GE 11⟩)) ?_
      simp only [Act.put, lzA, lzB, lzC]
      refine wt_putEv (o := ⟨_, _, _, _, _, _⟩) rfl _ _ rfl _ rfl (e2) rfl GT rfl (fun v6 X kg => ?_)
      simp only [Act.put, lzA, lzB, lzC]
      replace D := gr_new D ge_g2 kg
      replace H := H.gr kg n_b_g2 six_g2
      replace GE := heap_gr GE kg (Ne.symm n_g2_g3)
      clear kg
      replace GT : v6.heap[g2]? = some (.cells #[.int .i64 (e2.v0.1), .int .i64 (e2.v0.2.1), .string e2.v0.2.2, .int .i64 (e2.v1.1), .int .i64 (e2.v1.2.1), .string e2.v1.2.2, .int .i64 (e2.v2.1), .int .i64 (e2.v2.2.1), .string e2.v2.2.2, .int .i64 (e2.v3.1), .int .i64 (e2.v3.2.1), .string e2.v3.2.2] 42 (0, 0)) := X
      clear X
      refine wpList_nil ?_
      refine hK5 _ _ ?_
      clear hK5 K5
      refine wp_ret ?_
      refine bodyPost_ret (results_cell_row rfl _ _ g2 42 _ (0, 0) _ rfl GT Tryz.underlying42 rfl infoEv12) rfl (Or.inl ⟨e2, r2, by rw [Q]; exact hq, rfl, H.rd, D⟩)
    · refine Or.inr ⟨_, rfl, ?_⟩
      exact ⟨rfl, Or.inr ⟨by rw [Q]; exact hq, rfl, D2⟩⟩
  · replace D := grown_trans D kg
    refine Or.inr ⟨_, rfl, ?_⟩
    exact ⟨rfl, Or.inr ⟨by unfold evL; rw [nc], rfl, D⟩⟩
end Go.Proofs.YtlmdcaemjaldfaaGreatDoor
