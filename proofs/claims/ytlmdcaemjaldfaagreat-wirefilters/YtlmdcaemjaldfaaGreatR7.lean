import Derived.Test.YtlmdcaemjaldfaaGreatR6
set_option linter.unusedSimpArgs false
set_option linter.unusedVariables false
namespace Go.Proofs.YtlmdcaemjaldfaaGreat
open Go.RowKit
theorem c_err {b : Nat} {l : List UInt8} {e : Int} {w : World} (H : PS w b l e) : Calls Tryz.prog 36 #[.pointer (some ⟨b, 0, none⟩)] w fun r w' => r = .returned (.int .i64 e) ∧ Below w.heap.size w w' :=
  (err_any b _ e w H.1).mono fun r w' h => ⟨h.1, by rw [h.2]; exact Below.refl _ _⟩
theorem c_left {b : Nat} {l : List UInt8} {e : Int} {w : World} (H : PS w b l e) (hz : l.length ≤ 1048576) : Calls Tryz.prog 37 #[.pointer (some ⟨b, 0, none⟩)] w fun r w' => r = .returned (.int .i64 (l.length : Nat)) ∧ Below w.heap.size w w' :=
  (left_any b _ e w H.1 (by rw [Lib.size_eq]; simpa using hz)).mono fun r w' h => ⟨by rw [h.1, Lib.size_eq], by rw [h.2]; exact Below.refl _ _⟩
theorem ret_u64 {x y : Int} (h : x = y) : Ending.returned (.int .u64 x) = Ending.returned (.int .u64 y) := by rw [h]
set_option maxHeartbeats 4000000 in
set_option maxRecDepth 100000 in
theorem takeCount_any (b most : Nat) (l : List UInt8) (e : Int) (w : World) (H : PS w b l e) (hz : l.length ≤ 1048576) :
    Calls Tryz.prog 74 #[.pointer (some ⟨b, 0, none⟩), .int .u64 ((most : Nat) : Int)] w fun r w' => r = .returned (.int .u64 (((cntO most l e).1 : Nat) : Int)) ∧ PS w' b (cntO most l e).2.1 (cntO most l e).2.2 ∧ w.grownBy w' (some b) := by
  have D : w.grownBy w (some b) := grown_refl _ _
  by_cases hgt : (most : Int) < (uintO l e).1
  · go_enter Tryz.func74, Tryz.ntmps74
    refine wp_seq_k (fun K1 hK1 => ?_)
    refine wp_region_lit ?_
    refine wl_yield (o := ⟨_, _, _, _, _, _⟩) (.int .u64 0) (yl_assign (by rfl) _ rfl _ rfl) ?_
    simp only [Act.put, lzA, lzB, lzC]
    refine wpList_nil ?_
    refine hK1 _ _ ?_
    clear hK1 K1
    refine wp_seq_k (fun K2 hK2 => ?_)
    refine wp_region_lit ?_
    refine wl_yield (o := ⟨_, _, _, _, _, _⟩) (.pointer (some ⟨b, 0, none⟩)) (yl_move (by rfl) _ rfl _ rfl) ?_
    simp only [Act.put, lzA, lzB, lzC]
    refine wt_call (o := ⟨_, _, _, _, _, _⟩) (by rfl) 120 _ _ rfl #[.pointer (some ⟨b, 0, none⟩)] rfl (run_call Tryz.func120 (by kernel_rfl) (by kernel_rfl)) ?_
    refine (uintP b _ _ _ H hz).mono ?_
    rintro r v1 (⟨rfl, hr, kg⟩)
    · replace H := hr
      clear hr
      replace D := grown_trans D kg
      clear kg
      refine Or.inl ⟨.int .u64 ((uintO l e).1), rfl, ?_⟩
      simp only [Act.put, lzA, lzB, lzC]
      refine wl_yield (o := ⟨_, _, _, _, _, _⟩) (.int .u64 ((uintO l e).1)) (yl_assign (by rfl) _ rfl _ rfl) ?_
      simp only [Act.put, lzA, lzB, lzC]
      refine wpList_nil ?_
      refine hK2 _ _ ?_
      clear hK2 K2
      refine wp_seq_k (fun K3 hK3 => ?_)
      refine wp_seq_k (fun K4 hK4 => ?_)
      refine wp_region_lit ?_
      refine wl_yield (o := ⟨_, _, _, _, _, _⟩) (.int .u64 ((uintO l e).1)) (yl_move (by rfl) _ rfl _ rfl) ?_
      simp only [Act.put, lzA, lzB, lzC]
      refine wl_yield (o := ⟨_, _, _, _, _, _⟩) (.int .u64 (((most : Nat) : Int))) (yl_move (by rfl) _ rfl _ rfl) ?_
      simp only [Act.put, lzA, lzB, lzC]
      refine wl_yield (o := ⟨_, _, _, _, _, _⟩) (.bool true) (yw_gtrU (by rfl) _ _ _ rfl ((uintO l e).1) (((most : Nat) : Int)) true rfl rfl (decide_eq_true (by omega))) ?_
      simp only [Act.put, lzA, lzB, lzC]
      refine wpList_nil ?_
      refine hK4 _ _ ?_
      clear hK4 K4
      refine wp_cond_true rfl ?_
      refine wp_seq_k (fun K5 hK5 => ?_)
      refine wp_region_lit ?_
      refine wl_yield (o := ⟨_, _, _, _, _, _⟩) (.pointer (some ⟨b, 0, none⟩)) (yl_move (by rfl) _ rfl _ rfl) ?_
      simp only [Act.put, lzA, lzB, lzC]
      refine wt_call (o := ⟨_, _, _, _, _, _⟩) (by rfl) 76 _ _ rfl #[.pointer (some ⟨b, 0, none⟩), .int .i64 2] rfl (run_call Tryz.func76 (by kernel_rfl) (by kernel_rfl)) ?_
      refine (failP b 2 _ _ _ H).mono ?_
      rintro r v2 (⟨⟨rvf, rfl⟩, hr, kg⟩)
      · replace H := hr
        clear hr
        replace D := grown_trans D kg
        clear kg
        refine Or.inl ⟨rvf, rfl, ?_⟩
        simp only [Act.put, lzA, lzB, lzC]
        refine wpList_nil ?_
        refine hK5 _ _ ?_
        clear hK5 K5
        refine wp_seq_k (fun K6 hK6 => ?_)
        refine wp_region_lit ?_
        refine wl_yield (o := ⟨_, _, _, _, _, _⟩) (.int .u64 0) (yl_assign (by rfl) _ rfl _ rfl) ?_
        simp only [Act.put, lzA, lzB, lzC]
        refine wpList_nil ?_
        refine hK6 _ _ ?_
        clear hK6 K6
        refine wp_ret ?_
        rw [cntO_gt hgt]
        go_ret
        exact ⟨rfl, H, D⟩
  · go_enter Tryz.func74, Tryz.ntmps74
    refine wp_seq_k (fun K1 hK1 => ?_)
    refine wp_region_lit ?_
    refine wl_yield (o := ⟨_, _, _, _, _, _⟩) (.int .u64 0) (yl_assign (by rfl) _ rfl _ rfl) ?_
    simp only [Act.put, lzA, lzB, lzC]
    refine wpList_nil ?_
    refine hK1 _ _ ?_
    clear hK1 K1
    refine wp_seq_k (fun K2 hK2 => ?_)
    refine wp_region_lit ?_
    refine wl_yield (o := ⟨_, _, _, _, _, _⟩) (.pointer (some ⟨b, 0, none⟩)) (yl_move (by rfl) _ rfl _ rfl) ?_
    simp only [Act.put, lzA, lzB, lzC]
    refine wt_call (o := ⟨_, _, _, _, _, _⟩) (by rfl) 120 _ _ rfl #[.pointer (some ⟨b, 0, none⟩)] rfl (run_call Tryz.func120 (by kernel_rfl) (by kernel_rfl)) ?_
    refine (uintP b _ _ _ H hz).mono ?_
    rintro r v1 (⟨rfl, hr, kg⟩)
    · replace H := hr
      clear hr
      replace D := grown_trans D kg
      clear kg
      refine Or.inl ⟨.int .u64 ((uintO l e).1), rfl, ?_⟩
      simp only [Act.put, lzA, lzB, lzC]
      refine wl_yield (o := ⟨_, _, _, _, _, _⟩) (.int .u64 ((uintO l e).1)) (yl_assign (by rfl) _ rfl _ rfl) ?_
      simp only [Act.put, lzA, lzB, lzC]
      refine wpList_nil ?_
      refine hK2 _ _ ?_
      clear hK2 K2
      refine wp_seq_k (fun K3 hK3 => ?_)
      refine wp_seq_k (fun K4 hK4 => ?_)
      refine wp_region_lit ?_
      refine wl_yield (o := ⟨_, _, _, _, _, _⟩) (.int .u64 ((uintO l e).1)) (yl_move (by rfl) _ rfl _ rfl) ?_
      simp only [Act.put, lzA, lzB, lzC]
      refine wl_yield (o := ⟨_, _, _, _, _, _⟩) (.int .u64 (((most : Nat) : Int))) (yl_move (by rfl) _ rfl _ rfl) ?_
      simp only [Act.put, lzA, lzB, lzC]
      refine wl_yield (o := ⟨_, _, _, _, _, _⟩) (.bool false) (yw_gtrU (by rfl) _ _ _ rfl ((uintO l e).1) (((most : Nat) : Int)) false rfl rfl (decide_eq_false (by omega))) ?_
      simp only [Act.put, lzA, lzB, lzC]
      refine wpList_nil ?_
      refine hK4 _ _ ?_
      clear hK4 K4
      refine wp_cond_false rfl ?_
      refine wp_skip ?_
      refine hK3 _ _ ?_
      clear hK3 K3
      refine wp_seq_k (fun K5 hK5 => ?_)
      refine wp_region_lit ?_
      refine wl_yield (o := ⟨_, _, _, _, _, _⟩) (.int .u64 ((uintO l e).1)) (yl_move (by rfl) _ rfl _ rfl) ?_
      simp only [Act.put, lzA, lzB, lzC]
      refine wl_yield (o := ⟨_, _, _, _, _, _⟩) (.int .u64 ((uintO l e).1)) (yl_assign (by rfl) _ rfl _ rfl) ?_
      simp only [Act.put, lzA, lzB, lzC]
      refine wpList_nil ?_
      refine hK5 _ _ ?_
      clear hK5 K5
      refine wp_ret ?_
      rw [cntO_le' hgt]
      have hu := (uintO_lo l e).1
      go_ret
      exact ⟨ret_u64 (Int.toNat_of_nonneg hu).symm, H, D⟩
theorem valO_0 {l : List UInt8} {e : Int} (hk : (byteO l e).1 = 0) : valO l e = ((0, 0, ⟨#[]⟩), (byteO l e).2) := by unfold valO; rw [if_neg (by omega), if_neg (by omega), if_pos hk]
theorem valO_1 {l : List UInt8} {e : Int} (hk : (byteO l e).1 = 1) : valO l e = ((1, (intO (byteO l e).2.1 (byteO l e).2.2).1, ⟨#[]⟩), (intO (byteO l e).2.1 (byteO l e).2.2).2) := by unfold valO; rw [if_pos hk]
theorem valO_2 {l : List UInt8} {e : Int} (hk : (byteO l e).1 = 2) : valO l e = ((2, 0, (stO (byteO l e).2.1 (byteO l e).2.2).1), (stO (byteO l e).2.1 (byteO l e).2.2).2) := by unfold valO; rw [if_neg (by omega), if_pos hk]
theorem valO_3 {l : List UInt8} {e : Int} (h0 : ¬ (byteO l e).1 = 0) (h1 : ¬ (byteO l e).1 = 1) (h2 : ¬ (byteO l e).1 = 2) : valO l e = (((byteO l e).1, 0, ⟨#[]⟩), failO 2 (byteO l e).2.1 (byteO l e).2.2) := by unfold valO; rw [if_neg h1, if_neg h2, if_neg h0]
theorem kinds (l : List UInt8) (e : Int) : ((byteO l e).1 = 0 ∧ valO l e = ((0, 0, ⟨#[]⟩), (byteO l e).2)) ∨ ((byteO l e).1 = 1 ∧ valO l e = ((1, (intO (byteO l e).2.1 (byteO l e).2.2).1, ⟨#[]⟩), (intO (byteO l e).2.1 (byteO l e).2.2).2)) ∨ ((byteO l e).1 = 2 ∧ valO l e = ((2, 0, (stO (byteO l e).2.1 (byteO l e).2.2).1), (stO (byteO l e).2.1 (byteO l e).2.2).2)) ∨ ((¬ (byteO l e).1 = 0) ∧ (¬ (byteO l e).1 = 1) ∧ (¬ (byteO l e).1 = 2) ∧ valO l e = (((byteO l e).1, 0, ⟨#[]⟩), failO 2 (byteO l e).2.1 (byteO l e).2.2)) := by
  by_cases h0 : (byteO l e).1 = 0
  · exact Or.inl ⟨h0, valO_0 h0⟩
  · by_cases h1 : (byteO l e).1 = 1
    · exact Or.inr (Or.inl ⟨h1, valO_1 h1⟩)
    · by_cases h2 : (byteO l e).1 = 2
      · exact Or.inr (Or.inr (Or.inl ⟨h2, valO_2 h2⟩))
      · exact Or.inr (Or.inr (Or.inr ⟨h0, h1, h2, valO_3 h0 h1 h2⟩))
set_option maxHeartbeats 4000000 in
set_option maxRecDepth 100000 in
theorem takeValue_any (b : Nat) (l : List UInt8) (e : Int) (w : World) (H : PS w b l e) (hz : l.length ≤ 1048576) :
    Calls Tryz.prog 77 #[.pointer (some ⟨b, 0, none⟩)] w fun r w' => r = .returned (vVal (valO l e).1) ∧ PS w' b (valO l e).2.1 (valO l e).2.2 ∧ w.grownBy w' (some b) := by
  have D : w.grownBy w (some b) := grown_refl _ _
  rcases kinds l e with ⟨hk, hv⟩ | ⟨hk, hv⟩ | ⟨hk, hv⟩ | ⟨h0, h1, h2, hv⟩
  · go_enter Tryz.func77, Tryz.ntmps77
    refine wp_seq_k (fun K1 hK1 => ?_)
    refine wp_region_lit ?_
    refine wt_allocVa (o := ⟨_, _, _, _, _, _⟩) (by rfl) rfl (fun v1 g1 hg G1 kb => ?_)
    simp only [Act.put, lzA, lzB, lzC]
    have n_b_g1 : b ≠ g1 := by have := H.lt; omega
    have ge_g1 : w.heap.size ≤ g1 := Nat.le_trans D.size hg
    clear hg
    replace D := grown_below D kb
    replace H := H.on kb
    clear kb
    replace G1 : v1.heap[g1]? = some (.cells #[.int .i64 0, .int .i64 0, .string (bs ([]))] 42 (0, 0)) := G1
    refine wpList_nil ?_
    refine hK1 _ _ ?_
    clear hK1 K1
    refine wp_seq_k (fun K2 hK2 => ?_)
    refine wp_region_lit ?_
    refine wl_yield (o := ⟨_, _, _, _, _, _⟩) (.pointer (some ⟨b, 0, none⟩)) (yl_move (by rfl) _ rfl _ rfl) ?_
    simp only [Act.put, lzA, lzB, lzC]
    refine wt_call (o := ⟨_, _, _, _, _, _⟩) (by rfl) 122 _ _ rfl #[.pointer (some ⟨b, 0, none⟩)] rfl (run_call Tryz.func122 (by kernel_rfl) (by kernel_rfl)) ?_
    refine (byteP b _ _ _ H hz).mono ?_
    rintro r v2 (⟨er, hr, kg⟩)
    · replace H := hr
      clear hr
      replace D := grown_trans D kg
      replace G1 := heap_gr G1 kg (Ne.symm n_b_g1)
      clear kg
      refine Or.inl ⟨.int .u8 0, (er.trans (by rw [hk])), ?_⟩
      simp only [Act.put, lzA, lzB, lzC]
      refine wl_yield (o := ⟨_, _, _, _, _, _⟩) (.int .i64 0) (yw_yi (by rfl) _ rfl 0 rfl (by omega) (by omega)) ?_
      simp only [Act.put, lzA, lzB, lzC]
      refine wl_yield (o := ⟨_, _, _, _, _, _⟩) (.agg #[.int .i64 0, .int .i64 0, .string ⟨#[]⟩]) (yw_buildV1 (by rfl) _ rfl 0 rfl) ?_
      simp only [Act.put, lzA, lzB, lzC]
      refine wt_allocVa (o := ⟨_, _, _, _, _, _⟩) (by rfl) rfl (fun v3 g3 hg G3 kb => ?_)
      simp only [Act.put, lzA, lzB, lzC]
      have n_b_g3 : b ≠ g3 := by have := H.lt; omega
      have n_g1_g3 : g1 ≠ g3 := by have := lt_heap G1; omega
      have ge_g3 : w.heap.size ≤ g3 := Nat.le_trans D.size hg
      clear hg
      replace D := grown_below D kb
      replace H := H.on kb
      replace G1 := heap_on G1 kb
      clear kb
      replace G3 : v3.heap[g3]? = some (.cells #[.int .i64 0, .int .i64 0, .string (bs ([]))] 42 (0, 0)) := G3
      refine wt_putVa (o := ⟨_, _, _, _, _, _⟩) rfl _ _ rfl _ rfl ((0, 0, ⟨#[]⟩)) rfl G3 rfl (fun v4 X kg => ?_)
      simp only [Act.put, lzA, lzB, lzC]
      replace D := gr_new D ge_g3 kg
      replace H := H.gr kg n_b_g3
      replace G1 := heap_gr G1 kg n_g1_g3
      clear kg
      replace G3 : v4.heap[g3]? = some (.cells #[.int .i64 0, .int .i64 0, .string ⟨#[]⟩] 42 (0, 0)) := X
      clear X
      refine wpList_nil ?_
      refine hK2 _ _ ?_
      clear hK2 K2
      refine wp_seq_k (fun K3 hK3 => ?_)
      refine wp_seq_k (fun K4 hK4 => ?_)
      refine wp_region_lit ?_
      refine wl_yield (o := ⟨_, _, _, _, _, _⟩) (.pointer (some ⟨g3, 0, none⟩)) (yt_fVa0 (by rfl) _ rfl g3 0 rfl) ?_
      simp only [Act.put, lzA, lzB, lzC]
      refine wl_yield (o := ⟨_, _, _, _, _, _⟩) (.int .i64 0) (yt_ldI (by rfl) _ rfl _ _ rfl 0 (fun _ h => by subst h; exact cell_heap G3 0)) ?_
      simp only [Act.put, lzA, lzB, lzC]
      refine wpList_nil ?_
      refine hK4 _ _ ?_
      clear hK4 K4
      refine wp_block ?_
      refine wp_seq_k (fun K5 hK5 => ?_)
      refine wp_region_lit ?_
      refine wl_yield (o := ⟨_, _, _, _, _, _⟩) (.bool true) (yt_eqlI (by rfl) _ _ _ rfl 0 0 true rfl rfl (by decide)) ?_
      simp only [Act.put, lzA, lzB, lzC]
      refine wl_yield (o := ⟨_, _, _, _, _, _⟩) (.bool true) (yl_assign (by rfl) _ rfl _ rfl) ?_
      simp only [Act.put, lzA, lzB, lzC]
      refine wpList_nil ?_
      refine hK5 _ _ ?_
      clear hK5 K5
      refine wp_cond_true rfl ?_
      refine wp_skip ?_
      refine hK3 _ _ ?_
      clear hK3 K3
      refine wp_seq_k (fun K6 hK6 => ?_)
      refine wp_region_lit ?_
      refine wl_yield (o := ⟨_, _, _, _, _, _⟩) (.agg #[.int .i64 0, .int .i64 0, .string ⟨#[]⟩]) (yl_val (by rfl) _ rfl _ 0 rfl _ _ _ (fun _ h => by subst h; exact ⟨cell_heap G3 0, cell_heap G3 1, cell_heap G3 2⟩)) ?_
      simp only [Act.put, lzA, lzB, lzC]
      refine wt_putVa (o := ⟨_, _, _, _, _, _⟩) rfl _ _ rfl _ rfl ((0, 0, ⟨#[]⟩)) rfl G1 rfl (fun v5 X kg => ?_)
      simp only [Act.put, lzA, lzB, lzC]
      replace D := gr_new D ge_g1 kg
      replace H := H.gr kg n_b_g1
      replace G3 := heap_gr G3 kg (Ne.symm n_g1_g3)
      clear kg
      replace G1 : v5.heap[g1]? = some (.cells #[.int .i64 0, .int .i64 0, .string ⟨#[]⟩] 42 (0, 0)) := X
      clear X
      refine wpList_nil ?_
      refine hK6 _ _ ?_
      clear hK6 K6
      refine wp_ret ?_
      rw [hv]
      refine bodyPost_ret (results_cell_row rfl _ _ g1 42 _ (0, 0) _ rfl G1 Tryz.underlying42 rfl infoV) rfl ⟨rfl, H, D⟩
  · go_enter Tryz.func77, Tryz.ntmps77
    refine wp_seq_k (fun K1 hK1 => ?_)
    refine wp_region_lit ?_
    refine wt_allocVa (o := ⟨_, _, _, _, _, _⟩) (by rfl) rfl (fun v1 g1 hg G1 kb => ?_)
    simp only [Act.put, lzA, lzB, lzC]
    have n_b_g1 : b ≠ g1 := by have := H.lt; omega
    have ge_g1 : w.heap.size ≤ g1 := Nat.le_trans D.size hg
    clear hg
    replace D := grown_below D kb
    replace H := H.on kb
    clear kb
    replace G1 : v1.heap[g1]? = some (.cells #[.int .i64 0, .int .i64 0, .string (bs ([]))] 42 (0, 0)) := G1
    refine wpList_nil ?_
    refine hK1 _ _ ?_
    clear hK1 K1
    refine wp_seq_k (fun K2 hK2 => ?_)
    refine wp_region_lit ?_
    refine wl_yield (o := ⟨_, _, _, _, _, _⟩) (.pointer (some ⟨b, 0, none⟩)) (yl_move (by rfl) _ rfl _ rfl) ?_
    simp only [Act.put, lzA, lzB, lzC]
    refine wt_call (o := ⟨_, _, _, _, _, _⟩) (by rfl) 122 _ _ rfl #[.pointer (some ⟨b, 0, none⟩)] rfl (run_call Tryz.func122 (by kernel_rfl) (by kernel_rfl)) ?_
    refine (byteP b _ _ _ H hz).mono ?_
    rintro r v2 (⟨er, hr, kg⟩)
    · replace H := hr
      clear hr
      replace D := grown_trans D kg
      replace G1 := heap_gr G1 kg (Ne.symm n_b_g1)
      clear kg
      refine Or.inl ⟨.int .u8 1, (er.trans (by rw [hk])), ?_⟩
      simp only [Act.put, lzA, lzB, lzC]
      refine wl_yield (o := ⟨_, _, _, _, _, _⟩) (.int .i64 1) (yw_yi (by rfl) _ rfl 1 rfl (by omega) (by omega)) ?_
      simp only [Act.put, lzA, lzB, lzC]
      refine wl_yield (o := ⟨_, _, _, _, _, _⟩) (.agg #[.int .i64 1, .int .i64 0, .string ⟨#[]⟩]) (yw_buildV1 (by rfl) _ rfl 1 rfl) ?_
      simp only [Act.put, lzA, lzB, lzC]
      refine wt_allocVa (o := ⟨_, _, _, _, _, _⟩) (by rfl) rfl (fun v3 g3 hg G3 kb => ?_)
      simp only [Act.put, lzA, lzB, lzC]
      have n_b_g3 : b ≠ g3 := by have := H.lt; omega
      have n_g1_g3 : g1 ≠ g3 := by have := lt_heap G1; omega
      have ge_g3 : w.heap.size ≤ g3 := Nat.le_trans D.size hg
      clear hg
      replace D := grown_below D kb
      replace H := H.on kb
      replace G1 := heap_on G1 kb
      clear kb
      replace G3 : v3.heap[g3]? = some (.cells #[.int .i64 0, .int .i64 0, .string (bs ([]))] 42 (0, 0)) := G3
      refine wt_putVa (o := ⟨_, _, _, _, _, _⟩) rfl _ _ rfl _ rfl ((1, 0, ⟨#[]⟩)) rfl G3 rfl (fun v4 X kg => ?_)
      simp only [Act.put, lzA, lzB, lzC]
      replace D := gr_new D ge_g3 kg
      replace H := H.gr kg n_b_g3
      replace G1 := heap_gr G1 kg n_g1_g3
      clear kg
      replace G3 : v4.heap[g3]? = some (.cells #[.int .i64 1, .int .i64 0, .string ⟨#[]⟩] 42 (0, 0)) := X
      clear X
      refine wpList_nil ?_
      refine hK2 _ _ ?_
      clear hK2 K2
      refine wp_seq_k (fun K3 hK3 => ?_)
      refine wp_seq_k (fun K4 hK4 => ?_)
      refine wp_region_lit ?_
      refine wl_yield (o := ⟨_, _, _, _, _, _⟩) (.pointer (some ⟨g3, 0, none⟩)) (yt_fVa0 (by rfl) _ rfl g3 0 rfl) ?_
      simp only [Act.put, lzA, lzB, lzC]
      refine wl_yield (o := ⟨_, _, _, _, _, _⟩) (.int .i64 1) (yt_ldI (by rfl) _ rfl _ _ rfl 1 (fun _ h => by subst h; exact cell_heap G3 0)) ?_
      simp only [Act.put, lzA, lzB, lzC]
      refine wpList_nil ?_
      refine hK4 _ _ ?_
      clear hK4 K4
      refine wp_block ?_
      refine wp_seq_k (fun K5 hK5 => ?_)
      refine wp_region_lit ?_
      refine wl_yield (o := ⟨_, _, _, _, _, _⟩) (.bool false) (yt_eqlI (by rfl) _ _ _ rfl 1 0 false rfl rfl (by decide)) ?_
      simp only [Act.put, lzA, lzB, lzC]
      refine wl_yield (o := ⟨_, _, _, _, _, _⟩) (.bool false) (yl_assign (by rfl) _ rfl _ rfl) ?_
      simp only [Act.put, lzA, lzB, lzC]
      refine wpList_nil ?_
      refine hK5 _ _ ?_
      clear hK5 K5
      refine wp_cond_false rfl ?_
      refine wp_seq_k (fun K6 hK6 => ?_)
      refine wp_region_lit ?_
      refine wl_yield (o := ⟨_, _, _, _, _, _⟩) (.bool true) (yt_eqlI (by rfl) _ _ _ rfl 1 1 true rfl rfl (by decide)) ?_
      simp only [Act.put, lzA, lzB, lzC]
      refine wl_yield (o := ⟨_, _, _, _, _, _⟩) (.bool true) (yl_assign (by rfl) _ rfl _ rfl) ?_
      simp only [Act.put, lzA, lzB, lzC]
      refine wpList_nil ?_
      refine hK6 _ _ ?_
      clear hK6 K6
      refine wp_cond_true rfl ?_
      refine wp_region_lit ?_
      refine wl_yield (o := ⟨_, _, _, _, _, _⟩) (.pointer (some ⟨b, 0, none⟩)) (yl_move (by rfl) _ rfl _ rfl) ?_
      simp only [Act.put, lzA, lzB, lzC]
      refine wt_call (o := ⟨_, _, _, _, _, _⟩) (by rfl) 123 _ _ rfl #[.pointer (some ⟨b, 0, none⟩)] rfl (run_call Tryz.func123 (by kernel_rfl) (by kernel_rfl)) ?_
      refine (intP b _ _ _ H (Nat.le_trans (byteO_le _ _) hz)).mono ?_
      rintro r v5 (⟨rfl, hr, kg⟩)
      · replace H := hr
        clear hr
        replace D := grown_trans D kg
        replace G1 := heap_gr G1 kg (Ne.symm n_b_g1)
        replace G3 := heap_gr G3 kg (Ne.symm n_b_g3)
        clear kg
        refine Or.inl ⟨.int .i64 ((intO ((byteO l e).2.1) ((byteO l e).2.2)).1), rfl, ?_⟩
        simp only [Act.put, lzA, lzB, lzC]
        refine wl_yield (o := ⟨_, _, _, _, _, _⟩) (.pointer (some ⟨g3, 1, none⟩)) (yt_fVa1 (by rfl) _ rfl g3 0 rfl) ?_
        simp only [Act.put, lzA, lzB, lzC]
        refine wt_putI (o := ⟨_, _, _, _, _, _⟩) (by rfl) _ _ rfl _ 1 rfl ((intO ((byteO l e).2.1) ((byteO l e).2.2)).1) rfl G3 (by simp) (fun v6 X kg => ?_)
        simp only [Act.put, lzA, lzB, lzC]
        replace D := gr_new D ge_g3 kg
        replace H := H.gr kg n_b_g3
        replace G1 := heap_gr G1 kg n_g1_g3
        clear kg
        replace G3 : v6.heap[g3]? = some (.cells #[.int .i64 1, .int .i64 ((intO ((byteO l e).2.1) ((byteO l e).2.2)).1), .string ⟨#[]⟩] 42 (0, 0)) := X
        clear X
        refine wpList_nil ?_
        refine hK3 _ _ ?_
        clear hK3 K3
        refine wp_seq_k (fun K7 hK7 => ?_)
        refine wp_region_lit ?_
        refine wl_yield (o := ⟨_, _, _, _, _, _⟩) (.agg #[.int .i64 1, .int .i64 ((intO ((byteO l e).2.1) ((byteO l e).2.2)).1), .string ⟨#[]⟩]) (yl_val (by rfl) _ rfl _ 0 rfl _ _ _ (fun _ h => by subst h; exact ⟨cell_heap G3 0, cell_heap G3 1, cell_heap G3 2⟩)) ?_
        simp only [Act.put, lzA, lzB, lzC]
        refine wt_putVa (o := ⟨_, _, _, _, _, _⟩) rfl _ _ rfl _ rfl ((1, (intO ((byteO l e).2.1) ((byteO l e).2.2)).1, ⟨#[]⟩)) rfl G1 rfl (fun v7 X kg => ?_)
        simp only [Act.put, lzA, lzB, lzC]
        replace D := gr_new D ge_g1 kg
        replace H := H.gr kg n_b_g1
        replace G3 := heap_gr G3 kg (Ne.symm n_g1_g3)
        clear kg
        replace G1 : v7.heap[g1]? = some (.cells #[.int .i64 1, .int .i64 ((intO ((byteO l e).2.1) ((byteO l e).2.2)).1), .string ⟨#[]⟩] 42 (0, 0)) := X
        clear X
        refine wpList_nil ?_
        refine hK7 _ _ ?_
        clear hK7 K7
        refine wp_ret ?_
        rw [hv]
        refine bodyPost_ret (results_cell_row rfl _ _ g1 42 _ (0, 0) _ rfl G1 Tryz.underlying42 rfl infoV) rfl ⟨rfl, H, D⟩
  · go_enter Tryz.func77, Tryz.ntmps77
    refine wp_seq_k (fun K1 hK1 => ?_)
    refine wp_region_lit ?_
    refine wt_allocVa (o := ⟨_, _, _, _, _, _⟩) (by rfl) rfl (fun v1 g1 hg G1 kb => ?_)
    simp only [Act.put, lzA, lzB, lzC]
    have n_b_g1 : b ≠ g1 := by have := H.lt; omega
    have ge_g1 : w.heap.size ≤ g1 := Nat.le_trans D.size hg
    clear hg
    replace D := grown_below D kb
    replace H := H.on kb
    clear kb
    replace G1 : v1.heap[g1]? = some (.cells #[.int .i64 0, .int .i64 0, .string (bs ([]))] 42 (0, 0)) := G1
    refine wpList_nil ?_
    refine hK1 _ _ ?_
    clear hK1 K1
    refine wp_seq_k (fun K2 hK2 => ?_)
    refine wp_region_lit ?_
    refine wl_yield (o := ⟨_, _, _, _, _, _⟩) (.pointer (some ⟨b, 0, none⟩)) (yl_move (by rfl) _ rfl _ rfl) ?_
    simp only [Act.put, lzA, lzB, lzC]
    refine wt_call (o := ⟨_, _, _, _, _, _⟩) (by rfl) 122 _ _ rfl #[.pointer (some ⟨b, 0, none⟩)] rfl (run_call Tryz.func122 (by kernel_rfl) (by kernel_rfl)) ?_
    refine (byteP b _ _ _ H hz).mono ?_
    rintro r v2 (⟨er, hr, kg⟩)
    · replace H := hr
      clear hr
      replace D := grown_trans D kg
      replace G1 := heap_gr G1 kg (Ne.symm n_b_g1)
      clear kg
      refine Or.inl ⟨.int .u8 2, (er.trans (by rw [hk])), ?_⟩
      simp only [Act.put, lzA, lzB, lzC]
      refine wl_yield (o := ⟨_, _, _, _, _, _⟩) (.int .i64 2) (yw_yi (by rfl) _ rfl 2 rfl (by omega) (by omega)) ?_
      simp only [Act.put, lzA, lzB, lzC]
      refine wl_yield (o := ⟨_, _, _, _, _, _⟩) (.agg #[.int .i64 2, .int .i64 0, .string ⟨#[]⟩]) (yw_buildV1 (by rfl) _ rfl 2 rfl) ?_
      simp only [Act.put, lzA, lzB, lzC]
      refine wt_allocVa (o := ⟨_, _, _, _, _, _⟩) (by rfl) rfl (fun v3 g3 hg G3 kb => ?_)
      simp only [Act.put, lzA, lzB, lzC]
      have n_b_g3 : b ≠ g3 := by have := H.lt; omega
      have n_g1_g3 : g1 ≠ g3 := by have := lt_heap G1; omega
      have ge_g3 : w.heap.size ≤ g3 := Nat.le_trans D.size hg
      clear hg
      replace D := grown_below D kb
      replace H := H.on kb
      replace G1 := heap_on G1 kb
      clear kb
      replace G3 : v3.heap[g3]? = some (.cells #[.int .i64 0, .int .i64 0, .string (bs ([]))] 42 (0, 0)) := G3
      refine wt_putVa (o := ⟨_, _, _, _, _, _⟩) rfl _ _ rfl _ rfl ((2, 0, ⟨#[]⟩)) rfl G3 rfl (fun v4 X kg => ?_)
      simp only [Act.put, lzA, lzB, lzC]
      replace D := gr_new D ge_g3 kg
      replace H := H.gr kg n_b_g3
      replace G1 := heap_gr G1 kg n_g1_g3
      clear kg
      replace G3 : v4.heap[g3]? = some (.cells #[.int .i64 2, .int .i64 0, .string ⟨#[]⟩] 42 (0, 0)) := X
      clear X
      refine wpList_nil ?_
      refine hK2 _ _ ?_
      clear hK2 K2
      refine wp_seq_k (fun K3 hK3 => ?_)
      refine wp_seq_k (fun K4 hK4 => ?_)
      refine wp_region_lit ?_
      refine wl_yield (o := ⟨_, _, _, _, _, _⟩) (.pointer (some ⟨g3, 0, none⟩)) (yt_fVa0 (by rfl) _ rfl g3 0 rfl) ?_
      simp only [Act.put, lzA, lzB, lzC]
      refine wl_yield (o := ⟨_, _, _, _, _, _⟩) (.int .i64 2) (yt_ldI (by rfl) _ rfl _ _ rfl 2 (fun _ h => by subst h; exact cell_heap G3 0)) ?_
      simp only [Act.put, lzA, lzB, lzC]
      refine wpList_nil ?_
      refine hK4 _ _ ?_
      clear hK4 K4
      refine wp_block ?_
      refine wp_seq_k (fun K5 hK5 => ?_)
      refine wp_region_lit ?_
      refine wl_yield (o := ⟨_, _, _, _, _, _⟩) (.bool false) (yt_eqlI (by rfl) _ _ _ rfl 2 0 false rfl rfl (by decide)) ?_
      simp only [Act.put, lzA, lzB, lzC]
      refine wl_yield (o := ⟨_, _, _, _, _, _⟩) (.bool false) (yl_assign (by rfl) _ rfl _ rfl) ?_
      simp only [Act.put, lzA, lzB, lzC]
      refine wpList_nil ?_
      refine hK5 _ _ ?_
      clear hK5 K5
      refine wp_cond_false rfl ?_
      refine wp_seq_k (fun K6 hK6 => ?_)
      refine wp_region_lit ?_
      refine wl_yield (o := ⟨_, _, _, _, _, _⟩) (.bool false) (yt_eqlI (by rfl) _ _ _ rfl 2 1 false rfl rfl (by decide)) ?_
      simp only [Act.put, lzA, lzB, lzC]
      refine wl_yield (o := ⟨_, _, _, _, _, _⟩) (.bool false) (yl_assign (by rfl) _ rfl _ rfl) ?_
      simp only [Act.put, lzA, lzB, lzC]
      refine wpList_nil ?_
      refine hK6 _ _ ?_
      clear hK6 K6
      refine wp_cond_false rfl ?_
      refine wp_seq_k (fun K7 hK7 => ?_)
      refine wp_region_lit ?_
      refine wl_yield (o := ⟨_, _, _, _, _, _⟩) (.bool true) (yt_eqlI (by rfl) _ _ _ rfl 2 2 true rfl rfl (by decide)) ?_
      simp only [Act.put, lzA, lzB, lzC]
      refine wl_yield (o := ⟨_, _, _, _, _, _⟩) (.bool true) (yl_assign (by rfl) _ rfl _ rfl) ?_
      simp only [Act.put, lzA, lzB, lzC]
      refine wpList_nil ?_
      refine hK7 _ _ ?_
      clear hK7 K7
      refine wp_cond_true rfl ?_
      refine wp_region_lit ?_
      refine wl_yield (o := ⟨_, _, _, _, _, _⟩) (.pointer (some ⟨b, 0, none⟩)) (yl_move (by rfl) _ rfl _ rfl) ?_
      simp only [Act.put, lzA, lzB, lzC]
      refine wt_call (o := ⟨_, _, _, _, _, _⟩) (by rfl) 124 _ _ rfl #[.pointer (some ⟨b, 0, none⟩), .int .i64 8] rfl (run_call Tryz.func124 (by kernel_rfl) (by kernel_rfl)) ?_
      refine (strP b 8 _ _ _ H (Nat.le_trans (byteO_le _ _) hz) (by decide) (by decide)).mono ?_
      rintro r v5 (⟨rfl, hr, kg⟩)
      · replace H := hr
        clear hr
        replace D := grown_trans D kg
        replace G1 := heap_gr G1 kg (Ne.symm n_b_g1)
        replace G3 := heap_gr G3 kg (Ne.symm n_b_g3)
        clear kg
        refine Or.inl ⟨.string (stO ((byteO l e).2.1) ((byteO l e).2.2)).1, rfl, ?_⟩
        simp only [Act.put, lzA, lzB, lzC]
        refine wl_yield (o := ⟨_, _, _, _, _, _⟩) (.pointer (some ⟨g3, 2, none⟩)) (yt_fVa2 (by rfl) _ rfl g3 0 rfl) ?_
        simp only [Act.put, lzA, lzB, lzC]
        refine wt_putS (o := ⟨_, _, _, _, _, _⟩) (by rfl) _ _ rfl _ 2 rfl _ rfl G3 (by simp) (fun v6 X kg => ?_)
        simp only [Act.put, lzA, lzB, lzC]
        replace D := gr_new D ge_g3 kg
        replace H := H.gr kg n_b_g3
        replace G1 := heap_gr G1 kg n_g1_g3
        clear kg
        replace G3 : v6.heap[g3]? = some (.cells #[.int .i64 2, .int .i64 0, .string (stO ((byteO l e).2.1) ((byteO l e).2.2)).1] 42 (0, 0)) := X
        clear X
        refine wpList_nil ?_
        refine hK3 _ _ ?_
        clear hK3 K3
        refine wp_seq_k (fun K8 hK8 => ?_)
        refine wp_region_lit ?_
        refine wl_yield (o := ⟨_, _, _, _, _, _⟩) (.agg #[.int .i64 2, .int .i64 0, .string (stO ((byteO l e).2.1) ((byteO l e).2.2)).1]) (yl_val (by rfl) _ rfl _ 0 rfl _ _ _ (fun _ h => by subst h; exact ⟨cell_heap G3 0, cell_heap G3 1, cell_heap G3 2⟩)) ?_
        simp only [Act.put, lzA, lzB, lzC]
        refine wt_putVa (o := ⟨_, _, _, _, _, _⟩) rfl _ _ rfl _ rfl ((2, 0, (stO ((byteO l e).2.1) ((byteO l e).2.2)).1)) rfl G1 rfl (fun v7 X kg => ?_)
        simp only [Act.put, lzA, lzB, lzC]
        replace D := gr_new D ge_g1 kg
        replace H := H.gr kg n_b_g1
        replace G3 := heap_gr G3 kg (Ne.symm n_g1_g3)
        clear kg
        replace G1 : v7.heap[g1]? = some (.cells #[.int .i64 2, .int .i64 0, .string (stO ((byteO l e).2.1) ((byteO l e).2.2)).1] 42 (0, 0)) := X
        clear X
        refine wpList_nil ?_
        refine hK8 _ _ ?_
        clear hK8 K8
        refine wp_ret ?_
        rw [hv]
        refine bodyPost_ret (results_cell_row rfl _ _ g1 42 _ (0, 0) _ rfl G1 Tryz.underlying42 rfl infoV) rfl ⟨rfl, H, D⟩
  · go_enter Tryz.func77, Tryz.ntmps77
    refine wp_seq_k (fun K1 hK1 => ?_)
    refine wp_region_lit ?_
    refine wt_allocVa (o := ⟨_, _, _, _, _, _⟩) (by rfl) rfl (fun v1 g1 hg G1 kb => ?_)
    simp only [Act.put, lzA, lzB, lzC]
    have n_b_g1 : b ≠ g1 := by have := H.lt; omega
    have ge_g1 : w.heap.size ≤ g1 := Nat.le_trans D.size hg
    clear hg
    replace D := grown_below D kb
    replace H := H.on kb
    clear kb
    replace G1 : v1.heap[g1]? = some (.cells #[.int .i64 0, .int .i64 0, .string (bs ([]))] 42 (0, 0)) := G1
    refine wpList_nil ?_
    refine hK1 _ _ ?_
    clear hK1 K1
    refine wp_seq_k (fun K2 hK2 => ?_)
    refine wp_region_lit ?_
    refine wl_yield (o := ⟨_, _, _, _, _, _⟩) (.pointer (some ⟨b, 0, none⟩)) (yl_move (by rfl) _ rfl _ rfl) ?_
    simp only [Act.put, lzA, lzB, lzC]
    refine wt_call (o := ⟨_, _, _, _, _, _⟩) (by rfl) 122 _ _ rfl #[.pointer (some ⟨b, 0, none⟩)] rfl (run_call Tryz.func122 (by kernel_rfl) (by kernel_rfl)) ?_
    refine (byteP b _ _ _ H hz).mono ?_
    rintro r v2 (⟨rfl, hr, kg⟩)
    · replace H := hr
      clear hr
      replace D := grown_trans D kg
      replace G1 := heap_gr G1 kg (Ne.symm n_b_g1)
      clear kg
      refine Or.inl ⟨.int .u8 ((byteO l e).1), rfl, ?_⟩
      simp only [Act.put, lzA, lzB, lzC]
      refine wl_yield (o := ⟨_, _, _, _, _, _⟩) (.int .i64 ((byteO l e).1)) (yw_yi (by rfl) _ rfl ((byteO l e).1) rfl ((byteO_lo l e).1) ((byteO_lo l e).2)) ?_
      simp only [Act.put, lzA, lzB, lzC]
      refine wl_yield (o := ⟨_, _, _, _, _, _⟩) (.agg #[.int .i64 ((byteO l e).1), .int .i64 0, .string ⟨#[]⟩]) (yw_buildV1 (by rfl) _ rfl ((byteO l e).1) rfl) ?_
      simp only [Act.put, lzA, lzB, lzC]
      refine wt_allocVa (o := ⟨_, _, _, _, _, _⟩) (by rfl) rfl (fun v3 g3 hg G3 kb => ?_)
      simp only [Act.put, lzA, lzB, lzC]
      have n_b_g3 : b ≠ g3 := by have := H.lt; omega
      have n_g1_g3 : g1 ≠ g3 := by have := lt_heap G1; omega
      have ge_g3 : w.heap.size ≤ g3 := Nat.le_trans D.size hg
      clear hg
      replace D := grown_below D kb
      replace H := H.on kb
      replace G1 := heap_on G1 kb
      clear kb
      replace G3 : v3.heap[g3]? = some (.cells #[.int .i64 0, .int .i64 0, .string (bs ([]))] 42 (0, 0)) := G3
      refine wt_putVa (o := ⟨_, _, _, _, _, _⟩) rfl _ _ rfl _ rfl (((byteO l e).1, 0, ⟨#[]⟩)) rfl G3 rfl (fun v4 X kg => ?_)
      simp only [Act.put, lzA, lzB, lzC]
      replace D := gr_new D ge_g3 kg
      replace H := H.gr kg n_b_g3
      replace G1 := heap_gr G1 kg n_g1_g3
      clear kg
      replace G3 : v4.heap[g3]? = some (.cells #[.int .i64 ((byteO l e).1), .int .i64 0, .string ⟨#[]⟩] 42 (0, 0)) := X
      clear X
      refine wpList_nil ?_
      refine hK2 _ _ ?_
      clear hK2 K2
      refine wp_seq_k (fun K3 hK3 => ?_)
      refine wp_seq_k (fun K4 hK4 => ?_)
      refine wp_region_lit ?_
      refine wl_yield (o := ⟨_, _, _, _, _, _⟩) (.pointer (some ⟨g3, 0, none⟩)) (yt_fVa0 (by rfl) _ rfl g3 0 rfl) ?_
      simp only [Act.put, lzA, lzB, lzC]
      refine wl_yield (o := ⟨_, _, _, _, _, _⟩) (.int .i64 ((byteO l e).1)) (yt_ldI (by rfl) _ rfl _ _ rfl ((byteO l e).1) (fun _ h => by subst h; exact cell_heap G3 0)) ?_
      simp only [Act.put, lzA, lzB, lzC]
      refine wpList_nil ?_
      refine hK4 _ _ ?_
      clear hK4 K4
      refine wp_block ?_
      refine wp_seq_k (fun K5 hK5 => ?_)
      refine wp_region_lit ?_
      refine wl_yield (o := ⟨_, _, _, _, _, _⟩) (.bool false) (yt_eqlI (by rfl) _ _ _ rfl ((byteO l e).1) 0 false rfl rfl (decide_eq_false h0)) ?_
      simp only [Act.put, lzA, lzB, lzC]
      refine wl_yield (o := ⟨_, _, _, _, _, _⟩) (.bool false) (yl_assign (by rfl) _ rfl _ rfl) ?_
      simp only [Act.put, lzA, lzB, lzC]
      refine wpList_nil ?_
      refine hK5 _ _ ?_
      clear hK5 K5
      refine wp_cond_false rfl ?_
      refine wp_seq_k (fun K6 hK6 => ?_)
      refine wp_region_lit ?_
      refine wl_yield (o := ⟨_, _, _, _, _, _⟩) (.bool false) (yt_eqlI (by rfl) _ _ _ rfl ((byteO l e).1) 1 false rfl rfl (decide_eq_false h1)) ?_
      simp only [Act.put, lzA, lzB, lzC]
      refine wl_yield (o := ⟨_, _, _, _, _, _⟩) (.bool false) (yl_assign (by rfl) _ rfl _ rfl) ?_
      simp only [Act.put, lzA, lzB, lzC]
      refine wpList_nil ?_
      refine hK6 _ _ ?_
      clear hK6 K6
      refine wp_cond_false rfl ?_
      refine wp_seq_k (fun K7 hK7 => ?_)
      refine wp_region_lit ?_
      refine wl_yield (o := ⟨_, _, _, _, _, _⟩) (.bool false) (yt_eqlI (by rfl) _ _ _ rfl ((byteO l e).1) 2 false rfl rfl (decide_eq_false h2)) ?_
      simp only [Act.put, lzA, lzB, lzC]
      refine wl_yield (o := ⟨_, _, _, _, _, _⟩) (.bool false) (yl_assign (by rfl) _ rfl _ rfl) ?_
      simp only [Act.put, lzA, lzB, lzC]
      refine wpList_nil ?_
      refine hK7 _ _ ?_
      clear hK7 K7
      refine wp_cond_false rfl ?_
      refine wp_region_lit ?_
      refine wl_yield (o := ⟨_, _, _, _, _, _⟩) (.pointer (some ⟨b, 0, none⟩)) (yl_move (by rfl) _ rfl _ rfl) ?_
      simp only [Act.put, lzA, lzB, lzC]
      refine wt_call (o := ⟨_, _, _, _, _, _⟩) (by rfl) 76 _ _ rfl #[.pointer (some ⟨b, 0, none⟩), .int .i64 2] rfl (run_call Tryz.func76 (by kernel_rfl) (by kernel_rfl)) ?_
      refine (failP b 2 _ _ _ H).mono ?_
      rintro r v5 (⟨⟨rvf, rfl⟩, hr, kg⟩)
      · replace H := hr
        clear hr
        replace D := grown_trans D kg
        replace G1 := heap_gr G1 kg (Ne.symm n_b_g1)
        replace G3 := heap_gr G3 kg (Ne.symm n_b_g3)
        clear kg
        refine Or.inl ⟨rvf, rfl, ?_⟩
        simp only [Act.put, lzA, lzB, lzC]
        refine wpList_nil ?_
        refine hK3 _ _ ?_
        clear hK3 K3
        refine wp_seq_k (fun K8 hK8 => ?_)
        refine wp_region_lit ?_
        refine wl_yield (o := ⟨_, _, _, _, _, _⟩) (.agg #[.int .i64 ((byteO l e).1), .int .i64 0, .string ⟨#[]⟩]) (yl_val (by rfl) _ rfl _ 0 rfl _ _ _ (fun _ h => by subst h; exact ⟨cell_heap G3 0, cell_heap G3 1, cell_heap G3 2⟩)) ?_
        simp only [Act.put, lzA, lzB, lzC]
        refine wt_putVa (o := ⟨_, _, _, _, _, _⟩) rfl _ _ rfl _ rfl (((byteO l e).1, 0, ⟨#[]⟩)) rfl G1 rfl (fun v6 X kg => ?_)
        simp only [Act.put, lzA, lzB, lzC]
        replace D := gr_new D ge_g1 kg
        replace H := H.gr kg n_b_g1
        replace G3 := heap_gr G3 kg (Ne.symm n_g1_g3)
        clear kg
        replace G1 : v6.heap[g1]? = some (.cells #[.int .i64 ((byteO l e).1), .int .i64 0, .string ⟨#[]⟩] 42 (0, 0)) := X
        clear X
        refine wpList_nil ?_
        refine hK8 _ _ ?_
        clear hK8 K8
        refine wp_ret ?_
        rw [hv]
        refine bodyPost_ret (results_cell_row rfl _ _ g1 42 _ (0, 0) _ rfl G1 Tryz.underlying42 rfl infoV) rfl ⟨rfl, H, D⟩
def evK (l : List UInt8) (e : Int) : Nat → EvV
  | 0 => evZ
  | k + 1 => (evK l e k).put k (valO (iterO valO k l e).2.1 (iterO valO k l e).2.2).1
theorem evK_4 (l : List UInt8) (e : Int) : evK l e 4 = (evsO l e).1 := rfl
theorem evI_4 (l : List UInt8) (e : Int) : (iterO valO 4 l e).2 = (evsO l e).2 := rfl
theorem evO_yes {l : List UInt8} {e : Int} (h : (evsO l e).2.2 = 0) : evO l e = evsO l e := by unfold evO; rw [if_pos h]
theorem evO_no {l : List UInt8} {e : Int} (h : ¬ (evsO l e).2.2 = 0) : evO l e = (evZ, (evsO l e).2) := by unfold evO; rw [if_neg h]; rfl
set_option maxHeartbeats 4000000 in
set_option maxRecDepth 100000 in
theorem takeEvent_any (b : Nat) (l : List UInt8) (e : Int) (w : World) (H : PS w b l e) (hz : l.length ≤ 1048576) :
    Calls Tryz.prog 35 #[.pointer (some ⟨b, 0, none⟩)] w fun r w' => r = .returned (evVal (evO l e).1) ∧ PS w' b (evO l e).2.1 (evO l e).2.2 ∧ w.grownBy w' (some b) := by
  have D : w.grownBy w (some b) := grown_refl _ _
  go_enter Tryz.func35, Tryz.ntmps35
  refine wp_seq_k (fun K1 hK1 => ?_)
  refine wp_region_lit ?_
  refine wt_allocEv (o := ⟨_, _, _, _, _, _⟩) (by rfl) rfl (fun v1 g1 hg G1 kb => ?_)
  simp only [Act.put, lzA, lzB, lzC]
  have n_b_g1 : b ≠ g1 := by have := H.lt; omega
  have ge_g1 : w.heap.size ≤ g1 := Nat.le_trans D.size hg
  clear hg
  replace D := grown_below D kb
  replace H := H.on kb
  clear kb
  replace G1 : EvIn v1 g1 evZ := G1
  refine wpList_nil ?_
  refine hK1 _ _ ?_
  clear hK1 K1
  refine wp_seq_k (fun K2 hK2 => ?_)
  refine wp_region_lit ?_
  refine wt_allocEv (o := ⟨_, _, _, _, _, _⟩) (by rfl) rfl (fun v2 g2 hg G2 kb => ?_)
  simp only [Act.put, lzA, lzB, lzC]
  have n_b_g2 : b ≠ g2 := by have := H.lt; omega
  have n_g1_g2 : g1 ≠ g2 := by have := lt_heap G1; omega
  have ge_g2 : w.heap.size ≤ g2 := Nat.le_trans D.size hg
  clear hg
  replace D := grown_below D kb
  replace H := H.on kb
  replace G1 := heap_on G1 kb
  clear kb
  replace G2 : EvIn v2 g2 evZ := G2
  refine wpList_nil ?_
  refine hK2 _ _ ?_
  clear hK2 K2
  refine wp_seq_k (fun K3 hK3 => ?_)
  refine wp_seq_k (fun K4 hK4 => ?_)
  refine wp_region_lit ?_
  refine wl_yield (o := ⟨_, _, _, _, _, _⟩) (.int .i64 0) (yl_move (by rfl) _ rfl _ rfl) ?_
  simp only [Act.put, lzA, lzB, lzC]
  refine wpList_nil ?_
  refine hK4 _ _ ?_
  clear hK4 K4
  refine wp_block ?_
  go_loopw [5] (fun i wr => ∃ k : Nat, i = .int .i64 k ∧ k ≤ 4 ∧ EvIn wr g1 evZ ∧ EvIn wr g2 (evK l e k) ∧ PS wr b (iterO valO k l e).2.1 (iterO valO k l e).2.2 ∧ w.grownBy wr (some b)) (fun i _ => 4 - (intOf i).toNat)
  case atStart => exact ⟨0, rfl, by omega, G1, G2, H, D⟩
  case round =>
    clear D H G1 G2
    obtain ⟨k, rfl, hk, G1, G2, H, D⟩ := hrel
    by_cases hlt : k < 4
    · refine wp_seq_k (fun K5 hK5 => ?_)
      refine wp_region_lit ?_
      refine wl_yield (o := ⟨_, _, _, _, _, _⟩) (.bool true) (yt_lssI (by rfl) _ _ _ rfl (((k : Nat) : Int)) 4 true rfl rfl (decide_eq_true (by omega))) ?_
      simp only [Act.put, lzA, lzB, lzC]
      refine wpList_nil ?_
      refine hK5 _ _ ?_
      clear hK5 K5
      refine wp_seq_k (fun K6 hK6 => ?_)
      refine wp_cond_true rfl ?_
      refine wp_skip ?_
      refine hK6 _ _ ?_
      clear hK6 K6
      refine wp_seq_k (fun K7 hK7 => ?_)
      refine wp_block ?_
      refine wp_seq_k (fun K8 hK8 => ?_)
      refine wp_region_lit ?_
      refine wl_yield (o := ⟨_, _, _, _, _, _⟩) (.int .i64 (k : Nat)) (yl_move (by rfl) _ rfl _ rfl) ?_
      simp only [Act.put, lzA, lzB, lzC]
      refine wl_yield (o := ⟨_, _, _, _, _, _⟩) (.int .i64 (k : Nat)) (yl_assign (by rfl) _ rfl _ rfl) ?_
      simp only [Act.put, lzA, lzB, lzC]
      refine wpList_nil ?_
      refine hK8 _ _ ?_
      clear hK8 K8
      refine wp_region_lit ?_
      refine wl_yield (o := ⟨_, _, _, _, _, _⟩) (.int .i64 (k : Nat)) (yl_move (by rfl) _ rfl _ rfl) ?_
      simp only [Act.put, lzA, lzB, lzC]
      refine wl_yield (o := ⟨_, _, _, _, _, _⟩) (.pointer (some ⟨b, 0, none⟩)) (yl_move (by rfl) _ rfl _ rfl) ?_
      simp only [Act.put, lzA, lzB, lzC]
      refine wt_call (o := ⟨_, _, _, _, _, _⟩) (by rfl) 77 _ _ rfl #[.pointer (some ⟨b, 0, none⟩)] rfl (run_call Tryz.func77 (by kernel_rfl) (by kernel_rfl)) ?_
      refine (takeValue_any b _ _ _ H (Nat.le_trans (valO_tk.iter_le k l e) hz)).mono ?_
      rintro r v3 (⟨rfl, hr, kg⟩)
      · replace H := hr
        clear hr
        replace D := grown_trans D kg
        replace G1 := heap_gr G1 kg (Ne.symm n_b_g1)
        replace G2 := heap_gr G2 kg (Ne.symm n_b_g2)
        clear kg
        refine Or.inl ⟨vVal ((valO ((iterO valO k l e).2.1) ((iterO valO k l e).2.2)).1), rfl, ?_⟩
        simp only [Act.put, lzA, lzB, lzC]
        refine wl_yield (o := ⟨_, _, _, _, _, _⟩) (.pointer (some ⟨g2, k * 3, none⟩)) (yl_atEv (by rfl) _ _ rfl g2 k rfl rfl (hlt)) ?_
        simp only [Act.put, lzA, lzB, lzC]
        refine wt_putEv1 (o := ⟨_, _, _, _, _, _⟩) rfl _ _ rfl g2 k hlt rfl ((valO ((iterO valO k l e).2.1) ((iterO valO k l e).2.2)).1) rfl G2 (fun v4 X kg => ?_)
        simp only [Act.put, lzA, lzB, lzC]
        replace D := gr_new D ge_g2 kg
        replace H := H.gr kg n_b_g2
        replace G1 := heap_gr G1 kg n_g1_g2
        clear kg
        replace G2 : EvIn v4 g2 (EvV.put (evK l e k) k ((valO ((iterO valO k l e).2.1) ((iterO valO k l e).2.2)).1)) := X
        clear X
        refine wpList_nil ?_
        refine hK7 _ _ ?_
        clear hK7 K7
        refine wp_region_lit ?_
        refine wl_yield (o := ⟨_, _, _, _, _, _⟩) (.int .i64 (k + 1 : Nat)) (yt_addI (by rfl) _ _ _ rfl (((k : Nat) : Int)) 1 (((k + 1 : Nat) : Int)) rfl rfl (by omega) (by omega) (by omega)) ?_
        simp only [Act.put, lzA, lzB, lzC]
        refine wl_yield (o := ⟨_, _, _, _, _, _⟩) (.int .i64 (k + 1 : Nat)) (yl_move (by rfl) _ rfl _ rfl) ?_
        simp only [Act.put, lzA, lzB, lzC]
        refine wpList_nil ?_
        show _ ∧ _
        go_roundw
        case rel => exact ⟨k + 1, rfl, by omega, G1, G2, H, D⟩
        case measure => simp [intOf]; omega
    · obtain rfl : k = 4 := by omega
      rw [evK_4] at G2
      rw [evI_4] at H
      refine wp_seq_k (fun K5 hK5 => ?_)
      refine wp_region_lit ?_
      refine wl_yield (o := ⟨_, _, _, _, _, _⟩) (.bool false) (yt_lssI (by rfl) _ _ _ rfl 4 4 false rfl rfl (by decide)) ?_
      simp only [Act.put, lzA, lzB, lzC]
      refine wpList_nil ?_
      refine hK5 _ _ ?_
      clear hK5 K5
      refine wp_seq_k (fun K6 hK6 => ?_)
      refine wp_cond_false rfl ?_
      refine wp_exit ?_
      refine hK3 _ _ ?_
      clear hK6 K6 hK3 K3
      refine wp_seq_k (fun K7 hK7 => ?_)
      refine wp_seq_k (fun K8 hK8 => ?_)
      refine wp_region_lit ?_
      refine wl_yield (o := ⟨_, _, _, _, _, _⟩) (.pointer (some ⟨b, 0, none⟩)) (yl_move (by rfl) _ rfl _ rfl) ?_
      simp only [Act.put, lzA, lzB, lzC]
      refine wt_call (o := ⟨_, _, _, _, _, _⟩) (by rfl) 36 _ _ rfl #[.pointer (some ⟨b, 0, none⟩)] rfl (run_call Tryz.func36 (by kernel_rfl) (by kernel_rfl)) ?_
      refine (c_err H).mono ?_
      rintro r v3 ⟨rfl, kb⟩
      replace D := grown_below D kb
      replace H := H.on kb
      replace G1 := heap_on G1 kb
      replace G2 := heap_on G2 kb
      clear kb
      refine Or.inl ⟨.int .i64 ((evsO l e).2.2), rfl, ?_⟩
      simp only [Act.put, lzA, lzB, lzC]
      refine wl_yield (o := ⟨_, _, _, _, _, _⟩) (.bool (decide (¬ (evsO l e).2.2 = 0))) (yt_neqE (by rfl) _ _ _ rfl ((evsO l e).2.2) 0 (decide (¬ (evsO l e).2.2 = 0)) rfl rfl (rfl)) ?_
      simp only [Act.put, lzA, lzB, lzC]
      refine wpList_nil ?_
      refine hK8 _ _ ?_
      clear hK8 K8
      refine wp_cond_split (t := (decide (¬ (evsO l e).2.2 = 0))) rfl (fun hc => ?_) (fun hc => ?_)
      · have he : ¬ (evsO l e).2.2 = 0 := of_decide_eq_true hc
        refine wp_seq_k (fun K9 hK9 => ?_)
        refine wp_region_lit ?_
        refine wl_yield (o := ⟨_, _, _, _, _, _⟩) (evVal evZ) (yw_zeroE (by rfl) rfl) ?_
        simp only [Act.put, lzA, lzB, lzC]
        refine wt_putEv (o := ⟨_, _, _, _, _, _⟩) rfl _ _ rfl g1 rfl evZ rfl G1 rfl (fun v4 X kg => ?_)
        simp only [Act.put, lzA, lzB, lzC]
        replace D := gr_new D ge_g1 kg
        replace H := H.gr kg n_b_g1
        replace G2 := heap_gr G2 kg (Ne.symm n_g1_g2)
        clear kg
        replace G1 : EvIn v4 g1 evZ := X
        clear X
        refine wpList_nil ?_
        refine hK9 _ _ ?_
        clear hK9 K9
        refine wp_ret ?_
        try simp only [Exit.inBlock, Exit.then]
        rw [evO_no he]
        refine bodyPost_ret (results_cell_row rfl _ _ g1 44 _ (0, 0) _ rfl G1 Tryz.underlying44 rfl infoEv12) rfl ⟨rfl, H, D⟩
      · have he : (evsO l e).2.2 = 0 := Decidable.not_not.1 <| of_decide_eq_false hc
        refine wp_skip ?_
        refine hK7 _ _ ?_
        clear hK7 K7
        refine wp_seq_k (fun K9 hK9 => ?_)
        refine wp_region_lit ?_
        refine wl_yield (o := ⟨_, _, _, _, _, _⟩) (evVal ((evsO l e).1)) (yl_ev (by rfl) _ rfl _ 0 rfl _ _ _ _ _ _ _ _ _ _ _ _ (fun _ h => by subst h; exact EvIn.cells G2)) ?_
        simp only [Act.put, lzA, lzB, lzC]
        refine wt_putEv (o := ⟨_, _, _, _, _, _⟩) rfl _ _ rfl g1 rfl ((evsO l e).1) rfl G1 rfl (fun v4 X kg => ?_)
        simp only [Act.put, lzA, lzB, lzC]
        replace D := gr_new D ge_g1 kg
        replace H := H.gr kg n_b_g1
        replace G2 := heap_gr G2 kg (Ne.symm n_g1_g2)
        clear kg
        replace G1 : EvIn v4 g1 ((evsO l e).1) := X
        clear X
        refine wpList_nil ?_
        refine hK9 _ _ ?_
        clear hK9 K9
        refine wp_ret ?_
        try simp only [Exit.inBlock, Exit.then]
        rw [evO_yes he]
        refine bodyPost_ret (results_cell_row rfl _ _ g1 44 _ (0, 0) _ rfl G1 Tryz.underlying44 rfl infoEv12) rfl ⟨rfl, H, D⟩
end Go.Proofs.YtlmdcaemjaldfaaGreat
namespace Go.Proofs.YtlmdcaemjaldfaaGreat
open Go.RowKit
theorem neq1 {p : Int} (h0 : 0 ≤ p) : decide (¬ p % 2 = 0) = decide (p % 2 = 1) := by
  by_cases h : p % 2 = 1
  · rw [decide_eq_true h, decide_eq_true (by omega)]
  · rw [decide_eq_false h, decide_eq_false (by omega)]
theorem neq2 {p : Int} : decide (¬ (if p / 2 % 2 = 1 then (2 : Int) else 0) = 0) = decide (p / 2 % 2 = 1) := by
  by_cases h : p / 2 % 2 = 1
  · rw [if_pos h, decide_eq_true h]; rfl
  · rw [if_neg h, decide_eq_false h]; rfl
theorem flO_gt {l : List UInt8} {e : Int} (h : 3 < (byteO l e).1) : (flO l e).2 = failO 2 (byteO l e).2.1 (byteO l e).2.2 := if_pos h
theorem flO_le {l : List UInt8} {e : Int} (h : ¬ 3 < (byteO l e).1) : (flO l e).2 = (byteO l e).2 := if_neg h
set_option maxHeartbeats 4000000 in
set_option maxRecDepth 100000 in
theorem takeSet_any (b : Nat) (l : List UInt8) (e : Int) (w : World) (H : PS w b l e) (hz : l.length ≤ 1048576) :
    Calls Tryz.prog 121 #[.pointer (some ⟨b, 0, none⟩)] w fun r w' => (∃ s : SC, r = .returned s.val ∧ (∀ w'', Kept w.heap.size w' w'' → SetAt w'' s.val (setO l e).1) ∧ PS w' b (setO l e).2.1 (setO l e).2.2 ∧ w.grownBy w' (some b)) := by
  have D : w.grownBy w (some b) := grown_refl _ _
  go_enter Tryz.func121, Tryz.ntmps121
  refine wp_seq_k (fun K1 hK1 => ?_)
  refine wp_region_lit ?_
  refine wt_allocSt (o := ⟨_, _, _, _, _, _⟩) (by rfl) rfl (fun v1 g1 hg G1 kb => ?_)
  simp only [Act.put, lzA, lzB, lzC]
  have n_b_g1 : b ≠ g1 := by have := H.lt; omega
  have ge_g1 : w.heap.size ≤ g1 := Nat.le_trans D.size hg
  clear hg
  replace D := grown_below D kb
  replace H := H.on kb
  clear kb
  replace G1 : v1.heap[g1]? = some (.cells #[.bool false, .slice none 0 0, .bool false, .slice none 0 0] 25 (0, 0)) := G1
  refine wpList_nil ?_
  refine hK1 _ _ ?_
  clear hK1 K1
  refine wp_seq_k (fun K2 hK2 => ?_)
  refine wp_region_lit ?_
  refine wl_yield (o := ⟨_, _, _, _, _, _⟩) (.pointer (some ⟨b, 0, none⟩)) (yl_move (by rfl) _ rfl _ rfl) ?_
  simp only [Act.put, lzA, lzB, lzC]
  refine wt_call (o := ⟨_, _, _, _, _, _⟩) (by rfl) 122 _ _ rfl #[.pointer (some ⟨b, 0, none⟩)] rfl (run_call Tryz.func122 (by kernel_rfl) (by kernel_rfl)) ?_
  refine (byteP b _ _ _ H hz).mono ?_
  rintro r v2 (⟨rfl, hr, kg⟩)
  · replace H := hr
    clear hr
    replace D := grown_trans D kg
    replace G1 := heap_gr G1 kg (Ne.symm n_b_g1)
    clear kg
    refine Or.inl ⟨.int .u8 (byteO l e).1, rfl, ?_⟩
    simp only [Act.put, lzA, lzB, lzC]
    refine wl_yield (o := ⟨_, _, _, _, _, _⟩) (.int .u8 (byteO l e).1) (yl_assign (by rfl) _ rfl _ rfl) ?_
    simp only [Act.put, lzA, lzB, lzC]
    refine wpList_nil ?_
    refine hK2 _ _ ?_
    clear hK2 K2
    refine wp_seq_k (fun K3 hK3 => ?_)
    refine wp_seq_k (fun K4 hK4 => ?_)
    refine wp_region_lit ?_
    refine wl_yield (o := ⟨_, _, _, _, _, _⟩) (.int .u8 (byteO l e).1) (yl_move (by rfl) _ rfl _ rfl) ?_
    simp only [Act.put, lzA, lzB, lzC]
    refine wl_yield (o := ⟨_, _, _, _, _, _⟩) (.bool (decide ((byteO l e).1 > 3))) (yw_gtrY (by rfl) _ _ _ rfl (byteO l e).1 3 (decide ((byteO l e).1 > 3)) rfl rfl (rfl)) ?_
    simp only [Act.put, lzA, lzB, lzC]
    refine wpList_nil ?_
    refine hK4 _ _ ?_
    clear hK4 K4
    refine wp_cond_split (t := (decide ((byteO l e).1 > 3))) rfl (fun hc => ?_) (fun hc => ?_)
    · have h3 : 3 < (byteO l e).1 := of_decide_eq_true hc
      refine wp_region_lit ?_
      refine wl_yield (o := ⟨_, _, _, _, _, _⟩) (.pointer (some ⟨b, 0, none⟩)) (yl_move (by rfl) _ rfl _ rfl) ?_
      simp only [Act.put, lzA, lzB, lzC]
      refine wt_call (o := ⟨_, _, _, _, _, _⟩) (by rfl) 76 _ _ rfl #[.pointer (some ⟨b, 0, none⟩), .int .i64 2] rfl (run_call Tryz.func76 (by kernel_rfl) (by kernel_rfl)) ?_
      refine (failP b 2 _ _ _ H).mono ?_
      rintro r v3 (⟨⟨rvf, rfl⟩, hr, kg⟩)
      · replace H := hr
        clear hr
        replace D := grown_trans D kg
        replace G1 := heap_gr G1 kg (Ne.symm n_b_g1)
        clear kg
        replace H : PS v3 b (flO l e).2.1 (flO l e).2.2 := by rw [flO_gt h3]; exact H
        refine Or.inl ⟨rvf, rfl, ?_⟩
        simp only [Act.put, lzA, lzB, lzC]
        refine wpList_nil ?_
        refine hK3 _ _ ?_
        clear hK3 K3
        refine wp_seq_k (fun K5 hK5 => ?_)
        refine wp_region_lit ?_
        refine wl_yield (o := ⟨_, _, _, _, _, _⟩) (.int .u8 (byteO l e).1) (yl_move (by rfl) _ rfl _ rfl) ?_
        simp only [Act.put, lzA, lzB, lzC]
        refine wl_yield (o := ⟨_, _, _, _, _, _⟩) (.int .u8 ((byteO l e).1 % 2)) (yw_andY (by rfl) _ _ _ rfl (byteO l e).1 1 rfl rfl ((byteO l e).1 % 2) (and1 (byteO_lo l e).1 (byteO_lo l e).2)) ?_
        simp only [Act.put, lzA, lzB, lzC]
        refine wl_yield (o := ⟨_, _, _, _, _, _⟩) (.bool (decide ((byteO l e).1 % 2 = 1))) (yw_neqY (by rfl) _ _ _ rfl ((byteO l e).1 % 2) 0 (decide ((byteO l e).1 % 2 = 1)) rfl rfl (neq1 (byteO_lo l e).1)) ?_
        simp only [Act.put, lzA, lzB, lzC]
        refine wl_yield (o := ⟨_, _, _, _, _, _⟩) (.int .u8 (byteO l e).1) (yl_move (by rfl) _ rfl _ rfl) ?_
        simp only [Act.put, lzA, lzB, lzC]
        refine wl_yield (o := ⟨_, _, _, _, _, _⟩) (.int .u8 (if (byteO l e).1 / 2 % 2 = 1 then 2 else 0)) (yw_andY (by rfl) _ _ _ rfl (byteO l e).1 2 rfl rfl (if (byteO l e).1 / 2 % 2 = 1 then 2 else 0) (and2 (byteO_lo l e).1 (byteO_lo l e).2)) ?_
        simp only [Act.put, lzA, lzB, lzC]
        refine wl_yield (o := ⟨_, _, _, _, _, _⟩) (.bool (decide ((byteO l e).1 / 2 % 2 = 1))) (yw_neqY (by rfl) _ _ _ rfl (if (byteO l e).1 / 2 % 2 = 1 then 2 else 0) 0 (decide ((byteO l e).1 / 2 % 2 = 1)) rfl rfl (neq2)) ?_
        simp only [Act.put, lzA, lzB, lzC]
        refine wl_yield (o := ⟨_, _, _, _, _, _⟩) (.agg #[.bool (decide ((byteO l e).1 % 2 = 1)), .slice none 0 0, .bool (decide ((byteO l e).1 / 2 % 2 = 1)), .slice none 0 0]) (yw_buildSt (by rfl) _ _ rfl (decide ((byteO l e).1 % 2 = 1)) (decide ((byteO l e).1 / 2 % 2 = 1)) rfl rfl) ?_
        simp only [Act.put, lzA, lzB, lzC]
        refine wt_allocSt (o := ⟨_, _, _, _, _, _⟩) (by rfl) rfl (fun v4 g4 hg G4 kb => ?_)
        simp only [Act.put, lzA, lzB, lzC]
        have n_b_g4 : b ≠ g4 := by have := H.lt; omega
        have n_g1_g4 : g1 ≠ g4 := by have := lt_heap G1; omega
        have ge_g4 : w.heap.size ≤ g4 := Nat.le_trans D.size hg
        clear hg
        replace D := grown_below D kb
        replace H := H.on kb
        replace G1 := heap_on G1 kb
        clear kb
        replace G4 : v4.heap[g4]? = some (.cells #[.bool false, .slice none 0 0, .bool false, .slice none 0 0] 25 (0, 0)) := G4
        refine wt_putSt (o := ⟨_, _, _, _, _, _⟩) rfl _ _ rfl _ rfl (⟨decide ((byteO l e).1 % 2 = 1), none, 0, 0, decide ((byteO l e).1 / 2 % 2 = 1), none, 0, 0⟩) rfl G4 rfl (fun v5 X kg => ?_)
        simp only [Act.put, lzA, lzB, lzC]
        replace D := gr_new D ge_g4 kg
        replace H := H.gr kg n_b_g4
        replace G1 := heap_gr G1 kg n_g1_g4
        clear kg
        replace G4 : v5.heap[g4]? = some (.cells #[.bool (decide ((byteO l e).1 % 2 = 1)), .slice none 0 0, .bool (decide ((byteO l e).1 / 2 % 2 = 1)), .slice none 0 0] 25 (0, 0)) := X
        clear X
        refine wpList_nil ?_
        refine hK5 _ _ ?_
        clear hK5 K5
        refine wp_seq_k (fun K6 hK6 => ?_)
        refine wp_seq_k (fun K7 hK7 => ?_)
        refine wp_region_lit ?_
        refine wl_yield (o := ⟨_, _, _, _, _, _⟩) (.pointer (some ⟨b, 0, none⟩)) (yl_move (by rfl) _ rfl _ rfl) ?_
        simp only [Act.put, lzA, lzB, lzC]
        refine wt_call (o := ⟨_, _, _, _, _, _⟩) (by rfl) 74 _ _ rfl #[.pointer (some ⟨b, 0, none⟩), .int .u64 6] rfl (run_call Tryz.func74 (by kernel_rfl) (by kernel_rfl)) ?_
        refine (takeCount_any b 6 _ _ _ H (Nat.le_trans (flO_tk.le l e) hz)).mono ?_
        rintro r v6 (⟨rfl, hr, kg⟩)
        · replace H := hr
          clear hr
          replace D := grown_trans D kg
          replace G1 := heap_gr G1 kg (Ne.symm n_b_g1)
          replace G4 := heap_gr G4 kg (Ne.symm n_b_g4)
          clear kg
          refine Or.inl ⟨.int .u64 (((cntO 6 (flO l e).2.1 (flO l e).2.2).1 : Nat) : Int), rfl, ?_⟩
          simp only [Act.put, lzA, lzB, lzC]
          refine wl_yield (o := ⟨_, _, _, _, _, _⟩) (.int .u64 0) (yl_move (by rfl) _ rfl _ rfl) ?_
          simp only [Act.put, lzA, lzB, lzC]
          refine wpList_nil ?_
          refine hK7 _ _ ?_
          clear hK7 K7
          refine wp_block ?_
          go_loopw [21] (fun i wr => ∃ (k : Nat) (p : Option Addr) (c : Nat), i = .int .u64 ((k : Nat) : Int) ∧ k ≤ (cntO 6 (flO l e).2.1 (flO l e).2.2).1 ∧ wr.heap[g4]? = some (.cells #[.bool (decide ((byteO l e).1 % 2 = 1)), .slice p ((iterO rgO k (cntO 6 (flO l e).2.1 (flO l e).2.2).2.1 (cntO 6 (flO l e).2.1 (flO l e).2.2).2.2).1).length c, .bool (decide ((byteO l e).1 / 2 % 2 = 1)), .slice none 0 0] 25 (0, 0)) ∧ wr.heap[g1]? = some (.cells #[.bool false, .slice none 0 0, .bool false, .slice none 0 0] 25 (0, 0)) ∧ RowR wr w.heap.size (.slice p ((iterO rgO k (cntO 6 (flO l e).2.1 (flO l e).2.2).2.1 (cntO 6 (flO l e).2.1 (flO l e).2.2).2.2).1).length c) ((iterO rgO k (cntO 6 (flO l e).2.1 (flO l e).2.2).2.1 (cntO 6 (flO l e).2.1 (flO l e).2.2).2.2).1) ∧ PS wr b (iterO rgO k (cntO 6 (flO l e).2.1 (flO l e).2.2).2.1 (cntO 6 (flO l e).2.1 (flO l e).2.2).2.2).2.1 (iterO rgO k (cntO 6 (flO l e).2.1 (flO l e).2.2).2.1 (cntO 6 (flO l e).2.1 (flO l e).2.2).2.2).2.2 ∧ w.grownBy wr (some b)) (fun i _ => (cntO 6 (flO l e).2.1 (flO l e).2.2).1 - (intOf i).toNat)
          case atStart => exact ⟨0, none, 0, rfl, Nat.zero_le _, G4, G1, RowR.nil _ _, H, D⟩
          case round =>
            clear D H G4 G1
            obtain ⟨k, p, c, rfl, hk, G4, G1, RI, H, D⟩ := hrel
            by_cases hlt : k < (cntO 6 (flO l e).2.1 (flO l e).2.2).1
            · have hm : (cntO 6 (flO l e).2.1 (flO l e).2.2).1 ≤ 6 := cntO_most 6 _ _
              refine wp_seq_k (fun K8 hK8 => ?_)
              refine wp_region_lit ?_
              refine wl_yield (o := ⟨_, _, _, _, _, _⟩) (.bool true) (yw_lssU (by rfl) _ _ _ rfl ((k : Nat) : Int) (((cntO 6 (flO l e).2.1 (flO l e).2.2).1 : Nat) : Int) true rfl rfl (decide_eq_true (by omega))) ?_
              simp only [Act.put, lzA, lzB, lzC]
              refine wpList_nil ?_
              refine hK8 _ _ ?_
              clear hK8 K8
              refine wp_seq_k (fun K9 hK9 => ?_)
              refine wp_cond_true rfl ?_
              refine wp_skip ?_
              refine hK9 _ _ ?_
              clear hK9 K9
              refine wp_seq_k (fun K10 hK10 => ?_)
              refine wp_block ?_
              refine wp_seq_k (fun K11 hK11 => ?_)
              refine wp_region_lit ?_
              refine wl_yield (o := ⟨_, _, _, _, _, _⟩) (.pointer (some ⟨b, 0, none⟩)) (yl_move (by rfl) _ rfl _ rfl) ?_
              simp only [Act.put, lzA, lzB, lzC]
              refine wt_call (o := ⟨_, _, _, _, _, _⟩) (by rfl) 123 _ _ rfl #[.pointer (some ⟨b, 0, none⟩)] rfl (run_call Tryz.func123 (by kernel_rfl) (by kernel_rfl)) ?_
              refine (intP b _ _ _ H (Nat.le_trans (rgO_tk.iter_le _ _ _) (Nat.le_trans ((cntO_tk 6 (by decide)).le _ _) (Nat.le_trans (flO_tk.le l e) hz)))).mono ?_
              rintro r v7 (⟨rfl, hr, kg⟩)
              · replace RI := H.row RI kg (by decide)
                replace H := hr
                clear hr
                replace D := grown_trans D kg
                replace G1 := heap_gr G1 kg (Ne.symm n_b_g1)
                replace G4 := heap_gr G4 kg (Ne.symm n_b_g4)
                clear kg
                refine Or.inl ⟨.int .i64 ((intO (iterO rgO k (cntO 6 (flO l e).2.1 (flO l e).2.2).2.1 (cntO 6 (flO l e).2.1 (flO l e).2.2).2.2).2.1 (iterO rgO k (cntO 6 (flO l e).2.1 (flO l e).2.2).2.1 (cntO 6 (flO l e).2.1 (flO l e).2.2).2.2).2.2).1), rfl, ?_⟩
                simp only [Act.put, lzA, lzB, lzC]
                refine wl_yield (o := ⟨_, _, _, _, _, _⟩) (.int .i64 ((intO (iterO rgO k (cntO 6 (flO l e).2.1 (flO l e).2.2).2.1 (cntO 6 (flO l e).2.1 (flO l e).2.2).2.2).2.1 (iterO rgO k (cntO 6 (flO l e).2.1 (flO l e).2.2).2.1 (cntO 6 (flO l e).2.1 (flO l e).2.2).2.2).2.2).1)) (yl_assign (by rfl) _ rfl _ rfl) ?_
                simp only [Act.put, lzA, lzB, lzC]
                refine wpList_nil ?_
                refine hK11 _ _ ?_
                clear hK11 K11
                refine wp_region_late (S := fun w' => w'.heap[g4]? = some (.cells #[.bool (decide ((byteO l e).1 % 2 = 1)), .slice p ((iterO rgO k (cntO 6 (flO l e).2.1 (flO l e).2.2).2.1 (cntO 6 (flO l e).2.1 (flO l e).2.2).2.2).1).length c, .bool (decide ((byteO l e).1 / 2 % 2 = 1)), .slice none 0 0] 25 (0, 0))) (late := fun j => [9].contains j) (by kernel_rfl) ?_
                have kb : Below v7.heap.size v7 v7.drew := (Below.refl _ v7).drew
                replace D := grown_below D kb
                replace RI := ownsRow_on RI kb
                replace H := H.on kb
                replace G1 := heap_on G1 kb
                replace G4 := heap_on G4 kb
                clear kb
                generalize v7.drew = v8 at D H G1 G4 RI ⊢
                refine wpAnyL_pure (i := 0) (oi := ⟨_, _, _, _, _, _⟩) (v := .pointer (some ⟨g4, 1, none⟩)) rfl (by kernel_rfl) (by kernel_rfl) (by kernel_rfl) (fun _ _ _ h => h) (yt_fSt1 (by rfl) _ rfl g4 0 rfl) ?_
                simp only [Act.put, lzA, lzB, lzC]
                refine wpAnyL_load (i := 1) (oi := ⟨_, _, _, _, _, _⟩) (v := .slice p ((iterO rgO k (cntO 6 (flO l e).2.1 (flO l e).2.2).2.1 (cntO 6 (flO l e).2.1 (flO l e).2.2).2.2).1).length c) rfl (by kernel_rfl) (by kernel_rfl) (by kernel_rfl) (by kernel_rfl) (fun _ _ _ h => h) (yt_ldLr (by rfl) _ rfl _ _ rfl p ((iterO rgO k (cntO 6 (flO l e).2.1 (flO l e).2.2).2.1 (cntO 6 (flO l e).2.1 (flO l e).2.2).2.2).1).length c (fun _ h => cell_heap h 1)) G4 ?_
                simp only [Act.put, lzA, lzB, lzC]
                refine wpAnyL_pure (i := 2) (oi := ⟨_, _, _, _, _, _⟩) (v := .int .i64 ((intO (iterO rgO k (cntO 6 (flO l e).2.1 (flO l e).2.2).2.1 (cntO 6 (flO l e).2.1 (flO l e).2.2).2.2).2.1 (iterO rgO k (cntO 6 (flO l e).2.1 (flO l e).2.2).2.1 (cntO 6 (flO l e).2.1 (flO l e).2.2).2.2).2.2).1)) rfl (by kernel_rfl) (by kernel_rfl) (by kernel_rfl) (fun _ _ _ h => h) (yl_move (by rfl) _ rfl _ rfl) ?_
                simp only [Act.put, lzA, lzB, lzC]
                refine wpAnyL_pure (i := 3) (oi := ⟨_, _, _, _, _, _⟩) (v := .pointer (some ⟨b, 0, none⟩)) rfl (by kernel_rfl) (by kernel_rfl) (by kernel_rfl) (fun _ _ _ h => h) (yl_move (by rfl) _ rfl _ rfl) ?_
                simp only [Act.put, lzA, lzB, lzC]
                refine wpAnyL_all (rs := [4]) (by kernel_rfl) (by simp) ?_
                intro j hj
                have hj := List.mem_singleton.1 hj
                subst hj
                refine ot_call (o := ⟨_, _, _, _, _, _⟩) rfl (by rfl) 123 _ _ rfl #[.pointer (some ⟨b, 0, none⟩)] rfl (run_call Tryz.func123 (by kernel_rfl) (by kernel_rfl)) ?_
                refine (intP b _ _ _ H (Nat.le_trans (intO_tk.le _ _) (Nat.le_trans (rgO_tk.iter_le _ _ _) (Nat.le_trans ((cntO_tk 6 (by decide)).le _ _) (Nat.le_trans (flO_tk.le l e) hz))))).mono ?_
                rintro r v9 (⟨rfl, hr, kg⟩)
                replace RI := H.row RI kg (by decide)
                replace H := hr
                clear hr
                replace D := grown_trans D kg
                replace G1 := heap_gr G1 kg (Ne.symm n_b_g1)
                replace G4 := heap_gr G4 kg (Ne.symm n_b_g4)
                clear kg
                refine Or.inl ⟨.int .i64 ((intO (intO (iterO rgO k (cntO 6 (flO l e).2.1 (flO l e).2.2).2.1 (cntO 6 (flO l e).2.1 (flO l e).2.2).2.2).2.1 (iterO rgO k (cntO 6 (flO l e).2.1 (flO l e).2.2).2.1 (cntO 6 (flO l e).2.1 (flO l e).2.2).2.2).2.2).2.1 (intO (iterO rgO k (cntO 6 (flO l e).2.1 (flO l e).2.2).2.1 (cntO 6 (flO l e).2.1 (flO l e).2.2).2.2).2.1 (iterO rgO k (cntO 6 (flO l e).2.1 (flO l e).2.2).2.1 (cntO 6 (flO l e).2.1 (flO l e).2.2).2.2).2.2).2.2).1), rfl, ⟨fun _ _ => G4, ?_⟩⟩
                simp only [Act.put, lzA, lzB, lzC]
                refine wpAnyL_pure (i := 5) (oi := ⟨_, _, _, _, _, _⟩) (v := .agg #[.int .i64 ((intO (iterO rgO k (cntO 6 (flO l e).2.1 (flO l e).2.2).2.1 (cntO 6 (flO l e).2.1 (flO l e).2.2).2.2).2.1 (iterO rgO k (cntO 6 (flO l e).2.1 (flO l e).2.2).2.1 (cntO 6 (flO l e).2.1 (flO l e).2.2).2.2).2.2).1), .int .i64 ((intO (intO (iterO rgO k (cntO 6 (flO l e).2.1 (flO l e).2.2).2.1 (cntO 6 (flO l e).2.1 (flO l e).2.2).2.2).2.1 (iterO rgO k (cntO 6 (flO l e).2.1 (flO l e).2.2).2.1 (cntO 6 (flO l e).2.1 (flO l e).2.2).2.2).2.2).2.1 (intO (iterO rgO k (cntO 6 (flO l e).2.1 (flO l e).2.2).2.1 (cntO 6 (flO l e).2.1 (flO l e).2.2).2.2).2.1 (iterO rgO k (cntO 6 (flO l e).2.1 (flO l e).2.2).2.1 (cntO 6 (flO l e).2.1 (flO l e).2.2).2.2).2.2).2.2).1)]) rfl (by kernel_rfl) (by kernel_rfl) (by kernel_rfl) (fun _ _ _ h => h) (yt_buildR (by rfl) _ _ rfl (intO (iterO rgO k (cntO 6 (flO l e).2.1 (flO l e).2.2).2.1 (cntO 6 (flO l e).2.1 (flO l e).2.2).2.2).2.1 (iterO rgO k (cntO 6 (flO l e).2.1 (flO l e).2.2).2.1 (cntO 6 (flO l e).2.1 (flO l e).2.2).2.2).2.2).1 (intO (intO (iterO rgO k (cntO 6 (flO l e).2.1 (flO l e).2.2).2.1 (cntO 6 (flO l e).2.1 (flO l e).2.2).2.2).2.1 (iterO rgO k (cntO 6 (flO l e).2.1 (flO l e).2.2).2.1 (cntO 6 (flO l e).2.1 (flO l e).2.2).2.2).2.2).2.1 (intO (iterO rgO k (cntO 6 (flO l e).2.1 (flO l e).2.2).2.1 (cntO 6 (flO l e).2.1 (flO l e).2.2).2.2).2.1 (iterO rgO k (cntO 6 (flO l e).2.1 (flO l e).2.2).2.1 (cntO 6 (flO l e).2.1 (flO l e).2.2).2.2).2.2).2.2).1 rfl rfl) ?_
                simp only [Act.put, lzA, lzB, lzC]
                refine wpAnyL_all (rs := [6]) (by kernel_rfl) (by simp) ?_
                intro j hj
                have hj := List.mem_singleton.1 hj
                subst hj
                refine ot_row1R (o := ⟨_, _, _, _, _, _⟩) rfl (by rfl) _ rfl ((intO (iterO rgO k (cntO 6 (flO l e).2.1 (flO l e).2.2).2.1 (cntO 6 (flO l e).2.1 (flO l e).2.2).2.2).2.1 (iterO rgO k (cntO 6 (flO l e).2.1 (flO l e).2.2).2.1 (cntO 6 (flO l e).2.1 (flO l e).2.2).2.2).2.2).1, (intO (intO (iterO rgO k (cntO 6 (flO l e).2.1 (flO l e).2.2).2.1 (cntO 6 (flO l e).2.1 (flO l e).2.2).2.2).2.1 (iterO rgO k (cntO 6 (flO l e).2.1 (flO l e).2.2).2.1 (cntO 6 (flO l e).2.1 (flO l e).2.2).2.2).2.2).2.1 (intO (iterO rgO k (cntO 6 (flO l e).2.1 (flO l e).2.2).2.1 (cntO 6 (flO l e).2.1 (flO l e).2.2).2.2).2.1 (iterO rgO k (cntO 6 (flO l e).2.1 (flO l e).2.2).2.1 (cntO 6 (flO l e).2.1 (flO l e).2.2).2.2).2.2).2.2).1) rfl (fun v10 g10 hg G10 kb => ?_)
                have n_b_g10 : b ≠ g10 := by have := H.lt; omega
                have n_g1_g10 : g1 ≠ g10 := by have := lt_heap G1; omega
                have n_g4_g10 : g4 ≠ g10 := by have := lt_heap G4; omega
                have ge_g10 : w.heap.size ≤ g10 := Nat.le_trans D.size hg
                clear hg
                replace D := grown_below D kb
                replace RI := ownsRow_on RI kb
                replace H := H.on kb
                replace G1 := heap_on G1 kb
                replace G4 := heap_on G4 kb
                clear kb
                refine ⟨fun _ _ => G4, ?_⟩
                simp only [Act.put, lzA, lzB, lzC]
                refine wpAnyL_all (rs := [7]) (by kernel_rfl) (by simp) ?_
                intro j hj
                have hj := List.mem_singleton.1 hj
                subst hj
                refine ot_appR (o := ⟨_, _, _, _, _, _⟩) rfl (by rfl) _ _ rfl w.heap.size _ (iterO rgO k (cntO 6 (flO l e).2.1 (flO l e).2.2).2.1 (cntO 6 (flO l e).2.1 (flO l e).2.2).2.2).1 rfl RI _ ((intO (iterO rgO k (cntO 6 (flO l e).2.1 (flO l e).2.2).2.1 (cntO 6 (flO l e).2.1 (flO l e).2.2).2.2).2.1 (iterO rgO k (cntO 6 (flO l e).2.1 (flO l e).2.2).2.1 (cntO 6 (flO l e).2.1 (flO l e).2.2).2.2).2.2).1, (intO (intO (iterO rgO k (cntO 6 (flO l e).2.1 (flO l e).2.2).2.1 (cntO 6 (flO l e).2.1 (flO l e).2.2).2.2).2.1 (iterO rgO k (cntO 6 (flO l e).2.1 (flO l e).2.2).2.1 (cntO 6 (flO l e).2.1 (flO l e).2.2).2.2).2.2).2.1 (intO (iterO rgO k (cntO 6 (flO l e).2.1 (flO l e).2.2).2.1 (cntO 6 (flO l e).2.1 (flO l e).2.2).2.2).2.1 (iterO rgO k (cntO 6 (flO l e).2.1 (flO l e).2.2).2.1 (cntO 6 (flO l e).2.1 (flO l e).2.2).2.2).2.2).2.2).1) rfl G10 ((by rw [iterO_len]; have := cntO_most 6 (flO l e).2.1 (flO l e).2.2; omega)) (D.size) (fun v11' v11 hrow kg hown => ?_)
                clear G10
                replace H := H.gro RI kg (by decide)
                replace G1 := heap_gro G1 kg (own_ne RI G1 (by decide))
                replace G4 := heap_gro G4 kg (own_ne RI G4 (by decide))
                replace D := gr_own D (fun g hg => Nat.le_trans (Nat.le_refl _) (World.ownsRow.lt RI g hg).1) kg
                clear kg hown
                replace RI := hrow
                clear hrow
                obtain ⟨p11, c11, rfl, -, -, -⟩ := ownsRow_form RI
                refine ⟨fun _ _ => G4, ?_⟩
                simp only [Act.put, lzA, lzB, lzC]
                refine wpAnyL_pure (i := 8) (oi := ⟨_, _, _, _, _, _⟩) (v := .pointer (some ⟨g4, 1, none⟩)) rfl (by kernel_rfl) (by kernel_rfl) (by kernel_rfl) (fun _ _ _ h => h) (yt_fSt1 (by rfl) _ rfl g4 0 rfl) ?_
                simp only [Act.put, lzA, lzB, lzC]
                refine wpAnyL_all (rs := [9]) (by kernel_rfl) (by simp) ?_
                intro j hj
                have hj := List.mem_singleton.1 hj
                subst hj
                refine ot_putL (o := ⟨_, _, _, _, _, _⟩) rfl (by rfl) _ (Or.inl rfl) _ _ rfl _ 1 rfl p11 ((iterO rgO k (cntO 6 (flO l e).2.1 (flO l e).2.2).2.1 (cntO 6 (flO l e).2.1 (flO l e).2.2).2.2).1 ++ [((intO (iterO rgO k (cntO 6 (flO l e).2.1 (flO l e).2.2).2.1 (cntO 6 (flO l e).2.1 (flO l e).2.2).2.2).2.1 (iterO rgO k (cntO 6 (flO l e).2.1 (flO l e).2.2).2.1 (cntO 6 (flO l e).2.1 (flO l e).2.2).2.2).2.2).1, (intO (intO (iterO rgO k (cntO 6 (flO l e).2.1 (flO l e).2.2).2.1 (cntO 6 (flO l e).2.1 (flO l e).2.2).2.2).2.1 (iterO rgO k (cntO 6 (flO l e).2.1 (flO l e).2.2).2.1 (cntO 6 (flO l e).2.1 (flO l e).2.2).2.2).2.2).2.1 (intO (iterO rgO k (cntO 6 (flO l e).2.1 (flO l e).2.2).2.1 (cntO 6 (flO l e).2.1 (flO l e).2.2).2.2).2.1 (iterO rgO k (cntO 6 (flO l e).2.1 (flO l e).2.2).2.1 (cntO 6 (flO l e).2.1 (flO l e).2.2).2.2).2.2).2.2).1)]).length c11 rfl G4 (by simp) (fun v12 X kg => ?_)
                replace RI := row_gr_heap RI kg G4 (by decide)
                replace D := gr_new D ge_g4 kg
                replace H := H.gr kg n_b_g4
                replace G1 := heap_gr G1 kg n_g1_g4
                clear kg
                replace G4 : v12.heap[g4]? = some (.cells #[.bool (decide ((byteO l e).1 % 2 = 1)), .slice p11 ((iterO rgO k (cntO 6 (flO l e).2.1 (flO l e).2.2).2.1 (cntO 6 (flO l e).2.1 (flO l e).2.2).2.2).1 ++ [((intO (iterO rgO k (cntO 6 (flO l e).2.1 (flO l e).2.2).2.1 (cntO 6 (flO l e).2.1 (flO l e).2.2).2.2).2.1 (iterO rgO k (cntO 6 (flO l e).2.1 (flO l e).2.2).2.1 (cntO 6 (flO l e).2.1 (flO l e).2.2).2.2).2.2).1, (intO (intO (iterO rgO k (cntO 6 (flO l e).2.1 (flO l e).2.2).2.1 (cntO 6 (flO l e).2.1 (flO l e).2.2).2.2).2.1 (iterO rgO k (cntO 6 (flO l e).2.1 (flO l e).2.2).2.1 (cntO 6 (flO l e).2.1 (flO l e).2.2).2.2).2.2).2.1 (intO (iterO rgO k (cntO 6 (flO l e).2.1 (flO l e).2.2).2.1 (cntO 6 (flO l e).2.1 (flO l e).2.2).2.2).2.1 (iterO rgO k (cntO 6 (flO l e).2.1 (flO l e).2.2).2.1 (cntO 6 (flO l e).2.1 (flO l e).2.2).2.2).2.2).2.2).1)]).length c11, .bool (decide ((byteO l e).1 / 2 % 2 = 1)), .slice none 0 0] 25 (0, 0)) := X
                clear X
                refine ⟨fun h => absurd h (by decide), ?_⟩
                simp only [Act.put, lzA, lzB, lzC]
                refine wpAnyL_done (by kernel_rfl) ?_ _
                refine hK10 _ _ ?_
                clear hK10 K10
                refine wp_region_lit ?_
                refine wl_yield (o := ⟨_, _, _, _, _, _⟩) (.int .u64 ((k + 1 : Nat) : Int)) (yw_addU (by rfl) _ _ _ rfl ((k : Nat) : Int) 1 ((k + 1 : Nat) : Int) rfl rfl (by omega) (by omega) (by omega)) ?_
                simp only [Act.put, lzA, lzB, lzC]
                refine wl_yield (o := ⟨_, _, _, _, _, _⟩) (.int .u64 ((k + 1 : Nat) : Int)) (yl_move (by rfl) _ rfl _ rfl) ?_
                simp only [Act.put, lzA, lzB, lzC]
                refine wpList_nil ?_
                show _ ∧ _
                go_roundw
                case rel => exact ⟨k + 1, p11, c11, rfl, by omega, G4, G1, RI, H, D⟩
                case measure => simp [intOf]; omega
            · obtain rfl : k = (cntO 6 (flO l e).2.1 (flO l e).2.2).1 := by omega
              refine wp_seq_k (fun K8 hK8 => ?_)
              refine wp_region_lit ?_
              refine wl_yield (o := ⟨_, _, _, _, _, _⟩) (.bool false) (yw_lssU (by rfl) _ _ _ rfl (((cntO 6 (flO l e).2.1 (flO l e).2.2).1 : Nat) : Int) (((cntO 6 (flO l e).2.1 (flO l e).2.2).1 : Nat) : Int) false rfl rfl (decide_eq_false (by omega))) ?_
              simp only [Act.put, lzA, lzB, lzC]
              refine wpList_nil ?_
              refine hK8 _ _ ?_
              clear hK8 K8
              refine wp_seq_k (fun K9 hK9 => ?_)
              refine wp_cond_false rfl ?_
              refine wp_exit ?_
              refine hK6 _ _ ?_
              clear hK9 K9 hK6 K6
              refine wp_seq_k (fun K10 hK10 => ?_)
              refine wp_seq_k (fun K11 hK11 => ?_)
              refine wp_region_lit ?_
              refine wl_yield (o := ⟨_, _, _, _, _, _⟩) (.pointer (some ⟨b, 0, none⟩)) (yl_move (by rfl) _ rfl _ rfl) ?_
              simp only [Act.put, lzA, lzB, lzC]
              refine wt_call (o := ⟨_, _, _, _, _, _⟩) (by rfl) 74 _ _ rfl #[.pointer (some ⟨b, 0, none⟩), .int .u64 6] rfl (run_call Tryz.func74 (by kernel_rfl) (by kernel_rfl)) ?_
              refine (takeCount_any b 6 _ _ _ H (Nat.le_trans (rgO_tk.iter_le _ _ _) (Nat.le_trans ((cntO_tk 6 (by decide)).le _ _) (Nat.le_trans (flO_tk.le l e) hz)))).mono ?_
              rintro r v7 (⟨rfl, hr, kg⟩)
              · replace RI := H.row RI kg (by decide)
                replace H := hr
                clear hr
                replace D := grown_trans D kg
                replace G1 := heap_gr G1 kg (Ne.symm n_b_g1)
                replace G4 := heap_gr G4 kg (Ne.symm n_b_g4)
                clear kg
                refine Or.inl ⟨.int .u64 (((cntO 6 (iterO rgO (cntO 6 (flO l e).2.1 (flO l e).2.2).1 (cntO 6 (flO l e).2.1 (flO l e).2.2).2.1 (cntO 6 (flO l e).2.1 (flO l e).2.2).2.2).2.1 (iterO rgO (cntO 6 (flO l e).2.1 (flO l e).2.2).1 (cntO 6 (flO l e).2.1 (flO l e).2.2).2.1 (cntO 6 (flO l e).2.1 (flO l e).2.2).2.2).2.2).1 : Nat) : Int), rfl, ?_⟩
                simp only [Act.put, lzA, lzB, lzC]
                refine wl_yield (o := ⟨_, _, _, _, _, _⟩) (.int .u64 0) (yl_move (by rfl) _ rfl _ rfl) ?_
                simp only [Act.put, lzA, lzB, lzC]
                refine wpList_nil ?_
                refine hK11 _ _ ?_
                clear hK11 K11
                refine wp_block ?_
                go_loopw [37] (fun i wr => ∃ (k : Nat) (q : Option Addr) (c2 : Nat), i = .int .u64 ((k : Nat) : Int) ∧ k ≤ (cntO 6 (iterO rgO (cntO 6 (flO l e).2.1 (flO l e).2.2).1 (cntO 6 (flO l e).2.1 (flO l e).2.2).2.1 (cntO 6 (flO l e).2.1 (flO l e).2.2).2.2).2.1 (iterO rgO (cntO 6 (flO l e).2.1 (flO l e).2.2).1 (cntO 6 (flO l e).2.1 (flO l e).2.2).2.1 (cntO 6 (flO l e).2.1 (flO l e).2.2).2.2).2.2).1 ∧ wr.heap[g4]? = some (.cells #[.bool (decide ((byteO l e).1 % 2 = 1)), .slice p ((iterO rgO (cntO 6 (flO l e).2.1 (flO l e).2.2).1 (cntO 6 (flO l e).2.1 (flO l e).2.2).2.1 (cntO 6 (flO l e).2.1 (flO l e).2.2).2.2).1).length c, .bool (decide ((byteO l e).1 / 2 % 2 = 1)), .slice q ((iterO stO k (cntO 6 (iterO rgO (cntO 6 (flO l e).2.1 (flO l e).2.2).1 (cntO 6 (flO l e).2.1 (flO l e).2.2).2.1 (cntO 6 (flO l e).2.1 (flO l e).2.2).2.2).2.1 (iterO rgO (cntO 6 (flO l e).2.1 (flO l e).2.2).1 (cntO 6 (flO l e).2.1 (flO l e).2.2).2.1 (cntO 6 (flO l e).2.1 (flO l e).2.2).2.2).2.2).2.1 (cntO 6 (iterO rgO (cntO 6 (flO l e).2.1 (flO l e).2.2).1 (cntO 6 (flO l e).2.1 (flO l e).2.2).2.1 (cntO 6 (flO l e).2.1 (flO l e).2.2).2.2).2.1 (iterO rgO (cntO 6 (flO l e).2.1 (flO l e).2.2).1 (cntO 6 (flO l e).2.1 (flO l e).2.2).2.1 (cntO 6 (flO l e).2.1 (flO l e).2.2).2.2).2.2).2.2).1).length c2] 25 (0, 0)) ∧ wr.heap[g1]? = some (.cells #[.bool false, .slice none 0 0, .bool false, .slice none 0 0] 25 (0, 0)) ∧ RowS wr w.heap.size (.slice q ((iterO stO k (cntO 6 (iterO rgO (cntO 6 (flO l e).2.1 (flO l e).2.2).1 (cntO 6 (flO l e).2.1 (flO l e).2.2).2.1 (cntO 6 (flO l e).2.1 (flO l e).2.2).2.2).2.1 (iterO rgO (cntO 6 (flO l e).2.1 (flO l e).2.2).1 (cntO 6 (flO l e).2.1 (flO l e).2.2).2.1 (cntO 6 (flO l e).2.1 (flO l e).2.2).2.2).2.2).2.1 (cntO 6 (iterO rgO (cntO 6 (flO l e).2.1 (flO l e).2.2).1 (cntO 6 (flO l e).2.1 (flO l e).2.2).2.1 (cntO 6 (flO l e).2.1 (flO l e).2.2).2.2).2.1 (iterO rgO (cntO 6 (flO l e).2.1 (flO l e).2.2).1 (cntO 6 (flO l e).2.1 (flO l e).2.2).2.1 (cntO 6 (flO l e).2.1 (flO l e).2.2).2.2).2.2).2.2).1).length c2) ((iterO stO k (cntO 6 (iterO rgO (cntO 6 (flO l e).2.1 (flO l e).2.2).1 (cntO 6 (flO l e).2.1 (flO l e).2.2).2.1 (cntO 6 (flO l e).2.1 (flO l e).2.2).2.2).2.1 (iterO rgO (cntO 6 (flO l e).2.1 (flO l e).2.2).1 (cntO 6 (flO l e).2.1 (flO l e).2.2).2.1 (cntO 6 (flO l e).2.1 (flO l e).2.2).2.2).2.2).2.1 (cntO 6 (iterO rgO (cntO 6 (flO l e).2.1 (flO l e).2.2).1 (cntO 6 (flO l e).2.1 (flO l e).2.2).2.1 (cntO 6 (flO l e).2.1 (flO l e).2.2).2.2).2.1 (iterO rgO (cntO 6 (flO l e).2.1 (flO l e).2.2).1 (cntO 6 (flO l e).2.1 (flO l e).2.2).2.1 (cntO 6 (flO l e).2.1 (flO l e).2.2).2.2).2.2).2.2).1) ∧ RowR wr w.heap.size (.slice p ((iterO rgO (cntO 6 (flO l e).2.1 (flO l e).2.2).1 (cntO 6 (flO l e).2.1 (flO l e).2.2).2.1 (cntO 6 (flO l e).2.1 (flO l e).2.2).2.2).1).length c) (iterO rgO (cntO 6 (flO l e).2.1 (flO l e).2.2).1 (cntO 6 (flO l e).2.1 (flO l e).2.2).2.1 (cntO 6 (flO l e).2.1 (flO l e).2.2).2.2).1 ∧ PS wr b (iterO stO k (cntO 6 (iterO rgO (cntO 6 (flO l e).2.1 (flO l e).2.2).1 (cntO 6 (flO l e).2.1 (flO l e).2.2).2.1 (cntO 6 (flO l e).2.1 (flO l e).2.2).2.2).2.1 (iterO rgO (cntO 6 (flO l e).2.1 (flO l e).2.2).1 (cntO 6 (flO l e).2.1 (flO l e).2.2).2.1 (cntO 6 (flO l e).2.1 (flO l e).2.2).2.2).2.2).2.1 (cntO 6 (iterO rgO (cntO 6 (flO l e).2.1 (flO l e).2.2).1 (cntO 6 (flO l e).2.1 (flO l e).2.2).2.1 (cntO 6 (flO l e).2.1 (flO l e).2.2).2.2).2.1 (iterO rgO (cntO 6 (flO l e).2.1 (flO l e).2.2).1 (cntO 6 (flO l e).2.1 (flO l e).2.2).2.1 (cntO 6 (flO l e).2.1 (flO l e).2.2).2.2).2.2).2.2).2.1 (iterO stO k (cntO 6 (iterO rgO (cntO 6 (flO l e).2.1 (flO l e).2.2).1 (cntO 6 (flO l e).2.1 (flO l e).2.2).2.1 (cntO 6 (flO l e).2.1 (flO l e).2.2).2.2).2.1 (iterO rgO (cntO 6 (flO l e).2.1 (flO l e).2.2).1 (cntO 6 (flO l e).2.1 (flO l e).2.2).2.1 (cntO 6 (flO l e).2.1 (flO l e).2.2).2.2).2.2).2.1 (cntO 6 (iterO rgO (cntO 6 (flO l e).2.1 (flO l e).2.2).1 (cntO 6 (flO l e).2.1 (flO l e).2.2).2.1 (cntO 6 (flO l e).2.1 (flO l e).2.2).2.2).2.1 (iterO rgO (cntO 6 (flO l e).2.1 (flO l e).2.2).1 (cntO 6 (flO l e).2.1 (flO l e).2.2).2.1 (cntO 6 (flO l e).2.1 (flO l e).2.2).2.2).2.2).2.2).2.2 ∧ w.grownBy wr (some b)) (fun i _ => (cntO 6 (iterO rgO (cntO 6 (flO l e).2.1 (flO l e).2.2).1 (cntO 6 (flO l e).2.1 (flO l e).2.2).2.1 (cntO 6 (flO l e).2.1 (flO l e).2.2).2.2).2.1 (iterO rgO (cntO 6 (flO l e).2.1 (flO l e).2.2).1 (cntO 6 (flO l e).2.1 (flO l e).2.2).2.1 (cntO 6 (flO l e).2.1 (flO l e).2.2).2.2).2.2).1 - (intOf i).toNat)
                case atStart => exact ⟨0, none, 0, rfl, Nat.zero_le _, G4, G1, RowS.nil _ _, RI, H, D⟩
                case round =>
                  clear D H G4 G1 RI
                  obtain ⟨k, q, c2, rfl, hk, G4, G1, RT, RI, H, D⟩ := hrel
                  by_cases hlt : k < (cntO 6 (iterO rgO (cntO 6 (flO l e).2.1 (flO l e).2.2).1 (cntO 6 (flO l e).2.1 (flO l e).2.2).2.1 (cntO 6 (flO l e).2.1 (flO l e).2.2).2.2).2.1 (iterO rgO (cntO 6 (flO l e).2.1 (flO l e).2.2).1 (cntO 6 (flO l e).2.1 (flO l e).2.2).2.1 (cntO 6 (flO l e).2.1 (flO l e).2.2).2.2).2.2).1
                  · have hm : (cntO 6 (iterO rgO (cntO 6 (flO l e).2.1 (flO l e).2.2).1 (cntO 6 (flO l e).2.1 (flO l e).2.2).2.1 (cntO 6 (flO l e).2.1 (flO l e).2.2).2.2).2.1 (iterO rgO (cntO 6 (flO l e).2.1 (flO l e).2.2).1 (cntO 6 (flO l e).2.1 (flO l e).2.2).2.1 (cntO 6 (flO l e).2.1 (flO l e).2.2).2.2).2.2).1 ≤ 6 := cntO_most 6 _ _
                    refine wp_seq_k (fun K12 hK12 => ?_)
                    refine wp_region_lit ?_
                    refine wl_yield (o := ⟨_, _, _, _, _, _⟩) (.bool true) (yw_lssU (by rfl) _ _ _ rfl ((k : Nat) : Int) (((cntO 6 (iterO rgO (cntO 6 (flO l e).2.1 (flO l e).2.2).1 (cntO 6 (flO l e).2.1 (flO l e).2.2).2.1 (cntO 6 (flO l e).2.1 (flO l e).2.2).2.2).2.1 (iterO rgO (cntO 6 (flO l e).2.1 (flO l e).2.2).1 (cntO 6 (flO l e).2.1 (flO l e).2.2).2.1 (cntO 6 (flO l e).2.1 (flO l e).2.2).2.2).2.2).1 : Nat) : Int) true rfl rfl (decide_eq_true (by omega))) ?_
                    simp only [Act.put, lzA, lzB, lzC]
                    refine wpList_nil ?_
                    refine hK12 _ _ ?_
                    clear hK12 K12
                    refine wp_seq_k (fun K13 hK13 => ?_)
                    refine wp_cond_true rfl ?_
                    refine wp_skip ?_
                    refine hK13 _ _ ?_
                    clear hK13 K13
                    refine wp_seq_k (fun K14 hK14 => ?_)
                    refine wp_block ?_
                    refine wp_region_late (S := fun w' => w'.heap[g4]? = some (.cells #[.bool (decide ((byteO l e).1 % 2 = 1)), .slice p ((iterO rgO (cntO 6 (flO l e).2.1 (flO l e).2.2).1 (cntO 6 (flO l e).2.1 (flO l e).2.2).2.1 (cntO 6 (flO l e).2.1 (flO l e).2.2).2.2).1).length c, .bool (decide ((byteO l e).1 / 2 % 2 = 1)), .slice q ((iterO stO k (cntO 6 (iterO rgO (cntO 6 (flO l e).2.1 (flO l e).2.2).1 (cntO 6 (flO l e).2.1 (flO l e).2.2).2.1 (cntO 6 (flO l e).2.1 (flO l e).2.2).2.2).2.1 (iterO rgO (cntO 6 (flO l e).2.1 (flO l e).2.2).1 (cntO 6 (flO l e).2.1 (flO l e).2.2).2.1 (cntO 6 (flO l e).2.1 (flO l e).2.2).2.2).2.2).2.1 (cntO 6 (iterO rgO (cntO 6 (flO l e).2.1 (flO l e).2.2).1 (cntO 6 (flO l e).2.1 (flO l e).2.2).2.1 (cntO 6 (flO l e).2.1 (flO l e).2.2).2.2).2.1 (iterO rgO (cntO 6 (flO l e).2.1 (flO l e).2.2).1 (cntO 6 (flO l e).2.1 (flO l e).2.2).2.1 (cntO 6 (flO l e).2.1 (flO l e).2.2).2.2).2.2).2.2).1).length c2] 25 (0, 0))) (late := fun j => [7].contains j) (by kernel_rfl) ?_
                    have kb : Below wr.heap.size wr wr.drew := (Below.refl _ wr).drew
                    replace D := grown_below D kb
                    replace RI := ownsRow_on RI kb
                    replace RT := ownsRow_on RT kb
                    replace H := H.on kb
                    replace G1 := heap_on G1 kb
                    replace G4 := heap_on G4 kb
                    clear kb
                    generalize wr.drew = v8 at D H G1 G4 RI RT ⊢
                    refine wpAnyL_pure (i := 0) (oi := ⟨_, _, _, _, _, _⟩) (v := .pointer (some ⟨g4, 3, none⟩)) rfl (by kernel_rfl) (by kernel_rfl) (by kernel_rfl) (fun _ _ _ h => h) (yt_fSt3 (by rfl) _ rfl g4 0 rfl) ?_
                    simp only [Act.put, lzA, lzB, lzC]
                    refine wpAnyL_load (i := 1) (oi := ⟨_, _, _, _, _, _⟩) (v := .slice q ((iterO stO k (cntO 6 (iterO rgO (cntO 6 (flO l e).2.1 (flO l e).2.2).1 (cntO 6 (flO l e).2.1 (flO l e).2.2).2.1 (cntO 6 (flO l e).2.1 (flO l e).2.2).2.2).2.1 (iterO rgO (cntO 6 (flO l e).2.1 (flO l e).2.2).1 (cntO 6 (flO l e).2.1 (flO l e).2.2).2.1 (cntO 6 (flO l e).2.1 (flO l e).2.2).2.2).2.2).2.1 (cntO 6 (iterO rgO (cntO 6 (flO l e).2.1 (flO l e).2.2).1 (cntO 6 (flO l e).2.1 (flO l e).2.2).2.1 (cntO 6 (flO l e).2.1 (flO l e).2.2).2.2).2.1 (iterO rgO (cntO 6 (flO l e).2.1 (flO l e).2.2).1 (cntO 6 (flO l e).2.1 (flO l e).2.2).2.1 (cntO 6 (flO l e).2.1 (flO l e).2.2).2.2).2.2).2.2).1).length c2) rfl (by kernel_rfl) (by kernel_rfl) (by kernel_rfl) (by kernel_rfl) (fun _ _ _ h => h) (yt_ldLs (by rfl) _ rfl _ _ rfl q ((iterO stO k (cntO 6 (iterO rgO (cntO 6 (flO l e).2.1 (flO l e).2.2).1 (cntO 6 (flO l e).2.1 (flO l e).2.2).2.1 (cntO 6 (flO l e).2.1 (flO l e).2.2).2.2).2.1 (iterO rgO (cntO 6 (flO l e).2.1 (flO l e).2.2).1 (cntO 6 (flO l e).2.1 (flO l e).2.2).2.1 (cntO 6 (flO l e).2.1 (flO l e).2.2).2.2).2.2).2.1 (cntO 6 (iterO rgO (cntO 6 (flO l e).2.1 (flO l e).2.2).1 (cntO 6 (flO l e).2.1 (flO l e).2.2).2.1 (cntO 6 (flO l e).2.1 (flO l e).2.2).2.2).2.1 (iterO rgO (cntO 6 (flO l e).2.1 (flO l e).2.2).1 (cntO 6 (flO l e).2.1 (flO l e).2.2).2.1 (cntO 6 (flO l e).2.1 (flO l e).2.2).2.2).2.2).2.2).1).length c2 (fun _ h => cell_heap h 3)) G4 ?_
                    simp only [Act.put, lzA, lzB, lzC]
                    refine wpAnyL_pure (i := 2) (oi := ⟨_, _, _, _, _, _⟩) (v := .pointer (some ⟨b, 0, none⟩)) rfl (by kernel_rfl) (by kernel_rfl) (by kernel_rfl) (fun _ _ _ h => h) (yl_move (by rfl) _ rfl _ rfl) ?_
                    simp only [Act.put, lzA, lzB, lzC]
                    refine wpAnyL_all (rs := [3]) (by kernel_rfl) (by simp) ?_
                    intro j hj
                    have hj := List.mem_singleton.1 hj
                    subst hj
                    refine ot_call (o := ⟨_, _, _, _, _, _⟩) rfl (by rfl) 124 _ _ rfl #[.pointer (some ⟨b, 0, none⟩), .int .i64 8] rfl (run_call Tryz.func124 (by kernel_rfl) (by kernel_rfl)) ?_
                    refine (strP b 8 _ _ _ H (Nat.le_trans (stO_tk.iter_le _ _ _) (Nat.le_trans ((cntO_tk 6 (by decide)).le _ _) (Nat.le_trans (rgO_tk.iter_le _ _ _) (Nat.le_trans ((cntO_tk 6 (by decide)).le _ _) (Nat.le_trans (flO_tk.le l e) hz))))) (by decide) (by decide)).mono ?_
                    rintro r v9 (⟨rfl, hr, kg⟩)
                    replace RI := H.row RI kg (by decide)
                    replace RT := H.row RT kg (by decide)
                    replace H := hr
                    clear hr
                    replace D := grown_trans D kg
                    replace G1 := heap_gr G1 kg (Ne.symm n_b_g1)
                    replace G4 := heap_gr G4 kg (Ne.symm n_b_g4)
                    clear kg
                    refine Or.inl ⟨.string (stO (iterO stO k (cntO 6 (iterO rgO (cntO 6 (flO l e).2.1 (flO l e).2.2).1 (cntO 6 (flO l e).2.1 (flO l e).2.2).2.1 (cntO 6 (flO l e).2.1 (flO l e).2.2).2.2).2.1 (iterO rgO (cntO 6 (flO l e).2.1 (flO l e).2.2).1 (cntO 6 (flO l e).2.1 (flO l e).2.2).2.1 (cntO 6 (flO l e).2.1 (flO l e).2.2).2.2).2.2).2.1 (cntO 6 (iterO rgO (cntO 6 (flO l e).2.1 (flO l e).2.2).1 (cntO 6 (flO l e).2.1 (flO l e).2.2).2.1 (cntO 6 (flO l e).2.1 (flO l e).2.2).2.2).2.1 (iterO rgO (cntO 6 (flO l e).2.1 (flO l e).2.2).1 (cntO 6 (flO l e).2.1 (flO l e).2.2).2.1 (cntO 6 (flO l e).2.1 (flO l e).2.2).2.2).2.2).2.2).2.1 (iterO stO k (cntO 6 (iterO rgO (cntO 6 (flO l e).2.1 (flO l e).2.2).1 (cntO 6 (flO l e).2.1 (flO l e).2.2).2.1 (cntO 6 (flO l e).2.1 (flO l e).2.2).2.2).2.1 (iterO rgO (cntO 6 (flO l e).2.1 (flO l e).2.2).1 (cntO 6 (flO l e).2.1 (flO l e).2.2).2.1 (cntO 6 (flO l e).2.1 (flO l e).2.2).2.2).2.2).2.1 (cntO 6 (iterO rgO (cntO 6 (flO l e).2.1 (flO l e).2.2).1 (cntO 6 (flO l e).2.1 (flO l e).2.2).2.1 (cntO 6 (flO l e).2.1 (flO l e).2.2).2.2).2.1 (iterO rgO (cntO 6 (flO l e).2.1 (flO l e).2.2).1 (cntO 6 (flO l e).2.1 (flO l e).2.2).2.1 (cntO 6 (flO l e).2.1 (flO l e).2.2).2.2).2.2).2.2).2.2).1, rfl, ⟨fun _ _ => G4, ?_⟩⟩
                    simp only [Act.put, lzA, lzB, lzC]
                    refine wpAnyL_all (rs := [4]) (by kernel_rfl) (by simp) ?_
                    intro j hj
                    have hj := List.mem_singleton.1 hj
                    subst hj
                    refine ot_row1S (o := ⟨_, _, _, _, _, _⟩) rfl (by rfl) _ rfl ((stO (iterO stO k (cntO 6 (iterO rgO (cntO 6 (flO l e).2.1 (flO l e).2.2).1 (cntO 6 (flO l e).2.1 (flO l e).2.2).2.1 (cntO 6 (flO l e).2.1 (flO l e).2.2).2.2).2.1 (iterO rgO (cntO 6 (flO l e).2.1 (flO l e).2.2).1 (cntO 6 (flO l e).2.1 (flO l e).2.2).2.1 (cntO 6 (flO l e).2.1 (flO l e).2.2).2.2).2.2).2.1 (cntO 6 (iterO rgO (cntO 6 (flO l e).2.1 (flO l e).2.2).1 (cntO 6 (flO l e).2.1 (flO l e).2.2).2.1 (cntO 6 (flO l e).2.1 (flO l e).2.2).2.2).2.1 (iterO rgO (cntO 6 (flO l e).2.1 (flO l e).2.2).1 (cntO 6 (flO l e).2.1 (flO l e).2.2).2.1 (cntO 6 (flO l e).2.1 (flO l e).2.2).2.2).2.2).2.2).2.1 (iterO stO k (cntO 6 (iterO rgO (cntO 6 (flO l e).2.1 (flO l e).2.2).1 (cntO 6 (flO l e).2.1 (flO l e).2.2).2.1 (cntO 6 (flO l e).2.1 (flO l e).2.2).2.2).2.1 (iterO rgO (cntO 6 (flO l e).2.1 (flO l e).2.2).1 (cntO 6 (flO l e).2.1 (flO l e).2.2).2.1 (cntO 6 (flO l e).2.1 (flO l e).2.2).2.2).2.2).2.1 (cntO 6 (iterO rgO (cntO 6 (flO l e).2.1 (flO l e).2.2).1 (cntO 6 (flO l e).2.1 (flO l e).2.2).2.1 (cntO 6 (flO l e).2.1 (flO l e).2.2).2.2).2.1 (iterO rgO (cntO 6 (flO l e).2.1 (flO l e).2.2).1 (cntO 6 (flO l e).2.1 (flO l e).2.2).2.1 (cntO 6 (flO l e).2.1 (flO l e).2.2).2.2).2.2).2.2).2.2).1) rfl (fun v10 g10 hg G10 kb => ?_)
                    have n_b_g10 : b ≠ g10 := by have := H.lt; omega
                    have n_g1_g10 : g1 ≠ g10 := by have := lt_heap G1; omega
                    have n_g4_g10 : g4 ≠ g10 := by have := lt_heap G4; omega
                    have ge_g10 : w.heap.size ≤ g10 := Nat.le_trans D.size hg
                    clear hg
                    replace D := grown_below D kb
                    replace RI := ownsRow_on RI kb
                    replace RT := ownsRow_on RT kb
                    replace H := H.on kb
                    replace G1 := heap_on G1 kb
                    replace G4 := heap_on G4 kb
                    clear kb
                    refine ⟨fun _ _ => G4, ?_⟩
                    simp only [Act.put, lzA, lzB, lzC]
                    refine wpAnyL_all (rs := [5]) (by kernel_rfl) (by simp) ?_
                    intro j hj
                    have hj := List.mem_singleton.1 hj
                    subst hj
                    refine ot_appS (o := ⟨_, _, _, _, _, _⟩) rfl (by rfl) _ _ rfl w.heap.size _ (iterO stO k (cntO 6 (iterO rgO (cntO 6 (flO l e).2.1 (flO l e).2.2).1 (cntO 6 (flO l e).2.1 (flO l e).2.2).2.1 (cntO 6 (flO l e).2.1 (flO l e).2.2).2.2).2.1 (iterO rgO (cntO 6 (flO l e).2.1 (flO l e).2.2).1 (cntO 6 (flO l e).2.1 (flO l e).2.2).2.1 (cntO 6 (flO l e).2.1 (flO l e).2.2).2.2).2.2).2.1 (cntO 6 (iterO rgO (cntO 6 (flO l e).2.1 (flO l e).2.2).1 (cntO 6 (flO l e).2.1 (flO l e).2.2).2.1 (cntO 6 (flO l e).2.1 (flO l e).2.2).2.2).2.1 (iterO rgO (cntO 6 (flO l e).2.1 (flO l e).2.2).1 (cntO 6 (flO l e).2.1 (flO l e).2.2).2.1 (cntO 6 (flO l e).2.1 (flO l e).2.2).2.2).2.2).2.2).1 rfl RT _ ((stO (iterO stO k (cntO 6 (iterO rgO (cntO 6 (flO l e).2.1 (flO l e).2.2).1 (cntO 6 (flO l e).2.1 (flO l e).2.2).2.1 (cntO 6 (flO l e).2.1 (flO l e).2.2).2.2).2.1 (iterO rgO (cntO 6 (flO l e).2.1 (flO l e).2.2).1 (cntO 6 (flO l e).2.1 (flO l e).2.2).2.1 (cntO 6 (flO l e).2.1 (flO l e).2.2).2.2).2.2).2.1 (cntO 6 (iterO rgO (cntO 6 (flO l e).2.1 (flO l e).2.2).1 (cntO 6 (flO l e).2.1 (flO l e).2.2).2.1 (cntO 6 (flO l e).2.1 (flO l e).2.2).2.2).2.1 (iterO rgO (cntO 6 (flO l e).2.1 (flO l e).2.2).1 (cntO 6 (flO l e).2.1 (flO l e).2.2).2.1 (cntO 6 (flO l e).2.1 (flO l e).2.2).2.2).2.2).2.2).2.1 (iterO stO k (cntO 6 (iterO rgO (cntO 6 (flO l e).2.1 (flO l e).2.2).1 (cntO 6 (flO l e).2.1 (flO l e).2.2).2.1 (cntO 6 (flO l e).2.1 (flO l e).2.2).2.2).2.1 (iterO rgO (cntO 6 (flO l e).2.1 (flO l e).2.2).1 (cntO 6 (flO l e).2.1 (flO l e).2.2).2.1 (cntO 6 (flO l e).2.1 (flO l e).2.2).2.2).2.2).2.1 (cntO 6 (iterO rgO (cntO 6 (flO l e).2.1 (flO l e).2.2).1 (cntO 6 (flO l e).2.1 (flO l e).2.2).2.1 (cntO 6 (flO l e).2.1 (flO l e).2.2).2.2).2.1 (iterO rgO (cntO 6 (flO l e).2.1 (flO l e).2.2).1 (cntO 6 (flO l e).2.1 (flO l e).2.2).2.1 (cntO 6 (flO l e).2.1 (flO l e).2.2).2.2).2.2).2.2).2.2).1) rfl G10 ((by rw [iterO_len]; have := cntO_most 6 (iterO rgO (cntO 6 (flO l e).2.1 (flO l e).2.2).1 (cntO 6 (flO l e).2.1 (flO l e).2.2).2.1 (cntO 6 (flO l e).2.1 (flO l e).2.2).2.2).2.1 (iterO rgO (cntO 6 (flO l e).2.1 (flO l e).2.2).1 (cntO 6 (flO l e).2.1 (flO l e).2.2).2.1 (cntO 6 (flO l e).2.1 (flO l e).2.2).2.2).2.2; omega)) (D.size) (fun v11' v11 hrow kg hown => ?_)
                    clear G10
                    replace H := H.gro RT kg (by decide)
                    replace G1 := heap_gro G1 kg (own_ne RT G1 (by decide))
                    replace G4 := heap_gro G4 kg (own_ne RT G4 (by decide))
                    replace RI := row_row RI RT kg (by decide)
                    replace D := gr_own D (fun g hg => Nat.le_trans (Nat.le_refl _) (World.ownsRow.lt RT g hg).1) kg
                    clear kg hown
                    replace RT := hrow
                    clear hrow
                    obtain ⟨p11, c11, rfl, -, -, -⟩ := ownsRow_form RT
                    refine ⟨fun _ _ => G4, ?_⟩
                    simp only [Act.put, lzA, lzB, lzC]
                    refine wpAnyL_pure (i := 6) (oi := ⟨_, _, _, _, _, _⟩) (v := .pointer (some ⟨g4, 3, none⟩)) rfl (by kernel_rfl) (by kernel_rfl) (by kernel_rfl) (fun _ _ _ h => h) (yt_fSt3 (by rfl) _ rfl g4 0 rfl) ?_
                    simp only [Act.put, lzA, lzB, lzC]
                    refine wpAnyL_all (rs := [7]) (by kernel_rfl) (by simp) ?_
                    intro j hj
                    have hj := List.mem_singleton.1 hj
                    subst hj
                    refine ot_putL (o := ⟨_, _, _, _, _, _⟩) rfl (by rfl) _ (Or.inr (Or.inl rfl)) _ _ rfl _ 3 rfl p11 ((iterO stO k (cntO 6 (iterO rgO (cntO 6 (flO l e).2.1 (flO l e).2.2).1 (cntO 6 (flO l e).2.1 (flO l e).2.2).2.1 (cntO 6 (flO l e).2.1 (flO l e).2.2).2.2).2.1 (iterO rgO (cntO 6 (flO l e).2.1 (flO l e).2.2).1 (cntO 6 (flO l e).2.1 (flO l e).2.2).2.1 (cntO 6 (flO l e).2.1 (flO l e).2.2).2.2).2.2).2.1 (cntO 6 (iterO rgO (cntO 6 (flO l e).2.1 (flO l e).2.2).1 (cntO 6 (flO l e).2.1 (flO l e).2.2).2.1 (cntO 6 (flO l e).2.1 (flO l e).2.2).2.2).2.1 (iterO rgO (cntO 6 (flO l e).2.1 (flO l e).2.2).1 (cntO 6 (flO l e).2.1 (flO l e).2.2).2.1 (cntO 6 (flO l e).2.1 (flO l e).2.2).2.2).2.2).2.2).1 ++ [((stO (iterO stO k (cntO 6 (iterO rgO (cntO 6 (flO l e).2.1 (flO l e).2.2).1 (cntO 6 (flO l e).2.1 (flO l e).2.2).2.1 (cntO 6 (flO l e).2.1 (flO l e).2.2).2.2).2.1 (iterO rgO (cntO 6 (flO l e).2.1 (flO l e).2.2).1 (cntO 6 (flO l e).2.1 (flO l e).2.2).2.1 (cntO 6 (flO l e).2.1 (flO l e).2.2).2.2).2.2).2.1 (cntO 6 (iterO rgO (cntO 6 (flO l e).2.1 (flO l e).2.2).1 (cntO 6 (flO l e).2.1 (flO l e).2.2).2.1 (cntO 6 (flO l e).2.1 (flO l e).2.2).2.2).2.1 (iterO rgO (cntO 6 (flO l e).2.1 (flO l e).2.2).1 (cntO 6 (flO l e).2.1 (flO l e).2.2).2.1 (cntO 6 (flO l e).2.1 (flO l e).2.2).2.2).2.2).2.2).2.1 (iterO stO k (cntO 6 (iterO rgO (cntO 6 (flO l e).2.1 (flO l e).2.2).1 (cntO 6 (flO l e).2.1 (flO l e).2.2).2.1 (cntO 6 (flO l e).2.1 (flO l e).2.2).2.2).2.1 (iterO rgO (cntO 6 (flO l e).2.1 (flO l e).2.2).1 (cntO 6 (flO l e).2.1 (flO l e).2.2).2.1 (cntO 6 (flO l e).2.1 (flO l e).2.2).2.2).2.2).2.1 (cntO 6 (iterO rgO (cntO 6 (flO l e).2.1 (flO l e).2.2).1 (cntO 6 (flO l e).2.1 (flO l e).2.2).2.1 (cntO 6 (flO l e).2.1 (flO l e).2.2).2.2).2.1 (iterO rgO (cntO 6 (flO l e).2.1 (flO l e).2.2).1 (cntO 6 (flO l e).2.1 (flO l e).2.2).2.1 (cntO 6 (flO l e).2.1 (flO l e).2.2).2.2).2.2).2.2).2.2).1)]).length c11 rfl G4 (by simp) (fun v12 X kg => ?_)
                    replace RI := row_gr_heap RI kg G4 (by decide)
                    replace RT := row_gr_heap RT kg G4 (by decide)
                    replace D := gr_new D ge_g4 kg
                    replace H := H.gr kg n_b_g4
                    replace G1 := heap_gr G1 kg n_g1_g4
                    clear kg
                    replace G4 : v12.heap[g4]? = some (.cells #[.bool (decide ((byteO l e).1 % 2 = 1)), .slice p ((iterO rgO (cntO 6 (flO l e).2.1 (flO l e).2.2).1 (cntO 6 (flO l e).2.1 (flO l e).2.2).2.1 (cntO 6 (flO l e).2.1 (flO l e).2.2).2.2).1).length c, .bool (decide ((byteO l e).1 / 2 % 2 = 1)), .slice p11 ((iterO stO k (cntO 6 (iterO rgO (cntO 6 (flO l e).2.1 (flO l e).2.2).1 (cntO 6 (flO l e).2.1 (flO l e).2.2).2.1 (cntO 6 (flO l e).2.1 (flO l e).2.2).2.2).2.1 (iterO rgO (cntO 6 (flO l e).2.1 (flO l e).2.2).1 (cntO 6 (flO l e).2.1 (flO l e).2.2).2.1 (cntO 6 (flO l e).2.1 (flO l e).2.2).2.2).2.2).2.1 (cntO 6 (iterO rgO (cntO 6 (flO l e).2.1 (flO l e).2.2).1 (cntO 6 (flO l e).2.1 (flO l e).2.2).2.1 (cntO 6 (flO l e).2.1 (flO l e).2.2).2.2).2.1 (iterO rgO (cntO 6 (flO l e).2.1 (flO l e).2.2).1 (cntO 6 (flO l e).2.1 (flO l e).2.2).2.1 (cntO 6 (flO l e).2.1 (flO l e).2.2).2.2).2.2).2.2).1 ++ [((stO (iterO stO k (cntO 6 (iterO rgO (cntO 6 (flO l e).2.1 (flO l e).2.2).1 (cntO 6 (flO l e).2.1 (flO l e).2.2).2.1 (cntO 6 (flO l e).2.1 (flO l e).2.2).2.2).2.1 (iterO rgO (cntO 6 (flO l e).2.1 (flO l e).2.2).1 (cntO 6 (flO l e).2.1 (flO l e).2.2).2.1 (cntO 6 (flO l e).2.1 (flO l e).2.2).2.2).2.2).2.1 (cntO 6 (iterO rgO (cntO 6 (flO l e).2.1 (flO l e).2.2).1 (cntO 6 (flO l e).2.1 (flO l e).2.2).2.1 (cntO 6 (flO l e).2.1 (flO l e).2.2).2.2).2.1 (iterO rgO (cntO 6 (flO l e).2.1 (flO l e).2.2).1 (cntO 6 (flO l e).2.1 (flO l e).2.2).2.1 (cntO 6 (flO l e).2.1 (flO l e).2.2).2.2).2.2).2.2).2.1 (iterO stO k (cntO 6 (iterO rgO (cntO 6 (flO l e).2.1 (flO l e).2.2).1 (cntO 6 (flO l e).2.1 (flO l e).2.2).2.1 (cntO 6 (flO l e).2.1 (flO l e).2.2).2.2).2.1 (iterO rgO (cntO 6 (flO l e).2.1 (flO l e).2.2).1 (cntO 6 (flO l e).2.1 (flO l e).2.2).2.1 (cntO 6 (flO l e).2.1 (flO l e).2.2).2.2).2.2).2.1 (cntO 6 (iterO rgO (cntO 6 (flO l e).2.1 (flO l e).2.2).1 (cntO 6 (flO l e).2.1 (flO l e).2.2).2.1 (cntO 6 (flO l e).2.1 (flO l e).2.2).2.2).2.1 (iterO rgO (cntO 6 (flO l e).2.1 (flO l e).2.2).1 (cntO 6 (flO l e).2.1 (flO l e).2.2).2.1 (cntO 6 (flO l e).2.1 (flO l e).2.2).2.2).2.2).2.2).2.2).1)]).length c11] 25 (0, 0)) := X
                    clear X
                    refine ⟨fun h => absurd h (by decide), ?_⟩
                    simp only [Act.put, lzA, lzB, lzC]
                    refine wpAnyL_done (by kernel_rfl) ?_ _
                    refine hK14 _ _ ?_
                    clear hK14 K14
                    refine wp_region_lit ?_
                    refine wl_yield (o := ⟨_, _, _, _, _, _⟩) (.int .u64 ((k + 1 : Nat) : Int)) (yw_addU (by rfl) _ _ _ rfl ((k : Nat) : Int) 1 ((k + 1 : Nat) : Int) rfl rfl (by omega) (by omega) (by omega)) ?_
                    simp only [Act.put, lzA, lzB, lzC]
                    refine wl_yield (o := ⟨_, _, _, _, _, _⟩) (.int .u64 ((k + 1 : Nat) : Int)) (yl_move (by rfl) _ rfl _ rfl) ?_
                    simp only [Act.put, lzA, lzB, lzC]
                    refine wpList_nil ?_
                    show _ ∧ _
                    go_roundw
                    case rel => exact ⟨k + 1, p11, c11, rfl, by omega, G4, G1, RT, RI, H, D⟩
                    case measure => simp [intOf]; omega
                  · obtain rfl : k = (cntO 6 (iterO rgO (cntO 6 (flO l e).2.1 (flO l e).2.2).1 (cntO 6 (flO l e).2.1 (flO l e).2.2).2.1 (cntO 6 (flO l e).2.1 (flO l e).2.2).2.2).2.1 (iterO rgO (cntO 6 (flO l e).2.1 (flO l e).2.2).1 (cntO 6 (flO l e).2.1 (flO l e).2.2).2.1 (cntO 6 (flO l e).2.1 (flO l e).2.2).2.2).2.2).1 := by omega
                    refine wp_seq_k (fun K12 hK12 => ?_)
                    refine wp_region_lit ?_
                    refine wl_yield (o := ⟨_, _, _, _, _, _⟩) (.bool false) (yw_lssU (by rfl) _ _ _ rfl (((cntO 6 (iterO rgO (cntO 6 (flO l e).2.1 (flO l e).2.2).1 (cntO 6 (flO l e).2.1 (flO l e).2.2).2.1 (cntO 6 (flO l e).2.1 (flO l e).2.2).2.2).2.1 (iterO rgO (cntO 6 (flO l e).2.1 (flO l e).2.2).1 (cntO 6 (flO l e).2.1 (flO l e).2.2).2.1 (cntO 6 (flO l e).2.1 (flO l e).2.2).2.2).2.2).1 : Nat) : Int) (((cntO 6 (iterO rgO (cntO 6 (flO l e).2.1 (flO l e).2.2).1 (cntO 6 (flO l e).2.1 (flO l e).2.2).2.1 (cntO 6 (flO l e).2.1 (flO l e).2.2).2.2).2.1 (iterO rgO (cntO 6 (flO l e).2.1 (flO l e).2.2).1 (cntO 6 (flO l e).2.1 (flO l e).2.2).2.1 (cntO 6 (flO l e).2.1 (flO l e).2.2).2.2).2.2).1 : Nat) : Int) false rfl rfl (decide_eq_false (by omega))) ?_
                    simp only [Act.put, lzA, lzB, lzC]
                    refine wpList_nil ?_
                    refine hK12 _ _ ?_
                    clear hK12 K12
                    refine wp_seq_k (fun K13 hK13 => ?_)
                    refine wp_cond_false rfl ?_
                    refine wp_exit ?_
                    refine hK10 _ _ ?_
                    clear hK13 K13 hK10 K10
                    refine wp_seq_k (fun K14 hK14 => ?_)
                    refine wp_region_lit ?_
                    refine wl_yield (o := ⟨_, _, _, _, _, _⟩) (.agg #[.bool (decide ((byteO l e).1 % 2 = 1)), .slice p ((iterO rgO (cntO 6 (flO l e).2.1 (flO l e).2.2).1 (cntO 6 (flO l e).2.1 (flO l e).2.2).2.1 (cntO 6 (flO l e).2.1 (flO l e).2.2).2.2).1).length c, .bool (decide ((byteO l e).1 / 2 % 2 = 1)), .slice q ((iterO stO (cntO 6 (iterO rgO (cntO 6 (flO l e).2.1 (flO l e).2.2).1 (cntO 6 (flO l e).2.1 (flO l e).2.2).2.1 (cntO 6 (flO l e).2.1 (flO l e).2.2).2.2).2.1 (iterO rgO (cntO 6 (flO l e).2.1 (flO l e).2.2).1 (cntO 6 (flO l e).2.1 (flO l e).2.2).2.1 (cntO 6 (flO l e).2.1 (flO l e).2.2).2.2).2.2).1 (cntO 6 (iterO rgO (cntO 6 (flO l e).2.1 (flO l e).2.2).1 (cntO 6 (flO l e).2.1 (flO l e).2.2).2.1 (cntO 6 (flO l e).2.1 (flO l e).2.2).2.2).2.1 (iterO rgO (cntO 6 (flO l e).2.1 (flO l e).2.2).1 (cntO 6 (flO l e).2.1 (flO l e).2.2).2.1 (cntO 6 (flO l e).2.1 (flO l e).2.2).2.2).2.2).2.1 (cntO 6 (iterO rgO (cntO 6 (flO l e).2.1 (flO l e).2.2).1 (cntO 6 (flO l e).2.1 (flO l e).2.2).2.1 (cntO 6 (flO l e).2.1 (flO l e).2.2).2.2).2.1 (iterO rgO (cntO 6 (flO l e).2.1 (flO l e).2.2).1 (cntO 6 (flO l e).2.1 (flO l e).2.2).2.1 (cntO 6 (flO l e).2.1 (flO l e).2.2).2.2).2.2).2.2).1).length c2]) (yl_set (by rfl) _ rfl _ 0 rfl _ _ _ _ (fun _ h => by subst h; exact ⟨cell_heap G4 0, cell_heap G4 1, cell_heap G4 2, cell_heap G4 3⟩)) ?_
                    simp only [Act.put, lzA, lzB, lzC]
                    refine wt_putSt (o := ⟨_, _, _, _, _, _⟩) rfl _ _ rfl _ rfl (⟨decide ((byteO l e).1 % 2 = 1), p, ((iterO rgO (cntO 6 (flO l e).2.1 (flO l e).2.2).1 (cntO 6 (flO l e).2.1 (flO l e).2.2).2.1 (cntO 6 (flO l e).2.1 (flO l e).2.2).2.2).1).length, c, decide ((byteO l e).1 / 2 % 2 = 1), q, ((iterO stO (cntO 6 (iterO rgO (cntO 6 (flO l e).2.1 (flO l e).2.2).1 (cntO 6 (flO l e).2.1 (flO l e).2.2).2.1 (cntO 6 (flO l e).2.1 (flO l e).2.2).2.2).2.1 (iterO rgO (cntO 6 (flO l e).2.1 (flO l e).2.2).1 (cntO 6 (flO l e).2.1 (flO l e).2.2).2.1 (cntO 6 (flO l e).2.1 (flO l e).2.2).2.2).2.2).1 (cntO 6 (iterO rgO (cntO 6 (flO l e).2.1 (flO l e).2.2).1 (cntO 6 (flO l e).2.1 (flO l e).2.2).2.1 (cntO 6 (flO l e).2.1 (flO l e).2.2).2.2).2.1 (iterO rgO (cntO 6 (flO l e).2.1 (flO l e).2.2).1 (cntO 6 (flO l e).2.1 (flO l e).2.2).2.1 (cntO 6 (flO l e).2.1 (flO l e).2.2).2.2).2.2).2.1 (cntO 6 (iterO rgO (cntO 6 (flO l e).2.1 (flO l e).2.2).1 (cntO 6 (flO l e).2.1 (flO l e).2.2).2.1 (cntO 6 (flO l e).2.1 (flO l e).2.2).2.2).2.1 (iterO rgO (cntO 6 (flO l e).2.1 (flO l e).2.2).1 (cntO 6 (flO l e).2.1 (flO l e).2.2).2.1 (cntO 6 (flO l e).2.1 (flO l e).2.2).2.2).2.2).2.2).1).length, c2⟩) rfl G1 rfl (fun v8 X kg => ?_)
                    simp only [Act.put, lzA, lzB, lzC]
                    replace RI := row_gr_heap RI kg G1 (by decide)
                    replace RT := row_gr_heap RT kg G1 (by decide)
                    replace D := gr_new D ge_g1 kg
                    replace H := H.gr kg n_b_g1
                    replace G4 := heap_gr G4 kg (Ne.symm n_g1_g4)
                    clear kg
                    replace G1 : v8.heap[g1]? = some (.cells #[.bool (decide ((byteO l e).1 % 2 = 1)), .slice p ((iterO rgO (cntO 6 (flO l e).2.1 (flO l e).2.2).1 (cntO 6 (flO l e).2.1 (flO l e).2.2).2.1 (cntO 6 (flO l e).2.1 (flO l e).2.2).2.2).1).length c, .bool (decide ((byteO l e).1 / 2 % 2 = 1)), .slice q ((iterO stO (cntO 6 (iterO rgO (cntO 6 (flO l e).2.1 (flO l e).2.2).1 (cntO 6 (flO l e).2.1 (flO l e).2.2).2.1 (cntO 6 (flO l e).2.1 (flO l e).2.2).2.2).2.1 (iterO rgO (cntO 6 (flO l e).2.1 (flO l e).2.2).1 (cntO 6 (flO l e).2.1 (flO l e).2.2).2.1 (cntO 6 (flO l e).2.1 (flO l e).2.2).2.2).2.2).1 (cntO 6 (iterO rgO (cntO 6 (flO l e).2.1 (flO l e).2.2).1 (cntO 6 (flO l e).2.1 (flO l e).2.2).2.1 (cntO 6 (flO l e).2.1 (flO l e).2.2).2.2).2.1 (iterO rgO (cntO 6 (flO l e).2.1 (flO l e).2.2).1 (cntO 6 (flO l e).2.1 (flO l e).2.2).2.1 (cntO 6 (flO l e).2.1 (flO l e).2.2).2.2).2.2).2.1 (cntO 6 (iterO rgO (cntO 6 (flO l e).2.1 (flO l e).2.2).1 (cntO 6 (flO l e).2.1 (flO l e).2.2).2.1 (cntO 6 (flO l e).2.1 (flO l e).2.2).2.2).2.1 (iterO rgO (cntO 6 (flO l e).2.1 (flO l e).2.2).1 (cntO 6 (flO l e).2.1 (flO l e).2.2).2.1 (cntO 6 (flO l e).2.1 (flO l e).2.2).2.2).2.2).2.2).1).length c2] 25 (0, 0)) := X
                    clear X
                    refine wpList_nil ?_
                    refine hK14 _ _ ?_
                    clear hK14 K14
                    refine wp_ret ?_
                    try simp only [Exit.inBlock, Exit.then]
                    refine bodyPost_ret (results_cell_row rfl _ _ g1 25 _ (0, 0) _ rfl G1 Tryz.underlying25 rfl infoSet4) rfl ⟨⟨_, p, _, c, _, q, _, c2⟩, rfl, fun w'' hk => ?_, H, D⟩
                    exact setAt_rows (S := (setO l e).1) (own_kept RI hk (Nat.le_refl _)) (own_kept RT hk (Nat.le_refl _)) (fun r hr => ⟨(iterO_all (P := fun r => okI r.1 ∧ okI r.2) rgO_ok _ _ _ r hr).1.1, (iterO_all (P := fun r => okI r.1 ∧ okI r.2) rgO_ok _ _ _ r hr).1.2, (iterO_all (P := fun r => okI r.1 ∧ okI r.2) rgO_ok _ _ _ r hr).2.1, (iterO_all (P := fun r => okI r.1 ∧ okI r.2) rgO_ok _ _ _ r hr).2.2⟩) (fun x hx => iterO_all (P := fun s => s.size ≤ 8) stO_ok _ _ _ x hx) (by show (iterO _ _ _ _).1.length ≤ _; rw [iterO_len]; exact Nat.le_trans (cntO_most 6 _ _) (by decide)) (by show (iterO _ _ _ _).1.length ≤ _; rw [iterO_len]; exact Nat.le_trans (cntO_most 6 _ _) (by decide))
    · have h3 : ¬ 3 < (byteO l e).1 := of_decide_eq_false hc
      replace H : PS v2 b (flO l e).2.1 (flO l e).2.2 := by rw [flO_le h3]; exact H
      refine wp_skip ?_
      refine hK3 _ _ ?_
      clear hK3 K3
      refine wp_seq_k (fun K5 hK5 => ?_)
      refine wp_region_lit ?_
      refine wl_yield (o := ⟨_, _, _, _, _, _⟩) (.int .u8 (byteO l e).1) (yl_move (by rfl) _ rfl _ rfl) ?_
      simp only [Act.put, lzA, lzB, lzC]
      refine wl_yield (o := ⟨_, _, _, _, _, _⟩) (.int .u8 ((byteO l e).1 % 2)) (yw_andY (by rfl) _ _ _ rfl (byteO l e).1 1 rfl rfl ((byteO l e).1 % 2) (and1 (byteO_lo l e).1 (byteO_lo l e).2)) ?_
      simp only [Act.put, lzA, lzB, lzC]
      refine wl_yield (o := ⟨_, _, _, _, _, _⟩) (.bool (decide ((byteO l e).1 % 2 = 1))) (yw_neqY (by rfl) _ _ _ rfl ((byteO l e).1 % 2) 0 (decide ((byteO l e).1 % 2 = 1)) rfl rfl (neq1 (byteO_lo l e).1)) ?_
      simp only [Act.put, lzA, lzB, lzC]
      refine wl_yield (o := ⟨_, _, _, _, _, _⟩) (.int .u8 (byteO l e).1) (yl_move (by rfl) _ rfl _ rfl) ?_
      simp only [Act.put, lzA, lzB, lzC]
      refine wl_yield (o := ⟨_, _, _, _, _, _⟩) (.int .u8 (if (byteO l e).1 / 2 % 2 = 1 then 2 else 0)) (yw_andY (by rfl) _ _ _ rfl (byteO l e).1 2 rfl rfl (if (byteO l e).1 / 2 % 2 = 1 then 2 else 0) (and2 (byteO_lo l e).1 (byteO_lo l e).2)) ?_
      simp only [Act.put, lzA, lzB, lzC]
      refine wl_yield (o := ⟨_, _, _, _, _, _⟩) (.bool (decide ((byteO l e).1 / 2 % 2 = 1))) (yw_neqY (by rfl) _ _ _ rfl (if (byteO l e).1 / 2 % 2 = 1 then 2 else 0) 0 (decide ((byteO l e).1 / 2 % 2 = 1)) rfl rfl (neq2)) ?_
      simp only [Act.put, lzA, lzB, lzC]
      refine wl_yield (o := ⟨_, _, _, _, _, _⟩) (.agg #[.bool (decide ((byteO l e).1 % 2 = 1)), .slice none 0 0, .bool (decide ((byteO l e).1 / 2 % 2 = 1)), .slice none 0 0]) (yw_buildSt (by rfl) _ _ rfl (decide ((byteO l e).1 % 2 = 1)) (decide ((byteO l e).1 / 2 % 2 = 1)) rfl rfl) ?_
      simp only [Act.put, lzA, lzB, lzC]
      refine wt_allocSt (o := ⟨_, _, _, _, _, _⟩) (by rfl) rfl (fun v3 g3 hg G3 kb => ?_)
      simp only [Act.put, lzA, lzB, lzC]
      have n_b_g3 : b ≠ g3 := by have := H.lt; omega
      have n_g1_g3 : g1 ≠ g3 := by have := lt_heap G1; omega
      have ge_g3 : w.heap.size ≤ g3 := Nat.le_trans D.size hg
      clear hg
      replace D := grown_below D kb
      replace H := H.on kb
      replace G1 := heap_on G1 kb
      clear kb
      replace G3 : v3.heap[g3]? = some (.cells #[.bool false, .slice none 0 0, .bool false, .slice none 0 0] 25 (0, 0)) := G3
      refine wt_putSt (o := ⟨_, _, _, _, _, _⟩) rfl _ _ rfl _ rfl (⟨decide ((byteO l e).1 % 2 = 1), none, 0, 0, decide ((byteO l e).1 / 2 % 2 = 1), none, 0, 0⟩) rfl G3 rfl (fun v4 X kg => ?_)
      simp only [Act.put, lzA, lzB, lzC]
      replace D := gr_new D ge_g3 kg
      replace H := H.gr kg n_b_g3
      replace G1 := heap_gr G1 kg n_g1_g3
      clear kg
      replace G3 : v4.heap[g3]? = some (.cells #[.bool (decide ((byteO l e).1 % 2 = 1)), .slice none 0 0, .bool (decide ((byteO l e).1 / 2 % 2 = 1)), .slice none 0 0] 25 (0, 0)) := X
      clear X
      refine wpList_nil ?_
      refine hK5 _ _ ?_
      clear hK5 K5
      refine wp_seq_k (fun K6 hK6 => ?_)
      refine wp_seq_k (fun K7 hK7 => ?_)
      refine wp_region_lit ?_
      refine wl_yield (o := ⟨_, _, _, _, _, _⟩) (.pointer (some ⟨b, 0, none⟩)) (yl_move (by rfl) _ rfl _ rfl) ?_
      simp only [Act.put, lzA, lzB, lzC]
      refine wt_call (o := ⟨_, _, _, _, _, _⟩) (by rfl) 74 _ _ rfl #[.pointer (some ⟨b, 0, none⟩), .int .u64 6] rfl (run_call Tryz.func74 (by kernel_rfl) (by kernel_rfl)) ?_
      refine (takeCount_any b 6 _ _ _ H (Nat.le_trans (flO_tk.le l e) hz)).mono ?_
      rintro r v5 (⟨rfl, hr, kg⟩)
      · replace H := hr
        clear hr
        replace D := grown_trans D kg
        replace G1 := heap_gr G1 kg (Ne.symm n_b_g1)
        replace G3 := heap_gr G3 kg (Ne.symm n_b_g3)
        clear kg
        refine Or.inl ⟨.int .u64 (((cntO 6 (flO l e).2.1 (flO l e).2.2).1 : Nat) : Int), rfl, ?_⟩
        simp only [Act.put, lzA, lzB, lzC]
        refine wl_yield (o := ⟨_, _, _, _, _, _⟩) (.int .u64 0) (yl_move (by rfl) _ rfl _ rfl) ?_
        simp only [Act.put, lzA, lzB, lzC]
        refine wpList_nil ?_
        refine hK7 _ _ ?_
        clear hK7 K7
        refine wp_block ?_
        go_loopw [21] (fun i wr => ∃ (k : Nat) (p : Option Addr) (c : Nat), i = .int .u64 ((k : Nat) : Int) ∧ k ≤ (cntO 6 (flO l e).2.1 (flO l e).2.2).1 ∧ wr.heap[g3]? = some (.cells #[.bool (decide ((byteO l e).1 % 2 = 1)), .slice p ((iterO rgO k (cntO 6 (flO l e).2.1 (flO l e).2.2).2.1 (cntO 6 (flO l e).2.1 (flO l e).2.2).2.2).1).length c, .bool (decide ((byteO l e).1 / 2 % 2 = 1)), .slice none 0 0] 25 (0, 0)) ∧ wr.heap[g1]? = some (.cells #[.bool false, .slice none 0 0, .bool false, .slice none 0 0] 25 (0, 0)) ∧ RowR wr w.heap.size (.slice p ((iterO rgO k (cntO 6 (flO l e).2.1 (flO l e).2.2).2.1 (cntO 6 (flO l e).2.1 (flO l e).2.2).2.2).1).length c) ((iterO rgO k (cntO 6 (flO l e).2.1 (flO l e).2.2).2.1 (cntO 6 (flO l e).2.1 (flO l e).2.2).2.2).1) ∧ PS wr b (iterO rgO k (cntO 6 (flO l e).2.1 (flO l e).2.2).2.1 (cntO 6 (flO l e).2.1 (flO l e).2.2).2.2).2.1 (iterO rgO k (cntO 6 (flO l e).2.1 (flO l e).2.2).2.1 (cntO 6 (flO l e).2.1 (flO l e).2.2).2.2).2.2 ∧ w.grownBy wr (some b)) (fun i _ => (cntO 6 (flO l e).2.1 (flO l e).2.2).1 - (intOf i).toNat)
        case atStart => exact ⟨0, none, 0, rfl, Nat.zero_le _, G3, G1, RowR.nil _ _, H, D⟩
        case round =>
          clear D H G3 G1
          obtain ⟨k, p, c, rfl, hk, G3, G1, RI, H, D⟩ := hrel
          by_cases hlt : k < (cntO 6 (flO l e).2.1 (flO l e).2.2).1
          · have hm : (cntO 6 (flO l e).2.1 (flO l e).2.2).1 ≤ 6 := cntO_most 6 _ _
            refine wp_seq_k (fun K8 hK8 => ?_)
            refine wp_region_lit ?_
            refine wl_yield (o := ⟨_, _, _, _, _, _⟩) (.bool true) (yw_lssU (by rfl) _ _ _ rfl ((k : Nat) : Int) (((cntO 6 (flO l e).2.1 (flO l e).2.2).1 : Nat) : Int) true rfl rfl (decide_eq_true (by omega))) ?_
            simp only [Act.put, lzA, lzB, lzC]
            refine wpList_nil ?_
            refine hK8 _ _ ?_
            clear hK8 K8
            refine wp_seq_k (fun K9 hK9 => ?_)
            refine wp_cond_true rfl ?_
            refine wp_skip ?_
            refine hK9 _ _ ?_
            clear hK9 K9
            refine wp_seq_k (fun K10 hK10 => ?_)
            refine wp_block ?_
            refine wp_seq_k (fun K11 hK11 => ?_)
            refine wp_region_lit ?_
            refine wl_yield (o := ⟨_, _, _, _, _, _⟩) (.pointer (some ⟨b, 0, none⟩)) (yl_move (by rfl) _ rfl _ rfl) ?_
            simp only [Act.put, lzA, lzB, lzC]
            refine wt_call (o := ⟨_, _, _, _, _, _⟩) (by rfl) 123 _ _ rfl #[.pointer (some ⟨b, 0, none⟩)] rfl (run_call Tryz.func123 (by kernel_rfl) (by kernel_rfl)) ?_
            refine (intP b _ _ _ H (Nat.le_trans (rgO_tk.iter_le _ _ _) (Nat.le_trans ((cntO_tk 6 (by decide)).le _ _) (Nat.le_trans (flO_tk.le l e) hz)))).mono ?_
            rintro r v6 (⟨rfl, hr, kg⟩)
            · replace RI := H.row RI kg (by decide)
              replace H := hr
              clear hr
              replace D := grown_trans D kg
              replace G1 := heap_gr G1 kg (Ne.symm n_b_g1)
              replace G3 := heap_gr G3 kg (Ne.symm n_b_g3)
              clear kg
              refine Or.inl ⟨.int .i64 ((intO (iterO rgO k (cntO 6 (flO l e).2.1 (flO l e).2.2).2.1 (cntO 6 (flO l e).2.1 (flO l e).2.2).2.2).2.1 (iterO rgO k (cntO 6 (flO l e).2.1 (flO l e).2.2).2.1 (cntO 6 (flO l e).2.1 (flO l e).2.2).2.2).2.2).1), rfl, ?_⟩
              simp only [Act.put, lzA, lzB, lzC]
              refine wl_yield (o := ⟨_, _, _, _, _, _⟩) (.int .i64 ((intO (iterO rgO k (cntO 6 (flO l e).2.1 (flO l e).2.2).2.1 (cntO 6 (flO l e).2.1 (flO l e).2.2).2.2).2.1 (iterO rgO k (cntO 6 (flO l e).2.1 (flO l e).2.2).2.1 (cntO 6 (flO l e).2.1 (flO l e).2.2).2.2).2.2).1)) (yl_assign (by rfl) _ rfl _ rfl) ?_
              simp only [Act.put, lzA, lzB, lzC]
              refine wpList_nil ?_
              refine hK11 _ _ ?_
              clear hK11 K11
              refine wp_region_late (S := fun w' => w'.heap[g3]? = some (.cells #[.bool (decide ((byteO l e).1 % 2 = 1)), .slice p ((iterO rgO k (cntO 6 (flO l e).2.1 (flO l e).2.2).2.1 (cntO 6 (flO l e).2.1 (flO l e).2.2).2.2).1).length c, .bool (decide ((byteO l e).1 / 2 % 2 = 1)), .slice none 0 0] 25 (0, 0))) (late := fun j => [9].contains j) (by kernel_rfl) ?_
              have kb : Below v6.heap.size v6 v6.drew := (Below.refl _ v6).drew
              replace D := grown_below D kb
              replace RI := ownsRow_on RI kb
              replace H := H.on kb
              replace G1 := heap_on G1 kb
              replace G3 := heap_on G3 kb
              clear kb
              generalize v6.drew = v7 at D H G1 G3 RI ⊢
              refine wpAnyL_pure (i := 0) (oi := ⟨_, _, _, _, _, _⟩) (v := .pointer (some ⟨g3, 1, none⟩)) rfl (by kernel_rfl) (by kernel_rfl) (by kernel_rfl) (fun _ _ _ h => h) (yt_fSt1 (by rfl) _ rfl g3 0 rfl) ?_
              simp only [Act.put, lzA, lzB, lzC]
              refine wpAnyL_load (i := 1) (oi := ⟨_, _, _, _, _, _⟩) (v := .slice p ((iterO rgO k (cntO 6 (flO l e).2.1 (flO l e).2.2).2.1 (cntO 6 (flO l e).2.1 (flO l e).2.2).2.2).1).length c) rfl (by kernel_rfl) (by kernel_rfl) (by kernel_rfl) (by kernel_rfl) (fun _ _ _ h => h) (yt_ldLr (by rfl) _ rfl _ _ rfl p ((iterO rgO k (cntO 6 (flO l e).2.1 (flO l e).2.2).2.1 (cntO 6 (flO l e).2.1 (flO l e).2.2).2.2).1).length c (fun _ h => cell_heap h 1)) G3 ?_
              simp only [Act.put, lzA, lzB, lzC]
              refine wpAnyL_pure (i := 2) (oi := ⟨_, _, _, _, _, _⟩) (v := .int .i64 ((intO (iterO rgO k (cntO 6 (flO l e).2.1 (flO l e).2.2).2.1 (cntO 6 (flO l e).2.1 (flO l e).2.2).2.2).2.1 (iterO rgO k (cntO 6 (flO l e).2.1 (flO l e).2.2).2.1 (cntO 6 (flO l e).2.1 (flO l e).2.2).2.2).2.2).1)) rfl (by kernel_rfl) (by kernel_rfl) (by kernel_rfl) (fun _ _ _ h => h) (yl_move (by rfl) _ rfl _ rfl) ?_
              simp only [Act.put, lzA, lzB, lzC]
              refine wpAnyL_pure (i := 3) (oi := ⟨_, _, _, _, _, _⟩) (v := .pointer (some ⟨b, 0, none⟩)) rfl (by kernel_rfl) (by kernel_rfl) (by kernel_rfl) (fun _ _ _ h => h) (yl_move (by rfl) _ rfl _ rfl) ?_
              simp only [Act.put, lzA, lzB, lzC]
              refine wpAnyL_all (rs := [4]) (by kernel_rfl) (by simp) ?_
              intro j hj
              have hj := List.mem_singleton.1 hj
              subst hj
              refine ot_call (o := ⟨_, _, _, _, _, _⟩) rfl (by rfl) 123 _ _ rfl #[.pointer (some ⟨b, 0, none⟩)] rfl (run_call Tryz.func123 (by kernel_rfl) (by kernel_rfl)) ?_
              refine (intP b _ _ _ H (Nat.le_trans (intO_tk.le _ _) (Nat.le_trans (rgO_tk.iter_le _ _ _) (Nat.le_trans ((cntO_tk 6 (by decide)).le _ _) (Nat.le_trans (flO_tk.le l e) hz))))).mono ?_
              rintro r v8 (⟨rfl, hr, kg⟩)
              replace RI := H.row RI kg (by decide)
              replace H := hr
              clear hr
              replace D := grown_trans D kg
              replace G1 := heap_gr G1 kg (Ne.symm n_b_g1)
              replace G3 := heap_gr G3 kg (Ne.symm n_b_g3)
              clear kg
              refine Or.inl ⟨.int .i64 ((intO (intO (iterO rgO k (cntO 6 (flO l e).2.1 (flO l e).2.2).2.1 (cntO 6 (flO l e).2.1 (flO l e).2.2).2.2).2.1 (iterO rgO k (cntO 6 (flO l e).2.1 (flO l e).2.2).2.1 (cntO 6 (flO l e).2.1 (flO l e).2.2).2.2).2.2).2.1 (intO (iterO rgO k (cntO 6 (flO l e).2.1 (flO l e).2.2).2.1 (cntO 6 (flO l e).2.1 (flO l e).2.2).2.2).2.1 (iterO rgO k (cntO 6 (flO l e).2.1 (flO l e).2.2).2.1 (cntO 6 (flO l e).2.1 (flO l e).2.2).2.2).2.2).2.2).1), rfl, ⟨fun _ _ => G3, ?_⟩⟩
              simp only [Act.put, lzA, lzB, lzC]
              refine wpAnyL_pure (i := 5) (oi := ⟨_, _, _, _, _, _⟩) (v := .agg #[.int .i64 ((intO (iterO rgO k (cntO 6 (flO l e).2.1 (flO l e).2.2).2.1 (cntO 6 (flO l e).2.1 (flO l e).2.2).2.2).2.1 (iterO rgO k (cntO 6 (flO l e).2.1 (flO l e).2.2).2.1 (cntO 6 (flO l e).2.1 (flO l e).2.2).2.2).2.2).1), .int .i64 ((intO (intO (iterO rgO k (cntO 6 (flO l e).2.1 (flO l e).2.2).2.1 (cntO 6 (flO l e).2.1 (flO l e).2.2).2.2).2.1 (iterO rgO k (cntO 6 (flO l e).2.1 (flO l e).2.2).2.1 (cntO 6 (flO l e).2.1 (flO l e).2.2).2.2).2.2).2.1 (intO (iterO rgO k (cntO 6 (flO l e).2.1 (flO l e).2.2).2.1 (cntO 6 (flO l e).2.1 (flO l e).2.2).2.2).2.1 (iterO rgO k (cntO 6 (flO l e).2.1 (flO l e).2.2).2.1 (cntO 6 (flO l e).2.1 (flO l e).2.2).2.2).2.2).2.2).1)]) rfl (by kernel_rfl) (by kernel_rfl) (by kernel_rfl) (fun _ _ _ h => h) (yt_buildR (by rfl) _ _ rfl (intO (iterO rgO k (cntO 6 (flO l e).2.1 (flO l e).2.2).2.1 (cntO 6 (flO l e).2.1 (flO l e).2.2).2.2).2.1 (iterO rgO k (cntO 6 (flO l e).2.1 (flO l e).2.2).2.1 (cntO 6 (flO l e).2.1 (flO l e).2.2).2.2).2.2).1 (intO (intO (iterO rgO k (cntO 6 (flO l e).2.1 (flO l e).2.2).2.1 (cntO 6 (flO l e).2.1 (flO l e).2.2).2.2).2.1 (iterO rgO k (cntO 6 (flO l e).2.1 (flO l e).2.2).2.1 (cntO 6 (flO l e).2.1 (flO l e).2.2).2.2).2.2).2.1 (intO (iterO rgO k (cntO 6 (flO l e).2.1 (flO l e).2.2).2.1 (cntO 6 (flO l e).2.1 (flO l e).2.2).2.2).2.1 (iterO rgO k (cntO 6 (flO l e).2.1 (flO l e).2.2).2.1 (cntO 6 (flO l e).2.1 (flO l e).2.2).2.2).2.2).2.2).1 rfl rfl) ?_
              simp only [Act.put, lzA, lzB, lzC]
              refine wpAnyL_all (rs := [6]) (by kernel_rfl) (by simp) ?_
              intro j hj
              have hj := List.mem_singleton.1 hj
              subst hj
              refine ot_row1R (o := ⟨_, _, _, _, _, _⟩) rfl (by rfl) _ rfl ((intO (iterO rgO k (cntO 6 (flO l e).2.1 (flO l e).2.2).2.1 (cntO 6 (flO l e).2.1 (flO l e).2.2).2.2).2.1 (iterO rgO k (cntO 6 (flO l e).2.1 (flO l e).2.2).2.1 (cntO 6 (flO l e).2.1 (flO l e).2.2).2.2).2.2).1, (intO (intO (iterO rgO k (cntO 6 (flO l e).2.1 (flO l e).2.2).2.1 (cntO 6 (flO l e).2.1 (flO l e).2.2).2.2).2.1 (iterO rgO k (cntO 6 (flO l e).2.1 (flO l e).2.2).2.1 (cntO 6 (flO l e).2.1 (flO l e).2.2).2.2).2.2).2.1 (intO (iterO rgO k (cntO 6 (flO l e).2.1 (flO l e).2.2).2.1 (cntO 6 (flO l e).2.1 (flO l e).2.2).2.2).2.1 (iterO rgO k (cntO 6 (flO l e).2.1 (flO l e).2.2).2.1 (cntO 6 (flO l e).2.1 (flO l e).2.2).2.2).2.2).2.2).1) rfl (fun v9 g9 hg G9 kb => ?_)
              have n_b_g9 : b ≠ g9 := by have := H.lt; omega
              have n_g1_g9 : g1 ≠ g9 := by have := lt_heap G1; omega
              have n_g3_g9 : g3 ≠ g9 := by have := lt_heap G3; omega
              have ge_g9 : w.heap.size ≤ g9 := Nat.le_trans D.size hg
              clear hg
              replace D := grown_below D kb
              replace RI := ownsRow_on RI kb
              replace H := H.on kb
              replace G1 := heap_on G1 kb
              replace G3 := heap_on G3 kb
              clear kb
              refine ⟨fun _ _ => G3, ?_⟩
              simp only [Act.put, lzA, lzB, lzC]
              refine wpAnyL_all (rs := [7]) (by kernel_rfl) (by simp) ?_
              intro j hj
              have hj := List.mem_singleton.1 hj
              subst hj
              refine ot_appR (o := ⟨_, _, _, _, _, _⟩) rfl (by rfl) _ _ rfl w.heap.size _ (iterO rgO k (cntO 6 (flO l e).2.1 (flO l e).2.2).2.1 (cntO 6 (flO l e).2.1 (flO l e).2.2).2.2).1 rfl RI _ ((intO (iterO rgO k (cntO 6 (flO l e).2.1 (flO l e).2.2).2.1 (cntO 6 (flO l e).2.1 (flO l e).2.2).2.2).2.1 (iterO rgO k (cntO 6 (flO l e).2.1 (flO l e).2.2).2.1 (cntO 6 (flO l e).2.1 (flO l e).2.2).2.2).2.2).1, (intO (intO (iterO rgO k (cntO 6 (flO l e).2.1 (flO l e).2.2).2.1 (cntO 6 (flO l e).2.1 (flO l e).2.2).2.2).2.1 (iterO rgO k (cntO 6 (flO l e).2.1 (flO l e).2.2).2.1 (cntO 6 (flO l e).2.1 (flO l e).2.2).2.2).2.2).2.1 (intO (iterO rgO k (cntO 6 (flO l e).2.1 (flO l e).2.2).2.1 (cntO 6 (flO l e).2.1 (flO l e).2.2).2.2).2.1 (iterO rgO k (cntO 6 (flO l e).2.1 (flO l e).2.2).2.1 (cntO 6 (flO l e).2.1 (flO l e).2.2).2.2).2.2).2.2).1) rfl G9 ((by rw [iterO_len]; have := cntO_most 6 (flO l e).2.1 (flO l e).2.2; omega)) (D.size) (fun v10' v10 hrow kg hown => ?_)
              clear G9
              replace H := H.gro RI kg (by decide)
              replace G1 := heap_gro G1 kg (own_ne RI G1 (by decide))
              replace G3 := heap_gro G3 kg (own_ne RI G3 (by decide))
              replace D := gr_own D (fun g hg => Nat.le_trans (Nat.le_refl _) (World.ownsRow.lt RI g hg).1) kg
              clear kg hown
              replace RI := hrow
              clear hrow
              obtain ⟨p10, c10, rfl, -, -, -⟩ := ownsRow_form RI
              refine ⟨fun _ _ => G3, ?_⟩
              simp only [Act.put, lzA, lzB, lzC]
              refine wpAnyL_pure (i := 8) (oi := ⟨_, _, _, _, _, _⟩) (v := .pointer (some ⟨g3, 1, none⟩)) rfl (by kernel_rfl) (by kernel_rfl) (by kernel_rfl) (fun _ _ _ h => h) (yt_fSt1 (by rfl) _ rfl g3 0 rfl) ?_
              simp only [Act.put, lzA, lzB, lzC]
              refine wpAnyL_all (rs := [9]) (by kernel_rfl) (by simp) ?_
              intro j hj
              have hj := List.mem_singleton.1 hj
              subst hj
              refine ot_putL (o := ⟨_, _, _, _, _, _⟩) rfl (by rfl) _ (Or.inl rfl) _ _ rfl _ 1 rfl p10 ((iterO rgO k (cntO 6 (flO l e).2.1 (flO l e).2.2).2.1 (cntO 6 (flO l e).2.1 (flO l e).2.2).2.2).1 ++ [((intO (iterO rgO k (cntO 6 (flO l e).2.1 (flO l e).2.2).2.1 (cntO 6 (flO l e).2.1 (flO l e).2.2).2.2).2.1 (iterO rgO k (cntO 6 (flO l e).2.1 (flO l e).2.2).2.1 (cntO 6 (flO l e).2.1 (flO l e).2.2).2.2).2.2).1, (intO (intO (iterO rgO k (cntO 6 (flO l e).2.1 (flO l e).2.2).2.1 (cntO 6 (flO l e).2.1 (flO l e).2.2).2.2).2.1 (iterO rgO k (cntO 6 (flO l e).2.1 (flO l e).2.2).2.1 (cntO 6 (flO l e).2.1 (flO l e).2.2).2.2).2.2).2.1 (intO (iterO rgO k (cntO 6 (flO l e).2.1 (flO l e).2.2).2.1 (cntO 6 (flO l e).2.1 (flO l e).2.2).2.2).2.1 (iterO rgO k (cntO 6 (flO l e).2.1 (flO l e).2.2).2.1 (cntO 6 (flO l e).2.1 (flO l e).2.2).2.2).2.2).2.2).1)]).length c10 rfl G3 (by simp) (fun v11 X kg => ?_)
              replace RI := row_gr_heap RI kg G3 (by decide)
              replace D := gr_new D ge_g3 kg
              replace H := H.gr kg n_b_g3
              replace G1 := heap_gr G1 kg n_g1_g3
              clear kg
              replace G3 : v11.heap[g3]? = some (.cells #[.bool (decide ((byteO l e).1 % 2 = 1)), .slice p10 ((iterO rgO k (cntO 6 (flO l e).2.1 (flO l e).2.2).2.1 (cntO 6 (flO l e).2.1 (flO l e).2.2).2.2).1 ++ [((intO (iterO rgO k (cntO 6 (flO l e).2.1 (flO l e).2.2).2.1 (cntO 6 (flO l e).2.1 (flO l e).2.2).2.2).2.1 (iterO rgO k (cntO 6 (flO l e).2.1 (flO l e).2.2).2.1 (cntO 6 (flO l e).2.1 (flO l e).2.2).2.2).2.2).1, (intO (intO (iterO rgO k (cntO 6 (flO l e).2.1 (flO l e).2.2).2.1 (cntO 6 (flO l e).2.1 (flO l e).2.2).2.2).2.1 (iterO rgO k (cntO 6 (flO l e).2.1 (flO l e).2.2).2.1 (cntO 6 (flO l e).2.1 (flO l e).2.2).2.2).2.2).2.1 (intO (iterO rgO k (cntO 6 (flO l e).2.1 (flO l e).2.2).2.1 (cntO 6 (flO l e).2.1 (flO l e).2.2).2.2).2.1 (iterO rgO k (cntO 6 (flO l e).2.1 (flO l e).2.2).2.1 (cntO 6 (flO l e).2.1 (flO l e).2.2).2.2).2.2).2.2).1)]).length c10, .bool (decide ((byteO l e).1 / 2 % 2 = 1)), .slice none 0 0] 25 (0, 0)) := X
              clear X
              refine ⟨fun h => absurd h (by decide), ?_⟩
              simp only [Act.put, lzA, lzB, lzC]
              refine wpAnyL_done (by kernel_rfl) ?_ _
              refine hK10 _ _ ?_
              clear hK10 K10
              refine wp_region_lit ?_
              refine wl_yield (o := ⟨_, _, _, _, _, _⟩) (.int .u64 ((k + 1 : Nat) : Int)) (yw_addU (by rfl) _ _ _ rfl ((k : Nat) : Int) 1 ((k + 1 : Nat) : Int) rfl rfl (by omega) (by omega) (by omega)) ?_
              simp only [Act.put, lzA, lzB, lzC]
              refine wl_yield (o := ⟨_, _, _, _, _, _⟩) (.int .u64 ((k + 1 : Nat) : Int)) (yl_move (by rfl) _ rfl _ rfl) ?_
              simp only [Act.put, lzA, lzB, lzC]
              refine wpList_nil ?_
              show _ ∧ _
              go_roundw
              case rel => exact ⟨k + 1, p10, c10, rfl, by omega, G3, G1, RI, H, D⟩
              case measure => simp [intOf]; omega
          · obtain rfl : k = (cntO 6 (flO l e).2.1 (flO l e).2.2).1 := by omega
            refine wp_seq_k (fun K8 hK8 => ?_)
            refine wp_region_lit ?_
            refine wl_yield (o := ⟨_, _, _, _, _, _⟩) (.bool false) (yw_lssU (by rfl) _ _ _ rfl (((cntO 6 (flO l e).2.1 (flO l e).2.2).1 : Nat) : Int) (((cntO 6 (flO l e).2.1 (flO l e).2.2).1 : Nat) : Int) false rfl rfl (decide_eq_false (by omega))) ?_
            simp only [Act.put, lzA, lzB, lzC]
            refine wpList_nil ?_
            refine hK8 _ _ ?_
            clear hK8 K8
            refine wp_seq_k (fun K9 hK9 => ?_)
            refine wp_cond_false rfl ?_
            refine wp_exit ?_
            refine hK6 _ _ ?_
            clear hK9 K9 hK6 K6
            refine wp_seq_k (fun K10 hK10 => ?_)
            refine wp_seq_k (fun K11 hK11 => ?_)
            refine wp_region_lit ?_
            refine wl_yield (o := ⟨_, _, _, _, _, _⟩) (.pointer (some ⟨b, 0, none⟩)) (yl_move (by rfl) _ rfl _ rfl) ?_
            simp only [Act.put, lzA, lzB, lzC]
            refine wt_call (o := ⟨_, _, _, _, _, _⟩) (by rfl) 74 _ _ rfl #[.pointer (some ⟨b, 0, none⟩), .int .u64 6] rfl (run_call Tryz.func74 (by kernel_rfl) (by kernel_rfl)) ?_
            refine (takeCount_any b 6 _ _ _ H (Nat.le_trans (rgO_tk.iter_le _ _ _) (Nat.le_trans ((cntO_tk 6 (by decide)).le _ _) (Nat.le_trans (flO_tk.le l e) hz)))).mono ?_
            rintro r v6 (⟨rfl, hr, kg⟩)
            · replace RI := H.row RI kg (by decide)
              replace H := hr
              clear hr
              replace D := grown_trans D kg
              replace G1 := heap_gr G1 kg (Ne.symm n_b_g1)
              replace G3 := heap_gr G3 kg (Ne.symm n_b_g3)
              clear kg
              refine Or.inl ⟨.int .u64 (((cntO 6 (iterO rgO (cntO 6 (flO l e).2.1 (flO l e).2.2).1 (cntO 6 (flO l e).2.1 (flO l e).2.2).2.1 (cntO 6 (flO l e).2.1 (flO l e).2.2).2.2).2.1 (iterO rgO (cntO 6 (flO l e).2.1 (flO l e).2.2).1 (cntO 6 (flO l e).2.1 (flO l e).2.2).2.1 (cntO 6 (flO l e).2.1 (flO l e).2.2).2.2).2.2).1 : Nat) : Int), rfl, ?_⟩
              simp only [Act.put, lzA, lzB, lzC]
              refine wl_yield (o := ⟨_, _, _, _, _, _⟩) (.int .u64 0) (yl_move (by rfl) _ rfl _ rfl) ?_
              simp only [Act.put, lzA, lzB, lzC]
              refine wpList_nil ?_
              refine hK11 _ _ ?_
              clear hK11 K11
              refine wp_block ?_
              go_loopw [37] (fun i wr => ∃ (k : Nat) (q : Option Addr) (c2 : Nat), i = .int .u64 ((k : Nat) : Int) ∧ k ≤ (cntO 6 (iterO rgO (cntO 6 (flO l e).2.1 (flO l e).2.2).1 (cntO 6 (flO l e).2.1 (flO l e).2.2).2.1 (cntO 6 (flO l e).2.1 (flO l e).2.2).2.2).2.1 (iterO rgO (cntO 6 (flO l e).2.1 (flO l e).2.2).1 (cntO 6 (flO l e).2.1 (flO l e).2.2).2.1 (cntO 6 (flO l e).2.1 (flO l e).2.2).2.2).2.2).1 ∧ wr.heap[g3]? = some (.cells #[.bool (decide ((byteO l e).1 % 2 = 1)), .slice p ((iterO rgO (cntO 6 (flO l e).2.1 (flO l e).2.2).1 (cntO 6 (flO l e).2.1 (flO l e).2.2).2.1 (cntO 6 (flO l e).2.1 (flO l e).2.2).2.2).1).length c, .bool (decide ((byteO l e).1 / 2 % 2 = 1)), .slice q ((iterO stO k (cntO 6 (iterO rgO (cntO 6 (flO l e).2.1 (flO l e).2.2).1 (cntO 6 (flO l e).2.1 (flO l e).2.2).2.1 (cntO 6 (flO l e).2.1 (flO l e).2.2).2.2).2.1 (iterO rgO (cntO 6 (flO l e).2.1 (flO l e).2.2).1 (cntO 6 (flO l e).2.1 (flO l e).2.2).2.1 (cntO 6 (flO l e).2.1 (flO l e).2.2).2.2).2.2).2.1 (cntO 6 (iterO rgO (cntO 6 (flO l e).2.1 (flO l e).2.2).1 (cntO 6 (flO l e).2.1 (flO l e).2.2).2.1 (cntO 6 (flO l e).2.1 (flO l e).2.2).2.2).2.1 (iterO rgO (cntO 6 (flO l e).2.1 (flO l e).2.2).1 (cntO 6 (flO l e).2.1 (flO l e).2.2).2.1 (cntO 6 (flO l e).2.1 (flO l e).2.2).2.2).2.2).2.2).1).length c2] 25 (0, 0)) ∧ wr.heap[g1]? = some (.cells #[.bool false, .slice none 0 0, .bool false, .slice none 0 0] 25 (0, 0)) ∧ RowS wr w.heap.size (.slice q ((iterO stO k (cntO 6 (iterO rgO (cntO 6 (flO l e).2.1 (flO l e).2.2).1 (cntO 6 (flO l e).2.1 (flO l e).2.2).2.1 (cntO 6 (flO l e).2.1 (flO l e).2.2).2.2).2.1 (iterO rgO (cntO 6 (flO l e).2.1 (flO l e).2.2).1 (cntO 6 (flO l e).2.1 (flO l e).2.2).2.1 (cntO 6 (flO l e).2.1 (flO l e).2.2).2.2).2.2).2.1 (cntO 6 (iterO rgO (cntO 6 (flO l e).2.1 (flO l e).2.2).1 (cntO 6 (flO l e).2.1 (flO l e).2.2).2.1 (cntO 6 (flO l e).2.1 (flO l e).2.2).2.2).2.1 (iterO rgO (cntO 6 (flO l e).2.1 (flO l e).2.2).1 (cntO 6 (flO l e).2.1 (flO l e).2.2).2.1 (cntO 6 (flO l e).2.1 (flO l e).2.2).2.2).2.2).2.2).1).length c2) ((iterO stO k (cntO 6 (iterO rgO (cntO 6 (flO l e).2.1 (flO l e).2.2).1 (cntO 6 (flO l e).2.1 (flO l e).2.2).2.1 (cntO 6 (flO l e).2.1 (flO l e).2.2).2.2).2.1 (iterO rgO (cntO 6 (flO l e).2.1 (flO l e).2.2).1 (cntO 6 (flO l e).2.1 (flO l e).2.2).2.1 (cntO 6 (flO l e).2.1 (flO l e).2.2).2.2).2.2).2.1 (cntO 6 (iterO rgO (cntO 6 (flO l e).2.1 (flO l e).2.2).1 (cntO 6 (flO l e).2.1 (flO l e).2.2).2.1 (cntO 6 (flO l e).2.1 (flO l e).2.2).2.2).2.1 (iterO rgO (cntO 6 (flO l e).2.1 (flO l e).2.2).1 (cntO 6 (flO l e).2.1 (flO l e).2.2).2.1 (cntO 6 (flO l e).2.1 (flO l e).2.2).2.2).2.2).2.2).1) ∧ RowR wr w.heap.size (.slice p ((iterO rgO (cntO 6 (flO l e).2.1 (flO l e).2.2).1 (cntO 6 (flO l e).2.1 (flO l e).2.2).2.1 (cntO 6 (flO l e).2.1 (flO l e).2.2).2.2).1).length c) (iterO rgO (cntO 6 (flO l e).2.1 (flO l e).2.2).1 (cntO 6 (flO l e).2.1 (flO l e).2.2).2.1 (cntO 6 (flO l e).2.1 (flO l e).2.2).2.2).1 ∧ PS wr b (iterO stO k (cntO 6 (iterO rgO (cntO 6 (flO l e).2.1 (flO l e).2.2).1 (cntO 6 (flO l e).2.1 (flO l e).2.2).2.1 (cntO 6 (flO l e).2.1 (flO l e).2.2).2.2).2.1 (iterO rgO (cntO 6 (flO l e).2.1 (flO l e).2.2).1 (cntO 6 (flO l e).2.1 (flO l e).2.2).2.1 (cntO 6 (flO l e).2.1 (flO l e).2.2).2.2).2.2).2.1 (cntO 6 (iterO rgO (cntO 6 (flO l e).2.1 (flO l e).2.2).1 (cntO 6 (flO l e).2.1 (flO l e).2.2).2.1 (cntO 6 (flO l e).2.1 (flO l e).2.2).2.2).2.1 (iterO rgO (cntO 6 (flO l e).2.1 (flO l e).2.2).1 (cntO 6 (flO l e).2.1 (flO l e).2.2).2.1 (cntO 6 (flO l e).2.1 (flO l e).2.2).2.2).2.2).2.2).2.1 (iterO stO k (cntO 6 (iterO rgO (cntO 6 (flO l e).2.1 (flO l e).2.2).1 (cntO 6 (flO l e).2.1 (flO l e).2.2).2.1 (cntO 6 (flO l e).2.1 (flO l e).2.2).2.2).2.1 (iterO rgO (cntO 6 (flO l e).2.1 (flO l e).2.2).1 (cntO 6 (flO l e).2.1 (flO l e).2.2).2.1 (cntO 6 (flO l e).2.1 (flO l e).2.2).2.2).2.2).2.1 (cntO 6 (iterO rgO (cntO 6 (flO l e).2.1 (flO l e).2.2).1 (cntO 6 (flO l e).2.1 (flO l e).2.2).2.1 (cntO 6 (flO l e).2.1 (flO l e).2.2).2.2).2.1 (iterO rgO (cntO 6 (flO l e).2.1 (flO l e).2.2).1 (cntO 6 (flO l e).2.1 (flO l e).2.2).2.1 (cntO 6 (flO l e).2.1 (flO l e).2.2).2.2).2.2).2.2).2.2 ∧ w.grownBy wr (some b)) (fun i _ => (cntO 6 (iterO rgO (cntO 6 (flO l e).2.1 (flO l e).2.2).1 (cntO 6 (flO l e).2.1 (flO l e).2.2).2.1 (cntO 6 (flO l e).2.1 (flO l e).2.2).2.2).2.1 (iterO rgO (cntO 6 (flO l e).2.1 (flO l e).2.2).1 (cntO 6 (flO l e).2.1 (flO l e).2.2).2.1 (cntO 6 (flO l e).2.1 (flO l e).2.2).2.2).2.2).1 - (intOf i).toNat)
              case atStart => exact ⟨0, none, 0, rfl, Nat.zero_le _, G3, G1, RowS.nil _ _, RI, H, D⟩
              case round =>
                clear D H G3 G1 RI
                obtain ⟨k, q, c2, rfl, hk, G3, G1, RT, RI, H, D⟩ := hrel
                by_cases hlt : k < (cntO 6 (iterO rgO (cntO 6 (flO l e).2.1 (flO l e).2.2).1 (cntO 6 (flO l e).2.1 (flO l e).2.2).2.1 (cntO 6 (flO l e).2.1 (flO l e).2.2).2.2).2.1 (iterO rgO (cntO 6 (flO l e).2.1 (flO l e).2.2).1 (cntO 6 (flO l e).2.1 (flO l e).2.2).2.1 (cntO 6 (flO l e).2.1 (flO l e).2.2).2.2).2.2).1
                · have hm : (cntO 6 (iterO rgO (cntO 6 (flO l e).2.1 (flO l e).2.2).1 (cntO 6 (flO l e).2.1 (flO l e).2.2).2.1 (cntO 6 (flO l e).2.1 (flO l e).2.2).2.2).2.1 (iterO rgO (cntO 6 (flO l e).2.1 (flO l e).2.2).1 (cntO 6 (flO l e).2.1 (flO l e).2.2).2.1 (cntO 6 (flO l e).2.1 (flO l e).2.2).2.2).2.2).1 ≤ 6 := cntO_most 6 _ _
                  refine wp_seq_k (fun K12 hK12 => ?_)
                  refine wp_region_lit ?_
                  refine wl_yield (o := ⟨_, _, _, _, _, _⟩) (.bool true) (yw_lssU (by rfl) _ _ _ rfl ((k : Nat) : Int) (((cntO 6 (iterO rgO (cntO 6 (flO l e).2.1 (flO l e).2.2).1 (cntO 6 (flO l e).2.1 (flO l e).2.2).2.1 (cntO 6 (flO l e).2.1 (flO l e).2.2).2.2).2.1 (iterO rgO (cntO 6 (flO l e).2.1 (flO l e).2.2).1 (cntO 6 (flO l e).2.1 (flO l e).2.2).2.1 (cntO 6 (flO l e).2.1 (flO l e).2.2).2.2).2.2).1 : Nat) : Int) true rfl rfl (decide_eq_true (by omega))) ?_
                  simp only [Act.put, lzA, lzB, lzC]
                  refine wpList_nil ?_
                  refine hK12 _ _ ?_
                  clear hK12 K12
                  refine wp_seq_k (fun K13 hK13 => ?_)
                  refine wp_cond_true rfl ?_
                  refine wp_skip ?_
                  refine hK13 _ _ ?_
                  clear hK13 K13
                  refine wp_seq_k (fun K14 hK14 => ?_)
                  refine wp_block ?_
                  refine wp_region_late (S := fun w' => w'.heap[g3]? = some (.cells #[.bool (decide ((byteO l e).1 % 2 = 1)), .slice p ((iterO rgO (cntO 6 (flO l e).2.1 (flO l e).2.2).1 (cntO 6 (flO l e).2.1 (flO l e).2.2).2.1 (cntO 6 (flO l e).2.1 (flO l e).2.2).2.2).1).length c, .bool (decide ((byteO l e).1 / 2 % 2 = 1)), .slice q ((iterO stO k (cntO 6 (iterO rgO (cntO 6 (flO l e).2.1 (flO l e).2.2).1 (cntO 6 (flO l e).2.1 (flO l e).2.2).2.1 (cntO 6 (flO l e).2.1 (flO l e).2.2).2.2).2.1 (iterO rgO (cntO 6 (flO l e).2.1 (flO l e).2.2).1 (cntO 6 (flO l e).2.1 (flO l e).2.2).2.1 (cntO 6 (flO l e).2.1 (flO l e).2.2).2.2).2.2).2.1 (cntO 6 (iterO rgO (cntO 6 (flO l e).2.1 (flO l e).2.2).1 (cntO 6 (flO l e).2.1 (flO l e).2.2).2.1 (cntO 6 (flO l e).2.1 (flO l e).2.2).2.2).2.1 (iterO rgO (cntO 6 (flO l e).2.1 (flO l e).2.2).1 (cntO 6 (flO l e).2.1 (flO l e).2.2).2.1 (cntO 6 (flO l e).2.1 (flO l e).2.2).2.2).2.2).2.2).1).length c2] 25 (0, 0))) (late := fun j => [7].contains j) (by kernel_rfl) ?_
                  have kb : Below wr.heap.size wr wr.drew := (Below.refl _ wr).drew
                  replace D := grown_below D kb
                  replace RI := ownsRow_on RI kb
                  replace RT := ownsRow_on RT kb
                  replace H := H.on kb
                  replace G1 := heap_on G1 kb
                  replace G3 := heap_on G3 kb
                  clear kb
                  generalize wr.drew = v7 at D H G1 G3 RI RT ⊢
                  refine wpAnyL_pure (i := 0) (oi := ⟨_, _, _, _, _, _⟩) (v := .pointer (some ⟨g3, 3, none⟩)) rfl (by kernel_rfl) (by kernel_rfl) (by kernel_rfl) (fun _ _ _ h => h) (yt_fSt3 (by rfl) _ rfl g3 0 rfl) ?_
                  simp only [Act.put, lzA, lzB, lzC]
                  refine wpAnyL_load (i := 1) (oi := ⟨_, _, _, _, _, _⟩) (v := .slice q ((iterO stO k (cntO 6 (iterO rgO (cntO 6 (flO l e).2.1 (flO l e).2.2).1 (cntO 6 (flO l e).2.1 (flO l e).2.2).2.1 (cntO 6 (flO l e).2.1 (flO l e).2.2).2.2).2.1 (iterO rgO (cntO 6 (flO l e).2.1 (flO l e).2.2).1 (cntO 6 (flO l e).2.1 (flO l e).2.2).2.1 (cntO 6 (flO l e).2.1 (flO l e).2.2).2.2).2.2).2.1 (cntO 6 (iterO rgO (cntO 6 (flO l e).2.1 (flO l e).2.2).1 (cntO 6 (flO l e).2.1 (flO l e).2.2).2.1 (cntO 6 (flO l e).2.1 (flO l e).2.2).2.2).2.1 (iterO rgO (cntO 6 (flO l e).2.1 (flO l e).2.2).1 (cntO 6 (flO l e).2.1 (flO l e).2.2).2.1 (cntO 6 (flO l e).2.1 (flO l e).2.2).2.2).2.2).2.2).1).length c2) rfl (by kernel_rfl) (by kernel_rfl) (by kernel_rfl) (by kernel_rfl) (fun _ _ _ h => h) (yt_ldLs (by rfl) _ rfl _ _ rfl q ((iterO stO k (cntO 6 (iterO rgO (cntO 6 (flO l e).2.1 (flO l e).2.2).1 (cntO 6 (flO l e).2.1 (flO l e).2.2).2.1 (cntO 6 (flO l e).2.1 (flO l e).2.2).2.2).2.1 (iterO rgO (cntO 6 (flO l e).2.1 (flO l e).2.2).1 (cntO 6 (flO l e).2.1 (flO l e).2.2).2.1 (cntO 6 (flO l e).2.1 (flO l e).2.2).2.2).2.2).2.1 (cntO 6 (iterO rgO (cntO 6 (flO l e).2.1 (flO l e).2.2).1 (cntO 6 (flO l e).2.1 (flO l e).2.2).2.1 (cntO 6 (flO l e).2.1 (flO l e).2.2).2.2).2.1 (iterO rgO (cntO 6 (flO l e).2.1 (flO l e).2.2).1 (cntO 6 (flO l e).2.1 (flO l e).2.2).2.1 (cntO 6 (flO l e).2.1 (flO l e).2.2).2.2).2.2).2.2).1).length c2 (fun _ h => cell_heap h 3)) G3 ?_
                  simp only [Act.put, lzA, lzB, lzC]
                  refine wpAnyL_pure (i := 2) (oi := ⟨_, _, _, _, _, _⟩) (v := .pointer (some ⟨b, 0, none⟩)) rfl (by kernel_rfl) (by kernel_rfl) (by kernel_rfl) (fun _ _ _ h => h) (yl_move (by rfl) _ rfl _ rfl) ?_
                  simp only [Act.put, lzA, lzB, lzC]
                  refine wpAnyL_all (rs := [3]) (by kernel_rfl) (by simp) ?_
                  intro j hj
                  have hj := List.mem_singleton.1 hj
                  subst hj
                  refine ot_call (o := ⟨_, _, _, _, _, _⟩) rfl (by rfl) 124 _ _ rfl #[.pointer (some ⟨b, 0, none⟩), .int .i64 8] rfl (run_call Tryz.func124 (by kernel_rfl) (by kernel_rfl)) ?_
                  refine (strP b 8 _ _ _ H (Nat.le_trans (stO_tk.iter_le _ _ _) (Nat.le_trans ((cntO_tk 6 (by decide)).le _ _) (Nat.le_trans (rgO_tk.iter_le _ _ _) (Nat.le_trans ((cntO_tk 6 (by decide)).le _ _) (Nat.le_trans (flO_tk.le l e) hz))))) (by decide) (by decide)).mono ?_
                  rintro r v8 (⟨rfl, hr, kg⟩)
                  replace RI := H.row RI kg (by decide)
                  replace RT := H.row RT kg (by decide)
                  replace H := hr
                  clear hr
                  replace D := grown_trans D kg
                  replace G1 := heap_gr G1 kg (Ne.symm n_b_g1)
                  replace G3 := heap_gr G3 kg (Ne.symm n_b_g3)
                  clear kg
                  refine Or.inl ⟨.string (stO (iterO stO k (cntO 6 (iterO rgO (cntO 6 (flO l e).2.1 (flO l e).2.2).1 (cntO 6 (flO l e).2.1 (flO l e).2.2).2.1 (cntO 6 (flO l e).2.1 (flO l e).2.2).2.2).2.1 (iterO rgO (cntO 6 (flO l e).2.1 (flO l e).2.2).1 (cntO 6 (flO l e).2.1 (flO l e).2.2).2.1 (cntO 6 (flO l e).2.1 (flO l e).2.2).2.2).2.2).2.1 (cntO 6 (iterO rgO (cntO 6 (flO l e).2.1 (flO l e).2.2).1 (cntO 6 (flO l e).2.1 (flO l e).2.2).2.1 (cntO 6 (flO l e).2.1 (flO l e).2.2).2.2).2.1 (iterO rgO (cntO 6 (flO l e).2.1 (flO l e).2.2).1 (cntO 6 (flO l e).2.1 (flO l e).2.2).2.1 (cntO 6 (flO l e).2.1 (flO l e).2.2).2.2).2.2).2.2).2.1 (iterO stO k (cntO 6 (iterO rgO (cntO 6 (flO l e).2.1 (flO l e).2.2).1 (cntO 6 (flO l e).2.1 (flO l e).2.2).2.1 (cntO 6 (flO l e).2.1 (flO l e).2.2).2.2).2.1 (iterO rgO (cntO 6 (flO l e).2.1 (flO l e).2.2).1 (cntO 6 (flO l e).2.1 (flO l e).2.2).2.1 (cntO 6 (flO l e).2.1 (flO l e).2.2).2.2).2.2).2.1 (cntO 6 (iterO rgO (cntO 6 (flO l e).2.1 (flO l e).2.2).1 (cntO 6 (flO l e).2.1 (flO l e).2.2).2.1 (cntO 6 (flO l e).2.1 (flO l e).2.2).2.2).2.1 (iterO rgO (cntO 6 (flO l e).2.1 (flO l e).2.2).1 (cntO 6 (flO l e).2.1 (flO l e).2.2).2.1 (cntO 6 (flO l e).2.1 (flO l e).2.2).2.2).2.2).2.2).2.2).1, rfl, ⟨fun _ _ => G3, ?_⟩⟩
                  simp only [Act.put, lzA, lzB, lzC]
                  refine wpAnyL_all (rs := [4]) (by kernel_rfl) (by simp) ?_
                  intro j hj
                  have hj := List.mem_singleton.1 hj
                  subst hj
                  refine ot_row1S (o := ⟨_, _, _, _, _, _⟩) rfl (by rfl) _ rfl ((stO (iterO stO k (cntO 6 (iterO rgO (cntO 6 (flO l e).2.1 (flO l e).2.2).1 (cntO 6 (flO l e).2.1 (flO l e).2.2).2.1 (cntO 6 (flO l e).2.1 (flO l e).2.2).2.2).2.1 (iterO rgO (cntO 6 (flO l e).2.1 (flO l e).2.2).1 (cntO 6 (flO l e).2.1 (flO l e).2.2).2.1 (cntO 6 (flO l e).2.1 (flO l e).2.2).2.2).2.2).2.1 (cntO 6 (iterO rgO (cntO 6 (flO l e).2.1 (flO l e).2.2).1 (cntO 6 (flO l e).2.1 (flO l e).2.2).2.1 (cntO 6 (flO l e).2.1 (flO l e).2.2).2.2).2.1 (iterO rgO (cntO 6 (flO l e).2.1 (flO l e).2.2).1 (cntO 6 (flO l e).2.1 (flO l e).2.2).2.1 (cntO 6 (flO l e).2.1 (flO l e).2.2).2.2).2.2).2.2).2.1 (iterO stO k (cntO 6 (iterO rgO (cntO 6 (flO l e).2.1 (flO l e).2.2).1 (cntO 6 (flO l e).2.1 (flO l e).2.2).2.1 (cntO 6 (flO l e).2.1 (flO l e).2.2).2.2).2.1 (iterO rgO (cntO 6 (flO l e).2.1 (flO l e).2.2).1 (cntO 6 (flO l e).2.1 (flO l e).2.2).2.1 (cntO 6 (flO l e).2.1 (flO l e).2.2).2.2).2.2).2.1 (cntO 6 (iterO rgO (cntO 6 (flO l e).2.1 (flO l e).2.2).1 (cntO 6 (flO l e).2.1 (flO l e).2.2).2.1 (cntO 6 (flO l e).2.1 (flO l e).2.2).2.2).2.1 (iterO rgO (cntO 6 (flO l e).2.1 (flO l e).2.2).1 (cntO 6 (flO l e).2.1 (flO l e).2.2).2.1 (cntO 6 (flO l e).2.1 (flO l e).2.2).2.2).2.2).2.2).2.2).1) rfl (fun v9 g9 hg G9 kb => ?_)
                  have n_b_g9 : b ≠ g9 := by have := H.lt; omega
                  have n_g1_g9 : g1 ≠ g9 := by have := lt_heap G1; omega
                  have n_g3_g9 : g3 ≠ g9 := by have := lt_heap G3; omega
                  have ge_g9 : w.heap.size ≤ g9 := Nat.le_trans D.size hg
                  clear hg
                  replace D := grown_below D kb
                  replace RI := ownsRow_on RI kb
                  replace RT := ownsRow_on RT kb
                  replace H := H.on kb
                  replace G1 := heap_on G1 kb
                  replace G3 := heap_on G3 kb
                  clear kb
                  refine ⟨fun _ _ => G3, ?_⟩
                  simp only [Act.put, lzA, lzB, lzC]
                  refine wpAnyL_all (rs := [5]) (by kernel_rfl) (by simp) ?_
                  intro j hj
                  have hj := List.mem_singleton.1 hj
                  subst hj
                  refine ot_appS (o := ⟨_, _, _, _, _, _⟩) rfl (by rfl) _ _ rfl w.heap.size _ (iterO stO k (cntO 6 (iterO rgO (cntO 6 (flO l e).2.1 (flO l e).2.2).1 (cntO 6 (flO l e).2.1 (flO l e).2.2).2.1 (cntO 6 (flO l e).2.1 (flO l e).2.2).2.2).2.1 (iterO rgO (cntO 6 (flO l e).2.1 (flO l e).2.2).1 (cntO 6 (flO l e).2.1 (flO l e).2.2).2.1 (cntO 6 (flO l e).2.1 (flO l e).2.2).2.2).2.2).2.1 (cntO 6 (iterO rgO (cntO 6 (flO l e).2.1 (flO l e).2.2).1 (cntO 6 (flO l e).2.1 (flO l e).2.2).2.1 (cntO 6 (flO l e).2.1 (flO l e).2.2).2.2).2.1 (iterO rgO (cntO 6 (flO l e).2.1 (flO l e).2.2).1 (cntO 6 (flO l e).2.1 (flO l e).2.2).2.1 (cntO 6 (flO l e).2.1 (flO l e).2.2).2.2).2.2).2.2).1 rfl RT _ ((stO (iterO stO k (cntO 6 (iterO rgO (cntO 6 (flO l e).2.1 (flO l e).2.2).1 (cntO 6 (flO l e).2.1 (flO l e).2.2).2.1 (cntO 6 (flO l e).2.1 (flO l e).2.2).2.2).2.1 (iterO rgO (cntO 6 (flO l e).2.1 (flO l e).2.2).1 (cntO 6 (flO l e).2.1 (flO l e).2.2).2.1 (cntO 6 (flO l e).2.1 (flO l e).2.2).2.2).2.2).2.1 (cntO 6 (iterO rgO (cntO 6 (flO l e).2.1 (flO l e).2.2).1 (cntO 6 (flO l e).2.1 (flO l e).2.2).2.1 (cntO 6 (flO l e).2.1 (flO l e).2.2).2.2).2.1 (iterO rgO (cntO 6 (flO l e).2.1 (flO l e).2.2).1 (cntO 6 (flO l e).2.1 (flO l e).2.2).2.1 (cntO 6 (flO l e).2.1 (flO l e).2.2).2.2).2.2).2.2).2.1 (iterO stO k (cntO 6 (iterO rgO (cntO 6 (flO l e).2.1 (flO l e).2.2).1 (cntO 6 (flO l e).2.1 (flO l e).2.2).2.1 (cntO 6 (flO l e).2.1 (flO l e).2.2).2.2).2.1 (iterO rgO (cntO 6 (flO l e).2.1 (flO l e).2.2).1 (cntO 6 (flO l e).2.1 (flO l e).2.2).2.1 (cntO 6 (flO l e).2.1 (flO l e).2.2).2.2).2.2).2.1 (cntO 6 (iterO rgO (cntO 6 (flO l e).2.1 (flO l e).2.2).1 (cntO 6 (flO l e).2.1 (flO l e).2.2).2.1 (cntO 6 (flO l e).2.1 (flO l e).2.2).2.2).2.1 (iterO rgO (cntO 6 (flO l e).2.1 (flO l e).2.2).1 (cntO 6 (flO l e).2.1 (flO l e).2.2).2.1 (cntO 6 (flO l e).2.1 (flO l e).2.2).2.2).2.2).2.2).2.2).1) rfl G9 ((by rw [iterO_len]; have := cntO_most 6 (iterO rgO (cntO 6 (flO l e).2.1 (flO l e).2.2).1 (cntO 6 (flO l e).2.1 (flO l e).2.2).2.1 (cntO 6 (flO l e).2.1 (flO l e).2.2).2.2).2.1 (iterO rgO (cntO 6 (flO l e).2.1 (flO l e).2.2).1 (cntO 6 (flO l e).2.1 (flO l e).2.2).2.1 (cntO 6 (flO l e).2.1 (flO l e).2.2).2.2).2.2; omega)) (D.size) (fun v10' v10 hrow kg hown => ?_)
                  clear G9
                  replace H := H.gro RT kg (by decide)
                  replace G1 := heap_gro G1 kg (own_ne RT G1 (by decide))
                  replace G3 := heap_gro G3 kg (own_ne RT G3 (by decide))
                  replace RI := row_row RI RT kg (by decide)
                  replace D := gr_own D (fun g hg => Nat.le_trans (Nat.le_refl _) (World.ownsRow.lt RT g hg).1) kg
                  clear kg hown
                  replace RT := hrow
                  clear hrow
                  obtain ⟨p10, c10, rfl, -, -, -⟩ := ownsRow_form RT
                  refine ⟨fun _ _ => G3, ?_⟩
                  simp only [Act.put, lzA, lzB, lzC]
                  refine wpAnyL_pure (i := 6) (oi := ⟨_, _, _, _, _, _⟩) (v := .pointer (some ⟨g3, 3, none⟩)) rfl (by kernel_rfl) (by kernel_rfl) (by kernel_rfl) (fun _ _ _ h => h) (yt_fSt3 (by rfl) _ rfl g3 0 rfl) ?_
                  simp only [Act.put, lzA, lzB, lzC]
                  refine wpAnyL_all (rs := [7]) (by kernel_rfl) (by simp) ?_
                  intro j hj
                  have hj := List.mem_singleton.1 hj
                  subst hj
                  refine ot_putL (o := ⟨_, _, _, _, _, _⟩) rfl (by rfl) _ (Or.inr (Or.inl rfl)) _ _ rfl _ 3 rfl p10 ((iterO stO k (cntO 6 (iterO rgO (cntO 6 (flO l e).2.1 (flO l e).2.2).1 (cntO 6 (flO l e).2.1 (flO l e).2.2).2.1 (cntO 6 (flO l e).2.1 (flO l e).2.2).2.2).2.1 (iterO rgO (cntO 6 (flO l e).2.1 (flO l e).2.2).1 (cntO 6 (flO l e).2.1 (flO l e).2.2).2.1 (cntO 6 (flO l e).2.1 (flO l e).2.2).2.2).2.2).2.1 (cntO 6 (iterO rgO (cntO 6 (flO l e).2.1 (flO l e).2.2).1 (cntO 6 (flO l e).2.1 (flO l e).2.2).2.1 (cntO 6 (flO l e).2.1 (flO l e).2.2).2.2).2.1 (iterO rgO (cntO 6 (flO l e).2.1 (flO l e).2.2).1 (cntO 6 (flO l e).2.1 (flO l e).2.2).2.1 (cntO 6 (flO l e).2.1 (flO l e).2.2).2.2).2.2).2.2).1 ++ [((stO (iterO stO k (cntO 6 (iterO rgO (cntO 6 (flO l e).2.1 (flO l e).2.2).1 (cntO 6 (flO l e).2.1 (flO l e).2.2).2.1 (cntO 6 (flO l e).2.1 (flO l e).2.2).2.2).2.1 (iterO rgO (cntO 6 (flO l e).2.1 (flO l e).2.2).1 (cntO 6 (flO l e).2.1 (flO l e).2.2).2.1 (cntO 6 (flO l e).2.1 (flO l e).2.2).2.2).2.2).2.1 (cntO 6 (iterO rgO (cntO 6 (flO l e).2.1 (flO l e).2.2).1 (cntO 6 (flO l e).2.1 (flO l e).2.2).2.1 (cntO 6 (flO l e).2.1 (flO l e).2.2).2.2).2.1 (iterO rgO (cntO 6 (flO l e).2.1 (flO l e).2.2).1 (cntO 6 (flO l e).2.1 (flO l e).2.2).2.1 (cntO 6 (flO l e).2.1 (flO l e).2.2).2.2).2.2).2.2).2.1 (iterO stO k (cntO 6 (iterO rgO (cntO 6 (flO l e).2.1 (flO l e).2.2).1 (cntO 6 (flO l e).2.1 (flO l e).2.2).2.1 (cntO 6 (flO l e).2.1 (flO l e).2.2).2.2).2.1 (iterO rgO (cntO 6 (flO l e).2.1 (flO l e).2.2).1 (cntO 6 (flO l e).2.1 (flO l e).2.2).2.1 (cntO 6 (flO l e).2.1 (flO l e).2.2).2.2).2.2).2.1 (cntO 6 (iterO rgO (cntO 6 (flO l e).2.1 (flO l e).2.2).1 (cntO 6 (flO l e).2.1 (flO l e).2.2).2.1 (cntO 6 (flO l e).2.1 (flO l e).2.2).2.2).2.1 (iterO rgO (cntO 6 (flO l e).2.1 (flO l e).2.2).1 (cntO 6 (flO l e).2.1 (flO l e).2.2).2.1 (cntO 6 (flO l e).2.1 (flO l e).2.2).2.2).2.2).2.2).2.2).1)]).length c10 rfl G3 (by simp) (fun v11 X kg => ?_)
                  replace RI := row_gr_heap RI kg G3 (by decide)
                  replace RT := row_gr_heap RT kg G3 (by decide)
                  replace D := gr_new D ge_g3 kg
                  replace H := H.gr kg n_b_g3
                  replace G1 := heap_gr G1 kg n_g1_g3
                  clear kg
                  replace G3 : v11.heap[g3]? = some (.cells #[.bool (decide ((byteO l e).1 % 2 = 1)), .slice p ((iterO rgO (cntO 6 (flO l e).2.1 (flO l e).2.2).1 (cntO 6 (flO l e).2.1 (flO l e).2.2).2.1 (cntO 6 (flO l e).2.1 (flO l e).2.2).2.2).1).length c, .bool (decide ((byteO l e).1 / 2 % 2 = 1)), .slice p10 ((iterO stO k (cntO 6 (iterO rgO (cntO 6 (flO l e).2.1 (flO l e).2.2).1 (cntO 6 (flO l e).2.1 (flO l e).2.2).2.1 (cntO 6 (flO l e).2.1 (flO l e).2.2).2.2).2.1 (iterO rgO (cntO 6 (flO l e).2.1 (flO l e).2.2).1 (cntO 6 (flO l e).2.1 (flO l e).2.2).2.1 (cntO 6 (flO l e).2.1 (flO l e).2.2).2.2).2.2).2.1 (cntO 6 (iterO rgO (cntO 6 (flO l e).2.1 (flO l e).2.2).1 (cntO 6 (flO l e).2.1 (flO l e).2.2).2.1 (cntO 6 (flO l e).2.1 (flO l e).2.2).2.2).2.1 (iterO rgO (cntO 6 (flO l e).2.1 (flO l e).2.2).1 (cntO 6 (flO l e).2.1 (flO l e).2.2).2.1 (cntO 6 (flO l e).2.1 (flO l e).2.2).2.2).2.2).2.2).1 ++ [((stO (iterO stO k (cntO 6 (iterO rgO (cntO 6 (flO l e).2.1 (flO l e).2.2).1 (cntO 6 (flO l e).2.1 (flO l e).2.2).2.1 (cntO 6 (flO l e).2.1 (flO l e).2.2).2.2).2.1 (iterO rgO (cntO 6 (flO l e).2.1 (flO l e).2.2).1 (cntO 6 (flO l e).2.1 (flO l e).2.2).2.1 (cntO 6 (flO l e).2.1 (flO l e).2.2).2.2).2.2).2.1 (cntO 6 (iterO rgO (cntO 6 (flO l e).2.1 (flO l e).2.2).1 (cntO 6 (flO l e).2.1 (flO l e).2.2).2.1 (cntO 6 (flO l e).2.1 (flO l e).2.2).2.2).2.1 (iterO rgO (cntO 6 (flO l e).2.1 (flO l e).2.2).1 (cntO 6 (flO l e).2.1 (flO l e).2.2).2.1 (cntO 6 (flO l e).2.1 (flO l e).2.2).2.2).2.2).2.2).2.1 (iterO stO k (cntO 6 (iterO rgO (cntO 6 (flO l e).2.1 (flO l e).2.2).1 (cntO 6 (flO l e).2.1 (flO l e).2.2).2.1 (cntO 6 (flO l e).2.1 (flO l e).2.2).2.2).2.1 (iterO rgO (cntO 6 (flO l e).2.1 (flO l e).2.2).1 (cntO 6 (flO l e).2.1 (flO l e).2.2).2.1 (cntO 6 (flO l e).2.1 (flO l e).2.2).2.2).2.2).2.1 (cntO 6 (iterO rgO (cntO 6 (flO l e).2.1 (flO l e).2.2).1 (cntO 6 (flO l e).2.1 (flO l e).2.2).2.1 (cntO 6 (flO l e).2.1 (flO l e).2.2).2.2).2.1 (iterO rgO (cntO 6 (flO l e).2.1 (flO l e).2.2).1 (cntO 6 (flO l e).2.1 (flO l e).2.2).2.1 (cntO 6 (flO l e).2.1 (flO l e).2.2).2.2).2.2).2.2).2.2).1)]).length c10] 25 (0, 0)) := X
                  clear X
                  refine ⟨fun h => absurd h (by decide), ?_⟩
                  simp only [Act.put, lzA, lzB, lzC]
                  refine wpAnyL_done (by kernel_rfl) ?_ _
                  refine hK14 _ _ ?_
                  clear hK14 K14
                  refine wp_region_lit ?_
                  refine wl_yield (o := ⟨_, _, _, _, _, _⟩) (.int .u64 ((k + 1 : Nat) : Int)) (yw_addU (by rfl) _ _ _ rfl ((k : Nat) : Int) 1 ((k + 1 : Nat) : Int) rfl rfl (by omega) (by omega) (by omega)) ?_
                  simp only [Act.put, lzA, lzB, lzC]
                  refine wl_yield (o := ⟨_, _, _, _, _, _⟩) (.int .u64 ((k + 1 : Nat) : Int)) (yl_move (by rfl) _ rfl _ rfl) ?_
                  simp only [Act.put, lzA, lzB, lzC]
                  refine wpList_nil ?_
                  show _ ∧ _
                  go_roundw
                  case rel => exact ⟨k + 1, p10, c10, rfl, by omega, G3, G1, RT, RI, H, D⟩
                  case measure => simp [intOf]; omega
                · obtain rfl : k = (cntO 6 (iterO rgO (cntO 6 (flO l e).2.1 (flO l e).2.2).1 (cntO 6 (flO l e).2.1 (flO l e).2.2).2.1 (cntO 6 (flO l e).2.1 (flO l e).2.2).2.2).2.1 (iterO rgO (cntO 6 (flO l e).2.1 (flO l e).2.2).1 (cntO 6 (flO l e).2.1 (flO l e).2.2).2.1 (cntO 6 (flO l e).2.1 (flO l e).2.2).2.2).2.2).1 := by omega
                  refine wp_seq_k (fun K12 hK12 => ?_)
                  refine wp_region_lit ?_
                  refine wl_yield (o := ⟨_, _, _, _, _, _⟩) (.bool false) (yw_lssU (by rfl) _ _ _ rfl (((cntO 6 (iterO rgO (cntO 6 (flO l e).2.1 (flO l e).2.2).1 (cntO 6 (flO l e).2.1 (flO l e).2.2).2.1 (cntO 6 (flO l e).2.1 (flO l e).2.2).2.2).2.1 (iterO rgO (cntO 6 (flO l e).2.1 (flO l e).2.2).1 (cntO 6 (flO l e).2.1 (flO l e).2.2).2.1 (cntO 6 (flO l e).2.1 (flO l e).2.2).2.2).2.2).1 : Nat) : Int) (((cntO 6 (iterO rgO (cntO 6 (flO l e).2.1 (flO l e).2.2).1 (cntO 6 (flO l e).2.1 (flO l e).2.2).2.1 (cntO 6 (flO l e).2.1 (flO l e).2.2).2.2).2.1 (iterO rgO (cntO 6 (flO l e).2.1 (flO l e).2.2).1 (cntO 6 (flO l e).2.1 (flO l e).2.2).2.1 (cntO 6 (flO l e).2.1 (flO l e).2.2).2.2).2.2).1 : Nat) : Int) false rfl rfl (decide_eq_false (by omega))) ?_
                  simp only [Act.put, lzA, lzB, lzC]
                  refine wpList_nil ?_
                  refine hK12 _ _ ?_
                  clear hK12 K12
                  refine wp_seq_k (fun K13 hK13 => ?_)
                  refine wp_cond_false rfl ?_
                  refine wp_exit ?_
                  refine hK10 _ _ ?_
                  clear hK13 K13 hK10 K10
                  refine wp_seq_k (fun K14 hK14 => ?_)
                  refine wp_region_lit ?_
                  refine wl_yield (o := ⟨_, _, _, _, _, _⟩) (.agg #[.bool (decide ((byteO l e).1 % 2 = 1)), .slice p ((iterO rgO (cntO 6 (flO l e).2.1 (flO l e).2.2).1 (cntO 6 (flO l e).2.1 (flO l e).2.2).2.1 (cntO 6 (flO l e).2.1 (flO l e).2.2).2.2).1).length c, .bool (decide ((byteO l e).1 / 2 % 2 = 1)), .slice q ((iterO stO (cntO 6 (iterO rgO (cntO 6 (flO l e).2.1 (flO l e).2.2).1 (cntO 6 (flO l e).2.1 (flO l e).2.2).2.1 (cntO 6 (flO l e).2.1 (flO l e).2.2).2.2).2.1 (iterO rgO (cntO 6 (flO l e).2.1 (flO l e).2.2).1 (cntO 6 (flO l e).2.1 (flO l e).2.2).2.1 (cntO 6 (flO l e).2.1 (flO l e).2.2).2.2).2.2).1 (cntO 6 (iterO rgO (cntO 6 (flO l e).2.1 (flO l e).2.2).1 (cntO 6 (flO l e).2.1 (flO l e).2.2).2.1 (cntO 6 (flO l e).2.1 (flO l e).2.2).2.2).2.1 (iterO rgO (cntO 6 (flO l e).2.1 (flO l e).2.2).1 (cntO 6 (flO l e).2.1 (flO l e).2.2).2.1 (cntO 6 (flO l e).2.1 (flO l e).2.2).2.2).2.2).2.1 (cntO 6 (iterO rgO (cntO 6 (flO l e).2.1 (flO l e).2.2).1 (cntO 6 (flO l e).2.1 (flO l e).2.2).2.1 (cntO 6 (flO l e).2.1 (flO l e).2.2).2.2).2.1 (iterO rgO (cntO 6 (flO l e).2.1 (flO l e).2.2).1 (cntO 6 (flO l e).2.1 (flO l e).2.2).2.1 (cntO 6 (flO l e).2.1 (flO l e).2.2).2.2).2.2).2.2).1).length c2]) (yl_set (by rfl) _ rfl _ 0 rfl _ _ _ _ (fun _ h => by subst h; exact ⟨cell_heap G3 0, cell_heap G3 1, cell_heap G3 2, cell_heap G3 3⟩)) ?_
                  simp only [Act.put, lzA, lzB, lzC]
                  refine wt_putSt (o := ⟨_, _, _, _, _, _⟩) rfl _ _ rfl _ rfl (⟨decide ((byteO l e).1 % 2 = 1), p, ((iterO rgO (cntO 6 (flO l e).2.1 (flO l e).2.2).1 (cntO 6 (flO l e).2.1 (flO l e).2.2).2.1 (cntO 6 (flO l e).2.1 (flO l e).2.2).2.2).1).length, c, decide ((byteO l e).1 / 2 % 2 = 1), q, ((iterO stO (cntO 6 (iterO rgO (cntO 6 (flO l e).2.1 (flO l e).2.2).1 (cntO 6 (flO l e).2.1 (flO l e).2.2).2.1 (cntO 6 (flO l e).2.1 (flO l e).2.2).2.2).2.1 (iterO rgO (cntO 6 (flO l e).2.1 (flO l e).2.2).1 (cntO 6 (flO l e).2.1 (flO l e).2.2).2.1 (cntO 6 (flO l e).2.1 (flO l e).2.2).2.2).2.2).1 (cntO 6 (iterO rgO (cntO 6 (flO l e).2.1 (flO l e).2.2).1 (cntO 6 (flO l e).2.1 (flO l e).2.2).2.1 (cntO 6 (flO l e).2.1 (flO l e).2.2).2.2).2.1 (iterO rgO (cntO 6 (flO l e).2.1 (flO l e).2.2).1 (cntO 6 (flO l e).2.1 (flO l e).2.2).2.1 (cntO 6 (flO l e).2.1 (flO l e).2.2).2.2).2.2).2.1 (cntO 6 (iterO rgO (cntO 6 (flO l e).2.1 (flO l e).2.2).1 (cntO 6 (flO l e).2.1 (flO l e).2.2).2.1 (cntO 6 (flO l e).2.1 (flO l e).2.2).2.2).2.1 (iterO rgO (cntO 6 (flO l e).2.1 (flO l e).2.2).1 (cntO 6 (flO l e).2.1 (flO l e).2.2).2.1 (cntO 6 (flO l e).2.1 (flO l e).2.2).2.2).2.2).2.2).1).length, c2⟩) rfl G1 rfl (fun v7 X kg => ?_)
                  simp only [Act.put, lzA, lzB, lzC]
                  replace RI := row_gr_heap RI kg G1 (by decide)
                  replace RT := row_gr_heap RT kg G1 (by decide)
                  replace D := gr_new D ge_g1 kg
                  replace H := H.gr kg n_b_g1
                  replace G3 := heap_gr G3 kg (Ne.symm n_g1_g3)
                  clear kg
                  replace G1 : v7.heap[g1]? = some (.cells #[.bool (decide ((byteO l e).1 % 2 = 1)), .slice p ((iterO rgO (cntO 6 (flO l e).2.1 (flO l e).2.2).1 (cntO 6 (flO l e).2.1 (flO l e).2.2).2.1 (cntO 6 (flO l e).2.1 (flO l e).2.2).2.2).1).length c, .bool (decide ((byteO l e).1 / 2 % 2 = 1)), .slice q ((iterO stO (cntO 6 (iterO rgO (cntO 6 (flO l e).2.1 (flO l e).2.2).1 (cntO 6 (flO l e).2.1 (flO l e).2.2).2.1 (cntO 6 (flO l e).2.1 (flO l e).2.2).2.2).2.1 (iterO rgO (cntO 6 (flO l e).2.1 (flO l e).2.2).1 (cntO 6 (flO l e).2.1 (flO l e).2.2).2.1 (cntO 6 (flO l e).2.1 (flO l e).2.2).2.2).2.2).1 (cntO 6 (iterO rgO (cntO 6 (flO l e).2.1 (flO l e).2.2).1 (cntO 6 (flO l e).2.1 (flO l e).2.2).2.1 (cntO 6 (flO l e).2.1 (flO l e).2.2).2.2).2.1 (iterO rgO (cntO 6 (flO l e).2.1 (flO l e).2.2).1 (cntO 6 (flO l e).2.1 (flO l e).2.2).2.1 (cntO 6 (flO l e).2.1 (flO l e).2.2).2.2).2.2).2.1 (cntO 6 (iterO rgO (cntO 6 (flO l e).2.1 (flO l e).2.2).1 (cntO 6 (flO l e).2.1 (flO l e).2.2).2.1 (cntO 6 (flO l e).2.1 (flO l e).2.2).2.2).2.1 (iterO rgO (cntO 6 (flO l e).2.1 (flO l e).2.2).1 (cntO 6 (flO l e).2.1 (flO l e).2.2).2.1 (cntO 6 (flO l e).2.1 (flO l e).2.2).2.2).2.2).2.2).1).length c2] 25 (0, 0)) := X
                  clear X
                  refine wpList_nil ?_
                  refine hK14 _ _ ?_
                  clear hK14 K14
                  refine wp_ret ?_
                  try simp only [Exit.inBlock, Exit.then]
                  refine bodyPost_ret (results_cell_row rfl _ _ g1 25 _ (0, 0) _ rfl G1 Tryz.underlying25 rfl infoSet4) rfl ⟨⟨_, p, _, c, _, q, _, c2⟩, rfl, fun w'' hk => ?_, H, D⟩
                  exact setAt_rows (S := (setO l e).1) (own_kept RI hk (Nat.le_refl _)) (own_kept RT hk (Nat.le_refl _)) (fun r hr => ⟨(iterO_all (P := fun r => okI r.1 ∧ okI r.2) rgO_ok _ _ _ r hr).1.1, (iterO_all (P := fun r => okI r.1 ∧ okI r.2) rgO_ok _ _ _ r hr).1.2, (iterO_all (P := fun r => okI r.1 ∧ okI r.2) rgO_ok _ _ _ r hr).2.1, (iterO_all (P := fun r => okI r.1 ∧ okI r.2) rgO_ok _ _ _ r hr).2.2⟩) (fun x hx => iterO_all (P := fun s => s.size ≤ 8) stO_ok _ _ _ x hx) (by show (iterO _ _ _ _).1.length ≤ _; rw [iterO_len]; exact Nat.le_trans (cntO_most 6 _ _) (by decide)) (by show (iterO _ _ _ _).1.length ≤ _; rw [iterO_len]; exact Nat.le_trans (cntO_most 6 _ _) (by decide))
end Go.Proofs.YtlmdcaemjaldfaaGreat
namespace Go.Proofs.YtlmdcaemjaldfaaGreat
open Go.RowKit
def stJ (l : List UInt8) (e : Int) (j : Nat) : SetV := (setO (iterO setO j l e).2.1 (iterO setO j l e).2.2).1
theorem four_get (f : TkF SetV) (l : List UInt8) (e : Int) (j : Nat) (hj : j < 4) : (mapO (fun p => (⟨p.1, p.2.1, p.2.2.1, p.2.2.2⟩ : BoxV)) (twoO f (twoO f (twoO f f))) l e).1.get j = (f (iterO f j l e).2.1 (iterO f j l e).2.2).1 := by
  match j, hj with
  | 0, _ => rfl
  | 1, _ => rfl
  | 2, _ => rfl
  | 3, _ => rfl
theorem four_st (f : TkF SetV) (l : List UInt8) (e : Int) : (iterO f 4 l e).2 = (mapO (fun p => (⟨p.1, p.2.1, p.2.2.1, p.2.2.2⟩ : BoxV)) (twoO f (twoO f (twoO f f))) l e).2 := rfl
theorem box_get (l : List UInt8) (e : Int) (j : Nat) (hj : j < 4) : (boxO l e).1.get j = stJ l e j := four_get setO l e j hj
theorem box_st (l : List UInt8) (e : Int) : (iterO setO 4 l e).2 = (boxO l e).2 := four_st setO l e
theorem boxAt_of8 {w : World} {c : BxC} {b : BoxV} (h : ∀ j, j < 4 → SetAt w (c.sc j).val (b.get j)) : BoxAt w c.val b := by
  have h0 := h 0 (by decide)
  have h1 := h 1 (by decide)
  have h2 := h 2 (by decide)
  have h3 := h 3 (by decide)
  have e0 := (setAt_parts h0).1
  have e1 := (setAt_parts h1).1
  have e2 := (setAt_parts h2).1
  have e3 := (setAt_parts h3).1
  obtain ⟨s0, s1, s2, s3⟩ := c
  simp only [BxC.sc, BoxV.get] at h0 h1 h2 h3 e0 e1 e2 e3
  generalize s0.p = a0 at e0
  generalize s0.c = b0 at e0
  generalize s0.q = c0 at e0
  generalize s0.e = d0 at e0
  generalize s1.p = a1 at e1
  generalize s1.c = b1 at e1
  generalize s1.q = c1 at e1
  generalize s1.e = d1 at e1
  generalize s2.p = a2 at e2
  generalize s2.c = b2 at e2
  generalize s2.q = c2 at e2
  generalize s2.e = d2 at e2
  generalize s3.p = a3 at e3
  generalize s3.c = b3 at e3
  generalize s3.q = c3 at e3
  generalize s3.e = d3 at e3
  subst e0 e1 e2 e3
  exact ⟨a0, c0, a1, c1, a2, c2, a3, c3, b0, d0, b1, d1, b2, d2, b3, d3, rfl, h0, h1, h2, h3⟩
set_option maxHeartbeats 4000000 in
set_option maxRecDepth 100000 in
theorem takeBox_any (b : Nat) (l : List UInt8) (e : Int) (w : World) (H : PS w b l e) (hz : l.length ≤ 1048576) :
    Calls Tryz.prog 75 #[.pointer (some ⟨b, 0, none⟩)] w fun r w' => (∃ c : BxC, r = .returned c.val ∧ (∀ w'', Kept w.heap.size w' w'' → BoxAt w'' c.val (boxO l e).1) ∧ PS w' b (boxO l e).2.1 (boxO l e).2.2 ∧ w.grownBy w' (some b)) := by
  have D : w.grownBy w (some b) := grown_refl _ _
  have Hb := PS.lt H
  go_enter Tryz.func75, Tryz.ntmps75
  refine wp_seq_k (fun K1 hK1 => ?_)
  refine wp_region_lit ?_
  refine wl_allocB (o := ⟨_, _, _, _, _, _⟩) (by rfl) rfl (fun v1 g1 hg G1 kb => ?_)
  simp only [Act.put, lzA, lzB, lzC]
  have n_b_g1 : b ≠ g1 := by have := H.lt; omega
  have ge_g1 : w.heap.size ≤ g1 := Nat.le_trans D.size hg
  clear hg
  replace D := grown_below D kb
  replace H := H.on kb
  clear kb
  replace G1 : BcIn v1 g1 bc0 := G1
  refine wpList_nil ?_
  refine hK1 _ _ ?_
  clear hK1 K1
  refine wp_seq_k (fun K2 hK2 => ?_)
  refine wp_region_lit ?_
  refine wt_alloc4 (o := ⟨_, _, _, _, _, _⟩) (by rfl) rfl (fun v2 g2 hg G2 kb => ?_)
  simp only [Act.put, lzA, lzB, lzC]
  have hx0 : g1 < g2 := Nat.lt_of_lt_of_le (lt_heap G1) hg
  have n_b_g2 : b ≠ g2 := by have := H.lt; omega
  have n_g1_g2 : g1 ≠ g2 := by have := lt_heap G1; omega
  have ge_g2 : w.heap.size ≤ g2 := Nat.le_trans D.size hg
  clear hg
  replace D := grown_below D kb
  replace H := H.on kb
  replace G1 := heap_on G1 kb
  clear kb
  replace G2 : B4In v2 g2 bc0 := G2
  refine wpList_nil ?_
  refine hK2 _ _ ?_
  clear hK2 K2
  refine wp_seq_k (fun K3 hK3 => ?_)
  refine wp_seq_k (fun K4 hK4 => ?_)
  refine wp_region_lit ?_
  refine wl_yield (o := ⟨_, _, _, _, _, _⟩) (.int .i64 0) (yl_move (by rfl) _ rfl _ rfl) ?_
  simp only [Act.put, lzA, lzB, lzC]
  refine wpList_nil ?_
  refine hK4 _ _ ?_
  clear hK4 K4
  refine wp_block ?_
  have hbx : b < g2 + 1 := by have := ge_g2; omega
  have hx_g2 : g2 < g2 + 1 := Nat.lt_succ_self _
  have hx_g1 : g1 < g2 + 1 := by omega
  go_loopw [5] (fun i wr => ∃ (k : Nat) (c : BxC), i = .int .i64 k ∧ k ≤ 4 ∧ BcIn wr g1 bc0 ∧ B4In wr g2 c ∧ (∀ j, j < k → Lives (g2 + 1) wr (fun w'' => SetAt w'' (c.sc j).val (stJ l e j))) ∧ PS wr b (iterO setO k l e).2.1 (iterO setO k l e).2.2 ∧ w.grownBy wr (some b)) (fun i _ => 4 - (intOf i).toNat)
  case atStart => exact ⟨0, bc0, rfl, by omega, G1, G2, fun j hj => absurd hj (Nat.not_lt_zero _), H, D⟩
  case round =>
    clear D H G1 G2
    obtain ⟨k, c, rfl, hk, G1, G2, HL, H, D⟩ := hrel
    by_cases hlt : k < 4
    · refine wp_seq_k (fun K5 hK5 => ?_)
      refine wp_region_lit ?_
      refine wl_yield (o := ⟨_, _, _, _, _, _⟩) (.bool true) (yt_lssI (by rfl) _ _ _ rfl ((k : Nat) : Int) 4 true rfl rfl (decide_eq_true (by omega))) ?_
      simp only [Act.put, lzA, lzB, lzC]
      refine wpList_nil ?_
      refine hK5 _ _ ?_
      clear hK5 K5
      refine wp_seq_k (fun K6 hK6 => ?_)
      refine wp_cond_true rfl ?_
      refine wp_skip ?_
      refine hK6 _ _ ?_
      clear hK6 K6
      refine wp_seq_k (fun K7 hK7 => ?_)
      refine wp_block ?_
      refine wp_seq_k (fun K8 hK8 => ?_)
      refine wp_region_lit ?_
      refine wl_yield (o := ⟨_, _, _, _, _, _⟩) (.int .i64 (k : Nat)) (yl_move (by rfl) _ rfl _ rfl) ?_
      simp only [Act.put, lzA, lzB, lzC]
      refine wl_yield (o := ⟨_, _, _, _, _, _⟩) (.int .i64 (k : Nat)) (yl_assign (by rfl) _ rfl _ rfl) ?_
      simp only [Act.put, lzA, lzB, lzC]
      refine wpList_nil ?_
      refine hK8 _ _ ?_
      clear hK8 K8
      refine wp_region_lit ?_
      refine wl_yield (o := ⟨_, _, _, _, _, _⟩) (.int .i64 (k : Nat)) (yl_move (by rfl) _ rfl _ rfl) ?_
      simp only [Act.put, lzA, lzB, lzC]
      refine wl_yield (o := ⟨_, _, _, _, _, _⟩) (.pointer (some ⟨b, 0, none⟩)) (yl_move (by rfl) _ rfl _ rfl) ?_
      simp only [Act.put, lzA, lzB, lzC]
      refine wt_call (o := ⟨_, _, _, _, _, _⟩) (by rfl) 121 _ _ rfl #[.pointer (some ⟨b, 0, none⟩)] rfl (run_call Tryz.func121 (by kernel_rfl) (by kernel_rfl)) ?_
      refine (takeSet_any b _ _ _ H (Nat.le_trans (setO_tk.iter_le k l e) hz)).mono ?_
      rintro r v3 (⟨s, rfl, hs, hr, kg⟩)
      · have hxs : g2 + 1 ≤ wr.heap.size := lt_heap G2
        replace H := hr
        clear hr
        replace D := grown_trans D kg
        replace G1 := heap_gr G1 kg (Ne.symm n_b_g1)
        replace G2 := heap_gr G2 kg (Ne.symm n_b_g2)
        replace HL := fun j hj => (HL j hj).lt kg hbx
        clear kg
        have LS : Lives (g2 + 1) v3 (fun w'' => SetAt w'' s.val (stJ l e k)) := fun w'' hk2 => hs w'' (hk2.mono hxs)
        clear hs
        refine Or.inl ⟨SC.val s, rfl, ?_⟩
        simp only [Act.put, lzA, lzB, lzC]
        refine wl_yield (o := ⟨_, _, _, _, _, _⟩) (.pointer (some ⟨g2, k * 4, none⟩)) (yl_at4 (by rfl) _ _ rfl g2 k rfl rfl (hlt)) ?_
        simp only [Act.put, lzA, lzB, lzC]
        refine wt_put4 (o := ⟨_, _, _, _, _, _⟩) rfl _ _ rfl g2 k hlt rfl s rfl G2 (fun v4 X kg => ?_)
        simp only [Act.put, lzA, lzB, lzC]
        replace D := gr_new D ge_g2 kg
        replace H := H.gr kg n_b_g2
        replace G1 := heap_gr G1 kg n_g1_g2
        replace HL := fun j hj => (HL j hj).lt kg hx_g2
        replace LS := LS.lt kg hx_g2
        clear kg
        replace G2 : B4In v4 g2 (BxC.put c k s) := X
        clear X
        refine wpList_nil ?_
        refine hK7 _ _ ?_
        clear hK7 K7
        refine wp_region_lit ?_
        refine wl_yield (o := ⟨_, _, _, _, _, _⟩) (.int .i64 (k + 1 : Nat)) (yt_addI (by rfl) _ _ _ rfl ((k : Nat) : Int) 1 ((k + 1 : Nat) : Int) rfl rfl (by omega) (by omega) (by omega)) ?_
        simp only [Act.put, lzA, lzB, lzC]
        refine wl_yield (o := ⟨_, _, _, _, _, _⟩) (.int .i64 (k + 1 : Nat)) (yl_move (by rfl) _ rfl _ rfl) ?_
        simp only [Act.put, lzA, lzB, lzC]
        refine wpList_nil ?_
        show _ ∧ _
        go_roundw
        case rel => exact ⟨k + 1, _, rfl, by omega, G1, G2, fun j hj => by
            by_cases e1 : j = k
            · subst e1
              rw [BxC.sc_put c j j s hlt hlt, if_pos rfl]
              exact LS
            · rw [BxC.sc_put c k j s hlt (by omega), if_neg e1]
              exact HL j (by omega), H, D⟩
        case measure => simp [intOf]; omega
    · obtain rfl : k = 4 := by omega
      rw [box_st] at H
      refine wp_seq_k (fun K5 hK5 => ?_)
      refine wp_region_lit ?_
      refine wl_yield (o := ⟨_, _, _, _, _, _⟩) (.bool false) (yt_lssI (by rfl) _ _ _ rfl 4 4 false rfl rfl (by decide)) ?_
      simp only [Act.put, lzA, lzB, lzC]
      refine wpList_nil ?_
      refine hK5 _ _ ?_
      clear hK5 K5
      refine wp_seq_k (fun K6 hK6 => ?_)
      refine wp_cond_false rfl ?_
      refine wp_exit ?_
      refine hK3 _ _ ?_
      clear hK6 K6 hK3 K3
      refine wp_seq_k (fun K7 hK7 => ?_)
      refine wp_region_lit ?_
      refine wl_yield (o := ⟨_, _, _, _, _, _⟩) (BxC.val c) (yl_bx4 (by rfl) _ rfl _ _ rfl c (fun _ h => by subst h; exact B4In.at G2)) ?_
      simp only [Act.put, lzA, lzB, lzC]
      refine wt_putBx (o := ⟨_, _, _, _, _, _⟩) rfl _ _ rfl g1 rfl c rfl G1 (fun v3 X kg => ?_)
      simp only [Act.put, lzA, lzB, lzC]
      replace D := gr_new D ge_g1 kg
      replace H := H.gr kg n_b_g1
      replace G2 := heap_gr G2 kg (Ne.symm n_g1_g2)
      replace HL := fun j hj => (HL j hj).lt kg hx_g1
      clear kg
      replace G1 : BcIn v3 g1 c := X
      clear X
      refine wpList_nil ?_
      refine hK7 _ _ ?_
      clear hK7 K7
      refine wp_ret ?_
      try simp only [Exit.inBlock, Exit.then]
      refine bodyPost_ret (results_cell_row rfl _ _ g1 40 _ (0, 0) _ rfl G1 Tryz.underlying40 rfl infoB16) rfl ⟨c, by rw [BxC.val_list], fun w'' hk2 => boxAt_of8 fun j hj => ?_, H, D⟩
      rw [box_get l e j hj]
      exact (HL j hj).back (Nat.le_trans ge_g2 (Nat.le_succ _)) w'' hk2
end Go.Proofs.YtlmdcaemjaldfaaGreat
namespace Go.Proofs.YtlmdcaemjaldfaaGreat
open Go.RowKit
def ElsB (m0 : Nat) (W : World) (v : Value) (cs : List BxC) (xs : List BoxV) : Prop := cs.length = xs.length ∧ ∀ j, j < xs.length → NewB m0 W v (cs.getD j bc0) (xs.getD j zBox)
theorem ElsB.keep {m0 : Nat} {W W' : World} {v : Value} {cs : List BxC} {xs : List BoxV} (h : ElsB m0 W v cs xs) (k : Kept m0 W W') : ElsB m0 W' v cs xs := ⟨h.1, fun j hj => (h.2 j hj).keep k⟩
theorem ElsB.app {m0 : Nat} {W W' : World} {v v' : Value} {cs : List BxC} {xs : List BoxV} (h : ElsB m0 W v cs xs) (k : W.grownBy W' v.ownBlock) (ho : ∀ g, v'.ownBlock = some g → some g = v.ownBlock ∨ W.heap.size ≤ g) : ElsB m0 W' v' cs xs := ⟨h.1, fun j hj => (h.2 j hj).app k ho⟩
theorem ElsB.snoc {m0 : Nat} {W : World} {v : Value} {cs : List BxC} {xs : List BoxV} {d : BxC} {x : BoxV} (h : ElsB m0 W v cs xs) (hd : NewB m0 W v d x) : ElsB m0 W v (cs ++ [d]) (xs ++ [x]) := by
  obtain ⟨hl, h⟩ := h
  refine ⟨by simp; omega, fun j hj => ?_⟩
  rw [List.length_append, List.length_cons, List.length_nil] at hj
  by_cases e : j < xs.length
  · have h1 : (cs ++ [d]).getD j bc0 = cs.getD j bc0 := by rw [List.getD_eq_getElem?_getD, List.getD_eq_getElem?_getD, List.getElem?_append_left (by omega)]
    have h2 : (xs ++ [x]).getD j zBox = xs.getD j zBox := by rw [List.getD_eq_getElem?_getD, List.getD_eq_getElem?_getD, List.getElem?_append_left e]
    rw [h1, h2]
    exact h j e
  · have e2 : j = xs.length := by omega
    have h1 : (cs ++ [d]).getD j bc0 = d := by rw [e2, ← hl, List.getD_eq_getElem?_getD, List.getElem?_append_right (Nat.le_refl _)]; simp
    have h2 : (xs ++ [x]).getD j zBox = x := by rw [e2, List.getD_eq_getElem?_getD, List.getElem?_append_right (Nat.le_refl _)]; simp
    rw [h1, h2]
    exact hd
theorem els_lives {m0 B : Nat} {W : World} {v : Value} {cs : List BxC} {xs : List BoxV} (hR : OwnB W B v cs) (hE : ElsB m0 W v cs xs) (hB : m0 ≤ B) (hl : xs.length ≤ 1000) : Lives m0 W (fun w'' => Bxs w'' v xs) := fun w'' hk =>
  ⟨cs, OwnB.row (B := B) (own_kept hR hk hB) (by have := hE.1; omega), hE.1, fun i hi => by
    obtain ⟨m, w1, h1, h2, _, h4⟩ := hE.2 i hi
    exact h4 w'' (h2.trans (hk.mono h1))⟩
theorem els_now {m0 B : Nat} {W : World} {v : Value} {cs : List BxC} {xs : List BoxV} (hR : OwnB W B v cs) (hE : ElsB m0 W v cs xs) (hB : m0 ≤ B) (hl : xs.length ≤ 1000) : Bxs W v xs := els_lives hR hE hB hl W (Kept.refl _ _)
set_option maxHeartbeats 4000000 in
set_option maxRecDepth 100000 in
theorem rn_row1F {o : Oper} {w : World} (a : Act) (x : Operand) (ho : o.op = .buildSlice 32 1 #[(0, x)]) (d : BxC) (hx : a.eval x = d.val) : (execOp a.eval o).run Tryz.prog w = .ok (.value (.slice (some ⟨w.heap.size, 0, none⟩) 1 1)) (w.alloc (bcObj d)) := by
  simp only [execOp, ho, List.map_toArray, List.map_cons, List.map_nil, hx, BxC.val, bxVal, bcObj, BxC.list]
  go_simp
section
variable {ops : Array Oper} {Q : Exit → Act → World → Prop} {S : World → Prop} {o : Oper} {a : Act}
theorem wt_row1F {rest : List Oper} {w : World} (hw : Region.wanted o (yielded ops a.tmps) = true) (x : Operand) (ho : o.op = .buildSlice 32 1 #[(0, x)]) (d : BxC) (hx : a.eval x = d.val)
    (h : ∀ W g, w.heap.size ≤ g → BcIn W g d → Below w.heap.size w W → wpList Tryz.prog ops Q rest (a.put o.dst (.slice (some ⟨g, 0, none⟩) 1 1)) W) : wpList Tryz.prog ops Q (o :: rest) a w :=
  wl_run hw _ _ (rn_row1F a x ho d hx) (h _ _ (Nat.le_refl _) (heap_new _ _) ((Below.refl _ w).alloc (Nat.le_refl _) _))
theorem wt_appF {rest : List Oper} {w : World} (hw : Region.wanted o (yielded ops a.tmps) = true) (s x : Operand) (ho : o.op = .call { callee := .builtin .append, args := #[s, x], argTypes := #[32, 32] }) (B : Nat) (v : Value) (l : List BxC) (hs : a.eval s = v) (hown : OwnB w B v l)
    (g : Nat) (d : BxC) (hx : a.eval x = .slice (some ⟨g, 0, none⟩) 1 1) (hd : BcIn w g d) (hn : l.length ≤ 1000000) (hB : B ≤ w.heap.size)
    (h : ∀ v' W, OwnB W B v' (l ++ [d]) → w.grownBy W v.ownBlock → (∀ g, v'.ownBlock = some g → some g = v.ownBlock ∨ w.heap.size ≤ g) → wpList Tryz.prog ops Q rest (a.put o.dst v') W) : wpList Tryz.prog ops Q (o :: rest) a w := by
  obtain ⟨v', w', hr, h2, h3, h4⟩ := rn_appB a s x (Or.inr rfl) ho B v l hs hown g d hx hd hn hB
  exact wl_run hw v' w' hr (h v' w' h2 h3 h4)
end
theorem listO_eq {α : Type} (m : Nat) (f : TkF α) (l : List UInt8) (e : Int) : iterO f (cntO m l e).1 (cntO m l e).2.1 (cntO m l e).2.2 = listO m f l e := rfl
theorem iterO_s1 {α : Type} (f : TkF α) (k : Nat) (l : List UInt8) (e : Int) : (iterO f (k + 1) l e).1 = (iterO f k l e).1 ++ [(f (iterO f k l e).2.1 (iterO f k l e).2.2).1] := rfl
theorem iterO_s2 {α : Type} (f : TkF α) (k : Nat) (l : List UInt8) (e : Int) : (iterO f (k + 1) l e).2 = (f (iterO f k l e).2.1 (iterO f k l e).2.2).2 := rfl
theorem fils_eq (l : List UInt8) (e : Int) : listO 4 boxO l e = filsO l e := rfl
theorem filO_no {l : List UInt8} {e : Int} (hr : rightF (filsO l e).1 = true) (h : ¬ (filsO l e).2.2 = 0) : filO l e = ([], (filsO l e).2) := by unfold filO; rw [if_neg (fun k => h k.1), if_pos hr]
theorem filO_bad {l : List UInt8} {e : Int} (hr : rightF (filsO l e).1 = false) : filO l e = ([], failO 2 (filsO l e).2.1 (filsO l e).2.2) := by unfold filO; rw [if_neg (fun k => by rw [hr] at k; cases k.2), hr]; rfl
set_option maxHeartbeats 4000000 in
set_option maxRecDepth 100000 in
theorem takeFilter_any (b : Nat) (l : List UInt8) (e : Int) (w : World) (H : PS w b l e) (hz : l.length ≤ 1048576) :
    Calls Tryz.prog 34 #[.pointer (some ⟨b, 0, none⟩)] w fun r w' => (∃ (p : Option Addr) (n c : Nat), r = .returned (.slice p n c) ∧ (∀ w'', Kept w.heap.size w' w'' → Bxs w'' (.slice p n c) (filO l e).1) ∧ PS w' b (filO l e).2.1 (filO l e).2.2 ∧ w.grownBy w' (some b)) := by
  have D : w.grownBy w (some b) := grown_refl _ _
  have Hb := PS.lt H
  go_enter Tryz.func34, Tryz.ntmps34
  refine wp_seq_k (fun K1 hK1 => ?_)
  refine wp_region_lit ?_
  refine wl_yield (o := ⟨_, _, _, _, _, _⟩) (.slice none 0 0) (yl_assign (by rfl) _ rfl _ rfl) ?_
  simp only [Act.put, lzA, lzB, lzC]
  refine wpList_nil ?_
  refine hK1 _ _ ?_
  clear hK1 K1
  refine wp_seq_k (fun K2 hK2 => ?_)
  refine wp_region_lit ?_
  refine wl_yield (o := ⟨_, _, _, _, _, _⟩) (.slice none 0 0) (yl_assign (by rfl) _ rfl _ rfl) ?_
  simp only [Act.put, lzA, lzB, lzC]
  refine wpList_nil ?_
  refine hK2 _ _ ?_
  clear hK2 K2
  refine wp_seq_k (fun K3 hK3 => ?_)
  refine wp_seq_k (fun K4 hK4 => ?_)
  refine wp_region_lit ?_
  refine wl_yield (o := ⟨_, _, _, _, _, _⟩) (.pointer (some ⟨b, 0, none⟩)) (yl_move (by rfl) _ rfl _ rfl) ?_
  simp only [Act.put, lzA, lzB, lzC]
  refine wt_call (o := ⟨_, _, _, _, _, _⟩) (by rfl) 74 _ _ rfl #[.pointer (some ⟨b, 0, none⟩), .int .u64 4] rfl (run_call Tryz.func74 (by kernel_rfl) (by kernel_rfl)) ?_
  refine (takeCount_any b 4 _ _ _ H hz).mono ?_
  rintro r v1 (⟨rfl, hr, kg⟩)
  · replace H := hr
    clear hr
    replace D := grown_trans D kg
    clear kg
    refine Or.inl ⟨.int .u64 (((cntO 4 l e).1 : Nat) : Int), rfl, ?_⟩
    simp only [Act.put, lzA, lzB, lzC]
    refine wl_yield (o := ⟨_, _, _, _, _, _⟩) (.int .u64 0) (yl_move (by rfl) _ rfl _ rfl) ?_
    simp only [Act.put, lzA, lzB, lzC]
    refine wpList_nil ?_
    refine hK4 _ _ ?_
    clear hK4 K4
    refine wp_block ?_
    go_loopw [3, 6] (fun x i wr => ∃ (k : Nat) (p : Option Addr) (c : Nat) (cs : List BxC), x = .slice p cs.length c ∧ i = .int .u64 ((k : Nat) : Int) ∧ k ≤ (cntO 4 l e).1 ∧ OwnB wr w.heap.size (.slice p cs.length c) cs ∧ cs.length = k ∧ ElsB w.heap.size wr (.slice p cs.length c) cs (iterO boxO k (cntO 4 l e).2.1 (cntO 4 l e).2.2).1 ∧ PS wr b (iterO boxO k (cntO 4 l e).2.1 (cntO 4 l e).2.2).2.1 (iterO boxO k (cntO 4 l e).2.1 (cntO 4 l e).2.2).2.2 ∧ w.grownBy wr (some b)) (fun _ i _ => (cntO 4 l e).1 - (intOf i).toNat)
    case atStart => exact ⟨0, none, 0, [], rfl, rfl, Nat.zero_le _, ownB_nil _ _, rfl, ⟨rfl, fun j hj => absurd hj (Nat.not_lt_zero _)⟩, H, D⟩
    case round =>
      clear D H
      obtain ⟨k, p, c, cs, rfl, rfl, hk, RB, hcs, EB, H, D⟩ := hrel
      have hm : (cntO 4 l e).1 ≤ 4 := cntO_most 4 _ _
      by_cases hlt : k < (cntO 4 l e).1
      · refine wp_seq_k (fun K5 hK5 => ?_)
        refine wp_region_lit ?_
        refine wl_yield (o := ⟨_, _, _, _, _, _⟩) (.bool true) (yw_lssU (by rfl) _ _ _ rfl ((k : Nat) : Int) (((cntO 4 l e).1 : Nat) : Int) true rfl rfl (decide_eq_true (by omega))) ?_
        simp only [Act.put, lzA, lzB, lzC]
        refine wpList_nil ?_
        refine hK5 _ _ ?_
        clear hK5 K5
        refine wp_seq_k (fun K6 hK6 => ?_)
        refine wp_cond_true rfl ?_
        refine wp_skip ?_
        refine hK6 _ _ ?_
        clear hK6 K6
        refine wp_seq_k (fun K7 hK7 => ?_)
        refine wp_block ?_
        refine wp_region_lit ?_
        refine wl_yield (o := ⟨_, _, _, _, _, _⟩) (.slice p cs.length c) (yl_move (by rfl) _ rfl _ rfl) ?_
        simp only [Act.put, lzA, lzB, lzC]
        refine wl_yield (o := ⟨_, _, _, _, _, _⟩) (.pointer (some ⟨b, 0, none⟩)) (yl_move (by rfl) _ rfl _ rfl) ?_
        simp only [Act.put, lzA, lzB, lzC]
        refine wt_call (o := ⟨_, _, _, _, _, _⟩) (by rfl) 75 _ _ rfl #[.pointer (some ⟨b, 0, none⟩)] rfl (run_call Tryz.func75 (by kernel_rfl) (by kernel_rfl)) ?_
        refine (takeBox_any b _ _ _ H (Nat.le_trans (boxO_tk.iter_le _ _ _) (Nat.le_trans ((cntO_tk 4 (by decide)).le _ _) hz))).mono ?_
        rintro r v2 (⟨d, rfl, hc, hr, kg⟩)
        · have lo := fun g hg => (World.ownsRow.lt RB g hg).2
          have sz := D.size
          replace RB := H.row RB kg (by decide)
          replace H := hr
          clear hr
          replace D := grown_trans D kg
          replace EB := EB.keep (kept_gr kg rfl (Or.inl Hb))
          clear kg
          have NB : NewB w.heap.size v2 (.slice p cs.length c) d (boxO (iterO boxO k (cntO 4 l e).2.1 (cntO 4 l e).2.2).2.1 (iterO boxO k (cntO 4 l e).2.1 (cntO 4 l e).2.2).2.2).1 := ⟨_, _, sz, Kept.refl _ _, fun g hg => Or.inl (lo g hg), hc⟩
          clear hc lo sz
          refine Or.inl ⟨BxC.val d, rfl, ?_⟩
          simp only [Act.put, lzA, lzB, lzC]
          refine wt_row1F (o := ⟨_, _, _, _, _, _⟩) (by rfl) _ rfl d rfl (fun v3 g3 hg G3 kb => ?_)
          simp only [Act.put, lzA, lzB, lzC]
          clear hg
          replace D := grown_below D kb
          replace RB := ownsRow_on RB kb
          replace H := H.on kb
          replace EB := EB.keep (Kept.ofBelow kb)
          replace NB := NB.keep (Kept.ofBelow kb)
          clear kb
          refine wt_appF (o := ⟨_, _, _, _, _, _⟩) (by rfl) _ _ rfl _ _ cs rfl RB _ d rfl G3 (by omega) D.size (fun v4' v4 hrow kg hown => ?_)
          simp only [Act.put, lzA, lzB, lzC]
          replace EB := (EB.app kg hown).snoc (NB.app kg hown)
          replace H := H.gro RB kg (by decide)
          replace D := gr_own D (fun g hg => (World.ownsRow.lt RB g hg).1) kg
          clear kg hown NB G3
          replace RB := hrow
          clear hrow
          obtain ⟨p4, c4, rfl⟩ := OwnB.sl RB
          refine wl_yield (o := ⟨_, _, _, _, _, _⟩) (.slice p4 (cs ++ [d]).length c4) (yl_assign (by rfl) _ rfl _ rfl) ?_
          simp only [Act.put, lzA, lzB, lzC]
          refine wpList_nil ?_
          refine hK7 _ _ ?_
          clear hK7 K7
          refine wp_region_lit ?_
          refine wl_yield (o := ⟨_, _, _, _, _, _⟩) (.int .u64 ((k + 1 : Nat) : Int)) (yw_addU (by rfl) _ _ _ rfl ((k : Nat) : Int) 1 ((k + 1 : Nat) : Int) rfl rfl (by omega) (by omega) (by omega)) ?_
          simp only [Act.put, lzA, lzB, lzC]
          refine wl_yield (o := ⟨_, _, _, _, _, _⟩) (.int .u64 ((k + 1 : Nat) : Int)) (yl_move (by rfl) _ rfl _ rfl) ?_
          simp only [Act.put, lzA, lzB, lzC]
          refine wpList_nil ?_
          show _ ∧ _
          go_roundw
          case rel => exact ⟨k + 1, p4, c4, cs ++ [d], rfl, rfl, by omega, RB, by simp; omega, by rw [iterO_s1]; exact EB, by rw [iterO_s2]; exact H, D⟩
          case measure => simp [intOf]; omega
      · obtain rfl : k = (cntO 4 l e).1 := by omega
        rw [listO_eq, fils_eq] at H EB
        have hlen : (filsO l e).1.length ≤ 1000 := by have := EB.1; omega
        refine wp_seq_k (fun K5 hK5 => ?_)
        refine wp_region_lit ?_
        refine wl_yield (o := ⟨_, _, _, _, _, _⟩) (.bool false) (yw_lssU (by rfl) _ _ _ rfl (((cntO 4 l e).1 : Nat) : Int) (((cntO 4 l e).1 : Nat) : Int) false rfl rfl (decide_eq_false (by omega))) ?_
        simp only [Act.put, lzA, lzB, lzC]
        refine wpList_nil ?_
        refine hK5 _ _ ?_
        clear hK5 K5
        refine wp_seq_k (fun K6 hK6 => ?_)
        refine wp_cond_false rfl ?_
        refine wp_exit ?_
        refine hK3 _ _ ?_
        clear hK6 K6 hK3 K3
        refine wp_seq_k (fun K7 hK7 => ?_)
        refine wp_seq_k (fun K8 hK8 => ?_)
        refine wp_region_lit ?_
        refine wl_yield (o := ⟨_, _, _, _, _, _⟩) (.slice p cs.length c) (yl_move (by rfl) _ rfl _ rfl) ?_
        simp only [Act.put, lzA, lzB, lzC]
        cases hr : rightF (filsO l e).1
        · refine wt_call (o := ⟨_, _, _, _, _, _⟩) (by rfl) 47 _ _ rfl #[.slice p cs.length c] rfl (run_call Tryz.func47 (by kernel_rfl) (by kernel_rfl)) ?_
          refine (dnfRight_any _ _ _ (els_now RB EB (Nat.le_refl _) hlen)).mono ?_
          rintro r v2 (⟨rfl, kb⟩)
          · replace D := grown_below D kb
            replace RB := ownsRow_on RB kb
            replace H := H.on kb
            replace EB := EB.keep (Kept.ofBelow kb)
            clear kb
            refine Or.inl ⟨.bool false, ret_bool hr, ?_⟩
            simp only [Act.put, lzA, lzB, lzC]
            refine wl_yield (o := ⟨_, _, _, _, _, _⟩) (.bool true) (yl_not (by rfl) _ _ rfl false rfl) ?_
            simp only [Act.put, lzA, lzB, lzC]
            refine wpList_nil ?_
            refine hK8 _ _ ?_
            clear hK8 K8
            refine wp_cond_true rfl ?_
            refine wp_region_lit ?_
            refine wl_yield (o := ⟨_, _, _, _, _, _⟩) (.pointer (some ⟨b, 0, none⟩)) (yl_move (by rfl) _ rfl _ rfl) ?_
            simp only [Act.put, lzA, lzB, lzC]
            refine wt_call (o := ⟨_, _, _, _, _, _⟩) (by rfl) 76 _ _ rfl #[.pointer (some ⟨b, 0, none⟩), .int .i64 2] rfl (run_call Tryz.func76 (by kernel_rfl) (by kernel_rfl)) ?_
            refine (failP b 2 _ _ _ H).mono ?_
            rintro r v3 (⟨⟨rvf, rfl⟩, hr, kg⟩)
            · replace RB := H.row RB kg (by decide)
              replace H := hr
              clear hr
              replace D := grown_trans D kg
              replace EB := EB.keep (kept_gr kg rfl (Or.inl Hb))
              clear kg
              refine Or.inl ⟨rvf, rfl, ?_⟩
              simp only [Act.put, lzA, lzB, lzC]
              refine wpList_nil ?_
              refine hK7 _ _ ?_
              clear hK7 K7
              refine wp_seq_k (fun K9 hK9 => ?_)
              refine wp_seq_k (fun K10 hK10 => ?_)
              refine wp_region_lit ?_
              refine wl_yield (o := ⟨_, _, _, _, _, _⟩) (.pointer (some ⟨b, 0, none⟩)) (yl_move (by rfl) _ rfl _ rfl) ?_
              simp only [Act.put, lzA, lzB, lzC]
              refine wt_call (o := ⟨_, _, _, _, _, _⟩) (by rfl) 36 _ _ rfl #[.pointer (some ⟨b, 0, none⟩)] rfl (run_call Tryz.func36 (by kernel_rfl) (by kernel_rfl)) ?_
              refine (c_err H).mono ?_
              rintro r v4 ⟨rfl, kb⟩
              replace D := grown_below D kb
              replace RB := ownsRow_on RB kb
              replace H := H.on kb
              replace EB := EB.keep (Kept.ofBelow kb)
              clear kb
              refine Or.inl ⟨.int .i64 ((failO 2 (filsO l e).2.1 (filsO l e).2.2).2), rfl, ?_⟩
              simp only [Act.put, lzA, lzB, lzC]
              refine wl_yield (o := ⟨_, _, _, _, _, _⟩) (.bool true) (yt_neqE (by rfl) _ _ _ rfl (failO 2 (filsO l e).2.1 (filsO l e).2.2).2 0 true rfl rfl (decide_eq_true (failO_ne _ _ _ (by decide)))) ?_
              simp only [Act.put, lzA, lzB, lzC]
              refine wpList_nil ?_
              refine hK10 _ _ ?_
              clear hK10 K10
              refine wp_cond_true rfl ?_
              refine wp_seq_k (fun K11 hK11 => ?_)
              refine wp_region_lit ?_
              refine wl_yield (o := ⟨_, _, _, _, _, _⟩) (.slice none 0 0) (yl_assign (by rfl) _ rfl _ rfl) ?_
              simp only [Act.put, lzA, lzB, lzC]
              refine wpList_nil ?_
              refine hK11 _ _ ?_
              clear hK11 K11
              refine wp_ret ?_
              try simp only [Exit.inBlock, Exit.then]
              rw [filO_bad hr]
              go_ret
              exact ⟨none, 0, 0, rfl, fun w'' _ => bxs_nil w'', H, D⟩
        · refine wt_call (o := ⟨_, _, _, _, _, _⟩) (by rfl) 47 _ _ rfl #[.slice p cs.length c] rfl (run_call Tryz.func47 (by kernel_rfl) (by kernel_rfl)) ?_
          refine (dnfRight_any _ _ _ (els_now RB EB (Nat.le_refl _) hlen)).mono ?_
          rintro r v2 (⟨rfl, kb⟩)
          · replace D := grown_below D kb
            replace RB := ownsRow_on RB kb
            replace H := H.on kb
            replace EB := EB.keep (Kept.ofBelow kb)
            clear kb
            refine Or.inl ⟨.bool true, ret_bool hr, ?_⟩
            simp only [Act.put, lzA, lzB, lzC]
            refine wl_yield (o := ⟨_, _, _, _, _, _⟩) (.bool false) (yl_not (by rfl) _ _ rfl true rfl) ?_
            simp only [Act.put, lzA, lzB, lzC]
            refine wpList_nil ?_
            refine hK8 _ _ ?_
            clear hK8 K8
            refine wp_cond_false rfl ?_
            refine wp_skip ?_
            refine hK7 _ _ ?_
            clear hK7 K7
            refine wp_seq_k (fun K9 hK9 => ?_)
            refine wp_seq_k (fun K10 hK10 => ?_)
            refine wp_region_lit ?_
            refine wl_yield (o := ⟨_, _, _, _, _, _⟩) (.pointer (some ⟨b, 0, none⟩)) (yl_move (by rfl) _ rfl _ rfl) ?_
            simp only [Act.put, lzA, lzB, lzC]
            refine wt_call (o := ⟨_, _, _, _, _, _⟩) (by rfl) 36 _ _ rfl #[.pointer (some ⟨b, 0, none⟩)] rfl (run_call Tryz.func36 (by kernel_rfl) (by kernel_rfl)) ?_
            refine (c_err H).mono ?_
            rintro r v3 ⟨rfl, kb⟩
            replace D := grown_below D kb
            replace RB := ownsRow_on RB kb
            replace H := H.on kb
            replace EB := EB.keep (Kept.ofBelow kb)
            clear kb
            refine Or.inl ⟨.int .i64 ((filsO l e).2.2), rfl, ?_⟩
            simp only [Act.put, lzA, lzB, lzC]
            refine wl_yield (o := ⟨_, _, _, _, _, _⟩) (.bool (decide (¬ (filsO l e).2.2 = 0))) (yt_neqE (by rfl) _ _ _ rfl (filsO l e).2.2 0 (decide (¬ (filsO l e).2.2 = 0)) rfl rfl (rfl)) ?_
            simp only [Act.put, lzA, lzB, lzC]
            refine wpList_nil ?_
            refine hK10 _ _ ?_
            clear hK10 K10
            refine wp_cond_split (t := (decide (¬ (filsO l e).2.2 = 0))) rfl (fun hc => ?_) (fun hc => ?_)
            · have he : ¬ (filsO l e).2.2 = 0 := of_decide_eq_true hc
              refine wp_seq_k (fun K11 hK11 => ?_)
              refine wp_region_lit ?_
              refine wl_yield (o := ⟨_, _, _, _, _, _⟩) (.slice none 0 0) (yl_assign (by rfl) _ rfl _ rfl) ?_
              simp only [Act.put, lzA, lzB, lzC]
              refine wpList_nil ?_
              refine hK11 _ _ ?_
              clear hK11 K11
              refine wp_ret ?_
              try simp only [Exit.inBlock, Exit.then]
              rw [filO_no hr he]
              go_ret
              exact ⟨none, 0, 0, rfl, fun w'' _ => bxs_nil w'', H, D⟩
            · have he : (filsO l e).2.2 = 0 := Decidable.not_not.1 <| of_decide_eq_false hc
              refine wp_skip ?_
              refine hK9 _ _ ?_
              clear hK9 K9
              refine wp_seq_k (fun K11 hK11 => ?_)
              refine wp_region_lit ?_
              refine wl_yield (o := ⟨_, _, _, _, _, _⟩) (.slice p cs.length c) (yl_move (by rfl) _ rfl _ rfl) ?_
              simp only [Act.put, lzA, lzB, lzC]
              refine wl_yield (o := ⟨_, _, _, _, _, _⟩) (.slice p cs.length c) (yl_assign (by rfl) _ rfl _ rfl) ?_
              simp only [Act.put, lzA, lzB, lzC]
              refine wpList_nil ?_
              refine hK11 _ _ ?_
              clear hK11 K11
              refine wp_ret ?_
              try simp only [Exit.inBlock, Exit.then]
              rw [filO_yes he hr]
              go_ret
              exact ⟨p, _, c, rfl, els_lives RB EB (Nat.le_refl _) hlen, H, D⟩
end Go.Proofs.YtlmdcaemjaldfaaGreat
