import Derived.Test.YtbaijjclofekcaaGreatDoorRG3
import Derived.Test.YtbaijjclofekcaaGreatDoorRG1
import Derived.Test.YtbaijjclofekcaaGreatDoorRG2
set_option linter.unusedSimpArgs false
set_option linter.unusedVariables false
namespace Go.Proofs.YtbaijjclofekcaaGreatDoor
open Go.RowKit
set_option maxHeartbeats 4000000 in
set_option maxRecDepth 100000 in
theorem copied9_any (v : Value) (S : SetV) (w : World) (hv : SetAt w v S) (hl1 : S.ints.length ≤ 100000) (hl2 : S.strs.length ≤ 100000) :
    Calls Tryz.prog 25 #[v] w fun r w' => (∃ c : SC, r = .returned c.val ∧ SetAt w' c.val S ∧ UpC w.heap.size c) ∧ Below w.heap.size w w' := by
  obtain ⟨ai, ci, az, cz, rfl, hI, hT⟩ := sc_open hv
  have D : w.grownBy w none := grown_refl _ _
  go_enter Tryz.func25, Tryz.ntmps25
  refine wp_seq_k (fun K1 hK1 => ?_)
  refine wp_region_lit ?_
  refine wt_boxSt (o := ⟨_, _, _, _, _, _⟩) (by rfl) _ rfl (⟨S.absent, ai, S.ints.length, ci, S.co, az, S.strs.length, cz⟩) rfl (fun v1 g1 hg G1 kb => ?_)
  simp only [Act.put, lzA, lzB, lzC]
  have ge_g1 : w.heap.size ≤ g1 := Nat.le_trans D.size hg
  clear hg
  replace D := grown_below D kb
  clear kb
  replace G1 : v1.heap[g1]? = some (.cells #[.bool (S.absent), .slice ai S.ints.length ci, .bool (S.co), .slice az S.strs.length cz] 43 (0, 0)) := G1
  refine wt_allocSt (o := ⟨_, _, _, _, _, _⟩) (by rfl) rfl (fun v2 g2 hg G2 kb => ?_)
  simp only [Act.put, lzA, lzB, lzC]
  have n_g1_g2 : g1 ≠ g2 := by have := lt_heap G1; omega
  have ge_g2 : w.heap.size ≤ g2 := Nat.le_trans D.size hg
  clear hg
  replace D := grown_below D kb
  replace G1 := heap_on G1 kb
  clear kb
  replace G2 : v2.heap[g2]? = some (.cells #[.bool false, .slice none 0 0, .bool false, .slice none 0 0] 43 (0, 0)) := G2
  refine wpList_nil ?_
  refine hK1 _ _ ?_
  clear hK1 K1
  refine wp_seq_k (fun K2 hK2 => ?_)
  refine wp_region_lit ?_
  refine wl_yield (o := ⟨_, _, _, _, _, _⟩) (.pointer (some ⟨g1, 1, none⟩)) (yt_fSt1 (by rfl) _ rfl g1 0 rfl) ?_
  simp only [Act.put, lzA, lzB, lzC]
  refine wl_yield (o := ⟨_, _, _, _, _, _⟩) (.slice ai S.ints.length ci) (yt_ldLr (by rfl) _ rfl _ _ rfl ai S.ints.length ci (fun _ h => by subst h; exact cell_heap G1 1)) ?_
  simp only [Act.put, lzA, lzB, lzC]
  refine wt_call (o := ⟨_, _, _, _, _, _⟩) (by rfl) 47 _ _ rfl #[.slice ai S.ints.length ci] rfl (run_call Tryz.func47 (by kernel_rfl) (by kernel_rfl)) ?_
  refine (cloneR_own _ S.ints _ (hI.on (below_none D)) hl1).mono ?_
  rintro r v3 (⟨⟨u, rfl, RI⟩, kb⟩)
  · have mI := D.size
    replace D := grown_below D kb
    replace G1 := heap_on G1 kb
    replace G2 := heap_on G2 kb
    clear kb
    obtain ⟨pI, cI, rfl, hpI⟩ := RI.frmU
    refine Or.inl ⟨.slice pI S.ints.length cI, rfl, ?_⟩
    simp only [Act.put, lzA, lzB, lzC]
    refine wl_yield (o := ⟨_, _, _, _, _, _⟩) (.pointer (some ⟨g1, 1, none⟩)) (yt_fSt1 (by rfl) _ rfl g1 0 rfl) ?_
    simp only [Act.put, lzA, lzB, lzC]
    refine wt_putLr (o := ⟨_, _, _, _, _, _⟩) (by rfl) _ _ rfl _ 1 rfl pI S.ints.length cI rfl G1 (by simp) (fun v4 X kg => ?_)
    simp only [Act.put, lzA, lzB, lzC]
    replace D := gr_new D ge_g1 kg
    replace G2 := heap_gr G2 kg (Ne.symm n_g1_g2)
    replace RI := row_gr_heap RI kg G1 (by decide)
    clear kg
    replace G1 : v4.heap[g1]? = some (.cells #[.bool (S.absent), .slice pI S.ints.length cI, .bool (S.co), .slice az S.strs.length cz] 43 (0, 0)) := X
    clear X
    refine wpList_nil ?_
    refine hK2 _ _ ?_
    clear hK2 K2
    refine wp_seq_k (fun K3 hK3 => ?_)
    refine wp_region_lit ?_
    refine wl_yield (o := ⟨_, _, _, _, _, _⟩) (.pointer (some ⟨g1, 3, none⟩)) (yt_fSt3 (by rfl) _ rfl g1 0 rfl) ?_
    simp only [Act.put, lzA, lzB, lzC]
    refine wl_yield (o := ⟨_, _, _, _, _, _⟩) (.slice az S.strs.length cz) (yt_ldLs (by rfl) _ rfl _ _ rfl az S.strs.length cz (fun _ h => by subst h; exact cell_heap G1 3)) ?_
    simp only [Act.put, lzA, lzB, lzC]
    refine wt_call (o := ⟨_, _, _, _, _, _⟩) (by rfl) 48 _ _ rfl #[.slice az S.strs.length cz] rfl (run_call Tryz.func48 (by kernel_rfl) (by kernel_rfl)) ?_
    refine (cloneS_own _ S.strs _ (hT.on (below_none D)) hl2).mono ?_
    rintro r v5 (⟨⟨u, rfl, RT⟩, kb⟩)
    · have mT := D.size
      replace D := grown_below D kb
      replace G1 := heap_on G1 kb
      replace G2 := heap_on G2 kb
      replace RI := ownsRow_on RI kb
      clear kb
      obtain ⟨pT, cT, rfl, hpT⟩ := RT.frmN
      refine Or.inl ⟨.slice pT S.strs.length cT, rfl, ?_⟩
      simp only [Act.put, lzA, lzB, lzC]
      refine wl_yield (o := ⟨_, _, _, _, _, _⟩) (.pointer (some ⟨g1, 3, none⟩)) (yt_fSt3 (by rfl) _ rfl g1 0 rfl) ?_
      simp only [Act.put, lzA, lzB, lzC]
      refine wt_putLs (o := ⟨_, _, _, _, _, _⟩) (by rfl) _ _ rfl _ 3 rfl pT S.strs.length cT rfl G1 (by simp) (fun v6 X kg => ?_)
      simp only [Act.put, lzA, lzB, lzC]
      replace D := gr_new D ge_g1 kg
      replace G2 := heap_gr G2 kg (Ne.symm n_g1_g2)
      replace RI := row_gr_heap RI kg G1 (by decide)
      replace RT := row_gr_heap RT kg G1 (by decide)
      clear kg
      replace G1 : v6.heap[g1]? = some (.cells #[.bool (S.absent), .slice pI S.ints.length cI, .bool (S.co), .slice pT S.strs.length cT] 43 (0, 0)) := X
      clear X
      refine wpList_nil ?_
      refine hK3 _ _ ?_
      clear hK3 K3
      refine wp_seq_k (fun K4 hK4 => ?_)
      refine wp_region_lit ?_
      refine wl_yield (o := ⟨_, _, _, _, _, _⟩) (.agg #[.bool (S.absent), .slice pI S.ints.length cI, .bool (S.co), .slice pT S.strs.length cT]) (yl_set (by rfl) _ rfl _ 0 rfl _ _ _ _ (fun _ h => by subst h; exact ⟨cell_heap G1 0, cell_heap G1 1, cell_heap G1 2, cell_heap G1 3⟩)) ?_
      simp only [Act.put, lzA, lzB, lzC]
      refine wt_putSt (o := ⟨_, _, _, _, _, _⟩) rfl _ _ rfl _ rfl (⟨S.absent, pI, S.ints.length, cI, S.co, pT, S.strs.length, cT⟩) rfl G2 rfl (fun v7 X kg => ?_)
      simp only [Act.put, lzA, lzB, lzC]
      replace D := gr_new D ge_g2 kg
      replace G1 := heap_gr G1 kg n_g1_g2
      replace RI := row_gr_heap RI kg G2 (by decide)
      replace RT := row_gr_heap RT kg G2 (by decide)
      clear kg
      replace G2 : v7.heap[g2]? = some (.cells #[.bool (S.absent), .slice pI S.ints.length cI, .bool (S.co), .slice pT S.strs.length cT] 43 (0, 0)) := X
      clear X
      refine wpList_nil ?_
      refine hK4 _ _ ?_
      clear hK4 K4
      refine wp_ret ?_
      try simp only [Exit.inBlock, Exit.then]
      refine bodyPost_ret (results_cell_row rfl _ _ g2 43 _ (0, 0) _ rfl G2 Tryz.underlying43 rfl infoT4) rfl ⟨⟨⟨S.absent, pI, S.ints.length, cI, S.co, pT, S.strs.length, cT⟩, rfl, ⟨_, _, rfl, OwnR.rngs RI hI.1 (by omega), OwnS.strs RT hT.1 (by omega)⟩, fun a e => Nat.le_trans mI (hpI a e), fun a e => Nat.le_trans mT (hpT a e)⟩, below_none D⟩
def cntU (ns : Nat → Nat) : Nat → Nat
  | 0 => 1
  | k + 1 => if cntU ns k * ns k > 1099511627776 then 1099511627776 else cntU ns k * ns k
theorem cntU_le (ns : Nat → Nat) : ∀ k, cntU ns k ≤ 1099511627776
  | 0 => by unfold cntU; omega
  | k + 1 => by unfold cntU; split <;> omega
theorem cntU_top (ns : Nat → Nat) (h : ∀ j, 1 ≤ ns j) : ∀ k j, cntU ns k = 1099511627776 → cntU ns (k + j) = 1099511627776
  | k, 0, e => e
  | k, j + 1, e => by
    have ih := cntU_top ns h k j e
    show cntU ns ((k + j) + 1) = _
    unfold cntU
    rw [ih]
    split
    · rfl
    · rename_i hn
      have := h (k + j)
      have := Nat.mul_le_mul_left 1099511627776 this
      omega
theorem quo_gt {c n : Nat} (hn : 1 ≤ n) : (1099511627776 / n < c) ↔ (1099511627776 < c * n) := by
  rw [Nat.div_lt_iff_lt_mul (by omega)]
theorem quo_dec {c n : Nat} (hn : 1 ≤ n) : decide ((c : Int) > ((1099511627776 / n : Nat) : Int)) = decide (c * n > 1099511627776) := by
  have := @quo_gt c n hn
  by_cases h : 1099511627776 < c * n
  · rw [decide_eq_true (show c * n > 1099511627776 from h), decide_eq_true (by have := this.2 h; omega)]
  · rw [decide_eq_false (show ¬ c * n > 1099511627776 from h), decide_eq_false (by have h2 := fun q => h (this.1 q); omega)]
theorem cutL_len (l : List SetV) : 3 ≤ (cutL l).length := by
  unfold cutL
  rw [cellL_len]
  have := (begs_is (allR l)).pos
  omega
theorem cutL_most {l : List SetV} (h : FewC l) : (cutL l).length ≤ 61000 := by
  unfold cutL
  rw [cellL_len]
  have a1 := sortedN_len (begL (allR l))
  have a2 := begL_len (allR l) (allR l).length
  have a3 := namesOf_len (allS l)
  have a4 := h.r l.length
  have a5 := h.s l.length
  rw [List.take_length] at a2 a4 a5
  omega
section
variable {ops : Array Oper} {S : World → Prop} {o : Oper} {a : Act}
theorem yq_quoI (hw : Region.wanted o (yielded ops a.tmps) = true) (x y : Operand) (t : TypeId) (ho : o.op = .binOp .quo 3 x y t) (n : Nat) (hx : a.eval x = .int .i64 1099511627776) (hy : a.eval y = .int .i64 (n : Int)) (hn : 1 ≤ n) : YieldsIf Tryz.prog ops S o (.int .i64 ((1099511627776 / n : Nat) : Int)) a :=
  Or.inl ⟨hw, fun w hS => by
    have h0 : ¬ ((n : Int) = 0) := by omega
    have h1 : Int.tdiv 1099511627776 (n : Int) = ((1099511627776 / n : Nat) : Int) := by
      rw [Int.tdiv_eq_ediv_of_nonneg (by decide)]
      rfl
    have h2 : (1099511627776 / n : Nat) ≤ 1099511627776 := Nat.div_le_self _ _
    simp only [execOp, ho, hx, hy]
    go_simp
    rw [if_neg (by omega)]
    have h3 : (1099511627776 : Int) / (n : Int) = ((1099511627776 / n : Nat) : Int) := rfl
    rw [h3]
    generalize 1099511627776 / n = q at h2
    rw [IntKind.wrap_i64, show ((q : Int) + 9223372036854775808) % 18446744073709551616 - 9223372036854775808 = (q : Int) by omega]⟩
end
theorem cntU_go (ns : Nat → Nat) (k : Nat) (h : ¬ cntU ns k * ns k > 1099511627776) : cntU ns (k + 1) = cntU ns k * ns k := by
  show (if cntU ns k * ns k > 1099511627776 then 1099511627776 else cntU ns k * ns k) = _
  rw [if_neg h]
theorem cntU_congr (ns ms : Nat → Nat) : ∀ k, (∀ j, j < k → ns j = ms j) → cntU ns k = cntU ms k
  | 0, _ => rfl
  | k + 1, h => by
    unfold cntU
    rw [cntU_congr ns ms k (fun j hj => h j (by omega)), h k (by omega)]
theorem cntU_top9 (ns : Nat → Nat) (k n : Nat) (hk : k ≤ n) (h : ∀ j, j < n → 1 ≤ ns j) (e : cntU ns k = 1099511627776) : cntU ns n = 1099511627776 := by
  have h2 := cntU_congr ns (fun j => if j < n then ns j else 1) n (fun j hj => by rw [if_pos hj])
  have h3 := cntU_congr ns (fun j => if j < n then ns j else 1) k (fun j hj => by rw [if_pos (by omega)])
  rw [h2]
  rw [h3] at e
  have := cntU_top (fun j => if j < n then ns j else 1) (fun j => by show 1 ≤ (if j < n then ns j else 1); split; exact h j (by assumption); exact Nat.le_refl _) k (n - k) e
  rwa [show k + (n - k) = n by omega] at this
set_option maxHeartbeats 4000000 in
set_option maxRecDepth 100000 in
theorem countM_any (M b : Nat) (l : Nat → List SetV) (w : World) (OK : GridM M w b l) (hf : ∀ j, j < 4 → FewC (l j)) (hMw : M ≤ w.heap.size) :
    Calls Tryz.prog 11 #[.pointer (some ⟨b, 0, none⟩)] w fun r w' => r = .returned (.int .i64 ((cntU (fun j => (cutL (l j)).length) 4 : Nat) : Int)) ∧ GridL M w' b l ∧ w.grownBy w' (some b) := by
  have D : w.grownBy w (some b) := grown_refl _ _
  go_enter Tryz.func11, Tryz.ntmps11
  refine wp_seq_k (fun K1 hK1 => ?_)
  refine wp_region_lit ?_
  refine wl_yield (o := ⟨_, _, _, _, _, _⟩) (.int .i64 0) (yl_assign (by rfl) _ rfl _ rfl) ?_
  simp only [Act.put, lzA, lzB, lzC]
  refine wpList_nil ?_
  refine hK1 _ _ ?_
  clear hK1 K1
  refine wp_seq_k (fun K2 hK2 => ?_)
  refine wp_region_lit ?_
  refine wl_yield (o := ⟨_, _, _, _, _, _⟩) (.int .i64 1) (yl_assign (by rfl) _ rfl _ rfl) ?_
  simp only [Act.put, lzA, lzB, lzC]
  refine wpList_nil ?_
  refine hK2 _ _ ?_
  clear hK2 K2
  refine wp_seq_k (fun K3 hK3 => ?_)
  refine wp_seq_k (fun K4 hK4 => ?_)
  refine wp_region_lit ?_
  refine wl_yield (o := ⟨_, _, _, _, _, _⟩) (.pointer (some ⟨b, 0, none⟩)) (yl_move (by rfl) _ rfl _ rfl) ?_
  simp only [Act.put, lzA, lzB, lzC]
  refine wt_call (o := ⟨_, _, _, _, _, _⟩) (by rfl) 27 _ _ rfl #[.pointer (some ⟨b, 0, none⟩)] rfl (run_call Tryz.func27 (by kernel_rfl) (by kernel_rfl)) ?_
  refine (laid_any M b l _ OK hf (Nat.le_trans hMw D.size)).mono ?_
  rintro r v1 (⟨⟨c', rfl, NC, ok⟩, kg⟩)
  · replace D := grown_trans D kg
    clear OK
    have OK := ok
    clear ok kg
    have hn : ∀ j, j < 4 → (c' j).n = (cutL (l j)).length := fun j hj => by
      obtain ⟨q, e1, e2⟩ := (NC j hj).form
      have : (c' j).n = q.n := by unfold Sl.val at e1; injection e1
      omega
    have hge : ∀ j, j < 4 → 3 ≤ (c' j).n ∧ (c' j).n ≤ 61000 := fun j hj => by rw [hn j hj]; exact ⟨cutL_len _, cutL_most (hf j hj)⟩
    refine Or.inl ⟨.agg #[(c' 0).val, (c' 1).val, (c' 2).val, (c' 3).val], rfl, ?_⟩
    simp only [Act.put, lzA, lzB, lzC]
    refine wl_yield (o := ⟨_, _, _, _, _, _⟩) (.int .i64 0) (yl_move (by rfl) _ rfl _ rfl) ?_
    simp only [Act.put, lzA, lzB, lzC]
    refine wpList_nil ?_
    refine hK4 _ _ ?_
    clear hK4 K4
    refine wp_block ?_
    go_loopw [3, 8] (fun x i wr => ∃ (k : Nat), x = .int .i64 ((cntU (fun j => (c' j).n) k : Nat) : Int) ∧ i = .int .i64 ((k : Nat) : Int) ∧ k ≤ 4 ∧ wr = v1) (fun _ i _ => 4 - (intOf i).toNat)
    case atStart => exact ⟨0, rfl, rfl, Nat.zero_le _, rfl⟩
    case round =>
      obtain ⟨k, rfl, rfl, hk, rfl⟩ := hrel
      have hcl := cntU_le (fun j => (c' j).n) k
      by_cases hlt : k < 4
      · refine wp_seq_k (fun K5 hK5 => ?_)
        refine wp_region_lit ?_
        refine wl_yield (o := ⟨_, _, _, _, _, _⟩) (.bool true) (yt_lssI (by rfl) _ _ _ rfl ((k : Nat) : Int) 4 true rfl rfl (decide_eq_true (by omega))) ?_
        simp only [Act.put, lzA, lzB, lzC]
        refine wpList_nil ?_
        refine hK5 _ _ ?_
        clear hK5 K5
        refine wp_seq_k (fun K6 hK6 => ?_)
        refine wp_cond_true rfl ?_
        refine wp_skip ?_
        refine hK6 _ _ ?_
        clear hK6 K6
        refine wp_seq_k (fun K7 hK7 => ?_)
        refine wp_block ?_
        refine wp_seq_k (fun K8 hK8 => ?_)
        refine wp_region_lit ?_
        refine wl_yield (o := ⟨_, _, _, _, _, _⟩) (Sl.val (c' k)) (yq_ix4 (by rfl) _ _ rfl c' k hlt rfl rfl) ?_
        simp only [Act.put, lzA, lzB, lzC]
        refine wl_yield (o := ⟨_, _, _, _, _, _⟩) (Sl.val (c' k)) (yl_assign (by rfl) _ rfl _ rfl) ?_
        simp only [Act.put, lzA, lzB, lzC]
        refine wpList_nil ?_
        refine hK8 _ _ ?_
        clear hK8 K8
        refine wp_seq_k (fun K9 hK9 => ?_)
        refine wp_seq_k (fun K10 hK10 => ?_)
        refine wp_region_lit ?_
        refine wl_yield (o := ⟨_, _, _, _, _, _⟩) (.int .i64 (cntU (fun j => (c' j).n) k : Nat)) (yl_move (by rfl) _ rfl _ rfl) ?_
        simp only [Act.put, lzA, lzB, lzC]
        refine wl_yield (o := ⟨_, _, _, _, _, _⟩) (Sl.val (c' k)) (yl_move (by rfl) _ rfl _ rfl) ?_
        simp only [Act.put, lzA, lzB, lzC]
        refine wl_yield (o := ⟨_, _, _, _, _, _⟩) (.int .i64 ((c' k).n : Nat)) (yt_lenQ (by rfl) _ rfl (c' k).p (c' k).n (c' k).c rfl) ?_
        simp only [Act.put, lzA, lzB, lzC]
        refine wl_yield (o := ⟨_, _, _, _, _, _⟩) (.int .i64 (1099511627776 / (c' k).n : Nat)) (yq_quoI (by rfl) _ _ _ rfl (c' k).n rfl rfl (by have := hge k hlt; omega)) ?_
        simp only [Act.put, lzA, lzB, lzC]
        refine wl_yield (o := ⟨_, _, _, _, _, _⟩) (.bool (decide (cntU (fun j => (c' j).n) k * (c' k).n > 1099511627776))) (yt_gtrI (by rfl) _ _ _ rfl ((cntU (fun j => (c' j).n) k : Nat) : Int) ((1099511627776 / (c' k).n : Nat) : Int) (decide (cntU (fun j => (c' j).n) k * (c' k).n > 1099511627776)) rfl rfl (quo_dec (by have := hge k hlt; omega))) ?_
        simp only [Act.put, lzA, lzB, lzC]
        refine wpList_nil ?_
        refine hK10 _ _ ?_
        clear hK10 K10
        refine wp_cond_split (t := (decide (cntU (fun j => (c' j).n) k * (c' k).n > 1099511627776))) rfl (fun hc => ?_) (fun hc => ?_)
        · have hc2 : (cntU (fun j => (c' j).n) k * (c' k).n > 1099511627776) := of_decide_eq_true hc
          refine wp_seq_k (fun K11 hK11 => ?_)
          refine wp_region_lit ?_
          refine wl_yield (o := ⟨_, _, _, _, _, _⟩) (.int .i64 1099511627776) (yl_assign (by rfl) _ rfl _ rfl) ?_
          simp only [Act.put, lzA, lzB, lzC]
          refine wpList_nil ?_
          refine hK11 _ _ ?_
          clear hK11 K11
          refine wp_ret ?_
          try simp only [Exit.inBlock, Exit.then]
          have e1 : cntU (fun j => (c' j).n) (k + 1) = 1099511627776 := by unfold cntU; rw [if_pos hc2]
          have e2 := cntU_top9 (fun j => (c' j).n) (k + 1) 4 (by omega) (fun j hj => by have := hge j hj; show 1 ≤ (c' j).n; omega) e1
          go_ret
          exact ⟨ret_int (by rw [cntU_congr (fun j => (cutL (l j)).length) (fun j => (c' j).n) 4 (fun j hj => (hn j hj).symm), e2]; rfl), OK, D⟩
        · have hc2 : ¬ (cntU (fun j => (c' j).n) k * (c' k).n > 1099511627776) := of_decide_eq_false hc
          refine wp_skip ?_
          refine hK9 _ _ ?_
          clear hK9 K9
          refine wp_region_lit ?_
          refine wl_yield (o := ⟨_, _, _, _, _, _⟩) (.int .i64 (cntU (fun j => (c' j).n) k : Nat)) (yl_move (by rfl) _ rfl _ rfl) ?_
          simp only [Act.put, lzA, lzB, lzC]
          refine wl_yield (o := ⟨_, _, _, _, _, _⟩) (Sl.val (c' k)) (yl_move (by rfl) _ rfl _ rfl) ?_
          simp only [Act.put, lzA, lzB, lzC]
          refine wl_yield (o := ⟨_, _, _, _, _, _⟩) (.int .i64 ((c' k).n : Nat)) (yt_lenQ (by rfl) _ rfl (c' k).p (c' k).n (c' k).c rfl) ?_
          simp only [Act.put, lzA, lzB, lzC]
          refine wl_yield (o := ⟨_, _, _, _, _, _⟩) (.int .i64 (cntU (fun j => (c' j).n) k * (c' k).n : Nat)) (yq_mulI (by rfl) _ _ _ rfl ((cntU (fun j => (c' j).n) k : Nat) : Int) (((c' k).n : Nat) : Int) ((cntU (fun j => (c' j).n) k * (c' k).n : Nat) : Int) rfl rfl (by omega) (by omega) (by omega)) ?_
          simp only [Act.put, lzA, lzB, lzC]
          refine wl_yield (o := ⟨_, _, _, _, _, _⟩) (.int .i64 (cntU (fun j => (c' j).n) k * (c' k).n : Nat)) (yl_assign (by rfl) _ rfl _ rfl) ?_
          simp only [Act.put, lzA, lzB, lzC]
          refine wpList_nil ?_
          refine hK7 _ _ ?_
          clear hK7 K7
          refine wp_region_lit ?_
          refine wl_yield (o := ⟨_, _, _, _, _, _⟩) (.int .i64 (k + 1 : Nat)) (yt_addI (by rfl) _ _ _ rfl ((k : Nat) : Int) 1 ((k + 1 : Nat) : Int) rfl rfl (by omega) (by omega) (by omega)) ?_
          simp only [Act.put, lzA, lzB, lzC]
          refine wl_yield (o := ⟨_, _, _, _, _, _⟩) (.int .i64 (k + 1 : Nat)) (yl_move (by rfl) _ rfl _ rfl) ?_
          simp only [Act.put, lzA, lzB, lzC]
          refine wpList_nil ?_
          show _ ∧ _
          go_roundw
          case rel => exact ⟨k + 1, by show _ = Value.int .i64 ((cntU (fun j => (c' j).n) (k + 1) : Nat) : Int); rw [cntU_go (fun j => (c' j).n) k (by omega)], rfl, by omega, rfl⟩
          case measure => simp [intOf]; omega
      · obtain rfl : k = 4 := by omega
        refine wp_seq_k (fun K5 hK5 => ?_)
        refine wp_region_lit ?_
        refine wl_yield (o := ⟨_, _, _, _, _, _⟩) (.bool false) (yt_lssI (by rfl) _ _ _ rfl ((4 : Nat) : Int) 4 false rfl rfl (decide_eq_false (by omega))) ?_
        simp only [Act.put, lzA, lzB, lzC]
        refine wpList_nil ?_
        refine hK5 _ _ ?_
        clear hK5 K5
        refine wp_seq_k (fun K6 hK6 => ?_)
        refine wp_cond_false rfl ?_
        refine wp_exit ?_
        refine hK3 _ _ ?_
        clear hK6 K6 hK3 K3
        refine wp_seq_k (fun K7 hK7 => ?_)
        refine wp_region_lit ?_
        refine wl_yield (o := ⟨_, _, _, _, _, _⟩) (.int .i64 (cntU (fun j => (c' j).n) 4 : Nat)) (yl_move (by rfl) _ rfl _ rfl) ?_
        simp only [Act.put, lzA, lzB, lzC]
        refine wl_yield (o := ⟨_, _, _, _, _, _⟩) (.int .i64 (cntU (fun j => (c' j).n) 4 : Nat)) (yl_assign (by rfl) _ rfl _ rfl) ?_
        simp only [Act.put, lzA, lzB, lzC]
        refine wpList_nil ?_
        refine hK7 _ _ ?_
        clear hK7 K7
        refine wp_ret ?_
        try simp only [Exit.inBlock, Exit.then]
        go_ret
        exact ⟨ret_int (by rw [cntU_congr _ (fun j => (c' j).n) 4 (fun j hj => (hn j hj).symm)]), OK, D⟩
theorem count_any (b : Nat) (l : Nat → List SetV) (w : World) (OK : GridOk w b l) (hf : ∀ j, j < 4 → FewC (l j)) :
    Calls Tryz.prog 11 #[.pointer (some ⟨b, 0, none⟩)] w fun r w' => r = .returned (.int .i64 ((cntU (fun j => (cutL (l j)).length) 4 : Nat) : Int)) ∧ GridOk w' b l ∧ w.grownBy w' (some b) := by
  refine (countM_any (b + 1) b l w OK hf (GridOk.lt OK)).mono ?_
  rintro r w' ⟨h1, h2, h3⟩
  exact ⟨h1, h2.ok, h3⟩
end Go.Proofs.YtbaijjclofekcaaGreatDoor
namespace Go.Proofs.YtbaijjclofekcaaGreatDoor
open Go.RowKit
theorem cutL_small {l : List SetV} (h : FewC l) : ∀ S ∈ cutL l, S.ints.length ≤ 100000 ∧ S.strs.length ≤ 901 := by
  intro S hS
  obtain ⟨i, hi, e⟩ := mem_getD noSet hS
  have h1 := cell_strs (B := sortedN (begL (allR l))) (N := namesOf (allS l)) hi
  have h2 := namesOf_len (allS l)
  have h3 := h.s l.length
  rw [List.take_length] at h3
  rw [← e]
  exact ⟨Nat.le_trans h1.2 (by decide), Nat.le_trans h1.1 (by omega)⟩
theorem SetAt.gr9 {w w' : World} {v : Value} {S : SetV} {g : Nat} {a d : Bool} {p q : Option Addr} {n c m e : Nat} {T : TypeId} (h : SetAt w v S) (hg : w.heap[g]? = some (.cells #[.bool a, .slice p n c, .bool d, .slice q m e] T (0, 0))) (k : w.grownBy w' (some g)) : SetAt w' v S :=
  h.asq hg (fun x hx => by
    simp only [List.mem_cons, List.not_mem_nil, or_false] at hx
    rcases hx with rfl | rfl | rfl | rfl <;> rfl) k.size (fun i hi hne => k.block i hi (fun e => hne (by cases e; rfl)))
theorem OwnT.gr9 {w w' : World} {B gO g n c : Nat} {cs : List SC} (h : OwnT w B (.slice (some ⟨gO, 0, none⟩) n c) cs) (k : w.grownBy w' (some g)) (hne : gO ≠ g) : OwnT w' B (.slice (some ⟨gO, 0, none⟩) n c) cs :=
  ownsRow_gr h k (fun g' e => by cases e; intro e2; cases e2; exact hne rfl)
set_option maxHeartbeats 4000000 in
set_option maxRecDepth 100000 in
theorem attrM_any (M b i : Nat) (hi : i < 4) (l : Nat → List SetV) (w : World) (OK : GridM M w b l) (hf : ∀ j, j < 4 → FewC (l j)) (hMw : M ≤ w.heap.size) :
    Calls Tryz.prog 9 #[.pointer (some ⟨b, 0, none⟩), .int .i64 ((i : Nat) : Int)] w fun r w' => (∃ u, r = .returned u ∧ CutAt w.heap.size w' u (l i)) ∧ GridL M w' b l ∧ w.grownBy w' (some b) := by
  have D : w.grownBy w (some b) := grown_refl _ _
  go_enter Tryz.func9, Tryz.ntmps9
  refine wp_seq_k (fun K1 hK1 => ?_)
  refine wp_region_lit ?_
  refine wl_yield (o := ⟨_, _, _, _, _, _⟩) (.slice none 0 0) (yl_assign (by rfl) _ rfl _ rfl) ?_
  simp only [Act.put, lzA, lzB, lzC]
  refine wpList_nil ?_
  refine hK1 _ _ ?_
  clear hK1 K1
  refine wp_seq_k (fun K2 hK2 => ?_)
  refine wp_seq_k (fun K3 hK3 => ?_)
  refine wp_region_lit ?_
  refine wl_yield (o := ⟨_, _, _, _, _, _⟩) (.int .i64 (i : Nat)) (yl_move (by rfl) _ rfl _ rfl) ?_
  simp only [Act.put, lzA, lzB, lzC]
  refine wl_yield (o := ⟨_, _, _, _, _, _⟩) (.bool false) (yt_lssI (by rfl) _ _ _ rfl ((i : Nat) : Int) 0 false rfl rfl (decide_eq_false (by omega))) ?_
  simp only [Act.put, lzA, lzB, lzC]
  refine wl_yield (o := ⟨_, _, _, _, _, _⟩) (.bool false) (yl_move (by rfl) _ rfl _ rfl) ?_
  simp only [Act.put, lzA, lzB, lzC]
  refine wl_yield (o := ⟨_, _, _, _, _, _⟩) (.int .i64 (i : Nat)) (yl_move (by rfl) _ rfl _ rfl) ?_
  simp only [Act.put, lzA, lzB, lzC]
  refine wl_yield (o := ⟨_, _, _, _, _, _⟩) (.bool false) (yt_geqI (by rfl) _ _ _ rfl ((i : Nat) : Int) 4 false rfl rfl (decide_eq_false (by omega))) ?_
  simp only [Act.put, lzA, lzB, lzC]
  refine wl_yield (o := ⟨_, _, _, _, _, _⟩) (.bool false) (yl_pickF (by rfl) _ _ _ rfl rfl _ rfl) ?_
  simp only [Act.put, lzA, lzB, lzC]
  refine wpList_nil ?_
  refine hK3 _ _ ?_
  clear hK3 K3
  refine wp_cond_false rfl ?_
  refine wp_skip ?_
  refine hK2 _ _ ?_
  clear hK2 K2
  refine wp_seq_k (fun K4 hK4 => ?_)
  refine wp_region_lit ?_
  refine wl_yield (o := ⟨_, _, _, _, _, _⟩) (.pointer (some ⟨b, 0, none⟩)) (yl_move (by rfl) _ rfl _ rfl) ?_
  simp only [Act.put, lzA, lzB, lzC]
  refine wt_call (o := ⟨_, _, _, _, _, _⟩) (by rfl) 27 _ _ rfl #[.pointer (some ⟨b, 0, none⟩)] rfl (run_call Tryz.func27 (by kernel_rfl) (by kernel_rfl)) ?_
  refine (laid_any M b l _ OK hf (Nat.le_trans hMw D.size)).mono ?_
  rintro r v1 (⟨⟨c', rfl, NC, ok⟩, kg⟩)
  · replace D := grown_trans D kg
    clear OK
    have OK := ok
    clear ok kg
    have HC := NC i hi
    clear NC
    have hS0 := HC.sets (Kept.refl _ _)
    have hmost := cutL_most (hf i hi)
    have hleast := cutL_len (l i)
    have hsmall := cutL_small (hf i hi)
    generalize hL : cutL (l i) = L at hS0 hmost hleast hsmall
    have hnil : nilOkQ (c' i).val := by
      obtain ⟨cs, o1, _, _⟩ := HC
      exact OwnT.nilOkQ (B := M) o1
    clear HC
    refine Or.inl ⟨.agg #[(c' 0).val, (c' 1).val, (c' 2).val, (c' 3).val], rfl, ?_⟩
    simp only [Act.put, lzA, lzB, lzC]
    refine wl_yield (o := ⟨_, _, _, _, _, _⟩) (.int .i64 (i : Nat)) (yl_move (by rfl) _ rfl _ rfl) ?_
    simp only [Act.put, lzA, lzB, lzC]
    refine wl_yield (o := ⟨_, _, _, _, _, _⟩) (Sl.val (c' i)) (yq_ix4 (by rfl) _ _ rfl c' i hi rfl rfl) ?_
    simp only [Act.put, lzA, lzB, lzC]
    refine wt_call (o := ⟨_, _, _, _, _, _⟩) (by rfl) 26 _ _ rfl #[Sl.val (c' i)] rfl (run_call Tryz.func26 (by kernel_rfl) (by kernel_rfl)) ?_
    refine (cloneT_own _ L _ hS0 (by omega) hnil).mono ?_
    rintro r v2 (⟨⟨u, cs0, rfl, ROW, hA⟩, kb⟩)
    · have kb0 := kb
      have D0 := D
      have OKV := OK
      have hmD := D.size
      clear D OK kb
      have hcl := hA.1
      obtain ⟨gO, capO, curO, rfl, hgO, hcurO, _⟩ := ROW.form.resolve_left (fun e => by rw [e.2] at hcl; simp at hcl; omega)
      have hltO := lt_heap hcurO
      clear hcurO
      have D : v2.grownBy v2 none := grown_refl _ _
      refine Or.inl ⟨.slice (some ⟨gO, 0, none⟩) cs0.length capO, rfl, ?_⟩
      simp only [Act.put, lzA, lzB, lzC]
      refine wl_yield (o := ⟨_, _, _, _, _, _⟩) (.slice (some ⟨gO, 0, none⟩) cs0.length capO) (yl_assign (by rfl) _ rfl _ rfl) ?_
      simp only [Act.put, lzA, lzB, lzC]
      refine wpList_nil ?_
      refine hK4 _ _ ?_
      clear hK4 K4
      refine wp_seq_k (fun K5 hK5 => ?_)
      refine wp_seq_k (fun K6 hK6 => ?_)
      refine wp_region_lit ?_
      refine wl_yield (o := ⟨_, _, _, _, _, _⟩) (.slice (some ⟨gO, 0, none⟩) cs0.length capO) (yl_move (by rfl) _ rfl _ rfl) ?_
      simp only [Act.put, lzA, lzB, lzC]
      refine wl_yield (o := ⟨_, _, _, _, _, _⟩) (.int .i64 (cs0.length : Nat)) (yt_lenQ (by rfl) _ rfl (some ⟨gO, 0, none⟩) cs0.length capO rfl) ?_
      simp only [Act.put, lzA, lzB, lzC]
      refine wl_yield (o := ⟨_, _, _, _, _, _⟩) (.int .i64 0) (yl_move (by rfl) _ rfl _ rfl) ?_
      simp only [Act.put, lzA, lzB, lzC]
      refine wpList_nil ?_
      refine hK6 _ _ ?_
      clear hK6 K6
      refine wp_block ?_
      go_loopw [21] (fun i wr => ∃ (k : Nat) (cs : List SC), i = .int .i64 ((k : Nat) : Int) ∧ k ≤ cs0.length ∧ cs.length = cs0.length ∧ OwnT wr v1.heap.size (.slice (some ⟨gO, 0, none⟩) cs0.length capO) cs ∧ (∀ j, j < k → SetAt wr (cs.getD j SC.zero).val (L.getD j noSet) ∧ UpC (gO + 1) (cs.getD j SC.zero)) ∧ (∀ j, k ≤ j → j < cs0.length → cs.getD j SC.zero = cs0.getD j SC.zero) ∧ v2.grownBy wr (some gO)) (fun i _ => cs0.length - (intOf i).toNat)
      case atStart => exact ⟨0, cs0, rfl, Nat.zero_le _, rfl, ROW, fun j hj => absurd hj (Nat.not_lt_zero _), fun j _ _ => rfl, grown_refl _ _⟩
      case round =>
        clear D ROW
        obtain ⟨k, cs, rfl, hk, hcs, ROW, hdone, hrest, D⟩ := hrel
        by_cases hlt : k < cs0.length
        · have CR := ROW.range k (by omega)
          have C0 : wr.cell? ⟨gO, 0 + k * 4, none⟩ = some (.bool (cs.getD k SC.zero).a) := by rw [Nat.zero_add]; exact CR 0 _ rfl
          have C1 : wr.cell? ⟨gO, 0 + k * 4 + 1, none⟩ = some (.slice (cs.getD k SC.zero).p (cs.getD k SC.zero).n (cs.getD k SC.zero).c) := by rw [Nat.zero_add]; exact CR 1 _ rfl
          have C2 : wr.cell? ⟨gO, 0 + k * 4 + 2, none⟩ = some (.bool (cs.getD k SC.zero).d) := by rw [Nat.zero_add]; exact CR 2 _ rfl
          have C3 : wr.cell? ⟨gO, 0 + k * 4 + 3, none⟩ = some (.slice (cs.getD k SC.zero).q (cs.getD k SC.zero).m (cs.getD k SC.zero).e) := by rw [Nat.zero_add]; exact CR 3 _ rfl
          refine wp_seq_k (fun K7 hK7 => ?_)
          refine wp_region_lit ?_
          refine wl_yield (o := ⟨_, _, _, _, _, _⟩) (.bool true) (yt_lssI (by rfl) _ _ _ rfl ((k : Nat) : Int) ((cs0.length : Nat) : Int) true rfl rfl (decide_eq_true (by omega))) ?_
          simp only [Act.put, lzA, lzB, lzC]
          refine wpList_nil ?_
          refine hK7 _ _ ?_
          clear hK7 K7
          refine wp_seq_k (fun K8 hK8 => ?_)
          refine wp_cond_true rfl ?_
          refine wp_skip ?_
          refine hK8 _ _ ?_
          clear hK8 K8
          refine wp_seq_k (fun K9 hK9 => ?_)
          refine wp_block ?_
          refine wp_seq_k (fun K10 hK10 => ?_)
          refine wp_region_lit ?_
          refine wl_yield (o := ⟨_, _, _, _, _, _⟩) (.int .i64 (k : Nat)) (yl_move (by rfl) _ rfl _ rfl) ?_
          simp only [Act.put, lzA, lzB, lzC]
          refine wl_yield (o := ⟨_, _, _, _, _, _⟩) (.pointer (some ⟨gO, 0 + k * 4, none⟩)) (yt_atQ (by rfl) _ _ rfl gO 0 _ _ k rfl rfl (hlt)) ?_
          simp only [Act.put, lzA, lzB, lzC]
          refine wl_yield (o := ⟨_, _, _, _, _, _⟩) (SC.val (cs.getD k SC.zero)) (yl_set (by rfl) _ rfl _ _ rfl _ _ _ _ (fun _ h => by subst h; exact ⟨C0, C1, C2, C3⟩)) ?_
          simp only [Act.put, lzA, lzB, lzC]
          refine wt_allocSt (o := ⟨_, _, _, _, _, _⟩) (by rfl) rfl (fun v3 g3 hg G3 kb => ?_)
          simp only [Act.put, lzA, lzB, lzC]
          have ge_g3 : v2.heap.size ≤ g3 := Nat.le_trans D.size hg
          clear hg
          replace D := grown_below D kb
          replace ROW := OwnT.on ROW kb
          replace hdone := fun j hj => And.intro ((hdone j hj).1.on kb) (hdone j hj).2
          clear kb
          replace G3 : v3.heap[g3]? = some (.cells #[.bool false, .slice none 0 0, .bool false, .slice none 0 0] 43 (0, 0)) := G3
          refine wl_yield (o := ⟨_, _, _, _, _, _⟩) (.int .i64 (k : Nat)) (yl_assign (by rfl) _ rfl _ rfl) ?_
          simp only [Act.put, lzA, lzB, lzC]
          refine wt_putSt (o := ⟨_, _, _, _, _, _⟩) rfl _ _ rfl _ rfl ((cs.getD k SC.zero)) rfl G3 rfl (fun v4 X kg => ?_)
          simp only [Act.put, lzA, lzB, lzC]
          replace D := gr_new D ge_g3 kg
          replace ROW := OwnT.gr9 ROW kg (by have := ge_g3; omega)
          replace hdone := fun j hj => And.intro ((hdone j hj).1.gr9 G3 kg) (hdone j hj).2
          clear kg
          replace G3 : v4.heap[g3]? = some (.cells #[.bool ((cs.getD k SC.zero).a), .slice (cs.getD k SC.zero).p (cs.getD k SC.zero).n (cs.getD k SC.zero).c, .bool ((cs.getD k SC.zero).d), .slice (cs.getD k SC.zero).q (cs.getD k SC.zero).m (cs.getD k SC.zero).e] 43 (0, 0)) := X
          clear X
          refine wpList_nil ?_
          refine hK10 _ _ ?_
          clear hK10 K10
          refine wp_region_lit ?_
          refine wl_yield (o := ⟨_, _, _, _, _, _⟩) (.slice (some ⟨gO, 0, none⟩) cs0.length capO) (yl_move (by rfl) _ rfl _ rfl) ?_
          simp only [Act.put, lzA, lzB, lzC]
          refine wl_yield (o := ⟨_, _, _, _, _, _⟩) (.int .i64 (k : Nat)) (yl_move (by rfl) _ rfl _ rfl) ?_
          simp only [Act.put, lzA, lzB, lzC]
          refine wl_yield (o := ⟨_, _, _, _, _, _⟩) (SC.val (cs.getD k SC.zero)) (yl_set (by rfl) _ rfl _ 0 rfl _ _ _ _ (fun _ h => by subst h; exact ⟨cell_heap G3 0, cell_heap G3 1, cell_heap G3 2, cell_heap G3 3⟩)) ?_
          simp only [Act.put, lzA, lzB, lzC]
          have hSk : SetAt v4 (cs.getD k SC.zero).val (L.getD k noSet) := by
            rw [hrest k (Nat.le_refl _) hlt]
            exact (hA.2 k (by omega)).on (kb0.grown D kb0.size (fun z hz => by cases hz; exact hgO))
          have hml := hsmall _ (gD_mem (d := noSet) (show k < L.length by omega))
          refine wt_call (o := ⟨_, _, _, _, _, _⟩) (by rfl) 25 _ _ rfl #[SC.val (cs.getD k SC.zero)] rfl (run_call Tryz.func25 (by kernel_rfl) (by kernel_rfl)) ?_
          refine (copied9_any _ (L.getD k noSet) _ hSk hml.1 (Nat.le_trans hml.2 (by decide))).mono ?_
          rintro r v5 (⟨⟨c9, rfl, hc9, hu9⟩, kb⟩)
          · have hsz9 := D.size
            replace D := grown_below D kb
            replace ROW := OwnT.on ROW kb
            replace hdone := fun j hj => And.intro ((hdone j hj).1.on kb) (hdone j hj).2
            replace G3 := heap_on G3 kb
            clear kb
            clear hSk hml
            refine Or.inl ⟨SC.val c9, rfl, ?_⟩
            simp only [Act.put, lzA, lzB, lzC]
            refine wl_yield (o := ⟨_, _, _, _, _, _⟩) (.pointer (some ⟨gO, 0 + k * 4, none⟩)) (yt_atQ (by rfl) _ _ rfl gO 0 _ _ k rfl rfl (hlt)) ?_
            simp only [Act.put, lzA, lzB, lzC]
            refine wq_putQ (o := ⟨_, _, _, _, _, _⟩) (by rfl) _ _ rfl gO k rfl c9 rfl v1.heap.size cs0.length capO cs ROW (by omega) (fun v6 ROW' kg => ?_)
            simp only [Act.put, lzA, lzB, lzC]
            have hu8 : UpC (gO + 1) c9 := hu9.mono (by omega)
            have hdone' : ∀ j, j < k + 1 → SetAt v6 ((cs.set k c9).getD j SC.zero).val (L.getD j noSet) ∧ UpC (gO + 1) ((cs.set k c9).getD j SC.zero) := fun j hj => by
              by_cases e : j = k
              · subst e
                rw [List.getD_eq_getElem?_getD, List.getElem?_set_self (by omega)]
                exact ⟨hc9.kept hu8 (kept_lt kg (Nat.lt_succ_self gO)), hu8⟩
              · have e1 : (cs.set k c9).getD j SC.zero = cs.getD j SC.zero := by rw [List.getD_eq_getElem?_getD, List.getElem?_set_ne (by omega), ← List.getD_eq_getElem?_getD]
                rw [e1]
                have := hdone j (by omega)
                exact ⟨this.1.kept this.2 (kept_lt kg (Nat.lt_succ_self gO)), this.2⟩
            have hrest' : ∀ j, k + 1 ≤ j → j < cs0.length → (cs.set k c9).getD j SC.zero = cs0.getD j SC.zero := fun j h1 h2 => by
              rw [List.getD_eq_getElem?_getD, List.getElem?_set_ne (by omega), ← List.getD_eq_getElem?_getD]
              exact hrest j (by omega) h2
            replace D := grown_trans D kg
            clear hdone hc9 hu9 ROW hrest
            have ROW := ROW'
            have hdone := hdone'
            clear ROW' hdone' hu8 kg
            refine wpList_nil ?_
            refine hK9 _ _ ?_
            clear hK9 K9
            refine wp_region_lit ?_
            refine wl_yield (o := ⟨_, _, _, _, _, _⟩) (.int .i64 (k + 1 : Nat)) (yt_addI (by rfl) _ _ _ rfl ((k : Nat) : Int) 1 ((k + 1 : Nat) : Int) rfl rfl (by omega) (by omega) (by omega)) ?_
            simp only [Act.put, lzA, lzB, lzC]
            refine wl_yield (o := ⟨_, _, _, _, _, _⟩) (.int .i64 (k + 1 : Nat)) (yl_move (by rfl) _ rfl _ rfl) ?_
            simp only [Act.put, lzA, lzB, lzC]
            refine wpList_nil ?_
            show _ ∧ _
            go_roundw
            case rel => exact ⟨k + 1, _, rfl, by omega, by rw [List.length_set]; exact hcs, ROW, hdone, hrest', D⟩
            case measure => simp [intOf]; omega
        · obtain rfl : k = cs0.length := by omega
          refine wp_seq_k (fun K7 hK7 => ?_)
          refine wp_region_lit ?_
          refine wl_yield (o := ⟨_, _, _, _, _, _⟩) (.bool false) (yt_lssI (by rfl) _ _ _ rfl ((cs0.length : Nat) : Int) ((cs0.length : Nat) : Int) false rfl rfl (decide_eq_false (by omega))) ?_
          simp only [Act.put, lzA, lzB, lzC]
          refine wpList_nil ?_
          refine hK7 _ _ ?_
          clear hK7 K7
          refine wp_seq_k (fun K8 hK8 => ?_)
          refine wp_cond_false rfl ?_
          refine wp_exit ?_
          refine hK5 _ _ ?_
          clear hK8 K8 hK5 K5
          refine wp_seq_k (fun K9 hK9 => ?_)
          refine wp_region_lit ?_
          refine wl_yield (o := ⟨_, _, _, _, _, _⟩) (.slice (some ⟨gO, 0, none⟩) cs0.length capO) (yl_move (by rfl) _ rfl _ rfl) ?_
          simp only [Act.put, lzA, lzB, lzC]
          refine wl_yield (o := ⟨_, _, _, _, _, _⟩) (.slice (some ⟨gO, 0, none⟩) cs0.length capO) (yl_assign (by rfl) _ rfl _ rfl) ?_
          simp only [Act.put, lzA, lzB, lzC]
          refine wpList_nil ?_
          refine hK9 _ _ ?_
          clear hK9 K9
          refine wp_ret ?_
          try simp only [Exit.inBlock, Exit.then]
          have DB := kb0.grown D kb0.size (fun z hz => by cases hz; exact hgO)
          have hns : NewSt w.heap.size wr cs L := ⟨⟨by omega, fun j hj => (hdone j (by omega)).1⟩, fun c hc => by
            obtain ⟨j, hj, e⟩ := mem_getD SC.zero hc
            rw [← e]
            exact (hdone j (by omega)).2.mono (by omega)⟩
          go_ret
          exact ⟨⟨_, rfl, cs, OwnT.mono ROW hmD, by omega, by rw [hL]; exact hns⟩, OKV.on DB, grown_below D0 DB⟩
theorem attr_any (b i : Nat) (hi : i < 4) (l : Nat → List SetV) (w : World) (OK : GridOk w b l) (hf : ∀ j, j < 4 → FewC (l j)) :
    Calls Tryz.prog 9 #[.pointer (some ⟨b, 0, none⟩), .int .i64 ((i : Nat) : Int)] w fun r w' => (∃ u, r = .returned u ∧ CutAt w.heap.size w' u (l i)) ∧ GridOk w' b l ∧ w.grownBy w' (some b) := by
  refine (attrM_any (b + 1) b i hi l w OK hf (GridOk.lt OK)).mono ?_
  rintro r w' ⟨h1, h2, h3⟩
  exact ⟨h1, h2.ok, h3⟩
theorem SetsAt.nil9 (w : World) : SetsAt w sl0.val [] := ⟨Nat.zero_le _, none, 0, rfl, fun i hi => absurd hi (Nat.not_lt_zero _)⟩
section
variable {ops : Array Oper} {S : World → Prop} {o : Oper} {a : Act}
theorem yq_lenNF (hw : Region.wanted o (yielded ops a.tmps) = true) (x : Operand) (ho : o.op = .call { callee := .builtin .len, args := #[x], argTypes := #[57] }) (hx : a.eval x = .slice none 0 0) : YieldsIf Tryz.prog ops S o (.int .i64 0) a :=
  Or.inl ⟨hw, fun w hS => by
    unfold execOp
    simp only [ho, resolve, invoke, builtin, Sem.run_bind, Sem.run_pure, Result.andThen_ok, List.map_toArray, List.map_cons, List.map_nil, hx]
    go_simp⟩
end
set_option maxHeartbeats 4000000 in
set_option maxRecDepth 100000 in
theorem new0_any (w : World) :
    Calls Tryz.prog 8 #[.slice none 0 0] w fun r w' => (∃ b, r = .returned (.pointer (some ⟨b, 0, none⟩)) ∧ w.heap.size ≤ b ∧ GridOk w' b (fun _ => [])) ∧ Below w.heap.size w w' := by
  have D : w.grownBy w none := grown_refl _ _
  go_enter Tryz.func8, Tryz.ntmps8
  refine wp_seq_k (fun K1 hK1 => ?_)
  refine wp_region_lit ?_
  refine wl_yield (o := ⟨_, _, _, _, _, _⟩) (.pointer none) (yl_assign (by rfl) _ rfl _ rfl) ?_
  simp only [Act.put, lzA, lzB, lzC]
  refine wpList_nil ?_
  refine hK1 _ _ ?_
  clear hK1 K1
  refine wp_seq_k (fun K2 hK2 => ?_)
  refine wp_region_lit ?_
  refine wq_allocG (o := ⟨_, _, _, _, _, _⟩) (by rfl) rfl (fun v1 g1 hg G kb => ?_)
  simp only [Act.put, lzA, lzB, lzC]
  replace D := grown_below D kb
  clear kb
  refine wl_yield (o := ⟨_, _, _, _, _, _⟩) (.pointer (some ⟨g1, 0, none⟩)) (yl_assign (by rfl) _ rfl _ rfl) ?_
  simp only [Act.put, lzA, lzB, lzC]
  refine wpList_nil ?_
  refine hK2 _ _ ?_
  clear hK2 K2
  refine wp_seq_k (fun K3 hK3 => ?_)
  refine wp_seq_k (fun K4 hK4 => ?_)
  refine wp_region_lit ?_
  refine wl_yield (o := ⟨_, _, _, _, _, _⟩) (.slice none 0 0) (yl_move (by rfl) _ rfl _ rfl) ?_
  simp only [Act.put, lzA, lzB, lzC]
  refine wl_yield (o := ⟨_, _, _, _, _, _⟩) (.int .i64 0) (yq_lenNF (by rfl) _ rfl rfl) ?_
  simp only [Act.put, lzA, lzB, lzC]
  refine wl_yield (o := ⟨_, _, _, _, _, _⟩) (.int .i64 0) (yl_move (by rfl) _ rfl _ rfl) ?_
  simp only [Act.put, lzA, lzB, lzC]
  refine wpList_nil ?_
  refine hK4 _ _ ?_
  clear hK4 K4
  refine wp_block ?_
  go_loopw [13] (fun i wr => i = .int .i64 0 ∧ wr = v1) (fun _ _ => 0)
  case atStart => exact ⟨rfl, rfl⟩
  case round =>
    obtain ⟨rfl, rfl⟩ := hrel
    refine wp_seq_k (fun K5 hK5 => ?_)
    refine wp_region_lit ?_
    refine wl_yield (o := ⟨_, _, _, _, _, _⟩) (.bool false) (yt_lssI (by rfl) _ _ _ rfl 0 0 false rfl rfl (by decide)) ?_
    simp only [Act.put, lzA, lzB, lzC]
    refine wpList_nil ?_
    refine hK5 _ _ ?_
    clear hK5 K5
    refine wp_seq_k (fun K6 hK6 => ?_)
    refine wp_cond_false rfl ?_
    refine wp_exit ?_
    refine hK3 _ _ ?_
    clear hK6 K6 hK3 K3
    refine wp_seq_k (fun K7 hK7 => ?_)
    refine wp_region_lit ?_
    refine wl_yield (o := ⟨_, _, _, _, _, _⟩) (.pointer (some ⟨g1, 0, none⟩)) (yl_move (by rfl) _ rfl _ rfl) ?_
    simp only [Act.put, lzA, lzB, lzC]
    refine wl_yield (o := ⟨_, _, _, _, _, _⟩) (.pointer (some ⟨g1, 0, none⟩)) (yl_assign (by rfl) _ rfl _ rfl) ?_
    simp only [Act.put, lzA, lzB, lzC]
    refine wpList_nil ?_
    refine hK7 _ _ ?_
    clear hK7 K7
    refine wp_ret ?_
    try simp only [Exit.inBlock, Exit.then]
    go_ret
    exact ⟨⟨g1, rfl, hg, Or.inl ⟨_, _, G, fun j _ => SetsAt.nil9 _⟩⟩, below_none D⟩
end Go.Proofs.YtbaijjclofekcaaGreatDoor
namespace Go.Proofs.YtbaijjclofekcaaGreatDoor
open Go.RowKit
def l5 : List SetV := [⟨false, [(1, 5)], false, []⟩]
def c5 : List SetV := [cellA, cellN (-9223372036854775808) 0, cellN 1 5, cellN 6 9223372036854775807, ⟨false, [], true, []⟩]
def c0 : List SetV := [cellA, cellN (-9223372036854775808) 9223372036854775807, ⟨false, [], true, []⟩]
theorem namesOf_nil : namesOf [] = [] := by unfold namesOf; rw [List.map_nil, List.mergeSort_nil]; rfl
theorem sorted_5 : sortedN (begL [(1, 5)]) = [-9223372036854775808, 1, 6] := by
  refine risesI_ext (sortedN_is _).1 ⟨fun b hb => ?_, ⟨fun b hb => ?_, ⟨fun b hb => by simp at hb, trivial⟩⟩⟩ (fun x => by rw [(sortedN_is _).2 x]; simp [begL, begR])
  · simp at hb; omega
  · simp at hb; omega
theorem sorted_0 : sortedN (begL []) = [-9223372036854775808] := by
  refine risesI_ext (sortedN_is _).1 ⟨fun b hb => by simp at hb, trivial⟩ (fun x => by rw [(sortedN_is _).2 x]; simp [begL])
theorem cutL_5 : cutL l5 = c5 := by
  have e1 : allR l5 = [(1, 5)] := rfl
  have e2 : allS l5 = [] := rfl
  unfold cutL
  rw [e1, e2, namesOf_nil, sorted_5]
  rfl
theorem cutL_0 : cutL [] = c0 := by
  have e1 : allR [] = [] := rfl
  have e2 : allS [] = [] := rfl
  unfold cutL
  rw [e1, e2, namesOf_nil, sorted_0]
  rfl
theorem few_5 : FewC l5 := fewC_of (fun S hS => by
  have : S = ⟨false, [(1, 5)], false, []⟩ := List.mem_singleton.1 hS
  subst this
  exact ⟨by decide, by decide⟩) (by decide)
theorem few_0 : FewC [] := fewC_of (fun S hS => by simp at hS) (by decide)
theorem itoa_0 : Lib.itoa ((0 : Nat) : Int) = [48] := by rw [Lib.itoa_nonneg]; unfold Lib.decDigits; rfl
theorem itoa_1 : Lib.itoa ((1 : Nat) : Int) = [49] := by rw [Lib.itoa_nonneg]; unfold Lib.decDigits; rfl
theorem fresh_a : freshC [⟨#[126, 48]⟩] = 1 := by
  refine (freshC_is _).1.uniq ⟨fun h => ?_, fun m hm => ?_⟩
  · have e := List.mem_singleton.1 h
    rw [← try_bs, itoa_1] at e
    exact absurd e (by decide)
  · obtain rfl : m = 0 := by omega
    rw [← try_bs, itoa_0]
    exact List.mem_singleton.2 rfl
def s1 : SetV := ⟨false, [], true, [⟨#[126, 48]⟩]⟩
theorem right_s1 : rightSet s1 = true := (rightSet_iff _).2 ⟨trivial, rightS_one (by decide)⟩
theorem fit_s1 : Fit s1 := ⟨⟨right_s1, fun r h => by cases h⟩, by decide, by decide⟩
theorem sample_s1 : sampleV s1 = some (2, 0, bs [126, 49]) := by
  unfold sampleV
  rw [if_pos right_s1]
  show some (2, 0, tryS tilde (freshC [⟨#[126, 48]⟩])) = _
  rw [fresh_a, ← try_bs, itoa_1]
  rfl
theorem has_c5 (j : Nat) (n : Int) : hasP (c5.getD j noSet) (1, n, noS) = inIntsB (c5.getD j noSet).ints n := by
  show hasB _ 1 n noS = _
  rw [has_1, rightB_1, Bool.true_and]
theorem which_6 : whichI c5 (1, 6, noS) = 3 := which_uniq (i := 3) (by decide) (by rw [has_c5]; decide) (fun j hj => by
  rw [has_c5]
  have : j = 0 ∨ j = 1 ∨ j = 2 := by omega
  rcases this with rfl | rfl | rfl <;> decide)
theorem which_7 : whichI c5 (7, 0, noS) = -1 := which_none (fun j hj => by
  show hasB _ 7 0 noS = false
  unfold hasB
  have : rightB 7 0 noS = false := rfl
  rw [this]; rfl)
theorem fit_cut {l : List SetV} (hl : InL l) (hf : FewC l) : ∀ S ∈ cutL l, Fit S := by
  intro S hS
  obtain ⟨i, hi, e⟩ := mem_getD noSet hS
  have h1 := cell_strs (B := sortedN (begL (allR l))) (N := namesOf (allS l)) hi
  have h2 := cutL_small hf S hS
  have h3 := cell_right (cut_of hl) hi
  rw [← e]
  refine ⟨⟨h3, ?_⟩, Nat.le_trans h1.2 (by decide), ?_⟩
  · show inI64 ((cellL (sortedN (begL (allR l))) (namesOf (allS l))).getD i noSet).ints
    rcases cellL_cases hi with rfl | ⟨j, hj, rfl⟩ | ⟨j, hj, rfl⟩ | rfl
    · rw [cellL_0]; intro r hr; cases hr
    · rw [cellL_num _ _ _ hj]; intro r hr
      have := (cut_of hl).hiIn j hj
      rw [show r = (_, _) from List.mem_singleton.1 hr]; dsimp only; omega
    · rw [cellL_str _ _ _ hj]; intro r hr; cases hr
    · rw [cellL_last]; intro r hr; cases hr
  · rw [← e] at h2; exact Nat.le_trans h2.2 (by decide)
theorem inL_5 : InL l5 := fun S hS => by
  have : S = ⟨false, [(1, 5)], false, []⟩ := List.mem_singleton.1 hS
  subst this
  exact ⟨fun r hr => by rw [List.mem_singleton.1 hr]; decide, fun s hs => by cases hs⟩
theorem fit_5 : ∀ S ∈ c5, Fit S := cutL_5 ▸ fit_cut inL_5 few_5
theorem sets_row1 {w : World} {g : Nat} {c : SC} {S : SetV} (h : StIn w g c) (hs : SetAt w c.val S) : SetsAt w (.slice (some ⟨g, 0, none⟩) 1 1) [S] :=
  sets_of_row (OwnT.row (ownT_one h (Nat.le_refl _)) (by simp)) ⟨rfl, fun i hi => by
    rw [List.length_singleton] at hi
    obtain rfl : i = 0 := by omega
    exact hs⟩
section
variable {ops : Array Oper} {S : World → Prop} {o : Oper} {a : Act}
theorem yq_eqRg (hw : Region.wanted o (yielded ops a.tmps) = true) (x y : Operand) (t : TypeId) (ho : o.op = .binOp .eql 54 x y t) (p q : Int) (hx : a.eval x = .agg #[.int .i64 p, .int .i64 q]) (hy : a.eval y = .agg #[.int .i64 p, .int .i64 q]) : YieldsIf Tryz.prog ops S o (.bool true) a :=
  Or.inl ⟨hw, fun w hS => by
    simp only [execOp, ho, hx, hy]
    go_simp⟩
end
theorem cnt_81 : ((cntU (fun _ => (cutL []).length) 4 : Nat) : Int) = 81 := by rw [cutL_0]; decide
set_option maxHeartbeats 4000000 in
set_option maxRecDepth 100000 in
theorem awake9_any (w : World) (HE : Env w) :
    Calls Tryz.prog 5 #[] w fun r w' => r = .returned (.bool true) ∧ Below w.heap.size w w' := by
  have w6 : 2 ≤ w.heap.size := HE.big
  have D : w.grownBy w none := grown_refl _ _
  go_enter Tryz.func5, Tryz.ntmps5
  refine wp_seq_k (fun K1 hK1 => ?_)
  refine wp_region_lit ?_
  refine wl_yield (o := ⟨_, _, _, _, _, _⟩) (.bool false) (yl_assign (by rfl) _ rfl _ rfl) ?_
  simp only [Act.put, lzA, lzB, lzC]
  refine wpList_nil ?_
  refine hK1 _ _ ?_
  clear hK1 K1
  refine wp_seq_k (fun K2 hK2 => ?_)
  refine wp_region_lit ?_
  refine wl_yield (o := ⟨_, _, _, _, _, _⟩) (.agg #[.int .i64 1, .int .i64 5]) (yt_buildR (by rfl) _ _ rfl 1 5 rfl rfl) ?_
  simp only [Act.put, lzA, lzB, lzC]
  refine wt_row1R (o := ⟨_, _, _, _, _, _⟩) (by rfl) _ rfl (1, 5) rfl (fun v1 g1 hg G1 kb => ?_)
  have ge_g1 : w.heap.size ≤ g1 := Nat.le_trans D.size hg
  have six_g1 : 2 ≤ g1 := Nat.le_trans w6 ge_g1
  clear hg
  replace D := grown_below D kb
  replace HE := HE.on kb
  clear kb
  simp only [Act.put, lzA, lzB, lzC]
  refine wl_yield (o := ⟨_, _, _, _, _, _⟩) (.agg #[.bool false, .slice (some ⟨g1, 0, none⟩) 1 1, .bool false, .slice none 0 0]) (yq_bS1 (by rfl) _ rfl (some ⟨g1, 0, none⟩) 1 1 rfl) ?_
  simp only [Act.put, lzA, lzB, lzC]
  refine wq_row1Q (o := ⟨_, _, _, _, _, _⟩) (by rfl) _ rfl ⟨false, (some ⟨g1, 0, none⟩), 1, 1, false, none, 0, 0⟩ rfl (fun v2 g2 hg G2 kb => ?_)
  have n_g1_g2 : g1 ≠ g2 := by have := lt_heap G1; omega
  have ge_g2 : w.heap.size ≤ g2 := Nat.le_trans D.size hg
  have six_g2 : 2 ≤ g2 := Nat.le_trans w6 ge_g2
  clear hg
  replace D := grown_below D kb
  replace HE := HE.on kb
  replace G1 := heap_on G1 kb
  clear kb
  replace G2 : v2.heap[g2]? = some (.cells #[.bool false, .slice (some ⟨g1, 0, none⟩) 1 1, .bool false, .slice none 0 0] 43 (0, 0)) := G2
  simp only [Act.put, lzA, lzB, lzC]
  refine wt_call (o := ⟨_, _, _, _, _, _⟩) (by rfl) 20 _ _ rfl #[.slice (some ⟨g2, 0, none⟩) 1 1] rfl (run_call Tryz.func20 (by kernel_rfl) (by kernel_rfl)) ?_
  refine (cut_any _ l5 _ (sets_row1 (c := ⟨false, some ⟨g1, 0, none⟩, 1, 1, false, none, 0, 0⟩) G2 ⟨_, _, rfl, one_rng G1 (by decide) (by decide), strs_none _⟩) few_5).mono ?_
  rintro r v3 (⟨⟨u, rfl, HC⟩, kb⟩)
  · replace D := grown_below D kb
    replace HE := HE.on kb
    replace G1 := heap_on G1 kb
    replace G2 := heap_on G2 kb
    clear kb
    obtain ⟨a5, cap5, rfl⟩ : ∃ a5 cap5, u = .slice a5 5 cap5 := by
      obtain ⟨q, e1, e2⟩ := HC.form
      rw [cutL_5] at e2
      exact ⟨q.p, q.c, by rw [e1]; unfold Sl.val; rw [e2]; rfl⟩
    have HS := HC.sets (Kept.refl _ _)
    rw [cutL_5] at HS
    clear HC
    have D2 : v3.grownBy v3 none := grown_refl _ _
    refine Or.inl ⟨.slice a5 5 cap5, rfl, ?_⟩
    simp only [Act.put, lzA, lzB, lzC]
    refine wl_yield (o := ⟨_, _, _, _, _, _⟩) (.slice a5 5 cap5) (yl_assign (by rfl) _ rfl _ rfl) ?_
    simp only [Act.put, lzA, lzB, lzC]
    refine wpList_nil ?_
    refine hK2 _ _ ?_
    clear hK2 K2
    refine wp_seq_k (fun K3 hK3 => ?_)
    refine wp_region_lit ?_
    refine wt_row1S (o := ⟨_, _, _, _, _, _⟩) (by rfl) _ rfl (bs ([126, 48])) rfl (fun v4 g4 hg G4 kb => ?_)
    have n_g1_g4 : g1 ≠ g4 := by have := lt_heap G1; omega
    have n_g2_g4 : g2 ≠ g4 := by have := lt_heap G2; omega
    have ge_g4 : w.heap.size ≤ g4 := Nat.le_trans D.size hg
    have ge_D2_g4 : v3.heap.size ≤ g4 := Nat.le_trans D2.size hg
    have six_g4 : 2 ≤ g4 := Nat.le_trans w6 ge_g4
    clear hg
    replace D := grown_below D kb
    replace HE := HE.on kb
    replace G1 := heap_on G1 kb
    replace G2 := heap_on G2 kb
    replace D2 := grown_below D2 kb
    clear kb
    simp only [Act.put, lzA, lzB, lzC]
    refine wl_yield (o := ⟨_, _, _, _, _, _⟩) (.agg #[.bool false, .slice none 0 0, .bool true, .slice (some ⟨g4, 0, none⟩) 1 1]) (yq_bS23 (by rfl) _ _ rfl true (some ⟨g4, 0, none⟩) 1 1 rfl rfl) ?_
    simp only [Act.put, lzA, lzB, lzC]
    refine wt_call (o := ⟨_, _, _, _, _, _⟩) (by rfl) 15 _ _ rfl #[.agg #[.bool false, .slice none 0 0, .bool true, .slice (some ⟨g4, 0, none⟩) 1 1]] rfl (run_call Tryz.func15 (by kernel_rfl) (by kernel_rfl)) ?_
    refine (sample_any _ s1 _ HE (show SetAt _ (SC.val ⟨false, none, 0, 0, true, some ⟨g4, 0, none⟩, 1, 1⟩) s1 from ⟨_, _, rfl, rngs_none _, one_str G4 (by decide)⟩) (fun _ => fit_s1)).mono ?_
    rintro r v5 (⟨rfl, kb⟩)
    · replace D := grown_below D kb
      replace HE := HE.on kb
      replace G1 := heap_on G1 kb
      replace G2 := heap_on G2 kb
      replace D2 := grown_below D2 kb
      replace G4 := heap_on G4 kb
      clear kb
      refine Or.inl ⟨.tuple #[.agg #[.int .i64 2, .int .i64 0, .string (bs ([126, 49]))], .bool true], by rw [sample_s1]; rfl, ?_⟩
      simp only [Act.put, lzA, lzB, lzC]
      refine wl_yield (o := ⟨_, _, _, _, _, _⟩) (.tuple #[.agg #[.int .i64 2, .int .i64 0, .string (bs ([126, 49]))], .bool true]) (yl_move (by rfl) _ rfl _ rfl) ?_
      simp only [Act.put, lzA, lzB, lzC]
      refine wl_yield (o := ⟨_, _, _, _, _, _⟩) (.agg #[.int .i64 2, .int .i64 0, .string (bs ([126, 49]))]) (yl_extract0 (by rfl) _ rfl _ _ rfl) ?_
      simp only [Act.put, lzA, lzB, lzC]
      refine wl_yield (o := ⟨_, _, _, _, _, _⟩) (.bool true) (yl_extract1 (by rfl) _ rfl _ _ rfl) ?_
      simp only [Act.put, lzA, lzB, lzC]
      refine wt_allocVa (o := ⟨_, _, _, _, _, _⟩) (by rfl) rfl (fun v6 g6 hg G6 kb => ?_)
      simp only [Act.put, lzA, lzB, lzC]
      have n_g1_g6 : g1 ≠ g6 := by have := lt_heap G1; omega
      have n_g2_g6 : g2 ≠ g6 := by have := lt_heap G2; omega
      have n_g4_g6 : g4 ≠ g6 := by have := lt_heap G4; omega
      have ge_g6 : w.heap.size ≤ g6 := Nat.le_trans D.size hg
      have ge_D2_g6 : v3.heap.size ≤ g6 := Nat.le_trans D2.size hg
      have six_g6 : 2 ≤ g6 := Nat.le_trans w6 ge_g6
      clear hg
      replace D := grown_below D kb
      replace HE := HE.on kb
      replace G1 := heap_on G1 kb
      replace G2 := heap_on G2 kb
      replace D2 := grown_below D2 kb
      replace G4 := heap_on G4 kb
      clear kb
      replace G6 : v6.heap[g6]? = some (.cells #[.int .i64 0, .int .i64 0, .string (bs ([]))] 24 (0, 0)) := G6
      refine wt_putVa (o := ⟨_, _, _, _, _, _⟩) rfl _ _ rfl _ rfl ((2, 0, (bs ([126, 49])))) rfl G6 rfl (fun v7 X kg => ?_)
      simp only [Act.put, lzA, lzB, lzC]
      replace D := gr_new D ge_g6 kg
      replace HE := Env.gr HE kg six_g6
      replace G1 := heap_gr G1 kg n_g1_g6
      replace G2 := heap_gr G2 kg n_g2_g6
      replace D2 := gr_new D2 ge_D2_g6 kg
      replace G4 := heap_gr G4 kg n_g4_g6
      clear kg
      replace G6 : v7.heap[g6]? = some (.cells #[.int .i64 2, .int .i64 0, .string (bs ([126, 49]))] 24 (0, 0)) := X
      clear X
      refine wl_yield (o := ⟨_, _, _, _, _, _⟩) (.bool true) (yl_assign (by rfl) _ rfl _ rfl) ?_
      simp only [Act.put, lzA, lzB, lzC]
      refine wpList_nil ?_
      refine hK3 _ _ ?_
      clear hK3 K3
      refine wp_seq_k (fun K4 hK4 => ?_)
      refine wp_region_lit ?_
      refine wt_call (o := ⟨_, _, _, _, _, _⟩) (by rfl) 8 _ _ rfl #[.slice none 0 0] rfl (run_call Tryz.func8 (by kernel_rfl) (by kernel_rfl)) ?_
      refine (new0_any _).mono ?_
      rintro r v8 (⟨⟨b9, rfl, hb, OK⟩, kb⟩)
      · have hgb := Nat.le_trans D.size hb
        replace D := grown_below D kb
        replace HE := HE.on kb
        replace G1 := heap_on G1 kb
        replace G2 := heap_on G2 kb
        replace D2 := grown_below D2 kb
        replace G4 := heap_on G4 kb
        replace G6 := heap_on G6 kb
        clear kb
        have HS1 := HS.on (below_none D2)
        obtain ⟨gC, oC, vi0, vs0, rfl, hgC, A0, -, -, -, -, -⟩ := HS1.at.2 0 (by decide)
        obtain ⟨g2', o2', vi2, vs2, e2, -, -, A2, -, -, RI2, -⟩ := HS1.at.2 2 (by decide)
        obtain ⟨g4', o4', vi4, vs4, e4, -, -, -, A4, -, -, -⟩ := HS1.at.2 4 (by decide)
        injection e2 with e2
        injection e2 with e2 e2'
        subst e2 e2'
        injection e4 with e4
        injection e4 with e4 e4'
        subst e4 e4'
        obtain ⟨aI, cI, rfl⟩ := RI2.form
        obtain ⟨gI, oI, rfl, -, B0, B1⟩ := RI2.at.2 0 (by decide)
        refine Or.inl ⟨.pointer (some ⟨b9, 0, none⟩), rfl, ?_⟩
        simp only [Act.put, lzA, lzB, lzC]
        refine wl_yield (o := ⟨_, _, _, _, _, _⟩) (.pointer (some ⟨b9, 0, none⟩)) (yl_assign (by rfl) _ rfl _ rfl) ?_
        simp only [Act.put, lzA, lzB, lzC]
        refine wpList_nil ?_
        refine hK4 _ _ ?_
        clear hK4 K4
        refine wp_seq_k (fun K5 hK5 => ?_)
        refine wp_region_lit ?_
        refine wl_yield (o := ⟨_, _, _, _, _, _⟩) (.slice (some ⟨gC, oC, none⟩) 5 cap5) (yl_move (by rfl) _ rfl _ rfl) ?_
        simp only [Act.put, lzA, lzB, lzC]
        refine wl_yield (o := ⟨_, _, _, _, _, _⟩) (.int .i64 5) (yt_lenQ (by rfl) _ rfl (some ⟨gC, oC, none⟩) 5 cap5 rfl) ?_
        simp only [Act.put, lzA, lzB, lzC]
        refine wl_yield (o := ⟨_, _, _, _, _, _⟩) (.bool true) (yt_eqlI (by rfl) _ _ _ rfl 5 5 true rfl rfl (by decide)) ?_
        simp only [Act.put, lzA, lzB, lzC]
        refine wl_yield (o := ⟨_, _, _, _, _, _⟩) (.bool true) (yl_move (by rfl) _ rfl _ rfl) ?_
        simp only [Act.put, lzA, lzB, lzC]
        refine wl_yield (o := ⟨_, _, _, _, _, _⟩) (.slice (some ⟨gC, oC, none⟩) 5 cap5) (yl_move (by rfl) _ rfl _ rfl) ?_
        simp only [Act.put, lzA, lzB, lzC]
        refine wl_yield (o := ⟨_, _, _, _, _, _⟩) (.pointer (some ⟨gC, oC + 0 * 4, none⟩)) (yt_atQ (by rfl) _ _ rfl gC oC _ _ 0 rfl rfl (by decide)) ?_
        simp only [Act.put, lzA, lzB, lzC]
        refine wl_yield (o := ⟨_, _, _, _, _, _⟩) (.pointer (some ⟨gC, oC + 0 * 4 + 0, none⟩)) (yt_fSt0 (by rfl) _ rfl gC (oC + 0 * 4) rfl) ?_
        simp only [Act.put, lzA, lzB, lzC]
        refine wl_yield (o := ⟨_, _, _, _, _, _⟩) (.bool true) (yt_ldB (by rfl) _ rfl _ _ rfl _ (fun _ h => by subst h; exact A0)) ?_
        simp only [Act.put, lzA, lzB, lzC]
        refine wl_yield (o := ⟨_, _, _, _, _, _⟩) (.bool true) (yl_pickT (by rfl) _ _ _ rfl rfl _ rfl) ?_
        simp only [Act.put, lzA, lzB, lzC]
        refine wl_yield (o := ⟨_, _, _, _, _, _⟩) (.bool true) (yl_move (by rfl) _ rfl _ rfl) ?_
        simp only [Act.put, lzA, lzB, lzC]
        refine wl_yield (o := ⟨_, _, _, _, _, _⟩) (.slice (some ⟨gC, oC, none⟩) 5 cap5) (yl_move (by rfl) _ rfl _ rfl) ?_
        simp only [Act.put, lzA, lzB, lzC]
        refine wl_yield (o := ⟨_, _, _, _, _, _⟩) (.pointer (some ⟨gC, oC + 2 * 4, none⟩)) (yt_atQ (by rfl) _ _ rfl gC oC _ _ 2 rfl rfl (by decide)) ?_
        simp only [Act.put, lzA, lzB, lzC]
        refine wl_yield (o := ⟨_, _, _, _, _, _⟩) (.pointer (some ⟨gC, oC + 2 * 4 + 1, none⟩)) (yt_fSt1 (by rfl) _ rfl gC (oC + 2 * 4) rfl) ?_
        simp only [Act.put, lzA, lzB, lzC]
        refine wl_yield (o := ⟨_, _, _, _, _, _⟩) (.slice (some ⟨gI, oI, none⟩) 1 cI) (yt_ldLr (by rfl) _ rfl _ _ rfl _ _ _ (fun _ h => by subst h; exact A2)) ?_
        simp only [Act.put, lzA, lzB, lzC]
        refine wl_yield (o := ⟨_, _, _, _, _, _⟩) (.int .i64 1) (yt_lenR (by rfl) _ rfl (some ⟨gI, oI, none⟩) 1 cI rfl) ?_
        simp only [Act.put, lzA, lzB, lzC]
        refine wl_yield (o := ⟨_, _, _, _, _, _⟩) (.bool true) (yt_eqlI (by rfl) _ _ _ rfl 1 1 true rfl rfl (by decide)) ?_
        simp only [Act.put, lzA, lzB, lzC]
        refine wl_yield (o := ⟨_, _, _, _, _, _⟩) (.bool true) (yl_pickT (by rfl) _ _ _ rfl rfl _ rfl) ?_
        simp only [Act.put, lzA, lzB, lzC]
        refine wl_yield (o := ⟨_, _, _, _, _, _⟩) (.bool true) (yl_move (by rfl) _ rfl _ rfl) ?_
        simp only [Act.put, lzA, lzB, lzC]
        refine wl_yield (o := ⟨_, _, _, _, _, _⟩) (.slice (some ⟨gC, oC, none⟩) 5 cap5) (yl_move (by rfl) _ rfl _ rfl) ?_
        simp only [Act.put, lzA, lzB, lzC]
        refine wl_yield (o := ⟨_, _, _, _, _, _⟩) (.pointer (some ⟨gC, oC + 2 * 4, none⟩)) (yt_atQ (by rfl) _ _ rfl gC oC _ _ 2 rfl rfl (by decide)) ?_
        simp only [Act.put, lzA, lzB, lzC]
        refine wl_yield (o := ⟨_, _, _, _, _, _⟩) (.pointer (some ⟨gC, oC + 2 * 4 + 1, none⟩)) (yt_fSt1 (by rfl) _ rfl gC (oC + 2 * 4) rfl) ?_
        simp only [Act.put, lzA, lzB, lzC]
        refine wl_yield (o := ⟨_, _, _, _, _, _⟩) (.slice (some ⟨gI, oI, none⟩) 1 cI) (yt_ldLr (by rfl) _ rfl _ _ rfl _ _ _ (fun _ h => by subst h; exact A2)) ?_
        simp only [Act.put, lzA, lzB, lzC]
        refine wl_yield (o := ⟨_, _, _, _, _, _⟩) (.pointer (some ⟨gI, oI + 0 * 2, none⟩)) (yt_atR (by rfl) _ _ rfl gI oI _ _ 0 rfl rfl (by decide)) ?_
        simp only [Act.put, lzA, lzB, lzC]
        refine wl_yield (o := ⟨_, _, _, _, _, _⟩) (.agg #[.int .i64 1, .int .i64 5]) (yt_ldRg (by rfl) _ rfl _ _ rfl _ _ (fun _ h => by subst h; exact ⟨B0, B1⟩)) ?_
        simp only [Act.put, lzA, lzB, lzC]
        refine wl_yield (o := ⟨_, _, _, _, _, _⟩) (.agg #[.int .i64 1, .int .i64 5]) (yt_buildR (by rfl) _ _ rfl 1 5 rfl rfl) ?_
        simp only [Act.put, lzA, lzB, lzC]
        refine wl_yield (o := ⟨_, _, _, _, _, _⟩) (.bool true) (yq_eqRg (by rfl) _ _ _ rfl 1 5 rfl rfl) ?_
        simp only [Act.put, lzA, lzB, lzC]
        refine wl_yield (o := ⟨_, _, _, _, _, _⟩) (.bool true) (yl_pickT (by rfl) _ _ _ rfl rfl _ rfl) ?_
        simp only [Act.put, lzA, lzB, lzC]
        refine wl_yield (o := ⟨_, _, _, _, _, _⟩) (.bool true) (yl_move (by rfl) _ rfl _ rfl) ?_
        simp only [Act.put, lzA, lzB, lzC]
        refine wl_yield (o := ⟨_, _, _, _, _, _⟩) (.slice (some ⟨gC, oC, none⟩) 5 cap5) (yl_move (by rfl) _ rfl _ rfl) ?_
        simp only [Act.put, lzA, lzB, lzC]
        refine wl_yield (o := ⟨_, _, _, _, _, _⟩) (.pointer (some ⟨gC, oC + 4 * 4, none⟩)) (yt_atQ (by rfl) _ _ rfl gC oC _ _ 4 rfl rfl (by decide)) ?_
        simp only [Act.put, lzA, lzB, lzC]
        refine wl_yield (o := ⟨_, _, _, _, _, _⟩) (.pointer (some ⟨gC, oC + 4 * 4 + 2, none⟩)) (yt_fSt2 (by rfl) _ rfl gC (oC + 4 * 4) rfl) ?_
        simp only [Act.put, lzA, lzB, lzC]
        refine wl_yield (o := ⟨_, _, _, _, _, _⟩) (.bool true) (yt_ldB (by rfl) _ rfl _ _ rfl _ (fun _ h => by subst h; exact A4)) ?_
        simp only [Act.put, lzA, lzB, lzC]
        refine wl_yield (o := ⟨_, _, _, _, _, _⟩) (.bool true) (yl_pickT (by rfl) _ _ _ rfl rfl _ rfl) ?_
        simp only [Act.put, lzA, lzB, lzC]
        refine wl_yield (o := ⟨_, _, _, _, _, _⟩) (.bool true) (yl_move (by rfl) _ rfl _ rfl) ?_
        simp only [Act.put, lzA, lzB, lzC]
        refine wl_yield (o := ⟨_, _, _, _, _, _⟩) (.bool true) (yl_move (by rfl) _ rfl _ rfl) ?_
        simp only [Act.put, lzA, lzB, lzC]
        refine wl_yield (o := ⟨_, _, _, _, _, _⟩) (.bool true) (yl_pickT (by rfl) _ _ _ rfl rfl _ rfl) ?_
        simp only [Act.put, lzA, lzB, lzC]
        refine wl_yield (o := ⟨_, _, _, _, _, _⟩) (.bool true) (yl_move (by rfl) _ rfl _ rfl) ?_
        simp only [Act.put, lzA, lzB, lzC]
        refine wl_yield (o := ⟨_, _, _, _, _, _⟩) (.pointer (some ⟨g6, 2, none⟩)) (yt_fVa2 (by rfl) _ rfl g6 0 rfl) ?_
        simp only [Act.put, lzA, lzB, lzC]
        refine wl_yield (o := ⟨_, _, _, _, _, _⟩) (.string (bs ([126, 49]))) (yt_ldS (by rfl) _ rfl _ _ rfl (bs ([126, 49])) (fun _ h => by subst h; exact cell_heap G6 2)) ?_
        simp only [Act.put, lzA, lzB, lzC]
        refine wl_yield (o := ⟨_, _, _, _, _, _⟩) (.bool true) (yt_eqS (by rfl) _ _ _ rfl ([126, 49]) ([126, 49]) true rfl rfl (by decide)) ?_
        simp only [Act.put, lzA, lzB, lzC]
        refine wl_yield (o := ⟨_, _, _, _, _, _⟩) (.bool true) (yl_pickT (by rfl) _ _ _ rfl rfl _ rfl) ?_
        simp only [Act.put, lzA, lzB, lzC]
        refine wl_yield (o := ⟨_, _, _, _, _, _⟩) (.bool true) (yl_move (by rfl) _ rfl _ rfl) ?_
        simp only [Act.put, lzA, lzB, lzC]
        refine wl_yield (o := ⟨_, _, _, _, _, _⟩) (.slice (some ⟨gC, oC, none⟩) 5 cap5) (yl_move (by rfl) _ rfl _ rfl) ?_
        simp only [Act.put, lzA, lzB, lzC]
        refine wl_yield (o := ⟨_, _, _, _, _, _⟩) (.agg #[.int .i64 1, .int .i64 6, .string ⟨#[]⟩]) (yq_bV2 (by rfl) _ _ rfl 1 6 rfl rfl) ?_
        simp only [Act.put, lzA, lzB, lzC]
        refine wt_call (o := ⟨_, _, _, _, _, _⟩) (by rfl) 10 _ _ rfl #[.slice (some ⟨gC, oC, none⟩) 5 cap5, .agg #[.int .i64 1, .int .i64 6, .string ⟨#[]⟩]] rfl (run_call Tryz.func10 (by kernel_rfl) (by kernel_rfl)) ?_
        refine (which_any _ c5 (1, 6, noS) _ (HS.on (below_none D2)) fit_5 (by decide)).mono ?_
        rintro r v9 (⟨rfl, kb⟩)
        · replace D := grown_below D kb
          replace HE := HE.on kb
          replace G1 := heap_on G1 kb
          replace G2 := heap_on G2 kb
          replace D2 := grown_below D2 kb
          replace G4 := heap_on G4 kb
          replace G6 := heap_on G6 kb
          replace OK := OK.on kb
          clear kb
          refine Or.inl ⟨.int .i64 3, ret_int which_6, ?_⟩
          simp only [Act.put, lzA, lzB, lzC]
          refine wl_yield (o := ⟨_, _, _, _, _, _⟩) (.bool true) (yt_eqlI (by rfl) _ _ _ rfl 3 3 true rfl rfl (by decide)) ?_
          simp only [Act.put, lzA, lzB, lzC]
          refine wl_yield (o := ⟨_, _, _, _, _, _⟩) (.bool true) (yl_pickT (by rfl) _ _ _ rfl rfl _ rfl) ?_
          simp only [Act.put, lzA, lzB, lzC]
          refine wl_yield (o := ⟨_, _, _, _, _, _⟩) (.bool true) (yl_move (by rfl) _ rfl _ rfl) ?_
          simp only [Act.put, lzA, lzB, lzC]
          refine wl_yield (o := ⟨_, _, _, _, _, _⟩) (.slice (some ⟨gC, oC, none⟩) 5 cap5) (yl_move (by rfl) _ rfl _ rfl) ?_
          simp only [Act.put, lzA, lzB, lzC]
          refine wl_yield (o := ⟨_, _, _, _, _, _⟩) (.agg #[.int .i64 7, .int .i64 0, .string ⟨#[]⟩]) (yq_bV1 (by rfl) _ rfl 7 rfl) ?_
          simp only [Act.put, lzA, lzB, lzC]
          refine wt_call (o := ⟨_, _, _, _, _, _⟩) (by rfl) 10 _ _ rfl #[.slice (some ⟨gC, oC, none⟩) 5 cap5, .agg #[.int .i64 7, .int .i64 0, .string ⟨#[]⟩]] rfl (run_call Tryz.func10 (by kernel_rfl) (by kernel_rfl)) ?_
          refine (which_any _ c5 (7, 0, noS) _ (HS.on (below_none D2)) fit_5 (by decide)).mono ?_
          rintro r v10 (⟨rfl, kb⟩)
          · replace D := grown_below D kb
            replace HE := HE.on kb
            replace G1 := heap_on G1 kb
            replace G2 := heap_on G2 kb
            replace D2 := grown_below D2 kb
            replace G4 := heap_on G4 kb
            replace G6 := heap_on G6 kb
            replace OK := OK.on kb
            clear kb
            refine Or.inl ⟨.int .i64 (-1), ret_int which_7, ?_⟩
            simp only [Act.put, lzA, lzB, lzC]
            refine wl_yield (o := ⟨_, _, _, _, _, _⟩) (.bool true) (yt_eqlI (by rfl) _ _ _ rfl (-1) (-1) true rfl rfl (by decide)) ?_
            simp only [Act.put, lzA, lzB, lzC]
            refine wl_yield (o := ⟨_, _, _, _, _, _⟩) (.bool true) (yl_pickT (by rfl) _ _ _ rfl rfl _ rfl) ?_
            simp only [Act.put, lzA, lzB, lzC]
            refine wl_yield (o := ⟨_, _, _, _, _, _⟩) (.bool true) (yl_move (by rfl) _ rfl _ rfl) ?_
            simp only [Act.put, lzA, lzB, lzC]
            refine wl_yield (o := ⟨_, _, _, _, _, _⟩) (.pointer (some ⟨b9, 0, none⟩)) (yl_move (by rfl) _ rfl _ rfl) ?_
            simp only [Act.put, lzA, lzB, lzC]
            refine wt_call (o := ⟨_, _, _, _, _, _⟩) (by rfl) 11 _ _ rfl #[.pointer (some ⟨b9, 0, none⟩)] rfl (run_call Tryz.func11 (by kernel_rfl) (by kernel_rfl)) ?_
            refine (count_any b9 (fun _ => []) _ OK (fun _ _ => few_0)).mono ?_
            rintro r v11 (⟨rfl, ok, kg⟩)
            · replace D := gr_new D hgb kg
              clear OK HS HE D2
              have OK := ok
              clear ok kg
              refine Or.inl ⟨.int .i64 81, ret_int cnt_81, ?_⟩
              simp only [Act.put, lzA, lzB, lzC]
              refine wl_yield (o := ⟨_, _, _, _, _, _⟩) (.bool true) (yt_eqlI (by rfl) _ _ _ rfl 81 81 true rfl rfl (by decide)) ?_
              simp only [Act.put, lzA, lzB, lzC]
              refine wl_yield (o := ⟨_, _, _, _, _, _⟩) (.bool true) (yl_pickT (by rfl) _ _ _ rfl rfl _ rfl) ?_
              simp only [Act.put, lzA, lzB, lzC]
              refine wl_yield (o := ⟨_, _, _, _, _, _⟩) (.bool true) (yl_move (by rfl) _ rfl _ rfl) ?_
              simp only [Act.put, lzA, lzB, lzC]
              refine wl_yield (o := ⟨_, _, _, _, _, _⟩) (.pointer (some ⟨b9, 0, none⟩)) (yl_move (by rfl) _ rfl _ rfl) ?_
              simp only [Act.put, lzA, lzB, lzC]
              refine wt_call (o := ⟨_, _, _, _, _, _⟩) (by rfl) 9 _ _ rfl #[.pointer (some ⟨b9, 0, none⟩), .int .i64 0] rfl (run_call Tryz.func9 (by kernel_rfl) (by kernel_rfl)) ?_
              refine (attr_any b9 0 (by decide) (fun _ => []) _ OK (fun _ _ => few_0)).mono ?_
              rintro r v12 (⟨⟨u9, rfl, HC9⟩, ok, kg⟩)
              · replace D := gr_new D hgb kg
                obtain ⟨q9, rfl, hq9⟩ := HC9.form
                rw [cutL_0] at hq9
                clear OK ok kg
                refine Or.inl ⟨Sl.val q9, rfl, ?_⟩
                simp only [Act.put, lzA, lzB, lzC]
                refine wl_yield (o := ⟨_, _, _, _, _, _⟩) (.int .i64 (q9.n : Nat)) (yt_lenQ (by rfl) _ rfl q9.p q9.n q9.c rfl) ?_
                simp only [Act.put, lzA, lzB, lzC]
                refine wl_yield (o := ⟨_, _, _, _, _, _⟩) (.bool true) (yt_eqlI (by rfl) _ _ _ rfl ((q9.n : Nat) : Int) 3 true rfl rfl (by rw [hq9]; decide)) ?_
                simp only [Act.put, lzA, lzB, lzC]
                refine wl_yield (o := ⟨_, _, _, _, _, _⟩) (.bool true) (yl_pickT (by rfl) _ _ _ rfl rfl _ rfl) ?_
                simp only [Act.put, lzA, lzB, lzC]
                refine wl_yield (o := ⟨_, _, _, _, _, _⟩) (.bool true) (yl_assign (by rfl) _ rfl _ rfl) ?_
                simp only [Act.put, lzA, lzB, lzC]
                refine wpList_nil ?_
                refine hK5 _ _ ?_
                clear hK5 K5
                refine wp_ret ?_
                try simp only [Exit.inBlock, Exit.then]
                go_ret
                exact ⟨rfl, below_none D⟩
end Go.Proofs.YtbaijjclofekcaaGreatDoor
namespace Go.Proofs.YtbaijjclofekcaaGreatDoor
open Go.RowKit
attribute [local go_sem ↓] Go.wp_at_zero Go.wp_at_succ
theorem conv_one (W : World) (g : Nat) (c : UInt8) (h : W.cell? ⟨g, 0, none⟩ = some (.int .u8 (c.toNat : Int))) : (convert 127 9 (.slice (some ⟨g, 0, none⟩) 1 1)).run Tryz.prog W = .ok (.string ⟨#[c]⟩) W := by
  refine run_convert_bytes_back (P := Tryz.prog) W 127 9 5 ⟨g, 0, none⟩ 1 [c] Tryz.underlying127 Tryz.underlying5 Tryz.underlying9 (fun j hj => ?_)
  match j, hj with
  | 0, _ => simpa [Addr.add] using h
set_option maxHeartbeats 1000000 in
set_option maxRecDepth 100000 in
theorem digits_any (u : Nat) : ∀ (w : World), u < 18446744073709551616 →
    Calls Tryz.prog 76 #[.int .u64 (u : Int)] w fun e w' => e = .returned (.string ⟨(Lib.decDigits u).toArray⟩) ∧ Below w.heap.size w w' := by
  induction u using Nat.strongRecOn with
  | _ u ih =>
    intro w hu
    by_cases h10 : u < 10
    · have hd := Lib.decDigits_one h10
      have h10' : (u : Int) < 10 := by omega
      have hr := one_dig u h10
      generalize UInt8.ofNat (48 + u) = c at *
      have hcv : ∀ (W : World) (g : Nat), W.cell? ⟨g, 0, none⟩ = some (.int .u8 (48 + (u : Int))) → (convert 127 9 (.slice (some ⟨g, 0, none⟩) 1 1)).run Tryz.prog W = .ok (.string ⟨#[c]⟩) W := fun W g h => conv_one W g c (by rw [h, hr])
      clear hr
      have Hd := hide hd
      clear ih hd
      go_enter Tryz.func76, Tryz.ntmps76
      go_wp2
      go_ret
      exact ⟨ret_str (by rw [Hd.out]), (Below.refl _ _).alloc (Nat.le_refl _) _⟩
    · have h10' : ¬ (u : Int) < 10 := by omega
      have hd : Lib.decDigits u = Lib.decDigits (u / 10) ++ [UInt8.ofNat (48 + u % 10)] := by rw [Lib.decDigits, dif_neg h10]
      have IH : ∀ W : World, Hid (Calls Tryz.prog 76 #[.int .u64 ((u : Int) / 10)] W fun e w' => e = .returned (.string ⟨(Lib.decDigits (u / 10)).toArray⟩) ∧ Below W.heap.size W w') := fun W => hide (by
        have h := ih (u / 10) (by omega) W (by omega)
        rw [show ((u / 10 : Nat) : Int) = (u : Int) / 10 by omega] at h
        exact h)
      have hq : IntKind.u64.wrap ((u : Int) / 10) = (u : Int) / 10 := by rw [IntKind.wrap_u64]; omega
      have hr := last_dig u hu
      have hn := dec_short (u / 10) (by omega)
      generalize UInt8.ofNat (48 + u % 10) = c at *
      generalize Lib.decDigits (u / 10) = D at *
      have hcv := fun (W : World) (g : Nat) => conv_one W g c
      have Hd := hide hd
      clear ih hd
      go_enter Tryz.func76, Tryz.ntmps76
      go_wp2
      go_region_with (go_at_call 76; refine (unhide (IH _)).mono ?_; rintro e w1 ⟨rfl, hb1⟩; obtain ⟨hc, hf⟩ := bcell hb1)
      all_goals
        go_wp2
        go_ret
        refine ⟨ret_str (by rw [Hd.out]; exact mk_append D [c]), ?_⟩
      all_goals first
        | exact (below_undrew hb1).alloc (below_undrew hb1).size _
        | exact below_undrew (below_alloc hb1)
set_option maxHeartbeats 1000000 in
set_option maxRecDepth 100000 in
theorem decimal_any (n : Int) (h0 : -9223372036854775808 ≤ n) (h1 : n ≤ 9223372036854775807) (w : World) :
    Calls Tryz.prog 58 #[.int .i64 n] w fun e w' => e = .returned (.string ⟨(Lib.itoa n).toArray⟩) ∧ Below w.heap.size w w' := by
  by_cases hn : n < 0
  · obtain ⟨u, rfl⟩ : ∃ u : Nat, n = -(u : Int) := ⟨n.natAbs, by omega⟩
    have Hd := hide (Lib.itoa_neg u (by omega))
    have hl := dec_short u (by omega)
    have HD := fun (W : World) => hide (digits_any u W (by omega))
    generalize Lib.decDigits u = D at *
    go_enter Tryz.func58, Tryz.ntmps58
    go_wp2_with fail
    rw [show -(-(u : Int) + 1) + 1 = (u : Int) by omega]
    refine (unhide (HD _)).mono ?_
    rintro e w1 ⟨rfl, hb1⟩
    go_wp2
    go_ret
    exact ⟨ret_str (by rw [Hd.out]; exact mk_append [45] D), hb1⟩
  · obtain ⟨u, rfl⟩ : ∃ u : Nat, n = (u : Int) := ⟨n.toNat, by omega⟩
    have Hd := hide (Lib.itoa_nonneg u)
    have HD := fun (W : World) => hide (digits_any u W (by omega))
    generalize Lib.decDigits u = D at *
    go_enter Tryz.func58, Tryz.ntmps58
    go_wp2_with (go_at_call 76; refine (unhide (HD _)).mono ?_; rintro e w1 ⟨rfl, hb1⟩)
    go_ret
    exact ⟨ret_str (by rw [Hd.out]), hb1⟩
end Go.Proofs.YtbaijjclofekcaaGreatDoor
namespace Go.Proofs.YtbaijjclofekcaaGreatDoor
open Go.RowKit
section
variable {ops : Array Oper} {S : World → Prop} {o : Oper} {a : Act}
end
set_option maxHeartbeats 4000000 in
set_option maxRecDepth 100000 in
theorem refEmpty3_any (v : Value) (S : SetV) (w : World) (hv : SetAt w v S) : Calls Tryz.prog 56 #[v] w fun r w' => r = .returned (.bool (emptyB S)) ∧ Below w.heap.size w w' := by
  obtain ⟨vi, vs, rfl, hI, hS⟩ := hv
  obtain ⟨ai, ci, rfl⟩ := hI.form
  obtain ⟨as', cs', rfl⟩ := hS.form
  obtain ⟨A, I, C, T⟩ := S
  dsimp only at *
  have b1 := hI.room.1
  have hIl : I.length ≤ 9223372036854775807 := hI.2.1
  have hSl : T.length ≤ 9223372036854775807 := hS.2.1
  clear hI hS b1
  have hE : emptyB ⟨A, I, C, T⟩ = (!A && (decide ((I.length : Int) = 0) && (!C && decide ((T.length : Int) = 0)))) := by
    rw [Bool.eq_iff_iff, empty_iff]
    cases A <;> cases C <;> cases I <;> cases T <;> simp [noSet] <;> omega
  rw [hE]
  clear hE
  generalize (I.length : Nat) = m at *
  generalize (T.length : Nat) = n at *
  cases A
  · by_cases h1 : (m : Int) = 0
    · cases C
      · by_cases h2 : (n : Int) = 0
        · go_enter Tryz.func56, Tryz.ntmps56
          go_wp2
          go_ret
          refine ⟨?_, (Below.refl _ _).alloc (Nat.le_refl _) _⟩
          have e0 : m = 0 := by omega
          have e1 : n = 0 := by omega
          first | rfl | simp [e0, e1]
        · go_enter Tryz.func56, Tryz.ntmps56
          go_wp2
          go_ret
          refine ⟨?_, (Below.refl _ _).alloc (Nat.le_refl _) _⟩
          have e0 : m = 0 := by omega
          have e1 : ¬ n = 0 := by omega
          first | rfl | simp [e0, e1]
      · go_enter Tryz.func56, Tryz.ntmps56
        go_wp2
        go_ret
        refine ⟨?_, (Below.refl _ _).alloc (Nat.le_refl _) _⟩
        have e0 : m = 0 := by omega
        first | rfl | simp [e0]
    · go_enter Tryz.func56, Tryz.ntmps56
      go_wp2
      go_ret
      refine ⟨?_, (Below.refl _ _).alloc (Nat.le_refl _) _⟩
      have e0 : ¬ m = 0 := by omega
      first | rfl | simp [e0]
  · go_enter Tryz.func56, Tryz.ntmps56
    go_wp2
    go_ret
    refine ⟨?_, (Below.refl _ _).alloc (Nat.le_refl _) _⟩
    first | rfl | simp
end Go.Proofs.YtbaijjclofekcaaGreatDoor
namespace Go.Proofs.YtbaijjclofekcaaGreatDoor
open Go.RowKit
def min2 (x y : Int) : Int := if y < x then y else x
def stepR1 (lo hi : Int) (r : Rg) : Int := if lo < r.1 then min2 hi (r.1 - 1) else hi
def stepR (lo hi : Int) (r : Rg) : Int := if lo ≤ r.2 then min2 (stepR1 lo hi r) r.2 else stepR1 lo hi r
def nextR (lo : Int) (R : List Rg) : Int := R.foldl (stepR lo) 9223372036854775807
theorem fold_snoc {α β : Type} (f : β → α → β) (x : β) (R M : List α) (d : α) {k : Nat} (h : k < M.length) : (R ++ M.take (k + 1)).foldl f x = f ((R ++ M.take k).foldl f x) (M.getD k d) := by
  rw [List.take_succ_eq_append_getElem h, ← List.append_assoc, List.foldl_append, List.getD_eq_getElem?_getD, List.getElem?_eq_getElem h]
  rfl
theorem stepR_le (lo hi : Int) (r : Rg) : stepR lo hi r ≤ hi ∧ (lo < r.1 → stepR lo hi r ≤ r.1 - 1) ∧ (lo ≤ r.2 → stepR lo hi r ≤ r.2) := by
  unfold stepR stepR1 min2
  refine ⟨?_, fun h => ?_, fun h => ?_⟩ <;> (repeat' split) <;> omega
theorem stepR_is (lo hi : Int) (r : Rg) : stepR lo hi r = hi ∨ (lo < r.1 ∧ stepR lo hi r = r.1 - 1) ∨ (lo ≤ r.2 ∧ stepR lo hi r = r.2) := by
  unfold stepR stepR1 min2
  (repeat' split) <;> omega
theorem foldR_le (lo : Int) : ∀ (R : List Rg) (hi : Int), R.foldl (stepR lo) hi ≤ hi ∧ ∀ r ∈ R, (lo < r.1 → R.foldl (stepR lo) hi ≤ r.1 - 1) ∧ (lo ≤ r.2 → R.foldl (stepR lo) hi ≤ r.2)
  | [], hi => ⟨Int.le_refl _, fun r h => by cases h⟩
  | a :: R, hi => by
    obtain ⟨h1, h2⟩ := foldR_le lo R (stepR lo hi a)
    obtain ⟨s1, s2, s3⟩ := stepR_le lo hi a
    rw [List.foldl_cons]
    refine ⟨Int.le_trans h1 s1, fun r hr => ?_⟩
    rcases List.mem_cons.1 hr with rfl | hr
    · exact ⟨fun h => Int.le_trans h1 (s2 h), fun h => Int.le_trans h1 (s3 h)⟩
    · exact h2 r hr
theorem foldR_is (lo : Int) : ∀ (R : List Rg) (hi : Int), R.foldl (stepR lo) hi = hi ∨ ∃ r ∈ R, (lo < r.1 ∧ R.foldl (stepR lo) hi = r.1 - 1) ∨ (lo ≤ r.2 ∧ R.foldl (stepR lo) hi = r.2)
  | [], hi => Or.inl rfl
  | a :: R, hi => by
    rw [List.foldl_cons]
    rcases foldR_is lo R (stepR lo hi a) with h | ⟨r, hr, h⟩
    · rcases stepR_is lo hi a with e | e | e
      · exact Or.inl (h.trans e)
      · exact Or.inr ⟨a, List.mem_cons_self, Or.inl ⟨e.1, h.trans e.2⟩⟩
      · exact Or.inr ⟨a, List.mem_cons_self, Or.inr ⟨e.1, h.trans e.2⟩⟩
    · exact Or.inr ⟨r, List.mem_cons_of_mem _ hr, h⟩
theorem begs_gap {B : List Int} (h : risesI B) {k : Nat} (hk : k < B.length) {x : Int} (hx : x ∈ B) (hlt : B.getD k 0 < x) : k + 1 < B.length ∧ B.getD (k + 1) 0 ≤ x := by
  obtain ⟨i, hi, e⟩ := mem_getD 0 hx
  have hki : k < i := by
    rcases Nat.lt_trichotomy k i with h1 | h1 | h1
    · exact h1
    · subst h1; omega
    · have := risesI_lt h i k h1 hk; omega
  refine ⟨by omega, ?_⟩
  by_cases e1 : i = k + 1
  · subst e1; omega
  · have := risesI_lt h (k + 1) i (by omega) hi; omega
theorem next_hi {R : List Rg} {B : List Int} (hb : Begs R B) (hR : inI64 R) {k : Nat} (hk : k < B.length) : nextR (B.getD k 0) R = hiAt B k := by
  obtain ⟨f1, f2⟩ := foldR_le (B.getD k 0) R 9223372036854775807
  have f3 := foldR_is (B.getD k 0) R 9223372036854775807
  have hlo := (begL_in hR ((hb.mem _).1 (gD_mem (d := 0) hk))).1
  have gap : ∀ r ∈ R, (B.getD k 0 < r.1 → k + 1 < B.length ∧ B.getD (k + 1) 0 ≤ r.1) ∧ (B.getD k 0 ≤ r.2 → r.2 < 9223372036854775807 → k + 1 < B.length ∧ B.getD (k + 1) 0 ≤ r.2 + 1) := fun r hr =>
    ⟨fun h => begs_gap hb.up hk ((hb.mem _).2 (mem_begL.2 (Or.inr ⟨r, hr, Or.inl rfl⟩))) h, fun h h2 => begs_gap hb.up hk ((hb.mem _).2 (mem_begL.2 (Or.inr ⟨r, hr, Or.inr ⟨h2, rfl⟩⟩))) (by omega)⟩
  unfold nextR hiAt
  by_cases h1 : k + 1 < B.length
  · rw [if_pos h1]
    have hlt := risesI_lt hb.up k (k + 1) (by omega) h1
    have hm := (hb.mem _).1 (gD_mem (d := 0) h1)
    have hin := begL_in hR hm
    refine Int.le_antisymm ?_ ?_
    · rcases mem_begL.1 hm with e | ⟨r, hr, e | ⟨h2, e⟩⟩
      · omega
      · have := (f2 r hr).1 (by omega); omega
      · have := (f2 r hr).2 (by omega); omega
    · rcases f3 with e | ⟨r, hr, ⟨h2, e⟩ | ⟨h2, e⟩⟩
      · omega
      · have := ((gap r hr).1 h2).2; omega
      · by_cases h3 : r.2 < 9223372036854775807
        · have := ((gap r hr).2 h2 h3).2; omega
        · omega
  · rw [if_neg h1]
    rcases f3 with e | ⟨r, hr, ⟨h2, e⟩ | ⟨h2, e⟩⟩
    · exact e
    · exact absurd ((gap r hr).1 h2).1 h1
    · by_cases h3 : r.2 < 9223372036854775807
      · exact absurd ((gap r hr).2 h2 h3).1 h1
      · have := hR r hr; omega
def lateS (M : List ByteArray) (s : ByteArray) : Bool := M.isEmpty || Op.bytesLess (M.getD (M.length - 1) ⟨#[]⟩).toList s.toList
def befS (b : Option ByteArray) (s : ByteArray) : Bool := match b with
  | none => true
  | some t => Op.bytesLess s.toList t.toList
def stepS (M : List ByteArray) (b : Option ByteArray) (s : ByteArray) : Option ByteArray := if (lateS M s && befS b s) = true then some s else b
def nextS (M : List ByteArray) (l : List ByteArray) : Option ByteArray := l.foldl (stepS M) none
theorem foldS_is (M : List ByteArray) : ∀ (l : List ByteArray) (b : Option ByteArray),
    (∀ t, l.foldl (stepS M) b = some t → (b = some t ∨ (t ∈ l ∧ lateS M t = true)) ∧ (∀ s ∈ l, lateS M s = true → Op.bytesLess s.toList t.toList = false) ∧ (∀ u, b = some u → Op.bytesLess u.toList t.toList = false))
    ∧ (l.foldl (stepS M) b = none → b = none ∧ ∀ s ∈ l, lateS M s = false)
  | [], b => ⟨fun t h => ⟨Or.inl h, fun s hs => (by cases hs), fun u hu => by
      have h' : b = some t := h
      rw [hu] at h'; cases h'; exact lessB_irrefl _⟩, fun h => ⟨h, fun s hs => by cases hs⟩⟩
  | a :: l, b => by
    obtain ⟨i1, i2⟩ := foldS_is M l (stepS M b a)
    rw [List.foldl_cons]
    refine ⟨fun t ht => ?_, fun hn => ?_⟩
    · obtain ⟨j1, j2, j3⟩ := i1 t ht
      by_cases c : (lateS M a && befS b a) = true
      · have e : stepS M b a = some a := if_pos c
        rw [Bool.and_eq_true] at c
        refine ⟨?_, fun s hs hl => ?_, fun u hu => ?_⟩
        · rw [e] at j1
          rcases j1 with h | h
          · cases h; exact Or.inr ⟨List.mem_cons_self, c.1⟩
          · exact Or.inr ⟨List.mem_cons_of_mem _ h.1, h.2⟩
        · rcases List.mem_cons.1 hs with rfl | hs
          · exact j3 _ e
          · exact j2 s hs hl
        · subst hu
          have h1 : Op.bytesLess a.toList u.toList = true := c.2
          have h2 := j3 a e
          cases h3 : Op.bytesLess u.toList t.toList with
          | false => rfl
          | true => rw [lessB_trans _ _ _ h1 h3] at h2; cases h2
      · have e : stepS M b a = b := if_neg c
        rw [e] at j1 j3
        refine ⟨?_, fun s hs hl => ?_, j3⟩
        · rcases j1 with h | h
          · exact Or.inl h
          · exact Or.inr ⟨List.mem_cons_of_mem _ h.1, h.2⟩
        · rcases List.mem_cons.1 hs with rfl | hs
          · have c' : befS b s = false := by simpa [hl] using c
            cases b with
            | none => cases c'
            | some u =>
              have h1 : Op.bytesLess s.toList u.toList = false := c'
              have h2 := j3 u rfl
              cases h3 : Op.bytesLess s.toList t.toList with
              | false => rfl
              | true =>
                rcases lessB_tri u.toList t.toList with h | h | h
                · rw [h] at h2; cases h2
                · rw [h] at h1; rw [h1] at h3; cases h3
                · rw [lessB_trans _ _ _ h3 h] at h1; cases h1
          · exact j2 s hs hl
    · obtain ⟨j1, j2⟩ := i2 hn
      by_cases c : (lateS M a && befS b a) = true
      · rw [stepS, if_pos c] at j1; cases j1
      · rw [stepS, if_neg c] at j1
        refine ⟨j1, fun s hs => ?_⟩
        rcases List.mem_cons.1 hs with rfl | hs
        · subst j1
          have : befS none s = true := rfl
          simpa [this] using c
        · exact j2 s hs
theorem risesS_lt : ∀ {l : List ByteArray}, risesS (l.map fun b => b.toList) → ∀ i j, i < j → j < l.length → Op.bytesLess (l.getD i ⟨#[]⟩).toList (l.getD j ⟨#[]⟩).toList = true
  | [], _, i, j, _, hj => absurd hj (Nat.not_lt_zero _)
  | a :: l, h, 0, j + 1, _, hj => by
    rw [List.getD_cons_zero, List.getD_cons_succ]
    exact h.1 _ (List.mem_map.2 ⟨_, gD_mem (by simpa using hj), rfl⟩)
  | a :: l, h, i + 1, j + 1, hij, hj => by
    rw [List.getD_cons_succ, List.getD_cons_succ]
    exact risesS_lt h.2 i j (by omega) (by simpa using hj)
theorem late_at {N : List ByteArray} (h : risesS (N.map fun b => b.toList)) {m i : Nat} (hm : m ≤ N.length) (hi : i < N.length) : lateS (N.take m) (N.getD i ⟨#[]⟩) = decide (m ≤ i) := by
  unfold lateS
  by_cases h0 : m = 0
  · subst h0; simp
  · have hl : (N.take m).length = m := by rw [List.length_take]; omega
    have hne : (N.take m).isEmpty = false := by cases hN : N.take m with
      | nil => rw [hN] at hl; simp at hl; omega
      | cons _ _ => rfl
    rw [hne, Bool.false_or, hl]
    have e : (N.take m).getD (m - 1) ⟨#[]⟩ = N.getD (m - 1) ⟨#[]⟩ := by
      rw [List.getD_eq_getElem?_getD, List.getD_eq_getElem?_getD, List.getElem?_take_of_lt (by omega)]
    rw [e]
    by_cases c : m ≤ i
    · rw [decide_eq_true c]; exact risesS_lt h (m - 1) i (by omega) hi
    · rw [decide_eq_false c]
      cases hc : Op.bytesLess (N.getD (m - 1) ⟨#[]⟩).toList (N.getD i ⟨#[]⟩).toList with
      | false => rfl
      | true =>
        by_cases e1 : i = m - 1
        · rw [e1, lessB_irrefl] at hc; cases hc
        · have := lessB_trans _ _ _ hc (risesS_lt h i (m - 1) (by omega) (by omega))
          rw [lessB_irrefl] at this; cases this
theorem next_name {S N : List ByteArray} (h : Nams S N) {m : Nat} (hm : m ≤ N.length) : nextS (N.take m) S = if m < N.length then some (N.getD m ⟨#[]⟩) else none := by
  obtain ⟨f1, f2⟩ := foldS_is (N.take m) S none
  cases hn : nextS (N.take m) S with
  | none =>
    by_cases c : m < N.length
    · have h1 := (f2 hn).2 (N.getD m ⟨#[]⟩) ((h.mem _).1 (gD_mem c))
      rw [late_at h.up hm c, decide_eq_true (Nat.le_refl _)] at h1; cases h1
    · rw [if_neg c]
  | some t =>
    obtain ⟨g1, g2, _⟩ := f1 t hn
    rcases g1 with e | ⟨ht, hl⟩
    · cases e
    · obtain ⟨i, hi, e⟩ := mem_getD ⟨#[]⟩ ((h.mem _).2 ht)
      subst e
      rw [late_at h.up hm hi] at hl
      have hmi := of_decide_eq_true hl
      rw [if_pos (by omega)]
      by_cases e1 : i = m
      · rw [e1]
      · have hc : m < N.length := by omega
        have h1 := g2 (N.getD m ⟨#[]⟩) ((h.mem _).1 (gD_mem hc)) (by rw [late_at h.up hm hc]; exact decide_eq_true (Nat.le_refl _))
        rw [risesS_lt h.up m i (by omega) hi] at h1; cases h1
section
variable {ops : Array Oper} {S : World → Prop} {o : Oper} {a : Act}
theorem yt_minI (hw : Region.wanted o (yielded ops a.tmps) = true) (x y : Operand) (ho : o.op = .call { callee := .builtin .min, args := #[x, y], argTypes := #[3, 3] }) (p q : Int) (hx : a.eval x = .int .i64 p) (hy : a.eval y = .int .i64 q) : YieldsIf Tryz.prog ops S o (.int .i64 (min2 p q)) a :=
  Or.inl ⟨hw, fun w hS => by
    unfold execOp min2
    simp only [ho, resolve, invoke, builtin, Sem.run_bind, Sem.run_pure, Result.andThen_ok, List.map_toArray, List.map_cons, List.map_nil, hx, hy]
    go_simp
    all_goals (rw [Int.min_def]; split <;> split <;> omega)⟩
theorem yt_lssBA (hw : Region.wanted o (yielded ops a.tmps) = true) (x y : Operand) (t : TypeId) (ho : o.op = .binOp .lss 9 x y t) (p q : ByteArray) (r : Bool) (hx : a.eval x = .string p) (hy : a.eval y = .string q) (hr : Op.bytesLess p.toList q.toList = r) : YieldsIf Tryz.prog ops S o (.bool r) a :=
  Or.inl ⟨hw, fun w hS => by
    subst hr
    simp only [execOp, ho, hx, hy]
    go_simp⟩
theorem yt_gtrBA (hw : Region.wanted o (yielded ops a.tmps) = true) (x y : Operand) (t : TypeId) (ho : o.op = .binOp .gtr 9 x y t) (p q : ByteArray) (r : Bool) (hx : a.eval x = .string p) (hy : a.eval y = .string q) (hr : Op.bytesLess q.toList p.toList = r) : YieldsIf Tryz.prog ops S o (.bool r) a :=
  Or.inl ⟨hw, fun w hS => by
    have hr' : (!(Op.bytesLess p.toList q.toList || p.toList == q.toList)) = r := by
      rw [← hr]
      rcases lessB_tri p.toList q.toList with h | h | h
      · rw [h]
        cases h2 : Op.bytesLess q.toList p.toList with
        | false => rfl
        | true => have := lessB_trans _ _ _ h h2; rw [lessB_irrefl] at this; cases this
      · rw [h, lessB_irrefl]; simp
      · rw [h]
        cases h2 : Op.bytesLess p.toList q.toList with
        | true => have := lessB_trans _ _ _ h h2; rw [lessB_irrefl] at this; cases this
        | false =>
          have : (p.toList == q.toList) = false := by
            cases h3 : p.toList == q.toList with
            | false => rfl
            | true => rw [eq_of_beq h3, lessB_irrefl] at h; cases h
          rw [this]; rfl
    simp only [execOp, ho, hx, hy]
    go_simp
    all_goals (first | exact hr' | simpa using hr')⟩
end
end Go.Proofs.YtbaijjclofekcaaGreatDoor
namespace Go.Proofs.YtbaijjclofekcaaGreatDoor
open Go.RowKit
theorem run_appU9 (w : World) (B ty : Nat) (v : Value) (cs : List SC) (hown : OwnU w B v cs) (g : Nat) (d : SC) (hd : StIn w g d) (hn : cs.length ≤ 100000) (hB : B ≤ w.heap.size) :
    ∃ v' w', (Builtin.append_ #[31, 31] ty #[v, .slice (some ⟨g, 0, none⟩) 1 1]).run Tryz.prog w = .ok v' w' ∧ OwnU w' B v' (cs ++ [d]) ∧ Asd v.ownBlock B w w' ∧ (∀ k, v'.ownBlock = some k → some k = v.ownBlock ∨ w.heap.size ≤ k) := by
  obtain ⟨i0, hi, hz0, hz1, hz2⟩ := info_parts cInfoT
  have hnews : ∀ j u, d.lst[j]? = some u → w.cell? ((⟨g, 0, none⟩ : Addr).add j) = some u := fun j u hu => by rw [Addr.add_mid]; exact hd.range j u hu
  obtain ⟨v', w', hr, ho, hg, _⟩ := run_append_own (P := Tryz.prog) w B 31 ty 43 i0 _ 4 64 Tryz.underlying31 hi hz0 hz1 hz2 rfl (by decide) v cs.length (scCells cs) hown.own ⟨g, 0, none⟩ 1 1 d.lst (by rw [SC.lst_len]) hnews d.lst_one (by unfold maxLen; omega) (by omega) hB
  have hO : OwnT w' B v' (cs ++ [d]) := by
    show w'.ownsRow B 43 4 v' (cs ++ [d]).length (scCells (cs ++ [d]))
    rw [scCells_append, List.length_append]
    have : scCells [d] = d.lst := by unfold scCells; simp
    rw [this]
    exact ho
  have hA : Asd v.ownBlock B w w' := ⟨(Below.refl _ _).grown hg hB (fun k hk => (World.ownsRow.lt hown.own k hk).1), hg.size, fun k hk hne => hg.block k hk hne⟩
  rcases hown.own.2 with ⟨rfl, hlen⟩ | ⟨g0, cap, cur, rfl, hbg, hgc, hnc, hcm, hcs, htake⟩
  · have hr2 := run_append_nil (P := Tryz.prog) w 31 ty 43 i0 _ Tryz.underlying31 hi hz0 ⟨g, 0, none⟩ 1 1 d.lst (by rw [SC.lst_len, hz1]) hnews (by omega) (by omega) (by rw [hz2]; omega)
    rw [hr] at hr2
    injection hr2 with e1 e2
    refine ⟨v', w', hr, ⟨hO, fun k hk => ?_⟩, hA, fun k hk => ?_⟩
    · rw [e1] at hk
      obtain rfl : w.heap.size = k := Option.some.inj hk
      refine ⟨_, by rw [e2]; exact heap_new w.drew _, fun x hx => ?_⟩
      rw [Array.toList_append, List.mem_append] at hx
      rcases hx with hx | hx
      · exact plq_list d x (by simpa using hx)
      · exact plq_zero _ x hx
    · rw [e1] at hk
      obtain rfl : w.heap.size = k := Option.some.inj hk
      exact Or.inr (Nat.le_refl _)
  · by_cases hroom : cs.length + 1 ≤ cap
    · have hr2 := run_append_room (P := Tryz.prog) w 31 ty 43 i0 Tryz.underlying31 hi g0 cs.length cap cur hgc ⟨g, 0, none⟩ 1 1 d.lst (by rw [SC.lst_len, hz1]) hnews d.lst_one hroom (by rw [SC.lst_len, hz1, hcs]; omega)
      rw [hr] at hr2
      injection hr2 with e1 e2
      obtain ⟨cur0, p1, p2⟩ := hown.pl g0 rfl
      rw [hgc] at p1
      injection p1 with p1
      injection p1 with p1 _ _
      subst p1
      refine ⟨v', w', hr, ⟨hO, fun k hk => ?_⟩, hA, fun k hk => ?_⟩
      · rw [e1] at hk
        obtain rfl : g0 = k := Option.some.inj hk
        refine ⟨_, by rw [e2]; exact setRow_heap w g0 cur _ _ _ hgc, fun x hx => ?_⟩
        simp only [List.mem_append] at hx
        rcases hx with (hx | hx) | hx
        · exact p2 x (List.mem_of_mem_take hx)
        · exact plq_list d x hx
        · exact p2 x (List.mem_of_mem_drop hx)
      · rw [e1] at hk
        left
        exact hk.symm
    · have hr2 := run_append_grow (P := Tryz.prog) w 31 ty 43 i0 _ Tryz.underlying31 hi hz0 ⟨g0, 0, none⟩ cs.length cap (scCells cs) (by rw [hz1]; exact hown.own.1) (hown.own.cells (g := g0) rfl) ⟨g, 0, none⟩ 1 1 d.lst (by rw [SC.lst_len, hz1]) hnews (by omega) (by omega) (growslice_fits (by omega) (by rw [hz2]; omega))
      rw [hr] at hr2
      injection hr2 with e1 e2
      refine ⟨v', w', hr, ⟨hO, fun k hk => ?_⟩, hA, fun k hk => ?_⟩
      · rw [e1] at hk
        obtain rfl : w.heap.size = k := Option.some.inj hk
        refine ⟨_, by rw [e2]; exact heap_new w.drew _, fun x hx => ?_⟩
        rw [Array.toList_append, Array.toList_append, List.mem_append, List.mem_append] at hx
        rcases hx with (hx | hx) | hx
        · exact plq_cells cs x (by simpa using hx)
        · exact plq_list d x (by simpa using hx)
        · exact plq_zero _ x hx
      · rw [e1] at hk
        obtain rfl : w.heap.size = k := Option.some.inj hk
        exact Or.inr (Nat.le_refl _)
section
variable {ops : Array Oper} {Q : Exit → Act → World → Prop} {S : World → Prop} {o : Oper} {a : Act}
theorem wl_appU9 {rest : List Oper} {w : World} (hw : Region.wanted o (yielded ops a.tmps) = true) (s x : Operand) (ho : o.op = .call { callee := .builtin .append, args := #[s, x], argTypes := #[31, 31] })
    (B : Nat) (v : Value) (cs : List SC) (hs : a.eval s = v) (hown : OwnU w B v cs) (g : Nat) (d : SC) (hx : a.eval x = .slice (some ⟨g, 0, none⟩) 1 1) (hd : StIn w g d) (hn : cs.length ≤ 100000) (hB : B ≤ w.heap.size)
    (h : ∀ v' w', OwnU w' B v' (cs ++ [d]) → Asd v.ownBlock B w w' → (∀ k, v'.ownBlock = some k → some k = v.ownBlock ∨ w.heap.size ≤ k) → (∀ {y : Value} {b : SetV}, SetAt w y b → SetAt w' y b) → wpList Tryz.prog ops Q rest (a.put o.dst v') w') : wpList Tryz.prog ops Q (o :: rest) a w := by
  obtain ⟨v', w', hr, h1, h2, h3⟩ := run_appU9 w B o.type v cs hown g d hd hn hB
  refine wl_run hw v' w' ?_ (h v' w' h1 h2 h3 (fun q => hown.carry h2 q))
  unfold execOp
  simp only [ho, resolve, invoke, builtin, Sem.run_bind, Sem.run_pure, Result.andThen_ok, List.map_toArray, List.map_cons, List.map_nil, hs, hx, hr]
end
theorem ownU_one {w : World} {g B : Nat} {c : SC} (h : StIn w g c) (hB : B ≤ g) : OwnU w B (.slice (some ⟨g, 0, none⟩) 1 1) [c] :=
  ⟨ownT_one h hB, fun k hk => by
    obtain rfl : g = k := Option.some.inj hk
    exact ⟨_, h, fun x hx => plq_list c x hx⟩⟩
theorem stCells1_map (l : List ByteArray) : stCells1 l = l.map Value.string := by
  unfold stCells1
  induction l with
  | nil => rfl
  | cons a l ih => rw [List.flatMap_cons, ih]; rfl
theorem RowS.own {w : World} {B : Nat} {v : Value} {l : List ByteArray} (h : RowS w B v l) : OwnS w B v l := by
  have h' : w.ownsRow B 9 1 v l.length (stCells1 l) := h
  rw [stCells1_map] at h'
  exact h'
theorem RowS.up {w : World} {B n c : Nat} {p : Option Addr} {l : List ByteArray} (h : RowS w B (.slice p n c) l) : ∀ a, p = some a → B ≤ a.block := by
  intro a e
  subst e
  rcases h.2 with ⟨e, _⟩ | ⟨g, cap, cur, e, hB, _⟩
  · cases e
  · injection e with e _ _
    cases e; exact hB
theorem OwnU.gro {w w' : World} {B B' : Nat} {v y : Value} {cs : List SC} {l : List ByteArray} (h : OwnU w B v cs) (hy : RowS w B' y l) (kg : w.grownBy w' y.ownBlock) : OwnU w' B v cs :=
  ⟨row_row h.own hy kg (by decide), fun g hg => by
    obtain ⟨cur, h1, h2⟩ := h.pl g hg
    exact ⟨cur, heap_gro h1 kg (own_ne hy h1 (by decide)), h2⟩⟩
def Apt (w : World) (y : Value) (cs : List SC) : Prop := ∀ c ∈ cs, (∀ a, c.p = some a → a.block < w.heap.size ∧ y.ownBlock ≠ some a.block) ∧ (∀ a, c.q = some a → a.block < w.heap.size ∧ y.ownBlock ≠ some a.block)
theorem Apt.mono {w w' : World} {y : Value} {cs : List SC} (h : Apt w y cs) (hs : w.heap.size ≤ w'.heap.size) : Apt w' y cs := fun c hc =>
  ⟨fun a e => ⟨Nat.lt_of_lt_of_le ((h c hc).1 a e).1 hs, ((h c hc).1 a e).2⟩, fun a e => ⟨Nat.lt_of_lt_of_le ((h c hc).2 a e).1 hs, ((h c hc).2 a e).2⟩⟩
theorem Apt.app {w w' : World} {y y' : Value} {cs : List SC} (h : Apt w y cs) (hs : w.heap.size ≤ w'.heap.size) (ho : ∀ g, y'.ownBlock = some g → some g = y.ownBlock ∨ w.heap.size ≤ g) : Apt w' y' cs := by
  have key : ∀ b, b < w.heap.size → y.ownBlock ≠ some b → y'.ownBlock ≠ some b := fun b hb hne e => by
    rcases ho b e with e1 | e1
    · exact hne e1.symm
    · omega
  exact fun c hc => ⟨fun a e => ⟨Nat.lt_of_lt_of_le ((h c hc).1 a e).1 hs, key _ ((h c hc).1 a e).1 ((h c hc).1 a e).2⟩, fun a e => ⟨Nat.lt_of_lt_of_le ((h c hc).2 a e).1 hs, key _ ((h c hc).2 a e).1 ((h c hc).2 a e).2⟩⟩
theorem Apt.snoc {w : World} {y : Value} {cs : List SC} {d : SC} (h : Apt w y cs) (h1 : ∀ a, d.p = some a → a.block < w.heap.size ∧ y.ownBlock ≠ some a.block) (h2 : ∀ a, d.q = some a → a.block < w.heap.size ∧ y.ownBlock ≠ some a.block) : Apt w y (cs ++ [d]) := fun c hc => by
  rcases List.mem_append.1 hc with hc | hc
  · exact h c hc
  · rw [List.mem_singleton.1 hc]; exact ⟨h1, h2⟩
theorem RngsAt.same {w w' : World} {p : Option Addr} {n c : Nat} {l : List Rg} (h : RngsAt w (.slice p n c) l) (hs : w.heap.size ≤ w'.heap.size) (hp : ∀ a, p = some a → w'.heap[a.block]? = w.heap[a.block]?) : RngsAt w' (.slice p n c) l := by
  obtain ⟨h1, h2, a, cap, hv, h⟩ := h
  refine ⟨h1, h2, a, cap, hv, fun i hi => ?_⟩
  obtain ⟨b, off, ha, hlt, c0, c1⟩ := h i hi
  injection hv with e1 e2 e3
  have hb : w'.heap[b]? = w.heap[b]? := hp _ (e1.trans ha)
  have hc : ∀ o, w'.cell? ⟨b, o, none⟩ = w.cell? ⟨b, o, none⟩ := fun o => by unfold World.cell?; simp only [hb]
  exact ⟨b, off, ha, Nat.lt_of_lt_of_le hlt hs, (hc _).trans c0, (hc _).trans c1⟩
theorem StrsAt.same {w w' : World} {p : Option Addr} {n c : Nat} {l : List ByteArray} (h : StrsAt w (.slice p n c) l) (hs : w.heap.size ≤ w'.heap.size) (hp : ∀ a, p = some a → w'.heap[a.block]? = w.heap[a.block]?) : StrsAt w' (.slice p n c) l := by
  obtain ⟨h1, h2, a, cap, hv, h⟩ := h
  refine ⟨h1, h2, a, cap, hv, fun i hi => ?_⟩
  obtain ⟨b, off, ha, hlt, c0⟩ := h i hi
  injection hv with e1 e2 e3
  have hb : w'.heap[b]? = w.heap[b]? := hp _ (e1.trans ha)
  have hc : ∀ o, w'.cell? ⟨b, o, none⟩ = w.cell? ⟨b, o, none⟩ := fun o => by unfold World.cell?; simp only [hb]
  exact ⟨b, off, ha, Nat.lt_of_lt_of_le hlt hs, (hc _).trans c0⟩
theorem SetAt.same {w w' : World} {c : SC} {S : SetV} (h : SetAt w c.val S) (hs : w.heap.size ≤ w'.heap.size) (hp : ∀ a, c.p = some a → w'.heap[a.block]? = w.heap[a.block]?) (hq : ∀ a, c.q = some a → w'.heap[a.block]? = w.heap[a.block]?) : SetAt w' c.val S := by
  obtain ⟨vi, vs, e, hI, hS⟩ := h
  unfold SC.val at e
  simp only [Value.agg.injEq, Array.mk.injEq, List.cons.injEq, and_true] at e
  obtain ⟨e1, rfl, e3, rfl⟩ := e
  exact ⟨_, _, by unfold SC.val; rw [e1, e3], hI.same hs hp, hS.same hs hq⟩
theorem NewSt.gro {m : Nat} {w w' : World} {y : Value} {cs : List SC} {l : List SetV} (h : NewSt m w cs l) (ha : Apt w y cs) (kg : w.grownBy w' y.ownBlock) : NewSt m w' cs l :=
  ⟨⟨h.at_.1, fun i hi => by
    have hm : cs.getD i SC.zero ∈ cs := gD_mem (by rw [h.at_.1]; exact hi)
    exact (h.at_.2 i hi).same kg.size (fun a e => kg.block _ ((ha _ hm).1 a e).1 (fun e2 => ((ha _ hm).1 a e).2 e2.symm)) (fun a e => kg.block _ ((ha _ hm).2 a e).1 (fun e2 => ((ha _ hm).2 a e).2 e2.symm))⟩, h.up⟩
def lenV : Value → Nat
  | .slice _ n _ => n
  | _ => 0
theorem OwnU.lenV {w : World} {B : Nat} {v : Value} {cs : List SC} (h : OwnU w B v cs) : lenV v = cs.length := by
  obtain ⟨a, cap, rfl⟩ := h.own.frm
  rfl
theorem take_more {l : List SetV} {k : Nat} (h : k < l.length) : l.take (k + 1) = l.take k ++ [l.getD k noSet] := by
  rw [List.take_succ_eq_append_getElem h, List.getD_eq_getElem?_getD, List.getElem?_eq_getElem h]
  rfl
theorem late_nil {M : List ByteArray} {s : ByteArray} (h : M.length = 0) : lateS M s = true := by
  rw [List.eq_nil_of_length_eq_zero h]; rfl
theorem late_ne {M : List ByteArray} {s : ByteArray} (h : ¬ M.length = 0) : lateS M s = Op.bytesLess (M.getD (M.length - 1) ⟨#[]⟩).toList s.toList := by
  unfold lateS
  cases M with
  | nil => exact absurd rfl h
  | cons a M => rfl
theorem hi_top {l : List SetV} {B : List Int} {N : List ByteArray} (h : CutOf l B N) {k : Nat} (hk : k < B.length) : hiAt B k = 9223372036854775807 ↔ ¬ k + 1 < B.length := by
  unfold hiAt
  by_cases e : k + 1 < B.length
  · rw [if_pos e]
    have := (h.inB (gD_mem (d := 0) e)).2
    exact ⟨fun h1 => by omega, fun h1 => absurd e h1⟩
  · rw [if_neg e]
    exact ⟨fun _ => e, fun _ => rfl⟩
theorem nextR_in {l : List SetV} {B : List Int} {N : List ByteArray} (h : CutOf l B N) {k : Nat} (hk : k < B.length) : -9223372036854775808 ≤ hiAt B k ∧ hiAt B k ≤ 9223372036854775807 := by
  have := h.hiIn k hk; omega
theorem rowS_some {w : World} {B n c : Nat} {p : Option Addr} {l : List ByteArray} (h : RowS w B (.slice p n c) l) (hl : ¬ l.length = 0) : ∃ g, p = some ⟨g, 0, none⟩ := by
  rcases h.2 with ⟨_, h0⟩ | ⟨g, _, _, e, _⟩
  · omega
  · injection e with e _ _; exact ⟨g, e⟩
end Go.Proofs.YtbaijjclofekcaaGreatDoor
