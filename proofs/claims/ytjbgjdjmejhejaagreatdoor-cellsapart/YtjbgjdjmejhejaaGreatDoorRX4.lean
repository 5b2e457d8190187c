import Derived.Test.YtjbgjdjmejhejaaGreatDoorRX3
import Derived.Test.YtjbgjdjmejhejaaGreatDoorRX1
import Derived.Test.YtjbgjdjmejhejaaGreatDoorRX2
import Derived.Lib.MinMax
import Derived.BigRegion
import Derived.Deep.CutRange
import Derived.Shelf.SlSortCmp.NoneTotal
import Derived.Laws.MakeOwn
import Derived.Deep.RegionHeld3
set_option linter.unusedSimpArgs false
set_option linter.unusedVariables false
namespace Go.Proofs.YtjbgjdjmejhejaaGreatDoor
open Go.RowKit
set_option maxHeartbeats 4000000 in
set_option maxRecDepth 100000 in
theorem copied9_any (v : Value) (S : SetV) (w : World) (hv : SetAt w v S) (hl1 : S.ints.length ≤ 100000) (hl2 : S.strs.length ≤ 100000) :
    Calls Tryz.prog 75 #[v] w fun r w' => (∃ c : SC, r = .returned c.val ∧ SetAt w' c.val S ∧ UpC w.heap.size c) ∧ Below w.heap.size w w' := by
  obtain ⟨ai, ci, az, cz, rfl, hI, hT⟩ := sc_open hv
  have D : w.grownBy w none := grown_refl _ _
  go_enter Tryz.func75, Tryz.ntmps75
  refine wp_seq_k (fun K1 hK1 => ?_)
  refine wp_region_lit ?_
  refine wt_boxSt (o := ⟨_, _, _, _, _, _⟩) (by rfl) _ rfl (⟨S.absent, ai, S.ints.length, ci, S.co, az, S.strs.length, cz⟩) rfl (fun v1 g1 hg G1 kb => ?_)
  simp only [Act.put, lzA, lzB, lzC]
  have ge_g1 : w.heap.size ≤ g1 := Nat.le_trans D.size hg
  clear hg
  replace D := grown_below D kb
  clear kb
  replace G1 : v1.heap[g1]? = some (.cells #[.bool (S.absent), .slice ai S.ints.length ci, .bool (S.co), .slice az S.strs.length cz] 26 (0, 0)) := G1
  refine wt_allocSt (o := ⟨_, _, _, _, _, _⟩) (by rfl) rfl (fun v2 g2 hg G2 kb => ?_)
  simp only [Act.put, lzA, lzB, lzC]
  have n_g1_g2 : g1 ≠ g2 := by have := lt_heap G1; omega
  have ge_g2 : w.heap.size ≤ g2 := Nat.le_trans D.size hg
  clear hg
  replace D := grown_below D kb
  replace G1 := heap_on G1 kb
  clear kb
  replace G2 : v2.heap[g2]? = some (.cells #[.bool false, .slice none 0 0, .bool false, .slice none 0 0] 26 (0, 0)) := G2
  refine wpList_nil ?_
  refine hK1 _ _ ?_
  clear hK1 K1
  refine wp_seq_k (fun K2 hK2 => ?_)
  refine wp_region_lit ?_
  refine wl_yield (o := ⟨_, _, _, _, _, _⟩) (.pointer (some ⟨g1, 1, none⟩)) (yt_fSt1 (by rfl) _ rfl g1 0 rfl) ?_
  simp only [Act.put, lzA, lzB, lzC]
  refine wl_yield (o := ⟨_, _, _, _, _, _⟩) (.slice ai S.ints.length ci) (yt_ldLr (by rfl) _ rfl _ _ rfl ai S.ints.length ci (fun _ h => by subst h; exact cell_heap G1 1)) ?_
  simp only [Act.put, lzA, lzB, lzC]
  refine wt_call (o := ⟨_, _, _, _, _, _⟩) (by rfl) 123 _ _ rfl #[.slice ai S.ints.length ci] rfl (run_call Tryz.func123 (by kernel_rfl) (by kernel_rfl)) ?_
  refine (cloneR_own _ S.ints _ (hI.on (below_none D)) hl1).mono ?_
  rintro r v3 (⟨⟨u, rfl, RI⟩, kb⟩)
  · have mI := D.size
    replace D := grown_below D kb
    replace G1 := heap_on G1 kb
    replace G2 := heap_on G2 kb
    clear kb
    obtain ⟨pI, cI, rfl, hpI⟩ := RI.frmU
    refine Or.inl ⟨.slice pI S.ints.length cI, rfl, ?_⟩
    simp only [Act.put, lzA, lzB, lzC]
    refine wl_yield (o := ⟨_, _, _, _, _, _⟩) (.pointer (some ⟨g1, 1, none⟩)) (yt_fSt1 (by rfl) _ rfl g1 0 rfl) ?_
    simp only [Act.put, lzA, lzB, lzC]
    refine wt_putLr (o := ⟨_, _, _, _, _, _⟩) (by rfl) _ _ rfl _ 1 rfl pI S.ints.length cI rfl G1 (by simp) (fun v4 X kg => ?_)
    simp only [Act.put, lzA, lzB, lzC]
    replace D := gr_new D ge_g1 kg
    replace G2 := heap_gr G2 kg (Ne.symm n_g1_g2)
    replace RI := row_gr_heap RI kg G1 (by decide)
    clear kg
    replace G1 : v4.heap[g1]? = some (.cells #[.bool (S.absent), .slice pI S.ints.length cI, .bool (S.co), .slice az S.strs.length cz] 26 (0, 0)) := X
    clear X
    refine wpList_nil ?_
    refine hK2 _ _ ?_
    clear hK2 K2
    refine wp_seq_k (fun K3 hK3 => ?_)
    refine wp_region_lit ?_
    refine wl_yield (o := ⟨_, _, _, _, _, _⟩) (.pointer (some ⟨g1, 3, none⟩)) (yt_fSt3 (by rfl) _ rfl g1 0 rfl) ?_
    simp only [Act.put, lzA, lzB, lzC]
    refine wl_yield (o := ⟨_, _, _, _, _, _⟩) (.slice az S.strs.length cz) (yt_ldLs (by rfl) _ rfl _ _ rfl az S.strs.length cz (fun _ h => by subst h; exact cell_heap G1 3)) ?_
    simp only [Act.put, lzA, lzB, lzC]
    refine wt_call (o := ⟨_, _, _, _, _, _⟩) (by rfl) 124 _ _ rfl #[.slice az S.strs.length cz] rfl (run_call Tryz.func124 (by kernel_rfl) (by kernel_rfl)) ?_
    refine (cloneS_own _ S.strs _ (hT.on (below_none D)) hl2).mono ?_
    rintro r v5 (⟨⟨u, rfl, RT⟩, kb⟩)
    · have mT := D.size
      replace D := grown_below D kb
      replace G1 := heap_on G1 kb
      replace G2 := heap_on G2 kb
      replace RI := ownsRow_on RI kb
      clear kb
      obtain ⟨pT, cT, rfl, hpT⟩ := RT.frmN
      refine Or.inl ⟨.slice pT S.strs.length cT, rfl, ?_⟩
      simp only [Act.put, lzA, lzB, lzC]
      refine wl_yield (o := ⟨_, _, _, _, _, _⟩) (.pointer (some ⟨g1, 3, none⟩)) (yt_fSt3 (by rfl) _ rfl g1 0 rfl) ?_
      simp only [Act.put, lzA, lzB, lzC]
      refine wt_putLs (o := ⟨_, _, _, _, _, _⟩) (by rfl) _ _ rfl _ 3 rfl pT S.strs.length cT rfl G1 (by simp) (fun v6 X kg => ?_)
      simp only [Act.put, lzA, lzB, lzC]
      replace D := gr_new D ge_g1 kg
      replace G2 := heap_gr G2 kg (Ne.symm n_g1_g2)
      replace RI := row_gr_heap RI kg G1 (by decide)
      replace RT := row_gr_heap RT kg G1 (by decide)
      clear kg
      replace G1 : v6.heap[g1]? = some (.cells #[.bool (S.absent), .slice pI S.ints.length cI, .bool (S.co), .slice pT S.strs.length cT] 26 (0, 0)) := X
      clear X
      refine wpList_nil ?_
      refine hK3 _ _ ?_
      clear hK3 K3
      refine wp_seq_k (fun K4 hK4 => ?_)
      refine wp_region_lit ?_
      refine wl_yield (o := ⟨_, _, _, _, _, _⟩) (.agg #[.bool (S.absent), .slice pI S.ints.length cI, .bool (S.co), .slice pT S.strs.length cT]) (yl_set (by rfl) _ rfl _ 0 rfl _ _ _ _ (fun _ h => by subst h; exact ⟨cell_heap G1 0, cell_heap G1 1, cell_heap G1 2, cell_heap G1 3⟩)) ?_
      simp only [Act.put, lzA, lzB, lzC]
      refine wt_putSt (o := ⟨_, _, _, _, _, _⟩) rfl _ _ rfl _ rfl (⟨S.absent, pI, S.ints.length, cI, S.co, pT, S.strs.length, cT⟩) rfl G2 rfl (fun v7 X kg => ?_)
      simp only [Act.put, lzA, lzB, lzC]
      replace D := gr_new D ge_g2 kg
      replace G1 := heap_gr G1 kg n_g1_g2
      replace RI := row_gr_heap RI kg G2 (by decide)
      replace RT := row_gr_heap RT kg G2 (by decide)
      clear kg
      replace G2 : v7.heap[g2]? = some (.cells #[.bool (S.absent), .slice pI S.ints.length cI, .bool (S.co), .slice pT S.strs.length cT] 26 (0, 0)) := X
      clear X
      refine wpList_nil ?_
      refine hK4 _ _ ?_
      clear hK4 K4
      refine wp_ret ?_
      try simp only [Exit.inBlock, Exit.then]
      refine bodyPost_ret (results_cell_row rfl _ _ g2 26 _ (0, 0) _ rfl G2 Tryz.underlying26 rfl infoT4) rfl ⟨⟨⟨S.absent, pI, S.ints.length, cI, S.co, pT, S.strs.length, cT⟩, rfl, ⟨_, _, rfl, OwnR.rngs RI hI.1 (by omega), OwnS.strs RT hT.1 (by omega)⟩, fun a e => Nat.le_trans mI (hpI a e), fun a e => Nat.le_trans mT (hpT a e)⟩, below_none D⟩
def cntU (ns : Nat → Nat) : Nat → Nat
  | 0 => 1
  | k + 1 => if cntU ns k * ns k > 1099511627776 then 1099511627776 else cntU ns k * ns k
theorem cntU_le (ns : Nat → Nat) : ∀ k, cntU ns k ≤ 1099511627776
  | 0 => by unfold cntU; omega
  | k + 1 => by unfold cntU; split <;> omega
theorem cntU_top (ns : Nat → Nat) (h : ∀ j, 1 ≤ ns j) : ∀ k j, cntU ns k = 1099511627776 → cntU ns (k + j) = 1099511627776
  | k, 0, e => e
  | k, j + 1, e => by
    have ih := cntU_top ns h k j e
    show cntU ns ((k + j) + 1) = _
    unfold cntU
    rw [ih]
    split
    · rfl
    · rename_i hn
      have := h (k + j)
      have := Nat.mul_le_mul_left 1099511627776 this
      omega
theorem quo_gt {c n : Nat} (hn : 1 ≤ n) : (1099511627776 / n < c) ↔ (1099511627776 < c * n) := by
  rw [Nat.div_lt_iff_lt_mul (by omega)]
theorem quo_dec {c n : Nat} (hn : 1 ≤ n) : decide ((c : Int) > ((1099511627776 / n : Nat) : Int)) = decide (c * n > 1099511627776) := by
  have := @quo_gt c n hn
  by_cases h : 1099511627776 < c * n
  · rw [decide_eq_true (show c * n > 1099511627776 from h), decide_eq_true (by have := this.2 h; omega)]
  · rw [decide_eq_false (show ¬ c * n > 1099511627776 from h), decide_eq_false (by have h2 := fun q => h (this.1 q); omega)]
theorem cutL_len (l : List SetV) : 3 ≤ (cutL l).length := by
  unfold cutL
  rw [cellL_len]
  have := (begs_is (allR l)).pos
  omega
theorem cutL_most {l : List SetV} (h : FewC l) : (cutL l).length ≤ 61000 := by
  unfold cutL
  rw [cellL_len]
  have a1 := sortedN_len (begL (allR l))
  have a2 := begL_len (allR l) (allR l).length
  have a3 := namesOf_len (allS l)
  have a4 := h.r l.length
  have a5 := h.s l.length
  rw [List.take_length] at a2 a4 a5
  omega
section
variable {ops : Array Oper} {S : World → Prop} {o : Oper} {a : Act}
theorem yq_quoI (hw : Region.wanted o (yielded ops a.tmps) = true) (x y : Operand) (t : TypeId) (ho : o.op = .binOp .quo 3 x y t) (n : Nat) (hx : a.eval x = .int .i64 1099511627776) (hy : a.eval y = .int .i64 (n : Int)) (hn : 1 ≤ n) : YieldsIf Tryz.prog ops S o (.int .i64 ((1099511627776 / n : Nat) : Int)) a :=
  Or.inl ⟨hw, fun w hS => by
    have h0 : ¬ ((n : Int) = 0) := by omega
    have h1 : Int.tdiv 1099511627776 (n : Int) = ((1099511627776 / n : Nat) : Int) := by
      rw [Int.tdiv_eq_ediv_of_nonneg (by decide)]
      rfl
    have h2 : (1099511627776 / n : Nat) ≤ 1099511627776 := Nat.div_le_self _ _
    simp only [execOp, ho, hx, hy]
    go_simp
    rw [if_neg (by omega)]
    have h3 : (1099511627776 : Int) / (n : Int) = ((1099511627776 / n : Nat) : Int) := rfl
    rw [h3]
    generalize 1099511627776 / n = q at h2
    rw [IntKind.wrap_i64, show ((q : Int) + 9223372036854775808) % 18446744073709551616 - 9223372036854775808 = (q : Int) by omega]⟩
end
theorem cntU_go (ns : Nat → Nat) (k : Nat) (h : ¬ cntU ns k * ns k > 1099511627776) : cntU ns (k + 1) = cntU ns k * ns k := by
  show (if cntU ns k * ns k > 1099511627776 then 1099511627776 else cntU ns k * ns k) = _
  rw [if_neg h]
theorem cntU_congr (ns ms : Nat → Nat) : ∀ k, (∀ j, j < k → ns j = ms j) → cntU ns k = cntU ms k
  | 0, _ => rfl
  | k + 1, h => by
    unfold cntU
    rw [cntU_congr ns ms k (fun j hj => h j (by omega)), h k (by omega)]
theorem cntU_top9 (ns : Nat → Nat) (k n : Nat) (hk : k ≤ n) (h : ∀ j, j < n → 1 ≤ ns j) (e : cntU ns k = 1099511627776) : cntU ns n = 1099511627776 := by
  have h2 := cntU_congr ns (fun j => if j < n then ns j else 1) n (fun j hj => by rw [if_pos hj])
  have h3 := cntU_congr ns (fun j => if j < n then ns j else 1) k (fun j hj => by rw [if_pos (by omega)])
  rw [h2]
  rw [h3] at e
  have := cntU_top (fun j => if j < n then ns j else 1) (fun j => by show 1 ≤ (if j < n then ns j else 1); split; exact h j (by assumption); exact Nat.le_refl _) k (n - k) e
  rwa [show k + (n - k) = n by omega] at this
set_option maxHeartbeats 4000000 in
set_option maxRecDepth 100000 in
theorem count_any (b : Nat) (l : Nat → List SetV) (w : World) (OK : GridOk w b l) (hf : ∀ j, j < 4 → FewC (l j)) :
    Calls Tryz.prog 32 #[.pointer (some ⟨b, 0, none⟩)] w fun r w' => r = .returned (.int .i64 ((cntU (fun j => (cutL (l j)).length) 4 : Nat) : Int)) ∧ GridOk w' b l ∧ w.grownBy w' (some b) := by
  have D : w.grownBy w (some b) := grown_refl _ _
  go_enter Tryz.func32, Tryz.ntmps32
  refine wp_seq_k (fun K1 hK1 => ?_)
  refine wp_region_lit ?_
  refine wl_yield (o := ⟨_, _, _, _, _, _⟩) (.int .i64 0) (yl_assign (by rfl) _ rfl _ rfl) ?_
  simp only [Act.put, lzA, lzB, lzC]
  refine wpList_nil ?_
  refine hK1 _ _ ?_
  clear hK1 K1
  refine wp_seq_k (fun K2 hK2 => ?_)
  refine wp_region_lit ?_
  refine wl_yield (o := ⟨_, _, _, _, _, _⟩) (.int .i64 1) (yl_assign (by rfl) _ rfl _ rfl) ?_
  simp only [Act.put, lzA, lzB, lzC]
  refine wpList_nil ?_
  refine hK2 _ _ ?_
  clear hK2 K2
  refine wp_seq_k (fun K3 hK3 => ?_)
  refine wp_seq_k (fun K4 hK4 => ?_)
  refine wp_region_lit ?_
  refine wl_yield (o := ⟨_, _, _, _, _, _⟩) (.pointer (some ⟨b, 0, none⟩)) (yl_move (by rfl) _ rfl _ rfl) ?_
  simp only [Act.put, lzA, lzB, lzC]
  refine wt_call (o := ⟨_, _, _, _, _, _⟩) (by rfl) 77 _ _ rfl #[.pointer (some ⟨b, 0, none⟩)] rfl (run_call Tryz.func77 (by kernel_rfl) (by kernel_rfl)) ?_
  refine (laid_any b l _ OK hf).mono ?_
  rintro r v1 (⟨⟨c', rfl, NC, ok⟩, kg⟩)
  · replace D := grown_trans D kg
    clear OK
    have OK := ok
    clear ok kg
    have hn : ∀ j, j < 4 → (c' j).n = (cutL (l j)).length := fun j hj => by
      obtain ⟨q, e1, e2⟩ := (NC j hj).form
      have : (c' j).n = q.n := by unfold Sl.val at e1; injection e1
      omega
    have hge : ∀ j, j < 4 → 3 ≤ (c' j).n ∧ (c' j).n ≤ 61000 := fun j hj => by rw [hn j hj]; exact ⟨cutL_len _, cutL_most (hf j hj)⟩
    refine Or.inl ⟨.agg #[(c' 0).val, (c' 1).val, (c' 2).val, (c' 3).val], rfl, ?_⟩
    simp only [Act.put, lzA, lzB, lzC]
    refine wl_yield (o := ⟨_, _, _, _, _, _⟩) (.int .i64 0) (yl_move (by rfl) _ rfl _ rfl) ?_
    simp only [Act.put, lzA, lzB, lzC]
    refine wpList_nil ?_
    refine hK4 _ _ ?_
    clear hK4 K4
    refine wp_block ?_
    go_loopw [3, 8] (fun x i wr => ∃ (k : Nat), x = .int .i64 ((cntU (fun j => (c' j).n) k : Nat) : Int) ∧ i = .int .i64 ((k : Nat) : Int) ∧ k ≤ 4 ∧ wr = v1) (fun _ i _ => 4 - (intOf i).toNat)
    case atStart => exact ⟨0, rfl, rfl, Nat.zero_le _, rfl⟩
    case round =>
      obtain ⟨k, rfl, rfl, hk, rfl⟩ := hrel
      have hcl := cntU_le (fun j => (c' j).n) k
      by_cases hlt : k < 4
      · refine wp_seq_k (fun K5 hK5 => ?_)
        refine wp_region_lit ?_
        refine wl_yield (o := ⟨_, _, _, _, _, _⟩) (.bool true) (yt_lssI (by rfl) _ _ _ rfl ((k : Nat) : Int) 4 true rfl rfl (decide_eq_true (by omega))) ?_
        simp only [Act.put, lzA, lzB, lzC]
        refine wpList_nil ?_
        refine hK5 _ _ ?_
        clear hK5 K5
        refine wp_seq_k (fun K6 hK6 => ?_)
        refine wp_cond_true rfl ?_
        refine wp_skip ?_
        refine hK6 _ _ ?_
        clear hK6 K6
        refine wp_seq_k (fun K7 hK7 => ?_)
        refine wp_block ?_
        refine wp_seq_k (fun K8 hK8 => ?_)
        refine wp_region_lit ?_
        refine wl_yield (o := ⟨_, _, _, _, _, _⟩) (Sl.val (c' k)) (yq_ix4 (by rfl) _ _ rfl c' k hlt rfl rfl) ?_
        simp only [Act.put, lzA, lzB, lzC]
        refine wl_yield (o := ⟨_, _, _, _, _, _⟩) (Sl.val (c' k)) (yl_assign (by rfl) _ rfl _ rfl) ?_
        simp only [Act.put, lzA, lzB, lzC]
        refine wpList_nil ?_
        refine hK8 _ _ ?_
        clear hK8 K8
        refine wp_seq_k (fun K9 hK9 => ?_)
        refine wp_seq_k (fun K10 hK10 => ?_)
        refine wp_region_lit ?_
        refine wl_yield (o := ⟨_, _, _, _, _, _⟩) (.int .i64 (cntU (fun j => (c' j).n) k : Nat)) (yl_move (by rfl) _ rfl _ rfl) ?_
        simp only [Act.put, lzA, lzB, lzC]
        refine wl_yield (o := ⟨_, _, _, _, _, _⟩) (Sl.val (c' k)) (yl_move (by rfl) _ rfl _ rfl) ?_
        simp only [Act.put, lzA, lzB, lzC]
        refine wl_yield (o := ⟨_, _, _, _, _, _⟩) (.int .i64 ((c' k).n : Nat)) (yt_lenQ (by rfl) _ rfl (c' k).p (c' k).n (c' k).c rfl) ?_
        simp only [Act.put, lzA, lzB, lzC]
        refine wl_yield (o := ⟨_, _, _, _, _, _⟩) (.int .i64 (1099511627776 / (c' k).n : Nat)) (yq_quoI (by rfl) _ _ _ rfl (c' k).n rfl rfl (by have := hge k hlt; omega)) ?_
        simp only [Act.put, lzA, lzB, lzC]
        refine wl_yield (o := ⟨_, _, _, _, _, _⟩) (.bool (decide (cntU (fun j => (c' j).n) k * (c' k).n > 1099511627776))) (yt_gtrI (by rfl) _ _ _ rfl ((cntU (fun j => (c' j).n) k : Nat) : Int) ((1099511627776 / (c' k).n : Nat) : Int) (decide (cntU (fun j => (c' j).n) k * (c' k).n > 1099511627776)) rfl rfl (quo_dec (by have := hge k hlt; omega))) ?_
        simp only [Act.put, lzA, lzB, lzC]
        refine wpList_nil ?_
        refine hK10 _ _ ?_
        clear hK10 K10
        refine wp_cond_split (t := (decide (cntU (fun j => (c' j).n) k * (c' k).n > 1099511627776))) rfl (fun hc => ?_) (fun hc => ?_)
        · have hc2 : (cntU (fun j => (c' j).n) k * (c' k).n > 1099511627776) := of_decide_eq_true hc
          refine wp_seq_k (fun K11 hK11 => ?_)
          refine wp_region_lit ?_
          refine wl_yield (o := ⟨_, _, _, _, _, _⟩) (.int .i64 1099511627776) (yl_assign (by rfl) _ rfl _ rfl) ?_
          simp only [Act.put, lzA, lzB, lzC]
          refine wpList_nil ?_
          refine hK11 _ _ ?_
          clear hK11 K11
          refine wp_ret ?_
          try simp only [Exit.inBlock, Exit.then]
          have e1 : cntU (fun j => (c' j).n) (k + 1) = 1099511627776 := by unfold cntU; rw [if_pos hc2]
          have e2 := cntU_top9 (fun j => (c' j).n) (k + 1) 4 (by omega) (fun j hj => by have := hge j hj; show 1 ≤ (c' j).n; omega) e1
          go_ret
          exact ⟨ret_int (by rw [cntU_congr (fun j => (cutL (l j)).length) (fun j => (c' j).n) 4 (fun j hj => (hn j hj).symm), e2]; rfl), OK, D⟩
        · have hc2 : ¬ (cntU (fun j => (c' j).n) k * (c' k).n > 1099511627776) := of_decide_eq_false hc
          refine wp_skip ?_
          refine hK9 _ _ ?_
          clear hK9 K9
          refine wp_region_lit ?_
          refine wl_yield (o := ⟨_, _, _, _, _, _⟩) (.int .i64 (cntU (fun j => (c' j).n) k : Nat)) (yl_move (by rfl) _ rfl _ rfl) ?_
          simp only [Act.put, lzA, lzB, lzC]
          refine wl_yield (o := ⟨_, _, _, _, _, _⟩) (Sl.val (c' k)) (yl_move (by rfl) _ rfl _ rfl) ?_
          simp only [Act.put, lzA, lzB, lzC]
          refine wl_yield (o := ⟨_, _, _, _, _, _⟩) (.int .i64 ((c' k).n : Nat)) (yt_lenQ (by rfl) _ rfl (c' k).p (c' k).n (c' k).c rfl) ?_
          simp only [Act.put, lzA, lzB, lzC]
          refine wl_yield (o := ⟨_, _, _, _, _, _⟩) (.int .i64 (cntU (fun j => (c' j).n) k * (c' k).n : Nat)) (yq_mulI (by rfl) _ _ _ rfl ((cntU (fun j => (c' j).n) k : Nat) : Int) (((c' k).n : Nat) : Int) ((cntU (fun j => (c' j).n) k * (c' k).n : Nat) : Int) rfl rfl (by omega) (by omega) (by omega)) ?_
          simp only [Act.put, lzA, lzB, lzC]
          refine wl_yield (o := ⟨_, _, _, _, _, _⟩) (.int .i64 (cntU (fun j => (c' j).n) k * (c' k).n : Nat)) (yl_assign (by rfl) _ rfl _ rfl) ?_
          simp only [Act.put, lzA, lzB, lzC]
          refine wpList_nil ?_
          refine hK7 _ _ ?_
          clear hK7 K7
          refine wp_region_lit ?_
          refine wl_yield (o := ⟨_, _, _, _, _, _⟩) (.int .i64 (k + 1 : Nat)) (yt_addI (by rfl) _ _ _ rfl ((k : Nat) : Int) 1 ((k + 1 : Nat) : Int) rfl rfl (by omega) (by omega) (by omega)) ?_
          simp only [Act.put, lzA, lzB, lzC]
          refine wl_yield (o := ⟨_, _, _, _, _, _⟩) (.int .i64 (k + 1 : Nat)) (yl_move (by rfl) _ rfl _ rfl) ?_
          simp only [Act.put, lzA, lzB, lzC]
          refine wpList_nil ?_
          show _ ∧ _
          go_roundw
          case rel => exact ⟨k + 1, by show _ = Value.int .i64 ((cntU (fun j => (c' j).n) (k + 1) : Nat) : Int); rw [cntU_go (fun j => (c' j).n) k (by omega)], rfl, by omega, rfl⟩
          case measure => simp [intOf]; omega
      · obtain rfl : k = 4 := by omega
        refine wp_seq_k (fun K5 hK5 => ?_)
        refine wp_region_lit ?_
        refine wl_yield (o := ⟨_, _, _, _, _, _⟩) (.bool false) (yt_lssI (by rfl) _ _ _ rfl ((4 : Nat) : Int) 4 false rfl rfl (decide_eq_false (by omega))) ?_
        simp only [Act.put, lzA, lzB, lzC]
        refine wpList_nil ?_
        refine hK5 _ _ ?_
        clear hK5 K5
        refine wp_seq_k (fun K6 hK6 => ?_)
        refine wp_cond_false rfl ?_
        refine wp_exit ?_
        refine hK3 _ _ ?_
        clear hK6 K6 hK3 K3
        refine wp_seq_k (fun K7 hK7 => ?_)
        refine wp_region_lit ?_
        refine wl_yield (o := ⟨_, _, _, _, _, _⟩) (.int .i64 (cntU (fun j => (c' j).n) 4 : Nat)) (yl_move (by rfl) _ rfl _ rfl) ?_
        simp only [Act.put, lzA, lzB, lzC]
        refine wl_yield (o := ⟨_, _, _, _, _, _⟩) (.int .i64 (cntU (fun j => (c' j).n) 4 : Nat)) (yl_assign (by rfl) _ rfl _ rfl) ?_
        simp only [Act.put, lzA, lzB, lzC]
        refine wpList_nil ?_
        refine hK7 _ _ ?_
        clear hK7 K7
        refine wp_ret ?_
        try simp only [Exit.inBlock, Exit.then]
        go_ret
        exact ⟨ret_int (by rw [cntU_congr _ (fun j => (c' j).n) 4 (fun j hj => (hn j hj).symm)]), OK, D⟩
end Go.Proofs.YtjbgjdjmejhejaaGreatDoor
namespace Go.Proofs.YtjbgjdjmejhejaaGreatDoor
open Go.RowKit
theorem cutL_small {l : List SetV} (h : FewC l) : ∀ S ∈ cutL l, S.ints.length ≤ 100000 ∧ S.strs.length ≤ 901 := by
  intro S hS
  obtain ⟨i, hi, e⟩ := mem_getD noSet hS
  have h1 := cell_strs (B := sortedN (begL (allR l))) (N := namesOf (allS l)) hi
  have h2 := namesOf_len (allS l)
  have h3 := h.s l.length
  rw [List.take_length] at h3
  rw [← e]
  exact ⟨Nat.le_trans h1.2 (by decide), Nat.le_trans h1.1 (by omega)⟩
theorem SetAt.gr9 {w w' : World} {v : Value} {S : SetV} {g : Nat} {a d : Bool} {p q : Option Addr} {n c m e : Nat} {T : TypeId} (h : SetAt w v S) (hg : w.heap[g]? = some (.cells #[.bool a, .slice p n c, .bool d, .slice q m e] T (0, 0))) (k : w.grownBy w' (some g)) : SetAt w' v S :=
  h.asq hg (fun x hx => by
    simp only [List.mem_cons, List.not_mem_nil, or_false] at hx
    rcases hx with rfl | rfl | rfl | rfl <;> rfl) k.size (fun i hi hne => k.block i hi (fun e => hne (by cases e; rfl)))
theorem OwnT.gr9 {w w' : World} {B gO g n c : Nat} {cs : List SC} (h : OwnT w B (.slice (some ⟨gO, 0, none⟩) n c) cs) (k : w.grownBy w' (some g)) (hne : gO ≠ g) : OwnT w' B (.slice (some ⟨gO, 0, none⟩) n c) cs :=
  ownsRow_gr h k (fun g' e => by cases e; intro e2; cases e2; exact hne rfl)
set_option maxHeartbeats 4000000 in
set_option maxRecDepth 100000 in
theorem attr_any (b i : Nat) (hi : i < 4) (l : Nat → List SetV) (w : World) (OK : GridOk w b l) (hf : ∀ j, j < 4 → FewC (l j)) :
    Calls Tryz.prog 31 #[.pointer (some ⟨b, 0, none⟩), .int .i64 ((i : Nat) : Int)] w fun r w' => (∃ u, r = .returned u ∧ CutAt w.heap.size w' u (l i)) ∧ GridOk w' b l ∧ w.grownBy w' (some b) := by
  have D : w.grownBy w (some b) := grown_refl _ _
  go_enter Tryz.func31, Tryz.ntmps31
  refine wp_seq_k (fun K1 hK1 => ?_)
  refine wp_region_lit ?_
  refine wl_yield (o := ⟨_, _, _, _, _, _⟩) (.slice none 0 0) (yl_assign (by rfl) _ rfl _ rfl) ?_
  simp only [Act.put, lzA, lzB, lzC]
  refine wpList_nil ?_
  refine hK1 _ _ ?_
  clear hK1 K1
  refine wp_seq_k (fun K2 hK2 => ?_)
  refine wp_seq_k (fun K3 hK3 => ?_)
  refine wp_region_lit ?_
  refine wl_yield (o := ⟨_, _, _, _, _, _⟩) (.int .i64 (i : Nat)) (yl_move (by rfl) _ rfl _ rfl) ?_
  simp only [Act.put, lzA, lzB, lzC]
  refine wl_yield (o := ⟨_, _, _, _, _, _⟩) (.bool false) (yt_lssI (by rfl) _ _ _ rfl ((i : Nat) : Int) 0 false rfl rfl (decide_eq_false (by omega))) ?_
  simp only [Act.put, lzA, lzB, lzC]
  refine wl_yield (o := ⟨_, _, _, _, _, _⟩) (.bool false) (yl_move (by rfl) _ rfl _ rfl) ?_
  simp only [Act.put, lzA, lzB, lzC]
  refine wl_yield (o := ⟨_, _, _, _, _, _⟩) (.int .i64 (i : Nat)) (yl_move (by rfl) _ rfl _ rfl) ?_
  simp only [Act.put, lzA, lzB, lzC]
  refine wl_yield (o := ⟨_, _, _, _, _, _⟩) (.bool false) (yt_geqI (by rfl) _ _ _ rfl ((i : Nat) : Int) 4 false rfl rfl (decide_eq_false (by omega))) ?_
  simp only [Act.put, lzA, lzB, lzC]
  refine wl_yield (o := ⟨_, _, _, _, _, _⟩) (.bool false) (yl_pickF (by rfl) _ _ _ rfl rfl _ rfl) ?_
  simp only [Act.put, lzA, lzB, lzC]
  refine wpList_nil ?_
  refine hK3 _ _ ?_
  clear hK3 K3
  refine wp_cond_false rfl ?_
  refine wp_skip ?_
  refine hK2 _ _ ?_
  clear hK2 K2
  refine wp_seq_k (fun K4 hK4 => ?_)
  refine wp_region_lit ?_
  refine wl_yield (o := ⟨_, _, _, _, _, _⟩) (.pointer (some ⟨b, 0, none⟩)) (yl_move (by rfl) _ rfl _ rfl) ?_
  simp only [Act.put, lzA, lzB, lzC]
  refine wt_call (o := ⟨_, _, _, _, _, _⟩) (by rfl) 77 _ _ rfl #[.pointer (some ⟨b, 0, none⟩)] rfl (run_call Tryz.func77 (by kernel_rfl) (by kernel_rfl)) ?_
  refine (laid_any b l _ OK hf).mono ?_
  rintro r v1 (⟨⟨c', rfl, NC, ok⟩, kg⟩)
  · replace D := grown_trans D kg
    clear OK
    have OK := ok
    clear ok kg
    have HC := NC i hi
    clear NC
    have hS0 := HC.sets (Kept.refl _ _)
    have hmost := cutL_most (hf i hi)
    have hleast := cutL_len (l i)
    have hsmall := cutL_small (hf i hi)
    generalize hL : cutL (l i) = L at hS0 hmost hleast hsmall
    have hnil : nilOkQ (c' i).val := by
      obtain ⟨cs, o1, _, _⟩ := HC
      exact OwnT.nilOkQ (B := b + 1) o1
    clear HC
    refine Or.inl ⟨.agg #[(c' 0).val, (c' 1).val, (c' 2).val, (c' 3).val], rfl, ?_⟩
    simp only [Act.put, lzA, lzB, lzC]
    refine wl_yield (o := ⟨_, _, _, _, _, _⟩) (.int .i64 (i : Nat)) (yl_move (by rfl) _ rfl _ rfl) ?_
    simp only [Act.put, lzA, lzB, lzC]
    refine wl_yield (o := ⟨_, _, _, _, _, _⟩) (Sl.val (c' i)) (yq_ix4 (by rfl) _ _ rfl c' i hi rfl rfl) ?_
    simp only [Act.put, lzA, lzB, lzC]
    refine wt_call (o := ⟨_, _, _, _, _, _⟩) (by rfl) 76 _ _ rfl #[Sl.val (c' i)] rfl (run_call Tryz.func76 (by kernel_rfl) (by kernel_rfl)) ?_
    refine (cloneT_own _ L _ hS0 (by omega) hnil).mono ?_
    rintro r v2 (⟨⟨u, cs0, rfl, ROW, hA⟩, kb⟩)
    · have kb0 := kb
      have D0 := D
      have OKV := OK
      have hmD := D.size
      clear D OK kb
      have hcl := hA.1
      obtain ⟨gO, capO, curO, rfl, hgO, hcurO, _⟩ := ROW.form.resolve_left (fun e => by rw [e.2] at hcl; simp at hcl; omega)
      have hltO := lt_heap hcurO
      clear hcurO
      have D : v2.grownBy v2 none := grown_refl _ _
      refine Or.inl ⟨.slice (some ⟨gO, 0, none⟩) cs0.length capO, rfl, ?_⟩
      simp only [Act.put, lzA, lzB, lzC]
      refine wl_yield (o := ⟨_, _, _, _, _, _⟩) (.slice (some ⟨gO, 0, none⟩) cs0.length capO) (yl_assign (by rfl) _ rfl _ rfl) ?_
      simp only [Act.put, lzA, lzB, lzC]
      refine wpList_nil ?_
      refine hK4 _ _ ?_
      clear hK4 K4
      refine wp_seq_k (fun K5 hK5 => ?_)
      refine wp_seq_k (fun K6 hK6 => ?_)
      refine wp_region_lit ?_
      refine wl_yield (o := ⟨_, _, _, _, _, _⟩) (.slice (some ⟨gO, 0, none⟩) cs0.length capO) (yl_move (by rfl) _ rfl _ rfl) ?_
      simp only [Act.put, lzA, lzB, lzC]
      refine wl_yield (o := ⟨_, _, _, _, _, _⟩) (.int .i64 (cs0.length : Nat)) (yt_lenQ (by rfl) _ rfl (some ⟨gO, 0, none⟩) cs0.length capO rfl) ?_
      simp only [Act.put, lzA, lzB, lzC]
      refine wl_yield (o := ⟨_, _, _, _, _, _⟩) (.int .i64 0) (yl_move (by rfl) _ rfl _ rfl) ?_
      simp only [Act.put, lzA, lzB, lzC]
      refine wpList_nil ?_
      refine hK6 _ _ ?_
      clear hK6 K6
      refine wp_block ?_
      go_loopw [21] (fun i wr => ∃ (k : Nat) (cs : List SC), i = .int .i64 ((k : Nat) : Int) ∧ k ≤ cs0.length ∧ cs.length = cs0.length ∧ OwnT wr v1.heap.size (.slice (some ⟨gO, 0, none⟩) cs0.length capO) cs ∧ (∀ j, j < k → SetAt wr (cs.getD j SC.zero).val (L.getD j noSet) ∧ UpC (gO + 1) (cs.getD j SC.zero)) ∧ (∀ j, k ≤ j → j < cs0.length → cs.getD j SC.zero = cs0.getD j SC.zero) ∧ v2.grownBy wr (some gO)) (fun i _ => cs0.length - (intOf i).toNat)
      case atStart => exact ⟨0, cs0, rfl, Nat.zero_le _, rfl, ROW, fun j hj => absurd hj (Nat.not_lt_zero _), fun j _ _ => rfl, grown_refl _ _⟩
      case round =>
        clear D ROW
        obtain ⟨k, cs, rfl, hk, hcs, ROW, hdone, hrest, D⟩ := hrel
        by_cases hlt : k < cs0.length
        · have CR := ROW.range k (by omega)
          have C0 : wr.cell? ⟨gO, 0 + k * 4, none⟩ = some (.bool (cs.getD k SC.zero).a) := by rw [Nat.zero_add]; exact CR 0 _ rfl
          have C1 : wr.cell? ⟨gO, 0 + k * 4 + 1, none⟩ = some (.slice (cs.getD k SC.zero).p (cs.getD k SC.zero).n (cs.getD k SC.zero).c) := by rw [Nat.zero_add]; exact CR 1 _ rfl
          have C2 : wr.cell? ⟨gO, 0 + k * 4 + 2, none⟩ = some (.bool (cs.getD k SC.zero).d) := by rw [Nat.zero_add]; exact CR 2 _ rfl
          have C3 : wr.cell? ⟨gO, 0 + k * 4 + 3, none⟩ = some (.slice (cs.getD k SC.zero).q (cs.getD k SC.zero).m (cs.getD k SC.zero).e) := by rw [Nat.zero_add]; exact CR 3 _ rfl
          refine wp_seq_k (fun K7 hK7 => ?_)
          refine wp_region_lit ?_
          refine wl_yield (o := ⟨_, _, _, _, _, _⟩) (.bool true) (yt_lssI (by rfl) _ _ _ rfl ((k : Nat) : Int) ((cs0.length : Nat) : Int) true rfl rfl (decide_eq_true (by omega))) ?_
          simp only [Act.put, lzA, lzB, lzC]
          refine wpList_nil ?_
          refine hK7 _ _ ?_
          clear hK7 K7
          refine wp_seq_k (fun K8 hK8 => ?_)
          refine wp_cond_true rfl ?_
          refine wp_skip ?_
          refine hK8 _ _ ?_
          clear hK8 K8
          refine wp_seq_k (fun K9 hK9 => ?_)
          refine wp_block ?_
          refine wp_seq_k (fun K10 hK10 => ?_)
          refine wp_region_lit ?_
          refine wl_yield (o := ⟨_, _, _, _, _, _⟩) (.int .i64 (k : Nat)) (yl_move (by rfl) _ rfl _ rfl) ?_
          simp only [Act.put, lzA, lzB, lzC]
          refine wl_yield (o := ⟨_, _, _, _, _, _⟩) (.pointer (some ⟨gO, 0 + k * 4, none⟩)) (yt_atQ (by rfl) _ _ rfl gO 0 _ _ k rfl rfl (hlt)) ?_
          simp only [Act.put, lzA, lzB, lzC]
          refine wl_yield (o := ⟨_, _, _, _, _, _⟩) (SC.val (cs.getD k SC.zero)) (yl_set (by rfl) _ rfl _ _ rfl _ _ _ _ (fun _ h => by subst h; exact ⟨C0, C1, C2, C3⟩)) ?_
          simp only [Act.put, lzA, lzB, lzC]
          refine wt_allocSt (o := ⟨_, _, _, _, _, _⟩) (by rfl) rfl (fun v3 g3 hg G3 kb => ?_)
          simp only [Act.put, lzA, lzB, lzC]
          have ge_g3 : v2.heap.size ≤ g3 := Nat.le_trans D.size hg
          clear hg
          replace D := grown_below D kb
          replace ROW := OwnT.on ROW kb
          replace hdone := fun j hj => And.intro ((hdone j hj).1.on kb) (hdone j hj).2
          clear kb
          replace G3 : v3.heap[g3]? = some (.cells #[.bool false, .slice none 0 0, .bool false, .slice none 0 0] 26 (0, 0)) := G3
          refine wl_yield (o := ⟨_, _, _, _, _, _⟩) (.int .i64 (k : Nat)) (yl_assign (by rfl) _ rfl _ rfl) ?_
          simp only [Act.put, lzA, lzB, lzC]
          refine wt_putSt (o := ⟨_, _, _, _, _, _⟩) rfl _ _ rfl _ rfl ((cs.getD k SC.zero)) rfl G3 rfl (fun v4 X kg => ?_)
          simp only [Act.put, lzA, lzB, lzC]
          replace D := gr_new D ge_g3 kg
          replace ROW := OwnT.gr9 ROW kg (by have := ge_g3; omega)
          replace hdone := fun j hj => And.intro ((hdone j hj).1.gr9 G3 kg) (hdone j hj).2
          clear kg
          replace G3 : v4.heap[g3]? = some (.cells #[.bool ((cs.getD k SC.zero).a), .slice (cs.getD k SC.zero).p (cs.getD k SC.zero).n (cs.getD k SC.zero).c, .bool ((cs.getD k SC.zero).d), .slice (cs.getD k SC.zero).q (cs.getD k SC.zero).m (cs.getD k SC.zero).e] 26 (0, 0)) := X
          clear X
          refine wpList_nil ?_
          refine hK10 _ _ ?_
          clear hK10 K10
          refine wp_region_lit ?_
          refine wl_yield (o := ⟨_, _, _, _, _, _⟩) (.slice (some ⟨gO, 0, none⟩) cs0.length capO) (yl_move (by rfl) _ rfl _ rfl) ?_
          simp only [Act.put, lzA, lzB, lzC]
          refine wl_yield (o := ⟨_, _, _, _, _, _⟩) (.int .i64 (k : Nat)) (yl_move (by rfl) _ rfl _ rfl) ?_
          simp only [Act.put, lzA, lzB, lzC]
          refine wl_yield (o := ⟨_, _, _, _, _, _⟩) (SC.val (cs.getD k SC.zero)) (yl_set (by rfl) _ rfl _ 0 rfl _ _ _ _ (fun _ h => by subst h; exact ⟨cell_heap G3 0, cell_heap G3 1, cell_heap G3 2, cell_heap G3 3⟩)) ?_
          simp only [Act.put, lzA, lzB, lzC]
          have hSk : SetAt v4 (cs.getD k SC.zero).val (L.getD k noSet) := by
            rw [hrest k (Nat.le_refl _) hlt]
            exact (hA.2 k (by omega)).on (kb0.grown D kb0.size (fun z hz => by cases hz; exact hgO))
          have hml := hsmall _ (gD_mem (d := noSet) (show k < L.length by omega))
          refine wt_call (o := ⟨_, _, _, _, _, _⟩) (by rfl) 75 _ _ rfl #[SC.val (cs.getD k SC.zero)] rfl (run_call Tryz.func75 (by kernel_rfl) (by kernel_rfl)) ?_
          refine (copied9_any _ (L.getD k noSet) _ hSk hml.1 (Nat.le_trans hml.2 (by decide))).mono ?_
          rintro r v5 (⟨⟨c9, rfl, hc9, hu9⟩, kb⟩)
          · have hsz9 := D.size
            replace D := grown_below D kb
            replace ROW := OwnT.on ROW kb
            replace hdone := fun j hj => And.intro ((hdone j hj).1.on kb) (hdone j hj).2
            replace G3 := heap_on G3 kb
            clear kb
            clear hSk hml
            refine Or.inl ⟨SC.val c9, rfl, ?_⟩
            simp only [Act.put, lzA, lzB, lzC]
            refine wl_yield (o := ⟨_, _, _, _, _, _⟩) (.pointer (some ⟨gO, 0 + k * 4, none⟩)) (yt_atQ (by rfl) _ _ rfl gO 0 _ _ k rfl rfl (hlt)) ?_
            simp only [Act.put, lzA, lzB, lzC]
            refine wq_putQ (o := ⟨_, _, _, _, _, _⟩) (by rfl) _ _ rfl gO k rfl c9 rfl v1.heap.size cs0.length capO cs ROW (by omega) (fun v6 ROW' kg => ?_)
            simp only [Act.put, lzA, lzB, lzC]
            have hu8 : UpC (gO + 1) c9 := hu9.mono (by omega)
            have hdone' : ∀ j, j < k + 1 → SetAt v6 ((cs.set k c9).getD j SC.zero).val (L.getD j noSet) ∧ UpC (gO + 1) ((cs.set k c9).getD j SC.zero) := fun j hj => by
              by_cases e : j = k
              · subst e
                rw [List.getD_eq_getElem?_getD, List.getElem?_set_self (by omega)]
                exact ⟨hc9.kept hu8 (kept_lt kg (Nat.lt_succ_self gO)), hu8⟩
              · have e1 : (cs.set k c9).getD j SC.zero = cs.getD j SC.zero := by rw [List.getD_eq_getElem?_getD, List.getElem?_set_ne (by omega), ← List.getD_eq_getElem?_getD]
                rw [e1]
                have := hdone j (by omega)
                exact ⟨this.1.kept this.2 (kept_lt kg (Nat.lt_succ_self gO)), this.2⟩
            have hrest' : ∀ j, k + 1 ≤ j → j < cs0.length → (cs.set k c9).getD j SC.zero = cs0.getD j SC.zero := fun j h1 h2 => by
              rw [List.getD_eq_getElem?_getD, List.getElem?_set_ne (by omega), ← List.getD_eq_getElem?_getD]
              exact hrest j (by omega) h2
            replace D := grown_trans D kg
            clear hdone hc9 hu9 ROW hrest
            have ROW := ROW'
            have hdone := hdone'
            clear ROW' hdone' hu8 kg
            refine wpList_nil ?_
            refine hK9 _ _ ?_
            clear hK9 K9
            refine wp_region_lit ?_
            refine wl_yield (o := ⟨_, _, _, _, _, _⟩) (.int .i64 (k + 1 : Nat)) (yt_addI (by rfl) _ _ _ rfl ((k : Nat) : Int) 1 ((k + 1 : Nat) : Int) rfl rfl (by omega) (by omega) (by omega)) ?_
            simp only [Act.put, lzA, lzB, lzC]
            refine wl_yield (o := ⟨_, _, _, _, _, _⟩) (.int .i64 (k + 1 : Nat)) (yl_move (by rfl) _ rfl _ rfl) ?_
            simp only [Act.put, lzA, lzB, lzC]
            refine wpList_nil ?_
            show _ ∧ _
            go_roundw
            case rel => exact ⟨k + 1, _, rfl, by omega, by rw [List.length_set]; exact hcs, ROW, hdone, hrest', D⟩
            case measure => simp [intOf]; omega
        · obtain rfl : k = cs0.length := by omega
          refine wp_seq_k (fun K7 hK7 => ?_)
          refine wp_region_lit ?_
          refine wl_yield (o := ⟨_, _, _, _, _, _⟩) (.bool false) (yt_lssI (by rfl) _ _ _ rfl ((cs0.length : Nat) : Int) ((cs0.length : Nat) : Int) false rfl rfl (decide_eq_false (by omega))) ?_
          simp only [Act.put, lzA, lzB, lzC]
          refine wpList_nil ?_
          refine hK7 _ _ ?_
          clear hK7 K7
          refine wp_seq_k (fun K8 hK8 => ?_)
          refine wp_cond_false rfl ?_
          refine wp_exit ?_
          refine hK5 _ _ ?_
          clear hK8 K8 hK5 K5
          refine wp_seq_k (fun K9 hK9 => ?_)
          refine wp_region_lit ?_
          refine wl_yield (o := ⟨_, _, _, _, _, _⟩) (.slice (some ⟨gO, 0, none⟩) cs0.length capO) (yl_move (by rfl) _ rfl _ rfl) ?_
          simp only [Act.put, lzA, lzB, lzC]
          refine wl_yield (o := ⟨_, _, _, _, _, _⟩) (.slice (some ⟨gO, 0, none⟩) cs0.length capO) (yl_assign (by rfl) _ rfl _ rfl) ?_
          simp only [Act.put, lzA, lzB, lzC]
          refine wpList_nil ?_
          refine hK9 _ _ ?_
          clear hK9 K9
          refine wp_ret ?_
          try simp only [Exit.inBlock, Exit.then]
          have DB := kb0.grown D kb0.size (fun z hz => by cases hz; exact hgO)
          have hns : NewSt w.heap.size wr cs L := ⟨⟨by omega, fun j hj => (hdone j (by omega)).1⟩, fun c hc => by
            obtain ⟨j, hj, e⟩ := mem_getD SC.zero hc
            rw [← e]
            exact (hdone j (by omega)).2.mono (by omega)⟩
          go_ret
          exact ⟨⟨_, rfl, cs, OwnT.mono ROW hmD, by omega, by rw [hL]; exact hns⟩, OKV.on DB, grown_below D0 DB⟩
theorem SetsAt.nil9 (w : World) : SetsAt w sl0.val [] := ⟨Nat.zero_le _, none, 0, rfl, fun i hi => absurd hi (Nat.not_lt_zero _)⟩
section
variable {ops : Array Oper} {S : World → Prop} {o : Oper} {a : Act}
theorem yq_lenNF (hw : Region.wanted o (yielded ops a.tmps) = true) (x : Operand) (ho : o.op = .call { callee := .builtin .len, args := #[x], argTypes := #[123] }) (hx : a.eval x = .slice none 0 0) : YieldsIf Tryz.prog ops S o (.int .i64 0) a :=
  Or.inl ⟨hw, fun w hS => by
    unfold execOp
    simp only [ho, resolve, invoke, builtin, Sem.run_bind, Sem.run_pure, Result.andThen_ok, List.map_toArray, List.map_cons, List.map_nil, hx]
    go_simp⟩
end
set_option maxHeartbeats 4000000 in
set_option maxRecDepth 100000 in
theorem new0_any (w : World) :
    Calls Tryz.prog 30 #[.slice none 0 0] w fun r w' => (∃ b, r = .returned (.pointer (some ⟨b, 0, none⟩)) ∧ w.heap.size ≤ b ∧ GridOk w' b (fun _ => [])) ∧ Below w.heap.size w w' := by
  have D : w.grownBy w none := grown_refl _ _
  go_enter Tryz.func30, Tryz.ntmps30
  refine wp_seq_k (fun K1 hK1 => ?_)
  refine wp_region_lit ?_
  refine wl_yield (o := ⟨_, _, _, _, _, _⟩) (.pointer none) (yl_assign (by rfl) _ rfl _ rfl) ?_
  simp only [Act.put, lzA, lzB, lzC]
  refine wpList_nil ?_
  refine hK1 _ _ ?_
  clear hK1 K1
  refine wp_seq_k (fun K2 hK2 => ?_)
  refine wp_region_lit ?_
  refine wq_allocG (o := ⟨_, _, _, _, _, _⟩) (by rfl) rfl (fun v1 g1 hg G kb => ?_)
  simp only [Act.put, lzA, lzB, lzC]
  replace D := grown_below D kb
  clear kb
  refine wl_yield (o := ⟨_, _, _, _, _, _⟩) (.pointer (some ⟨g1, 0, none⟩)) (yl_assign (by rfl) _ rfl _ rfl) ?_
  simp only [Act.put, lzA, lzB, lzC]
  refine wpList_nil ?_
  refine hK2 _ _ ?_
  clear hK2 K2
  refine wp_seq_k (fun K3 hK3 => ?_)
  refine wp_seq_k (fun K4 hK4 => ?_)
  refine wp_region_lit ?_
  refine wl_yield (o := ⟨_, _, _, _, _, _⟩) (.slice none 0 0) (yl_move (by rfl) _ rfl _ rfl) ?_
  simp only [Act.put, lzA, lzB, lzC]
  refine wl_yield (o := ⟨_, _, _, _, _, _⟩) (.int .i64 0) (yq_lenNF (by rfl) _ rfl rfl) ?_
  simp only [Act.put, lzA, lzB, lzC]
  refine wl_yield (o := ⟨_, _, _, _, _, _⟩) (.int .i64 0) (yl_move (by rfl) _ rfl _ rfl) ?_
  simp only [Act.put, lzA, lzB, lzC]
  refine wpList_nil ?_
  refine hK4 _ _ ?_
  clear hK4 K4
  refine wp_block ?_
  go_loopw [13] (fun i wr => i = .int .i64 0 ∧ wr = v1) (fun _ _ => 0)
  case atStart => exact ⟨rfl, rfl⟩
  case round =>
    obtain ⟨rfl, rfl⟩ := hrel
    refine wp_seq_k (fun K5 hK5 => ?_)
    refine wp_region_lit ?_
    refine wl_yield (o := ⟨_, _, _, _, _, _⟩) (.bool false) (yt_lssI (by rfl) _ _ _ rfl 0 0 false rfl rfl (by decide)) ?_
    simp only [Act.put, lzA, lzB, lzC]
    refine wpList_nil ?_
    refine hK5 _ _ ?_
    clear hK5 K5
    refine wp_seq_k (fun K6 hK6 => ?_)
    refine wp_cond_false rfl ?_
    refine wp_exit ?_
    refine hK3 _ _ ?_
    clear hK6 K6 hK3 K3
    refine wp_seq_k (fun K7 hK7 => ?_)
    refine wp_region_lit ?_
    refine wl_yield (o := ⟨_, _, _, _, _, _⟩) (.pointer (some ⟨g1, 0, none⟩)) (yl_move (by rfl) _ rfl _ rfl) ?_
    simp only [Act.put, lzA, lzB, lzC]
    refine wl_yield (o := ⟨_, _, _, _, _, _⟩) (.pointer (some ⟨g1, 0, none⟩)) (yl_assign (by rfl) _ rfl _ rfl) ?_
    simp only [Act.put, lzA, lzB, lzC]
    refine wpList_nil ?_
    refine hK7 _ _ ?_
    clear hK7 K7
    refine wp_ret ?_
    try simp only [Exit.inBlock, Exit.then]
    go_ret
    exact ⟨⟨g1, rfl, hg, Or.inl ⟨_, _, G, fun j _ => SetsAt.nil9 _⟩⟩, below_none D⟩
end Go.Proofs.YtjbgjdjmejhejaaGreatDoor
namespace Go.Proofs.YtjbgjdjmejhejaaGreatDoor
open Go.RowKit
def l5 : List SetV := [⟨false, [(1, 5)], false, []⟩]
def c5 : List SetV := [cellA, cellN (-9223372036854775808) 0, cellN 1 5, cellN 6 9223372036854775807, ⟨false, [], true, []⟩]
def c0 : List SetV := [cellA, cellN (-9223372036854775808) 9223372036854775807, ⟨false, [], true, []⟩]
theorem namesOf_nil : namesOf [] = [] := by unfold namesOf; rw [List.map_nil, List.mergeSort_nil]; rfl
theorem sorted_5 : sortedN (begL [(1, 5)]) = [-9223372036854775808, 1, 6] := by
  refine risesI_ext (sortedN_is _).1 ⟨fun b hb => ?_, ⟨fun b hb => ?_, ⟨fun b hb => by simp at hb, trivial⟩⟩⟩ (fun x => by rw [(sortedN_is _).2 x]; simp [begL, begR])
  · simp at hb; omega
  · simp at hb; omega
theorem sorted_0 : sortedN (begL []) = [-9223372036854775808] := by
  refine risesI_ext (sortedN_is _).1 ⟨fun b hb => by simp at hb, trivial⟩ (fun x => by rw [(sortedN_is _).2 x]; simp [begL])
theorem cutL_5 : cutL l5 = c5 := by
  have e1 : allR l5 = [(1, 5)] := rfl
  have e2 : allS l5 = [] := rfl
  unfold cutL
  rw [e1, e2, namesOf_nil, sorted_5]
  rfl
theorem cutL_0 : cutL [] = c0 := by
  have e1 : allR [] = [] := rfl
  have e2 : allS [] = [] := rfl
  unfold cutL
  rw [e1, e2, namesOf_nil, sorted_0]
  rfl
theorem few_5 : FewC l5 := fewC_of (fun S hS => by
  have : S = ⟨false, [(1, 5)], false, []⟩ := List.mem_singleton.1 hS
  subst this
  exact ⟨by decide, by decide⟩) (by decide)
theorem few_0 : FewC [] := fewC_of (fun S hS => by simp at hS) (by decide)
theorem itoa_0 : Lib.itoa ((0 : Nat) : Int) = [48] := by rw [Lib.itoa_nonneg]; unfold Lib.decDigits; rfl
theorem itoa_1 : Lib.itoa ((1 : Nat) : Int) = [49] := by rw [Lib.itoa_nonneg]; unfold Lib.decDigits; rfl
theorem fresh_a : freshC [⟨#[126, 48]⟩] = 1 := by
  refine (freshC_is _).1.uniq ⟨fun h => ?_, fun m hm => ?_⟩
  · have e := List.mem_singleton.1 h
    rw [← try_bs, itoa_1] at e
    exact absurd e (by decide)
  · obtain rfl : m = 0 := by omega
    rw [← try_bs, itoa_0]
    exact List.mem_singleton.2 rfl
def s1 : SetV := ⟨false, [], true, [⟨#[126, 48]⟩]⟩
theorem right_s1 : rightSet s1 = true := (rightSet_iff _).2 ⟨trivial, rightS_one (by decide)⟩
theorem fit_s1 : Fit s1 := ⟨⟨right_s1, fun r h => by cases h⟩, by decide, by decide⟩
theorem sample_s1 : sampleV s1 = some (2, 0, bs [126, 49]) := by
  unfold sampleV
  rw [if_pos right_s1]
  show some (2, 0, tryS tilde (freshC [⟨#[126, 48]⟩])) = _
  rw [fresh_a, ← try_bs, itoa_1]
  rfl
theorem has_c5 (j : Nat) (n : Int) : hasP (c5.getD j noSet) (1, n, noS) = inIntsB (c5.getD j noSet).ints n := by
  show hasB _ 1 n noS = _
  rw [has_1, rightB_1, Bool.true_and]
theorem which_6 : whichI c5 (1, 6, noS) = 3 := which_uniq (i := 3) (by decide) (by rw [has_c5]; decide) (fun j hj => by
  rw [has_c5]
  have : j = 0 ∨ j = 1 ∨ j = 2 := by omega
  rcases this with rfl | rfl | rfl <;> decide)
theorem which_7 : whichI c5 (7, 0, noS) = -1 := which_none (fun j hj => by
  show hasB _ 7 0 noS = false
  unfold hasB
  have : rightB 7 0 noS = false := rfl
  rw [this]; rfl)
theorem fit_cut {l : List SetV} (hl : InL l) (hf : FewC l) : ∀ S ∈ cutL l, Fit S := by
  intro S hS
  obtain ⟨i, hi, e⟩ := mem_getD noSet hS
  have h1 := cell_strs (B := sortedN (begL (allR l))) (N := namesOf (allS l)) hi
  have h2 := cutL_small hf S hS
  have h3 := cell_right (cut_of hl) hi
  rw [← e]
  refine ⟨⟨h3, ?_⟩, Nat.le_trans h1.2 (by decide), ?_⟩
  · show inI64 ((cellL (sortedN (begL (allR l))) (namesOf (allS l))).getD i noSet).ints
    rcases cellL_cases hi with rfl | ⟨j, hj, rfl⟩ | ⟨j, hj, rfl⟩ | rfl
    · rw [cellL_0]; intro r hr; cases hr
    · rw [cellL_num _ _ _ hj]; intro r hr
      have := (cut_of hl).hiIn j hj
      rw [show r = (_, _) from List.mem_singleton.1 hr]; dsimp only; omega
    · rw [cellL_str _ _ _ hj]; intro r hr; cases hr
    · rw [cellL_last]; intro r hr; cases hr
  · rw [← e] at h2; exact Nat.le_trans h2.2 (by decide)
theorem inL_5 : InL l5 := fun S hS => by
  have : S = ⟨false, [(1, 5)], false, []⟩ := List.mem_singleton.1 hS
  subst this
  exact ⟨fun r hr => by rw [List.mem_singleton.1 hr]; decide, fun s hs => by cases hs⟩
theorem fit_5 : ∀ S ∈ c5, Fit S := cutL_5 ▸ fit_cut inL_5 few_5
theorem sets_row1 {w : World} {g : Nat} {c : SC} {S : SetV} (h : StIn w g c) (hs : SetAt w c.val S) : SetsAt w (.slice (some ⟨g, 0, none⟩) 1 1) [S] :=
  sets_of_row (OwnT.row (ownT_one h (Nat.le_refl _)) (by simp)) ⟨rfl, fun i hi => by
    rw [List.length_singleton] at hi
    obtain rfl : i = 0 := by omega
    exact hs⟩
section
variable {ops : Array Oper} {S : World → Prop} {o : Oper} {a : Act}
theorem yq_eqRg (hw : Region.wanted o (yielded ops a.tmps) = true) (x y : Operand) (t : TypeId) (ho : o.op = .binOp .eql 111 x y t) (p q : Int) (hx : a.eval x = .agg #[.int .i64 p, .int .i64 q]) (hy : a.eval y = .agg #[.int .i64 p, .int .i64 q]) : YieldsIf Tryz.prog ops S o (.bool true) a :=
  Or.inl ⟨hw, fun w hS => by
    simp only [execOp, ho, hx, hy]
    go_simp⟩
end
theorem cnt_81 : ((cntU (fun _ => (cutL []).length) 4 : Nat) : Int) = 81 := by rw [cutL_0]; decide
set_option maxHeartbeats 4000000 in
set_option maxRecDepth 100000 in
theorem awake9_any (w : World) (HE : Env w) :
    Calls Tryz.prog 16 #[] w fun r w' => r = .returned (.bool true) ∧ Below w.heap.size w w' := by
  have w6 : 2 ≤ w.heap.size := HE.big
  have D : w.grownBy w none := grown_refl _ _
  go_enter Tryz.func16, Tryz.ntmps16
  refine wp_seq_k (fun K1 hK1 => ?_)
  refine wp_region_lit ?_
  refine wl_yield (o := ⟨_, _, _, _, _, _⟩) (.bool false) (yl_assign (by rfl) _ rfl _ rfl) ?_
  simp only [Act.put, lzA, lzB, lzC]
  refine wpList_nil ?_
  refine hK1 _ _ ?_
  clear hK1 K1
  refine wp_seq_k (fun K2 hK2 => ?_)
  refine wp_region_lit ?_
  refine wl_yield (o := ⟨_, _, _, _, _, _⟩) (.agg #[.int .i64 1, .int .i64 5]) (yt_buildR (by rfl) _ _ rfl 1 5 rfl rfl) ?_
  simp only [Act.put, lzA, lzB, lzC]
  refine wt_row1R (o := ⟨_, _, _, _, _, _⟩) (by rfl) _ rfl (1, 5) rfl (fun v1 g1 hg G1 kb => ?_)
  have ge_g1 : w.heap.size ≤ g1 := Nat.le_trans D.size hg
  have six_g1 : 2 ≤ g1 := Nat.le_trans w6 ge_g1
  clear hg
  replace D := grown_below D kb
  replace HE := HE.on kb
  clear kb
  simp only [Act.put, lzA, lzB, lzC]
  refine wl_yield (o := ⟨_, _, _, _, _, _⟩) (.agg #[.bool false, .slice (some ⟨g1, 0, none⟩) 1 1, .bool false, .slice none 0 0]) (yq_bS1 (by rfl) _ rfl (some ⟨g1, 0, none⟩) 1 1 rfl) ?_
  simp only [Act.put, lzA, lzB, lzC]
  refine wq_row1Q (o := ⟨_, _, _, _, _, _⟩) (by rfl) _ rfl ⟨false, (some ⟨g1, 0, none⟩), 1, 1, false, none, 0, 0⟩ rfl (fun v2 g2 hg G2 kb => ?_)
  have n_g1_g2 : g1 ≠ g2 := by have := lt_heap G1; omega
  have ge_g2 : w.heap.size ≤ g2 := Nat.le_trans D.size hg
  have six_g2 : 2 ≤ g2 := Nat.le_trans w6 ge_g2
  clear hg
  replace D := grown_below D kb
  replace HE := HE.on kb
  replace G1 := heap_on G1 kb
  clear kb
  replace G2 : v2.heap[g2]? = some (.cells #[.bool false, .slice (some ⟨g1, 0, none⟩) 1 1, .bool false, .slice none 0 0] 26 (0, 0)) := G2
  simp only [Act.put, lzA, lzB, lzC]
  refine wt_call (o := ⟨_, _, _, _, _, _⟩) (by rfl) 18 _ _ rfl #[.slice (some ⟨g2, 0, none⟩) 1 1] rfl (run_call Tryz.func18 (by kernel_rfl) (by kernel_rfl)) ?_
  refine (cut_any _ l5 _ (sets_row1 (c := ⟨false, some ⟨g1, 0, none⟩, 1, 1, false, none, 0, 0⟩) G2 ⟨_, _, rfl, one_rng G1 (by decide) (by decide), strs_none _⟩) few_5).mono ?_
  rintro r v3 (⟨⟨u, rfl, HC⟩, kb⟩)
  · replace D := grown_below D kb
    replace HE := HE.on kb
    replace G1 := heap_on G1 kb
    replace G2 := heap_on G2 kb
    clear kb
    obtain ⟨a5, cap5, rfl⟩ : ∃ a5 cap5, u = .slice a5 5 cap5 := by
      obtain ⟨q, e1, e2⟩ := HC.form
      rw [cutL_5] at e2
      exact ⟨q.p, q.c, by rw [e1]; unfold Sl.val; rw [e2]; rfl⟩
    have HS := HC.sets (Kept.refl _ _)
    rw [cutL_5] at HS
    clear HC
    have D2 : v3.grownBy v3 none := grown_refl _ _
    refine Or.inl ⟨.slice a5 5 cap5, rfl, ?_⟩
    simp only [Act.put, lzA, lzB, lzC]
    refine wl_yield (o := ⟨_, _, _, _, _, _⟩) (.slice a5 5 cap5) (yl_assign (by rfl) _ rfl _ rfl) ?_
    simp only [Act.put, lzA, lzB, lzC]
    refine wpList_nil ?_
    refine hK2 _ _ ?_
    clear hK2 K2
    refine wp_seq_k (fun K3 hK3 => ?_)
    refine wp_region_lit ?_
    refine wt_row1S (o := ⟨_, _, _, _, _, _⟩) (by rfl) _ rfl (bs ([126, 48])) rfl (fun v4 g4 hg G4 kb => ?_)
    have n_g1_g4 : g1 ≠ g4 := by have := lt_heap G1; omega
    have n_g2_g4 : g2 ≠ g4 := by have := lt_heap G2; omega
    have ge_g4 : w.heap.size ≤ g4 := Nat.le_trans D.size hg
    have ge_D2_g4 : v3.heap.size ≤ g4 := Nat.le_trans D2.size hg
    have six_g4 : 2 ≤ g4 := Nat.le_trans w6 ge_g4
    clear hg
    replace D := grown_below D kb
    replace HE := HE.on kb
    replace G1 := heap_on G1 kb
    replace G2 := heap_on G2 kb
    replace D2 := grown_below D2 kb
    clear kb
    simp only [Act.put, lzA, lzB, lzC]
    refine wl_yield (o := ⟨_, _, _, _, _, _⟩) (.agg #[.bool false, .slice none 0 0, .bool true, .slice (some ⟨g4, 0, none⟩) 1 1]) (yq_bS23 (by rfl) _ _ rfl true (some ⟨g4, 0, none⟩) 1 1 rfl rfl) ?_
    simp only [Act.put, lzA, lzB, lzC]
    refine wt_call (o := ⟨_, _, _, _, _, _⟩) (by rfl) 25 _ _ rfl #[.agg #[.bool false, .slice none 0 0, .bool true, .slice (some ⟨g4, 0, none⟩) 1 1]] rfl (run_call Tryz.func25 (by kernel_rfl) (by kernel_rfl)) ?_
    refine (sample_any _ s1 _ HE (show SetAt _ (SC.val ⟨false, none, 0, 0, true, some ⟨g4, 0, none⟩, 1, 1⟩) s1 from ⟨_, _, rfl, rngs_none _, one_str G4 (by decide)⟩) (fun _ => fit_s1)).mono ?_
    rintro r v5 (⟨rfl, kb⟩)
    · replace D := grown_below D kb
      replace HE := HE.on kb
      replace G1 := heap_on G1 kb
      replace G2 := heap_on G2 kb
      replace D2 := grown_below D2 kb
      replace G4 := heap_on G4 kb
      clear kb
      refine Or.inl ⟨.tuple #[.agg #[.int .i64 2, .int .i64 0, .string (bs ([126, 49]))], .bool true], by rw [sample_s1]; rfl, ?_⟩
      simp only [Act.put, lzA, lzB, lzC]
      refine wl_yield (o := ⟨_, _, _, _, _, _⟩) (.tuple #[.agg #[.int .i64 2, .int .i64 0, .string (bs ([126, 49]))], .bool true]) (yl_move (by rfl) _ rfl _ rfl) ?_
      simp only [Act.put, lzA, lzB, lzC]
      refine wl_yield (o := ⟨_, _, _, _, _, _⟩) (.agg #[.int .i64 2, .int .i64 0, .string (bs ([126, 49]))]) (yl_extract0 (by rfl) _ rfl _ _ rfl) ?_
      simp only [Act.put, lzA, lzB, lzC]
      refine wl_yield (o := ⟨_, _, _, _, _, _⟩) (.bool true) (yl_extract1 (by rfl) _ rfl _ _ rfl) ?_
      simp only [Act.put, lzA, lzB, lzC]
      refine wt_allocVa (o := ⟨_, _, _, _, _, _⟩) (by rfl) rfl (fun v6 g6 hg G6 kb => ?_)
      simp only [Act.put, lzA, lzB, lzC]
      have n_g1_g6 : g1 ≠ g6 := by have := lt_heap G1; omega
      have n_g2_g6 : g2 ≠ g6 := by have := lt_heap G2; omega
      have n_g4_g6 : g4 ≠ g6 := by have := lt_heap G4; omega
      have ge_g6 : w.heap.size ≤ g6 := Nat.le_trans D.size hg
      have ge_D2_g6 : v3.heap.size ≤ g6 := Nat.le_trans D2.size hg
      have six_g6 : 2 ≤ g6 := Nat.le_trans w6 ge_g6
      clear hg
      replace D := grown_below D kb
      replace HE := HE.on kb
      replace G1 := heap_on G1 kb
      replace G2 := heap_on G2 kb
      replace D2 := grown_below D2 kb
      replace G4 := heap_on G4 kb
      clear kb
      replace G6 : v6.heap[g6]? = some (.cells #[.int .i64 0, .int .i64 0, .string (bs ([]))] 48 (0, 0)) := G6
      refine wt_putVa (o := ⟨_, _, _, _, _, _⟩) rfl _ _ rfl _ rfl ((2, 0, (bs ([126, 49])))) rfl G6 rfl (fun v7 X kg => ?_)
      simp only [Act.put, lzA, lzB, lzC]
      replace D := gr_new D ge_g6 kg
      replace HE := Env.gr HE kg six_g6
      replace G1 := heap_gr G1 kg n_g1_g6
      replace G2 := heap_gr G2 kg n_g2_g6
      replace D2 := gr_new D2 ge_D2_g6 kg
      replace G4 := heap_gr G4 kg n_g4_g6
      clear kg
      replace G6 : v7.heap[g6]? = some (.cells #[.int .i64 2, .int .i64 0, .string (bs ([126, 49]))] 48 (0, 0)) := X
      clear X
      refine wl_yield (o := ⟨_, _, _, _, _, _⟩) (.bool true) (yl_assign (by rfl) _ rfl _ rfl) ?_
      simp only [Act.put, lzA, lzB, lzC]
      refine wpList_nil ?_
      refine hK3 _ _ ?_
      clear hK3 K3
      refine wp_seq_k (fun K4 hK4 => ?_)
      refine wp_region_lit ?_
      refine wt_call (o := ⟨_, _, _, _, _, _⟩) (by rfl) 30 _ _ rfl #[.slice none 0 0] rfl (run_call Tryz.func30 (by kernel_rfl) (by kernel_rfl)) ?_
      refine (new0_any _).mono ?_
      rintro r v8 (⟨⟨b9, rfl, hb, OK⟩, kb⟩)
      · have hgb := Nat.le_trans D.size hb
        replace D := grown_below D kb
        replace HE := HE.on kb
        replace G1 := heap_on G1 kb
        replace G2 := heap_on G2 kb
        replace D2 := grown_below D2 kb
        replace G4 := heap_on G4 kb
        replace G6 := heap_on G6 kb
        clear kb
        have HS1 := HS.on (below_none D2)
        obtain ⟨gC, oC, vi0, vs0, rfl, hgC, A0, -, -, -, -, -⟩ := HS1.at.2 0 (by decide)
        obtain ⟨g2', o2', vi2, vs2, e2, -, -, A2, -, -, RI2, -⟩ := HS1.at.2 2 (by decide)
        obtain ⟨g4', o4', vi4, vs4, e4, -, -, -, A4, -, -, -⟩ := HS1.at.2 4 (by decide)
        injection e2 with e2
        injection e2 with e2 e2'
        subst e2 e2'
        injection e4 with e4
        injection e4 with e4 e4'
        subst e4 e4'
        obtain ⟨aI, cI, rfl⟩ := RI2.form
        obtain ⟨gI, oI, rfl, -, B0, B1⟩ := RI2.at.2 0 (by decide)
        refine Or.inl ⟨.pointer (some ⟨b9, 0, none⟩), rfl, ?_⟩
        simp only [Act.put, lzA, lzB, lzC]
        refine wl_yield (o := ⟨_, _, _, _, _, _⟩) (.pointer (some ⟨b9, 0, none⟩)) (yl_assign (by rfl) _ rfl _ rfl) ?_
        simp only [Act.put, lzA, lzB, lzC]
        refine wpList_nil ?_
        refine hK4 _ _ ?_
        clear hK4 K4
        refine wp_seq_k (fun K5 hK5 => ?_)
        refine wp_region_lit ?_
        refine wl_yield (o := ⟨_, _, _, _, _, _⟩) (.slice (some ⟨gC, oC, none⟩) 5 cap5) (yl_move (by rfl) _ rfl _ rfl) ?_
        simp only [Act.put, lzA, lzB, lzC]
        refine wl_yield (o := ⟨_, _, _, _, _, _⟩) (.int .i64 5) (yt_lenQ (by rfl) _ rfl (some ⟨gC, oC, none⟩) 5 cap5 rfl) ?_
        simp only [Act.put, lzA, lzB, lzC]
        refine wl_yield (o := ⟨_, _, _, _, _, _⟩) (.bool true) (yt_eqlI (by rfl) _ _ _ rfl 5 5 true rfl rfl (by decide)) ?_
        simp only [Act.put, lzA, lzB, lzC]
        refine wl_yield (o := ⟨_, _, _, _, _, _⟩) (.bool true) (yl_move (by rfl) _ rfl _ rfl) ?_
        simp only [Act.put, lzA, lzB, lzC]
        refine wl_yield (o := ⟨_, _, _, _, _, _⟩) (.slice (some ⟨gC, oC, none⟩) 5 cap5) (yl_move (by rfl) _ rfl _ rfl) ?_
        simp only [Act.put, lzA, lzB, lzC]
        refine wl_yield (o := ⟨_, _, _, _, _, _⟩) (.pointer (some ⟨gC, oC + 0 * 4, none⟩)) (yt_atQ (by rfl) _ _ rfl gC oC _ _ 0 rfl rfl (by decide)) ?_
        simp only [Act.put, lzA, lzB, lzC]
        refine wl_yield (o := ⟨_, _, _, _, _, _⟩) (.pointer (some ⟨gC, oC + 0 * 4 + 0, none⟩)) (yt_fSt0 (by rfl) _ rfl gC (oC + 0 * 4) rfl) ?_
        simp only [Act.put, lzA, lzB, lzC]
        refine wl_yield (o := ⟨_, _, _, _, _, _⟩) (.bool true) (yt_ldB (by rfl) _ rfl _ _ rfl _ (fun _ h => by subst h; exact A0)) ?_
        simp only [Act.put, lzA, lzB, lzC]
        refine wl_yield (o := ⟨_, _, _, _, _, _⟩) (.bool true) (yl_pickT (by rfl) _ _ _ rfl rfl _ rfl) ?_
        simp only [Act.put, lzA, lzB, lzC]
        refine wl_yield (o := ⟨_, _, _, _, _, _⟩) (.bool true) (yl_move (by rfl) _ rfl _ rfl) ?_
        simp only [Act.put, lzA, lzB, lzC]
        refine wl_yield (o := ⟨_, _, _, _, _, _⟩) (.slice (some ⟨gC, oC, none⟩) 5 cap5) (yl_move (by rfl) _ rfl _ rfl) ?_
        simp only [Act.put, lzA, lzB, lzC]
        refine wl_yield (o := ⟨_, _, _, _, _, _⟩) (.pointer (some ⟨gC, oC + 2 * 4, none⟩)) (yt_atQ (by rfl) _ _ rfl gC oC _ _ 2 rfl rfl (by decide)) ?_
        simp only [Act.put, lzA, lzB, lzC]
        refine wl_yield (o := ⟨_, _, _, _, _, _⟩) (.pointer (some ⟨gC, oC + 2 * 4 + 1, none⟩)) (yt_fSt1 (by rfl) _ rfl gC (oC + 2 * 4) rfl) ?_
        simp only [Act.put, lzA, lzB, lzC]
        refine wl_yield (o := ⟨_, _, _, _, _, _⟩) (.slice (some ⟨gI, oI, none⟩) 1 cI) (yt_ldLr (by rfl) _ rfl _ _ rfl _ _ _ (fun _ h => by subst h; exact A2)) ?_
        simp only [Act.put, lzA, lzB, lzC]
        refine wl_yield (o := ⟨_, _, _, _, _, _⟩) (.int .i64 1) (yt_lenR (by rfl) _ rfl (some ⟨gI, oI, none⟩) 1 cI rfl) ?_
        simp only [Act.put, lzA, lzB, lzC]
        refine wl_yield (o := ⟨_, _, _, _, _, _⟩) (.bool true) (yt_eqlI (by rfl) _ _ _ rfl 1 1 true rfl rfl (by decide)) ?_
        simp only [Act.put, lzA, lzB, lzC]
        refine wl_yield (o := ⟨_, _, _, _, _, _⟩) (.bool true) (yl_pickT (by rfl) _ _ _ rfl rfl _ rfl) ?_
        simp only [Act.put, lzA, lzB, lzC]
        refine wl_yield (o := ⟨_, _, _, _, _, _⟩) (.bool true) (yl_move (by rfl) _ rfl _ rfl) ?_
        simp only [Act.put, lzA, lzB, lzC]
        refine wl_yield (o := ⟨_, _, _, _, _, _⟩) (.slice (some ⟨gC, oC, none⟩) 5 cap5) (yl_move (by rfl) _ rfl _ rfl) ?_
        simp only [Act.put, lzA, lzB, lzC]
        refine wl_yield (o := ⟨_, _, _, _, _, _⟩) (.pointer (some ⟨gC, oC + 2 * 4, none⟩)) (yt_atQ (by rfl) _ _ rfl gC oC _ _ 2 rfl rfl (by decide)) ?_
        simp only [Act.put, lzA, lzB, lzC]
        refine wl_yield (o := ⟨_, _, _, _, _, _⟩) (.pointer (some ⟨gC, oC + 2 * 4 + 1, none⟩)) (yt_fSt1 (by rfl) _ rfl gC (oC + 2 * 4) rfl) ?_
        simp only [Act.put, lzA, lzB, lzC]
        refine wl_yield (o := ⟨_, _, _, _, _, _⟩) (.slice (some ⟨gI, oI, none⟩) 1 cI) (yt_ldLr (by rfl) _ rfl _ _ rfl _ _ _ (fun _ h => by subst h; exact A2)) ?_
        simp only [Act.put, lzA, lzB, lzC]
        refine wl_yield (o := ⟨_, _, _, _, _, _⟩) (.pointer (some ⟨gI, oI + 0 * 2, none⟩)) (yt_atR (by rfl) _ _ rfl gI oI _ _ 0 rfl rfl (by decide)) ?_
        simp only [Act.put, lzA, lzB, lzC]
        refine wl_yield (o := ⟨_, _, _, _, _, _⟩) (.agg #[.int .i64 1, .int .i64 5]) (yt_ldRg (by rfl) _ rfl _ _ rfl _ _ (fun _ h => by subst h; exact ⟨B0, B1⟩)) ?_
        simp only [Act.put, lzA, lzB, lzC]
        refine wl_yield (o := ⟨_, _, _, _, _, _⟩) (.agg #[.int .i64 1, .int .i64 5]) (yt_buildR (by rfl) _ _ rfl 1 5 rfl rfl) ?_
        simp only [Act.put, lzA, lzB, lzC]
        refine wl_yield (o := ⟨_, _, _, _, _, _⟩) (.bool true) (yq_eqRg (by rfl) _ _ _ rfl 1 5 rfl rfl) ?_
        simp only [Act.put, lzA, lzB, lzC]
        refine wl_yield (o := ⟨_, _, _, _, _, _⟩) (.bool true) (yl_pickT (by rfl) _ _ _ rfl rfl _ rfl) ?_
        simp only [Act.put, lzA, lzB, lzC]
        refine wl_yield (o := ⟨_, _, _, _, _, _⟩) (.bool true) (yl_move (by rfl) _ rfl _ rfl) ?_
        simp only [Act.put, lzA, lzB, lzC]
        refine wl_yield (o := ⟨_, _, _, _, _, _⟩) (.slice (some ⟨gC, oC, none⟩) 5 cap5) (yl_move (by rfl) _ rfl _ rfl) ?_
        simp only [Act.put, lzA, lzB, lzC]
        refine wl_yield (o := ⟨_, _, _, _, _, _⟩) (.pointer (some ⟨gC, oC + 4 * 4, none⟩)) (yt_atQ (by rfl) _ _ rfl gC oC _ _ 4 rfl rfl (by decide)) ?_
        simp only [Act.put, lzA, lzB, lzC]
        refine wl_yield (o := ⟨_, _, _, _, _, _⟩) (.pointer (some ⟨gC, oC + 4 * 4 + 2, none⟩)) (yt_fSt2 (by rfl) _ rfl gC (oC + 4 * 4) rfl) ?_
        simp only [Act.put, lzA, lzB, lzC]
        refine wl_yield (o := ⟨_, _, _, _, _, _⟩) (.bool true) (yt_ldB (by rfl) _ rfl _ _ rfl _ (fun _ h => by subst h; exact A4)) ?_
        simp only [Act.put, lzA, lzB, lzC]
        refine wl_yield (o := ⟨_, _, _, _, _, _⟩) (.bool true) (yl_pickT (by rfl) _ _ _ rfl rfl _ rfl) ?_
        simp only [Act.put, lzA, lzB, lzC]
        refine wl_yield (o := ⟨_, _, _, _, _, _⟩) (.bool true) (yl_move (by rfl) _ rfl _ rfl) ?_
        simp only [Act.put, lzA, lzB, lzC]
        refine wl_yield (o := ⟨_, _, _, _, _, _⟩) (.bool true) (yl_move (by rfl) _ rfl _ rfl) ?_
        simp only [Act.put, lzA, lzB, lzC]
        refine wl_yield (o := ⟨_, _, _, _, _, _⟩) (.bool true) (yl_pickT (by rfl) _ _ _ rfl rfl _ rfl) ?_
        simp only [Act.put, lzA, lzB, lzC]
        refine wl_yield (o := ⟨_, _, _, _, _, _⟩) (.bool true) (yl_move (by rfl) _ rfl _ rfl) ?_
        simp only [Act.put, lzA, lzB, lzC]
        refine wl_yield (o := ⟨_, _, _, _, _, _⟩) (.pointer (some ⟨g6, 2, none⟩)) (yt_fVa2 (by rfl) _ rfl g6 0 rfl) ?_
        simp only [Act.put, lzA, lzB, lzC]
        refine wl_yield (o := ⟨_, _, _, _, _, _⟩) (.string (bs ([126, 49]))) (yt_ldS (by rfl) _ rfl _ _ rfl (bs ([126, 49])) (fun _ h => by subst h; exact cell_heap G6 2)) ?_
        simp only [Act.put, lzA, lzB, lzC]
        refine wl_yield (o := ⟨_, _, _, _, _, _⟩) (.bool true) (yt_eqS (by rfl) _ _ _ rfl ([126, 49]) ([126, 49]) true rfl rfl (by decide)) ?_
        simp only [Act.put, lzA, lzB, lzC]
        refine wl_yield (o := ⟨_, _, _, _, _, _⟩) (.bool true) (yl_pickT (by rfl) _ _ _ rfl rfl _ rfl) ?_
        simp only [Act.put, lzA, lzB, lzC]
        refine wl_yield (o := ⟨_, _, _, _, _, _⟩) (.bool true) (yl_move (by rfl) _ rfl _ rfl) ?_
        simp only [Act.put, lzA, lzB, lzC]
        refine wl_yield (o := ⟨_, _, _, _, _, _⟩) (.slice (some ⟨gC, oC, none⟩) 5 cap5) (yl_move (by rfl) _ rfl _ rfl) ?_
        simp only [Act.put, lzA, lzB, lzC]
        refine wl_yield (o := ⟨_, _, _, _, _, _⟩) (.agg #[.int .i64 1, .int .i64 6, .string ⟨#[]⟩]) (yq_bV2 (by rfl) _ _ rfl 1 6 rfl rfl) ?_
        simp only [Act.put, lzA, lzB, lzC]
        refine wt_call (o := ⟨_, _, _, _, _, _⟩) (by rfl) 27 _ _ rfl #[.slice (some ⟨gC, oC, none⟩) 5 cap5, .agg #[.int .i64 1, .int .i64 6, .string ⟨#[]⟩]] rfl (run_call Tryz.func27 (by kernel_rfl) (by kernel_rfl)) ?_
        refine (which_any _ c5 (1, 6, noS) _ (HS.on (below_none D2)) fit_5 (by decide)).mono ?_
        rintro r v9 (⟨rfl, kb⟩)
        · replace D := grown_below D kb
          replace HE := HE.on kb
          replace G1 := heap_on G1 kb
          replace G2 := heap_on G2 kb
          replace D2 := grown_below D2 kb
          replace G4 := heap_on G4 kb
          replace G6 := heap_on G6 kb
          replace OK := OK.on kb
          clear kb
          refine Or.inl ⟨.int .i64 3, ret_int which_6, ?_⟩
          simp only [Act.put, lzA, lzB, lzC]
          refine wl_yield (o := ⟨_, _, _, _, _, _⟩) (.bool true) (yt_eqlI (by rfl) _ _ _ rfl 3 3 true rfl rfl (by decide)) ?_
          simp only [Act.put, lzA, lzB, lzC]
          refine wl_yield (o := ⟨_, _, _, _, _, _⟩) (.bool true) (yl_pickT (by rfl) _ _ _ rfl rfl _ rfl) ?_
          simp only [Act.put, lzA, lzB, lzC]
          refine wl_yield (o := ⟨_, _, _, _, _, _⟩) (.bool true) (yl_move (by rfl) _ rfl _ rfl) ?_
          simp only [Act.put, lzA, lzB, lzC]
          refine wl_yield (o := ⟨_, _, _, _, _, _⟩) (.slice (some ⟨gC, oC, none⟩) 5 cap5) (yl_move (by rfl) _ rfl _ rfl) ?_
          simp only [Act.put, lzA, lzB, lzC]
          refine wl_yield (o := ⟨_, _, _, _, _, _⟩) (.agg #[.int .i64 7, .int .i64 0, .string ⟨#[]⟩]) (yq_bV1 (by rfl) _ rfl 7 rfl) ?_
          simp only [Act.put, lzA, lzB, lzC]
          refine wt_call (o := ⟨_, _, _, _, _, _⟩) (by rfl) 27 _ _ rfl #[.slice (some ⟨gC, oC, none⟩) 5 cap5, .agg #[.int .i64 7, .int .i64 0, .string ⟨#[]⟩]] rfl (run_call Tryz.func27 (by kernel_rfl) (by kernel_rfl)) ?_
          refine (which_any _ c5 (7, 0, noS) _ (HS.on (below_none D2)) fit_5 (by decide)).mono ?_
          rintro r v10 (⟨rfl, kb⟩)
          · replace D := grown_below D kb
            replace HE := HE.on kb
            replace G1 := heap_on G1 kb
            replace G2 := heap_on G2 kb
            replace D2 := grown_below D2 kb
            replace G4 := heap_on G4 kb
            replace G6 := heap_on G6 kb
            replace OK := OK.on kb
            clear kb
            refine Or.inl ⟨.int .i64 (-1), ret_int which_7, ?_⟩
            simp only [Act.put, lzA, lzB, lzC]
            refine wl_yield (o := ⟨_, _, _, _, _, _⟩) (.bool true) (yt_eqlI (by rfl) _ _ _ rfl (-1) (-1) true rfl rfl (by decide)) ?_
            simp only [Act.put, lzA, lzB, lzC]
            refine wl_yield (o := ⟨_, _, _, _, _, _⟩) (.bool true) (yl_pickT (by rfl) _ _ _ rfl rfl _ rfl) ?_
            simp only [Act.put, lzA, lzB, lzC]
            refine wl_yield (o := ⟨_, _, _, _, _, _⟩) (.bool true) (yl_move (by rfl) _ rfl _ rfl) ?_
            simp only [Act.put, lzA, lzB, lzC]
            refine wl_yield (o := ⟨_, _, _, _, _, _⟩) (.pointer (some ⟨b9, 0, none⟩)) (yl_move (by rfl) _ rfl _ rfl) ?_
            simp only [Act.put, lzA, lzB, lzC]
            refine wt_call (o := ⟨_, _, _, _, _, _⟩) (by rfl) 32 _ _ rfl #[.pointer (some ⟨b9, 0, none⟩)] rfl (run_call Tryz.func32 (by kernel_rfl) (by kernel_rfl)) ?_
            refine (count_any b9 (fun _ => []) _ OK (fun _ _ => few_0)).mono ?_
            rintro r v11 (⟨rfl, ok, kg⟩)
            · replace D := gr_new D hgb kg
              clear OK HS HE D2
              have OK := ok
              clear ok kg
              refine Or.inl ⟨.int .i64 81, ret_int cnt_81, ?_⟩
              simp only [Act.put, lzA, lzB, lzC]
              refine wl_yield (o := ⟨_, _, _, _, _, _⟩) (.bool true) (yt_eqlI (by rfl) _ _ _ rfl 81 81 true rfl rfl (by decide)) ?_
              simp only [Act.put, lzA, lzB, lzC]
              refine wl_yield (o := ⟨_, _, _, _, _, _⟩) (.bool true) (yl_pickT (by rfl) _ _ _ rfl rfl _ rfl) ?_
              simp only [Act.put, lzA, lzB, lzC]
              refine wl_yield (o := ⟨_, _, _, _, _, _⟩) (.bool true) (yl_move (by rfl) _ rfl _ rfl) ?_
              simp only [Act.put, lzA, lzB, lzC]
              refine wl_yield (o := ⟨_, _, _, _, _, _⟩) (.pointer (some ⟨b9, 0, none⟩)) (yl_move (by rfl) _ rfl _ rfl) ?_
              simp only [Act.put, lzA, lzB, lzC]
              refine wt_call (o := ⟨_, _, _, _, _, _⟩) (by rfl) 31 _ _ rfl #[.pointer (some ⟨b9, 0, none⟩), .int .i64 0] rfl (run_call Tryz.func31 (by kernel_rfl) (by kernel_rfl)) ?_
              refine (attr_any b9 0 (by decide) (fun _ => []) _ OK (fun _ _ => few_0)).mono ?_
              rintro r v12 (⟨⟨u9, rfl, HC9⟩, ok, kg⟩)
              · replace D := gr_new D hgb kg
                obtain ⟨q9, rfl, hq9⟩ := HC9.form
                rw [cutL_0] at hq9
                clear OK ok kg
                refine Or.inl ⟨Sl.val q9, rfl, ?_⟩
                simp only [Act.put, lzA, lzB, lzC]
                refine wl_yield (o := ⟨_, _, _, _, _, _⟩) (.int .i64 (q9.n : Nat)) (yt_lenQ (by rfl) _ rfl q9.p q9.n q9.c rfl) ?_
                simp only [Act.put, lzA, lzB, lzC]
                refine wl_yield (o := ⟨_, _, _, _, _, _⟩) (.bool true) (yt_eqlI (by rfl) _ _ _ rfl ((q9.n : Nat) : Int) 3 true rfl rfl (by rw [hq9]; decide)) ?_
                simp only [Act.put, lzA, lzB, lzC]
                refine wl_yield (o := ⟨_, _, _, _, _, _⟩) (.bool true) (yl_pickT (by rfl) _ _ _ rfl rfl _ rfl) ?_
                simp only [Act.put, lzA, lzB, lzC]
                refine wl_yield (o := ⟨_, _, _, _, _, _⟩) (.bool true) (yl_assign (by rfl) _ rfl _ rfl) ?_
                simp only [Act.put, lzA, lzB, lzC]
                refine wpList_nil ?_
                refine hK5 _ _ ?_
                clear hK5 K5
                refine wp_ret ?_
                try simp only [Exit.inBlock, Exit.then]
                go_ret
                exact ⟨rfl, below_none D⟩
end Go.Proofs.YtjbgjdjmejhejaaGreatDoor
namespace Go.Proofs.YtjbgjdjmejhejaaGreatDoor
open Go.RowKit
attribute [local go_sem ↓] Go.wp_at_zero Go.wp_at_succ
end Go.Proofs.YtjbgjdjmejhejaaGreatDoor
namespace Go.Proofs.YtjbgjdjmejhejaaGreatDoor
open Go.RowKit
section
variable {ops : Array Oper} {S : World → Prop} {o : Oper} {a : Act}
end
end Go.Proofs.YtjbgjdjmejhejaaGreatDoor
namespace Go.Proofs.YtjbgjdjmejhejaaGreatDoor
open Go.RowKit
section
variable {ops : Array Oper} {S : World → Prop} {o : Oper} {a : Act}
end
theorem fit_few {S : SetV} (hr : rightSet S = true) (hi : inI64 S.ints) (h : fewB S = true) : Fit S := by
  unfold fewB at h
  simp only [Bool.and_eq_true, decide_eq_true_eq] at h
  exact ⟨⟨hr, hi⟩, by omega, by omega⟩
theorem few_len9 {S : SetV} (h : fewB S = true) : S.ints.length ≤ 40 ∧ S.strs.length ≤ 40 := by
  unfold fewB at h
  simp only [Bool.and_eq_true, decide_eq_true_eq] at h
  exact ⟨by omega, by omega⟩
end Go.Proofs.YtjbgjdjmejhejaaGreatDoor
namespace Go.Proofs.YtjbgjdjmejhejaaGreatDoor
open Go.Deep Go.ChangeShapes Go.WideShapes Go.ChangeAt Go.WideMaps Go.WideElems Go.RowKit Go.Joins
section
variable {H : Type} {enc : TypeId × Value → H} {W : World}
theorem open_set9c {fuel : Nat} {cs : List Value} {z : DataW H × List MemPlace} (hl : cs.length = 4) (hf : DataW.trod enc Tryz.prog W 0 (fun _ => true) true fuel 26 cs = some z) : ∃ (c : SC) (S : SetV), cs = c.lst ∧ SetAt W c.val S := by
  match cs, hl with
  | [c0, c1, c2, c3], _ =>
    obtain ⟨S0, h0⟩ := open_setc hf
    obtain ⟨s0, e0⟩ := h0.sc
    rw [e0] at h0
    unfold SC.val at e0
    simp at e0
    obtain ⟨rfl, rfl, rfl, rfl⟩ := e0
    exact ⟨s0, S0, rfl, h0⟩
set_option maxRecDepth 100000 in
theorem open_setsA {r : Reach} {b0 : Nat} {v : Value} {d : DataW H} {p : List MemPlace} (hv : Value.okWide Tryz.prog W r b0 39 v) (h : DataW.Trod enc Tryz.prog W 0 (fun _ => true) true 39 v d p) :
    ∃ l : List SetV, Sts W v l ∧ nilOkQ v := by
  obtain ⟨a0, len0, cap0, rfl⟩ := Go.WideShapes.okWide_slice Tryz.underlying39 hv
  obtain ⟨fuel, hf⟩ := h
  rcases DataW.trod_slice Tryz.underlying39 hf with ⟨h0, _⟩ | ⟨a, len, cap, elems, rest, n', rfl, h0, _, hb, hlc, hm, hel, he, _, _⟩
  · simp [Value.cells] at h0
    obtain ⟨rfl, rfl, rfl⟩ := h0
    exact ⟨[], sts_nil W, fun _ _ _ => rfl⟩
  · simp [Value.cells] at h0
    obtain ⟨rfl, rfl, rfl⟩ := h0
    have hone : ∀ i, i < len0 → ∃ cs' z, W.cells? 0 (a.add (i * 4)) 4 = some cs' ∧ DataW.trod enc Tryz.prog W 0 (fun _ => true) true n' 26 cs' = some z := fun i hi => by
      have h1 := he i hi
      rw [cellsSet, List.getElem?_eq_getElem (by omega), Option.bind_eq_some_iff] at h1
      obtain ⟨cs', h2, h3⟩ := h1
      exact ⟨cs', _, h2, h3⟩
    have hspot : 0 < len0 → a.spot = none := fun hpos => by
      obtain ⟨cs0, _, z1, _⟩ := hone 0 hpos
      obtain ⟨_, zl, zc⟩ := World.cells?_some z1
      have z0 := zc 0 (by omega)
      rw [List.getElem?_eq_getElem (by omega)] at z0
      simpa [Addr.add] using World.cell?_spot z0
    have hall : ∀ i, i < len0 → ∃ q : SC × SetV, W.rangeAt a.block (a.off + i * 4) q.1.lst ∧ SetAt W q.1.val q.2 := fun i hi => by
      obtain ⟨cs', z, h1, h2⟩ := hone i hi
      obtain ⟨_, zl, zc⟩ := World.cells?_some h1
      obtain ⟨c, b, hd, hx⟩ := open_set9c zl h2
      obtain ⟨bk, off, spot⟩ := a
      have hs : spot = none := hspot (by omega)
      subst hs hd
      have fj : ∀ j, ((Addr.mk bk off none).add (i * 4)).add j = ⟨bk, off + i * 4 + j, none⟩ := fun j => by rw [Go.Deep.add_add, Go.WideShapes.add_plain]; congr 1; omega
      refine ⟨(c, b), fun j u hu => ?_, hx⟩
      have hj : j < 4 := by
        have := (List.getElem?_eq_some_iff.1 hu).1
        rwa [SC.lst_len] at this
      have q := zc j hj
      rw [fj] at q
      exact q.trans hu
    have : Inhabited (SC × SetV) := ⟨(SC.zero, noSet)⟩
    obtain ⟨f, hf'⟩ := choose_lt hall
    refine ⟨(List.range len0).map fun i => (f i).2, ⟨(List.range len0).map fun i => (f i).1, ⟨by simp; unfold maxLen at hm; omega, some a, cap0, by simp, fun i hi => ?_⟩, by simp, fun i hi => ?_⟩, fun n c e => by cases e⟩
    · simp at hi
      obtain ⟨q1, q2⟩ := hf' i hi
      have hsp := hspot (by omega)
      have hg : ((List.range len0).map fun i => (f i).1).getD i SC.zero = (f i).1 := by
        rw [List.getD_eq_getElem?_getD, List.getElem?_map, List.getElem?_range hi]
        rfl
      rw [hg]
      refine ⟨a.block, a.off, by rw [← hsp], ?_, q1⟩
      have := q1 0 _ (List.getElem?_eq_getElem (by rw [SC.lst_len]; omega))
      exact lt_cell (a := ⟨a.block, _, none⟩) this
    · simp at hi
      obtain ⟨q1, q2⟩ := hf' i hi
      have hg : ((List.range len0).map fun i => (f i).1).getD i SC.zero = (f i).1 := by
        rw [List.getD_eq_getElem?_getD, List.getElem?_map, List.getElem?_range hi]
        rfl
      have hg2 : ((List.range len0).map fun i => (f i).2).getD i noSet = (f i).2 := by
        rw [List.getD_eq_getElem?_getD, List.getElem?_map, List.getElem?_range hi]
        rfl
      rw [hg, hg2]
      exact q2
set_option maxRecDepth 100000 in
theorem open_sets9 {r : Reach} {b0 : Nat} {v : Value} {d : DataW H} {p : List MemPlace} (hv : Value.okWide Tryz.prog W r b0 39 v) (h : DataW.Trod enc Tryz.prog W 0 (fun _ => true) true 39 v d p) :
    ∃ l : List SetV, SetsAt W v l ∧ nilOkQ v := by
  obtain ⟨l, ⟨cs, h1, h2⟩, h3⟩ := open_setsA hv h
  exact ⟨l, sets_of_row h1 h2, h3⟩
end
end Go.Proofs.YtjbgjdjmejhejaaGreatDoor
namespace Go.Proofs.YtjbgjdjmejhejaaGreatDoor
open Go.RowKit
section
variable {ops : Array Oper} {Q : Exit → Act → World → Prop} {o : Oper} {a : Act}
theorem wq_row0Q {rest : List Oper} {w : World} (hw : Region.wanted o (yielded ops a.tmps) = true) (ho : o.op = .buildSlice 39 0 #[])
    (h : ∀ W g, OwnT W w.heap.size (.slice (some ⟨g, 0, none⟩) 0 0) [] → Below w.heap.size w W → wpList Tryz.prog ops Q rest (a.put o.dst (.slice (some ⟨g, 0, none⟩) 0 0)) W) : wpList Tryz.prog ops Q (o :: rest) a w := by
  refine wl_run hw (.slice (some ⟨w.heap.size, 0, none⟩) 0 0) (w.alloc (.cells #[] 26)) ?_ (h _ _ ⟨rfl, Or.inr ⟨w.heap.size, 0, #[], rfl, Nat.le_refl _, heap_new _ _, Nat.le_refl _, by unfold maxLen; omega, rfl, rfl⟩⟩ ((Below.refl _ w).alloc (Nat.le_refl _) _))
  simp only [execOp, ho, List.map_toArray, List.map_nil]
  go_simp
end
theorem ScRow.below {w w' : World} {v : Value} {cs : List SC} (h : ScRow w v cs) (hb : Below w.heap.size w w') : ScRow w' v cs := h.on hb
theorem fewC_all {l : List SetV} (h : l.all fewB = true) (h2 : l.length ≤ 15) : FewC l := fewC_of (fun S hS => by have := few_len9 (List.all_eq_true.1 h S hS); omega) h2
theorem isE (sl : List UInt8) : (bs sl).toList.isEmpty = decide (sl = []) := by rw [bs_toList]; cases sl <;> rfl
theorem hasP_max {S : SetV} {q : Va} (h : hasP S q = true) : q.2.2.size ≤ maxLen := by
  have hr := hasB_right (show hasB S q.1 q.2.1 q.2.2 = true from h)
  unfold rightB at hr
  have e : ∀ s : ByteArray, s.toList.isEmpty = true → s.size ≤ maxLen := fun s h => by
    have : s = bs s.data.toList := rfl
    rw [this, isE] at h
    rw [this, bs_size, of_decide_eq_true h]
    exact Nat.zero_le _
  split at hr
  · simp only [Bool.and_eq_true] at hr; exact e _ hr.2
  · split at hr
    · exact e _ hr
    · split at hr
      · simp only [Bool.and_eq_true, decide_eq_true_eq] at hr; unfold maxLen; omega
      · cases hr
end Go.Proofs.YtjbgjdjmejhejaaGreatDoor
namespace Go.Proofs.YtjbgjdjmejhejaaGreatDoor
open Go.RowKit
end Go.Proofs.YtjbgjdjmejhejaaGreatDoor
namespace Go.Proofs.YtjbgjdjmejhejaaGreatDoor
open Go.RowKit
end Go.Proofs.YtjbgjdjmejhejaaGreatDoor
namespace Go.Proofs.YtjbgjdjmejhejaaGreatDoor
open Go.RowKit
end Go.Proofs.YtjbgjdjmejhejaaGreatDoor
namespace Go.Proofs.YtjbgjdjmejhejaaGreatDoor
open Go.RowKit
end Go.Proofs.YtjbgjdjmejhejaaGreatDoor
namespace Go.Proofs.YtjbgjdjmejhejaaGreatDoor
open Go.RowKit
section
variable {ops : Array Oper} {Q : Exit → Act → World → Prop} {o : Oper} {a : Act} {i : Nat} {K : Act → World → Prop}
end
theorem OwnT.below {w w' : World} {B : Nat} {v : Value} {l : List SC} (h : OwnT w B v l) (hB : B ≤ w.heap.size) (k : w.grownBy w' v.ownBlock) : Below B w w' := (Below.refl _ _).grown k hB (fun i hi => (World.ownsRow.lt h i hi).1)
end Go.Proofs.YtjbgjdjmejhejaaGreatDoor
namespace Go.Proofs.YtjbgjdjmejhejaaGreatDoor
open Go.RowKit
def accV (l : List SetV) : SetV := l.foldl orV noSet
theorem acc_snoc (l : List SetV) (S : SetV) : accV (l ++ [S]) = orV (accV l) S := by unfold accV; rw [List.foldl_append]; rfl
theorem fold_good : ∀ (l : List SetV) (A : SetV), Good A → (∀ S ∈ l, Good S) → Good (l.foldl orV A)
  | [], A, h, _ => h
  | a :: l, A, h, hl => fold_good l (orV A a) (orV_good h (hl a List.mem_cons_self)) (fun S hS => hl S (List.mem_cons_of_mem _ hS))
theorem acc_good {l : List SetV} (h : ∀ S ∈ l, Good S) : Good (accV l) := fold_good l noSet noSet_good h
theorem fold_has (p : Va) : ∀ (l : List SetV) (A : SetV), Good A → (∀ S ∈ l, Good S) → hasP (l.foldl orV A) p = (hasP A p || l.any fun S => hasP S p)
  | [], A, h, _ => by simp
  | a :: l, A, h, hl => by
    rw [List.foldl_cons, fold_has p l (orV A a) (orV_good h (hl a List.mem_cons_self)) (fun S hS => hl S (List.mem_cons_of_mem _ hS)), orV_has h (hl a List.mem_cons_self), List.any_cons, Bool.or_assoc]
theorem no_has (p : Va) : hasP noSet p = false := by
  cases e : hasP noSet p with
  | false => rfl
  | true =>
    have hr := has_right e
    have h' : hasB noSet p.1 p.2.1 p.2.2 = true := e
    rcases rightB_kind hr with h | h | h <;> rw [h] at h'
    · rw [has_0] at h'; simp [noSet] at h'
    · rw [has_1] at h'; simp [noSet, inIntsB] at h'
    · rw [has_2] at h'; simp [noSet, inStrsB] at h'
theorem acc_has {l : List SetV} (h : ∀ S ∈ l, Good S) (p : Va) : hasP (accV l) p = l.any fun S => hasP S p := by
  unfold accV
  rw [fold_has p l noSet noSet_good h, no_has, Bool.false_or]
def totN (f : SetV → Nat) (l : List SetV) : Nat := (l.map f).sum
theorem tot_cons (f : SetV → Nat) (a : SetV) (l : List SetV) : totN f (a :: l) = f a + totN f l := by unfold totN; rw [List.map_cons, List.sum_cons]
theorem tot_append (f : SetV → Nat) (a b : List SetV) : totN f (a ++ b) = totN f a + totN f b := by unfold totN; rw [List.map_append, List.sum_append]
theorem tot_take (f : SetV → Nat) : ∀ (l : List SetV) (k : Nat), totN f (l.take k) ≤ totN f l
  | [], k => by rw [List.take_nil]; exact Nat.le_refl _
  | a :: l, 0 => by rw [List.take_zero]; exact Nat.zero_le _
  | a :: l, k + 1 => by rw [List.take_succ_cons, tot_cons, tot_cons]; have := tot_take f l k; omega
theorem tot_filter (f : SetV → Nat) (P : SetV → Bool) : ∀ l : List SetV, totN f (l.filter P) ≤ totN f l
  | [] => Nat.le_refl _
  | a :: l => by
    have h := tot_filter f P l
    by_cases e : P a = true
    · rw [List.filter_cons_of_pos e, tot_cons, tot_cons]; omega
    · rw [List.filter_cons_of_neg e, tot_cons]; omega
theorem tot_le (f : SetV → Nat) (c : Nat) : ∀ l : List SetV, (∀ S ∈ l, f S ≤ c) → totN f l ≤ l.length * c
  | [], _ => Nat.zero_le _
  | a :: l, h => by
    rw [tot_cons, List.length_cons, Nat.add_mul, Nat.one_mul]
    have h1 := h a List.mem_cons_self
    have h2 := tot_le f c l (fun S hS => h S (List.mem_cons_of_mem _ hS))
    omega
theorem fold_len : ∀ (l : List SetV) (A : SetV), Good A → (∀ S ∈ l, Good S) → (l.foldl orV A).ints.length ≤ A.ints.length + totN (·.ints.length) l ∧ (l.foldl orV A).strs.length ≤ A.strs.length + totN (·.strs.length) l
  | [], A, _, _ => ⟨Nat.le_refl _, Nat.le_refl _⟩
  | a :: l, A, h, hl => by
    have h1 := orV_len h (hl a List.mem_cons_self)
    have h2 := fold_len l (orV A a) (orV_good h (hl a List.mem_cons_self)) (fun S hS => hl S (List.mem_cons_of_mem _ hS))
    rw [List.foldl_cons, tot_cons, tot_cons]
    omega
theorem acc_len {l : List SetV} (h : ∀ S ∈ l, Good S) : (accV l).ints.length ≤ totN (·.ints.length) l ∧ (accV l).strs.length ≤ totN (·.strs.length) l := by
  have := fold_len l noSet noSet_good h
  unfold accV
  have e1 : noSet.ints.length = 0 := rfl
  have e2 : noSet.strs.length = 0 := rfl
  omega
theorem tot_cells (B : List Int) (N : List ByteArray) : totN (·.ints.length) (cellL B N) ≤ B.length ∧ totN (·.strs.length) (cellL B N) ≤ N.length + N.length := by
  unfold cellL strC
  rw [tot_cons, tot_cons, tot_append, tot_append, tot_append, tot_append]
  have n1 := tot_le (·.ints.length) 1 (numC B) (fun S hS => by
    obtain ⟨i, _, rfl⟩ := List.mem_map.1 hS; exact Nat.le_refl _)
  have n2 := tot_le (·.strs.length) 0 (numC B) (fun S hS => by
    obtain ⟨i, _, rfl⟩ := List.mem_map.1 hS; exact Nat.le_refl _)
  have s1 := tot_le (·.ints.length) 0 (N.map cellS) (fun S hS => by
    obtain ⟨i, _, rfl⟩ := List.mem_map.1 hS; exact Nat.le_refl _)
  have s2 := tot_le (·.strs.length) 1 (N.map cellS) (fun S hS => by
    obtain ⟨i, _, rfl⟩ := List.mem_map.1 hS; exact Nat.le_refl _)
  rw [numC_len] at n1 n2
  rw [List.length_map] at s1 s2
  have a1 : cellA.ints.length = 0 := rfl
  have a2 : cellA.strs.length = 0 := rfl
  have l1 : totN (·.ints.length) [(⟨false, [], true, N⟩ : SetV)] = 0 := rfl
  have l2 : totN (·.strs.length) [(⟨false, [], true, N⟩ : SetV)] = N.length := by unfold totN; simp
  omega
theorem tot_cut {l : List SetV} (h : l.all fewB = true) (h2 : l.length ≤ 6) : totN (·.strs.length) (cutL l) ≤ 480 := by
  have h1 := (tot_cells (sortedN (begL (allR l))) (namesOf (allS l))).2
  have h3 : (namesOf (allS l)).length ≤ 240 := by
    refine Nat.le_trans (namesOf_len _) ?_
    have := allS_len l 40 (fun T hT => (few_len9 (List.all_eq_true.1 h T hT)).2)
    omega
  show totN (·.strs.length) (cellL (sortedN (begL (allR l))) (namesOf (allS l))) ≤ 480
  omega
theorem cut_ints (l : List SetV) : ∀ S ∈ cutL l, S.ints.length ≤ 1 := fun S hS => by
  obtain ⟨i, hi, e⟩ := mem_getD noSet hS
  have h1 := cell_strs (B := sortedN (begL (allR l))) (N := namesOf (allS l)) hi
  rw [show (cellL (sortedN (begL (allR l))) (namesOf (allS l))).getD i noSet = S from e] at h1
  exact h1.2
theorem acc_fit {l X : List SetV} (hl : InL l) (hf : FewC l) (h : l.all fewB = true) (h2 : l.length ≤ 6) (hX : ∀ S ∈ X, S ∈ cutL l) (hn : X.length ≤ 500) (ht : totN (·.strs.length) X ≤ totN (·.strs.length) (cutL l)) : Fit (accV X) := by
  have hg : ∀ S ∈ X, Good S := fun S hS => (fit_cut hl hf S (hX S hS)).good
  have h1 := acc_len hg
  have h3 := tot_le (·.ints.length) 1 X (fun S hS => cut_ints l S (hX S hS))
  have h4 := tot_cut h h2
  exact ⟨acc_good hg, by omega, by omega⟩
theorem empty_of {S : SetV} (hS : Good S) (hn : S.strs.length < 100000) (h : ∀ p : Va, -9223372036854775808 ≤ p.2.1 → p.2.1 ≤ 9223372036854775807 → hasP S p = false) : emptyB S = true := by
  have : S = noSet := good_ext hS noSet_good (by have e : noSet.strs.length = 0 := rfl; omega) (fun p a b => by rw [h p a b, no_has])
  rw [this]; rfl
theorem mem_take {l : List SetV} {k : Nat} {S : SetV} (h : S ∈ l.take k) : ∃ j, j < k ∧ j < l.length ∧ l.getD j noSet = S := by
  obtain ⟨j, hj, e⟩ := mem_getD noSet h
  rw [List.length_take] at hj
  refine ⟨j, by omega, by omega, ?_⟩
  rw [← e, List.getD_eq_getElem?_getD, List.getD_eq_getElem?_getD, List.getElem?_take_of_lt (by omega)]
theorem apart_empty {l : List SetV} (hl : InL l) (hf : FewC l) (h : l.all fewB = true) (h2 : l.length ≤ 6) {k : Nat} (hk : k < (cutL l).length) (hk2 : k ≤ 500) : emptyB (andV (accV ((cutL l).take k)) ((cutL l).getD k noSet)) = true ∧ Fit (andV (accV ((cutL l).take k)) ((cutL l).getD k noSet)) := by
  have hm := gD_mem (d := noSet) hk
  have fa := acc_fit (X := (cutL l).take k) hl hf h h2 (fun S hS => List.mem_of_mem_take hS) (by rw [List.length_take]; omega) (tot_take _ _ _)
  have fb := fit_cut hl hf _ hm
  have hlen := andV_len fa.good fb.good
  have b1 := cut_ints l _ hm
  have hg : ∀ S ∈ (cutL l).take k, Good S := fun S hS => (fit_cut hl hf S (List.mem_of_mem_take hS)).good
  have h3 := (acc_len hg).1
  have h4 := tot_le (·.ints.length) 1 ((cutL l).take k) (fun S hS => cut_ints l S (List.mem_of_mem_take hS))
  have h5 : ((cutL l).take k).length ≤ k := by rw [List.length_take]; omega
  have h6 := (acc_len hg).2
  have h7 := tot_take (·.strs.length) (cutL l) k
  have h8 := tot_cut h h2
  have h9 := cell_strs (B := sortedN (begL (allR l))) (N := namesOf (allS l)) hk
  have h10 : (namesOf (allS l)).length ≤ 240 := by
    refine Nat.le_trans (namesOf_len _) ?_
    have := allS_len l 40 (fun T hT => (few_len9 (List.all_eq_true.1 h T hT)).2)
    omega
  have h11 : ((cutL l).getD k noSet).strs.length ≤ 241 := Nat.le_trans h9.1 (by omega)
  have hfit : Fit (andV (accV ((cutL l).take k)) ((cutL l).getD k noSet)) := ⟨andV_good fa.good fb.good, by omega, by omega⟩
  refine ⟨empty_of hfit.good (by have := hfit.ns; omega) fun p p0 p1 => ?_, hfit⟩
  rw [andV_has fa.good fb.good p p0 p1, acc_has hg]
  cases e : hasP ((cutL l).getD k noSet) p with
  | false => rw [Bool.and_false]
  | true =>
    rw [Bool.and_true]
    refine List.any_eq_false.2 fun S hS => ?_
    obtain ⟨j, hj, hj2, e2⟩ := mem_take hS
    rw [← e2]
    intro e3
    have := cell_one (cut_of hl) hj2 hk e3 e
    omega
theorem all_hasV {p : Va} (p0 : -9223372036854775808 ≤ p.2.1) (p1 : p.2.1 ≤ 9223372036854775807) (hr : rightB p.1 p.2.1 p.2.2 = true) : hasP allV p = true := by
  show hasB allV p.1 p.2.1 p.2.2 = true
  rcases rightB_kind hr with h | h | h
  · rw [h] at hr ⊢; rw [has_0, hr]; rfl
  · rw [h] at hr ⊢; rw [has_1, hr, Bool.true_and, inInts_mem]
    exact ⟨_, List.mem_singleton.2 rfl, p0, p1⟩
  · rw [h] at hr ⊢; rw [has_2, hr]; rfl
theorem acc_all {l : List SetV} (hl : InL l) (hf : FewC l) (h : l.all fewB = true) (h2 : l.length ≤ 6) (hn : (cutL l).length ≤ 500) : accV (cutL l) = allV := by
  have fa := acc_fit (X := cutL l) hl hf h h2 (fun S hS => hS) hn (Nat.le_refl _)
  refine good_ext fa.good allV_good (by have := fa.ns; have e : allV.strs.length = 0 := rfl; omega) fun p p0 p1 => ?_
  rw [acc_has (fun S hS => (fit_cut hl hf S hS).good)]
  cases hr : rightB p.1 p.2.1 p.2.2 with
  | false =>
    rw [not_right hr]
    exact List.any_eq_false.2 fun S _ => by rw [not_right hr]; decide
  | true =>
    rw [all_hasV p0 p1 hr]
    obtain ⟨i, hi, e⟩ := cell_some (cut_of hl) p0 p1 hr
    exact List.any_eq_true.2 ⟨_, gD_mem hi, e⟩
def smpV (x : SetV) : Va := (sampleV x).getD (0, 0, ⟨#[]⟩)
theorem acc_set {l : List SetV} (hl : InL l) (hf : FewC l) (h : l.all fewB = true) (h2 : l.length ≤ 6) (hn : (cutL l).length ≤ 500) {S : SetV} (hS : S ∈ l) (hR : rightSet S = true) : accV ((cutL l).filter fun x => hasP S (smpV x)) = S := by
  have fa := acc_fit (X := (cutL l).filter fun x => hasP S (smpV x)) hl hf h h2 (fun T hT => (List.mem_filter.1 hT).1) (Nat.le_trans (List.length_filter_le _ _) hn) (tot_filter _ _ _)
  have fs := fit_few hR (hl S hS).1 (List.all_eq_true.1 h S hS)
  refine good_ext fa.good fs.good (by have := fa.ns; have := fs.ns; omega) fun p p0 p1 => ?_
  rw [acc_has (fun T hT => (fit_cut hl hf T (List.mem_filter.1 hT).1).good)]
  have smp : ∀ i, i < (cutL l).length → hasP ((cutL l).getD i noSet) (smpV ((cutL l).getD i noSet)) = true := fun i hi => by
    obtain ⟨q, hq⟩ := cell_sample (cut_of hl) hi
    have hq' : sampleV ((cutL l).getD i noSet) = some q := hq
    have : smpV ((cutL l).getD i noSet) = q := by unfold smpV; rw [hq']; rfl
    rw [this]
    exact sample_has hq' (by have := (fit_cut hl hf _ (gD_mem (d := noSet) hi)).ns; omega)
  cases hr : rightB p.1 p.2.1 p.2.2 with
  | false =>
    rw [not_right hr]
    exact List.any_eq_false.2 fun S _ => by rw [not_right hr]; decide
  | true =>
    obtain ⟨i, hi, e⟩ := cell_some (cut_of hl) p0 p1 hr
    have hi' : i < (cutL l).length := hi
    have e' : hasP ((cutL l).getD i noSet) p = true := e
    have hw : hasP S p = hasP S (smpV ((cutL l).getD i noSet)) := cell_whole (cut_of hl) hS hR (i := i) hi' e' (smp i hi')
    cases hs : hasP S p with
    | true =>
      rw [hw] at hs
      exact List.any_eq_true.2 ⟨_, List.mem_filter.2 ⟨gD_mem hi', hs⟩, e'⟩
    | false =>
      refine List.any_eq_false.2 fun T hT hp => ?_
      obtain ⟨hT1, hT2⟩ := List.mem_filter.1 hT
      obtain ⟨j, hj, ej⟩ := mem_getD noSet hT1
      rw [← ej] at hp hT2
      have hij := cell_one (cut_of hl) hj hi' hp e'
      subst hij
      rw [← hw, hs] at hT2
      cases hT2
theorem take_more9 {l : List SetV} {k : Nat} (h : k < l.length) : l.take (k + 1) = l.take k ++ [l.getD k noSet] := by
  rw [List.take_succ_eq_append_getElem h, List.getD_eq_getElem?_getD, List.getElem?_eq_getElem h]
  rfl
theorem take_filter {l : List SetV} {P : SetV → Bool} {j : Nat} (h : j < l.length) : (l.take (j + 1)).filter P = (l.take j).filter P ++ (if P (l.getD j noSet) = true then [l.getD j noSet] else []) := by
  rw [take_more9 h, List.filter_append]
  congr 1
  by_cases e : P (l.getD j noSet) = true
  · rw [if_pos e, List.filter_cons_of_pos e]; rfl
  · rw [if_neg e, List.filter_cons_of_neg e]; rfl
end Go.Proofs.YtjbgjdjmejhejaaGreatDoor
namespace Go.Proofs.YtjbgjdjmejhejaaGreatDoor
open Go.RowKit
structure ComInv (A B a b acc : List Rg) : Prop where
  ra : rightR a
  rb : rightR b
  rc : rightR acc
  ia : inI64 a
  ib : inI64 b
  ic : inI64 acc
  mem : ∀ n, (memR A n ∧ memR B n) ↔ (memR acc n ∨ (memR a n ∧ memR b n))
  gap : ∀ h, lastH acc = some h → ∀ n, memR a n → memR b n → h + 1 < n
  len : acc.length + a.length + b.length ≤ A.length + B.length
theorem com_start {A B : List Rg} (hA : rightR A) (hB : rightR B) (iA : inI64 A) (iB : inI64 B) : ComInv A B A B [] :=
  ⟨hA, hB, trivial, iA, iB, fun _ h => (List.not_mem_nil h).elim, fun n => ⟨Or.inr, fun h => h.elim (fun h => absurd h (memR_nil n)) id⟩, fun h e => by rw [lastH_nil] at e; exact absurd e (by simp), by simp⟩
theorem rightR_tail {r : Rg} {l : List Rg} (h : rightR (r :: l)) : rightR l := rightFrom_right h.2
theorem com_step {A B a b acc acc' : List Rg} {r s : Rg} (h : ComInv A B (r :: a) (s :: b) acc)
    (hc : (acc' = acc ∧ min r.2 s.2 < max r.1 s.1) ∨ (acc' = acc ++ [(max r.1 s.1, min r.2 s.2)] ∧ max r.1 s.1 ≤ min r.2 s.2)) :
    (r.2 < s.2 → ComInv A B a (s :: b) acc') ∧ (s.2 ≤ r.2 → ComInv A B (r :: a) b acc') := by
  have hA := fun n (hn : memR a n) => rightFrom_lt h.ra.2 n hn
  have hB := fun n (hn : memR b n) => rightFrom_lt h.rb.2 n hn
  have r1 := h.ra.1
  have s1 := h.rb.1
  have ir := h.ia r (by simp)
  have is := h.ib s (by simp)
  have ia' : inI64 a := fun x hx => h.ia x (by simp [hx])
  have ib' : inI64 b := fun x hx => h.ib x (by simp [hx])
  have hm : ∀ n, memR acc' n ↔ memR acc n ∨ ((r.1 ≤ n ∧ n ≤ r.2) ∧ (s.1 ≤ n ∧ n ≤ s.2)) := by
    intro n
    rcases hc with ⟨rfl, hlt⟩ | ⟨rfl, hle⟩
    · constructor
      · exact Or.inl
      · rintro (hx | hx)
        · exact hx
        · omega
    · rw [memR_append, memR_one]
      dsimp only
      constructor
      · rintro (hx | hx)
        · exact Or.inl hx
        · right; omega
      · rintro (hx | hx)
        · exact Or.inl hx
        · right; omega
  have hr : rightR acc' := by
    rcases hc with ⟨rfl, hlt⟩ | ⟨rfl, hle⟩
    · exact h.rc
    · refine rightR_concat _ _ h.rc hle (fun x hx => ?_)
      dsimp only
      exact h.gap x hx _ ((memR_cons _ _ _).2 (Or.inl (by omega))) ((memR_cons _ _ _).2 (Or.inl (by omega)))
  have hi : inI64 acc' := by
    rcases hc with ⟨rfl, hlt⟩ | ⟨rfl, hle⟩
    · exact h.ic
    · intro x hx
      rcases List.mem_append.1 hx with hx | hx
      · exact h.ic x hx
      · simp at hx; rw [hx]; dsimp only; omega
  have hl : acc'.length ≤ acc.length + 1 := by
    rcases hc with ⟨rfl, hlt⟩ | ⟨rfl, hle⟩
    · omega
    · simp
  have hlen := h.len
  simp only [List.length_cons] at hlen
  have hg : ∀ x, lastH acc' = some x → (∀ n, memR (r :: a) n → memR (s :: b) n → lastH acc = some x → x + 1 < n) ∧ (lastH acc = some x ∨ x = min r.2 s.2) := by
    intro x hx
    refine ⟨fun n h1 h2 h3 => h.gap x h3 n h1 h2, ?_⟩
    rcases hc with ⟨rfl, hlt⟩ | ⟨rfl, hle⟩
    · exact Or.inl hx
    · rw [lastH_concat] at hx; cases hx; exact Or.inr rfl
  refine ⟨fun hlt => ?_, fun hle => ?_⟩
  · refine ⟨rightR_tail h.ra, h.rb, hr, ia', h.ib, hi, fun n => ?_, fun x hx n h1 h2 => ?_, by simp only [List.length_cons]; omega⟩
    · rw [h.mem n, hm n, memR_cons r a, memR_cons s b]
      constructor
      · rintro (hx | ⟨hx | hx, hy | hy⟩)
        · exact Or.inl (Or.inl hx)
        · exact Or.inl (Or.inr ⟨hx, hy⟩)
        · have := hB n hy; omega
        · exact Or.inr ⟨hx, Or.inl hy⟩
        · exact Or.inr ⟨hx, Or.inr hy⟩
      · rintro ((hx | ⟨hx, hy⟩) | ⟨hx, hy⟩)
        · exact Or.inl hx
        · exact Or.inr ⟨Or.inl hx, Or.inl hy⟩
        · exact Or.inr ⟨Or.inr hx, hy⟩
    · obtain ⟨g1, g2⟩ := hg x hx
      rcases g2 with g2 | g2
      · exact g1 n ((memR_cons r a n).2 (Or.inr h1)) h2 g2
      · have := hA n h1; omega
  · refine ⟨h.ra, rightR_tail h.rb, hr, h.ia, ib', hi, fun n => ?_, fun x hx n h1 h2 => ?_, by simp only [List.length_cons]; omega⟩
    · rw [h.mem n, hm n, memR_cons r a, memR_cons s b]
      constructor
      · rintro (hx | ⟨hx | hx, hy | hy⟩)
        · exact Or.inl (Or.inl hx)
        · exact Or.inl (Or.inr ⟨hx, hy⟩)
        · exact Or.inr ⟨Or.inl hx, hy⟩
        · have := hA n hx; omega
        · exact Or.inr ⟨Or.inr hx, hy⟩
      · rintro ((hx | ⟨hx, hy⟩) | ⟨hx, hy⟩)
        · exact Or.inl hx
        · exact Or.inr ⟨Or.inl hx, Or.inl hy⟩
        · exact Or.inr ⟨hx, Or.inr hy⟩
    · obtain ⟨g1, g2⟩ := hg x hx
      rcases g2 with g2 | g2
      · exact g1 n h1 ((memR_cons s b n).2 (Or.inr h2)) g2
      · have := hB n h2; omega
def CommonOut (A B o : List Rg) : Prop := rightR o ∧ inI64 o ∧ o.length ≤ A.length + B.length ∧ ∀ n, memR o n ↔ (memR A n ∧ memR B n)
theorem com_end {A B a b acc : List Rg} (h : ComInv A B a b acc) (he : a = [] ∨ b = []) : CommonOut A B acc := by
  refine ⟨h.rc, h.ic, by have := h.len; omega, fun n => ?_⟩
  rw [h.mem n]
  rcases he with rfl | rfl <;> simp [memR_nil]
def lenV (v : Value) : Nat := match v with
  | .slice _ n _ => n
  | _ => 0
theorem rngs_tail {w : World} {b off cap n : Nat} {r : Rg} {l : List Rg} (h : RngsAt w (.slice (some ⟨b, off, none⟩) n cap) (r :: l)) : RngsAt w (.slice (if cap = 1 then some ⟨b, off, none⟩ else some ⟨b, off + 2, none⟩) (n - 1) (cap - 1)) l := by
  obtain ⟨h1, h2⟩ := h.room
  obtain ⟨e1, e2⟩ := h.at
  subst e1
  simp only [List.length_cons] at h1 e2
  have hi : inI64 l := fun x hx => h.1 x (by simp [hx])
  have hl := h.2.1
  simp only [List.length_cons] at hl
  obtain ⟨sp, hsp⟩ := capOf_of (a := if cap = 1 then some (⟨b, off, none⟩ : Addr) else some ⟨b, off + 2, none⟩) (n := l.length) (c := cap - 1) (by omega) (fun e => by split at e <;> cases e)
  refine ⟨hi, by omega, _, sp, by rw [← hsp]; rfl, fun i hi' => ?_⟩
  rw [if_neg (by omega)]
  obtain ⟨b', off', e, hb, c0, c1⟩ := e2 (i + 1) (by omega)
  simp at e
  obtain ⟨rfl, rfl⟩ := e
  refine ⟨b, off + 2, rfl, hb, ?_, ?_⟩
  · rw [show off + 2 + i * 2 = off + (i + 1) * 2 by omega, c0]; rfl
  · rw [show off + 2 + i * 2 + 1 = off + (i + 1) * 2 + 1 by omega, c1]; rfl
set_option maxHeartbeats 4000000 in
set_option maxRecDepth 100000 in
theorem commonRanges_any (v u : Value) (A B : List Rg) (w : World) (hv : RngsAt w v A) (hu : RngsAt w u B) (hA : rightR A) (hB : rightR B) (hn : A.length + B.length ≤ 100000) :
    Calls Tryz.prog 81 #[v, u] w fun r w' => (∃ x o, r = .returned x ∧ CommonOut A B o ∧ OwnR w' w.heap.size x o) ∧ Below w.heap.size w w' := by
  have HV := hide hv
  have HU := hide hu
  have HC := hide (com_start hA hB hv.1 hu.1)
  clear hA hB
  obtain ⟨a0, c0, rfl⟩ := hv.form
  obtain ⟨a1, c1, rfl⟩ := hu.form
  clear hv hu
  have HN := hide hn
  clear hn
  go_enter Tryz.func81, Tryz.ntmps81
  go_wp2
  go_loopw [0, 1, 5] (fun va vb o wr => ∃ la lb acc : List Rg, Hid (RngsAt w va la) ∧ Hid (RngsAt w vb lb) ∧ Hid (OwnR wr w.heap.size o acc) ∧ Hid (ComInv A B la lb acc) ∧ Hid (Below w.heap.size w wr)) (fun va vb _ _ => lenV va + lenV vb)
  case atStart => exact ⟨A, B, [], HV, HU, hide (ownR_none _ _), HC, hide (Below.refl _ _)⟩
  case round =>
    clear HV HU HC
    obtain ⟨la, lb, acc, HVa, HVb, HO, HC, HB⟩ := hrel
    obtain ⟨pa, ca, ea⟩ := HVa.out.form
    obtain ⟨pb, cb, eb⟩ := HVb.out.form
    subst ea eb
    cases la with
    | nil =>
      have HE := hide (com_end HC.out (Or.inl rfl))
      have hl0 : (([] : List Rg).length : Int) = 0 := rfl
      go_wp2
      go_ret
      exact ⟨⟨_, acc, rfl, HE.out, HO.out⟩, HB.out⟩
    | cons r a =>
      cases lb with
      | nil =>
        have HE := hide (com_end HC.out (Or.inr rfl))
        go_wp2
        go_ret
        exact ⟨⟨_, acc, rfl, HE.out, HO.out⟩, HB.out⟩
      | cons s b =>
        obtain ⟨ba, oa, ha, hba, x0, x1⟩ := HVa.out.at.2 0 (by simp)
        obtain ⟨bb, ob, hb, hbb, y0, y1⟩ := HVb.out.at.2 0 (by simp)
        subst ha hb
        simp only [List.getD_cons_zero, Nat.zero_mul, Nat.add_zero] at x0 x1 y0 y1
        have X1 := hide x1
        have Y1 := hide y1
        replace x0 := (HB.out.cell (p := ⟨ba, _, none⟩) hba).trans x0
        replace x1 := (HB.out.cell (p := ⟨ba, _, none⟩) hba).trans x1
        replace y0 := (HB.out.cell (p := ⟨bb, _, none⟩) hbb).trans y0
        replace y1 := (HB.out.cell (p := ⟨bb, _, none⟩) hbb).trans y1
        have szB := HB.out.size
        have hba' : ba < wr.heap.size := by omega
        have hbb' : bb < wr.heap.size := by omega
        have la1 := HVa.out.2.1
        have lb1 := HVb.out.2.1
        have HLe := hide HC.out.len
        simp only [List.length_cons] at la1 lb1 HVa HVb HLe ⊢
        have ta := hide (rngs_tail HVa.out)
        have tb := hide (rngs_tail HVb.out)
        generalize a.length = na at *
        generalize b.length = nb at *
        have HS := hide (com_step HC.out (acc' := acc))
        have HS' := hide (com_step HC.out (acc' := acc ++ [(max r.1 s.1, min r.2 s.2)]))
        go_upto_region 3 with fail
        go_cut [6] from 7 to 55 (fun p wx => p = .pointer (some ⟨wr.heap.size, 0, none⟩) ∧ wx = (wr.alloc (Obj.cells #[Value.int IntKind.i64 (max r.1 s.1), Value.int IntKind.i64 (min r.2 s.2)] 111)).drew)
        case first =>
          go_big_region
          all_goals (go_wp2_with fail; go_meet; exact ⟨rfl, rfl⟩)
        case rest =>
          obtain ⟨rfl, rfl⟩ := hcut
          have O5 : Hid (OwnR ((wr.alloc (Obj.cells #[Value.int IntKind.i64 (max r.1 s.1), Value.int IntKind.i64 (min r.2 s.2)] 111)).drew) w.heap.size u5 acc) := hide (HO.out.alloc _)
          have B5 := hide ((HB.out.alloc szB (Obj.cells #[Value.int IntKind.i64 (max r.1 s.1), Value.int IntKind.i64 (min r.2 s.2)] 111)).drew)
          have n0 : ((wr.alloc (Obj.cells #[Value.int IntKind.i64 (max r.1 s.1), Value.int IntKind.i64 (min r.2 s.2)] 111)).drew).cell? ⟨wr.heap.size, 0, none⟩ = some (.int .i64 (max r.1 s.1)) := cell_heap (heap_new wr _) 0
          have n1 : ((wr.alloc (Obj.cells #[Value.int IntKind.i64 (max r.1 s.1), Value.int IntKind.i64 (min r.2 s.2)] 111)).drew).cell? ⟨wr.heap.size, 1, none⟩ = some (.int .i64 (min r.2 s.2)) := cell_heap (heap_new wr _) 1
          clear x0 y0 x1 y1 HO HB
          generalize (wr.alloc (Obj.cells #[Value.int IntKind.i64 (max r.1 s.1), Value.int IntKind.i64 (min r.2 s.2)] 111)).drew = w5 at O5 B5 n0 n1 ⊢
          generalize max r.1 s.1 = X at HS HS' n0 ⊢
          generalize min r.2 s.2 = Y at HS HS' n1 ⊢
          have sz5 := B5.out.size
          have x1 := (B5.out.cell (p := ⟨ba, _, none⟩) hba).trans X1.out
          have y1 := (B5.out.cell (p := ⟨bb, _, none⟩) hbb).trans Y1.out
          have LE : Hid (acc.length + 1 ≤ 1000000) := hide (by have := HLe.out; have := HN.out; omega)
          by_cases hxy : X ≤ Y
          · have NX := hide (HS'.out (Or.inr ⟨rfl, hxy⟩))
            clear HS HS'
            go_wp2_with (at_builtin; refine wpList_appR _ rfl _ _ rfl w.heap.size _ _ rfl (O5.out.alloc _) _ 1 1 _ [(X, Y)] rfl rfl (heap_top _ _) rfl LE.out (by simp; omega) ?_; intro v8 w8 hO8 hb8; have O8 := hide hO8; have B8 := hide ((B5.out.alloc sz5 _).trans hb8); have z1 := (B8.out.cell (p := ⟨ba, _, none⟩) hba).trans X1.out; have z2 := (B8.out.cell (p := ⟨bb, _, none⟩) hbb).trans Y1.out; clear hO8 hb8 x1 y1 n0 n1)
            go_quiet (fail)
            have O9 := hide (O8.out.drewN nq)
            have B9 := hide (below_field B8.out nq)
            clear O5 B5 sz5 LE O8 B8 z1 z2 X1 Y1 HC hba hbb hba' hbb'
            generalize w8.drewN nq = w9 at O9 B9 ⊢
            go_wp2
            · rename_i hlt
              exact ⟨⟨a, s :: b, acc ++ [(X, Y)], ta, HVb, O9, hide (NX.out.1 (by omega)), B9⟩, by simp [lenV]⟩
            · rename_i hlt
              exact ⟨⟨r :: a, b, acc ++ [(X, Y)], HVa, tb, O9, hide (NX.out.2 (by omega)), B9⟩, by simp [lenV]⟩
          · have NX := hide (HS.out (Or.inl ⟨rfl, by omega⟩))
            clear HS HS'
            go_wp2
            go_quiet (fail)
            have O9 := hide (O5.out.drewN nq)
            have B9 := hide (below_field B5.out nq)
            clear O5 B5 sz5 LE x1 y1 n0 n1 X1 Y1 HC hba hbb hba' hbb'
            generalize w5.drewN nq = w9 at O9 B9 ⊢
            go_wp2
            · rename_i hlt
              exact ⟨⟨a, s :: b, acc, ta, HVb, O9, hide (NX.out.1 (by omega)), B9⟩, by simp [lenV]⟩
            · rename_i hlt
              exact ⟨⟨r :: a, b, acc, HVa, tb, O9, hide (NX.out.2 (by omega)), B9⟩, by simp [lenV]⟩
end Go.Proofs.YtjbgjdjmejhejaaGreatDoor
namespace Go.Proofs.YtjbgjdjmejhejaaGreatDoor
open Go.RowKit
def risesL (l : List Rg) : Prop := l.Pairwise fun r s => r.1 ≤ s.1
structure JoinInv (d e acc : List Rg) : Prop where
  rc : rightR acc
  ic : inI64 acc
  mem : ∀ n, memR acc n ↔ memR d n
  low : ∀ o q, acc = o ++ [q] → ∀ r ∈ e, q.1 ≤ r.1
  len : acc.length ≤ d.length
theorem join_start (e : List Rg) : JoinInv [] e [] := ⟨trivial, fun _ h => (List.not_mem_nil h).elim, fun _ => Iff.rfl, fun o q h => by simp at h, Nat.le_refl _⟩
theorem concat_inj {o o' : List Rg} {q q' : Rg} (h : o ++ [q] = o' ++ [q']) : q = q' := by
  have := congrArg List.getLast? h
  simpa using this
theorem join_new {d e acc : List Rg} {r : Rg} (h : JoinInv d (r :: e) acc) (hr : r.1 ≤ r.2) (ir : -9223372036854775808 ≤ r.1 ∧ r.1 ≤ 9223372036854775807 ∧ -9223372036854775808 ≤ r.2 ∧ r.2 ≤ 9223372036854775807) (hs : risesL (r :: e)) (hg : ∀ x, lastH acc = some x → x + 1 < r.1) : JoinInv (d ++ [r]) e (acc ++ [r]) := by
  refine ⟨rightR_concat _ _ h.rc hr hg, fun x hx => ?_, fun n => by rw [memR_append, memR_append, h.mem n], fun o q he s hs' => ?_, by have := h.len; simp; omega⟩
  · rcases List.mem_append.1 hx with hx | hx
    · exact h.ic x hx
    · simp at hx; rw [hx]; exact ir
  · rw [← concat_inj he]
    exact (List.pairwise_cons.1 hs).1 s hs'
theorem join_more {d e o : List Rg} {q r : Rg} (h : JoinInv d (r :: e) (o ++ [q])) (hr : r.1 ≤ r.2) (ir : -9223372036854775808 ≤ r.1 ∧ r.1 ≤ 9223372036854775807 ∧ -9223372036854775808 ≤ r.2 ∧ r.2 ≤ 9223372036854775807) (hg : r.1 ≤ q.2 + 1) : JoinInv (d ++ [r]) e (o ++ [(q.1, max q.2 r.2)]) := by
  have hl := h.low o q rfl
  have hqr := hl r (by simp)
  have hq := rightR_split o q h.rc
  refine ⟨rightR_last o q _ h.rc (by omega), fun x hx => ?_, fun n => ?_, fun o' q' he s hs => ?_, by have := h.len; simp at *; omega⟩
  · have iq := h.ic q (by simp)
    rcases List.mem_append.1 hx with hx | hx
    · exact h.ic x (by simp [hx])
    · simp at hx; rw [hx]; dsimp only; omega
  · have hm := h.mem n
    rw [memR_append, memR_one] at hm
    rw [memR_append, memR_append, ← hm, memR_one, memR_one]
    dsimp only
    constructor
    · rintro (hx | hx)
      · exact Or.inl (Or.inl hx)
      · by_cases hn : n ≤ q.2
        · exact Or.inl (Or.inr ⟨hx.1, hn⟩)
        · exact Or.inr ⟨by omega, by omega⟩
    · rintro ((hx | hx) | hx)
      · exact Or.inl hx
      · exact Or.inr ⟨hx.1, by omega⟩
      · exact Or.inr ⟨by omega, by omega⟩
  · rw [← concat_inj he]
    exact hl s (by simp [hs])
theorem take_succ_getD {l : List Rg} {k : Nat} (h : k < l.length) : l.take (k + 1) = l.take k ++ [l.getD k (0, 0)] := by
  rw [List.take_add_one, List.getD_eq_getElem?_getD, List.getElem?_eq_getElem h]; rfl
theorem OwnR.empty_form {w : World} {B : Nat} {v : Value} (h : OwnR w B v []) : ∃ a cap, v = .slice a 0 cap := by
  rcases h.2 with ⟨e, _⟩ | ⟨g, cap, cur, e, _⟩
  · exact ⟨_, _, e⟩
  · exact ⟨_, _, e⟩
set_option maxHeartbeats 4000000 in
set_option maxRecDepth 100000 in
theorem joined_any (v : Value) (l : List Rg) (w : World) (hv : RngsAt w v l) (hs : risesL l) (hle : ∀ r ∈ l, r.1 ≤ r.2) (hn : l.length ≤ 100000) :
    Calls Tryz.prog 132 #[v] w fun r w' => (∃ u o, r = .returned u ∧ RangesOut l o ∧ OwnR w' w.heap.size u o) ∧ Below w.heap.size w w' := by
  have HV := hide hv
  have HI := hide hv.1
  have HS := hide hs
  have HL := hide hle
  obtain ⟨a, cap, rfl⟩ := hv.form
  have hlen := hv.2.1
  clear hv hs hle
  obtain ⟨N, hN⟩ : ∃ N : Nat, N = l.length := ⟨_, rfl⟩
  rw [← hN] at hlen hn HV ⊢
  have HN := hide hN
  clear hN
  go_enter Tryz.func132, Tryz.ntmps132
  go_wp2
  go_loopw [3, 9] (fun o i wr => ∃ (k : Nat) (acc : List Rg), i = .int .i64 k ∧ k ≤ N ∧ Hid (OwnR wr w.heap.size o acc) ∧ Hid (JoinInv (l.take k) (l.drop k) acc) ∧ Hid (Below w.heap.size w wr)) (fun _ i _ => N - (intOf i).toNat)
  case atStart => exact ⟨0, [], rfl, by omega, hide (ownR_none _ _), hide (join_start _), hide (Below.refl _ _)⟩
  case round =>
    obtain ⟨k, acc, rfl, hk, HO, HJ, HB⟩ := hrel
    by_cases hlt : k < N
    · have hk' : k < l.length := by rw [← HN.out]; exact hlt
      have IW := HV.out.on HB.out
      obtain ⟨b, off, ha, hb, c0, c1⟩ := IW.at.2 k hk'
      subst ha
      have bd := IW.bound k hk'
      have J0 := HJ.out
      rw [drop_getD l k (0, 0) hk'] at J0
      have HR0 : Hid ((l.getD k (0, 0)).1 ≤ (l.getD k (0, 0)).2) := hide (HL.out _ (by rw [List.getD_eq_getElem?_getD, List.getElem?_eq_getElem hk']; exact List.getElem_mem _))
      have HP : Hid (risesL (l.getD k (0, 0) :: l.drop (k + 1))) := hide (by rw [← drop_getD l k (0, 0) hk']; exact List.Pairwise.sublist (List.drop_sublist _ _) HS.out)
      have HT := hide (take_succ_getD hk')
      have HJ1 := hide J0
      have BD := hide bd
      have HLn : Hid (acc.length ≤ k) := hide (by have := J0.len; simp at this; omega)
      clear J0 HJ IW
      obtain ⟨r, hr0⟩ : ∃ r, r = l.getD k (0, 0) := ⟨_, rfl⟩
      rw [← hr0] at c0 c1 HR0 HP HT HJ1 BD bd
      clear hr0
      have szB := HB.out.size
      have B5 := hide (HB.out.alloc szB (Obj.cells #[Value.int IntKind.i64 r.1, Value.int IntKind.i64 r.2] 111))
      have O5 := hide (HO.out.alloc (Obj.cells #[Value.int IntKind.i64 r.1, Value.int IntKind.i64 r.2] 111))
      obtain ⟨n0, n1⟩ := rb_new wr r
      have nf : wr.heap.size < (wr.alloc (Obj.cells #[Value.int IntKind.i64 r.1, Value.int IntKind.i64 r.2] 111)).heap.size := by simp
      rcases List.eq_nil_or_concat acc with e | ⟨o, q, e⟩
      · subst e
        obtain ⟨a3, cap3, rfl⟩ := HO.out.empty_form
        clear HO HB
        go_wp2
        go_quiet (fail)
        have B6 := hide (below_field B5.out nq)
        have O6 := hide (O5.out.drewN nq)
        have m0 : ((wr.alloc (Obj.cells #[Value.int IntKind.i64 r.1, Value.int IntKind.i64 r.2] 111)).drewN nq).cell? ⟨wr.heap.size, 0, none⟩ = some (.int .i64 r.1) := n0
        have m1 : ((wr.alloc (Obj.cells #[Value.int IntKind.i64 r.1, Value.int IntKind.i64 r.2] 111)).drewN nq).cell? ⟨wr.heap.size, 1, none⟩ = some (.int .i64 r.2) := n1
        clear c0 c1 n0 n1 nf B5 O5 bd szB
        generalize (wr.alloc (Obj.cells #[Value.int IntKind.i64 r.1, Value.int IntKind.i64 r.2] 111)).drewN nq = w6 at m0 m1 O6 B6 ⊢
        have sz6 := B6.out.size
        have LE : Hid (([] : List Rg).length + 1 ≤ 1000000) := hide (by simp)
        have NX := hide (join_new HJ1.out HR0.out BD.out HP.out (fun x e => by rw [lastH_nil] at e; cases e))
        rw [← HT.out] at NX
        go_wp2_with (at_builtin; refine wpList_appR _ rfl _ _ rfl w.heap.size _ _ rfl (O6.out.alloc _) _ 1 1 _ [r] rfl rfl (heap_top _ _) rfl LE.out (by simp; omega) ?_; intro v8 w8 hO8 hb8; have O8 := hide hO8; have B8 := hide ((B6.out.alloc sz6 _).trans hb8); clear hO8 hb8)
        exact ⟨⟨k + 1, [] ++ [r], by go_num, by omega, O8, NX, B8⟩, by simp [intOf]; omega⟩
      · rw [List.concat_eq_append] at e
        subst e
        obtain ⟨g, oc, hf, hg1, hg2⟩ := HO.out.form (by simp)
        subst hf
        have hm : (o ++ [q]).length = o.length + 1 := by simp
        have qd : -9223372036854775808 ≤ q.1 ∧ q.1 ≤ 9223372036854775807 ∧ -9223372036854775808 ≤ q.2 ∧ q.2 ≤ 9223372036854775807 := HJ1.out.ic q (by simp)
        have HX := fun (W : World) => hide (apart_any q r W bd.1 bd.2.1 qd.2.2.1)
        have NN := hide (fun h => join_new HJ1.out HR0.out BD.out HP.out h)
        have NM := hide (fun h => join_more HJ1.out HR0.out BD.out h)
        rw [← HT.out] at NN NM
        obtain ⟨x0, x1⟩ := O5.out.at o.length (by simp)
        have ge : (o ++ [q]).getD o.length (0, 0) = q := by simp [List.getD_eq_getElem?_getD]
        rw [ge] at x0 x1
        have xf := O5.out.cold (o.length * 2 + 1)
        have LE : Hid ((o ++ [q]).length + 1 ≤ 1000000) := hide (by have := HLn.out; omega)
        have hmx : o.length + 1 ≤ 100000 := by have := HLn.out; rw [hm] at this; omega
        have HO' := hide O5.out
        rw [hm] at HO' ⊢
        clear HO HB O5 HJ1 ge hm
        generalize hmo : o.length = m at x0 x1 xf HO' hmx ⊢
        have HM := hide hmo
        clear hmo
        go_wp2
        generalize wr.alloc (Obj.cells #[Value.int IntKind.i64 r.1, Value.int IntKind.i64 r.2] 111) = w5 at n0 n1 nf B5 x0 x1 xf HO' ⊢
        clear c0 c1 szB
        have X := fun (d : Nat) (os : Array Obj) => hide (Calls.regrown_of (HX (Sort.grow (redrawn w5 d) os)).out)
        have p0 := cell_regrown n0
        have p1 := cell_regrown n1
        have p2 := cell_regrown x0
        have p3 := cell_regrown x1
        clear HX
        refine wp_region_quiet_below mixed (by kernel_rfl) ?_
        repeat (first | go_big_quiet_step (exact unhide (X _ _)) | quiet_step (exact unhide (X _ _)))
        refine wpQuiet_nil ?_
        intro _ hw'
        obtain ⟨⟨dq, osq⟩, hw''⟩ := hw'
        subst hw''
        have bq := below_regrown w5 dq osq
        have B6 := hide (B5.out.trans (bq.mono B5.out.size))
        have O6 := hide (HO'.out.on bq)
        have m0 := p0 dq osq
        have m1 := p1 dq osq
        have m2 := p2 dq osq
        have m3 := p3 dq osq
        have mf := (bq.frozen (p := ⟨g, m * 2 + 1, none⟩) (by simpa using lt_cell (a := ⟨g, _, none⟩) x1)).trans xf
        clear p0 p1 p2 p3 X x0 x1 xf n0 n1 nf B5 HO' bq bd
        dsimp only
        generalize Sort.grow (redrawn w5 dq) osq = w6 at B6 O6 m0 m1 m2 m3 mf ⊢
        have sz6 := B6.out.size
        by_cases hap : q.2 + 1 < r.1
        · have da : decide (q.2 + 1 < r.1) = true := decide_eq_true hap
          have NX := hide (NN.out (fun x e => by rw [lastH_concat] at e; cases e; exact hap))
          clear NM NN m2 m3 mf
          simp only [da, Bool.not_true]
          go_wp2_with (at_builtin; refine wpList_appR _ rfl _ _ rfl w.heap.size _ _ rfl (O6.out.alloc _) _ 1 1 _ [r] rfl rfl (heap_top _ _) rfl LE.out (by simp; omega) ?_; intro v8 w8 hO8 hb8; have O8 := hide hO8; have B8 := hide ((B6.out.alloc sz6 _).trans hb8); clear hO8 hb8)
          exact ⟨⟨k + 1, (o ++ [q]) ++ [r], by go_num, by omega, O8, NX, B8⟩, by simp [intOf]; omega⟩
        · have da : decide (q.2 + 1 < r.1) = false := decide_eq_false hap
          have NX := hide (NM.out (by omega))
          clear NM NN m0
          simp only [da, Bool.not_false]
          have PT := O6.out
          have HM' := HM.out
          rw [← HM'] at PT
          have PT' := PT.put (max q.2 r.2)
          rw [HM'] at PT'
          have PU := hide PT'
          clear PT PT' HM'
          go_wp2
          go_big_region
          have O7 : Hid (OwnR ((w6.setCell ⟨g, m * 2 + 1, none⟩ (.int .i64 (max q.2 r.2))).drew) w.heap.size (.slice (some ⟨g, 0, none⟩) (m + 1) oc) (o ++ [(q.1, max q.2 r.2)])) := hide PU.out.1
          have B7 : Hid (Below w.heap.size w ((w6.setCell ⟨g, m * 2 + 1, none⟩ (.int .i64 (max q.2 r.2))).drew)) := hide (B6.out.trans PU.out.2).drew
          clear PU m1 m2 m3 mf O6 B6 sz6 LE
          generalize ((w6.setCell ⟨g, m * 2 + 1, none⟩ (.int .i64 (max q.2 r.2))).drew) = w7 at O7 B7 ⊢
          go_wp2
          exact ⟨⟨k + 1, o ++ [(q.1, max q.2 r.2)], by go_num, by omega, O7, NX, B7⟩, by simp [intOf]; omega⟩
    · have hge : (N : Int) ≤ (k : Int) := by omega
      have HE : Hid (RangesOut l acc) := hide (by
        have J := HJ.out
        have h1 : l.length ≤ k := by have := HN.out; omega
        refine ⟨J.rc, J.ic, by have := J.len; simp at this; omega, fun n => ?_⟩
        rw [J.mem n, List.take_of_length_le h1])
      go_wp2
      go_ret
      exact ⟨⟨_, acc, rfl, HE.out, HO.out⟩, HB.out⟩
end Go.Proofs.YtjbgjdjmejhejaaGreatDoor
namespace Go.Proofs.YtjbgjdjmejhejaaGreatDoor
open Go.RowKit
def encRg (x : Rg) : List Value := [.int .i64 x.1, .int .i64 x.2]
def cmpRg (x y : Rg) : Int := Lib.compareInt x.1 y.1
set_option maxHeartbeats 1000000 in
theorem closure_any (x y : Rg) (W : World) : Calls Tryz.prog 130 #[.agg #[.int .i64 x.1, .int .i64 x.2], .agg #[.int .i64 y.1, .int .i64 y.2]] W fun e w' => e = .returned (.int .i64 (cmpRg x y)) ∧ ∃ q os', w' = Sort.grow (W.drewN q) os' := by
  have hcon := fun W' => hide (Tryz.cmp_Compare_int x.1 y.1 W')
  unfold cmpRg
  generalize Lib.compareInt x.1 y.1 = r at hcon ⊢
  go_enter Tryz.func130, Tryz.ntmps130
  go_wp2_with fail
  refine (unhide (hcon _)).mono ?_
  rintro e w' ⟨rfl, rfl⟩
  go_wp2
  go_ret
  exact ⟨rfl, 0, _, by rw [Sort.alloc_eq_grow, Sort.alloc_eq_grow, Sort.grow_grow]; rfl⟩
theorem ltRg (x y : Rg) : ltOf cmpRg x y = decide (x.1 < y.1) := by
  unfold ltOf cmpRg Lib.compareInt
  by_cases h1 : x.1 < y.1
  · simp [h1]
  · by_cases h2 : y.1 < x.1 <;> simp [h1, h2]
theorem swoRg : Sort.SWO (ltOf cmpRg) := {
  irrefl := fun x => by rw [ltRg]; simp,
  trans := fun x y z h1 h2 => by rw [ltRg] at *; simp at *; omega,
  ntrans := fun x y z h1 h2 => by rw [ltRg] at *; simp at *; omega }
theorem flat_rg (l : List Rg) : Sort.flatK encRg 2 l.toArray = (rgCells l).toArray := by
  apply Array.ext
  · rw [Sort.size_flatK]; simp [rgCells_len]
  · intro j h1 h2
    rw [Sort.size_flatK] at h1
    have h1' : j < l.length * 2 := by simpa using h1
    have e1 := Sort.get_flatK encRg 2 l.toArray j (by simpa using h1)
    rw [getElem!_pos _ j (by rw [Sort.size_flatK]; simpa using h1)] at e1
    rw [e1]
    have hj : j / 2 < l.length := by omega
    obtain ⟨a0, a1⟩ := rgCells_at l (j / 2) hj
    have hg : l.toArray[j / 2]! = l.getD (j / 2) (0, 0) := by simp [List.getD_eq_getElem?_getD, hj]
    rw [hg]
    have hb : some ((rgCells l).toArray[j]) = (rgCells l)[j]? := by simp
    rcases Nat.mod_two_eq_zero_or_one j with hm | hm
    · rw [hm]
      have : (rgCells l)[j]? = some (.int .i64 (l.getD (j / 2) (0, 0)).1) := by rw [← a0]; exact congrArg (fun k => (rgCells l)[k]?) (by omega)
      rw [this] at hb
      exact (Option.some.inj hb).symm
    · rw [hm]
      have : (rgCells l)[j]? = some (.int .i64 (l.getD (j / 2) (0, 0)).2) := by rw [← a1]; exact congrArg (fun k => (rgCells l)[k]?) (by omega)
      rw [this] at hb
      exact (Option.some.inj hb).symm
theorem holds_rg {w : World} {g : Nat} {cur : Array Value} {l : List Rg} (hb : w.heap[g]? = some (.cells cur 111 (0, 0))) (ht : cur.toList.take (l.length * 2) = rgCells l) : Sort.HoldsK encRg 2 w g 0 l.toArray := by
  unfold Sort.HoldsK
  rw [flat_rg]
  intro j hj
  have hj' : j < l.length * 2 := by simpa [rgCells_len] using hj
  refine ⟨?_, by simp [World.frozen?, hb]⟩
  have h1 : (cur.toList.take (l.length * 2))[j]? = (rgCells l)[j]? := by rw [ht]
  rw [List.getElem?_take_of_lt hj', Array.getElem?_toList] at h1
  rw [Nat.zero_add, cell_heap hb, h1]
  have hlt : j < (rgCells l).length := by rw [rgCells_len]; exact hj'
  simp [hlt]
theorem own_sortedR {w : World} {B g cap n : Nat} {os : Array Obj} {cur : Array Value} {l l' : List Rg} (hl : l'.length = l.length) (hB : B ≤ g) (hb : w.heap[g]? = some (.cells cur 111 (0, 0))) (h1 : l.length ≤ cap) (h2 : cap ≤ maxLen) (h3 : cur.size = cap * 2) :
    OwnR (sortWorldK encRg 2 w g 0 n l'.toArray os) B (.slice (some ⟨g, 0, none⟩) l.length cap) l' ∧ w.grownBy (sortWorldK encRg 2 w g 0 n l'.toArray os) (some g) := by
  have hg : g < w.heap.size := lt_heap hb
  have hh : (sortWorldK encRg 2 w g 0 n l'.toArray os).heap[g]? = some (.cells (Sort.putCells id 0 (rgCells l').toArray cur) 111 (0, 0)) := by
    unfold sortWorldK Sort.putRowK
    rw [flat_rg, Sort.heap_grow_old _ _ (by simpa using hg)]
    simp [Sort.putRow, Sort.mapBlock, Sort.ahead, Array.getElem?_modify, hb, Sort.onCells]
  refine ⟨⟨by rw [rgCells_len], Or.inr ⟨g, cap, _, by rw [hl], hB, hh, by omega, h2, by simp [Sort.putCells, h3], ?_⟩⟩, ⟨rfl, rfl, rfl, ?_, fun k hk hne => ?_⟩⟩
  · apply List.ext_getElem?
    intro j
    by_cases hj : j < l'.length * 2
    · rw [List.getElem?_take_of_lt hj, Array.getElem?_toList]
      have hjc : j < cur.size := by omega
      have hlt : j < (rgCells l').length := by rw [rgCells_len]; exact hj
      simp [Sort.putCells, hlt, hjc]
    · rw [List.getElem?_take_eq_none (by omega), List.getElem?_eq_none (by rw [rgCells_len]; omega)]
  · unfold sortWorldK Sort.putRowK
    simp
  · unfold sortWorldK Sort.putRowK
    rw [Sort.heap_grow_old _ _ (by simpa using hk)]
    have : g ≠ k := fun e => hne (by rw [e])
    simp [Sort.putRow, Sort.mapBlock, Sort.ahead, Array.getElem?_modify, this]
theorem perm_all {d d' : Array Rg} (h : Sort.PermIn 0 d.size d d') : d'.toList.Perm d.toList := by
  obtain ⟨h1, _, h3⟩ := h
  have e1 : d'.extract 0 d.size = d' := by rw [← h1]; simp
  have e2 : d.extract 0 d.size = d := by simp
  rwa [e1, e2] at h3
theorem sorted_rises {d : Array Rg} {n : Nat} (hn : d.size = n) (h : Sort.SortedIn (ltOf cmpRg) 0 n d) : risesL d.toList := by
  refine List.pairwise_iff_getElem.2 fun i j hi hj hij => ?_
  have hj' : j < d.size := by simpa using hj
  have := h i j (Nat.zero_le _) hij (by omega)
  rw [ltRg, getElem!_pos _ j hj', getElem!_pos _ i (by omega)] at this
  have := of_decide_eq_false this
  simp
  omega
def rightOnes (l : List Rg) : List Rg := l.filter fun r => decide (r.1 ≤ r.2)
theorem rightOnes_succ {l : List Rg} {k : Nat} (h : k < l.length) : rightOnes (l.take (k + 1)) = rightOnes (l.take k) ++ (if (l.getD k (0, 0)).1 ≤ (l.getD k (0, 0)).2 then [l.getD k (0, 0)] else []) := by
  unfold rightOnes
  rw [take_succ_getD h, List.filter_append, List.filter_cons, List.filter_nil]
  congr 1
  by_cases hh : (l.getD k (0, 0)).1 ≤ (l.getD k (0, 0)).2
  · rw [if_pos (decide_eq_true hh), if_pos hh]
  · rw [if_neg (by rw [decide_eq_false hh]; simp), if_neg hh]
theorem memR_perm {a b : List Rg} (h : a.Perm b) (n : Int) : memR a n ↔ memR b n := by
  constructor
  · rintro ⟨r, hr, x⟩; exact ⟨r, h.mem_iff.1 hr, x⟩
  · rintro ⟨r, hr, x⟩; exact ⟨r, h.mem_iff.2 hr, x⟩
theorem memR_rightOnes (l : List Rg) (n : Int) : memR (rightOnes l) n ↔ memR l n := by
  constructor
  · rintro ⟨r, hr, x⟩; exact ⟨r, (List.mem_filter.1 hr).1, x⟩
  · rintro ⟨r, hr, x⟩; exact ⟨r, List.mem_filter.2 ⟨hr, decide_eq_true (by omega)⟩, x⟩
theorem ranges_out {l m o : List Rg} (h : RangesOut m o) (hp : m.Perm (rightOnes l)) : RangesOut l o := by
  refine ⟨h.1, h.2.1, ?_, fun n => by rw [h.2.2.2 n, memR_perm hp n, memR_rightOnes]⟩
  have h1 := h.2.2.1
  have h2 := hp.length_eq
  have h3 : (rightOnes l).length ≤ l.length := List.length_filter_le _ _
  omega
theorem OwnR.mono {w : World} {B B' : Nat} {v : Value} {l : List Rg} (h : OwnR w B v l) (hB : B' ≤ B) : OwnR w B' v l := by
  refine ⟨h.1, ?_⟩
  rcases h.2 with h2 | ⟨g, cap, cur, e1, e2, e3⟩
  · exact Or.inl h2
  · exact Or.inr ⟨g, cap, cur, e1, by omega, e3⟩
set_option maxHeartbeats 4000000 in
set_option maxRecDepth 100000 in
theorem setRanges_any (v : Value) (l : List Rg) (w : World) (hv : RngsAt w v l) (hn : l.length ≤ 100000) :
    Calls Tryz.prog 82 #[v] w fun r w' => (∃ u o, r = .returned u ∧ RangesOut l o ∧ OwnR w' w.heap.size u o) ∧ Below w.heap.size w w' := by
  have HV := hide hv
  have HI := hide hv.1
  have hlen := hv.2.1
  obtain ⟨a, cap, rfl⟩ := hv.form
  clear hv
  obtain ⟨N, hN⟩ : ∃ N : Nat, N = l.length := ⟨_, rfl⟩
  rw [← hN] at hlen hn HV ⊢
  have HN := hide hN
  clear hN
  obtain ⟨i0, hi, hz0, hz1, hz2⟩ := info_parts infoRg
  obtain ⟨w1, hm1, hm2, hm3⟩ := run_make_own (P := Tryz.prog) w w.heap.size 23 111 i0 _ 2 Tryz.underlying23 hi hz0 hz1 .i64 .i64 N (by rw [hz2]; omega) (by unfold maxLen; omega) (Nat.le_refl _)
  have O1 : Hid (OwnR w1 w.heap.size (.slice (some ⟨w.heap.size, 0, none⟩) 0 N) []) := hide hm2
  have B1 := hide ((Below.refl _ w).grown hm3 (Nat.le_refl _) (fun k hk => by cases hk))
  clear hi hz0 hz1 hz2 hm2 hm3
  go_enter Tryz.func82, Tryz.ntmps82
  go_wp2
  go_loopw [3, 11] (fun o i wr => ∃ k : Nat, i = .int .i64 k ∧ k ≤ N ∧ Hid (OwnR wr w.heap.size o (rightOnes (l.take k))) ∧ Hid (Below w.heap.size w wr)) (fun _ i _ => N - (intOf i).toNat)
  case atStart => exact ⟨0, rfl, by omega, O1, B1⟩
  case round =>
    clear hm1 O1 B1
    obtain ⟨k, rfl, hk, HO, HB⟩ := hrel
    by_cases hlt : k < N
    · have hk' : k < l.length := by rw [← HN.out]; exact hlt
      obtain ⟨b, off, ha, hb, c0, c1⟩ := (HV.out.on HB.out).at.2 k hk'
      subst ha
      have HF := hide (rightOnes_succ hk')
      have LE : Hid ((rightOnes (l.take k)).length + 1 ≤ 1000000) := hide (by
        have h1 : (rightOnes (l.take k)).length ≤ (l.take k).length := List.length_filter_le _ _
        have h2 : (l.take k).length ≤ k := by simp; omega
        omega)
      generalize l.getD k (0, 0) = q at c0 c1 HF
      have szB := HB.out.size
      have B5 := hide (HB.out.alloc szB (Obj.cells #[Value.int IntKind.i64 q.1, Value.int IntKind.i64 q.2] 111))
      have O5 := hide (HO.out.alloc (Obj.cells #[Value.int IntKind.i64 q.1, Value.int IntKind.i64 q.2] 111))
      by_cases hq : q.1 ≤ q.2
      · have E : Hid (rightOnes (l.take (k + 1)) = rightOnes (l.take k) ++ [q]) := hide (by rw [HF.out, if_pos hq])
        clear HF
        go_wp2_with (at_builtin; refine wpList_appR _ rfl _ _ rfl w.heap.size _ _ rfl (O5.out.alloc _) _ 1 1 _ [q] rfl rfl (heap_at (by simp)) rfl LE.out (by simp; omega) ?_; intro v8 w8 hO8 hb8; have O8 := hide hO8; have B8 := hide ((B5.out.alloc B5.out.size _).trans hb8); clear hO8 hb8)
        refine ⟨⟨k + 1, by go_num, by omega, ?_, B8⟩, by simp [intOf]; omega⟩
        rw [E.out]; exact O8
      · have E : Hid (rightOnes (l.take (k + 1)) = rightOnes (l.take k)) := hide (by rw [HF.out, if_neg hq, List.append_nil])
        clear HF
        go_wp2
        refine ⟨⟨k + 1, by go_num, by omega, ?_, B5⟩, by simp [intOf]; omega⟩
        rw [E.out]; exact O5
    · have hge : (N : Int) ≤ (k : Int) := by omega
      have E : Hid (l.take k = l) := hide (List.take_of_length_le (by have := HN.out; omega))
      rw [E.out] at HO
      have hml : (rightOnes l).length ≤ N := by rw [HN.out]; exact List.length_filter_le _ _
      have HRI : Hid (inI64 (rightOnes l)) := hide (fun x hx => HI.out x (List.mem_filter.1 hx).1)
      have HRL : Hid (∀ r ∈ rightOnes l, r.1 ≤ r.2) := hide (fun r hr => of_decide_eq_true (List.mem_filter.1 hr).2)
      have RO := fun (m o : List Rg) (h : RangesOut m o) (hp : m.Perm (rightOnes l)) => hide (ranges_out h hp)
      clear E HV HI
      generalize hms : rightOnes l = ms at *
      clear hms
      have J := fun (u : Value) (m : List Rg) (w2 : World) (hO : OwnR w2 w.heap.size u m) (hp : m.Perm ms) (hs : risesL m) => hide (joined_any u m w2 (hO.rngs (fun x hx => HRI.out x (hp.mem_iff.1 hx)) (by have := hp.length_eq; omega)) hs (fun r hr => HRL.out r (hp.mem_iff.1 hr)) (by have := hp.length_eq; omega))
      cases ms with
      | nil =>
        obtain ⟨p, c, rfl⟩ := HO.out.empty_form
        have S0 : Hid (Calls Tryz.prog 129 #[.slice p 0 c, .func (.func 130) #[] #[]] wr fun e w' => e = .returned (.tuple #[]) ∧ w' = wr) := hide (AnyF.slices_SortFunc_none Tryz.sortRg p c (.func (.func 130) #[] #[]) wr)
        have J0 := J _ [] _ HO.out (List.Perm.refl _) List.Pairwise.nil
        clear J
        go_wp2_with fail
        refine (unhide S0).mono ?_
        rintro r w2 ⟨rfl, rfl⟩
        go_wp2_with fail
        refine (unhide J0).mono ?_
        rintro r w3 ⟨⟨u3, o3, rfl, ho3, hO3⟩, b3⟩
        have R3 := RO [] o3 ho3 (List.Perm.refl _)
        have O3 := hide (hO3.mono HB.out.size)
        have B3 := hide (HB.out.trans (b3.mono HB.out.size))
        clear ho3 hO3 b3 RO J0 S0
        go_wp2
        go_ret
        exact ⟨⟨_, o3, rfl, R3.out, O3.out⟩, B3.out⟩
      | cons q qs =>
        have hpos : 0 < (q :: qs).length := by simp
        generalize q :: qs = ms at *
        rcases HO.out.2 with ⟨_, h0⟩ | ⟨g, mc, cur, rfl, hg, hcur, hcap, hmx, hcs, hct⟩
        · omega
        · have hlt := lt_heap hcur
          have eg : ∀ args w, (callFunc 130 args).run Tryz.prog w = .ok (.enter 130 args) w := enters_of Tryz.func130 (by kernel_rfl) rfl
          have hcmp : CmpLays Tryz.prog 130 #[] encRg 2 cmpRg g 0 ms.toArray.size wr := fun _ _ _ _ x y => closure_any x y _
          have S0 : Hid (Calls Tryz.prog 129 #[.slice (some ⟨g, 0, none⟩) ms.length mc, .func (.func 130) #[] #[]] wr fun e w' => e = .returned (.tuple #[]) ∧ ∃ d' n os, Sort.PermIn 0 ms.toArray.size ms.toArray d' ∧ Sort.SortedIn (ltOf cmpRg) 0 ms.toArray.size d' ∧ w' = sortWorldK encRg 2 wr g 0 n d' os) :=
            hide (AnyQ.slices_SortFunc Tryz.sortRg 2 Tryz.isAgg111 Tryz.sizeOf111 encRg (fun _ => rfl) (fun x v hv => by simp [encRg] at hv; rcases hv with rfl | rfl <;> rfl) cmpRg swoRg 130 #[] g 0 mc ms.toArray wr eg hcmp (holds_rg hcur hct) hlt (by simp; omega))
          have OS := fun (l' : List Rg) (n : Nat) (os : Array Obj) (hl : l'.length = ms.length) => hide (own_sortedR (n := n) (os := os) hl hg hcur hcap hmx hcs)
          clear eg hcmp hcur hct hcs HO hcap hmx
          go_wp2_with fail
          refine (unhide S0).mono ?_
          rintro r w2 ⟨rfl, d', n, os, hp, hs, rfl⟩
          have hp' := perm_all hp
          have hs' := sorted_rises (n := ms.toArray.size) hp.1 hs
          have hl' := hp'.length_eq
          have hX := (OS d'.toList n os (by simpa using hl')).out
          simp only [Array.toArray_toList] at hX hp'
          obtain ⟨o2, g2⟩ := hX
          have B2 := hide (HB.out.grown g2 HB.out.size (fun k hk => by cases hk; exact hg))
          have J0 := J _ d'.toList _ o2 hp' hs'
          have HP := hide hp'
          clear hp hs hs' hl' hp' OS S0 o2 g2 J HB hlt
          generalize sortWorldK encRg 2 wr g 0 n d' os = w2 at B2 J0 ⊢
          go_wp2_with fail
          refine (unhide J0).mono ?_
          rintro r w3 ⟨⟨u3, o3, rfl, ho3, hO3⟩, b3⟩
          have R3 := RO _ o3 ho3 HP.out
          have O3 := hide (hO3.mono B2.out.size)
          have B3 := hide (B2.out.trans (b3.mono B2.out.size))
          clear ho3 hO3 b3 RO J0
          go_wp2
          go_ret
          exact ⟨⟨_, o3, rfl, R3.out, O3.out⟩, B3.out⟩
end Go.Proofs.YtjbgjdjmejhejaaGreatDoor
namespace Go.Proofs.YtjbgjdjmejhejaaGreatDoor
open Go.RowKit
theorem right_size {l : List ByteArray} (h : rightS l) : ∀ s ∈ l, s.size ≤ 9223372036854775807 := fun s hs => by have := h.1 s hs; omega
theorem OwnR.frm {w : World} {B : Nat} {v : Value} {l : List Rg} (h : OwnR w B v l) : ∃ a n cap, v = .slice a n cap := by
  rcases h.2 with ⟨e, _⟩ | ⟨g, cap, cur, e, _⟩
  · exact ⟨_, _, _, e⟩
  · exact ⟨_, _, _, e⟩
theorem OwnS.frm {w : World} {B : Nat} {v : Value} {l : List ByteArray} (h : OwnS w B v l) : ∃ a n cap, v = .slice a n cap := by
  rcases h.2 with ⟨e, _⟩ | ⟨g, cap, cur, e, _⟩
  · exact ⟨_, _, _, e⟩
  · exact ⟨_, _, _, e⟩
theorem put4 {B p : Nat} {w0 w : World} {t : TypeId} {y0 y1 y2 y3 : Value} (x0 x1 x2 x3 : Value) (hp : w.heap[p]? = some (.cells #[y0, y1, y2, y3] t (0, 0))) (hB : B ≤ p) (hb : Below B w0 w) :
    ((((w.setCell ⟨p, 0, none⟩ x0).setCell ⟨p, 1, none⟩ x1).setCell ⟨p, 2, none⟩ x2).setCell ⟨p, 3, none⟩ x3).heap[p]? = some (.cells #[x0, x1, x2, x3] t (0, 0)) ∧
    Below B w0 ((((w.setCell ⟨p, 0, none⟩ x0).setCell ⟨p, 1, none⟩ x1).setCell ⟨p, 2, none⟩ x2).setCell ⟨p, 3, none⟩ x3) ∧
    (∀ k, k ≠ p → ((((w.setCell ⟨p, 0, none⟩ x0).setCell ⟨p, 1, none⟩ x1).setCell ⟨p, 2, none⟩ x2).setCell ⟨p, 3, none⟩ x3).heap[k]? = w.heap[k]?) := by
  refine ⟨?_, ?_, fun k hk => ?_⟩
  · have h0 := heap_setCell (i := 0) x0 hp
    have h1 := heap_setCell (i := 1) x1 h0
    have h2 := heap_setCell (i := 2) x2 h1
    have h3 := heap_setCell (i := 3) x3 h2
    exact h3
  · exact (((hb.setCell (p := ⟨p, 0, none⟩) hB _).setCell (p := ⟨p, 1, none⟩) hB _).setCell (p := ⟨p, 2, none⟩) hB _).setCell (p := ⟨p, 3, none⟩) hB _
  · have hk' : p ≠ k := fun e => hk e.symm
    simp [World.setCell, Array.getElem?_modify, hk']
theorem OwnR.aside {w W : World} {B p : Nat} {v : Value} {l : List Rg} (h : OwnR w B v l) (hp : p < B) (hk : ∀ k, k ≠ p → W.heap[k]? = w.heap[k]?) : OwnR W B v l := by
  refine ⟨h.1, ?_⟩
  rcases h.2 with h2 | ⟨g, cap, cur, e, hg, hc, hr⟩
  · exact Or.inl h2
  · exact Or.inr ⟨g, cap, cur, e, hg, (hk g (by omega)).trans hc, hr⟩
theorem OwnS.aside {w W : World} {B p : Nat} {v : Value} {l : List ByteArray} (h : OwnS w B v l) (hp : p < B) (hk : ∀ k, k ≠ p → W.heap[k]? = w.heap[k]?) : OwnS W B v l := by
  refine ⟨h.1, ?_⟩
  rcases h.2 with h2 | ⟨g, cap, cur, e, hg, hc, hr⟩
  · exact Or.inl h2
  · exact Or.inr ⟨g, cap, cur, e, hg, (hk g (by omega)).trans hc, hr⟩
theorem made_set {w0 w : World} {p : Nat} {t : TypeId} {y0 y1 y2 y3 ui us : Value} {B1 B2 : Nat} (S : SetV) (hp : w.heap[p]? = some (.cells #[y0, y1, y2, y3] t (0, 0))) (hw : w0.heap.size ≤ p) (hb : Below w0.heap.size w0 w)
    (hi : OwnR w B1 ui S.ints) (hs : OwnS w B2 us S.strs) (h1 : p < B1) (h2 : p < B2) (hg : Good S) (n1 : S.ints.length ≤ 9223372036854775807) (n2 : S.strs.length ≤ 9223372036854775807) :
    ((((w.setCell ⟨p, 0, none⟩ (.bool S.absent)).setCell ⟨p, 1, none⟩ ui).setCell ⟨p, 2, none⟩ (.bool S.co)).setCell ⟨p, 3, none⟩ us).heap[p]? = some (.cells #[.bool S.absent, ui, .bool S.co, us] t (0, 0)) ∧
    SetAt ((((w.setCell ⟨p, 0, none⟩ (.bool S.absent)).setCell ⟨p, 1, none⟩ ui).setCell ⟨p, 2, none⟩ (.bool S.co)).setCell ⟨p, 3, none⟩ us) (.agg #[.bool S.absent, ui, .bool S.co, us]) S ∧
    Below w0.heap.size w0 ((((w.setCell ⟨p, 0, none⟩ (.bool S.absent)).setCell ⟨p, 1, none⟩ ui).setCell ⟨p, 2, none⟩ (.bool S.co)).setCell ⟨p, 3, none⟩ us) := by
  obtain ⟨a1, a2, a3⟩ := put4 (.bool S.absent) ui (.bool S.co) us hp hw hb
  exact ⟨a1, ⟨ui, us, rfl, (hi.aside h1 a3).rngs hg.i n1, (hs.aside h2 a3).strs (right_size hg.rs) n2⟩, a2⟩
end Go.Proofs.YtjbgjdjmejhejaaGreatDoor
namespace Go.Proofs.YtjbgjdjmejhejaaGreatDoor
open Go.RowKit
structure Fit2 (S : SetV) : Prop where
  good : Good S
  ni : S.ints.length ≤ 2000
  ns : S.strs.length ≤ 2000
theorem Fit.two {S : SetV} (h : Fit S) : Fit2 S := ⟨h.good, Nat.le_trans h.ni (by omega), Nat.le_trans h.ns (by omega)⟩
structure Trio (w0 w : World) (o1 o2 o3 : Obj) : Prop where
  e1 : w.heap[w0.heap.size]? = some o1
  e2 : w.heap[w0.heap.size + 1]? = some o2
  e3 : w.heap[w0.heap.size + 1 + 1]? = some o3
  b : Below w0.heap.size w0 w
theorem Trio.on {w0 w w' : World} {o1 o2 o3 : Obj} (h : Trio w0 w o1 o2 o3) (hb : Below w.heap.size w w') : Trio w0 w' o1 o2 o3 :=
  ⟨(hb.block _ (lt_heap h.e1)).trans h.e1, (hb.block _ (lt_heap h.e2)).trans h.e2, (hb.block _ (lt_heap h.e3)).trans h.e3, h.b.trans (hb.mono h.b.size)⟩
theorem Trio.start (w : World) (o1 o2 o3 : Obj) : Trio w (((w.alloc o1).alloc o2).alloc o3) o1 o2 o3 := by
  have T := Two.start w o1 o2
  have s1 : (w.alloc o1).heap.size = w.heap.size + 1 := by show (w.heap.push _).size = _; simp
  have s2 : ((w.alloc o1).alloc o2).heap.size = w.heap.size + 1 + 1 := by show ((w.alloc o1).heap.push _).size = _; rw [Array.size_push, s1]
  have T' := T.al o3
  exact ⟨T'.e1, T'.e2, by rw [← s2]; exact heap_new _ _, T'.b⟩
theorem Trio.al {w0 w : World} {o1 o2 o3 : Obj} (h : Trio w0 w o1 o2 o3) (x : Obj) : Trio w0 (w.alloc x) o1 o2 o3 := h.on ((Below.refl _ w).alloc (Nat.le_refl _) x)
theorem put4_cell {w : World} {p k o : Nat} {x0 x1 x2 x3 : Value} (h : ¬ (p = k)) : ((((w.setCell ⟨p, 0, none⟩ x0).setCell ⟨p, 1, none⟩ x1).setCell ⟨p, 2, none⟩ x2).setCell ⟨p, 3, none⟩ x3).cell? ⟨k, o, none⟩ = w.cell? ⟨k, o, none⟩ := by
  rw [World.cell?_setCell_far _ _ _ _ h, World.cell?_setCell_far _ _ _ _ h, World.cell?_setCell_far _ _ _ _ h, World.cell?_setCell_far _ _ _ _ h]
theorem orR_out {a b o : List Rg} (ha : rightR a) (hb : rightR b) (ia : inI64 a) (ib : inI64 b) (h : RangesOut (a ++ b) o) : o = orR a b := by
  obtain ⟨r1, r2, _, r4⟩ := orR_all a b (rightR_le ha) ia hb ib
  exact rightR_ext64 _ _ h.1 r1 h.2.1 r2 (fun n _ _ => by rw [h.2.2.2 n, r4 n, memR_append])
theorem andR_out {A B : SetV} {o : List Rg} (hA : Good A) (hB : Good B) (h : CommonOut A.ints B.ints o) : o = (andV A B).ints := by
  refine rightR_ext64 _ _ h.1 (andV_good hA hB).ri h.2.1 (andV_good hA hB).i (fun n n0 n1 => ?_)
  have hh := andV_has hA hB (1, n, noS) n0 n1
  rw [has_num, has_num, has_num] at hh
  rw [h.2.2.2 n, ← inInts_iff, ← inInts_iff, ← inInts_iff, hh, Bool.and_eq_true]
set_option maxHeartbeats 4000000 in
set_option maxRecDepth 100000 in
theorem or_raw (v u : Value) (sa : Bool) (si : List Rg) (sc : Bool) (ss : List ByteArray) (ta : Bool) (ti : List Rg) (tc : Bool) (ts : List ByteArray) (w : World) (hv : SetAt w v ⟨sa, si, sc, ss⟩) (hu : SetAt w u ⟨ta, ti, tc, ts⟩) (fA : Fit2 ⟨sa, si, sc, ss⟩) (fB : Fit2 ⟨ta, ti, tc, ts⟩) :
    Calls Tryz.prog 42 #[v, u] w fun r w' => (∃ x, r = .returned x ∧ SetAt w' x (orV ⟨sa, si, sc, ss⟩ ⟨ta, ti, tc, ts⟩)) ∧ Below w.heap.size w w' := by
  have HA := hide fA.good
  have HB := hide fB.good
  have HAI := hide fA.ni
  have HAS := hide fA.ns
  have HBI := hide fB.ni
  have HBS := hide fB.ns
  clear fA fB
  obtain ⟨vi, vs, rfl, hI, hS⟩ := hv
  obtain ⟨ui, us, rfl, hJ, hT⟩ := hu
  dsimp only at HAI HAS HBI HBS hI hS hJ hT
  obtain ⟨ai, ci, rfl⟩ := hI.form
  obtain ⟨aq, cq, rfl⟩ := hS.form
  obtain ⟨bi, di, rfl⟩ := hJ.form
  obtain ⟨bq, dq, rfl⟩ := hT.form
  have T0 := Trio.start w (.cells #[.bool sa, .slice ai si.length ci, .bool sc, .slice aq ss.length cq] 26) (.cells #[.bool ta, .slice bi ti.length di, .bool tc, .slice bq ts.length dq] 26) (.cells #[.bool false, .slice none 0 0, .bool false, .slice none 0 0] 26)
  have OS := hide (orStrings_any _ _ ⟨sa, si, sc, ss⟩ ⟨ta, ti, tc, ts⟩ _ (hS.on T0.b) (hT.on T0.b) HA.out.rs HB.out.rs (by have := HAS.out; have := HBS.out; dsimp only; omega))
  dsimp only at OS
  have I0 := hide (hI.on T0.b)
  have J0 := hide (hJ.on T0.b)
  have HSI := hide hI.1
  have HTI := hide hJ.1
  clear hI hJ hS hT
  obtain ⟨c0, c1, c2, c3⟩ := setCells T0.e1
  obtain ⟨d0, d1, d2, d3⟩ := setCells T0.e2
  have CC := fun (g : Nat) (W : World) (hg : W.heap[g]? = some (.cells #[.slice ai si.length ci, .slice bi ti.length di] 23 (0, 0))) (h1 : RngsAt W (.slice ai si.length ci) si) (h2 : RngsAt W (.slice bi ti.length di) ti) => hide (concatR_any g _ _ _ _ W hg h1 h2 (by have := HAI.out; have := HBI.out; omega))
  have RA := fun (W : World) (x : Value) (h : RngsAt W x (si ++ ti)) => hide (setRanges_any x (si ++ ti) W h (by have := HAI.out; have := HBI.out; rw [List.length_append]; omega))
  have HAB : Hid (inI64 (si ++ ti)) := hide (fun x hx => (List.mem_append.1 hx).elim (HSI.out x) (HTI.out x))
  have HLB : Hid ((si ++ ti).length ≤ 9223372036854775807) := hide (by have := HAI.out; have := HBI.out; rw [List.length_append]; omega)
  go_enter Tryz.func42, Tryz.ntmps42
  go_wp2_with fail
  refine (unhide OS).mono ?_
  rintro r w1 ⟨⟨x1, rfl, o1⟩, b1⟩
  obtain ⟨p1, n1, k1, rfl⟩ := o1.frm
  have T1 := hide (T0.on b1)
  have I1 := hide (I0.out.on b1)
  have J1 := hide (J0.out.on b1)
  have O1 := hide o1
  have HLT := hide (lt_heap T0.e3)
  have HL1 := hide b1.size
  clear T0 b1 I0 J0 o1 OS c0 c1 c2 c3 d0 d1 d2 d3
  generalize hw0 : (((w.alloc (Obj.cells #[.bool sa, .slice ai si.length ci, .bool sc, .slice aq ss.length cq] 26)).alloc (Obj.cells #[.bool ta, .slice bi ti.length di, .bool tc, .slice bq ts.length dq] 26)).alloc (Obj.cells #[.bool false, .slice none 0 0, .bool false, .slice none 0 0] 26)) = w0 at HLT HL1 O1
  clear hw0
  obtain ⟨c0, c1, c2, c3⟩ := setCells T1.out.e1
  obtain ⟨d0, d1, d2, d3⟩ := setCells T1.out.e2
  have IA := hide (I1.out.on ((Below.refl _ w1).alloc (Nat.le_refl _) (Obj.cells #[.slice ai si.length ci, .slice bi ti.length di] 23)))
  have JA := hide (J1.out.on ((Below.refl _ w1).alloc (Nat.le_refl _) (Obj.cells #[.slice ai si.length ci, .slice bi ti.length di] 23)))
  have ne1 : ¬ (w.heap.size = w.heap.size + 1 + 1) := by omega
  have ne2 : ¬ (w.heap.size + 1 + 1 = w.heap.size) := by omega
  have ne3 : ¬ (w.heap.size + 1 + 1 = w.heap.size + 1) := by omega
  have PH1 := True.intro
  go_wp2
  cases sa
  · go_region_held3 (fun w' => (w'.cell? ⟨w.heap.size, 0, none⟩ = some (.bool false) ∧ w'.cell? ⟨w.heap.size, 1, none⟩ = some (.slice ai si.length ci)) ∧ w'.cell? ⟨w.heap.size + 1, 0, none⟩ = some (.bool ta) ∧ w'.cell? ⟨w.heap.size + 1, 1, none⟩ = some (.slice bi ti.length di)) (first | go_keep | (dsimp only; refine ⟨⟨?_, ?_⟩, ?_, ?_⟩ <;> first | assumption | go_keep))
    ((first
      | (go_at_call 83; have pz := PH1; clear pz PH1; refine (unhide (CC _ _ ?_ ?_ ?_)).mono ?_; exact heap_at (by simp); exact IA.out; exact JA.out; rintro r w2 ⟨⟨x2, rfl, o2⟩, b'⟩; obtain ⟨p2, n2, k2, rfl⟩ := o2.frm; have b : Below (w1.alloc (Obj.cells #[.slice ai si.length ci, .slice bi ti.length di] 23)).heap.size (w1.alloc (Obj.cells #[.slice ai si.length ci, .slice bi ti.length di] 23)) w2 := ⟨b'.os, b'.tape, b'.output, b'.size, b'.block⟩; have HL2 : Hid (w1.heap.size ≤ w2.heap.size) := hide (Nat.le_trans (by simp) b.size); have T2 := hide ((T1.out.al (Obj.cells #[.slice ai si.length ci, .slice bi ti.length di] 23)).on b); have O2 := hide (o2.rngs HAB.out HLB.out); have N2 := hide ((O1.out.alloc (Obj.cells #[.slice ai si.length ci, .slice bi ti.length di] 23)).on b); obtain ⟨e0, e1, e2, e3⟩ := setCells T2.out.e1; obtain ⟨f0, f1, f2, f3⟩ := setCells T2.out.e2; have PH2 := True.intro; clear b b' o2 T1 O1 I1 J1 IA JA CC c0 c1 c2 c3 d0 d1 d2 d3)
      | (go_at_call 82; have pz := PH2; clear pz PH2; refine (unhide (RA _ _ ?_)).mono ?_; exact O2.out; rintro r w3 ⟨⟨x3, o3, rfl, ho3, oo3⟩, b'⟩; obtain ⟨p3, n3, k3, rfl⟩ := oo3.frm; have b : Below w2.heap.size w2 w3 := ⟨b'.os, b'.tape, b'.output, b'.size, b'.block⟩; have T3 := hide (T2.out.on b); have O3 := hide oo3; have H3 := hide ho3; have N3 := hide (N2.out.on b); obtain ⟨e0, e1, e2, e3⟩ := setCells T3.out.e1; obtain ⟨f0, f1, f2, f3⟩ := setCells T3.out.e2; obtain ⟨g0, g1, g2, g3⟩ := setCells T3.out.e3; have z0 := frozen_heap T3.out.e3 0; have z1 := frozen_heap T3.out.e3 1; have z2 := frozen_heap T3.out.e3 2; have z3 := frozen_heap T3.out.e3 3; have PH3 := True.intro; clear b b' oo3 ho3 T2 O2 N2 RA)))
    have hsz := T3.out.b.size
    have E3 := orR_out HA.out.ri HB.out.ri HSI.out HTI.out H3.out
    subst E3
    have MS := made_set (orV ⟨false, si, sc, ss⟩ ⟨ta, ti, tc, ts⟩) (p := w.heap.size + 1 + 1) T3.out.e3 (by omega) T3.out.b O3.out N3.out (Nat.lt_of_lt_of_le HLT.out (Nat.le_trans HL1.out HL2.out)) HLT.out (orV_good HA.out HB.out) (by have := (orV_len HA.out HB.out).1; have := HAI.out; have := HBI.out; dsimp only at *; omega) (by have := (orV_len HA.out HB.out).2; have := HAS.out; have := HBS.out; dsimp only at *; omega)
    simp only [orV, Bool.false_or] at MS
    obtain ⟨m1, m2, m3⟩ := MS
    go_wp2
    exact bodyPost_ret (results_cell_row rfl _ _ (w.heap.size + 1 + 1) 26 _ (0, 0) _ rfl m1 Tryz.underlying26 rfl infoSet) rfl ⟨⟨_, rfl, m2⟩, m3⟩
  · refine wp_region_held_drew (S := (fun w' => (w'.cell? ⟨w.heap.size, 0, none⟩ = some (.bool true) ∧ w'.cell? ⟨w.heap.size, 1, none⟩ = some (.slice ai si.length ci)) ∧ w'.cell? ⟨w.heap.size + 1, 0, none⟩ = some (.bool ta) ∧ w'.cell? ⟨w.heap.size + 1, 1, none⟩ = some (.slice bi ti.length di))) (by kernel_rfl) ⟨⟨c0, c1⟩, d0, d1⟩ (fun hHeld => ?_)
    refine wpAnyH_take (i := 0) (v := .pointer (some ⟨w.heap.size, 0, none⟩)) rfl (by kernel_rfl) (by kernel_rfl) (by kernel_rfl) (fun _ _ _ h => h) (Or.inl ⟨by rfl, ?_⟩) (by assumption) ?_
    · intro w' hSw; (try dsimp only at hSw); go_simp; done
    simp only [Act.put, lzA, lzB, lzC]
    refine wpAnyH_take (i := 1) (v := .bool true) rfl (by kernel_rfl) (by kernel_rfl) (by kernel_rfl) (fun _ _ _ h => h) (Or.inl ⟨by rfl, ?_⟩) (by assumption) ?_
    · intro w' hSw; (try dsimp only at hSw); go_simp; done
    simp only [Act.put, lzA, lzB, lzC]
    refine wpAnyH_take (i := 2) (v := .bool true) rfl (by kernel_rfl) (by kernel_rfl) (by kernel_rfl) (fun _ _ _ h => h) (Or.inl ⟨by rfl, ?_⟩) (by assumption) ?_
    · intro w' hSw; (try dsimp only at hSw); go_simp; done
    simp only [Act.put, lzA, lzB, lzC]
    refine wpAnyH_take (i := 3) (v := undef) rfl (by kernel_rfl) (by kernel_rfl) (by kernel_rfl) (fun _ _ _ h => h) (Or.inr ⟨by rfl, rfl⟩) (by assumption) ?_
    simp only [Act.put, lzA, lzB, lzC]
    refine wpAnyH_take (i := 4) (v := undef) rfl (by kernel_rfl) (by kernel_rfl) (by kernel_rfl) (fun _ _ _ h => h) (Or.inr ⟨by rfl, rfl⟩) (by assumption) ?_
    simp only [Act.put, lzA, lzB, lzC]
    refine wpAnyH_take (i := 5) (v := .bool true) rfl (by kernel_rfl) (by kernel_rfl) (by kernel_rfl) (fun _ _ _ h => h) (Or.inl ⟨by rfl, ?_⟩) (by assumption) ?_
    · intro w' hSw; (try dsimp only at hSw); go_simp; done
    simp only [Act.put, lzA, lzB, lzC]
    refine wpAnyH_take (i := 6) (v := .pointer (some ⟨w.heap.size, 1, none⟩)) rfl (by kernel_rfl) (by kernel_rfl) (by kernel_rfl) (fun _ _ _ h => h) (Or.inl ⟨by rfl, ?_⟩) (by assumption) ?_
    · intro w' hSw; (try dsimp only at hSw); go_simp; done
    simp only [Act.put, lzA, lzB, lzC]
    refine wpAnyH_take (i := 7) (v := .slice ai si.length ci) rfl (by kernel_rfl) (by kernel_rfl) (by kernel_rfl) (fun _ _ _ h => h) (Or.inl ⟨by rfl, ?_⟩) (by assumption) ?_
    · intro w' hSw; (try dsimp only at hSw); go_simp; done
    simp only [Act.put, lzA, lzB, lzC]
    refine wpAnyH_take (i := 8) (v := .pointer (some ⟨w.heap.size + 1, 1, none⟩)) rfl (by kernel_rfl) (by kernel_rfl) (by kernel_rfl) (fun _ _ _ h => h) (Or.inl ⟨by rfl, ?_⟩) (by assumption) ?_
    · intro w' hSw; (try dsimp only at hSw); go_simp; done
    simp only [Act.put, lzA, lzB, lzC]
    refine wpAnyH_take (i := 9) (v := .slice bi ti.length di) rfl (by kernel_rfl) (by kernel_rfl) (by kernel_rfl) (fun _ _ _ h => h) (Or.inl ⟨by rfl, ?_⟩) (by assumption) ?_
    · intro w' hSw; (try dsimp only at hSw); go_simp; done
    simp only [Act.put, lzA, lzB, lzC]
    refine wpAnyH_take (i := 13) (v := .bool (sc || tc)) rfl (by kernel_rfl) (by kernel_rfl) (by kernel_rfl) (fun _ _ _ h => h) (Or.inl ⟨by rfl, ?_⟩) (by assumption) ?_
    · intro w' hSw; (try dsimp only at hSw); go_simp; done
    simp only [Act.put, lzA, lzB, lzC]
    refine wpAnyH_take (i := 14) (v := .slice p1 n1 k1) rfl (by kernel_rfl) (by kernel_rfl) (by kernel_rfl) (fun _ _ _ h => h) (Or.inl ⟨by rfl, ?_⟩) (by assumption) ?_
    · intro w' hSw; (try dsimp only at hSw); go_simp; done
    simp only [Act.put, lzA, lzB, lzC]
    refine wpAnyH_ready (rs := [10]) (by kernel_rfl) (by simp) ?_
    refine AllReadyH.cons rfl (fun K hK => ?_) AllReadyH.nil
    go_simp
    refine hK.out _ _ (by refine ⟨⟨?_, ?_⟩, ?_, ?_⟩ <;> go_keep) (fun hHeld => ?_)
    clear hK K
    refine wpAnyH_ready (rs := [11]) (by kernel_rfl) (by simp) ?_
    refine AllReadyH.cons rfl (fun K hK => ?_) AllReadyH.nil
    go_simp
    refine (unhide (CC _ _ ?_ ?_ ?_)).mono ?_; exact heap_at (by simp); exact IA.out; exact JA.out; rintro r w2 ⟨⟨x2, rfl, o2⟩, b'⟩; obtain ⟨p2, n2, k2, rfl⟩ := o2.frm; have b : Below (w1.alloc (Obj.cells #[.slice ai si.length ci, .slice bi ti.length di] 23)).heap.size (w1.alloc (Obj.cells #[.slice ai si.length ci, .slice bi ti.length di] 23)) w2 := ⟨b'.os, b'.tape, b'.output, b'.size, b'.block⟩; have HL2 : Hid (w1.heap.size ≤ w2.heap.size) := hide (Nat.le_trans (by simp) b.size); have T2 := hide ((T1.out.al (Obj.cells #[.slice ai si.length ci, .slice bi ti.length di] 23)).on b); have O2 := hide (o2.rngs HAB.out HLB.out); have N2 := hide ((O1.out.alloc (Obj.cells #[.slice ai si.length ci, .slice bi ti.length di] 23)).on b); obtain ⟨e0, e1, e2, e3⟩ := setCells T2.out.e1; obtain ⟨f0, f1, f2, f3⟩ := setCells T2.out.e2; clear b b' o2 T1 O1 I1 J1 IA JA CC c0 c1 c2 c3 d0 d1 d2 d3
    refine hK.out _ _ ⟨⟨e0, e1⟩, f0, f1⟩ (fun hHeld => ?_)
    clear hK K
    refine wpAnyH_ready (rs := [12]) (by kernel_rfl) (by simp) ?_
    refine AllReadyH.cons rfl (fun K hK => ?_) AllReadyH.nil
    go_simp
    refine (unhide (RA _ _ ?_)).mono ?_; exact O2.out; rintro r w3 ⟨⟨x3, o3, rfl, ho3, oo3⟩, b'⟩; obtain ⟨p3, n3, k3, rfl⟩ := oo3.frm; have b : Below w2.heap.size w2 w3 := ⟨b'.os, b'.tape, b'.output, b'.size, b'.block⟩; have T3 := hide (T2.out.on b); have O3 := hide oo3; have H3 := hide ho3; have N3 := hide (N2.out.on b); obtain ⟨e0, e1, e2, e3⟩ := setCells T3.out.e1; obtain ⟨f0, f1, f2, f3⟩ := setCells T3.out.e2; obtain ⟨g0, g1, g2, g3⟩ := setCells T3.out.e3; have z0 := frozen_heap T3.out.e3 0; have z1 := frozen_heap T3.out.e3 1; have z2 := frozen_heap T3.out.e3 2; have z3 := frozen_heap T3.out.e3 3; clear b b' oo3 ho3 T2 O2 N2 RA
    refine hK.out _ _ ⟨⟨e0, e1⟩, f0, f1⟩ (fun hHeld => ?_)
    clear hK K
    refine wpAnyH_take (i := 15) (v := .agg #[.bool true, .slice p3 n3 k3, .bool (sc || tc), .slice p1 n1 k1]) rfl (by kernel_rfl) (by kernel_rfl) (by kernel_rfl) (fun _ _ _ h => h) (Or.inl ⟨by rfl, ?_⟩) (by assumption) ?_
    · intro w' hSw; (try dsimp only at hSw); go_simp; done
    simp only [Act.put, lzA, lzB, lzC]
    refine wpAnyH_ready (rs := [16]) (by kernel_rfl) (by simp) ?_
    refine AllReadyH.cons rfl (fun K hK => ?_) AllReadyH.nil
    go_simp
    refine hK.out _ _ ⟨⟨(put4_cell ne2).trans e0, (put4_cell ne2).trans e1⟩, (put4_cell ne3).trans f0, (put4_cell ne3).trans f1⟩ (fun hHeld => ?_)
    clear hK K
    refine wpAnyH_done (by kernel_rfl) ?_ _
    have hsz := T3.out.b.size
    have E3 := orR_out HA.out.ri HB.out.ri HSI.out HTI.out H3.out
    subst E3
    have MS := made_set (orV ⟨true, si, sc, ss⟩ ⟨ta, ti, tc, ts⟩) (p := w.heap.size + 1 + 1) T3.out.e3 (by omega) T3.out.b O3.out N3.out (Nat.lt_of_lt_of_le HLT.out (Nat.le_trans HL1.out HL2.out)) HLT.out (orV_good HA.out HB.out) (by have := (orV_len HA.out HB.out).1; have := HAI.out; have := HBI.out; dsimp only at *; omega) (by have := (orV_len HA.out HB.out).2; have := HAS.out; have := HBS.out; dsimp only at *; omega)
    simp only [orV, Bool.true_or] at MS
    obtain ⟨m1, m2, m3⟩ := MS
    go_wp2
    exact bodyPost_ret (results_cell_row rfl _ _ (w.heap.size + 1 + 1) 26 _ (0, 0) _ rfl m1 Tryz.underlying26 rfl infoSet) rfl ⟨⟨_, rfl, m2⟩, m3⟩
theorem or_any (v u : Value) (A B : SetV) (w : World) (hv : SetAt w v A) (hu : SetAt w u B) (fA : Fit2 A) (fB : Fit2 B) :
    Calls Tryz.prog 42 #[v, u] w fun r w' => (∃ x, r = .returned x ∧ SetAt w' x (orV A B)) ∧ Below w.heap.size w w' := or_raw v u A.absent A.ints A.co A.strs B.absent B.ints B.co B.strs w hv hu fA fB
set_option maxHeartbeats 4000000 in
set_option maxRecDepth 100000 in
theorem and_raw (v u : Value) (sa : Bool) (si : List Rg) (sc : Bool) (ss : List ByteArray) (ta : Bool) (ti : List Rg) (tc : Bool) (ts : List ByteArray) (w : World) (hv : SetAt w v ⟨sa, si, sc, ss⟩) (hu : SetAt w u ⟨ta, ti, tc, ts⟩) (fA : Fit2 ⟨sa, si, sc, ss⟩) (fB : Fit2 ⟨ta, ti, tc, ts⟩) :
    Calls Tryz.prog 41 #[v, u] w fun r w' => (∃ x, r = .returned x ∧ SetAt w' x (andV ⟨sa, si, sc, ss⟩ ⟨ta, ti, tc, ts⟩)) ∧ Below w.heap.size w w' := by
  have HA := hide fA.good
  have HB := hide fB.good
  have HAI := hide fA.ni
  have HAS := hide fA.ns
  have HBI := hide fB.ni
  have HBS := hide fB.ns
  clear fA fB
  obtain ⟨vi, vs, rfl, hI, hS⟩ := hv
  obtain ⟨ui, us, rfl, hJ, hT⟩ := hu
  dsimp only at HAI HAS HBI HBS hI hS hJ hT
  obtain ⟨ai, ci, rfl⟩ := hI.form
  obtain ⟨aq, cq, rfl⟩ := hS.form
  obtain ⟨bi, di, rfl⟩ := hJ.form
  obtain ⟨bq, dq, rfl⟩ := hT.form
  have T0 := Trio.start w (.cells #[.bool sa, .slice ai si.length ci, .bool sc, .slice aq ss.length cq] 26) (.cells #[.bool ta, .slice bi ti.length di, .bool tc, .slice bq ts.length dq] 26) (.cells #[.bool false, .slice none 0 0, .bool false, .slice none 0 0] 26)
  have OS := hide (orStrings_any _ _ (notV ⟨sa, si, sc, ss⟩) (notV ⟨ta, ti, tc, ts⟩) _ (hS.on T0.b) (hT.on T0.b) HA.out.rs HB.out.rs (by have := HAS.out; have := HBS.out; unfold notV; dsimp only; omega))
  dsimp only [notV] at OS
  have I0 := hide (hI.on T0.b)
  have J0 := hide (hJ.on T0.b)
  have HSI := hide hI.1
  have HTI := hide hJ.1
  clear hI hJ hS hT
  obtain ⟨c0, c1, c2, c3⟩ := setCells T0.e1
  obtain ⟨d0, d1, d2, d3⟩ := setCells T0.e2
  have CM := fun (W : World) (h1 : RngsAt W (.slice ai si.length ci) si) (h2 : RngsAt W (.slice bi ti.length di) ti) => hide (commonRanges_any _ _ si ti W h1 h2 HA.out.ri HB.out.ri (by have := HAI.out; have := HBI.out; omega))
  go_enter Tryz.func41, Tryz.ntmps41
  go_wp2_with fail
  refine (unhide OS).mono ?_
  rintro r w1 ⟨⟨x1, rfl, o1⟩, b1⟩
  obtain ⟨p1, n1, k1, rfl⟩ := o1.frm
  have T1 := hide (T0.on b1)
  have I1 := hide (I0.out.on b1)
  have J1 := hide (J0.out.on b1)
  have O1 := hide o1
  have HLT := hide (lt_heap T0.e3)
  have HL1 := hide b1.size
  clear T0 b1 I0 J0 o1 OS c0 c1 c2 c3 d0 d1 d2 d3
  generalize hw0 : (((w.alloc (Obj.cells #[.bool sa, .slice ai si.length ci, .bool sc, .slice aq ss.length cq] 26)).alloc (Obj.cells #[.bool ta, .slice bi ti.length di, .bool tc, .slice bq ts.length dq] 26)).alloc (Obj.cells #[.bool false, .slice none 0 0, .bool false, .slice none 0 0] 26)) = w0 at HLT HL1 O1
  clear hw0
  obtain ⟨c0, c1, c2, c3⟩ := setCells T1.out.e1
  obtain ⟨d0, d1, d2, d3⟩ := setCells T1.out.e2
  have ne1 : ¬ (w.heap.size = w.heap.size + 1 + 1) := by omega
  have ne2 : ¬ (w.heap.size + 1 + 1 = w.heap.size) := by omega
  have ne3 : ¬ (w.heap.size + 1 + 1 = w.heap.size + 1) := by omega
  have PH1 := True.intro
  go_wp2
  cases sa
  · refine wp_region_held_drew (S := (fun w' => (w'.cell? ⟨w.heap.size, 0, none⟩ = some (.bool false) ∧ w'.cell? ⟨w.heap.size, 1, none⟩ = some (.slice ai si.length ci)) ∧ w'.cell? ⟨w.heap.size + 1, 0, none⟩ = some (.bool ta) ∧ w'.cell? ⟨w.heap.size + 1, 1, none⟩ = some (.slice bi ti.length di))) (by kernel_rfl) ⟨⟨c0, c1⟩, d0, d1⟩ (fun hHeld => ?_)
    refine wpAnyH_take (i := 0) (v := .pointer (some ⟨w.heap.size, 0, none⟩)) rfl (by kernel_rfl) (by kernel_rfl) (by kernel_rfl) (fun _ _ _ h => h) (Or.inl ⟨by rfl, ?_⟩) (by assumption) ?_
    · intro w' hSw; (try dsimp only at hSw); go_simp; done
    simp only [Act.put, lzA, lzB, lzC]
    refine wpAnyH_take (i := 1) (v := .bool false) rfl (by kernel_rfl) (by kernel_rfl) (by kernel_rfl) (fun _ _ _ h => h) (Or.inl ⟨by rfl, ?_⟩) (by assumption) ?_
    · intro w' hSw; (try dsimp only at hSw); go_simp; done
    simp only [Act.put, lzA, lzB, lzC]
    refine wpAnyH_take (i := 2) (v := .bool false) rfl (by kernel_rfl) (by kernel_rfl) (by kernel_rfl) (fun _ _ _ h => h) (Or.inl ⟨by rfl, ?_⟩) (by assumption) ?_
    · intro w' hSw; (try dsimp only at hSw); go_simp; done
    simp only [Act.put, lzA, lzB, lzC]
    refine wpAnyH_take (i := 3) (v := undef) rfl (by kernel_rfl) (by kernel_rfl) (by kernel_rfl) (fun _ _ _ h => h) (Or.inr ⟨by rfl, rfl⟩) (by assumption) ?_
    simp only [Act.put, lzA, lzB, lzC]
    refine wpAnyH_take (i := 4) (v := undef) rfl (by kernel_rfl) (by kernel_rfl) (by kernel_rfl) (fun _ _ _ h => h) (Or.inr ⟨by rfl, rfl⟩) (by assumption) ?_
    simp only [Act.put, lzA, lzB, lzC]
    refine wpAnyH_take (i := 5) (v := .bool false) rfl (by kernel_rfl) (by kernel_rfl) (by kernel_rfl) (fun _ _ _ h => h) (Or.inl ⟨by rfl, ?_⟩) (by assumption) ?_
    · intro w' hSw; (try dsimp only at hSw); go_simp; done
    simp only [Act.put, lzA, lzB, lzC]
    refine wpAnyH_take (i := 6) (v := .pointer (some ⟨w.heap.size, 1, none⟩)) rfl (by kernel_rfl) (by kernel_rfl) (by kernel_rfl) (fun _ _ _ h => h) (Or.inl ⟨by rfl, ?_⟩) (by assumption) ?_
    · intro w' hSw; (try dsimp only at hSw); go_simp; done
    simp only [Act.put, lzA, lzB, lzC]
    refine wpAnyH_take (i := 7) (v := .slice ai si.length ci) rfl (by kernel_rfl) (by kernel_rfl) (by kernel_rfl) (fun _ _ _ h => h) (Or.inl ⟨by rfl, ?_⟩) (by assumption) ?_
    · intro w' hSw; (try dsimp only at hSw); go_simp; done
    simp only [Act.put, lzA, lzB, lzC]
    refine wpAnyH_take (i := 8) (v := .pointer (some ⟨w.heap.size + 1, 1, none⟩)) rfl (by kernel_rfl) (by kernel_rfl) (by kernel_rfl) (fun _ _ _ h => h) (Or.inl ⟨by rfl, ?_⟩) (by assumption) ?_
    · intro w' hSw; (try dsimp only at hSw); go_simp; done
    simp only [Act.put, lzA, lzB, lzC]
    refine wpAnyH_take (i := 9) (v := .slice bi ti.length di) rfl (by kernel_rfl) (by kernel_rfl) (by kernel_rfl) (fun _ _ _ h => h) (Or.inl ⟨by rfl, ?_⟩) (by assumption) ?_
    · intro w' hSw; (try dsimp only at hSw); go_simp; done
    simp only [Act.put, lzA, lzB, lzC]
    refine wpAnyH_take (i := 11) (v := .bool (!sc || !tc)) rfl (by kernel_rfl) (by kernel_rfl) (by kernel_rfl) (fun _ _ _ h => h) (Or.inl ⟨by rfl, ?_⟩) (by assumption) ?_
    · intro w' hSw; (try dsimp only at hSw); go_simp; done
    simp only [Act.put, lzA, lzB, lzC]
    refine wpAnyH_take (i := 12) (v := .bool (!(!sc || !tc))) rfl (by kernel_rfl) (by kernel_rfl) (by kernel_rfl) (fun _ _ _ h => h) (Or.inl ⟨by rfl, ?_⟩) (by assumption) ?_
    · intro w' hSw; (try dsimp only at hSw); go_simp; done
    simp only [Act.put, lzA, lzB, lzC]
    refine wpAnyH_take (i := 13) (v := .slice p1 n1 k1) rfl (by kernel_rfl) (by kernel_rfl) (by kernel_rfl) (fun _ _ _ h => h) (Or.inl ⟨by rfl, ?_⟩) (by assumption) ?_
    · intro w' hSw; (try dsimp only at hSw); go_simp; done
    simp only [Act.put, lzA, lzB, lzC]
    refine wpAnyH_ready (rs := [10]) (by kernel_rfl) (by simp) ?_
    refine AllReadyH.cons rfl (fun K hK => ?_) AllReadyH.nil
    go_simp
    refine (unhide (CM _ ?_ ?_)).mono ?_; exact I1.out; exact J1.out; rintro r w3 ⟨⟨x3, o3, rfl, ho3, oo3⟩, b'⟩; obtain ⟨p3, n3, k3, rfl⟩ := oo3.frm; have b : Below w1.heap.size w1 w3 := ⟨b'.os, b'.tape, b'.output, b'.size, b'.block⟩; have T3 := hide (T1.out.on b); have O3 := hide oo3; have H3 := hide ho3; have N3 := hide (O1.out.on b); obtain ⟨e0, e1, e2, e3⟩ := setCells T3.out.e1; obtain ⟨f0, f1, f2, f3⟩ := setCells T3.out.e2; obtain ⟨g0, g1, g2, g3⟩ := setCells T3.out.e3; have z0 := frozen_heap T3.out.e3 0; have z1 := frozen_heap T3.out.e3 1; have z2 := frozen_heap T3.out.e3 2; have z3 := frozen_heap T3.out.e3 3; clear b b' oo3 ho3 T1 O1 I1 J1 CM c0 c1 c2 c3 d0 d1 d2 d3
    refine hK.out _ _ ⟨⟨e0, e1⟩, f0, f1⟩ (fun hHeld => ?_)
    clear hK K
    refine wpAnyH_take (i := 14) (v := .agg #[.bool false, .slice p3 n3 k3, .bool (!(!sc || !tc)), .slice p1 n1 k1]) rfl (by kernel_rfl) (by kernel_rfl) (by kernel_rfl) (fun _ _ _ h => h) (Or.inl ⟨by rfl, ?_⟩) (by assumption) ?_
    · intro w' hSw; (try dsimp only at hSw); go_simp; done
    simp only [Act.put, lzA, lzB, lzC]
    refine wpAnyH_ready (rs := [15]) (by kernel_rfl) (by simp) ?_
    refine AllReadyH.cons rfl (fun K hK => ?_) AllReadyH.nil
    go_simp
    refine hK.out _ _ ⟨⟨(put4_cell ne2).trans e0, (put4_cell ne2).trans e1⟩, (put4_cell ne3).trans f0, (put4_cell ne3).trans f1⟩ (fun hHeld => ?_)
    clear hK K
    refine wpAnyH_done (by kernel_rfl) ?_ _
    have hsz := T3.out.b.size
    have E3 := andR_out HA.out HB.out H3.out
    subst E3
    have MS := made_set (andV ⟨false, si, sc, ss⟩ ⟨ta, ti, tc, ts⟩) (p := w.heap.size + 1 + 1) T3.out.e3 (by omega) T3.out.b O3.out N3.out (Nat.lt_of_lt_of_le HLT.out HL1.out) HLT.out (andV_good HA.out HB.out) (by have := (andV_len HA.out HB.out).1; have := HAI.out; have := HBI.out; dsimp only at *; omega) (by have := (andV_len HA.out HB.out).2; have := HAS.out; have := HBS.out; dsimp only at *; omega)
    have hab : (andV ⟨false, si, sc, ss⟩ ⟨ta, ti, tc, ts⟩).absent = false := by cases ta <;> rfl
    have hco : (andV ⟨false, si, sc, ss⟩ ⟨ta, ti, tc, ts⟩).co = (sc && tc) := by cases sc <;> cases tc <;> rfl
    rw [hab, hco] at MS
    obtain ⟨m1, m2, m3⟩ := MS
    go_wp2
    exact bodyPost_ret (results_cell_row rfl _ _ (w.heap.size + 1 + 1) 26 _ (0, 0) _ rfl m1 Tryz.underlying26 rfl infoSet) rfl ⟨⟨_, rfl, m2⟩, m3⟩
  · go_region_held3 (fun w' => (w'.cell? ⟨w.heap.size, 0, none⟩ = some (.bool true) ∧ w'.cell? ⟨w.heap.size, 1, none⟩ = some (.slice ai si.length ci)) ∧ w'.cell? ⟨w.heap.size + 1, 0, none⟩ = some (.bool ta) ∧ w'.cell? ⟨w.heap.size + 1, 1, none⟩ = some (.slice bi ti.length di)) (first | go_keep | (dsimp only; refine ⟨⟨?_, ?_⟩, ?_, ?_⟩ <;> first | assumption | go_keep))
    ((first
      | (go_at_call 81; have pz := PH1; clear pz PH1; refine (unhide (CM _ ?_ ?_)).mono ?_; exact I1.out; exact J1.out; rintro r w3 ⟨⟨x3, o3, rfl, ho3, oo3⟩, b'⟩; obtain ⟨p3, n3, k3, rfl⟩ := oo3.frm; have b : Below w1.heap.size w1 w3 := ⟨b'.os, b'.tape, b'.output, b'.size, b'.block⟩; have T3 := hide (T1.out.on b); have O3 := hide oo3; have H3 := hide ho3; have N3 := hide (O1.out.on b); obtain ⟨e0, e1, e2, e3⟩ := setCells T3.out.e1; obtain ⟨f0, f1, f2, f3⟩ := setCells T3.out.e2; obtain ⟨g0, g1, g2, g3⟩ := setCells T3.out.e3; have z0 := frozen_heap T3.out.e3 0; have z1 := frozen_heap T3.out.e3 1; have z2 := frozen_heap T3.out.e3 2; have z3 := frozen_heap T3.out.e3 3; have PH3 := True.intro; clear b b' oo3 ho3 T1 O1 I1 J1 CM c0 c1 c2 c3 d0 d1 d2 d3)))
    have hsz := T3.out.b.size
    have E3 := andR_out HA.out HB.out H3.out
    subst E3
    have MS := made_set (andV ⟨true, si, sc, ss⟩ ⟨ta, ti, tc, ts⟩) (p := w.heap.size + 1 + 1) T3.out.e3 (by omega) T3.out.b O3.out N3.out (Nat.lt_of_lt_of_le HLT.out HL1.out) HLT.out (andV_good HA.out HB.out) (by have := (andV_len HA.out HB.out).1; have := HAI.out; have := HBI.out; dsimp only at *; omega) (by have := (andV_len HA.out HB.out).2; have := HAS.out; have := HBS.out; dsimp only at *; omega)
    have hab : (andV ⟨true, si, sc, ss⟩ ⟨ta, ti, tc, ts⟩).absent = ta := by cases ta <;> rfl
    have hco : (andV ⟨true, si, sc, ss⟩ ⟨ta, ti, tc, ts⟩).co = (sc && tc) := by cases sc <;> cases tc <;> rfl
    rw [hab, hco] at MS
    obtain ⟨m1, m2, m3⟩ := MS
    go_wp2
    exact bodyPost_ret (results_cell_row rfl _ _ (w.heap.size + 1 + 1) 26 _ (0, 0) _ rfl m1 Tryz.underlying26 rfl infoSet) rfl ⟨⟨_, rfl, m2⟩, m3⟩
theorem and_any (v u : Value) (A B : SetV) (w : World) (hv : SetAt w v A) (hu : SetAt w u B) (fA : Fit2 A) (fB : Fit2 B) :
    Calls Tryz.prog 41 #[v, u] w fun r w' => (∃ x, r = .returned x ∧ SetAt w' x (andV A B)) ∧ Below w.heap.size w w' := and_raw v u A.absent A.ints A.co A.strs B.absent B.ints B.co B.strs w hv hu fA fB
end Go.Proofs.YtjbgjdjmejhejaaGreatDoor
