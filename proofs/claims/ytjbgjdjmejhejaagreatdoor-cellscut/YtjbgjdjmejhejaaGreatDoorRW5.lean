import Derived.Test.YtjbgjdjmejhejaaGreatDoorRW4
import Derived.Test.YtjbgjdjmejhejaaGreatDoorRW1
import Derived.Test.YtjbgjdjmejhejaaGreatDoorRW2
set_option linter.unusedSimpArgs false
set_option linter.unusedVariables false
namespace Go.Proofs.YtjbgjdjmejhejaaGreatDoor
open Go.RowKit
theorem take_moreS {l : List ByteArray} {k : Nat} (h : k < l.length) : l.take (k + 1) = l.take k ++ [l.getD k ⟨#[]⟩] := by
  rw [List.take_succ_eq_append_getElem h, List.getD_eq_getElem?_getD, List.getElem?_eq_getElem h]
  rfl
set_option maxHeartbeats 4000000 in
set_option maxRecDepth 100000 in
theorem refCut_any (v : Value) (l : List SetV) (w : World) (hv : SetsAt w v l) (hf : FewC l) :
    Calls Tryz.prog 20 #[v] w fun r w' => (∃ u, r = .returned u ∧ SetsAt w' u (cutL l)) ∧ Below w.heap.size w w' := by
  obtain ⟨a, cap, rfl, -⟩ := hv.2
  have hl64 := hv.1
  have hil := hv.inL
  have hC := cut_of hil
  have hfr := hf.r l.length
  have hfs := hf.s l.length
  rw [List.take_length] at hfr hfs
  have hBl : (sortedN (begL (allR l))).length ≤ 60001 := by
    have a1 := sortedN_len (begL (allR l))
    have a2 := begL_len (allR l) (allR l).length
    rw [List.take_length] at a2
    omega
  have hNl : (namesOf (allS l)).length ≤ 900 := Nat.le_trans (namesOf_len _) hfs
  have hcut : cutL l = cellL (sortedN (begL (allR l))) (namesOf (allS l)) := rfl
  generalize sortedN (begL (allR l)) = B at hC hBl hcut
  generalize namesOf (allS l) = N at hC hNl hcut
  have hN8 : ∀ s ∈ N, s.size ≤ 9223372036854775807 := fun s hs => by
    obtain ⟨S, hS, _, hm⟩ := mem_allS.1 ((hC.n.mem s).1 hs)
    exact (hil S hS).2 s hm
  have D : w.grownBy w none := grown_refl _ _
  go_enter Tryz.func20, Tryz.ntmps20
  refine wp_seq_k (fun K1 hK1 => ?_)
  refine wp_region_lit ?_
  refine wl_yield (o := ⟨_, _, _, _, _, _⟩) (.slice none 0 0) (yl_assign (by rfl) _ rfl _ rfl) ?_
  simp only [Act.put, lzA, lzB, lzC]
  refine wpList_nil ?_
  refine hK1 _ _ ?_
  clear hK1 K1
  refine wp_seq_k (fun K2 hK2 => ?_)
  refine wp_region_lit ?_
  refine wl_yield (o := ⟨_, _, _, _, _, _⟩) (.agg #[.bool true, .slice none 0 0, .bool false, .slice none 0 0]) (yq_bS0 (by rfl) _ rfl true rfl) ?_
  simp only [Act.put, lzA, lzB, lzC]
  refine wq_row1Q (o := ⟨_, _, _, _, _, _⟩) (by rfl) _ rfl ⟨true, none, 0, 0, false, none, 0, 0⟩ rfl (fun v1 g1 hg G1 kb => ?_)
  have ge_g1 : w.heap.size ≤ g1 := Nat.le_trans D.size hg
  clear hg
  replace D := grown_below D kb
  clear kb
  replace G1 : v1.heap[g1]? = some (.cells #[.bool true, .slice none 0 0, .bool false, .slice none 0 0] 26 (0, 0)) := G1
  simp only [Act.put, lzA, lzB, lzC]
  refine wl_yield (o := ⟨_, _, _, _, _, _⟩) (.slice (some ⟨g1, 0, none⟩) 1 1) (yl_assign (by rfl) _ rfl _ rfl) ?_
  simp only [Act.put, lzA, lzB, lzC]
  refine wpList_nil ?_
  refine hK2 _ _ ?_
  clear hK2 K2
  refine wp_seq_k (fun K3 hK3 => ?_)
  refine wp_region_lit ?_
  refine wl_yield (o := ⟨_, _, _, _, _, _⟩) (.slice none 0 0) (yl_assign (by rfl) _ rfl _ rfl) ?_
  simp only [Act.put, lzA, lzB, lzC]
  refine wpList_nil ?_
  refine hK3 _ _ ?_
  clear hK3 K3
  refine wp_seq_k (fun K4 hK4 => ?_)
  refine wp_region_lit ?_
  refine wl_yield (o := ⟨_, _, _, _, _, _⟩) (.int .i64 (-9223372036854775808)) (yl_assign (by rfl) _ rfl _ rfl) ?_
  simp only [Act.put, lzA, lzB, lzC]
  refine wpList_nil ?_
  refine hK4 _ _ ?_
  clear hK4 K4
  refine wp_seq_k (fun K5 hK5 => ?_)
  refine wp_block ?_
  go_loopw [3, 5] (fun x y wr => ∃ (k : Nat) (cs : List SC), y = .int .i64 (B.getD k 0) ∧ k < B.length ∧ OwnU wr w.heap.size x cs ∧ cs.length = k + 1 ∧ NewSt w.heap.size wr cs ((cellL B N).take (k + 1)) ∧ Apt wr (.slice none 0 0) cs ∧ w.grownBy wr none) (fun _ y _ => (9223372036854775807 - intOf y).toNat)
  case atStart => exact ⟨0, [⟨true, none, 0, 0, false, none, 0, 0⟩], by rw [hC.b.first hC.i], hC.b.pos, ownU_one (c := ⟨true, none, 0, 0, false, none, 0, 0⟩) G1 ge_g1, rfl, NewSt.one (noSet_sc _ true false) (upC_zero _ _ _), fun c hc => (by rw [List.mem_singleton.1 hc]; exact ⟨fun a e => (by cases e), fun a e => (by cases e)⟩), D⟩
  case round =>
    clear D
    obtain ⟨k, cs, rfl, hk, OU, hcl, NS, AP, D⟩ := hrel
    refine wp_block ?_
    refine wp_seq_k (fun K6 hK6 => ?_)
    refine wp_region_lit ?_
    refine wl_yield (o := ⟨_, _, _, _, _, _⟩) (.int .i64 9223372036854775807) (yl_assign (by rfl) _ rfl _ rfl) ?_
    simp only [Act.put, lzA, lzB, lzC]
    refine wpList_nil ?_
    refine hK6 _ _ ?_
    clear hK6 K6
    refine wp_seq_k (fun K7 hK7 => ?_)
    refine wp_seq_k (fun K8 hK8 => ?_)
    refine wp_region_lit ?_
    refine wl_yield (o := ⟨_, _, _, _, _, _⟩) (.int .i64 0) (yl_assign (by rfl) _ rfl _ rfl) ?_
    simp only [Act.put, lzA, lzB, lzC]
    refine wpList_nil ?_
    refine hK8 _ _ ?_
    clear hK8 K8
    refine wp_block ?_
    obtain ⟨wA, hwA⟩ : ∃ V, V = wr := ⟨_, rfl⟩
    subst hwA
    have DA := D
    clear D
    have D : wA.grownBy wA none := grown_refl _ _
    go_loopw [6, 7] (fun h i wr => ∃ (m : Nat), h = .int .i64 (nextR (B.getD k 0) (allR (l.take m))) ∧ i = .int .i64 ((m : Nat) : Int) ∧ m ≤ l.length ∧ wA.grownBy wr none) (fun _ i _ => l.length - (intOf i).toNat)
    case atStart => exact ⟨0, rfl, rfl, Nat.zero_le _, D⟩
    case round =>
      clear D
      obtain ⟨m, rfl, rfl, hm, D⟩ := hrel
      by_cases hlt : m < l.length
      · obtain ⟨gI, oI, vi, vs, rfl, hgI, C0, C1, C2, C3, hI, hT⟩ := hv.at.2 m hlt
        generalize hS : l.getD m noSet = S at C0 C2 hI hT
        obtain ⟨ai, ci, rfl⟩ := hI.form
        obtain ⟨az, cz, rfl⟩ := hT.form
        have hi64 := hI.2.1
        have hs64 := hT.2.1
        have cellD := fun (W : World) (D : wA.grownBy W none) (j : Nat) => (below_none (grown_trans DA D)).cell (p := ⟨gI, j, none⟩) hgI
        refine wp_seq_k (fun K9 hK9 => ?_)
        refine wp_seq_k (fun K10 hK10 => ?_)
        refine wp_region_lit ?_
        refine wl_yield (o := ⟨_, _, _, _, _, _⟩) (.int .i64 (m : Nat)) (yl_move (by rfl) _ rfl _ rfl) ?_
        simp only [Act.put, lzA, lzB, lzC]
        refine wl_yield (o := ⟨_, _, _, _, _, _⟩) (.slice (some ⟨gI, oI, none⟩) l.length cap) (yl_move (by rfl) _ rfl _ rfl) ?_
        simp only [Act.put, lzA, lzB, lzC]
        refine wl_yield (o := ⟨_, _, _, _, _, _⟩) (.int .i64 (l.length : Nat)) (yt_lenQ (by rfl) _ rfl (some ⟨gI, oI, none⟩) l.length cap rfl) ?_
        simp only [Act.put, lzA, lzB, lzC]
        refine wl_yield (o := ⟨_, _, _, _, _, _⟩) (.bool true) (yt_lssI (by rfl) _ _ _ rfl ((m : Nat) : Int) ((l.length : Nat) : Int) true rfl rfl (decide_eq_true (by omega))) ?_
        simp only [Act.put, lzA, lzB, lzC]
        refine wpList_nil ?_
        refine hK10 _ _ ?_
        clear hK10 K10
        refine wp_cond_true rfl ?_
        refine wp_skip ?_
        refine hK9 _ _ ?_
        clear hK9 K9
        refine wp_seq_k (fun K11 hK11 => ?_)
        refine wp_block ?_
        refine wp_seq_k (fun K12 hK12 => ?_)
        refine wp_seq_k (fun K13 hK13 => ?_)
        refine wp_region_lit ?_
        refine wl_yield (o := ⟨_, _, _, _, _, _⟩) (.slice (some ⟨gI, oI, none⟩) l.length cap) (yl_move (by rfl) _ rfl _ rfl) ?_
        simp only [Act.put, lzA, lzB, lzC]
        refine wl_yield (o := ⟨_, _, _, _, _, _⟩) (.int .i64 (m : Nat)) (yl_move (by rfl) _ rfl _ rfl) ?_
        simp only [Act.put, lzA, lzB, lzC]
        refine wl_yield (o := ⟨_, _, _, _, _, _⟩) (.pointer (some ⟨gI, oI + m * 4, none⟩)) (yt_atQ (by rfl) _ _ rfl gI oI _ _ m rfl rfl (hlt)) ?_
        simp only [Act.put, lzA, lzB, lzC]
        refine wl_yield (o := ⟨_, _, _, _, _, _⟩) (.agg #[.bool (S.absent), .slice ai S.ints.length ci, .bool (S.co), .slice az S.strs.length cz]) (yl_set (by rfl) _ rfl _ _ rfl _ _ _ _ (fun _ h => by subst h; exact ⟨(cellD _ D _).trans C0, (cellD _ D _).trans C1, (cellD _ D _).trans C2, (cellD _ D _).trans C3⟩)) ?_
        simp only [Act.put, lzA, lzB, lzC]
        cases hr : rightSet S
        · refine wt_call (o := ⟨_, _, _, _, _, _⟩) (by rfl) 21 _ _ rfl #[.agg #[.bool (S.absent), .slice ai S.ints.length ci, .bool (S.co), .slice az S.strs.length cz]] rfl (run_call Tryz.func21 (by kernel_rfl) (by kernel_rfl)) ?_
          refine (refRightSet_any (SC.val ⟨S.absent, ai, S.ints.length, ci, S.co, az, S.strs.length, cz⟩) S _ ⟨_, _, rfl, hI.on (below_none (grown_trans DA D)), hT.on (below_none (grown_trans DA D))⟩).mono ?_
          rintro r v2 (⟨rfl, kb⟩)
          · replace D := grown_below D kb
            clear kb
            refine Or.inl ⟨.bool false, ret_bool hr, ?_⟩
            simp only [Act.put, lzA, lzB, lzC]
            refine wl_yield (o := ⟨_, _, _, _, _, _⟩) (.bool true) (yl_not (by rfl) _ _ rfl false rfl) ?_
            simp only [Act.put, lzA, lzB, lzC]
            refine wpList_nil ?_
            refine hK13 _ _ ?_
            clear hK13 K13
            refine wp_cond_true rfl ?_
            refine wp_exit ?_
            refine hK11 _ _ ?_
            clear hK12 K12 hK11 K11
            refine wp_region_lit ?_
            refine wl_yield (o := ⟨_, _, _, _, _, _⟩) (.int .i64 (m : Nat)) (yl_move (by rfl) _ rfl _ rfl) ?_
            simp only [Act.put, lzA, lzB, lzC]
            refine wl_yield (o := ⟨_, _, _, _, _, _⟩) (.int .i64 (m + 1 : Nat)) (yt_addI (by rfl) _ _ _ rfl ((m : Nat) : Int) 1 ((m + 1 : Nat) : Int) rfl rfl (by omega) (by omega) (by omega)) ?_
            simp only [Act.put, lzA, lzB, lzC]
            refine wl_yield (o := ⟨_, _, _, _, _, _⟩) (.int .i64 (m + 1 : Nat)) (yl_assign (by rfl) _ rfl _ rfl) ?_
            simp only [Act.put, lzA, lzB, lzC]
            refine wpList_nil ?_
            show _ ∧ _
            go_roundw
            case rel => exact ⟨m + 1, by rw [allR_take l m hlt, hS, if_neg (by rw [hr]; decide), List.append_nil], rfl, by omega, D⟩
            case measure => simp [intOf]; omega
        · refine wt_call (o := ⟨_, _, _, _, _, _⟩) (by rfl) 21 _ _ rfl #[.agg #[.bool (S.absent), .slice ai S.ints.length ci, .bool (S.co), .slice az S.strs.length cz]] rfl (run_call Tryz.func21 (by kernel_rfl) (by kernel_rfl)) ?_
          refine (refRightSet_any (SC.val ⟨S.absent, ai, S.ints.length, ci, S.co, az, S.strs.length, cz⟩) S _ ⟨_, _, rfl, hI.on (below_none (grown_trans DA D)), hT.on (below_none (grown_trans DA D))⟩).mono ?_
          rintro r v2 (⟨rfl, kb⟩)
          · replace D := grown_below D kb
            clear kb
            refine Or.inl ⟨.bool true, ret_bool hr, ?_⟩
            simp only [Act.put, lzA, lzB, lzC]
            refine wl_yield (o := ⟨_, _, _, _, _, _⟩) (.bool false) (yl_not (by rfl) _ _ rfl true rfl) ?_
            simp only [Act.put, lzA, lzB, lzC]
            refine wpList_nil ?_
            refine hK13 _ _ ?_
            clear hK13 K13
            refine wp_cond_false rfl ?_
            refine wp_skip ?_
            refine hK12 _ _ ?_
            clear hK12 K12
            refine wp_seq_k (fun K14 hK14 => ?_)
            refine wp_region_lit ?_
            refine wl_yield (o := ⟨_, _, _, _, _, _⟩) (.int .i64 0) (yl_assign (by rfl) _ rfl _ rfl) ?_
            simp only [Act.put, lzA, lzB, lzC]
            refine wpList_nil ?_
            refine hK14 _ _ ?_
            clear hK14 K14
            refine wp_block ?_
            go_loopw [6, 8] (fun h i wr => ∃ (q : Nat), h = .int .i64 (nextR (B.getD k 0) (allR (l.take m) ++ S.ints.take q)) ∧ i = .int .i64 ((q : Nat) : Int) ∧ q ≤ S.ints.length ∧ wA.grownBy wr none) (fun _ i _ => S.ints.length - (intOf i).toNat)
            case atStart => exact ⟨0, by rw [List.take_zero, List.append_nil], rfl, Nat.zero_le _, D⟩
            case round =>
              clear D
              obtain ⟨q, rfl, rfl, hq, D⟩ := hrel
              by_cases hlq : q < S.ints.length
              · obtain ⟨gR, oR, rfl, hgR, R0, R1⟩ := hI.at.2 q hlq
                have hbr := hI.1 _ (gD_mem (d := (0, 0)) hlq)
                have hlo := (hC.hiIn k hk).2.2
                have hst : nextR (B.getD k 0) (allR (l.take m) ++ S.ints.take (q + 1)) = stepR (B.getD k 0) (nextR (B.getD k 0) (allR (l.take m) ++ S.ints.take q)) (S.ints.getD q (0, 0)) := fold_snoc (stepR (B.getD k 0)) _ _ _ (0, 0) hlq
                generalize hrr : S.ints.getD q (0, 0) = r at R0 R1 hbr hst
                have cellR := fun (W : World) (D : wA.grownBy W none) (j : Nat) => (below_none (grown_trans DA D)).cell (p := ⟨gR, j, none⟩) hgR
                refine wp_seq_k (fun K15 hK15 => ?_)
                refine wp_seq_k (fun K16 hK16 => ?_)
                refine wp_region_lit ?_
                refine wl_yield (o := ⟨_, _, _, _, _, _⟩) (.int .i64 (q : Nat)) (yl_move (by rfl) _ rfl _ rfl) ?_
                simp only [Act.put, lzA, lzB, lzC]
                refine wl_yield (o := ⟨_, _, _, _, _, _⟩) (.slice (some ⟨gI, oI, none⟩) l.length cap) (yl_move (by rfl) _ rfl _ rfl) ?_
                simp only [Act.put, lzA, lzB, lzC]
                refine wl_yield (o := ⟨_, _, _, _, _, _⟩) (.int .i64 (m : Nat)) (yl_move (by rfl) _ rfl _ rfl) ?_
                simp only [Act.put, lzA, lzB, lzC]
                refine wl_yield (o := ⟨_, _, _, _, _, _⟩) (.pointer (some ⟨gI, oI + m * 4, none⟩)) (yt_atQ (by rfl) _ _ rfl gI oI _ _ m rfl rfl (hlt)) ?_
                simp only [Act.put, lzA, lzB, lzC]
                refine wl_yield (o := ⟨_, _, _, _, _, _⟩) (.pointer (some ⟨gI, oI + m * 4 + 1, none⟩)) (yt_fSt1 (by rfl) _ rfl gI (oI + m * 4) rfl) ?_
                simp only [Act.put, lzA, lzB, lzC]
                refine wl_yield (o := ⟨_, _, _, _, _, _⟩) (.slice (some ⟨gR, oR, none⟩) S.ints.length ci) (yt_ldLr (by rfl) _ rfl _ _ rfl _ _ _ (fun _ h => by subst h; exact (cellD _ D _).trans C1)) ?_
                simp only [Act.put, lzA, lzB, lzC]
                refine wl_yield (o := ⟨_, _, _, _, _, _⟩) (.int .i64 (S.ints.length : Nat)) (yt_lenR (by rfl) _ rfl (some ⟨gR, oR, none⟩) S.ints.length ci rfl) ?_
                simp only [Act.put, lzA, lzB, lzC]
                refine wl_yield (o := ⟨_, _, _, _, _, _⟩) (.bool true) (yt_lssI (by rfl) _ _ _ rfl ((q : Nat) : Int) ((S.ints.length : Nat) : Int) true rfl rfl (decide_eq_true (by omega))) ?_
                simp only [Act.put, lzA, lzB, lzC]
                refine wpList_nil ?_
                refine hK16 _ _ ?_
                clear hK16 K16
                refine wp_cond_true rfl ?_
                refine wp_skip ?_
                refine hK15 _ _ ?_
                clear hK15 K15
                refine wp_seq_k (fun K17 hK17 => ?_)
                refine wp_block ?_
                refine wp_seq_k (fun K18 hK18 => ?_)
                refine wp_region_lit ?_
                refine wl_yield (o := ⟨_, _, _, _, _, _⟩) (.slice (some ⟨gI, oI, none⟩) l.length cap) (yl_move (by rfl) _ rfl _ rfl) ?_
                simp only [Act.put, lzA, lzB, lzC]
                refine wl_yield (o := ⟨_, _, _, _, _, _⟩) (.int .i64 (m : Nat)) (yl_move (by rfl) _ rfl _ rfl) ?_
                simp only [Act.put, lzA, lzB, lzC]
                refine wl_yield (o := ⟨_, _, _, _, _, _⟩) (.pointer (some ⟨gI, oI + m * 4, none⟩)) (yt_atQ (by rfl) _ _ rfl gI oI _ _ m rfl rfl (hlt)) ?_
                simp only [Act.put, lzA, lzB, lzC]
                refine wl_yield (o := ⟨_, _, _, _, _, _⟩) (.pointer (some ⟨gI, oI + m * 4 + 1, none⟩)) (yt_fSt1 (by rfl) _ rfl gI (oI + m * 4) rfl) ?_
                simp only [Act.put, lzA, lzB, lzC]
                refine wl_yield (o := ⟨_, _, _, _, _, _⟩) (.slice (some ⟨gR, oR, none⟩) S.ints.length ci) (yt_ldLr (by rfl) _ rfl _ _ rfl _ _ _ (fun _ h => by subst h; exact (cellD _ D _).trans C1)) ?_
                simp only [Act.put, lzA, lzB, lzC]
                refine wl_yield (o := ⟨_, _, _, _, _, _⟩) (.int .i64 (q : Nat)) (yl_move (by rfl) _ rfl _ rfl) ?_
                simp only [Act.put, lzA, lzB, lzC]
                refine wl_yield (o := ⟨_, _, _, _, _, _⟩) (.pointer (some ⟨gR, oR + q * 2, none⟩)) (yt_atR (by rfl) _ _ rfl gR oR _ _ q rfl rfl (hlq)) ?_
                simp only [Act.put, lzA, lzB, lzC]
                refine wl_yield (o := ⟨_, _, _, _, _, _⟩) (.agg #[.int .i64 r.1, .int .i64 r.2]) (yt_ldRg (by rfl) _ rfl _ _ rfl _ _ (fun _ h => by subst h; exact ⟨(cellR _ D _).trans R0, (cellR _ D _).trans R1⟩)) ?_
                simp only [Act.put, lzA, lzB, lzC]
                refine wt_allocRg (o := ⟨_, _, _, _, _, _⟩) (by rfl) rfl (fun v3 g3 hg G3 kb => ?_)
                simp only [Act.put, lzA, lzB, lzC]
                have ge_g3 : wA.heap.size ≤ g3 := Nat.le_trans D.size hg
                clear hg
                replace D := grown_below D kb
                clear kb
                replace G3 : v3.heap[g3]? = some (.cells #[.int .i64 0, .int .i64 0] 111 (0, 0)) := G3
                refine wt_putRg (o := ⟨_, _, _, _, _, _⟩) rfl _ _ rfl _ rfl (r) rfl G3 rfl (fun v4 X kg => ?_)
                simp only [Act.put, lzA, lzB, lzC]
                replace D := gr_new D ge_g3 kg
                clear kg
                replace G3 : v4.heap[g3]? = some (.cells #[.int .i64 (r.1), .int .i64 (r.2)] 111 (0, 0)) := X
                clear X
                refine wpList_nil ?_
                refine hK18 _ _ ?_
                clear hK18 K18
                refine wp_seq_k (fun K19 hK19 => ?_)
                refine wp_seq_k (fun K20 hK20 => ?_)
                refine wp_region_lit ?_
                refine wl_yield (o := ⟨_, _, _, _, _, _⟩) (.pointer (some ⟨g3, 0, none⟩)) (yt_fRg0 (by rfl) _ rfl g3 0 rfl) ?_
                simp only [Act.put, lzA, lzB, lzC]
                refine wl_yield (o := ⟨_, _, _, _, _, _⟩) (.int .i64 (r.1)) (yt_ldI (by rfl) _ rfl _ _ rfl r.1 (fun _ h => by subst h; exact cell_heap G3 0)) ?_
                simp only [Act.put, lzA, lzB, lzC]
                refine wl_yield (o := ⟨_, _, _, _, _, _⟩) (.int .i64 (B.getD k 0)) (yl_move (by rfl) _ rfl _ rfl) ?_
                simp only [Act.put, lzA, lzB, lzC]
                refine wl_yield (o := ⟨_, _, _, _, _, _⟩) (.bool (decide (B.getD k 0 < r.1))) (yt_gtrI (by rfl) _ _ _ rfl r.1 (B.getD k 0) (decide (B.getD k 0 < r.1)) rfl rfl (rfl)) ?_
                simp only [Act.put, lzA, lzB, lzC]
                refine wpList_nil ?_
                refine hK20 _ _ ?_
                clear hK20 K20
                refine wp_cond_split (t := (decide (B.getD k 0 < r.1))) rfl (fun hc => ?_) (fun hc => ?_)
                · have h1 : B.getD k 0 < r.1 := of_decide_eq_true hc
                  refine wp_region_lit ?_
                  refine wl_yield (o := ⟨_, _, _, _, _, _⟩) (.int .i64 (nextR (B.getD k 0) (allR (l.take m) ++ S.ints.take q))) (yl_move (by rfl) _ rfl _ rfl) ?_
                  simp only [Act.put, lzA, lzB, lzC]
                  refine wl_yield (o := ⟨_, _, _, _, _, _⟩) (.pointer (some ⟨g3, 0, none⟩)) (yt_fRg0 (by rfl) _ rfl g3 0 rfl) ?_
                  simp only [Act.put, lzA, lzB, lzC]
                  refine wl_yield (o := ⟨_, _, _, _, _, _⟩) (.int .i64 (r.1)) (yt_ldI (by rfl) _ rfl _ _ rfl r.1 (fun _ h => by subst h; exact cell_heap G3 0)) ?_
                  simp only [Act.put, lzA, lzB, lzC]
                  refine wl_yield (o := ⟨_, _, _, _, _, _⟩) (.int .i64 (r.1 - 1)) (yt_subI (by rfl) _ _ _ rfl r.1 1 (r.1 - 1) rfl rfl (by omega) (by omega) (by omega)) ?_
                  simp only [Act.put, lzA, lzB, lzC]
                  refine wl_yield (o := ⟨_, _, _, _, _, _⟩) (.int .i64 (min2 (nextR (B.getD k 0) (allR (l.take m) ++ S.ints.take q)) (r.1 - 1))) (yt_minI (by rfl) _ _ rfl (nextR (B.getD k 0) (allR (l.take m) ++ S.ints.take q)) (r.1 - 1) rfl rfl) ?_
                  simp only [Act.put, lzA, lzB, lzC]
                  refine wl_yield (o := ⟨_, _, _, _, _, _⟩) (.int .i64 (min2 (nextR (B.getD k 0) (allR (l.take m) ++ S.ints.take q)) (r.1 - 1))) (yl_assign (by rfl) _ rfl _ rfl) ?_
                  simp only [Act.put, lzA, lzB, lzC]
                  refine wpList_nil ?_
                  refine hK19 _ _ ?_
                  clear hK19 K19
                  refine wp_seq_k (fun K21 hK21 => ?_)
                  refine wp_region_lit ?_
                  refine wl_yield (o := ⟨_, _, _, _, _, _⟩) (.pointer (some ⟨g3, 1, none⟩)) (yt_fRg1 (by rfl) _ rfl g3 0 rfl) ?_
                  simp only [Act.put, lzA, lzB, lzC]
                  refine wl_yield (o := ⟨_, _, _, _, _, _⟩) (.int .i64 (r.2)) (yt_ldI (by rfl) _ rfl _ _ rfl r.2 (fun _ h => by subst h; exact cell_heap G3 1)) ?_
                  simp only [Act.put, lzA, lzB, lzC]
                  refine wl_yield (o := ⟨_, _, _, _, _, _⟩) (.int .i64 (B.getD k 0)) (yl_move (by rfl) _ rfl _ rfl) ?_
                  simp only [Act.put, lzA, lzB, lzC]
                  refine wl_yield (o := ⟨_, _, _, _, _, _⟩) (.bool (decide (B.getD k 0 ≤ r.2))) (yt_geqI (by rfl) _ _ _ rfl r.2 (B.getD k 0) (decide (B.getD k 0 ≤ r.2)) rfl rfl (rfl)) ?_
                  simp only [Act.put, lzA, lzB, lzC]
                  refine wpList_nil ?_
                  refine hK21 _ _ ?_
                  clear hK21 K21
                  refine wp_cond_split (t := (decide (B.getD k 0 ≤ r.2))) rfl (fun hc => ?_) (fun hc => ?_)
                  · have h2 : B.getD k 0 ≤ r.2 := of_decide_eq_true hc
                    refine wp_region_lit ?_
                    refine wl_yield (o := ⟨_, _, _, _, _, _⟩) (.int .i64 (min2 (nextR (B.getD k 0) (allR (l.take m) ++ S.ints.take q)) (r.1 - 1))) (yl_move (by rfl) _ rfl _ rfl) ?_
                    simp only [Act.put, lzA, lzB, lzC]
                    refine wl_yield (o := ⟨_, _, _, _, _, _⟩) (.pointer (some ⟨g3, 1, none⟩)) (yt_fRg1 (by rfl) _ rfl g3 0 rfl) ?_
                    simp only [Act.put, lzA, lzB, lzC]
                    refine wl_yield (o := ⟨_, _, _, _, _, _⟩) (.int .i64 (r.2)) (yt_ldI (by rfl) _ rfl _ _ rfl r.2 (fun _ h => by subst h; exact cell_heap G3 1)) ?_
                    simp only [Act.put, lzA, lzB, lzC]
                    refine wl_yield (o := ⟨_, _, _, _, _, _⟩) (.int .i64 (min2 (min2 (nextR (B.getD k 0) (allR (l.take m) ++ S.ints.take q)) (r.1 - 1)) r.2)) (yt_minI (by rfl) _ _ rfl (min2 (nextR (B.getD k 0) (allR (l.take m) ++ S.ints.take q)) (r.1 - 1)) r.2 rfl rfl) ?_
                    simp only [Act.put, lzA, lzB, lzC]
                    refine wl_yield (o := ⟨_, _, _, _, _, _⟩) (.int .i64 (min2 (min2 (nextR (B.getD k 0) (allR (l.take m) ++ S.ints.take q)) (r.1 - 1)) r.2)) (yl_assign (by rfl) _ rfl _ rfl) ?_
                    simp only [Act.put, lzA, lzB, lzC]
                    refine wpList_nil ?_
                    refine hK17 _ _ ?_
                    clear hK17 K17
                    refine wp_region_lit ?_
                    refine wl_yield (o := ⟨_, _, _, _, _, _⟩) (.int .i64 (q : Nat)) (yl_move (by rfl) _ rfl _ rfl) ?_
                    simp only [Act.put, lzA, lzB, lzC]
                    refine wl_yield (o := ⟨_, _, _, _, _, _⟩) (.int .i64 (q + 1 : Nat)) (yt_addI (by rfl) _ _ _ rfl ((q : Nat) : Int) 1 ((q + 1 : Nat) : Int) rfl rfl (by omega) (by omega) (by omega)) ?_
                    simp only [Act.put, lzA, lzB, lzC]
                    refine wl_yield (o := ⟨_, _, _, _, _, _⟩) (.int .i64 (q + 1 : Nat)) (yl_assign (by rfl) _ rfl _ rfl) ?_
                    simp only [Act.put, lzA, lzB, lzC]
                    refine wpList_nil ?_
                    show _ ∧ _
                    go_roundw
                    case rel => exact ⟨q + 1, by rw [hst]; unfold stepR stepR1; rw [if_pos h2, if_pos h1], rfl, by omega, D⟩
                    case measure => simp [intOf]; omega
                  · have h2 : ¬ B.getD k 0 ≤ r.2 := of_decide_eq_false hc
                    refine wp_skip ?_
                    refine hK17 _ _ ?_
                    clear hK17 K17
                    refine wp_region_lit ?_
                    refine wl_yield (o := ⟨_, _, _, _, _, _⟩) (.int .i64 (q : Nat)) (yl_move (by rfl) _ rfl _ rfl) ?_
                    simp only [Act.put, lzA, lzB, lzC]
                    refine wl_yield (o := ⟨_, _, _, _, _, _⟩) (.int .i64 (q + 1 : Nat)) (yt_addI (by rfl) _ _ _ rfl ((q : Nat) : Int) 1 ((q + 1 : Nat) : Int) rfl rfl (by omega) (by omega) (by omega)) ?_
                    simp only [Act.put, lzA, lzB, lzC]
                    refine wl_yield (o := ⟨_, _, _, _, _, _⟩) (.int .i64 (q + 1 : Nat)) (yl_assign (by rfl) _ rfl _ rfl) ?_
                    simp only [Act.put, lzA, lzB, lzC]
                    refine wpList_nil ?_
                    show _ ∧ _
                    go_roundw
                    case rel => exact ⟨q + 1, by rw [hst]; unfold stepR stepR1; rw [if_neg h2, if_pos h1], rfl, by omega, D⟩
                    case measure => simp [intOf]; omega
                · have h1 : ¬ B.getD k 0 < r.1 := of_decide_eq_false hc
                  refine wp_skip ?_
                  refine hK19 _ _ ?_
                  clear hK19 K19
                  refine wp_seq_k (fun K21 hK21 => ?_)
                  refine wp_region_lit ?_
                  refine wl_yield (o := ⟨_, _, _, _, _, _⟩) (.pointer (some ⟨g3, 1, none⟩)) (yt_fRg1 (by rfl) _ rfl g3 0 rfl) ?_
                  simp only [Act.put, lzA, lzB, lzC]
                  refine wl_yield (o := ⟨_, _, _, _, _, _⟩) (.int .i64 (r.2)) (yt_ldI (by rfl) _ rfl _ _ rfl r.2 (fun _ h => by subst h; exact cell_heap G3 1)) ?_
                  simp only [Act.put, lzA, lzB, lzC]
                  refine wl_yield (o := ⟨_, _, _, _, _, _⟩) (.int .i64 (B.getD k 0)) (yl_move (by rfl) _ rfl _ rfl) ?_
                  simp only [Act.put, lzA, lzB, lzC]
                  refine wl_yield (o := ⟨_, _, _, _, _, _⟩) (.bool (decide (B.getD k 0 ≤ r.2))) (yt_geqI (by rfl) _ _ _ rfl r.2 (B.getD k 0) (decide (B.getD k 0 ≤ r.2)) rfl rfl (rfl)) ?_
                  simp only [Act.put, lzA, lzB, lzC]
                  refine wpList_nil ?_
                  refine hK21 _ _ ?_
                  clear hK21 K21
                  refine wp_cond_split (t := (decide (B.getD k 0 ≤ r.2))) rfl (fun hc => ?_) (fun hc => ?_)
                  · have h2 : B.getD k 0 ≤ r.2 := of_decide_eq_true hc
                    refine wp_region_lit ?_
                    refine wl_yield (o := ⟨_, _, _, _, _, _⟩) (.int .i64 (nextR (B.getD k 0) (allR (l.take m) ++ S.ints.take q))) (yl_move (by rfl) _ rfl _ rfl) ?_
                    simp only [Act.put, lzA, lzB, lzC]
                    refine wl_yield (o := ⟨_, _, _, _, _, _⟩) (.pointer (some ⟨g3, 1, none⟩)) (yt_fRg1 (by rfl) _ rfl g3 0 rfl) ?_
                    simp only [Act.put, lzA, lzB, lzC]
                    refine wl_yield (o := ⟨_, _, _, _, _, _⟩) (.int .i64 (r.2)) (yt_ldI (by rfl) _ rfl _ _ rfl r.2 (fun _ h => by subst h; exact cell_heap G3 1)) ?_
                    simp only [Act.put, lzA, lzB, lzC]
                    refine wl_yield (o := ⟨_, _, _, _, _, _⟩) (.int .i64 (min2 (nextR (B.getD k 0) (allR (l.take m) ++ S.ints.take q)) r.2)) (yt_minI (by rfl) _ _ rfl (nextR (B.getD k 0) (allR (l.take m) ++ S.ints.take q)) r.2 rfl rfl) ?_
                    simp only [Act.put, lzA, lzB, lzC]
                    refine wl_yield (o := ⟨_, _, _, _, _, _⟩) (.int .i64 (min2 (nextR (B.getD k 0) (allR (l.take m) ++ S.ints.take q)) r.2)) (yl_assign (by rfl) _ rfl _ rfl) ?_
                    simp only [Act.put, lzA, lzB, lzC]
                    refine wpList_nil ?_
                    refine hK17 _ _ ?_
                    clear hK17 K17
                    refine wp_region_lit ?_
                    refine wl_yield (o := ⟨_, _, _, _, _, _⟩) (.int .i64 (q : Nat)) (yl_move (by rfl) _ rfl _ rfl) ?_
                    simp only [Act.put, lzA, lzB, lzC]
                    refine wl_yield (o := ⟨_, _, _, _, _, _⟩) (.int .i64 (q + 1 : Nat)) (yt_addI (by rfl) _ _ _ rfl ((q : Nat) : Int) 1 ((q + 1 : Nat) : Int) rfl rfl (by omega) (by omega) (by omega)) ?_
                    simp only [Act.put, lzA, lzB, lzC]
                    refine wl_yield (o := ⟨_, _, _, _, _, _⟩) (.int .i64 (q + 1 : Nat)) (yl_assign (by rfl) _ rfl _ rfl) ?_
                    simp only [Act.put, lzA, lzB, lzC]
                    refine wpList_nil ?_
                    show _ ∧ _
                    go_roundw
                    case rel => exact ⟨q + 1, by rw [hst]; unfold stepR stepR1; rw [if_pos h2, if_neg h1], rfl, by omega, D⟩
                    case measure => simp [intOf]; omega
                  · have h2 : ¬ B.getD k 0 ≤ r.2 := of_decide_eq_false hc
                    refine wp_skip ?_
                    refine hK17 _ _ ?_
                    clear hK17 K17
                    refine wp_region_lit ?_
                    refine wl_yield (o := ⟨_, _, _, _, _, _⟩) (.int .i64 (q : Nat)) (yl_move (by rfl) _ rfl _ rfl) ?_
                    simp only [Act.put, lzA, lzB, lzC]
                    refine wl_yield (o := ⟨_, _, _, _, _, _⟩) (.int .i64 (q + 1 : Nat)) (yt_addI (by rfl) _ _ _ rfl ((q : Nat) : Int) 1 ((q + 1 : Nat) : Int) rfl rfl (by omega) (by omega) (by omega)) ?_
                    simp only [Act.put, lzA, lzB, lzC]
                    refine wl_yield (o := ⟨_, _, _, _, _, _⟩) (.int .i64 (q + 1 : Nat)) (yl_assign (by rfl) _ rfl _ rfl) ?_
                    simp only [Act.put, lzA, lzB, lzC]
                    refine wpList_nil ?_
                    show _ ∧ _
                    go_roundw
                    case rel => exact ⟨q + 1, by rw [hst]; unfold stepR stepR1; rw [if_neg h2, if_neg h1], rfl, by omega, D⟩
                    case measure => simp [intOf]; omega
              · obtain rfl : q = S.ints.length := by omega
                refine wp_seq_k (fun K15 hK15 => ?_)
                refine wp_seq_k (fun K16 hK16 => ?_)
                refine wp_region_lit ?_
                refine wl_yield (o := ⟨_, _, _, _, _, _⟩) (.int .i64 (S.ints.length : Nat)) (yl_move (by rfl) _ rfl _ rfl) ?_
                simp only [Act.put, lzA, lzB, lzC]
                refine wl_yield (o := ⟨_, _, _, _, _, _⟩) (.slice (some ⟨gI, oI, none⟩) l.length cap) (yl_move (by rfl) _ rfl _ rfl) ?_
                simp only [Act.put, lzA, lzB, lzC]
                refine wl_yield (o := ⟨_, _, _, _, _, _⟩) (.int .i64 (m : Nat)) (yl_move (by rfl) _ rfl _ rfl) ?_
                simp only [Act.put, lzA, lzB, lzC]
                refine wl_yield (o := ⟨_, _, _, _, _, _⟩) (.pointer (some ⟨gI, oI + m * 4, none⟩)) (yt_atQ (by rfl) _ _ rfl gI oI _ _ m rfl rfl (hlt)) ?_
                simp only [Act.put, lzA, lzB, lzC]
                refine wl_yield (o := ⟨_, _, _, _, _, _⟩) (.pointer (some ⟨gI, oI + m * 4 + 1, none⟩)) (yt_fSt1 (by rfl) _ rfl gI (oI + m * 4) rfl) ?_
                simp only [Act.put, lzA, lzB, lzC]
                refine wl_yield (o := ⟨_, _, _, _, _, _⟩) (.slice ai S.ints.length ci) (yt_ldLr (by rfl) _ rfl _ _ rfl _ _ _ (fun _ h => by subst h; exact (cellD _ D _).trans C1)) ?_
                simp only [Act.put, lzA, lzB, lzC]
                refine wl_yield (o := ⟨_, _, _, _, _, _⟩) (.int .i64 (S.ints.length : Nat)) (yt_lenR (by rfl) _ rfl ai S.ints.length ci rfl) ?_
                simp only [Act.put, lzA, lzB, lzC]
                refine wl_yield (o := ⟨_, _, _, _, _, _⟩) (.bool false) (yt_lssI (by rfl) _ _ _ rfl ((S.ints.length : Nat) : Int) ((S.ints.length : Nat) : Int) false rfl rfl (decide_eq_false (by omega))) ?_
                simp only [Act.put, lzA, lzB, lzC]
                refine wpList_nil ?_
                refine hK16 _ _ ?_
                clear hK16 K16
                refine wp_cond_false rfl ?_
                refine wp_exit ?_
                refine hK11 _ _ ?_
                clear hK15 K15 hK11 K11
                refine wp_region_lit ?_
                refine wl_yield (o := ⟨_, _, _, _, _, _⟩) (.int .i64 (m : Nat)) (yl_move (by rfl) _ rfl _ rfl) ?_
                simp only [Act.put, lzA, lzB, lzC]
                refine wl_yield (o := ⟨_, _, _, _, _, _⟩) (.int .i64 (m + 1 : Nat)) (yt_addI (by rfl) _ _ _ rfl ((m : Nat) : Int) 1 ((m + 1 : Nat) : Int) rfl rfl (by omega) (by omega) (by omega)) ?_
                simp only [Act.put, lzA, lzB, lzC]
                refine wl_yield (o := ⟨_, _, _, _, _, _⟩) (.int .i64 (m + 1 : Nat)) (yl_assign (by rfl) _ rfl _ rfl) ?_
                simp only [Act.put, lzA, lzB, lzC]
                refine wpList_nil ?_
                show _ ∧ _
                go_roundw
                case rel => exact ⟨m + 1, by rw [List.take_length, allR_take l m hlt, hS, if_pos hr], rfl, by omega, D⟩
                case measure => simp [intOf]; omega
      · obtain rfl : m = l.length := by omega
        rw [List.take_length, next_hi hC.b hC.i hk]
        refine wp_seq_k (fun K9 hK9 => ?_)
        refine wp_seq_k (fun K10 hK10 => ?_)
        refine wp_region_lit ?_
        refine wl_yield (o := ⟨_, _, _, _, _, _⟩) (.int .i64 (l.length : Nat)) (yl_move (by rfl) _ rfl _ rfl) ?_
        simp only [Act.put, lzA, lzB, lzC]
        refine wl_yield (o := ⟨_, _, _, _, _, _⟩) (.slice a l.length cap) (yl_move (by rfl) _ rfl _ rfl) ?_
        simp only [Act.put, lzA, lzB, lzC]
        refine wl_yield (o := ⟨_, _, _, _, _, _⟩) (.int .i64 (l.length : Nat)) (yt_lenQ (by rfl) _ rfl a l.length cap rfl) ?_
        simp only [Act.put, lzA, lzB, lzC]
        refine wl_yield (o := ⟨_, _, _, _, _, _⟩) (.bool false) (yt_lssI (by rfl) _ _ _ rfl ((l.length : Nat) : Int) ((l.length : Nat) : Int) false rfl rfl (decide_eq_false (by omega))) ?_
        simp only [Act.put, lzA, lzB, lzC]
        refine wpList_nil ?_
        refine hK10 _ _ ?_
        clear hK10 K10
        refine wp_cond_false rfl ?_
        refine wp_exit ?_
        refine hK7 _ _ ?_
        clear hK9 K9 hK7 K7
        refine wp_seq_k (fun K11 hK11 => ?_)
        replace OU := OwnU.on OU (below_none D)
        replace NS := NS.on (below_none D)
        replace AP := AP.mono (Below.size (below_none D))
        replace D := grown_trans DA D
        clear DA
        refine wp_region_lit ?_
        refine wl_yield (o := ⟨_, _, _, _, _, _⟩) (u3) (yl_move (by rfl) _ rfl _ rfl) ?_
        simp only [Act.put, lzA, lzB, lzC]
        refine wl_yield (o := ⟨_, _, _, _, _, _⟩) (.int .i64 (B.getD k 0)) (yl_move (by rfl) _ rfl _ rfl) ?_
        simp only [Act.put, lzA, lzB, lzC]
        refine wl_yield (o := ⟨_, _, _, _, _, _⟩) (.int .i64 (hiAt B k)) (yl_move (by rfl) _ rfl _ rfl) ?_
        simp only [Act.put, lzA, lzB, lzC]
        refine wl_yield (o := ⟨_, _, _, _, _, _⟩) (.agg #[.int .i64 (B.getD k 0), .int .i64 (hiAt B k)]) (yt_buildR (by rfl) _ _ rfl (B.getD k 0) (hiAt B k) rfl rfl) ?_
        simp only [Act.put, lzA, lzB, lzC]
        refine wt_row1R (o := ⟨_, _, _, _, _, _⟩) (by rfl) _ rfl (B.getD k 0, hiAt B k) rfl (fun v2 g2 hg G2 kb => ?_)
        have ge_g2 : w.heap.size ≤ g2 := Nat.le_trans D.size hg
        clear hg
        replace D := grown_below D kb
        replace OU := OwnU.on OU kb
        replace NS := NS.on kb
        replace AP := AP.mono (Below.size kb)
        clear kb
        simp only [Act.put, lzA, lzB, lzC]
        refine wl_yield (o := ⟨_, _, _, _, _, _⟩) (.agg #[.bool false, .slice (some ⟨g2, 0, none⟩) 1 1, .bool false, .slice none 0 0]) (yq_bS1 (by rfl) _ rfl (some ⟨g2, 0, none⟩) 1 1 rfl) ?_
        simp only [Act.put, lzA, lzB, lzC]
        refine wq_row1Q (o := ⟨_, _, _, _, _, _⟩) (by rfl) _ rfl ⟨false, (some ⟨g2, 0, none⟩), 1, 1, false, none, 0, 0⟩ rfl (fun v3 g3 hg G3 kb => ?_)
        have n_g2_g3 : g2 ≠ g3 := by have := lt_heap G2; omega
        have ge_g3 : w.heap.size ≤ g3 := Nat.le_trans D.size hg
        clear hg
        replace D := grown_below D kb
        replace OU := OwnU.on OU kb
        replace NS := NS.on kb
        replace AP := AP.mono (Below.size kb)
        replace G2 := heap_on G2 kb
        clear kb
        replace G3 : v3.heap[g3]? = some (.cells #[.bool false, .slice (some ⟨g2, 0, none⟩) 1 1, .bool false, .slice none 0 0] 26 (0, 0)) := G3
        simp only [Act.put, lzA, lzB, lzC]
        have hin := nextR_in hC hk
        have hin0 := hC.inB (gD_mem (d := 0) hk)
        have hS1 : SetAt v3 (SC.val ⟨false, (some ⟨g2, 0, none⟩), 1, 1, false, none, 0, 0⟩) (cellN (B.getD k 0) (hiAt B k)) := cellN_at G2 hin0 hin
        have hU1 : UpC w.heap.size ⟨false, (some ⟨g2, 0, none⟩), 1, 1, false, none, 0, 0⟩ := ⟨fun a e => (by cases e; exact ge_g2), fun a e => (by cases e)⟩
        have hp1 : ∀ a, SC.p ⟨false, (some ⟨g2, 0, none⟩), 1, 1, false, none, 0, 0⟩ = some a → a.block < v3.heap.size ∧ Value.ownBlock (.slice none 0 0) ≠ some a.block := fun a e => (by cases e; exact ⟨lt_heap G2, fun h => by cases h⟩)
        have hq1 : ∀ a, SC.q ⟨false, (some ⟨g2, 0, none⟩), 1, 1, false, none, 0, 0⟩ = some a → a.block < v3.heap.size ∧ Value.ownBlock (.slice none 0 0) ≠ some a.block := fun a e => (by cases e)
        refine wl_appU9 (o := ⟨_, _, _, _, _, _⟩) (by rfl) _ _ rfl w.heap.size u3 cs rfl OU g3 ⟨false, (some ⟨g2, 0, none⟩), 1, 1, false, none, 0, 0⟩ rfl G3 (by omega) D.size (fun v4' v4 OU' ha hw hc => ?_)
        simp only [Act.put, lzA, lzB, lzC]
        replace NS := NS.snoc hS1 hU1
        replace NS : NewSt w.heap.size v4 _ _ := ⟨⟨NS.at_.1, fun i hi => hc (NS.at_.2 i hi)⟩, NS.up⟩
        replace AP := (AP.snoc hp1 hq1).mono ha.s
        replace D := grown_none ((below_none D).trans ha.b)
        replace OU := OU'
        clear OU' ha hw hc hS1 hU1 hp1 hq1 G2 G3
        rw [← cellL_num B N k hk, ← take_more (l := cellL B N) (k := k + 1) (by rw [cellL_len]; omega)] at NS
        refine wl_yield (o := ⟨_, _, _, _, _, _⟩) (v4') (yl_assign (by rfl) _ rfl _ rfl) ?_
        simp only [Act.put, lzA, lzB, lzC]
        refine wpList_nil ?_
        refine hK11 _ _ ?_
        clear hK11 K11
        refine wp_seq_k (fun K12 hK12 => ?_)
        refine wp_seq_k (fun K13 hK13 => ?_)
        refine wp_region_lit ?_
        refine wl_yield (o := ⟨_, _, _, _, _, _⟩) (.int .i64 (hiAt B k)) (yl_move (by rfl) _ rfl _ rfl) ?_
        simp only [Act.put, lzA, lzB, lzC]
        refine wl_yield (o := ⟨_, _, _, _, _, _⟩) (.bool (decide (hiAt B k = 9223372036854775807))) (yt_eqlI (by rfl) _ _ _ rfl (hiAt B k) 9223372036854775807 (decide (hiAt B k = 9223372036854775807)) rfl rfl (rfl)) ?_
        simp only [Act.put, lzA, lzB, lzC]
        refine wpList_nil ?_
        refine hK13 _ _ ?_
        clear hK13 K13
        refine wp_cond_split (t := (decide (hiAt B k = 9223372036854775807))) rfl (fun hc => ?_) (fun hc => ?_)
        · have hk1 : k + 1 = B.length := by
            have := (hi_top hC hk).1 (of_decide_eq_true hc)
            omega
          refine wp_exit ?_
          refine hK5 _ _ ?_
          clear hK12 K12 hK5 K5
          refine wp_seq_k (fun K14 hK14 => ?_)
          refine wp_block ?_
          rw [hk1] at NS
          have hcl2 : (cs ++ [(⟨false, (some ⟨g2, 0, none⟩), 1, 1, false, none, 0, 0⟩ : SC)]).length = B.length + 1 := by rw [List.length_append, List.length_singleton]; omega
          go_loopw [3, 4] (fun x y wr => ∃ (n : Nat) (cs : List SC) (M : List ByteArray), M = N.take n ∧ n ≤ N.length ∧ OwnU wr w.heap.size x cs ∧ cs.length = B.length + 1 + n ∧ NewSt w.heap.size wr cs ((cellL B N).take (B.length + 1 + n)) ∧ RowS wr w.heap.size y M ∧ Apt wr y cs ∧ w.grownBy wr none) (fun x _ _ => B.length + N.length + 2 - lenV x)
          case atStart => exact ⟨0, _, [], rfl, Nat.zero_le _, OU, hcl2, NS, RowS.nil _ _, AP, D⟩
          case round =>
            clear D OU NS AP
            obtain ⟨n, cs, M, hM, hn, OU, hcl, NS, RS, AP, D⟩ := hrel
            obtain ⟨pS, cS, rfl, -, -, -⟩ := ownsRow_form RS
            have hMl : M.length = n := by rw [hM, List.length_take]; omega
            refine wp_block ?_
            refine wp_seq_k (fun K15 hK15 => ?_)
            refine wp_region_lit ?_
            refine wl_yield (o := ⟨_, _, _, _, _, _⟩) (.string (bs ([]))) (yl_assign (by rfl) _ rfl _ rfl) ?_
            simp only [Act.put, lzA, lzB, lzC]
            refine wpList_nil ?_
            refine hK15 _ _ ?_
            clear hK15 K15
            refine wp_seq_k (fun K16 hK16 => ?_)
            refine wp_region_lit ?_
            refine wl_yield (o := ⟨_, _, _, _, _, _⟩) (.bool false) (yl_assign (by rfl) _ rfl _ rfl) ?_
            simp only [Act.put, lzA, lzB, lzC]
            refine wpList_nil ?_
            refine hK16 _ _ ?_
            clear hK16 K16
            refine wp_seq_k (fun K17 hK17 => ?_)
            refine wp_seq_k (fun K18 hK18 => ?_)
            refine wp_region_lit ?_
            refine wl_yield (o := ⟨_, _, _, _, _, _⟩) (.int .i64 0) (yl_assign (by rfl) _ rfl _ rfl) ?_
            simp only [Act.put, lzA, lzB, lzC]
            refine wpList_nil ?_
            refine hK18 _ _ ?_
            clear hK18 K18
            refine wp_block ?_
            obtain ⟨wE, hwE⟩ : ∃ V, V = wr := ⟨_, rfl⟩
            subst hwE
            have DE := D
            clear D
            have D : wE.grownBy wE none := grown_refl _ _
            go_loopw [10, 11, 12] (fun b fd i wr => ∃ (m : Nat) (X : Option ByteArray), b = .string (X.getD ⟨#[]⟩) ∧ fd = .bool X.isSome ∧ i = .int .i64 ((m : Nat) : Int) ∧ m ≤ l.length ∧ X = nextS M (allS (l.take m)) ∧ wE.grownBy wr none) (fun _ _ i _ => l.length - (intOf i).toNat)
            case atStart => exact ⟨0, none, rfl, rfl, rfl, Nat.zero_le _, rfl, D⟩
            case round =>
              clear D
              obtain ⟨m, X, rfl, rfl, rfl, hm, hX, D⟩ := hrel
              by_cases hlt : m < l.length
              · obtain ⟨gI, oI, vi, vs, rfl, hgI, C0, C1, C2, C3, hI, hT⟩ := hv.at.2 m hlt
                generalize hS : l.getD m noSet = S at C0 C2 hI hT
                obtain ⟨ai, ci, rfl⟩ := hI.form
                obtain ⟨az, cz, rfl⟩ := hT.form
                have hi64 := hI.2.1
                have hs64 := hT.2.1
                have cellD := fun (W : World) (D : wE.grownBy W none) (j : Nat) => (below_none (grown_trans DE D)).cell (p := ⟨gI, j, none⟩) hgI
                refine wp_seq_k (fun K19 hK19 => ?_)
                refine wp_seq_k (fun K20 hK20 => ?_)
                refine wp_region_lit ?_
                refine wl_yield (o := ⟨_, _, _, _, _, _⟩) (.int .i64 (m : Nat)) (yl_move (by rfl) _ rfl _ rfl) ?_
                simp only [Act.put, lzA, lzB, lzC]
                refine wl_yield (o := ⟨_, _, _, _, _, _⟩) (.slice (some ⟨gI, oI, none⟩) l.length cap) (yl_move (by rfl) _ rfl _ rfl) ?_
                simp only [Act.put, lzA, lzB, lzC]
                refine wl_yield (o := ⟨_, _, _, _, _, _⟩) (.int .i64 (l.length : Nat)) (yt_lenQ (by rfl) _ rfl (some ⟨gI, oI, none⟩) l.length cap rfl) ?_
                simp only [Act.put, lzA, lzB, lzC]
                refine wl_yield (o := ⟨_, _, _, _, _, _⟩) (.bool true) (yt_lssI (by rfl) _ _ _ rfl ((m : Nat) : Int) ((l.length : Nat) : Int) true rfl rfl (decide_eq_true (by omega))) ?_
                simp only [Act.put, lzA, lzB, lzC]
                refine wpList_nil ?_
                refine hK20 _ _ ?_
                clear hK20 K20
                refine wp_cond_true rfl ?_
                refine wp_skip ?_
                refine hK19 _ _ ?_
                clear hK19 K19
                refine wp_seq_k (fun K21 hK21 => ?_)
                refine wp_block ?_
                refine wp_seq_k (fun K22 hK22 => ?_)
                refine wp_seq_k (fun K23 hK23 => ?_)
                refine wp_region_lit ?_
                refine wl_yield (o := ⟨_, _, _, _, _, _⟩) (.slice (some ⟨gI, oI, none⟩) l.length cap) (yl_move (by rfl) _ rfl _ rfl) ?_
                simp only [Act.put, lzA, lzB, lzC]
                refine wl_yield (o := ⟨_, _, _, _, _, _⟩) (.int .i64 (m : Nat)) (yl_move (by rfl) _ rfl _ rfl) ?_
                simp only [Act.put, lzA, lzB, lzC]
                refine wl_yield (o := ⟨_, _, _, _, _, _⟩) (.pointer (some ⟨gI, oI + m * 4, none⟩)) (yt_atQ (by rfl) _ _ rfl gI oI _ _ m rfl rfl (hlt)) ?_
                simp only [Act.put, lzA, lzB, lzC]
                refine wl_yield (o := ⟨_, _, _, _, _, _⟩) (.agg #[.bool (S.absent), .slice ai S.ints.length ci, .bool (S.co), .slice az S.strs.length cz]) (yl_set (by rfl) _ rfl _ _ rfl _ _ _ _ (fun _ h => by subst h; exact ⟨(cellD _ D _).trans C0, (cellD _ D _).trans C1, (cellD _ D _).trans C2, (cellD _ D _).trans C3⟩)) ?_
                simp only [Act.put, lzA, lzB, lzC]
                cases hr : rightSet S
                · refine wt_call (o := ⟨_, _, _, _, _, _⟩) (by rfl) 21 _ _ rfl #[.agg #[.bool (S.absent), .slice ai S.ints.length ci, .bool (S.co), .slice az S.strs.length cz]] rfl (run_call Tryz.func21 (by kernel_rfl) (by kernel_rfl)) ?_
                  refine (refRightSet_any (SC.val ⟨S.absent, ai, S.ints.length, ci, S.co, az, S.strs.length, cz⟩) S _ ⟨_, _, rfl, hI.on (below_none (grown_trans DE D)), hT.on (below_none (grown_trans DE D))⟩).mono ?_
                  rintro r v5 (⟨rfl, kb⟩)
                  · replace D := grown_below D kb
                    clear kb
                    refine Or.inl ⟨.bool false, ret_bool hr, ?_⟩
                    simp only [Act.put, lzA, lzB, lzC]
                    refine wl_yield (o := ⟨_, _, _, _, _, _⟩) (.bool true) (yl_not (by rfl) _ _ rfl false rfl) ?_
                    simp only [Act.put, lzA, lzB, lzC]
                    refine wpList_nil ?_
                    refine hK23 _ _ ?_
                    clear hK23 K23
                    refine wp_cond_true rfl ?_
                    refine wp_exit ?_
                    refine hK21 _ _ ?_
                    clear hK22 K22 hK21 K21
                    refine wp_region_lit ?_
                    refine wl_yield (o := ⟨_, _, _, _, _, _⟩) (.int .i64 (m : Nat)) (yl_move (by rfl) _ rfl _ rfl) ?_
                    simp only [Act.put, lzA, lzB, lzC]
                    refine wl_yield (o := ⟨_, _, _, _, _, _⟩) (.int .i64 (m + 1 : Nat)) (yt_addI (by rfl) _ _ _ rfl ((m : Nat) : Int) 1 ((m + 1 : Nat) : Int) rfl rfl (by omega) (by omega) (by omega)) ?_
                    simp only [Act.put, lzA, lzB, lzC]
                    refine wl_yield (o := ⟨_, _, _, _, _, _⟩) (.int .i64 (m + 1 : Nat)) (yl_assign (by rfl) _ rfl _ rfl) ?_
                    simp only [Act.put, lzA, lzB, lzC]
                    refine wpList_nil ?_
                    show _ ∧ _
                    go_roundw
                    case rel => exact ⟨m + 1, _, rfl, rfl, rfl, by omega, by rw [hX, allS_take l m hlt, hS, if_neg (by rw [hr]; decide), List.append_nil], D⟩
                    case measure => simp [intOf]; omega
                · refine wt_call (o := ⟨_, _, _, _, _, _⟩) (by rfl) 21 _ _ rfl #[.agg #[.bool (S.absent), .slice ai S.ints.length ci, .bool (S.co), .slice az S.strs.length cz]] rfl (run_call Tryz.func21 (by kernel_rfl) (by kernel_rfl)) ?_
                  refine (refRightSet_any (SC.val ⟨S.absent, ai, S.ints.length, ci, S.co, az, S.strs.length, cz⟩) S _ ⟨_, _, rfl, hI.on (below_none (grown_trans DE D)), hT.on (below_none (grown_trans DE D))⟩).mono ?_
                  rintro r v5 (⟨rfl, kb⟩)
                  · replace D := grown_below D kb
                    clear kb
                    refine Or.inl ⟨.bool true, ret_bool hr, ?_⟩
                    simp only [Act.put, lzA, lzB, lzC]
                    refine wl_yield (o := ⟨_, _, _, _, _, _⟩) (.bool false) (yl_not (by rfl) _ _ rfl true rfl) ?_
                    simp only [Act.put, lzA, lzB, lzC]
                    refine wpList_nil ?_
                    refine hK23 _ _ ?_
                    clear hK23 K23
                    refine wp_cond_false rfl ?_
                    refine wp_skip ?_
                    refine hK22 _ _ ?_
                    clear hK22 K22
                    refine wp_seq_k (fun K24 hK24 => ?_)
                    refine wp_region_lit ?_
                    refine wl_yield (o := ⟨_, _, _, _, _, _⟩) (.int .i64 0) (yl_assign (by rfl) _ rfl _ rfl) ?_
                    simp only [Act.put, lzA, lzB, lzC]
                    refine wpList_nil ?_
                    refine hK24 _ _ ?_
                    clear hK24 K24
                    refine wp_block ?_
                    go_loopw [10, 11, 13] (fun b fd i wr => ∃ (q : Nat) (Y : Option ByteArray), b = .string (Y.getD ⟨#[]⟩) ∧ fd = .bool Y.isSome ∧ i = .int .i64 ((q : Nat) : Int) ∧ q ≤ S.strs.length ∧ Y = nextS M (allS (l.take m) ++ S.strs.take q) ∧ wE.grownBy wr none) (fun _ _ i _ => S.strs.length - (intOf i).toNat)
                    case atStart => exact ⟨0, X, rfl, rfl, rfl, Nat.zero_le _, by rw [List.take_zero, List.append_nil]; exact hX, D⟩
                    case round =>
                      clear D
                      obtain ⟨q, Y, rfl, rfl, rfl, hq, hY, D⟩ := hrel
                      by_cases hlq : q < S.strs.length
                      · obtain ⟨gT, oT, rfl, hgT, T0⟩ := hT.at.2 q hlq
                        have hst : nextS M (allS (l.take m) ++ S.strs.take (q + 1)) = stepS M Y (S.strs.getD q ⟨#[]⟩) := by
                          rw [hY]
                          exact fold_snoc (stepS M) _ _ _ ⟨#[]⟩ hlq
                        generalize hs : S.strs.getD q ⟨#[]⟩ = s at T0 hst
                        have cellT := fun (W : World) (D : wE.grownBy W none) (j : Nat) => (below_none (grown_trans DE D)).cell (p := ⟨gT, j, none⟩) hgT
                        by_cases h0 : M.length = 0
                        · have hl : lateS M s = true := late_nil h0
                          rcases Y with _ | t
                          · have hb : befS none s = true := rfl
                            refine wp_seq_k (fun K25 hK25 => ?_)
                            refine wp_seq_k (fun K26 hK26 => ?_)
                            refine wp_region_lit ?_
                            refine wl_yield (o := ⟨_, _, _, _, _, _⟩) (.int .i64 (q : Nat)) (yl_move (by rfl) _ rfl _ rfl) ?_
                            simp only [Act.put, lzA, lzB, lzC]
                            refine wl_yield (o := ⟨_, _, _, _, _, _⟩) (.slice (some ⟨gI, oI, none⟩) l.length cap) (yl_move (by rfl) _ rfl _ rfl) ?_
                            simp only [Act.put, lzA, lzB, lzC]
                            refine wl_yield (o := ⟨_, _, _, _, _, _⟩) (.int .i64 (m : Nat)) (yl_move (by rfl) _ rfl _ rfl) ?_
                            simp only [Act.put, lzA, lzB, lzC]
                            refine wl_yield (o := ⟨_, _, _, _, _, _⟩) (.pointer (some ⟨gI, oI + m * 4, none⟩)) (yt_atQ (by rfl) _ _ rfl gI oI _ _ m rfl rfl (hlt)) ?_
                            simp only [Act.put, lzA, lzB, lzC]
                            refine wl_yield (o := ⟨_, _, _, _, _, _⟩) (.pointer (some ⟨gI, oI + m * 4 + 3, none⟩)) (yt_fSt3 (by rfl) _ rfl gI (oI + m * 4) rfl) ?_
                            simp only [Act.put, lzA, lzB, lzC]
                            refine wl_yield (o := ⟨_, _, _, _, _, _⟩) (.slice (some ⟨gT, oT, none⟩) S.strs.length cz) (yt_ldLs (by rfl) _ rfl _ _ rfl _ _ _ (fun _ h => by subst h; exact (cellD _ D _).trans C3)) ?_
                            simp only [Act.put, lzA, lzB, lzC]
                            refine wl_yield (o := ⟨_, _, _, _, _, _⟩) (.int .i64 (S.strs.length : Nat)) (yt_lenT (by rfl) _ rfl (some ⟨gT, oT, none⟩) S.strs.length cz rfl) ?_
                            simp only [Act.put, lzA, lzB, lzC]
                            refine wl_yield (o := ⟨_, _, _, _, _, _⟩) (.bool true) (yt_lssI (by rfl) _ _ _ rfl ((q : Nat) : Int) ((S.strs.length : Nat) : Int) true rfl rfl (decide_eq_true (by omega))) ?_
                            simp only [Act.put, lzA, lzB, lzC]
                            refine wpList_nil ?_
                            refine hK26 _ _ ?_
                            clear hK26 K26
                            refine wp_cond_true rfl ?_
                            refine wp_skip ?_
                            refine hK25 _ _ ?_
                            clear hK25 K25
                            refine wp_seq_k (fun K27 hK27 => ?_)
                            refine wp_block ?_
                            refine wp_seq_k (fun K28 hK28 => ?_)
                            refine wp_region_lit ?_
                            refine wl_yield (o := ⟨_, _, _, _, _, _⟩) (.slice (some ⟨gI, oI, none⟩) l.length cap) (yl_move (by rfl) _ rfl _ rfl) ?_
                            simp only [Act.put, lzA, lzB, lzC]
                            refine wl_yield (o := ⟨_, _, _, _, _, _⟩) (.int .i64 (m : Nat)) (yl_move (by rfl) _ rfl _ rfl) ?_
                            simp only [Act.put, lzA, lzB, lzC]
                            refine wl_yield (o := ⟨_, _, _, _, _, _⟩) (.pointer (some ⟨gI, oI + m * 4, none⟩)) (yt_atQ (by rfl) _ _ rfl gI oI _ _ m rfl rfl (hlt)) ?_
                            simp only [Act.put, lzA, lzB, lzC]
                            refine wl_yield (o := ⟨_, _, _, _, _, _⟩) (.pointer (some ⟨gI, oI + m * 4 + 3, none⟩)) (yt_fSt3 (by rfl) _ rfl gI (oI + m * 4) rfl) ?_
                            simp only [Act.put, lzA, lzB, lzC]
                            refine wl_yield (o := ⟨_, _, _, _, _, _⟩) (.slice (some ⟨gT, oT, none⟩) S.strs.length cz) (yt_ldLs (by rfl) _ rfl _ _ rfl _ _ _ (fun _ h => by subst h; exact (cellD _ D _).trans C3)) ?_
                            simp only [Act.put, lzA, lzB, lzC]
                            refine wl_yield (o := ⟨_, _, _, _, _, _⟩) (.int .i64 (q : Nat)) (yl_move (by rfl) _ rfl _ rfl) ?_
                            simp only [Act.put, lzA, lzB, lzC]
                            refine wl_yield (o := ⟨_, _, _, _, _, _⟩) (.pointer (some ⟨gT, oT + q * 1, none⟩)) (yt_atT (by rfl) _ _ rfl gT oT _ _ q rfl rfl (hlq)) ?_
                            simp only [Act.put, lzA, lzB, lzC]
                            refine wl_yield (o := ⟨_, _, _, _, _, _⟩) (.string s) (yt_ldS (by rfl) _ rfl _ _ rfl _ (fun _ h => by subst h; rw [Nat.mul_one]; exact (cellT _ D _).trans T0)) ?_
                            simp only [Act.put, lzA, lzB, lzC]
                            refine wl_yield (o := ⟨_, _, _, _, _, _⟩) (.string s) (yl_assign (by rfl) _ rfl _ rfl) ?_
                            simp only [Act.put, lzA, lzB, lzC]
                            refine wpList_nil ?_
                            refine hK28 _ _ ?_
                            clear hK28 K28
                            refine wp_seq_k (fun K29 hK29 => ?_)
                            refine wp_region_lit ?_
                            refine wl_yield (o := ⟨_, _, _, _, _, _⟩) (.slice pS M.length cS) (yl_move (by rfl) _ rfl _ rfl) ?_
                            simp only [Act.put, lzA, lzB, lzC]
                            refine wl_yield (o := ⟨_, _, _, _, _, _⟩) (.int .i64 (M.length : Nat)) (yt_lenT (by rfl) _ rfl pS M.length cS rfl) ?_
                            simp only [Act.put, lzA, lzB, lzC]
                            refine wl_yield (o := ⟨_, _, _, _, _, _⟩) (.bool true) (yt_eqlI (by rfl) _ _ _ rfl ((M.length : Nat) : Int) 0 true rfl rfl (decide_eq_true (by omega))) ?_
                            simp only [Act.put, lzA, lzB, lzC]
                            refine wl_yield (o := ⟨_, _, _, _, _, _⟩) (.bool true) (yl_move (by rfl) _ rfl _ rfl) ?_
                            simp only [Act.put, lzA, lzB, lzC]
                            with_reducible refine wl_yield (o := ⟨_, _, _, _, _, _⟩) undef (yl_undef (by kernel_rfl)) ?_
                            simp only [Act.put, lzA, lzB, lzC]
                            with_reducible refine wl_yield (o := ⟨_, _, _, _, _, _⟩) undef (yl_undef (by kernel_rfl)) ?_
                            simp only [Act.put, lzA, lzB, lzC]
                            with_reducible refine wl_yield (o := ⟨_, _, _, _, _, _⟩) undef (yl_undef (by kernel_rfl)) ?_
                            simp only [Act.put, lzA, lzB, lzC]
                            with_reducible refine wl_yield (o := ⟨_, _, _, _, _, _⟩) undef (yl_undef (by kernel_rfl)) ?_
                            simp only [Act.put, lzA, lzB, lzC]
                            with_reducible refine wl_yield (o := ⟨_, _, _, _, _, _⟩) undef (yl_undef (by kernel_rfl)) ?_
                            simp only [Act.put, lzA, lzB, lzC]
                            with_reducible refine wl_yield (o := ⟨_, _, _, _, _, _⟩) undef (yl_undef (by kernel_rfl)) ?_
                            simp only [Act.put, lzA, lzB, lzC]
                            with_reducible refine wl_yield (o := ⟨_, _, _, _, _, _⟩) undef (yl_undef (by kernel_rfl)) ?_
                            simp only [Act.put, lzA, lzB, lzC]
                            with_reducible refine wl_yield (o := ⟨_, _, _, _, _, _⟩) undef (yl_undef (by kernel_rfl)) ?_
                            simp only [Act.put, lzA, lzB, lzC]
                            refine wl_yield (o := ⟨_, _, _, _, _, _⟩) (.bool true) (yl_pickT (by rfl) _ _ _ rfl rfl _ rfl) ?_
                            simp only [Act.put, lzA, lzB, lzC]
                            refine wl_yield (o := ⟨_, _, _, _, _, _⟩) (.bool true) (yl_move (by rfl) _ rfl _ rfl) ?_
                            simp only [Act.put, lzA, lzB, lzC]
                            refine wl_yield (o := ⟨_, _, _, _, _, _⟩) (.bool false) (yl_move (by rfl) _ rfl _ rfl) ?_
                            simp only [Act.put, lzA, lzB, lzC]
                            refine wl_yield (o := ⟨_, _, _, _, _, _⟩) (.bool true) (yl_not (by rfl) _ _ rfl false rfl) ?_
                            simp only [Act.put, lzA, lzB, lzC]
                            refine wl_yield (o := ⟨_, _, _, _, _, _⟩) (.bool true) (yl_move (by rfl) _ rfl _ rfl) ?_
                            simp only [Act.put, lzA, lzB, lzC]
                            with_reducible refine wl_yield (o := ⟨_, _, _, _, _, _⟩) undef (yl_undef (by kernel_rfl)) ?_
                            simp only [Act.put, lzA, lzB, lzC]
                            with_reducible refine wl_yield (o := ⟨_, _, _, _, _, _⟩) undef (yl_undef (by kernel_rfl)) ?_
                            simp only [Act.put, lzA, lzB, lzC]
                            with_reducible refine wl_yield (o := ⟨_, _, _, _, _, _⟩) undef (yl_undef (by kernel_rfl)) ?_
                            simp only [Act.put, lzA, lzB, lzC]
                            refine wl_yield (o := ⟨_, _, _, _, _, _⟩) (.bool true) (yl_pickT (by rfl) _ _ _ rfl rfl _ rfl) ?_
                            simp only [Act.put, lzA, lzB, lzC]
                            refine wl_yield (o := ⟨_, _, _, _, _, _⟩) (.bool true) (yl_pickT (by rfl) _ _ _ rfl rfl _ rfl) ?_
                            simp only [Act.put, lzA, lzB, lzC]
                            refine wpList_nil ?_
                            refine hK29 _ _ ?_
                            clear hK29 K29
                            refine wp_cond_true rfl ?_
                            refine wp_seq_k (fun K30 hK30 => ?_)
                            refine wp_region_lit ?_
                            refine wl_yield (o := ⟨_, _, _, _, _, _⟩) (.string s) (yl_move (by rfl) _ rfl _ rfl) ?_
                            simp only [Act.put, lzA, lzB, lzC]
                            refine wl_yield (o := ⟨_, _, _, _, _, _⟩) (.string s) (yl_assign (by rfl) _ rfl _ rfl) ?_
                            simp only [Act.put, lzA, lzB, lzC]
                            refine wpList_nil ?_
                            refine hK30 _ _ ?_
                            clear hK30 K30
                            refine wp_region_lit ?_
                            refine wl_yield (o := ⟨_, _, _, _, _, _⟩) (.bool true) (yl_assign (by rfl) _ rfl _ rfl) ?_
                            simp only [Act.put, lzA, lzB, lzC]
                            refine wpList_nil ?_
                            refine hK27 _ _ ?_
                            clear hK27 K27
                            refine wp_region_lit ?_
                            refine wl_yield (o := ⟨_, _, _, _, _, _⟩) (.int .i64 (q : Nat)) (yl_move (by rfl) _ rfl _ rfl) ?_
                            simp only [Act.put, lzA, lzB, lzC]
                            refine wl_yield (o := ⟨_, _, _, _, _, _⟩) (.int .i64 (q + 1 : Nat)) (yt_addI (by rfl) _ _ _ rfl ((q : Nat) : Int) 1 ((q + 1 : Nat) : Int) rfl rfl (by omega) (by omega) (by omega)) ?_
                            simp only [Act.put, lzA, lzB, lzC]
                            refine wl_yield (o := ⟨_, _, _, _, _, _⟩) (.int .i64 (q + 1 : Nat)) (yl_assign (by rfl) _ rfl _ rfl) ?_
                            simp only [Act.put, lzA, lzB, lzC]
                            refine wpList_nil ?_
                            show _ ∧ _
                            go_roundw
                            case rel => exact ⟨q + 1, (some s), rfl, rfl, rfl, by omega, by rw [hst]; unfold stepS; rw [if_pos (by rw [hl, hb]; rfl)], D⟩
                            case measure => simp [intOf]; omega
                          · cases hb2 : Op.bytesLess s.toList t.toList
                            · have hb : befS (some t) s = false := hb2
                              refine wp_seq_k (fun K25 hK25 => ?_)
                              refine wp_seq_k (fun K26 hK26 => ?_)
                              refine wp_region_lit ?_
                              refine wl_yield (o := ⟨_, _, _, _, _, _⟩) (.int .i64 (q : Nat)) (yl_move (by rfl) _ rfl _ rfl) ?_
                              simp only [Act.put, lzA, lzB, lzC]
                              refine wl_yield (o := ⟨_, _, _, _, _, _⟩) (.slice (some ⟨gI, oI, none⟩) l.length cap) (yl_move (by rfl) _ rfl _ rfl) ?_
                              simp only [Act.put, lzA, lzB, lzC]
                              refine wl_yield (o := ⟨_, _, _, _, _, _⟩) (.int .i64 (m : Nat)) (yl_move (by rfl) _ rfl _ rfl) ?_
                              simp only [Act.put, lzA, lzB, lzC]
                              refine wl_yield (o := ⟨_, _, _, _, _, _⟩) (.pointer (some ⟨gI, oI + m * 4, none⟩)) (yt_atQ (by rfl) _ _ rfl gI oI _ _ m rfl rfl (hlt)) ?_
                              simp only [Act.put, lzA, lzB, lzC]
                              refine wl_yield (o := ⟨_, _, _, _, _, _⟩) (.pointer (some ⟨gI, oI + m * 4 + 3, none⟩)) (yt_fSt3 (by rfl) _ rfl gI (oI + m * 4) rfl) ?_
                              simp only [Act.put, lzA, lzB, lzC]
                              refine wl_yield (o := ⟨_, _, _, _, _, _⟩) (.slice (some ⟨gT, oT, none⟩) S.strs.length cz) (yt_ldLs (by rfl) _ rfl _ _ rfl _ _ _ (fun _ h => by subst h; exact (cellD _ D _).trans C3)) ?_
                              simp only [Act.put, lzA, lzB, lzC]
                              refine wl_yield (o := ⟨_, _, _, _, _, _⟩) (.int .i64 (S.strs.length : Nat)) (yt_lenT (by rfl) _ rfl (some ⟨gT, oT, none⟩) S.strs.length cz rfl) ?_
                              simp only [Act.put, lzA, lzB, lzC]
                              refine wl_yield (o := ⟨_, _, _, _, _, _⟩) (.bool true) (yt_lssI (by rfl) _ _ _ rfl ((q : Nat) : Int) ((S.strs.length : Nat) : Int) true rfl rfl (decide_eq_true (by omega))) ?_
                              simp only [Act.put, lzA, lzB, lzC]
                              refine wpList_nil ?_
                              refine hK26 _ _ ?_
                              clear hK26 K26
                              refine wp_cond_true rfl ?_
                              refine wp_skip ?_
                              refine hK25 _ _ ?_
                              clear hK25 K25
                              refine wp_seq_k (fun K27 hK27 => ?_)
                              refine wp_block ?_
                              refine wp_seq_k (fun K28 hK28 => ?_)
                              refine wp_region_lit ?_
                              refine wl_yield (o := ⟨_, _, _, _, _, _⟩) (.slice (some ⟨gI, oI, none⟩) l.length cap) (yl_move (by rfl) _ rfl _ rfl) ?_
                              simp only [Act.put, lzA, lzB, lzC]
                              refine wl_yield (o := ⟨_, _, _, _, _, _⟩) (.int .i64 (m : Nat)) (yl_move (by rfl) _ rfl _ rfl) ?_
                              simp only [Act.put, lzA, lzB, lzC]
                              refine wl_yield (o := ⟨_, _, _, _, _, _⟩) (.pointer (some ⟨gI, oI + m * 4, none⟩)) (yt_atQ (by rfl) _ _ rfl gI oI _ _ m rfl rfl (hlt)) ?_
                              simp only [Act.put, lzA, lzB, lzC]
                              refine wl_yield (o := ⟨_, _, _, _, _, _⟩) (.pointer (some ⟨gI, oI + m * 4 + 3, none⟩)) (yt_fSt3 (by rfl) _ rfl gI (oI + m * 4) rfl) ?_
                              simp only [Act.put, lzA, lzB, lzC]
                              refine wl_yield (o := ⟨_, _, _, _, _, _⟩) (.slice (some ⟨gT, oT, none⟩) S.strs.length cz) (yt_ldLs (by rfl) _ rfl _ _ rfl _ _ _ (fun _ h => by subst h; exact (cellD _ D _).trans C3)) ?_
                              simp only [Act.put, lzA, lzB, lzC]
                              refine wl_yield (o := ⟨_, _, _, _, _, _⟩) (.int .i64 (q : Nat)) (yl_move (by rfl) _ rfl _ rfl) ?_
                              simp only [Act.put, lzA, lzB, lzC]
                              refine wl_yield (o := ⟨_, _, _, _, _, _⟩) (.pointer (some ⟨gT, oT + q * 1, none⟩)) (yt_atT (by rfl) _ _ rfl gT oT _ _ q rfl rfl (hlq)) ?_
                              simp only [Act.put, lzA, lzB, lzC]
                              refine wl_yield (o := ⟨_, _, _, _, _, _⟩) (.string s) (yt_ldS (by rfl) _ rfl _ _ rfl _ (fun _ h => by subst h; rw [Nat.mul_one]; exact (cellT _ D _).trans T0)) ?_
                              simp only [Act.put, lzA, lzB, lzC]
                              refine wl_yield (o := ⟨_, _, _, _, _, _⟩) (.string s) (yl_assign (by rfl) _ rfl _ rfl) ?_
                              simp only [Act.put, lzA, lzB, lzC]
                              refine wpList_nil ?_
                              refine hK28 _ _ ?_
                              clear hK28 K28
                              refine wp_seq_k (fun K29 hK29 => ?_)
                              refine wp_region_lit ?_
                              refine wl_yield (o := ⟨_, _, _, _, _, _⟩) (.slice pS M.length cS) (yl_move (by rfl) _ rfl _ rfl) ?_
                              simp only [Act.put, lzA, lzB, lzC]
                              refine wl_yield (o := ⟨_, _, _, _, _, _⟩) (.int .i64 (M.length : Nat)) (yt_lenT (by rfl) _ rfl pS M.length cS rfl) ?_
                              simp only [Act.put, lzA, lzB, lzC]
                              refine wl_yield (o := ⟨_, _, _, _, _, _⟩) (.bool true) (yt_eqlI (by rfl) _ _ _ rfl ((M.length : Nat) : Int) 0 true rfl rfl (decide_eq_true (by omega))) ?_
                              simp only [Act.put, lzA, lzB, lzC]
                              refine wl_yield (o := ⟨_, _, _, _, _, _⟩) (.bool true) (yl_move (by rfl) _ rfl _ rfl) ?_
                              simp only [Act.put, lzA, lzB, lzC]
                              with_reducible refine wl_yield (o := ⟨_, _, _, _, _, _⟩) undef (yl_undef (by kernel_rfl)) ?_
                              simp only [Act.put, lzA, lzB, lzC]
                              with_reducible refine wl_yield (o := ⟨_, _, _, _, _, _⟩) undef (yl_undef (by kernel_rfl)) ?_
                              simp only [Act.put, lzA, lzB, lzC]
                              with_reducible refine wl_yield (o := ⟨_, _, _, _, _, _⟩) undef (yl_undef (by kernel_rfl)) ?_
                              simp only [Act.put, lzA, lzB, lzC]
                              with_reducible refine wl_yield (o := ⟨_, _, _, _, _, _⟩) undef (yl_undef (by kernel_rfl)) ?_
                              simp only [Act.put, lzA, lzB, lzC]
                              with_reducible refine wl_yield (o := ⟨_, _, _, _, _, _⟩) undef (yl_undef (by kernel_rfl)) ?_
                              simp only [Act.put, lzA, lzB, lzC]
                              with_reducible refine wl_yield (o := ⟨_, _, _, _, _, _⟩) undef (yl_undef (by kernel_rfl)) ?_
                              simp only [Act.put, lzA, lzB, lzC]
                              with_reducible refine wl_yield (o := ⟨_, _, _, _, _, _⟩) undef (yl_undef (by kernel_rfl)) ?_
                              simp only [Act.put, lzA, lzB, lzC]
                              with_reducible refine wl_yield (o := ⟨_, _, _, _, _, _⟩) undef (yl_undef (by kernel_rfl)) ?_
                              simp only [Act.put, lzA, lzB, lzC]
                              refine wl_yield (o := ⟨_, _, _, _, _, _⟩) (.bool true) (yl_pickT (by rfl) _ _ _ rfl rfl _ rfl) ?_
                              simp only [Act.put, lzA, lzB, lzC]
                              refine wl_yield (o := ⟨_, _, _, _, _, _⟩) (.bool true) (yl_move (by rfl) _ rfl _ rfl) ?_
                              simp only [Act.put, lzA, lzB, lzC]
                              refine wl_yield (o := ⟨_, _, _, _, _, _⟩) (.bool true) (yl_move (by rfl) _ rfl _ rfl) ?_
                              simp only [Act.put, lzA, lzB, lzC]
                              refine wl_yield (o := ⟨_, _, _, _, _, _⟩) (.bool false) (yl_not (by rfl) _ _ rfl true rfl) ?_
                              simp only [Act.put, lzA, lzB, lzC]
                              refine wl_yield (o := ⟨_, _, _, _, _, _⟩) (.bool false) (yl_move (by rfl) _ rfl _ rfl) ?_
                              simp only [Act.put, lzA, lzB, lzC]
                              refine wl_yield (o := ⟨_, _, _, _, _, _⟩) (.string s) (yl_move (by rfl) _ rfl _ rfl) ?_
                              simp only [Act.put, lzA, lzB, lzC]
                              refine wl_yield (o := ⟨_, _, _, _, _, _⟩) (.string t) (yl_move (by rfl) _ rfl _ rfl) ?_
                              simp only [Act.put, lzA, lzB, lzC]
                              refine wl_yield (o := ⟨_, _, _, _, _, _⟩) (.bool false) (yt_lssBA (by rfl) _ _ _ rfl s t false rfl rfl (hb2)) ?_
                              simp only [Act.put, lzA, lzB, lzC]
                              refine wl_yield (o := ⟨_, _, _, _, _, _⟩) (.bool false) (yl_pickF (by rfl) _ _ _ rfl rfl _ rfl) ?_
                              simp only [Act.put, lzA, lzB, lzC]
                              refine wl_yield (o := ⟨_, _, _, _, _, _⟩) (.bool false) (yl_pickT (by rfl) _ _ _ rfl rfl _ rfl) ?_
                              simp only [Act.put, lzA, lzB, lzC]
                              refine wpList_nil ?_
                              refine hK29 _ _ ?_
                              clear hK29 K29
                              refine wp_cond_false rfl ?_
                              refine wp_skip ?_
                              refine hK27 _ _ ?_
                              clear hK27 K27
                              refine wp_region_lit ?_
                              refine wl_yield (o := ⟨_, _, _, _, _, _⟩) (.int .i64 (q : Nat)) (yl_move (by rfl) _ rfl _ rfl) ?_
                              simp only [Act.put, lzA, lzB, lzC]
                              refine wl_yield (o := ⟨_, _, _, _, _, _⟩) (.int .i64 (q + 1 : Nat)) (yt_addI (by rfl) _ _ _ rfl ((q : Nat) : Int) 1 ((q + 1 : Nat) : Int) rfl rfl (by omega) (by omega) (by omega)) ?_
                              simp only [Act.put, lzA, lzB, lzC]
                              refine wl_yield (o := ⟨_, _, _, _, _, _⟩) (.int .i64 (q + 1 : Nat)) (yl_assign (by rfl) _ rfl _ rfl) ?_
                              simp only [Act.put, lzA, lzB, lzC]
                              refine wpList_nil ?_
                              show _ ∧ _
                              go_roundw
                              case rel => exact ⟨q + 1, (some t), rfl, rfl, rfl, by omega, by rw [hst]; unfold stepS; rw [if_neg (by rw [hl, hb]; decide)], D⟩
                              case measure => simp [intOf]; omega
                            · have hb : befS (some t) s = true := hb2
                              refine wp_seq_k (fun K25 hK25 => ?_)
                              refine wp_seq_k (fun K26 hK26 => ?_)
                              refine wp_region_lit ?_
                              refine wl_yield (o := ⟨_, _, _, _, _, _⟩) (.int .i64 (q : Nat)) (yl_move (by rfl) _ rfl _ rfl) ?_
                              simp only [Act.put, lzA, lzB, lzC]
                              refine wl_yield (o := ⟨_, _, _, _, _, _⟩) (.slice (some ⟨gI, oI, none⟩) l.length cap) (yl_move (by rfl) _ rfl _ rfl) ?_
                              simp only [Act.put, lzA, lzB, lzC]
                              refine wl_yield (o := ⟨_, _, _, _, _, _⟩) (.int .i64 (m : Nat)) (yl_move (by rfl) _ rfl _ rfl) ?_
                              simp only [Act.put, lzA, lzB, lzC]
                              refine wl_yield (o := ⟨_, _, _, _, _, _⟩) (.pointer (some ⟨gI, oI + m * 4, none⟩)) (yt_atQ (by rfl) _ _ rfl gI oI _ _ m rfl rfl (hlt)) ?_
                              simp only [Act.put, lzA, lzB, lzC]
                              refine wl_yield (o := ⟨_, _, _, _, _, _⟩) (.pointer (some ⟨gI, oI + m * 4 + 3, none⟩)) (yt_fSt3 (by rfl) _ rfl gI (oI + m * 4) rfl) ?_
                              simp only [Act.put, lzA, lzB, lzC]
                              refine wl_yield (o := ⟨_, _, _, _, _, _⟩) (.slice (some ⟨gT, oT, none⟩) S.strs.length cz) (yt_ldLs (by rfl) _ rfl _ _ rfl _ _ _ (fun _ h => by subst h; exact (cellD _ D _).trans C3)) ?_
                              simp only [Act.put, lzA, lzB, lzC]
                              refine wl_yield (o := ⟨_, _, _, _, _, _⟩) (.int .i64 (S.strs.length : Nat)) (yt_lenT (by rfl) _ rfl (some ⟨gT, oT, none⟩) S.strs.length cz rfl) ?_
                              simp only [Act.put, lzA, lzB, lzC]
                              refine wl_yield (o := ⟨_, _, _, _, _, _⟩) (.bool true) (yt_lssI (by rfl) _ _ _ rfl ((q : Nat) : Int) ((S.strs.length : Nat) : Int) true rfl rfl (decide_eq_true (by omega))) ?_
                              simp only [Act.put, lzA, lzB, lzC]
                              refine wpList_nil ?_
                              refine hK26 _ _ ?_
                              clear hK26 K26
                              refine wp_cond_true rfl ?_
                              refine wp_skip ?_
                              refine hK25 _ _ ?_
                              clear hK25 K25
                              refine wp_seq_k (fun K27 hK27 => ?_)
                              refine wp_block ?_
                              refine wp_seq_k (fun K28 hK28 => ?_)
                              refine wp_region_lit ?_
                              refine wl_yield (o := ⟨_, _, _, _, _, _⟩) (.slice (some ⟨gI, oI, none⟩) l.length cap) (yl_move (by rfl) _ rfl _ rfl) ?_
                              simp only [Act.put, lzA, lzB, lzC]
                              refine wl_yield (o := ⟨_, _, _, _, _, _⟩) (.int .i64 (m : Nat)) (yl_move (by rfl) _ rfl _ rfl) ?_
                              simp only [Act.put, lzA, lzB, lzC]
                              refine wl_yield (o := ⟨_, _, _, _, _, _⟩) (.pointer (some ⟨gI, oI + m * 4, none⟩)) (yt_atQ (by rfl) _ _ rfl gI oI _ _ m rfl rfl (hlt)) ?_
                              simp only [Act.put, lzA, lzB, lzC]
                              refine wl_yield (o := ⟨_, _, _, _, _, _⟩) (.pointer (some ⟨gI, oI + m * 4 + 3, none⟩)) (yt_fSt3 (by rfl) _ rfl gI (oI + m * 4) rfl) ?_
                              simp only [Act.put, lzA, lzB, lzC]
                              refine wl_yield (o := ⟨_, _, _, _, _, _⟩) (.slice (some ⟨gT, oT, none⟩) S.strs.length cz) (yt_ldLs (by rfl) _ rfl _ _ rfl _ _ _ (fun _ h => by subst h; exact (cellD _ D _).trans C3)) ?_
                              simp only [Act.put, lzA, lzB, lzC]
                              refine wl_yield (o := ⟨_, _, _, _, _, _⟩) (.int .i64 (q : Nat)) (yl_move (by rfl) _ rfl _ rfl) ?_
                              simp only [Act.put, lzA, lzB, lzC]
                              refine wl_yield (o := ⟨_, _, _, _, _, _⟩) (.pointer (some ⟨gT, oT + q * 1, none⟩)) (yt_atT (by rfl) _ _ rfl gT oT _ _ q rfl rfl (hlq)) ?_
                              simp only [Act.put, lzA, lzB, lzC]
                              refine wl_yield (o := ⟨_, _, _, _, _, _⟩) (.string s) (yt_ldS (by rfl) _ rfl _ _ rfl _ (fun _ h => by subst h; rw [Nat.mul_one]; exact (cellT _ D _).trans T0)) ?_
                              simp only [Act.put, lzA, lzB, lzC]
                              refine wl_yield (o := ⟨_, _, _, _, _, _⟩) (.string s) (yl_assign (by rfl) _ rfl _ rfl) ?_
                              simp only [Act.put, lzA, lzB, lzC]
                              refine wpList_nil ?_
                              refine hK28 _ _ ?_
                              clear hK28 K28
                              refine wp_seq_k (fun K29 hK29 => ?_)
                              refine wp_region_lit ?_
                              refine wl_yield (o := ⟨_, _, _, _, _, _⟩) (.slice pS M.length cS) (yl_move (by rfl) _ rfl _ rfl) ?_
                              simp only [Act.put, lzA, lzB, lzC]
                              refine wl_yield (o := ⟨_, _, _, _, _, _⟩) (.int .i64 (M.length : Nat)) (yt_lenT (by rfl) _ rfl pS M.length cS rfl) ?_
                              simp only [Act.put, lzA, lzB, lzC]
                              refine wl_yield (o := ⟨_, _, _, _, _, _⟩) (.bool true) (yt_eqlI (by rfl) _ _ _ rfl ((M.length : Nat) : Int) 0 true rfl rfl (decide_eq_true (by omega))) ?_
                              simp only [Act.put, lzA, lzB, lzC]
                              refine wl_yield (o := ⟨_, _, _, _, _, _⟩) (.bool true) (yl_move (by rfl) _ rfl _ rfl) ?_
                              simp only [Act.put, lzA, lzB, lzC]
                              with_reducible refine wl_yield (o := ⟨_, _, _, _, _, _⟩) undef (yl_undef (by kernel_rfl)) ?_
                              simp only [Act.put, lzA, lzB, lzC]
                              with_reducible refine wl_yield (o := ⟨_, _, _, _, _, _⟩) undef (yl_undef (by kernel_rfl)) ?_
                              simp only [Act.put, lzA, lzB, lzC]
                              with_reducible refine wl_yield (o := ⟨_, _, _, _, _, _⟩) undef (yl_undef (by kernel_rfl)) ?_
                              simp only [Act.put, lzA, lzB, lzC]
                              with_reducible refine wl_yield (o := ⟨_, _, _, _, _, _⟩) undef (yl_undef (by kernel_rfl)) ?_
                              simp only [Act.put, lzA, lzB, lzC]
                              with_reducible refine wl_yield (o := ⟨_, _, _, _, _, _⟩) undef (yl_undef (by kernel_rfl)) ?_
                              simp only [Act.put, lzA, lzB, lzC]
                              with_reducible refine wl_yield (o := ⟨_, _, _, _, _, _⟩) undef (yl_undef (by kernel_rfl)) ?_
                              simp only [Act.put, lzA, lzB, lzC]
                              with_reducible refine wl_yield (o := ⟨_, _, _, _, _, _⟩) undef (yl_undef (by kernel_rfl)) ?_
                              simp only [Act.put, lzA, lzB, lzC]
                              with_reducible refine wl_yield (o := ⟨_, _, _, _, _, _⟩) undef (yl_undef (by kernel_rfl)) ?_
                              simp only [Act.put, lzA, lzB, lzC]
                              refine wl_yield (o := ⟨_, _, _, _, _, _⟩) (.bool true) (yl_pickT (by rfl) _ _ _ rfl rfl _ rfl) ?_
                              simp only [Act.put, lzA, lzB, lzC]
                              refine wl_yield (o := ⟨_, _, _, _, _, _⟩) (.bool true) (yl_move (by rfl) _ rfl _ rfl) ?_
                              simp only [Act.put, lzA, lzB, lzC]
                              refine wl_yield (o := ⟨_, _, _, _, _, _⟩) (.bool true) (yl_move (by rfl) _ rfl _ rfl) ?_
                              simp only [Act.put, lzA, lzB, lzC]
                              refine wl_yield (o := ⟨_, _, _, _, _, _⟩) (.bool false) (yl_not (by rfl) _ _ rfl true rfl) ?_
                              simp only [Act.put, lzA, lzB, lzC]
                              refine wl_yield (o := ⟨_, _, _, _, _, _⟩) (.bool false) (yl_move (by rfl) _ rfl _ rfl) ?_
                              simp only [Act.put, lzA, lzB, lzC]
                              refine wl_yield (o := ⟨_, _, _, _, _, _⟩) (.string s) (yl_move (by rfl) _ rfl _ rfl) ?_
                              simp only [Act.put, lzA, lzB, lzC]
                              refine wl_yield (o := ⟨_, _, _, _, _, _⟩) (.string t) (yl_move (by rfl) _ rfl _ rfl) ?_
                              simp only [Act.put, lzA, lzB, lzC]
                              refine wl_yield (o := ⟨_, _, _, _, _, _⟩) (.bool true) (yt_lssBA (by rfl) _ _ _ rfl s t true rfl rfl (hb2)) ?_
                              simp only [Act.put, lzA, lzB, lzC]
                              refine wl_yield (o := ⟨_, _, _, _, _, _⟩) (.bool true) (yl_pickF (by rfl) _ _ _ rfl rfl _ rfl) ?_
                              simp only [Act.put, lzA, lzB, lzC]
                              refine wl_yield (o := ⟨_, _, _, _, _, _⟩) (.bool true) (yl_pickT (by rfl) _ _ _ rfl rfl _ rfl) ?_
                              simp only [Act.put, lzA, lzB, lzC]
                              refine wpList_nil ?_
                              refine hK29 _ _ ?_
                              clear hK29 K29
                              refine wp_cond_true rfl ?_
                              refine wp_seq_k (fun K30 hK30 => ?_)
                              refine wp_region_lit ?_
                              refine wl_yield (o := ⟨_, _, _, _, _, _⟩) (.string s) (yl_move (by rfl) _ rfl _ rfl) ?_
                              simp only [Act.put, lzA, lzB, lzC]
                              refine wl_yield (o := ⟨_, _, _, _, _, _⟩) (.string s) (yl_assign (by rfl) _ rfl _ rfl) ?_
                              simp only [Act.put, lzA, lzB, lzC]
                              refine wpList_nil ?_
                              refine hK30 _ _ ?_
                              clear hK30 K30
                              refine wp_region_lit ?_
                              refine wl_yield (o := ⟨_, _, _, _, _, _⟩) (.bool true) (yl_assign (by rfl) _ rfl _ rfl) ?_
                              simp only [Act.put, lzA, lzB, lzC]
                              refine wpList_nil ?_
                              refine hK27 _ _ ?_
                              clear hK27 K27
                              refine wp_region_lit ?_
                              refine wl_yield (o := ⟨_, _, _, _, _, _⟩) (.int .i64 (q : Nat)) (yl_move (by rfl) _ rfl _ rfl) ?_
                              simp only [Act.put, lzA, lzB, lzC]
                              refine wl_yield (o := ⟨_, _, _, _, _, _⟩) (.int .i64 (q + 1 : Nat)) (yt_addI (by rfl) _ _ _ rfl ((q : Nat) : Int) 1 ((q + 1 : Nat) : Int) rfl rfl (by omega) (by omega) (by omega)) ?_
                              simp only [Act.put, lzA, lzB, lzC]
                              refine wl_yield (o := ⟨_, _, _, _, _, _⟩) (.int .i64 (q + 1 : Nat)) (yl_assign (by rfl) _ rfl _ rfl) ?_
                              simp only [Act.put, lzA, lzB, lzC]
                              refine wpList_nil ?_
                              show _ ∧ _
                              go_roundw
                              case rel => exact ⟨q + 1, (some s), rfl, rfl, rfl, by omega, by rw [hst]; unfold stepS; rw [if_pos (by rw [hl, hb]; rfl)], D⟩
                              case measure => simp [intOf]; omega
                        · obtain ⟨gS, hpS⟩ := rowS_some RS h0
                          subst hpS
                          have cellS0 := fun (W : World) (D : wE.grownBy W none) => ((RS.on (below_none D)).own).at_ (M.length - 1) (by omega)
                          have hlx := late_ne (s := s) h0
                          cases hl2 : Op.bytesLess (M.getD (M.length - 1) ⟨#[]⟩).toList s.toList
                          · have hl : lateS M s = false := hlx.trans hl2
                            refine wp_seq_k (fun K25 hK25 => ?_)
                            refine wp_seq_k (fun K26 hK26 => ?_)
                            refine wp_region_lit ?_
                            refine wl_yield (o := ⟨_, _, _, _, _, _⟩) (.int .i64 (q : Nat)) (yl_move (by rfl) _ rfl _ rfl) ?_
                            simp only [Act.put, lzA, lzB, lzC]
                            refine wl_yield (o := ⟨_, _, _, _, _, _⟩) (.slice (some ⟨gI, oI, none⟩) l.length cap) (yl_move (by rfl) _ rfl _ rfl) ?_
                            simp only [Act.put, lzA, lzB, lzC]
                            refine wl_yield (o := ⟨_, _, _, _, _, _⟩) (.int .i64 (m : Nat)) (yl_move (by rfl) _ rfl _ rfl) ?_
                            simp only [Act.put, lzA, lzB, lzC]
                            refine wl_yield (o := ⟨_, _, _, _, _, _⟩) (.pointer (some ⟨gI, oI + m * 4, none⟩)) (yt_atQ (by rfl) _ _ rfl gI oI _ _ m rfl rfl (hlt)) ?_
                            simp only [Act.put, lzA, lzB, lzC]
                            refine wl_yield (o := ⟨_, _, _, _, _, _⟩) (.pointer (some ⟨gI, oI + m * 4 + 3, none⟩)) (yt_fSt3 (by rfl) _ rfl gI (oI + m * 4) rfl) ?_
                            simp only [Act.put, lzA, lzB, lzC]
                            refine wl_yield (o := ⟨_, _, _, _, _, _⟩) (.slice (some ⟨gT, oT, none⟩) S.strs.length cz) (yt_ldLs (by rfl) _ rfl _ _ rfl _ _ _ (fun _ h => by subst h; exact (cellD _ D _).trans C3)) ?_
                            simp only [Act.put, lzA, lzB, lzC]
                            refine wl_yield (o := ⟨_, _, _, _, _, _⟩) (.int .i64 (S.strs.length : Nat)) (yt_lenT (by rfl) _ rfl (some ⟨gT, oT, none⟩) S.strs.length cz rfl) ?_
                            simp only [Act.put, lzA, lzB, lzC]
                            refine wl_yield (o := ⟨_, _, _, _, _, _⟩) (.bool true) (yt_lssI (by rfl) _ _ _ rfl ((q : Nat) : Int) ((S.strs.length : Nat) : Int) true rfl rfl (decide_eq_true (by omega))) ?_
                            simp only [Act.put, lzA, lzB, lzC]
                            refine wpList_nil ?_
                            refine hK26 _ _ ?_
                            clear hK26 K26
                            refine wp_cond_true rfl ?_
                            refine wp_skip ?_
                            refine hK25 _ _ ?_
                            clear hK25 K25
                            refine wp_seq_k (fun K27 hK27 => ?_)
                            refine wp_block ?_
                            refine wp_seq_k (fun K28 hK28 => ?_)
                            refine wp_region_lit ?_
                            refine wl_yield (o := ⟨_, _, _, _, _, _⟩) (.slice (some ⟨gI, oI, none⟩) l.length cap) (yl_move (by rfl) _ rfl _ rfl) ?_
                            simp only [Act.put, lzA, lzB, lzC]
                            refine wl_yield (o := ⟨_, _, _, _, _, _⟩) (.int .i64 (m : Nat)) (yl_move (by rfl) _ rfl _ rfl) ?_
                            simp only [Act.put, lzA, lzB, lzC]
                            refine wl_yield (o := ⟨_, _, _, _, _, _⟩) (.pointer (some ⟨gI, oI + m * 4, none⟩)) (yt_atQ (by rfl) _ _ rfl gI oI _ _ m rfl rfl (hlt)) ?_
                            simp only [Act.put, lzA, lzB, lzC]
                            refine wl_yield (o := ⟨_, _, _, _, _, _⟩) (.pointer (some ⟨gI, oI + m * 4 + 3, none⟩)) (yt_fSt3 (by rfl) _ rfl gI (oI + m * 4) rfl) ?_
                            simp only [Act.put, lzA, lzB, lzC]
                            refine wl_yield (o := ⟨_, _, _, _, _, _⟩) (.slice (some ⟨gT, oT, none⟩) S.strs.length cz) (yt_ldLs (by rfl) _ rfl _ _ rfl _ _ _ (fun _ h => by subst h; exact (cellD _ D _).trans C3)) ?_
                            simp only [Act.put, lzA, lzB, lzC]
                            refine wl_yield (o := ⟨_, _, _, _, _, _⟩) (.int .i64 (q : Nat)) (yl_move (by rfl) _ rfl _ rfl) ?_
                            simp only [Act.put, lzA, lzB, lzC]
                            refine wl_yield (o := ⟨_, _, _, _, _, _⟩) (.pointer (some ⟨gT, oT + q * 1, none⟩)) (yt_atT (by rfl) _ _ rfl gT oT _ _ q rfl rfl (hlq)) ?_
                            simp only [Act.put, lzA, lzB, lzC]
                            refine wl_yield (o := ⟨_, _, _, _, _, _⟩) (.string s) (yt_ldS (by rfl) _ rfl _ _ rfl _ (fun _ h => by subst h; rw [Nat.mul_one]; exact (cellT _ D _).trans T0)) ?_
                            simp only [Act.put, lzA, lzB, lzC]
                            refine wl_yield (o := ⟨_, _, _, _, _, _⟩) (.string s) (yl_assign (by rfl) _ rfl _ rfl) ?_
                            simp only [Act.put, lzA, lzB, lzC]
                            refine wpList_nil ?_
                            refine hK28 _ _ ?_
                            clear hK28 K28
                            refine wp_seq_k (fun K29 hK29 => ?_)
                            refine wp_region_lit ?_
                            refine wl_yield (o := ⟨_, _, _, _, _, _⟩) (.slice (some ⟨gS, 0, none⟩) M.length cS) (yl_move (by rfl) _ rfl _ rfl) ?_
                            simp only [Act.put, lzA, lzB, lzC]
                            refine wl_yield (o := ⟨_, _, _, _, _, _⟩) (.int .i64 (M.length : Nat)) (yt_lenT (by rfl) _ rfl (some ⟨gS, 0, none⟩) M.length cS rfl) ?_
                            simp only [Act.put, lzA, lzB, lzC]
                            refine wl_yield (o := ⟨_, _, _, _, _, _⟩) (.bool false) (yt_eqlI (by rfl) _ _ _ rfl ((M.length : Nat) : Int) 0 false rfl rfl (decide_eq_false (by omega))) ?_
                            simp only [Act.put, lzA, lzB, lzC]
                            refine wl_yield (o := ⟨_, _, _, _, _, _⟩) (.bool false) (yl_move (by rfl) _ rfl _ rfl) ?_
                            simp only [Act.put, lzA, lzB, lzC]
                            refine wl_yield (o := ⟨_, _, _, _, _, _⟩) (.string s) (yl_move (by rfl) _ rfl _ rfl) ?_
                            simp only [Act.put, lzA, lzB, lzC]
                            refine wl_yield (o := ⟨_, _, _, _, _, _⟩) (.slice (some ⟨gS, 0, none⟩) M.length cS) (yl_move (by rfl) _ rfl _ rfl) ?_
                            simp only [Act.put, lzA, lzB, lzC]
                            refine wl_yield (o := ⟨_, _, _, _, _, _⟩) (.slice (some ⟨gS, 0, none⟩) M.length cS) (yl_move (by rfl) _ rfl _ rfl) ?_
                            simp only [Act.put, lzA, lzB, lzC]
                            refine wl_yield (o := ⟨_, _, _, _, _, _⟩) (.int .i64 (M.length : Nat)) (yt_lenT (by rfl) _ rfl (some ⟨gS, 0, none⟩) M.length cS rfl) ?_
                            simp only [Act.put, lzA, lzB, lzC]
                            refine wl_yield (o := ⟨_, _, _, _, _, _⟩) (.int .i64 (M.length - 1 : Nat)) (yt_subI (by rfl) _ _ _ rfl ((M.length : Nat) : Int) 1 ((M.length - 1 : Nat) : Int) rfl rfl (by omega) (by omega) (by omega)) ?_
                            simp only [Act.put, lzA, lzB, lzC]
                            refine wl_yield (o := ⟨_, _, _, _, _, _⟩) (.pointer (some ⟨gS, 0 + (M.length - 1) * 1, none⟩)) (yt_atT (by rfl) _ _ rfl gS 0 _ _ (M.length - 1) rfl rfl (by omega)) ?_
                            simp only [Act.put, lzA, lzB, lzC]
                            refine wl_yield (o := ⟨_, _, _, _, _, _⟩) (.string (M.getD (M.length - 1) ⟨#[]⟩)) (yt_ldS (by rfl) _ rfl _ _ rfl _ (fun _ h => by subst h; exact cellS0 _ D)) ?_
                            simp only [Act.put, lzA, lzB, lzC]
                            refine wl_yield (o := ⟨_, _, _, _, _, _⟩) (.bool false) (yt_gtrBA (by rfl) _ _ _ rfl s (M.getD (M.length - 1) ⟨#[]⟩) false rfl rfl (hl2)) ?_
                            simp only [Act.put, lzA, lzB, lzC]
                            refine wl_yield (o := ⟨_, _, _, _, _, _⟩) (.bool false) (yl_pickF (by rfl) _ _ _ rfl rfl _ rfl) ?_
                            simp only [Act.put, lzA, lzB, lzC]
                            refine wl_yield (o := ⟨_, _, _, _, _, _⟩) (.bool false) (yl_move (by rfl) _ rfl _ rfl) ?_
                            simp only [Act.put, lzA, lzB, lzC]
                            with_reducible refine wl_yield (o := ⟨_, _, _, _, _, _⟩) undef (yl_undef (by kernel_rfl)) ?_
                            simp only [Act.put, lzA, lzB, lzC]
                            with_reducible refine wl_yield (o := ⟨_, _, _, _, _, _⟩) undef (yl_undef (by kernel_rfl)) ?_
                            simp only [Act.put, lzA, lzB, lzC]
                            with_reducible refine wl_yield (o := ⟨_, _, _, _, _, _⟩) undef (yl_undef (by kernel_rfl)) ?_
                            simp only [Act.put, lzA, lzB, lzC]
                            with_reducible refine wl_yield (o := ⟨_, _, _, _, _, _⟩) undef (yl_undef (by kernel_rfl)) ?_
                            simp only [Act.put, lzA, lzB, lzC]
                            with_reducible refine wl_yield (o := ⟨_, _, _, _, _, _⟩) undef (yl_undef (by kernel_rfl)) ?_
                            simp only [Act.put, lzA, lzB, lzC]
                            with_reducible refine wl_yield (o := ⟨_, _, _, _, _, _⟩) undef (yl_undef (by kernel_rfl)) ?_
                            simp only [Act.put, lzA, lzB, lzC]
                            with_reducible refine wl_yield (o := ⟨_, _, _, _, _, _⟩) undef (yl_undef (by kernel_rfl)) ?_
                            simp only [Act.put, lzA, lzB, lzC]
                            refine wl_yield (o := ⟨_, _, _, _, _, _⟩) (.bool false) (yl_pickF (by rfl) _ _ _ rfl rfl _ rfl) ?_
                            simp only [Act.put, lzA, lzB, lzC]
                            refine wpList_nil ?_
                            refine hK29 _ _ ?_
                            clear hK29 K29
                            refine wp_cond_false rfl ?_
                            refine wp_skip ?_
                            refine hK27 _ _ ?_
                            clear hK27 K27
                            refine wp_region_lit ?_
                            refine wl_yield (o := ⟨_, _, _, _, _, _⟩) (.int .i64 (q : Nat)) (yl_move (by rfl) _ rfl _ rfl) ?_
                            simp only [Act.put, lzA, lzB, lzC]
                            refine wl_yield (o := ⟨_, _, _, _, _, _⟩) (.int .i64 (q + 1 : Nat)) (yt_addI (by rfl) _ _ _ rfl ((q : Nat) : Int) 1 ((q + 1 : Nat) : Int) rfl rfl (by omega) (by omega) (by omega)) ?_
                            simp only [Act.put, lzA, lzB, lzC]
                            refine wl_yield (o := ⟨_, _, _, _, _, _⟩) (.int .i64 (q + 1 : Nat)) (yl_assign (by rfl) _ rfl _ rfl) ?_
                            simp only [Act.put, lzA, lzB, lzC]
                            refine wpList_nil ?_
                            show _ ∧ _
                            go_roundw
                            case rel => exact ⟨q + 1, Y, rfl, rfl, rfl, by omega, by rw [hst]; unfold stepS; rw [if_neg (by rw [hl]; simp)], D⟩
                            case measure => simp [intOf]; omega
                          · have hl : lateS M s = true := hlx.trans hl2
                            rcases Y with _ | t
                            · have hb : befS none s = true := rfl
                              refine wp_seq_k (fun K25 hK25 => ?_)
                              refine wp_seq_k (fun K26 hK26 => ?_)
                              refine wp_region_lit ?_
                              refine wl_yield (o := ⟨_, _, _, _, _, _⟩) (.int .i64 (q : Nat)) (yl_move (by rfl) _ rfl _ rfl) ?_
                              simp only [Act.put, lzA, lzB, lzC]
                              refine wl_yield (o := ⟨_, _, _, _, _, _⟩) (.slice (some ⟨gI, oI, none⟩) l.length cap) (yl_move (by rfl) _ rfl _ rfl) ?_
                              simp only [Act.put, lzA, lzB, lzC]
                              refine wl_yield (o := ⟨_, _, _, _, _, _⟩) (.int .i64 (m : Nat)) (yl_move (by rfl) _ rfl _ rfl) ?_
                              simp only [Act.put, lzA, lzB, lzC]
                              refine wl_yield (o := ⟨_, _, _, _, _, _⟩) (.pointer (some ⟨gI, oI + m * 4, none⟩)) (yt_atQ (by rfl) _ _ rfl gI oI _ _ m rfl rfl (hlt)) ?_
                              simp only [Act.put, lzA, lzB, lzC]
                              refine wl_yield (o := ⟨_, _, _, _, _, _⟩) (.pointer (some ⟨gI, oI + m * 4 + 3, none⟩)) (yt_fSt3 (by rfl) _ rfl gI (oI + m * 4) rfl) ?_
                              simp only [Act.put, lzA, lzB, lzC]
                              refine wl_yield (o := ⟨_, _, _, _, _, _⟩) (.slice (some ⟨gT, oT, none⟩) S.strs.length cz) (yt_ldLs (by rfl) _ rfl _ _ rfl _ _ _ (fun _ h => by subst h; exact (cellD _ D _).trans C3)) ?_
                              simp only [Act.put, lzA, lzB, lzC]
                              refine wl_yield (o := ⟨_, _, _, _, _, _⟩) (.int .i64 (S.strs.length : Nat)) (yt_lenT (by rfl) _ rfl (some ⟨gT, oT, none⟩) S.strs.length cz rfl) ?_
                              simp only [Act.put, lzA, lzB, lzC]
                              refine wl_yield (o := ⟨_, _, _, _, _, _⟩) (.bool true) (yt_lssI (by rfl) _ _ _ rfl ((q : Nat) : Int) ((S.strs.length : Nat) : Int) true rfl rfl (decide_eq_true (by omega))) ?_
                              simp only [Act.put, lzA, lzB, lzC]
                              refine wpList_nil ?_
                              refine hK26 _ _ ?_
                              clear hK26 K26
                              refine wp_cond_true rfl ?_
                              refine wp_skip ?_
                              refine hK25 _ _ ?_
                              clear hK25 K25
                              refine wp_seq_k (fun K27 hK27 => ?_)
                              refine wp_block ?_
                              refine wp_seq_k (fun K28 hK28 => ?_)
                              refine wp_region_lit ?_
                              refine wl_yield (o := ⟨_, _, _, _, _, _⟩) (.slice (some ⟨gI, oI, none⟩) l.length cap) (yl_move (by rfl) _ rfl _ rfl) ?_
                              simp only [Act.put, lzA, lzB, lzC]
                              refine wl_yield (o := ⟨_, _, _, _, _, _⟩) (.int .i64 (m : Nat)) (yl_move (by rfl) _ rfl _ rfl) ?_
                              simp only [Act.put, lzA, lzB, lzC]
                              refine wl_yield (o := ⟨_, _, _, _, _, _⟩) (.pointer (some ⟨gI, oI + m * 4, none⟩)) (yt_atQ (by rfl) _ _ rfl gI oI _ _ m rfl rfl (hlt)) ?_
                              simp only [Act.put, lzA, lzB, lzC]
                              refine wl_yield (o := ⟨_, _, _, _, _, _⟩) (.pointer (some ⟨gI, oI + m * 4 + 3, none⟩)) (yt_fSt3 (by rfl) _ rfl gI (oI + m * 4) rfl) ?_
                              simp only [Act.put, lzA, lzB, lzC]
                              refine wl_yield (o := ⟨_, _, _, _, _, _⟩) (.slice (some ⟨gT, oT, none⟩) S.strs.length cz) (yt_ldLs (by rfl) _ rfl _ _ rfl _ _ _ (fun _ h => by subst h; exact (cellD _ D _).trans C3)) ?_
                              simp only [Act.put, lzA, lzB, lzC]
                              refine wl_yield (o := ⟨_, _, _, _, _, _⟩) (.int .i64 (q : Nat)) (yl_move (by rfl) _ rfl _ rfl) ?_
                              simp only [Act.put, lzA, lzB, lzC]
                              refine wl_yield (o := ⟨_, _, _, _, _, _⟩) (.pointer (some ⟨gT, oT + q * 1, none⟩)) (yt_atT (by rfl) _ _ rfl gT oT _ _ q rfl rfl (hlq)) ?_
                              simp only [Act.put, lzA, lzB, lzC]
                              refine wl_yield (o := ⟨_, _, _, _, _, _⟩) (.string s) (yt_ldS (by rfl) _ rfl _ _ rfl _ (fun _ h => by subst h; rw [Nat.mul_one]; exact (cellT _ D _).trans T0)) ?_
                              simp only [Act.put, lzA, lzB, lzC]
                              refine wl_yield (o := ⟨_, _, _, _, _, _⟩) (.string s) (yl_assign (by rfl) _ rfl _ rfl) ?_
                              simp only [Act.put, lzA, lzB, lzC]
                              refine wpList_nil ?_
                              refine hK28 _ _ ?_
                              clear hK28 K28
                              refine wp_seq_k (fun K29 hK29 => ?_)
                              refine wp_region_lit ?_
                              refine wl_yield (o := ⟨_, _, _, _, _, _⟩) (.slice (some ⟨gS, 0, none⟩) M.length cS) (yl_move (by rfl) _ rfl _ rfl) ?_
                              simp only [Act.put, lzA, lzB, lzC]
                              refine wl_yield (o := ⟨_, _, _, _, _, _⟩) (.int .i64 (M.length : Nat)) (yt_lenT (by rfl) _ rfl (some ⟨gS, 0, none⟩) M.length cS rfl) ?_
                              simp only [Act.put, lzA, lzB, lzC]
                              refine wl_yield (o := ⟨_, _, _, _, _, _⟩) (.bool false) (yt_eqlI (by rfl) _ _ _ rfl ((M.length : Nat) : Int) 0 false rfl rfl (decide_eq_false (by omega))) ?_
                              simp only [Act.put, lzA, lzB, lzC]
                              refine wl_yield (o := ⟨_, _, _, _, _, _⟩) (.bool false) (yl_move (by rfl) _ rfl _ rfl) ?_
                              simp only [Act.put, lzA, lzB, lzC]
                              refine wl_yield (o := ⟨_, _, _, _, _, _⟩) (.string s) (yl_move (by rfl) _ rfl _ rfl) ?_
                              simp only [Act.put, lzA, lzB, lzC]
                              refine wl_yield (o := ⟨_, _, _, _, _, _⟩) (.slice (some ⟨gS, 0, none⟩) M.length cS) (yl_move (by rfl) _ rfl _ rfl) ?_
                              simp only [Act.put, lzA, lzB, lzC]
                              refine wl_yield (o := ⟨_, _, _, _, _, _⟩) (.slice (some ⟨gS, 0, none⟩) M.length cS) (yl_move (by rfl) _ rfl _ rfl) ?_
                              simp only [Act.put, lzA, lzB, lzC]
                              refine wl_yield (o := ⟨_, _, _, _, _, _⟩) (.int .i64 (M.length : Nat)) (yt_lenT (by rfl) _ rfl (some ⟨gS, 0, none⟩) M.length cS rfl) ?_
                              simp only [Act.put, lzA, lzB, lzC]
                              refine wl_yield (o := ⟨_, _, _, _, _, _⟩) (.int .i64 (M.length - 1 : Nat)) (yt_subI (by rfl) _ _ _ rfl ((M.length : Nat) : Int) 1 ((M.length - 1 : Nat) : Int) rfl rfl (by omega) (by omega) (by omega)) ?_
                              simp only [Act.put, lzA, lzB, lzC]
                              refine wl_yield (o := ⟨_, _, _, _, _, _⟩) (.pointer (some ⟨gS, 0 + (M.length - 1) * 1, none⟩)) (yt_atT (by rfl) _ _ rfl gS 0 _ _ (M.length - 1) rfl rfl (by omega)) ?_
                              simp only [Act.put, lzA, lzB, lzC]
                              refine wl_yield (o := ⟨_, _, _, _, _, _⟩) (.string (M.getD (M.length - 1) ⟨#[]⟩)) (yt_ldS (by rfl) _ rfl _ _ rfl _ (fun _ h => by subst h; exact cellS0 _ D)) ?_
                              simp only [Act.put, lzA, lzB, lzC]
                              refine wl_yield (o := ⟨_, _, _, _, _, _⟩) (.bool true) (yt_gtrBA (by rfl) _ _ _ rfl s (M.getD (M.length - 1) ⟨#[]⟩) true rfl rfl (hl2)) ?_
                              simp only [Act.put, lzA, lzB, lzC]
                              refine wl_yield (o := ⟨_, _, _, _, _, _⟩) (.bool true) (yl_pickF (by rfl) _ _ _ rfl rfl _ rfl) ?_
                              simp only [Act.put, lzA, lzB, lzC]
                              refine wl_yield (o := ⟨_, _, _, _, _, _⟩) (.bool true) (yl_move (by rfl) _ rfl _ rfl) ?_
                              simp only [Act.put, lzA, lzB, lzC]
                              refine wl_yield (o := ⟨_, _, _, _, _, _⟩) (.bool false) (yl_move (by rfl) _ rfl _ rfl) ?_
                              simp only [Act.put, lzA, lzB, lzC]
                              refine wl_yield (o := ⟨_, _, _, _, _, _⟩) (.bool true) (yl_not (by rfl) _ _ rfl false rfl) ?_
                              simp only [Act.put, lzA, lzB, lzC]
                              refine wl_yield (o := ⟨_, _, _, _, _, _⟩) (.bool true) (yl_move (by rfl) _ rfl _ rfl) ?_
                              simp only [Act.put, lzA, lzB, lzC]
                              with_reducible refine wl_yield (o := ⟨_, _, _, _, _, _⟩) undef (yl_undef (by kernel_rfl)) ?_
                              simp only [Act.put, lzA, lzB, lzC]
                              with_reducible refine wl_yield (o := ⟨_, _, _, _, _, _⟩) undef (yl_undef (by kernel_rfl)) ?_
                              simp only [Act.put, lzA, lzB, lzC]
                              with_reducible refine wl_yield (o := ⟨_, _, _, _, _, _⟩) undef (yl_undef (by kernel_rfl)) ?_
                              simp only [Act.put, lzA, lzB, lzC]
                              refine wl_yield (o := ⟨_, _, _, _, _, _⟩) (.bool true) (yl_pickT (by rfl) _ _ _ rfl rfl _ rfl) ?_
                              simp only [Act.put, lzA, lzB, lzC]
                              refine wl_yield (o := ⟨_, _, _, _, _, _⟩) (.bool true) (yl_pickT (by rfl) _ _ _ rfl rfl _ rfl) ?_
                              simp only [Act.put, lzA, lzB, lzC]
                              refine wpList_nil ?_
                              refine hK29 _ _ ?_
                              clear hK29 K29
                              refine wp_cond_true rfl ?_
                              refine wp_seq_k (fun K30 hK30 => ?_)
                              refine wp_region_lit ?_
                              refine wl_yield (o := ⟨_, _, _, _, _, _⟩) (.string s) (yl_move (by rfl) _ rfl _ rfl) ?_
                              simp only [Act.put, lzA, lzB, lzC]
                              refine wl_yield (o := ⟨_, _, _, _, _, _⟩) (.string s) (yl_assign (by rfl) _ rfl _ rfl) ?_
                              simp only [Act.put, lzA, lzB, lzC]
                              refine wpList_nil ?_
                              refine hK30 _ _ ?_
                              clear hK30 K30
                              refine wp_region_lit ?_
                              refine wl_yield (o := ⟨_, _, _, _, _, _⟩) (.bool true) (yl_assign (by rfl) _ rfl _ rfl) ?_
                              simp only [Act.put, lzA, lzB, lzC]
                              refine wpList_nil ?_
                              refine hK27 _ _ ?_
                              clear hK27 K27
                              refine wp_region_lit ?_
                              refine wl_yield (o := ⟨_, _, _, _, _, _⟩) (.int .i64 (q : Nat)) (yl_move (by rfl) _ rfl _ rfl) ?_
                              simp only [Act.put, lzA, lzB, lzC]
                              refine wl_yield (o := ⟨_, _, _, _, _, _⟩) (.int .i64 (q + 1 : Nat)) (yt_addI (by rfl) _ _ _ rfl ((q : Nat) : Int) 1 ((q + 1 : Nat) : Int) rfl rfl (by omega) (by omega) (by omega)) ?_
                              simp only [Act.put, lzA, lzB, lzC]
                              refine wl_yield (o := ⟨_, _, _, _, _, _⟩) (.int .i64 (q + 1 : Nat)) (yl_assign (by rfl) _ rfl _ rfl) ?_
                              simp only [Act.put, lzA, lzB, lzC]
                              refine wpList_nil ?_
                              show _ ∧ _
                              go_roundw
                              case rel => exact ⟨q + 1, (some s), rfl, rfl, rfl, by omega, by rw [hst]; unfold stepS; rw [if_pos (by rw [hl, hb]; rfl)], D⟩
                              case measure => simp [intOf]; omega
                            · cases hb2 : Op.bytesLess s.toList t.toList
                              · have hb : befS (some t) s = false := hb2
                                refine wp_seq_k (fun K25 hK25 => ?_)
                                refine wp_seq_k (fun K26 hK26 => ?_)
                                refine wp_region_lit ?_
                                refine wl_yield (o := ⟨_, _, _, _, _, _⟩) (.int .i64 (q : Nat)) (yl_move (by rfl) _ rfl _ rfl) ?_
                                simp only [Act.put, lzA, lzB, lzC]
                                refine wl_yield (o := ⟨_, _, _, _, _, _⟩) (.slice (some ⟨gI, oI, none⟩) l.length cap) (yl_move (by rfl) _ rfl _ rfl) ?_
                                simp only [Act.put, lzA, lzB, lzC]
                                refine wl_yield (o := ⟨_, _, _, _, _, _⟩) (.int .i64 (m : Nat)) (yl_move (by rfl) _ rfl _ rfl) ?_
                                simp only [Act.put, lzA, lzB, lzC]
                                refine wl_yield (o := ⟨_, _, _, _, _, _⟩) (.pointer (some ⟨gI, oI + m * 4, none⟩)) (yt_atQ (by rfl) _ _ rfl gI oI _ _ m rfl rfl (hlt)) ?_
                                simp only [Act.put, lzA, lzB, lzC]
                                refine wl_yield (o := ⟨_, _, _, _, _, _⟩) (.pointer (some ⟨gI, oI + m * 4 + 3, none⟩)) (yt_fSt3 (by rfl) _ rfl gI (oI + m * 4) rfl) ?_
                                simp only [Act.put, lzA, lzB, lzC]
                                refine wl_yield (o := ⟨_, _, _, _, _, _⟩) (.slice (some ⟨gT, oT, none⟩) S.strs.length cz) (yt_ldLs (by rfl) _ rfl _ _ rfl _ _ _ (fun _ h => by subst h; exact (cellD _ D _).trans C3)) ?_
                                simp only [Act.put, lzA, lzB, lzC]
                                refine wl_yield (o := ⟨_, _, _, _, _, _⟩) (.int .i64 (S.strs.length : Nat)) (yt_lenT (by rfl) _ rfl (some ⟨gT, oT, none⟩) S.strs.length cz rfl) ?_
                                simp only [Act.put, lzA, lzB, lzC]
                                refine wl_yield (o := ⟨_, _, _, _, _, _⟩) (.bool true) (yt_lssI (by rfl) _ _ _ rfl ((q : Nat) : Int) ((S.strs.length : Nat) : Int) true rfl rfl (decide_eq_true (by omega))) ?_
                                simp only [Act.put, lzA, lzB, lzC]
                                refine wpList_nil ?_
                                refine hK26 _ _ ?_
                                clear hK26 K26
                                refine wp_cond_true rfl ?_
                                refine wp_skip ?_
                                refine hK25 _ _ ?_
                                clear hK25 K25
                                refine wp_seq_k (fun K27 hK27 => ?_)
                                refine wp_block ?_
                                refine wp_seq_k (fun K28 hK28 => ?_)
                                refine wp_region_lit ?_
                                refine wl_yield (o := ⟨_, _, _, _, _, _⟩) (.slice (some ⟨gI, oI, none⟩) l.length cap) (yl_move (by rfl) _ rfl _ rfl) ?_
                                simp only [Act.put, lzA, lzB, lzC]
                                refine wl_yield (o := ⟨_, _, _, _, _, _⟩) (.int .i64 (m : Nat)) (yl_move (by rfl) _ rfl _ rfl) ?_
                                simp only [Act.put, lzA, lzB, lzC]
                                refine wl_yield (o := ⟨_, _, _, _, _, _⟩) (.pointer (some ⟨gI, oI + m * 4, none⟩)) (yt_atQ (by rfl) _ _ rfl gI oI _ _ m rfl rfl (hlt)) ?_
                                simp only [Act.put, lzA, lzB, lzC]
                                refine wl_yield (o := ⟨_, _, _, _, _, _⟩) (.pointer (some ⟨gI, oI + m * 4 + 3, none⟩)) (yt_fSt3 (by rfl) _ rfl gI (oI + m * 4) rfl) ?_
                                simp only [Act.put, lzA, lzB, lzC]
                                refine wl_yield (o := ⟨_, _, _, _, _, _⟩) (.slice (some ⟨gT, oT, none⟩) S.strs.length cz) (yt_ldLs (by rfl) _ rfl _ _ rfl _ _ _ (fun _ h => by subst h; exact (cellD _ D _).trans C3)) ?_
                                simp only [Act.put, lzA, lzB, lzC]
                                refine wl_yield (o := ⟨_, _, _, _, _, _⟩) (.int .i64 (q : Nat)) (yl_move (by rfl) _ rfl _ rfl) ?_
                                simp only [Act.put, lzA, lzB, lzC]
                                refine wl_yield (o := ⟨_, _, _, _, _, _⟩) (.pointer (some ⟨gT, oT + q * 1, none⟩)) (yt_atT (by rfl) _ _ rfl gT oT _ _ q rfl rfl (hlq)) ?_
                                simp only [Act.put, lzA, lzB, lzC]
                                refine wl_yield (o := ⟨_, _, _, _, _, _⟩) (.string s) (yt_ldS (by rfl) _ rfl _ _ rfl _ (fun _ h => by subst h; rw [Nat.mul_one]; exact (cellT _ D _).trans T0)) ?_
                                simp only [Act.put, lzA, lzB, lzC]
                                refine wl_yield (o := ⟨_, _, _, _, _, _⟩) (.string s) (yl_assign (by rfl) _ rfl _ rfl) ?_
                                simp only [Act.put, lzA, lzB, lzC]
                                refine wpList_nil ?_
                                refine hK28 _ _ ?_
                                clear hK28 K28
                                refine wp_seq_k (fun K29 hK29 => ?_)
                                refine wp_region_lit ?_
                                refine wl_yield (o := ⟨_, _, _, _, _, _⟩) (.slice (some ⟨gS, 0, none⟩) M.length cS) (yl_move (by rfl) _ rfl _ rfl) ?_
                                simp only [Act.put, lzA, lzB, lzC]
                                refine wl_yield (o := ⟨_, _, _, _, _, _⟩) (.int .i64 (M.length : Nat)) (yt_lenT (by rfl) _ rfl (some ⟨gS, 0, none⟩) M.length cS rfl) ?_
                                simp only [Act.put, lzA, lzB, lzC]
                                refine wl_yield (o := ⟨_, _, _, _, _, _⟩) (.bool false) (yt_eqlI (by rfl) _ _ _ rfl ((M.length : Nat) : Int) 0 false rfl rfl (decide_eq_false (by omega))) ?_
                                simp only [Act.put, lzA, lzB, lzC]
                                refine wl_yield (o := ⟨_, _, _, _, _, _⟩) (.bool false) (yl_move (by rfl) _ rfl _ rfl) ?_
                                simp only [Act.put, lzA, lzB, lzC]
                                refine wl_yield (o := ⟨_, _, _, _, _, _⟩) (.string s) (yl_move (by rfl) _ rfl _ rfl) ?_
                                simp only [Act.put, lzA, lzB, lzC]
                                refine wl_yield (o := ⟨_, _, _, _, _, _⟩) (.slice (some ⟨gS, 0, none⟩) M.length cS) (yl_move (by rfl) _ rfl _ rfl) ?_
                                simp only [Act.put, lzA, lzB, lzC]
                                refine wl_yield (o := ⟨_, _, _, _, _, _⟩) (.slice (some ⟨gS, 0, none⟩) M.length cS) (yl_move (by rfl) _ rfl _ rfl) ?_
                                simp only [Act.put, lzA, lzB, lzC]
                                refine wl_yield (o := ⟨_, _, _, _, _, _⟩) (.int .i64 (M.length : Nat)) (yt_lenT (by rfl) _ rfl (some ⟨gS, 0, none⟩) M.length cS rfl) ?_
                                simp only [Act.put, lzA, lzB, lzC]
                                refine wl_yield (o := ⟨_, _, _, _, _, _⟩) (.int .i64 (M.length - 1 : Nat)) (yt_subI (by rfl) _ _ _ rfl ((M.length : Nat) : Int) 1 ((M.length - 1 : Nat) : Int) rfl rfl (by omega) (by omega) (by omega)) ?_
                                simp only [Act.put, lzA, lzB, lzC]
                                refine wl_yield (o := ⟨_, _, _, _, _, _⟩) (.pointer (some ⟨gS, 0 + (M.length - 1) * 1, none⟩)) (yt_atT (by rfl) _ _ rfl gS 0 _ _ (M.length - 1) rfl rfl (by omega)) ?_
                                simp only [Act.put, lzA, lzB, lzC]
                                refine wl_yield (o := ⟨_, _, _, _, _, _⟩) (.string (M.getD (M.length - 1) ⟨#[]⟩)) (yt_ldS (by rfl) _ rfl _ _ rfl _ (fun _ h => by subst h; exact cellS0 _ D)) ?_
                                simp only [Act.put, lzA, lzB, lzC]
                                refine wl_yield (o := ⟨_, _, _, _, _, _⟩) (.bool true) (yt_gtrBA (by rfl) _ _ _ rfl s (M.getD (M.length - 1) ⟨#[]⟩) true rfl rfl (hl2)) ?_
                                simp only [Act.put, lzA, lzB, lzC]
                                refine wl_yield (o := ⟨_, _, _, _, _, _⟩) (.bool true) (yl_pickF (by rfl) _ _ _ rfl rfl _ rfl) ?_
                                simp only [Act.put, lzA, lzB, lzC]
                                refine wl_yield (o := ⟨_, _, _, _, _, _⟩) (.bool true) (yl_move (by rfl) _ rfl _ rfl) ?_
                                simp only [Act.put, lzA, lzB, lzC]
                                refine wl_yield (o := ⟨_, _, _, _, _, _⟩) (.bool true) (yl_move (by rfl) _ rfl _ rfl) ?_
                                simp only [Act.put, lzA, lzB, lzC]
                                refine wl_yield (o := ⟨_, _, _, _, _, _⟩) (.bool false) (yl_not (by rfl) _ _ rfl true rfl) ?_
                                simp only [Act.put, lzA, lzB, lzC]
                                refine wl_yield (o := ⟨_, _, _, _, _, _⟩) (.bool false) (yl_move (by rfl) _ rfl _ rfl) ?_
                                simp only [Act.put, lzA, lzB, lzC]
                                refine wl_yield (o := ⟨_, _, _, _, _, _⟩) (.string s) (yl_move (by rfl) _ rfl _ rfl) ?_
                                simp only [Act.put, lzA, lzB, lzC]
                                refine wl_yield (o := ⟨_, _, _, _, _, _⟩) (.string t) (yl_move (by rfl) _ rfl _ rfl) ?_
                                simp only [Act.put, lzA, lzB, lzC]
                                refine wl_yield (o := ⟨_, _, _, _, _, _⟩) (.bool false) (yt_lssBA (by rfl) _ _ _ rfl s t false rfl rfl (hb2)) ?_
                                simp only [Act.put, lzA, lzB, lzC]
                                refine wl_yield (o := ⟨_, _, _, _, _, _⟩) (.bool false) (yl_pickF (by rfl) _ _ _ rfl rfl _ rfl) ?_
                                simp only [Act.put, lzA, lzB, lzC]
                                refine wl_yield (o := ⟨_, _, _, _, _, _⟩) (.bool false) (yl_pickT (by rfl) _ _ _ rfl rfl _ rfl) ?_
                                simp only [Act.put, lzA, lzB, lzC]
                                refine wpList_nil ?_
                                refine hK29 _ _ ?_
                                clear hK29 K29
                                refine wp_cond_false rfl ?_
                                refine wp_skip ?_
                                refine hK27 _ _ ?_
                                clear hK27 K27
                                refine wp_region_lit ?_
                                refine wl_yield (o := ⟨_, _, _, _, _, _⟩) (.int .i64 (q : Nat)) (yl_move (by rfl) _ rfl _ rfl) ?_
                                simp only [Act.put, lzA, lzB, lzC]
                                refine wl_yield (o := ⟨_, _, _, _, _, _⟩) (.int .i64 (q + 1 : Nat)) (yt_addI (by rfl) _ _ _ rfl ((q : Nat) : Int) 1 ((q + 1 : Nat) : Int) rfl rfl (by omega) (by omega) (by omega)) ?_
                                simp only [Act.put, lzA, lzB, lzC]
                                refine wl_yield (o := ⟨_, _, _, _, _, _⟩) (.int .i64 (q + 1 : Nat)) (yl_assign (by rfl) _ rfl _ rfl) ?_
                                simp only [Act.put, lzA, lzB, lzC]
                                refine wpList_nil ?_
                                show _ ∧ _
                                go_roundw
                                case rel => exact ⟨q + 1, (some t), rfl, rfl, rfl, by omega, by rw [hst]; unfold stepS; rw [if_neg (by rw [hl, hb]; decide)], D⟩
                                case measure => simp [intOf]; omega
                              · have hb : befS (some t) s = true := hb2
                                refine wp_seq_k (fun K25 hK25 => ?_)
                                refine wp_seq_k (fun K26 hK26 => ?_)
                                refine wp_region_lit ?_
                                refine wl_yield (o := ⟨_, _, _, _, _, _⟩) (.int .i64 (q : Nat)) (yl_move (by rfl) _ rfl _ rfl) ?_
                                simp only [Act.put, lzA, lzB, lzC]
                                refine wl_yield (o := ⟨_, _, _, _, _, _⟩) (.slice (some ⟨gI, oI, none⟩) l.length cap) (yl_move (by rfl) _ rfl _ rfl) ?_
                                simp only [Act.put, lzA, lzB, lzC]
                                refine wl_yield (o := ⟨_, _, _, _, _, _⟩) (.int .i64 (m : Nat)) (yl_move (by rfl) _ rfl _ rfl) ?_
                                simp only [Act.put, lzA, lzB, lzC]
                                refine wl_yield (o := ⟨_, _, _, _, _, _⟩) (.pointer (some ⟨gI, oI + m * 4, none⟩)) (yt_atQ (by rfl) _ _ rfl gI oI _ _ m rfl rfl (hlt)) ?_
                                simp only [Act.put, lzA, lzB, lzC]
                                refine wl_yield (o := ⟨_, _, _, _, _, _⟩) (.pointer (some ⟨gI, oI + m * 4 + 3, none⟩)) (yt_fSt3 (by rfl) _ rfl gI (oI + m * 4) rfl) ?_
                                simp only [Act.put, lzA, lzB, lzC]
                                refine wl_yield (o := ⟨_, _, _, _, _, _⟩) (.slice (some ⟨gT, oT, none⟩) S.strs.length cz) (yt_ldLs (by rfl) _ rfl _ _ rfl _ _ _ (fun _ h => by subst h; exact (cellD _ D _).trans C3)) ?_
                                simp only [Act.put, lzA, lzB, lzC]
                                refine wl_yield (o := ⟨_, _, _, _, _, _⟩) (.int .i64 (S.strs.length : Nat)) (yt_lenT (by rfl) _ rfl (some ⟨gT, oT, none⟩) S.strs.length cz rfl) ?_
                                simp only [Act.put, lzA, lzB, lzC]
                                refine wl_yield (o := ⟨_, _, _, _, _, _⟩) (.bool true) (yt_lssI (by rfl) _ _ _ rfl ((q : Nat) : Int) ((S.strs.length : Nat) : Int) true rfl rfl (decide_eq_true (by omega))) ?_
                                simp only [Act.put, lzA, lzB, lzC]
                                refine wpList_nil ?_
                                refine hK26 _ _ ?_
                                clear hK26 K26
                                refine wp_cond_true rfl ?_
                                refine wp_skip ?_
                                refine hK25 _ _ ?_
                                clear hK25 K25
                                refine wp_seq_k (fun K27 hK27 => ?_)
                                refine wp_block ?_
                                refine wp_seq_k (fun K28 hK28 => ?_)
                                refine wp_region_lit ?_
                                refine wl_yield (o := ⟨_, _, _, _, _, _⟩) (.slice (some ⟨gI, oI, none⟩) l.length cap) (yl_move (by rfl) _ rfl _ rfl) ?_
                                simp only [Act.put, lzA, lzB, lzC]
                                refine wl_yield (o := ⟨_, _, _, _, _, _⟩) (.int .i64 (m : Nat)) (yl_move (by rfl) _ rfl _ rfl) ?_
                                simp only [Act.put, lzA, lzB, lzC]
                                refine wl_yield (o := ⟨_, _, _, _, _, _⟩) (.pointer (some ⟨gI, oI + m * 4, none⟩)) (yt_atQ (by rfl) _ _ rfl gI oI _ _ m rfl rfl (hlt)) ?_
                                simp only [Act.put, lzA, lzB, lzC]
                                refine wl_yield (o := ⟨_, _, _, _, _, _⟩) (.pointer (some ⟨gI, oI + m * 4 + 3, none⟩)) (yt_fSt3 (by rfl) _ rfl gI (oI + m * 4) rfl) ?_
                                simp only [Act.put, lzA, lzB, lzC]
                                refine wl_yield (o := ⟨_, _, _, _, _, _⟩) (.slice (some ⟨gT, oT, none⟩) S.strs.length cz) (yt_ldLs (by rfl) _ rfl _ _ rfl _ _ _ (fun _ h => by subst h; exact (cellD _ D _).trans C3)) ?_
                                simp only [Act.put, lzA, lzB, lzC]
                                refine wl_yield (o := ⟨_, _, _, _, _, _⟩) (.int .i64 (q : Nat)) (yl_move (by rfl) _ rfl _ rfl) ?_
                                simp only [Act.put, lzA, lzB, lzC]
                                refine wl_yield (o := ⟨_, _, _, _, _, _⟩) (.pointer (some ⟨gT, oT + q * 1, none⟩)) (yt_atT (by rfl) _ _ rfl gT oT _ _ q rfl rfl (hlq)) ?_
                                simp only [Act.put, lzA, lzB, lzC]
                                refine wl_yield (o := ⟨_, _, _, _, _, _⟩) (.string s) (yt_ldS (by rfl) _ rfl _ _ rfl _ (fun _ h => by subst h; rw [Nat.mul_one]; exact (cellT _ D _).trans T0)) ?_
                                simp only [Act.put, lzA, lzB, lzC]
                                refine wl_yield (o := ⟨_, _, _, _, _, _⟩) (.string s) (yl_assign (by rfl) _ rfl _ rfl) ?_
                                simp only [Act.put, lzA, lzB, lzC]
                                refine wpList_nil ?_
                                refine hK28 _ _ ?_
                                clear hK28 K28
                                refine wp_seq_k (fun K29 hK29 => ?_)
                                refine wp_region_lit ?_
                                refine wl_yield (o := ⟨_, _, _, _, _, _⟩) (.slice (some ⟨gS, 0, none⟩) M.length cS) (yl_move (by rfl) _ rfl _ rfl) ?_
                                simp only [Act.put, lzA, lzB, lzC]
                                refine wl_yield (o := ⟨_, _, _, _, _, _⟩) (.int .i64 (M.length : Nat)) (yt_lenT (by rfl) _ rfl (some ⟨gS, 0, none⟩) M.length cS rfl) ?_
                                simp only [Act.put, lzA, lzB, lzC]
                                refine wl_yield (o := ⟨_, _, _, _, _, _⟩) (.bool false) (yt_eqlI (by rfl) _ _ _ rfl ((M.length : Nat) : Int) 0 false rfl rfl (decide_eq_false (by omega))) ?_
                                simp only [Act.put, lzA, lzB, lzC]
                                refine wl_yield (o := ⟨_, _, _, _, _, _⟩) (.bool false) (yl_move (by rfl) _ rfl _ rfl) ?_
                                simp only [Act.put, lzA, lzB, lzC]
                                refine wl_yield (o := ⟨_, _, _, _, _, _⟩) (.string s) (yl_move (by rfl) _ rfl _ rfl) ?_
                                simp only [Act.put, lzA, lzB, lzC]
                                refine wl_yield (o := ⟨_, _, _, _, _, _⟩) (.slice (some ⟨gS, 0, none⟩) M.length cS) (yl_move (by rfl) _ rfl _ rfl) ?_
                                simp only [Act.put, lzA, lzB, lzC]
                                refine wl_yield (o := ⟨_, _, _, _, _, _⟩) (.slice (some ⟨gS, 0, none⟩) M.length cS) (yl_move (by rfl) _ rfl _ rfl) ?_
                                simp only [Act.put, lzA, lzB, lzC]
                                refine wl_yield (o := ⟨_, _, _, _, _, _⟩) (.int .i64 (M.length : Nat)) (yt_lenT (by rfl) _ rfl (some ⟨gS, 0, none⟩) M.length cS rfl) ?_
                                simp only [Act.put, lzA, lzB, lzC]
                                refine wl_yield (o := ⟨_, _, _, _, _, _⟩) (.int .i64 (M.length - 1 : Nat)) (yt_subI (by rfl) _ _ _ rfl ((M.length : Nat) : Int) 1 ((M.length - 1 : Nat) : Int) rfl rfl (by omega) (by omega) (by omega)) ?_
                                simp only [Act.put, lzA, lzB, lzC]
                                refine wl_yield (o := ⟨_, _, _, _, _, _⟩) (.pointer (some ⟨gS, 0 + (M.length - 1) * 1, none⟩)) (yt_atT (by rfl) _ _ rfl gS 0 _ _ (M.length - 1) rfl rfl (by omega)) ?_
                                simp only [Act.put, lzA, lzB, lzC]
                                refine wl_yield (o := ⟨_, _, _, _, _, _⟩) (.string (M.getD (M.length - 1) ⟨#[]⟩)) (yt_ldS (by rfl) _ rfl _ _ rfl _ (fun _ h => by subst h; exact cellS0 _ D)) ?_
                                simp only [Act.put, lzA, lzB, lzC]
                                refine wl_yield (o := ⟨_, _, _, _, _, _⟩) (.bool true) (yt_gtrBA (by rfl) _ _ _ rfl s (M.getD (M.length - 1) ⟨#[]⟩) true rfl rfl (hl2)) ?_
                                simp only [Act.put, lzA, lzB, lzC]
                                refine wl_yield (o := ⟨_, _, _, _, _, _⟩) (.bool true) (yl_pickF (by rfl) _ _ _ rfl rfl _ rfl) ?_
                                simp only [Act.put, lzA, lzB, lzC]
                                refine wl_yield (o := ⟨_, _, _, _, _, _⟩) (.bool true) (yl_move (by rfl) _ rfl _ rfl) ?_
                                simp only [Act.put, lzA, lzB, lzC]
                                refine wl_yield (o := ⟨_, _, _, _, _, _⟩) (.bool true) (yl_move (by rfl) _ rfl _ rfl) ?_
                                simp only [Act.put, lzA, lzB, lzC]
                                refine wl_yield (o := ⟨_, _, _, _, _, _⟩) (.bool false) (yl_not (by rfl) _ _ rfl true rfl) ?_
                                simp only [Act.put, lzA, lzB, lzC]
                                refine wl_yield (o := ⟨_, _, _, _, _, _⟩) (.bool false) (yl_move (by rfl) _ rfl _ rfl) ?_
                                simp only [Act.put, lzA, lzB, lzC]
                                refine wl_yield (o := ⟨_, _, _, _, _, _⟩) (.string s) (yl_move (by rfl) _ rfl _ rfl) ?_
                                simp only [Act.put, lzA, lzB, lzC]
                                refine wl_yield (o := ⟨_, _, _, _, _, _⟩) (.string t) (yl_move (by rfl) _ rfl _ rfl) ?_
                                simp only [Act.put, lzA, lzB, lzC]
                                refine wl_yield (o := ⟨_, _, _, _, _, _⟩) (.bool true) (yt_lssBA (by rfl) _ _ _ rfl s t true rfl rfl (hb2)) ?_
                                simp only [Act.put, lzA, lzB, lzC]
                                refine wl_yield (o := ⟨_, _, _, _, _, _⟩) (.bool true) (yl_pickF (by rfl) _ _ _ rfl rfl _ rfl) ?_
                                simp only [Act.put, lzA, lzB, lzC]
                                refine wl_yield (o := ⟨_, _, _, _, _, _⟩) (.bool true) (yl_pickT (by rfl) _ _ _ rfl rfl _ rfl) ?_
                                simp only [Act.put, lzA, lzB, lzC]
                                refine wpList_nil ?_
                                refine hK29 _ _ ?_
                                clear hK29 K29
                                refine wp_cond_true rfl ?_
                                refine wp_seq_k (fun K30 hK30 => ?_)
                                refine wp_region_lit ?_
                                refine wl_yield (o := ⟨_, _, _, _, _, _⟩) (.string s) (yl_move (by rfl) _ rfl _ rfl) ?_
                                simp only [Act.put, lzA, lzB, lzC]
                                refine wl_yield (o := ⟨_, _, _, _, _, _⟩) (.string s) (yl_assign (by rfl) _ rfl _ rfl) ?_
                                simp only [Act.put, lzA, lzB, lzC]
                                refine wpList_nil ?_
                                refine hK30 _ _ ?_
                                clear hK30 K30
                                refine wp_region_lit ?_
                                refine wl_yield (o := ⟨_, _, _, _, _, _⟩) (.bool true) (yl_assign (by rfl) _ rfl _ rfl) ?_
                                simp only [Act.put, lzA, lzB, lzC]
                                refine wpList_nil ?_
                                refine hK27 _ _ ?_
                                clear hK27 K27
                                refine wp_region_lit ?_
                                refine wl_yield (o := ⟨_, _, _, _, _, _⟩) (.int .i64 (q : Nat)) (yl_move (by rfl) _ rfl _ rfl) ?_
                                simp only [Act.put, lzA, lzB, lzC]
                                refine wl_yield (o := ⟨_, _, _, _, _, _⟩) (.int .i64 (q + 1 : Nat)) (yt_addI (by rfl) _ _ _ rfl ((q : Nat) : Int) 1 ((q + 1 : Nat) : Int) rfl rfl (by omega) (by omega) (by omega)) ?_
                                simp only [Act.put, lzA, lzB, lzC]
                                refine wl_yield (o := ⟨_, _, _, _, _, _⟩) (.int .i64 (q + 1 : Nat)) (yl_assign (by rfl) _ rfl _ rfl) ?_
                                simp only [Act.put, lzA, lzB, lzC]
                                refine wpList_nil ?_
                                show _ ∧ _
                                go_roundw
                                case rel => exact ⟨q + 1, (some s), rfl, rfl, rfl, by omega, by rw [hst]; unfold stepS; rw [if_pos (by rw [hl, hb]; rfl)], D⟩
                                case measure => simp [intOf]; omega
                      · obtain rfl : q = S.strs.length := by omega
                        refine wp_seq_k (fun K25 hK25 => ?_)
                        refine wp_seq_k (fun K26 hK26 => ?_)
                        refine wp_region_lit ?_
                        refine wl_yield (o := ⟨_, _, _, _, _, _⟩) (.int .i64 (S.strs.length : Nat)) (yl_move (by rfl) _ rfl _ rfl) ?_
                        simp only [Act.put, lzA, lzB, lzC]
                        refine wl_yield (o := ⟨_, _, _, _, _, _⟩) (.slice (some ⟨gI, oI, none⟩) l.length cap) (yl_move (by rfl) _ rfl _ rfl) ?_
                        simp only [Act.put, lzA, lzB, lzC]
                        refine wl_yield (o := ⟨_, _, _, _, _, _⟩) (.int .i64 (m : Nat)) (yl_move (by rfl) _ rfl _ rfl) ?_
                        simp only [Act.put, lzA, lzB, lzC]
                        refine wl_yield (o := ⟨_, _, _, _, _, _⟩) (.pointer (some ⟨gI, oI + m * 4, none⟩)) (yt_atQ (by rfl) _ _ rfl gI oI _ _ m rfl rfl (hlt)) ?_
                        simp only [Act.put, lzA, lzB, lzC]
                        refine wl_yield (o := ⟨_, _, _, _, _, _⟩) (.pointer (some ⟨gI, oI + m * 4 + 3, none⟩)) (yt_fSt3 (by rfl) _ rfl gI (oI + m * 4) rfl) ?_
                        simp only [Act.put, lzA, lzB, lzC]
                        refine wl_yield (o := ⟨_, _, _, _, _, _⟩) (.slice az S.strs.length cz) (yt_ldLs (by rfl) _ rfl _ _ rfl _ _ _ (fun _ h => by subst h; exact (cellD _ D _).trans C3)) ?_
                        simp only [Act.put, lzA, lzB, lzC]
                        refine wl_yield (o := ⟨_, _, _, _, _, _⟩) (.int .i64 (S.strs.length : Nat)) (yt_lenT (by rfl) _ rfl az S.strs.length cz rfl) ?_
                        simp only [Act.put, lzA, lzB, lzC]
                        refine wl_yield (o := ⟨_, _, _, _, _, _⟩) (.bool false) (yt_lssI (by rfl) _ _ _ rfl ((S.strs.length : Nat) : Int) ((S.strs.length : Nat) : Int) false rfl rfl (decide_eq_false (by omega))) ?_
                        simp only [Act.put, lzA, lzB, lzC]
                        refine wpList_nil ?_
                        refine hK26 _ _ ?_
                        clear hK26 K26
                        refine wp_cond_false rfl ?_
                        refine wp_exit ?_
                        refine hK21 _ _ ?_
                        clear hK25 K25 hK21 K21
                        refine wp_region_lit ?_
                        refine wl_yield (o := ⟨_, _, _, _, _, _⟩) (.int .i64 (m : Nat)) (yl_move (by rfl) _ rfl _ rfl) ?_
                        simp only [Act.put, lzA, lzB, lzC]
                        refine wl_yield (o := ⟨_, _, _, _, _, _⟩) (.int .i64 (m + 1 : Nat)) (yt_addI (by rfl) _ _ _ rfl ((m : Nat) : Int) 1 ((m + 1 : Nat) : Int) rfl rfl (by omega) (by omega) (by omega)) ?_
                        simp only [Act.put, lzA, lzB, lzC]
                        refine wl_yield (o := ⟨_, _, _, _, _, _⟩) (.int .i64 (m + 1 : Nat)) (yl_assign (by rfl) _ rfl _ rfl) ?_
                        simp only [Act.put, lzA, lzB, lzC]
                        refine wpList_nil ?_
                        show _ ∧ _
                        go_roundw
                        case rel => exact ⟨m + 1, _, rfl, rfl, rfl, by omega, by rw [hY, List.take_length, allS_take l m hlt, hS, if_pos hr], D⟩
                        case measure => simp [intOf]; omega
              · obtain rfl : m = l.length := by omega
                rw [List.take_length, hM, next_name hC.n hn] at hX
                by_cases hnN : n < N.length
                · rw [if_pos hnN] at hX
                  subst hX
                  refine wp_seq_k (fun K19 hK19 => ?_)
                  refine wp_seq_k (fun K20 hK20 => ?_)
                  refine wp_region_lit ?_
                  refine wl_yield (o := ⟨_, _, _, _, _, _⟩) (.int .i64 (l.length : Nat)) (yl_move (by rfl) _ rfl _ rfl) ?_
                  simp only [Act.put, lzA, lzB, lzC]
                  refine wl_yield (o := ⟨_, _, _, _, _, _⟩) (.slice a l.length cap) (yl_move (by rfl) _ rfl _ rfl) ?_
                  simp only [Act.put, lzA, lzB, lzC]
                  refine wl_yield (o := ⟨_, _, _, _, _, _⟩) (.int .i64 (l.length : Nat)) (yt_lenQ (by rfl) _ rfl a l.length cap rfl) ?_
                  simp only [Act.put, lzA, lzB, lzC]
                  refine wl_yield (o := ⟨_, _, _, _, _, _⟩) (.bool false) (yt_lssI (by rfl) _ _ _ rfl ((l.length : Nat) : Int) ((l.length : Nat) : Int) false rfl rfl (decide_eq_false (by omega))) ?_
                  simp only [Act.put, lzA, lzB, lzC]
                  refine wpList_nil ?_
                  refine hK20 _ _ ?_
                  clear hK20 K20
                  refine wp_cond_false rfl ?_
                  refine wp_exit ?_
                  refine hK17 _ _ ?_
                  clear hK19 K19 hK17 K17
                  refine wp_seq_k (fun K21 hK21 => ?_)
                  refine wp_seq_k (fun K22 hK22 => ?_)
                  replace OU := OwnU.on OU (below_none D)
                  replace NS := NS.on (below_none D)
                  replace AP := AP.mono (Below.size (below_none D))
                  replace RS := RS.on (below_none D)
                  replace D := grown_trans DE D
                  clear DE
                  refine wp_region_lit ?_
                  refine wl_yield (o := ⟨_, _, _, _, _, _⟩) (.bool true) (yl_move (by rfl) _ rfl _ rfl) ?_
                  simp only [Act.put, lzA, lzB, lzC]
                  refine wl_yield (o := ⟨_, _, _, _, _, _⟩) (.bool false) (yl_not (by rfl) _ _ rfl true rfl) ?_
                  simp only [Act.put, lzA, lzB, lzC]
                  refine wpList_nil ?_
                  refine hK22 _ _ ?_
                  clear hK22 K22
                  refine wp_cond_false rfl ?_
                  refine wp_skip ?_
                  refine hK21 _ _ ?_
                  clear hK21 K21
                  refine wp_seq_k (fun K23 hK23 => ?_)
                  refine wp_region_lit ?_
                  refine wl_yield (o := ⟨_, _, _, _, _, _⟩) (.slice pS M.length cS) (yl_move (by rfl) _ rfl _ rfl) ?_
                  simp only [Act.put, lzA, lzB, lzC]
                  refine wl_yield (o := ⟨_, _, _, _, _, _⟩) (.string (N.getD n ⟨#[]⟩)) (yl_move (by rfl) _ rfl _ rfl) ?_
                  simp only [Act.put, lzA, lzB, lzC]
                  refine wt_row1S (o := ⟨_, _, _, _, _, _⟩) (by rfl) _ rfl ((N.getD n ⟨#[]⟩)) rfl (fun v5 g5 hg G5 kb => ?_)
                  have ge_g5 : w.heap.size ≤ g5 := Nat.le_trans D.size hg
                  clear hg
                  replace D := grown_below D kb
                  replace OU := OwnU.on OU kb
                  replace NS := NS.on kb
                  replace AP := AP.mono (Below.size kb)
                  replace RS := RS.on kb
                  clear kb
                  simp only [Act.put, lzA, lzB, lzC]
                  refine wt_appS (o := ⟨_, _, _, _, _, _⟩) (by rfl) _ _ rfl w.heap.size _ M rfl RS g5 (N.getD n ⟨#[]⟩) rfl G5 (by omega) D.size (fun v6' v6 hrow kg hown => ?_)
                  simp only [Act.put, lzA, lzB, lzC]
                  replace NS := NS.gro AP kg
                  replace OU := OU.gro RS kg
                  replace AP := AP.app kg.size hown
                  replace D := gr_own D (fun g hg => (World.ownsRow.lt RS g hg).1) kg
                  replace RS := hrow
                  clear hrow kg hown G5
                  obtain ⟨p6, c6, rfl, -, -, -⟩ := ownsRow_form RS
                  refine wl_yield (o := ⟨_, _, _, _, _, _⟩) (.slice p6 (M ++ [N.getD n ⟨#[]⟩]).length c6) (yl_assign (by rfl) _ rfl _ rfl) ?_
                  simp only [Act.put, lzA, lzB, lzC]
                  refine wpList_nil ?_
                  refine hK23 _ _ ?_
                  clear hK23 K23
                  refine wp_region_lit ?_
                  refine wl_yield (o := ⟨_, _, _, _, _, _⟩) (u3) (yl_move (by rfl) _ rfl _ rfl) ?_
                  simp only [Act.put, lzA, lzB, lzC]
                  refine wl_yield (o := ⟨_, _, _, _, _, _⟩) (.string (N.getD n ⟨#[]⟩)) (yl_move (by rfl) _ rfl _ rfl) ?_
                  simp only [Act.put, lzA, lzB, lzC]
                  have DS : v6.grownBy v6 none := grown_refl _ _
                  have ltS := fun g hg => (World.ownsRow.lt RS g hg).2
                  refine wt_row1S (o := ⟨_, _, _, _, _, _⟩) (by rfl) _ rfl ((N.getD n ⟨#[]⟩)) rfl (fun v7 g7 hg G7 kb => ?_)
                  have ge_g7 : w.heap.size ≤ g7 := Nat.le_trans D.size hg
                  have ge_DS_g7 : v6.heap.size ≤ g7 := Nat.le_trans DS.size hg
                  clear hg
                  replace D := grown_below D kb
                  replace OU := OwnU.on OU kb
                  replace NS := NS.on kb
                  replace AP := AP.mono (Below.size kb)
                  replace RS := RS.on kb
                  clear kb
                  simp only [Act.put, lzA, lzB, lzC]
                  have nS : Value.ownBlock (.slice p6 (M ++ [N.getD n ⟨#[]⟩]).length c6) ≠ some g7 := fun e => by have := ltS _ e; omega
                  clear DS ltS
                  refine wl_yield (o := ⟨_, _, _, _, _, _⟩) (.agg #[.bool false, .slice none 0 0, .bool false, .slice (some ⟨g7, 0, none⟩) 1 1]) (yq_bS3 (by rfl) _ rfl (some ⟨g7, 0, none⟩) 1 1 rfl) ?_
                  simp only [Act.put, lzA, lzB, lzC]
                  refine wq_row1Q (o := ⟨_, _, _, _, _, _⟩) (by rfl) _ rfl ⟨false, none, 0, 0, false, (some ⟨g7, 0, none⟩), 1, 1⟩ rfl (fun v8 g8 hg G8 kb => ?_)
                  have n_g7_g8 : g7 ≠ g8 := by have := lt_heap G7; omega
                  have ge_g8 : w.heap.size ≤ g8 := Nat.le_trans D.size hg
                  clear hg
                  replace D := grown_below D kb
                  replace OU := OwnU.on OU kb
                  replace NS := NS.on kb
                  replace AP := AP.mono (Below.size kb)
                  replace RS := RS.on kb
                  replace G7 := heap_on G7 kb
                  clear kb
                  replace G8 : v8.heap[g8]? = some (.cells #[.bool false, .slice none 0 0, .bool false, .slice (some ⟨g7, 0, none⟩) 1 1] 26 (0, 0)) := G8
                  simp only [Act.put, lzA, lzB, lzC]
                  have hS1 : SetAt v8 (SC.val ⟨false, none, 0, 0, false, (some ⟨g7, 0, none⟩), 1, 1⟩) (cellS (N.getD n ⟨#[]⟩)) := cellS_at G7 (hN8 _ (gD_mem hnN))
                  have hU1 : UpC w.heap.size ⟨false, none, 0, 0, false, (some ⟨g7, 0, none⟩), 1, 1⟩ := ⟨fun a e => (by cases e), fun a e => (by cases e; exact ge_g7)⟩
                  have hp1 : ∀ a, SC.p ⟨false, none, 0, 0, false, (some ⟨g7, 0, none⟩), 1, 1⟩ = some a → a.block < v8.heap.size ∧ Value.ownBlock (.slice p6 (M ++ [N.getD n ⟨#[]⟩]).length c6) ≠ some a.block := fun a e => (by cases e)
                  have hq1 : ∀ a, SC.q ⟨false, none, 0, 0, false, (some ⟨g7, 0, none⟩), 1, 1⟩ = some a → a.block < v8.heap.size ∧ Value.ownBlock (.slice p6 (M ++ [N.getD n ⟨#[]⟩]).length c6) ≠ some a.block := fun a e => (by cases e; exact ⟨lt_heap G7, nS⟩)
                  refine wl_appU9 (o := ⟨_, _, _, _, _, _⟩) (by rfl) _ _ rfl w.heap.size u3 cs rfl OU g8 ⟨false, none, 0, 0, false, (some ⟨g7, 0, none⟩), 1, 1⟩ rfl G8 (by omega) D.size (fun v9' v9 OU' ha hw hc => ?_)
                  simp only [Act.put, lzA, lzB, lzC]
                  replace NS := NS.snoc hS1 hU1
                  replace NS : NewSt w.heap.size v9 _ _ := ⟨⟨NS.at_.1, fun i hi => hc (NS.at_.2 i hi)⟩, NS.up⟩
                  replace AP := (AP.snoc hp1 hq1).mono ha.s
                  replace RS : RowS v9 w.heap.size _ _ := ownsRow_asd RS OU ha (by decide)
                  have hl9 := OU.lenV
                  have hl8 := OU'.lenV
                  rw [List.length_append, List.length_singleton] at hl8
                  replace D := grown_none ((below_none D).trans ha.b)
                  replace OU := OU'
                  clear OU' ha hw hc hS1 hU1 hp1 hq1 G7 G8
                  rw [← cellL_str B N n hnN, ← take_more (l := cellL B N) (k := B.length + 1 + n) (by rw [cellL_len]; omega)] at NS
                  refine wl_yield (o := ⟨_, _, _, _, _, _⟩) (v9') (yl_assign (by rfl) _ rfl _ rfl) ?_
                  simp only [Act.put, lzA, lzB, lzC]
                  refine wpList_nil ?_
                  show _ ∧ _
                  go_roundw
                  case rel => exact ⟨n + 1, _, _, by rw [take_moreS hnN, ← hM], hnN, OU, by rw [List.length_append, List.length_singleton]; omega, NS, RS, AP, D⟩
                  case measure => rw [hl9, hl8]; omega
                · rw [if_neg hnN] at hX
                  subst hX
                  have hMN : M = N := by rw [hM, List.take_of_length_le (by omega)]
                  refine wp_seq_k (fun K19 hK19 => ?_)
                  refine wp_seq_k (fun K20 hK20 => ?_)
                  refine wp_region_lit ?_
                  refine wl_yield (o := ⟨_, _, _, _, _, _⟩) (.int .i64 (l.length : Nat)) (yl_move (by rfl) _ rfl _ rfl) ?_
                  simp only [Act.put, lzA, lzB, lzC]
                  refine wl_yield (o := ⟨_, _, _, _, _, _⟩) (.slice a l.length cap) (yl_move (by rfl) _ rfl _ rfl) ?_
                  simp only [Act.put, lzA, lzB, lzC]
                  refine wl_yield (o := ⟨_, _, _, _, _, _⟩) (.int .i64 (l.length : Nat)) (yt_lenQ (by rfl) _ rfl a l.length cap rfl) ?_
                  simp only [Act.put, lzA, lzB, lzC]
                  refine wl_yield (o := ⟨_, _, _, _, _, _⟩) (.bool false) (yt_lssI (by rfl) _ _ _ rfl ((l.length : Nat) : Int) ((l.length : Nat) : Int) false rfl rfl (decide_eq_false (by omega))) ?_
                  simp only [Act.put, lzA, lzB, lzC]
                  refine wpList_nil ?_
                  refine hK20 _ _ ?_
                  clear hK20 K20
                  refine wp_cond_false rfl ?_
                  refine wp_exit ?_
                  refine hK17 _ _ ?_
                  clear hK19 K19 hK17 K17
                  refine wp_seq_k (fun K21 hK21 => ?_)
                  refine wp_seq_k (fun K22 hK22 => ?_)
                  replace OU := OwnU.on OU (below_none D)
                  replace NS := NS.on (below_none D)
                  replace AP := AP.mono (Below.size (below_none D))
                  replace RS := RS.on (below_none D)
                  replace D := grown_trans DE D
                  clear DE
                  refine wp_region_lit ?_
                  refine wl_yield (o := ⟨_, _, _, _, _, _⟩) (.bool false) (yl_move (by rfl) _ rfl _ rfl) ?_
                  simp only [Act.put, lzA, lzB, lzC]
                  refine wl_yield (o := ⟨_, _, _, _, _, _⟩) (.bool true) (yl_not (by rfl) _ _ rfl false rfl) ?_
                  simp only [Act.put, lzA, lzB, lzC]
                  refine wpList_nil ?_
                  refine hK22 _ _ ?_
                  clear hK22 K22
                  refine wp_cond_true rfl ?_
                  refine wp_exit ?_
                  refine hK14 _ _ ?_
                  clear hK21 K21 hK14 K14
                  refine wp_seq_k (fun K23 hK23 => ?_)
                  refine wp_region_lit ?_
                  refine wl_yield (o := ⟨_, _, _, _, _, _⟩) (u3) (yl_move (by rfl) _ rfl _ rfl) ?_
                  simp only [Act.put, lzA, lzB, lzC]
                  refine wl_yield (o := ⟨_, _, _, _, _, _⟩) (.slice pS M.length cS) (yl_move (by rfl) _ rfl _ rfl) ?_
                  simp only [Act.put, lzA, lzB, lzC]
                  refine wl_yield (o := ⟨_, _, _, _, _, _⟩) (.agg #[.bool false, .slice none 0 0, .bool true, .slice pS M.length cS]) (yq_bS23 (by rfl) _ _ rfl true pS M.length cS rfl rfl) ?_
                  simp only [Act.put, lzA, lzB, lzC]
                  refine wq_row1Q (o := ⟨_, _, _, _, _, _⟩) (by rfl) _ rfl ⟨false, none, 0, 0, true, pS, M.length, cS⟩ rfl (fun v5 g5 hg G5 kb => ?_)
                  have ge_g5 : w.heap.size ≤ g5 := Nat.le_trans D.size hg
                  clear hg
                  replace D := grown_below D kb
                  replace OU := OwnU.on OU kb
                  replace NS := NS.on kb
                  replace AP := AP.mono (Below.size kb)
                  replace RS := RS.on kb
                  clear kb
                  replace G5 : v5.heap[g5]? = some (.cells #[.bool false, .slice none 0 0, .bool true, .slice pS M.length cS] 26 (0, 0)) := G5
                  simp only [Act.put, lzA, lzB, lzC]
                  have hS1 : SetAt v5 (SC.val ⟨false, none, 0, 0, true, pS, M.length, cS⟩) ⟨false, [], true, M⟩ := ⟨_, _, rfl, ⟨fun r h => (by cases h), Nat.zero_le _, none, 0, rfl, fun i hi => absurd hi (Nat.not_lt_zero _)⟩, RS.own.strs (by rw [hMN]; exact hN8) (by omega)⟩
                  have hU1 : UpC w.heap.size ⟨false, none, 0, 0, true, pS, M.length, cS⟩ := ⟨fun a e => (by cases e), RS.up⟩
                  refine wl_appU9 (o := ⟨_, _, _, _, _, _⟩) (by rfl) _ _ rfl w.heap.size u3 cs rfl OU g5 ⟨false, none, 0, 0, true, pS, M.length, cS⟩ rfl G5 (by omega) D.size (fun v6' v6 OU' ha hw hc => ?_)
                  simp only [Act.put, lzA, lzB, lzC]
                  replace NS := NS.snoc hS1 hU1
                  replace NS : NewSt w.heap.size v6 _ _ := ⟨⟨NS.at_.1, fun i hi => hc (NS.at_.2 i hi)⟩, NS.up⟩
                  replace D := grown_none ((below_none D).trans ha.b)
                  replace OU := OU'
                  clear OU' ha hw hc hS1 hU1 RS AP G5
                  have e2 : cutL l = (cellL B N).take (B.length + 1 + n) ++ [⟨false, [], true, M⟩] := by
                    rw [hcut, hMN]
                    have h1 := take_more (l := cellL B N) (k := B.length + N.length + 1) (by rw [cellL_len]; omega)
                    rw [List.take_of_length_le (by rw [cellL_len]; omega), cellL_last] at h1
                    rw [show B.length + 1 + n = B.length + N.length + 1 by omega]
                    exact h1
                  rw [← e2] at NS
                  refine wl_yield (o := ⟨_, _, _, _, _, _⟩) (v6') (yl_assign (by rfl) _ rfl _ rfl) ?_
                  simp only [Act.put, lzA, lzB, lzC]
                  refine wpList_nil ?_
                  refine hK23 _ _ ?_
                  clear hK23 K23
                  refine wp_ret ?_
                  try simp only [Exit.inBlock, Exit.then]
                  go_ret
                  exact ⟨⟨_, rfl, NS.sets OU.own (Nat.le_refl _) (by rw [List.length_append, List.length_singleton]; omega) (Kept.refl _ _)⟩, below_none D⟩
        · have hk1 : k + 1 < B.length := by
            refine Decidable.byContradiction fun e => ?_
            exact of_decide_eq_false hc ((hi_top hC hk).2 e)
          have hh : hiAt B k = B.getD (k + 1) 0 - 1 := if_pos hk1
          have hin1 := hC.inB (gD_mem (d := 0) hk1)
          have hup1 := risesI_lt hC.b.up k (k + 1) (by omega) hk1
          refine wp_skip ?_
          refine hK12 _ _ ?_
          clear hK12 K12
          refine wp_region_lit ?_
          refine wl_yield (o := ⟨_, _, _, _, _, _⟩) (.int .i64 (hiAt B k)) (yl_move (by rfl) _ rfl _ rfl) ?_
          simp only [Act.put, lzA, lzB, lzC]
          refine wl_yield (o := ⟨_, _, _, _, _, _⟩) (.int .i64 (B.getD (k + 1) 0)) (yt_addI (by rfl) _ _ _ rfl (hiAt B k) 1 (B.getD (k + 1) 0) rfl rfl (by omega) (by omega) (by omega)) ?_
          simp only [Act.put, lzA, lzB, lzC]
          refine wl_yield (o := ⟨_, _, _, _, _, _⟩) (.int .i64 (B.getD (k + 1) 0)) (yl_assign (by rfl) _ rfl _ rfl) ?_
          simp only [Act.put, lzA, lzB, lzC]
          refine wpList_nil ?_
          show _ ∧ _
          go_roundw
          case rel => exact ⟨k + 1, _, rfl, hk1, OU, by rw [List.length_append, List.length_singleton]; omega, NS, AP, D⟩
          case measure => simp only [intOf]; omega
end Go.Proofs.YtjbgjdjmejhejaaGreatDoor
namespace Go.Proofs.YtjbgjdjmejhejaaGreatDoor
open Go.RowKit
set_option maxHeartbeats 4000000 in
set_option maxRecDepth 100000 in
theorem refSame_any (v u : Value) (A B : SetV) (w : World) (hv : SetAt w v A) (hu : SetAt w u B) :
    Calls Tryz.prog 54 #[v, u] w fun r w' => r = .returned (.bool (sameB A B)) ∧ Below w.heap.size w w' := by
  obtain ⟨vi, vs, rfl, hI, hS⟩ := hv
  obtain ⟨ui, us, rfl, hJ, hT⟩ := hu
  obtain ⟨ai, ci, rfl⟩ := hI.form
  obtain ⟨aq, cq, rfl⟩ := hS.form
  obtain ⟨bi, di, rfl⟩ := hJ.form
  obtain ⟨bq, dq, rfl⟩ := hT.form
  obtain ⟨sa, si, sc, ss⟩ := A
  obtain ⟨ta, ti, tc, ts⟩ := B
  dsimp only at *
  have HI := hide hI
  have HS := hide hS
  have HJ := hide hJ
  have HT := hide hT
  have nIle := hI.2.1
  have nSle := hS.2.1
  have nJle := hJ.2.1
  have nTle := hT.2.1
  clear hI hS hJ hT
  unfold sameB
  dsimp only
  have lI := rngEqB_len si ti
  have lS := strEqB_len ss ts
  obtain ⟨nI, hnI⟩ : ∃ n : Nat, n = si.length := ⟨_, rfl⟩
  obtain ⟨nS, hnS⟩ : ∃ n : Nat, n = ss.length := ⟨_, rfl⟩
  obtain ⟨nJ, hnJ⟩ : ∃ n : Nat, n = ti.length := ⟨_, rfl⟩
  obtain ⟨nT, hnT⟩ : ∃ n : Nat, n = ts.length := ⟨_, rfl⟩
  rw [← hnI] at nIle lI ⊢
  rw [← hnS] at nSle lS ⊢
  rw [← hnJ] at nJle lI ⊢
  rw [← hnT] at nTle lS ⊢
  have HnI := hide hnI
  have HnS := hide hnS
  have HnJ := hide hnJ
  have HnT := hide hnT
  have LI := hide lI
  have LS := hide lS
  clear hnI hnS hnJ hnT lI lS
  have ba := fun (o1 o2 : Obj) => hide (two_boxes w o1 o2)
  have hta : ta = sa ∨ ta = !sa := by cases ta <;> cases sa <;> simp
  rcases hta with rfl | rfl
  · have htc : tc = sc ∨ tc = !sc := by cases tc <;> cases sc <;> simp
    rcases htc with rfl | rfl
    · by_cases eI : nI = nJ
      · by_cases eS : nS = nT
        · subst eI
          subst eS
          have b1 : ((nI : Int) != (nI : Int)) = false := by simp
          have b2 : ((nS : Int) != (nS : Int)) = false := by simp
          go_enter Tryz.func54, Tryz.ntmps54
          go_wp2
          obtain ⟨e1, e2, e3⟩ := (ba (.cells #[.bool ta, .slice ai nI ci, .bool tc, .slice aq nS cq] 26) (.cells #[.bool ta, .slice bi nI di, .bool tc, .slice bq nS dq] 26)).out
          have E1 := hide e1
          have E2 := hide e2
          have E3 := hide e3
          clear e1 e2 e3 ba
          go_loopw [5] (fun i wr => ∃ k : Nat, i = .int .i64 k ∧ k ≤ nI ∧ Hid (rngEqB (si.drop k) (ti.drop k) = rngEqB si ti) ∧ Hid (wr.heap[w.heap.size]? = some (.cells #[.bool ta, .slice ai nI ci, .bool tc, .slice aq nS cq] 26 (0, 0))) ∧ Hid (wr.heap[w.heap.size + 1]? = some (.cells #[.bool ta, .slice bi nI di, .bool tc, .slice bq nS dq] 26 (0, 0))) ∧ Hid (Below w.heap.size w wr)) (fun i _ => nI - (intOf i).toNat)
          case atStart => exact ⟨0, rfl, by omega, hide rfl, E1, E2, E3⟩
          case round =>
            clear E1 E2 E3
            obtain ⟨k, rfl, hk, HG, H1, H2, HB⟩ := hrel
            have c1 := cell_heap H1.out 1
            have c3 := cell_heap H1.out 3
            have d1 := cell_heap H2.out 1
            have d3 := cell_heap H2.out 3
            simp only [List.getElem?_toArray, List.getElem?_cons_zero, List.getElem?_cons_succ] at c1 c3 d1 d3
            by_cases hlt : k < nI
            · have hk1 : k < si.length := by rw [← HnI.out]; exact hlt
              have hk2 : k < ti.length := by rw [← HnJ.out]; exact hlt
              obtain ⟨b, off, rfl, hb, x0, x1⟩ := (HI.out.on HB.out).at.2 k hk1
              obtain ⟨b', off', rfl, hb', y0, y1⟩ := (HJ.out.on HB.out).at.2 k hk2
              have G0 := HG.out
              rw [drop_getD si k (0, 0) hk1, drop_getD ti k (0, 0) hk2] at G0
              generalize si.getD k (0, 0) = r at *
              generalize ti.getD k (0, 0) = q at *
              simp only [rngEqB] at G0
              have G1 := hide G0
              clear G0 HG
              cases f1 : (r.1 == q.1)
              · have G2 : Hid (rngEqB si ti = false) := hide (by rw [← G1.out, f1]; rfl)
                clear G1
                go_wp2
                go_quiet (fail)
                go_wp2
                go_ret
                exact ⟨ret_bool (by rw [G2.out]; simp), below_drewN HB.out _⟩
              · cases f2 : (r.2 == q.2)
                · have G2 : Hid (rngEqB si ti = false) := hide (by rw [← G1.out, f1, f2]; rfl)
                  clear G1
                  go_wp2
                  go_quiet (fail)
                  go_wp2
                  go_ret
                  exact ⟨ret_bool (by rw [G2.out]; simp), below_drewN HB.out _⟩
                · have G2 : Hid (rngEqB (si.drop (k + 1)) (ti.drop (k + 1)) = rngEqB si ti) := hide (by rw [← G1.out, f1, f2]; rfl)
                  clear G1
                  go_wp2
                  go_quiet (fail)
                  go_wp2
                  exact ⟨⟨k + 1, by go_num, by omega, G2, H1, H2, hide (below_drewN HB.out _)⟩, by simp [intOf]; omega⟩
            · have hge : (nI : Int) ≤ (k : Int) := by omega
              have G2 : Hid (rngEqB si ti = true) := hide (by
                rw [← HG.out, List.drop_eq_nil_of_le (by have := HnI.out; omega), List.drop_eq_nil_of_le (by have := HnJ.out; omega)]; rfl)
              clear HG
              go_wp2
              go_loopw [6] (fun i wr => ∃ k : Nat, i = .int .i64 k ∧ k ≤ nS ∧ Hid (strEqB (ss.drop k) (ts.drop k) = strEqB ss ts) ∧ Hid (wr.heap[w.heap.size]? = some (.cells #[.bool ta, .slice ai nI ci, .bool tc, .slice aq nS cq] 26 (0, 0))) ∧ Hid (wr.heap[w.heap.size + 1]? = some (.cells #[.bool ta, .slice bi nI di, .bool tc, .slice bq nS dq] 26 (0, 0))) ∧ Hid (Below w.heap.size w wr)) (fun i _ => nS - (intOf i).toNat)
              case atStart => exact ⟨0, rfl, by omega, hide rfl, H1, H2, HB⟩
              case round =>
                clear H1 H2 HB c1 c3 d1 d3 hge hlt hk
                obtain ⟨j, rfl, hj, HG, H1, H2, HB⟩ := hrel
                have c1 := cell_heap H1.out 1
                have c3 := cell_heap H1.out 3
                have d1 := cell_heap H2.out 1
                have d3 := cell_heap H2.out 3
                simp only [List.getElem?_toArray, List.getElem?_cons_zero, List.getElem?_cons_succ] at c1 c3 d1 d3
                by_cases hlt : j < nS
                · have hj1 : j < ss.length := by rw [← HnS.out]; exact hlt
                  have hj2 : j < ts.length := by rw [← HnT.out]; exact hlt
                  obtain ⟨b, off, rfl, hb, x0⟩ := (HS.out.on HB.out).at.2 j hj1
                  obtain ⟨b', off', rfl, hb', y0⟩ := (HT.out.on HB.out).at.2 j hj2
                  have G0 := HG.out
                  rw [drop_getD ss j ⟨#[]⟩ hj1, drop_getD ts j ⟨#[]⟩ hj2] at G0
                  generalize ss.getD j ⟨#[]⟩ = r at *
                  generalize ts.getD j ⟨#[]⟩ = q at *
                  simp only [strEqB] at G0
                  have G1 := hide G0
                  clear G0 HG
                  cases f1 : (r.toList == q.toList)
                  · have G3 : Hid (strEqB ss ts = false) := hide (by rw [← G1.out, f1]; rfl)
                    clear G1
                    go_wp2
                    go_quiet (fail)
                    go_wp2
                    go_ret
                    exact ⟨ret_bool (by rw [G3.out]; simp), below_drewN HB.out _⟩
                  · have G3 : Hid (strEqB (ss.drop (j + 1)) (ts.drop (j + 1)) = strEqB ss ts) := hide (by rw [← G1.out, f1]; rfl)
                    clear G1
                    go_wp2
                    go_quiet (fail)
                    go_wp2
                    exact ⟨⟨j + 1, by go_num, by omega, G3, H1, H2, hide (below_drewN HB.out _)⟩, by simp [intOf]; omega⟩
                · have hge : (nS : Int) ≤ (j : Int) := by omega
                  have G3 : Hid (strEqB ss ts = true) := hide (by
                    rw [← HG.out, List.drop_eq_nil_of_le (by have := HnS.out; omega), List.drop_eq_nil_of_le (by have := HnT.out; omega)]; rfl)
                  clear HG
                  go_wp2
                  go_ret
                  exact ⟨ret_bool (by rw [G2.out, G3.out]; simp), HB.out⟩
        · have b2 : ((nS : Int) != (nT : Int)) = true := by rw [bne_iff_ne]; omega
          have G := hide (LS.out eS)
          subst eI
          go_enter Tryz.func54, Tryz.ntmps54
          go_wp2
          go_ret
          exact ⟨ret_bool (by rw [G.out]; simp), (ba _ _).out.2.2⟩
      · have b1 : ((nI : Int) != (nJ : Int)) = true := by rw [bne_iff_ne]; omega
        have G := hide (LI.out eI)
        go_enter Tryz.func54, Tryz.ntmps54
        go_wp2
        go_ret
        exact ⟨ret_bool (by rw [G.out]; simp), (ba _ _).out.2.2⟩
    · go_enter Tryz.func54, Tryz.ntmps54
      go_wp2
      go_ret
      exact ⟨ret_bool (by cases sc <;> simp), (ba _ _).out.2.2⟩
  · go_enter Tryz.func54, Tryz.ntmps54
    go_wp2
    go_ret
    exact ⟨ret_bool (by cases sa <;> simp), (ba _ _).out.2.2⟩
end Go.Proofs.YtjbgjdjmejhejaaGreatDoor
namespace Go.Proofs.YtjbgjdjmejhejaaGreatDoor
open Go.RowKit
section
variable {ops : Array Oper} {S : World → Prop} {o : Oper} {a : Act}
theorem yt_lenW (hw : Region.wanted o (yielded ops a.tmps) = true) (x : Operand) (ho : o.op = .call { callee := .builtin .len, args := #[x], argTypes := #[45] }) (p : Option Addr) (n c : Nat) (hx : a.eval x = .slice p n c) : YieldsIf Tryz.prog ops S o (.int .i64 n) a :=
  Or.inl ⟨hw, fun w hS => by
    unfold execOp
    simp only [ho, resolve, invoke, builtin, Sem.run_bind, Sem.run_pure, Result.andThen_ok, List.map_toArray, List.map_cons, List.map_nil, hx]
    go_simp⟩
theorem yt_atW (hw : Region.wanted o (yielded ops a.tmps) = true) (x y : Operand) (ho : o.op = .indexAddr 45 x y) (b off n c i : Nat) (hx : a.eval x = .slice (some ⟨b, off, none⟩) n c) (hy : a.eval y = .int .i64 i) (hi : i < n) : YieldsIf Tryz.prog ops S o (.pointer (some ⟨b, off + i * 3, none⟩)) a :=
  Or.inl ⟨hw, fun w hS => by
    simp only [execOp, ho, hx, hy]
    go_simp⟩
end
set_option maxHeartbeats 4000000 in
set_option maxRecDepth 100000 in
theorem sameAll_any (v u : Value) (l : List SetV) (w : World) (hv : SetsAt w v l) (hu : SetsAt w u l) :
    Calls Tryz.prog 19 #[v, u] w fun r w' => r = .returned (.bool true) ∧ Below w.heap.size w w' := by
  obtain ⟨a, cap, rfl, -⟩ := hv.2
  obtain ⟨b, cb, rfl, -⟩ := hu.2
  have hl64 := hv.1
  have D : w.grownBy w none := grown_refl _ _
  go_enter Tryz.func19, Tryz.ntmps19
  refine wp_seq_k (fun K1 hK1 => ?_)
  refine wp_region_lit ?_
  refine wl_yield (o := ⟨_, _, _, _, _, _⟩) (.bool false) (yl_assign (by rfl) _ rfl _ rfl) ?_
  simp only [Act.put, lzA, lzB, lzC]
  refine wpList_nil ?_
  refine hK1 _ _ ?_
  clear hK1 K1
  refine wp_seq_k (fun K2 hK2 => ?_)
  refine wp_seq_k (fun K3 hK3 => ?_)
  refine wp_region_lit ?_
  refine wl_yield (o := ⟨_, _, _, _, _, _⟩) (.slice a l.length cap) (yl_move (by rfl) _ rfl _ rfl) ?_
  simp only [Act.put, lzA, lzB, lzC]
  refine wl_yield (o := ⟨_, _, _, _, _, _⟩) (.int .i64 (l.length : Nat)) (yt_lenQ (by rfl) _ rfl a l.length cap rfl) ?_
  simp only [Act.put, lzA, lzB, lzC]
  refine wl_yield (o := ⟨_, _, _, _, _, _⟩) (.slice b l.length cb) (yl_move (by rfl) _ rfl _ rfl) ?_
  simp only [Act.put, lzA, lzB, lzC]
  refine wl_yield (o := ⟨_, _, _, _, _, _⟩) (.int .i64 (l.length : Nat)) (yt_lenQ (by rfl) _ rfl b l.length cb rfl) ?_
  simp only [Act.put, lzA, lzB, lzC]
  refine wl_yield (o := ⟨_, _, _, _, _, _⟩) (.bool false) (yt_neqI (by rfl) _ _ _ rfl ((l.length : Nat) : Int) ((l.length : Nat) : Int) false rfl rfl (by simp)) ?_
  simp only [Act.put, lzA, lzB, lzC]
  refine wpList_nil ?_
  refine hK3 _ _ ?_
  clear hK3 K3
  refine wp_cond_false rfl ?_
  refine wp_skip ?_
  refine hK2 _ _ ?_
  clear hK2 K2
  refine wp_seq_k (fun K4 hK4 => ?_)
  refine wp_seq_k (fun K5 hK5 => ?_)
  refine wp_region_lit ?_
  refine wl_yield (o := ⟨_, _, _, _, _, _⟩) (.int .i64 0) (yl_assign (by rfl) _ rfl _ rfl) ?_
  simp only [Act.put, lzA, lzB, lzC]
  refine wpList_nil ?_
  refine hK5 _ _ ?_
  clear hK5 K5
  refine wp_block ?_
  go_loopw [5] (fun i wr => ∃ (k : Nat), i = .int .i64 ((k : Nat) : Int) ∧ k ≤ l.length ∧ w.grownBy wr none) (fun i _ => l.length - (intOf i).toNat)
  case atStart => exact ⟨0, rfl, Nat.zero_le _, D⟩
  case round =>
    clear D
    obtain ⟨k, rfl, hk, D⟩ := hrel
    by_cases hlt : k < l.length
    · obtain ⟨gI, oI, vi, vs, rfl, hgI, C0, C1, C2, C3, hI, hT⟩ := hv.at.2 k hlt
      obtain ⟨gJ, oJ, wi, ws, rfl, hgJ, E0, E1, E2, E3, hI2, hT2⟩ := hu.at.2 k hlt
      generalize hS : l.getD k noSet = S at C0 C2 hI hT E0 E2 hI2 hT2
      obtain ⟨ai, ci, rfl⟩ := hI.form
      obtain ⟨az, cz, rfl⟩ := hT.form
      obtain ⟨bi, di, rfl⟩ := hI2.form
      obtain ⟨bz, dz, rfl⟩ := hT2.form
      have cellD := fun (W : World) (D : w.grownBy W none) (j : Nat) => (below_none D).cell (p := ⟨gI, j, none⟩) hgI
      have cellE := fun (W : World) (D : w.grownBy W none) (j : Nat) => (below_none D).cell (p := ⟨gJ, j, none⟩) hgJ
      refine wp_seq_k (fun K6 hK6 => ?_)
      refine wp_seq_k (fun K7 hK7 => ?_)
      refine wp_region_lit ?_
      refine wl_yield (o := ⟨_, _, _, _, _, _⟩) (.int .i64 (k : Nat)) (yl_move (by rfl) _ rfl _ rfl) ?_
      simp only [Act.put, lzA, lzB, lzC]
      refine wl_yield (o := ⟨_, _, _, _, _, _⟩) (.slice (some ⟨gI, oI, none⟩) l.length cap) (yl_move (by rfl) _ rfl _ rfl) ?_
      simp only [Act.put, lzA, lzB, lzC]
      refine wl_yield (o := ⟨_, _, _, _, _, _⟩) (.int .i64 (l.length : Nat)) (yt_lenQ (by rfl) _ rfl (some ⟨gI, oI, none⟩) l.length cap rfl) ?_
      simp only [Act.put, lzA, lzB, lzC]
      refine wl_yield (o := ⟨_, _, _, _, _, _⟩) (.bool true) (yt_lssI (by rfl) _ _ _ rfl ((k : Nat) : Int) ((l.length : Nat) : Int) true rfl rfl (decide_eq_true (by omega))) ?_
      simp only [Act.put, lzA, lzB, lzC]
      refine wpList_nil ?_
      refine hK7 _ _ ?_
      clear hK7 K7
      refine wp_cond_true rfl ?_
      refine wp_skip ?_
      refine hK6 _ _ ?_
      clear hK6 K6
      refine wp_seq_k (fun K8 hK8 => ?_)
      refine wp_block ?_
      refine wp_seq_k (fun K9 hK9 => ?_)
      refine wp_region_late (S := fun w' => (w'.cell? ⟨gI, oI + k * 4, none⟩ = some (.bool S.absent) ∧ w'.cell? ⟨gI, oI + k * 4 + 1, none⟩ = some (.slice ai S.ints.length ci) ∧ w'.cell? ⟨gI, oI + k * 4 + 2, none⟩ = some (.bool S.co) ∧ w'.cell? ⟨gI, oI + k * 4 + 3, none⟩ = some (.slice az S.strs.length cz)) ∧ (w'.cell? ⟨gJ, oJ + k * 4, none⟩ = some (.bool S.absent) ∧ w'.cell? ⟨gJ, oJ + k * 4 + 1, none⟩ = some (.slice bi S.ints.length di) ∧ w'.cell? ⟨gJ, oJ + k * 4 + 2, none⟩ = some (.bool S.co) ∧ w'.cell? ⟨gJ, oJ + k * 4 + 3, none⟩ = some (.slice bz S.strs.length dz))) (late := fun j => [].contains j) (by kernel_rfl) ?_
      have kb : Below wr.heap.size wr wr.drew := (Below.refl _ wr).drew
      replace D := grown_below D kb
      clear kb
      generalize wr.drew = v1 at D  ⊢
      refine wpAnyL_pure (i := 0) (oi := ⟨_, _, _, _, _, _⟩) (v := .slice (some ⟨gI, oI, none⟩) l.length cap) rfl (by kernel_rfl) (by kernel_rfl) (by kernel_rfl) (fun _ _ _ h => h) (yl_move (by rfl) _ rfl _ rfl) ?_
      simp only [Act.put, lzA, lzB, lzC]
      refine wpAnyL_pure (i := 1) (oi := ⟨_, _, _, _, _, _⟩) (v := .int .i64 (k : Nat)) rfl (by kernel_rfl) (by kernel_rfl) (by kernel_rfl) (fun _ _ _ h => h) (yl_move (by rfl) _ rfl _ rfl) ?_
      simp only [Act.put, lzA, lzB, lzC]
      refine wpAnyL_pure (i := 2) (oi := ⟨_, _, _, _, _, _⟩) (v := .pointer (some ⟨gI, oI + k * 4, none⟩)) rfl (by kernel_rfl) (by kernel_rfl) (by kernel_rfl) (fun _ _ _ h => h) (yt_atQ (by rfl) _ _ rfl gI oI _ _ k rfl rfl (hlt)) ?_
      simp only [Act.put, lzA, lzB, lzC]
      refine wpAnyL_load (i := 3) (oi := ⟨_, _, _, _, _, _⟩) (v := .agg #[.bool (S.absent), .slice ai S.ints.length ci, .bool (S.co), .slice az S.strs.length cz]) rfl (by kernel_rfl) (by kernel_rfl) (by kernel_rfl) (by kernel_rfl) (fun _ _ _ h => h) (yl_set (by rfl) _ rfl _ _ rfl _ _ _ _ (fun _ h => h.1)) ⟨⟨(cellD _ D _).trans C0, (cellD _ D _).trans C1, (cellD _ D _).trans C2, (cellD _ D _).trans C3⟩, ⟨(cellE _ D _).trans E0, (cellE _ D _).trans E1, (cellE _ D _).trans E2, (cellE _ D _).trans E3⟩⟩ ?_
      simp only [Act.put, lzA, lzB, lzC]
      refine wpAnyL_pure (i := 4) (oi := ⟨_, _, _, _, _, _⟩) (v := .slice (some ⟨gJ, oJ, none⟩) l.length cb) rfl (by kernel_rfl) (by kernel_rfl) (by kernel_rfl) (fun _ _ _ h => h) (yl_move (by rfl) _ rfl _ rfl) ?_
      simp only [Act.put, lzA, lzB, lzC]
      refine wpAnyL_pure (i := 5) (oi := ⟨_, _, _, _, _, _⟩) (v := .int .i64 (k : Nat)) rfl (by kernel_rfl) (by kernel_rfl) (by kernel_rfl) (fun _ _ _ h => h) (yl_move (by rfl) _ rfl _ rfl) ?_
      simp only [Act.put, lzA, lzB, lzC]
      refine wpAnyL_pure (i := 6) (oi := ⟨_, _, _, _, _, _⟩) (v := .pointer (some ⟨gJ, oJ + k * 4, none⟩)) rfl (by kernel_rfl) (by kernel_rfl) (by kernel_rfl) (fun _ _ _ h => h) (yt_atQ (by rfl) _ _ rfl gJ oJ _ _ k rfl rfl (hlt)) ?_
      simp only [Act.put, lzA, lzB, lzC]
      refine wpAnyL_load (i := 7) (oi := ⟨_, _, _, _, _, _⟩) (v := .agg #[.bool (S.absent), .slice bi S.ints.length di, .bool (S.co), .slice bz S.strs.length dz]) rfl (by kernel_rfl) (by kernel_rfl) (by kernel_rfl) (by kernel_rfl) (fun _ _ _ h => h) (yl_set (by rfl) _ rfl _ _ rfl _ _ _ _ (fun _ h => h.2)) ⟨⟨(cellD _ D _).trans C0, (cellD _ D _).trans C1, (cellD _ D _).trans C2, (cellD _ D _).trans C3⟩, ⟨(cellE _ D _).trans E0, (cellE _ D _).trans E1, (cellE _ D _).trans E2, (cellE _ D _).trans E3⟩⟩ ?_
      simp only [Act.put, lzA, lzB, lzC]
      refine wpAnyL_all (rs := [8]) (by kernel_rfl) (by simp) ?_
      intro j hj
      have hj := List.mem_singleton.1 hj
      subst hj
      refine ot_call (o := ⟨_, _, _, _, _, _⟩) rfl (by rfl) 54 _ _ rfl #[.agg #[.bool (S.absent), .slice ai S.ints.length ci, .bool (S.co), .slice az S.strs.length cz], .agg #[.bool (S.absent), .slice bi S.ints.length di, .bool (S.co), .slice bz S.strs.length dz]] rfl (run_call Tryz.func54 (by kernel_rfl) (by kernel_rfl)) ?_
      refine (refSame_any _ _ S S _ (show SetAt _ (SC.val ⟨S.absent, ai, S.ints.length, ci, S.co, az, S.strs.length, cz⟩) S from ⟨_, _, rfl, hI.on (below_none D), hT.on (below_none D)⟩) (show SetAt _ (SC.val ⟨S.absent, bi, S.ints.length, di, S.co, bz, S.strs.length, dz⟩) S from ⟨_, _, rfl, hI2.on (below_none D), hT2.on (below_none D)⟩)).mono ?_
      rintro r v2 (⟨rfl, kb⟩)
      replace D := grown_below D kb
      clear kb
      refine Or.inl ⟨.bool true, ret_bool ((sameB_iff S S).2 rfl), ⟨fun _ _ => ⟨⟨(cellD _ D _).trans C0, (cellD _ D _).trans C1, (cellD _ D _).trans C2, (cellD _ D _).trans C3⟩, ⟨(cellE _ D _).trans E0, (cellE _ D _).trans E1, (cellE _ D _).trans E2, (cellE _ D _).trans E3⟩⟩, ?_⟩⟩
      simp only [Act.put, lzA, lzB, lzC]
      refine wpAnyL_pure (i := 9) (oi := ⟨_, _, _, _, _, _⟩) (v := .bool false) rfl (by kernel_rfl) (by kernel_rfl) (by kernel_rfl) (fun _ _ _ h => h) (yl_not (by rfl) _ _ rfl true rfl) ?_
      simp only [Act.put, lzA, lzB, lzC]
      refine wpAnyL_done (by kernel_rfl) ?_ _
      refine hK9 _ _ ?_
      clear hK9 K9
      refine wp_cond_false rfl ?_
      refine wp_skip ?_
      refine hK8 _ _ ?_
      clear hK8 K8
      refine wp_region_lit ?_
      refine wl_yield (o := ⟨_, _, _, _, _, _⟩) (.int .i64 (k : Nat)) (yl_move (by rfl) _ rfl _ rfl) ?_
      simp only [Act.put, lzA, lzB, lzC]
      refine wl_yield (o := ⟨_, _, _, _, _, _⟩) (.int .i64 (k + 1 : Nat)) (yt_addI (by rfl) _ _ _ rfl ((k : Nat) : Int) 1 ((k + 1 : Nat) : Int) rfl rfl (by omega) (by omega) (by omega)) ?_
      simp only [Act.put, lzA, lzB, lzC]
      refine wl_yield (o := ⟨_, _, _, _, _, _⟩) (.int .i64 (k + 1 : Nat)) (yl_assign (by rfl) _ rfl _ rfl) ?_
      simp only [Act.put, lzA, lzB, lzC]
      refine wpList_nil ?_
      show _ ∧ _
      go_roundw
      case rel => exact ⟨k + 1, rfl, by omega, D⟩
      case measure => simp [intOf]; omega
    · obtain rfl : k = l.length := by omega
      refine wp_seq_k (fun K6 hK6 => ?_)
      refine wp_seq_k (fun K7 hK7 => ?_)
      refine wp_region_lit ?_
      refine wl_yield (o := ⟨_, _, _, _, _, _⟩) (.int .i64 (l.length : Nat)) (yl_move (by rfl) _ rfl _ rfl) ?_
      simp only [Act.put, lzA, lzB, lzC]
      refine wl_yield (o := ⟨_, _, _, _, _, _⟩) (.slice a l.length cap) (yl_move (by rfl) _ rfl _ rfl) ?_
      simp only [Act.put, lzA, lzB, lzC]
      refine wl_yield (o := ⟨_, _, _, _, _, _⟩) (.int .i64 (l.length : Nat)) (yt_lenQ (by rfl) _ rfl a l.length cap rfl) ?_
      simp only [Act.put, lzA, lzB, lzC]
      refine wl_yield (o := ⟨_, _, _, _, _, _⟩) (.bool false) (yt_lssI (by rfl) _ _ _ rfl ((l.length : Nat) : Int) ((l.length : Nat) : Int) false rfl rfl (decide_eq_false (by omega))) ?_
      simp only [Act.put, lzA, lzB, lzC]
      refine wpList_nil ?_
      refine hK7 _ _ ?_
      clear hK7 K7
      refine wp_cond_false rfl ?_
      refine wp_exit ?_
      refine hK4 _ _ ?_
      clear hK6 K6 hK4 K4
      refine wp_seq_k (fun K8 hK8 => ?_)
      refine wp_region_lit ?_
      refine wl_yield (o := ⟨_, _, _, _, _, _⟩) (.bool true) (yl_assign (by rfl) _ rfl _ rfl) ?_
      simp only [Act.put, lzA, lzB, lzC]
      refine wpList_nil ?_
      refine hK8 _ _ ?_
      clear hK8 K8
      refine wp_ret ?_
      try simp only [Exit.inBlock, Exit.then]
      go_ret
      exact ⟨rfl, below_none D⟩
end Go.Proofs.YtjbgjdjmejhejaaGreatDoor
namespace Go.Proofs.YtjbgjdjmejhejaaGreatDoor
open Go.RowKit
section
variable {ops : Array Oper} {S : World → Prop} {o : Oper} {a : Act}
theorem yq_neqB (hw : Region.wanted o (yielded ops a.tmps) = true) (x y : Operand) (t : TypeId) (ho : o.op = .binOp .neq 4 x y t) (p q : Bool) (hx : a.eval x = .bool p) (hy : a.eval y = .bool q) : YieldsIf Tryz.prog ops S o (.bool (p != q)) a :=
  Or.inl ⟨hw, fun w hS => by
    simp only [execOp, ho, hx, hy]
    cases p <;> cases q <;> go_simp⟩
end
theorem fit_few {S : SetV} (hr : rightSet S = true) (hi : inI64 S.ints) (h : fewB S = true) : Fit S := by
  unfold fewB at h
  simp only [Bool.and_eq_true, decide_eq_true_eq] at h
  exact ⟨⟨hr, hi⟩, by omega, by omega⟩
theorem few_len9 {S : SetV} (h : fewB S = true) : S.ints.length ≤ 40 ∧ S.strs.length ≤ 40 := by
  unfold fewB at h
  simp only [Bool.and_eq_true, decide_eq_true_eq] at h
  exact ⟨by omega, by omega⟩
end Go.Proofs.YtjbgjdjmejhejaaGreatDoor
namespace Go.Proofs.YtjbgjdjmejhejaaGreatDoor
open Go.Deep Go.ChangeShapes Go.WideShapes Go.ChangeAt Go.WideMaps Go.WideElems Go.RowKit Go.Joins
section
variable {H : Type} {enc : TypeId × Value → H} {W : World}
theorem open_set9c {fuel : Nat} {cs : List Value} {z : DataW H × List MemPlace} (hl : cs.length = 4) (hf : DataW.trod enc Tryz.prog W 0 (fun _ => true) true fuel 26 cs = some z) : ∃ (c : SC) (S : SetV), cs = c.lst ∧ SetAt W c.val S := by
  match cs, hl with
  | [c0, c1, c2, c3], _ =>
    obtain ⟨S0, h0⟩ := open_setc hf
    obtain ⟨s0, e0⟩ := h0.sc
    rw [e0] at h0
    unfold SC.val at e0
    simp at e0
    obtain ⟨rfl, rfl, rfl, rfl⟩ := e0
    exact ⟨s0, S0, rfl, h0⟩
set_option maxRecDepth 100000 in
theorem open_setsA {r : Reach} {b0 : Nat} {v : Value} {d : DataW H} {p : List MemPlace} (hv : Value.okWide Tryz.prog W r b0 39 v) (h : DataW.Trod enc Tryz.prog W 0 (fun _ => true) true 39 v d p) :
    ∃ l : List SetV, Sts W v l ∧ nilOkQ v := by
  obtain ⟨a0, len0, cap0, rfl⟩ := Go.WideShapes.okWide_slice Tryz.underlying39 hv
  obtain ⟨fuel, hf⟩ := h
  rcases DataW.trod_slice Tryz.underlying39 hf with ⟨h0, _⟩ | ⟨a, len, cap, elems, rest, n', rfl, h0, _, hb, hlc, hm, hel, he, _, _⟩
  · simp [Value.cells] at h0
    obtain ⟨rfl, rfl, rfl⟩ := h0
    exact ⟨[], sts_nil W, fun _ _ _ => rfl⟩
  · simp [Value.cells] at h0
    obtain ⟨rfl, rfl, rfl⟩ := h0
    have hone : ∀ i, i < len0 → ∃ cs' z, W.cells? 0 (a.add (i * 4)) 4 = some cs' ∧ DataW.trod enc Tryz.prog W 0 (fun _ => true) true n' 26 cs' = some z := fun i hi => by
      have h1 := he i hi
      rw [cellsSet, List.getElem?_eq_getElem (by omega), Option.bind_eq_some_iff] at h1
      obtain ⟨cs', h2, h3⟩ := h1
      exact ⟨cs', _, h2, h3⟩
    have hspot : 0 < len0 → a.spot = none := fun hpos => by
      obtain ⟨cs0, _, z1, _⟩ := hone 0 hpos
      obtain ⟨_, zl, zc⟩ := World.cells?_some z1
      have z0 := zc 0 (by omega)
      rw [List.getElem?_eq_getElem (by omega)] at z0
      simpa [Addr.add] using World.cell?_spot z0
    have hall : ∀ i, i < len0 → ∃ q : SC × SetV, W.rangeAt a.block (a.off + i * 4) q.1.lst ∧ SetAt W q.1.val q.2 := fun i hi => by
      obtain ⟨cs', z, h1, h2⟩ := hone i hi
      obtain ⟨_, zl, zc⟩ := World.cells?_some h1
      obtain ⟨c, b, hd, hx⟩ := open_set9c zl h2
      obtain ⟨bk, off, spot⟩ := a
      have hs : spot = none := hspot (by omega)
      subst hs hd
      have fj : ∀ j, ((Addr.mk bk off none).add (i * 4)).add j = ⟨bk, off + i * 4 + j, none⟩ := fun j => by rw [Go.Deep.add_add, Go.WideShapes.add_plain]; congr 1; omega
      refine ⟨(c, b), fun j u hu => ?_, hx⟩
      have hj : j < 4 := by
        have := (List.getElem?_eq_some_iff.1 hu).1
        rwa [SC.lst_len] at this
      have q := zc j hj
      rw [fj] at q
      exact q.trans hu
    have : Inhabited (SC × SetV) := ⟨(SC.zero, noSet)⟩
    obtain ⟨f, hf'⟩ := choose_lt hall
    refine ⟨(List.range len0).map fun i => (f i).2, ⟨(List.range len0).map fun i => (f i).1, ⟨by simp; unfold maxLen at hm; omega, some a, cap0, by simp, fun i hi => ?_⟩, by simp, fun i hi => ?_⟩, fun n c e => by cases e⟩
    · simp at hi
      obtain ⟨q1, q2⟩ := hf' i hi
      have hsp := hspot (by omega)
      have hg : ((List.range len0).map fun i => (f i).1).getD i SC.zero = (f i).1 := by
        rw [List.getD_eq_getElem?_getD, List.getElem?_map, List.getElem?_range hi]
        rfl
      rw [hg]
      refine ⟨a.block, a.off, by rw [← hsp], ?_, q1⟩
      have := q1 0 _ (List.getElem?_eq_getElem (by rw [SC.lst_len]; omega))
      exact lt_cell (a := ⟨a.block, _, none⟩) this
    · simp at hi
      obtain ⟨q1, q2⟩ := hf' i hi
      have hg : ((List.range len0).map fun i => (f i).1).getD i SC.zero = (f i).1 := by
        rw [List.getD_eq_getElem?_getD, List.getElem?_map, List.getElem?_range hi]
        rfl
      have hg2 : ((List.range len0).map fun i => (f i).2).getD i noSet = (f i).2 := by
        rw [List.getD_eq_getElem?_getD, List.getElem?_map, List.getElem?_range hi]
        rfl
      rw [hg, hg2]
      exact q2
set_option maxRecDepth 100000 in
theorem open_sets9 {r : Reach} {b0 : Nat} {v : Value} {d : DataW H} {p : List MemPlace} (hv : Value.okWide Tryz.prog W r b0 39 v) (h : DataW.Trod enc Tryz.prog W 0 (fun _ => true) true 39 v d p) :
    ∃ l : List SetV, SetsAt W v l ∧ nilOkQ v := by
  obtain ⟨l, ⟨cs, h1, h2⟩, h3⟩ := open_setsA hv h
  exact ⟨l, sets_of_row h1 h2, h3⟩
end
end Go.Proofs.YtjbgjdjmejhejaaGreatDoor
namespace Go.Proofs.YtjbgjdjmejhejaaGreatDoor
open Go.RowKit
section
variable {ops : Array Oper} {Q : Exit → Act → World → Prop} {o : Oper} {a : Act}
theorem wq_row0Q {rest : List Oper} {w : World} (hw : Region.wanted o (yielded ops a.tmps) = true) (ho : o.op = .buildSlice 39 0 #[])
    (h : ∀ W g, OwnT W w.heap.size (.slice (some ⟨g, 0, none⟩) 0 0) [] → Below w.heap.size w W → wpList Tryz.prog ops Q rest (a.put o.dst (.slice (some ⟨g, 0, none⟩) 0 0)) W) : wpList Tryz.prog ops Q (o :: rest) a w := by
  refine wl_run hw (.slice (some ⟨w.heap.size, 0, none⟩) 0 0) (w.alloc (.cells #[] 26)) ?_ (h _ _ ⟨rfl, Or.inr ⟨w.heap.size, 0, #[], rfl, Nat.le_refl _, heap_new _ _, Nat.le_refl _, by unfold maxLen; omega, rfl, rfl⟩⟩ ((Below.refl _ w).alloc (Nat.le_refl _) _))
  simp only [execOp, ho, List.map_toArray, List.map_nil]
  go_simp
end
theorem ScRow.below {w w' : World} {v : Value} {cs : List SC} (h : ScRow w v cs) (hb : Below w.heap.size w w') : ScRow w' v cs := h.on hb
theorem fewC_all {l : List SetV} (h : l.all fewB = true) (h2 : l.length ≤ 15) : FewC l := fewC_of (fun S hS => by have := few_len9 (List.all_eq_true.1 h S hS); omega) h2
theorem isE (sl : List UInt8) : (bs sl).toList.isEmpty = decide (sl = []) := by rw [bs_toList]; cases sl <;> rfl
theorem hasP_max {S : SetV} {q : Va} (h : hasP S q = true) : q.2.2.size ≤ maxLen := by
  have hr := hasB_right (show hasB S q.1 q.2.1 q.2.2 = true from h)
  unfold rightB at hr
  have e : ∀ s : ByteArray, s.toList.isEmpty = true → s.size ≤ maxLen := fun s h => by
    have : s = bs s.data.toList := rfl
    rw [this, isE] at h
    rw [this, bs_size, of_decide_eq_true h]
    exact Nat.zero_le _
  split at hr
  · simp only [Bool.and_eq_true] at hr; exact e _ hr.2
  · split at hr
    · exact e _ hr
    · split at hr
      · simp only [Bool.and_eq_true, decide_eq_true_eq] at hr; unfold maxLen; omega
      · cases hr
end Go.Proofs.YtjbgjdjmejhejaaGreatDoor
namespace Go.Proofs.YtjbgjdjmejhejaaGreatDoor
open Go.RowKit
set_option maxHeartbeats 2000000 in
set_option maxRecDepth 100000 in
theorem refFresh_any (v : Value) (l : List SetV) (s : ByteArray) (w : World) (hv : SetsAt w v l) (hs : s.size ≤ 1000) :
    Calls Tryz.prog 61 #[v, .string s] w fun r w' => (∃ t, r = .returned (.string t) ∧ FreshOut l s t) ∧ Below w.heap.size w w' := by
  have HV := hide hv
  obtain ⟨hlen, a, cap, rfl, hel⟩ := hv
  clear hel
  obtain ⟨N, hN⟩ : ∃ N : Nat, N = l.length := ⟨_, rfl⟩
  rw [← hN] at hlen HV ⊢
  have HN := hide hN
  clear hN
  go_enter Tryz.func61, Tryz.ntmps61
  go_wp2
  go_loopw [5] (fun i wr => ∃ K : Int, i = .int .i64 K ∧ 0 ≤ K ∧ K ≤ 100000 ∧ Hid (∀ j : Nat, (j : Int) < K → namedB l (tryS s j) = true) ∧ Hid (Below w.heap.size w wr)) (fun i _ => 100000 - (intOf i).toNat)
  case atStart => exact ⟨0, rfl, by omega, by omega, hide (fun j hj => by omega), hide (Below.refl _ _)⟩
  case round =>
    obtain ⟨K, rfl, k0, hk, HG, HB⟩ := hrel
    by_cases hkl : K < 100000
    · have D := hide (decimal_any K (by omega) (by omega) wr)
      have hd := itoa_short K.toNat (by omega)
      have HT : Hid (s ++ ⟨(Lib.itoa ((K.toNat : Nat) : Int)).toArray⟩ = tryS s K.toNat) := hide rfl
      rw [Int.toNat_of_nonneg k0] at hd HT
      generalize (⟨(Lib.itoa K).toArray⟩ : ByteArray) = d at *
      go_wp2_with fail
      refine (unhide D).mono ?_
      rintro r w1 ⟨rfl, b1⟩
      have B1 := hide (HB.out.trans (b1.mono HB.out.size))
      clear b1 D HB
      go_wp2
      rw [HT.out]
      clear HT
      generalize hT : tryS s K.toNat = t at *
      have HT := hide hT
      clear hT
      go_loopw [7, 8] (fun f i wr' => ∃ j : Nat, i = .int .i64 j ∧ j ≤ N ∧ wr' = w1 ∧ f = .bool ((l.take j).any fun S => inStrsB S.strs t)) (fun _ i _ => N - (intOf i).toNat)
      case atStart => exact ⟨0, rfl, by omega, rfl, rfl⟩
      case round =>
        obtain ⟨j, rfl, hj, rfl, rfl⟩ := hrel
        by_cases hjt : j < N
        · have hj' : j < l.length := by rw [← HN.out]; exact hjt
          obtain ⟨b, off, vi, vs, rfl, hb, c0, c1, c2, c3, hI, hS⟩ := (HV.out.on B1.out).at.2 j hj'
          have X := hide (inStrs_any vs _ t _ hS)
          have G0 : Hid (((l.take (j + 1)).any fun S => inStrsB S.strs t) = (((l.take j).any fun S => inStrsB S.strs t) || inStrsB (l.getD j noSet).strs t)) := hide (by
            rw [List.take_succ_eq_append_getElem hj', List.any_append, List.getD_eq_getElem?_getD, List.getElem?_eq_getElem hj']
            simp)
          generalize l.getD j noSet = S at *
          generalize ((l.take j).any fun S => inStrsB S.strs t) = f at *
          generalize inStrsB S.strs t = g at *
          clear hI hS
          cases f
          · go_wp2_with fail
            refine (unhide X).mono ?_
            rintro r w2 ⟨rfl, rfl⟩
            go_wp2
            exact ⟨⟨j + 1, by go_num, by omega, trivial, by rw [G0.out]; rfl⟩, by simp [intOf]; omega⟩
          · go_wp2
            exact ⟨⟨j + 1, by go_num, by omega, trivial, by rw [G0.out]; rfl⟩, by simp [intOf]; omega⟩
        · have hge : (N : Int) ≤ (j : Int) := by omega
          have G0 : ((l.take j).any fun S => inStrsB S.strs t) = namedB l t := by rw [List.take_of_length_le (by have := HN.out; omega)]; rfl
          rw [G0]
          clear G0
          cases G1 : namedB l t
          · have G2 := hide G1
            clear G1
            go_wp2
            go_ret
            exact ⟨⟨_, rfl, Or.inl ⟨K.toNat, by omega, HT.out.symm, G2.out⟩⟩, B1.out⟩
          · have G2 := hide G1
            clear G1
            go_wp2
            refine ⟨⟨K + 1, rfl, by omega, by omega, hide (fun i hi => ?_), B1⟩, by simp [intOf]; omega⟩
            by_cases hi' : (i : Int) < K
            · exact HG.out i hi'
            · rw [show i = K.toNat by omega, HT.out]; exact G2.out
    · have hge : (100000 : Int) ≤ K := by omega
      have G2 : Hid (∀ j : Nat, j < 100000 → namedB l (tryS s j) = true) := hide (fun j hj => HG.out j (by omega))
      go_wp2
      go_ret
      exact ⟨⟨s, rfl, Or.inr ⟨rfl, G2.out⟩⟩, HB.out⟩
end Go.Proofs.YtjbgjdjmejhejaaGreatDoor
