import Derived.Test.YtlfhpocfacaaeaaGreatR0
import Derived.Test.YtlfhpocfacaaeaaGreatR1
import Derived.Test.YtlfhpocfacaaeaaGreatQ5
set_option linter.unusedSimpArgs false
set_option linter.unusedVariables false
namespace Go.Proofs.YtlfhpocfacaaeaaGreat
open Go.RowKit
set_option maxHeartbeats 4000000 in
set_option maxRecDepth 100000 in
theorem copied6_any (c : BxC) (b : BoxV) (w : World) (hv : BoxAt w c.val b) (hlen : ∀ i, i < 4 → (b.get i).ints.length * 16 ≤ 140737488355328 ∧ (b.get i).strs.length * 16 ≤ 140737488355328) :
    Calls Tryz.prog 48 #[c.val] w fun r w' => (∃ (d : BxC) (m : Nat), r = .returned d.val ∧ w.heap.size ≤ m ∧ m ≤ w'.heap.size ∧ ∀ W, Kept m w' W → BoxAt W d.val b) ∧ Below w.heap.size w w' := by
  have D := Below.refl w.heap.size w
  go_enter Tryz.func48, Tryz.ntmps48
  refine wp_seq_k (fun K1 hK1 => ?_)
  refine wp_region_lit ?_
  refine wl_boxBc (o := ⟨_, _, _, _, _, _⟩) (by rfl) _ rfl rfl (fun v1 gb1 hggb1 HB kb => ?_)
  simp only [Act.put, lzA, lzB, lzC]
  replace D := D.trans (kb.mono D.size)
  clear kb
  refine wl_allocB (o := ⟨_, _, _, _, _, _⟩) (by rfl) rfl (fun v2 gb2 hggb2 HZ kb => ?_)
  simp only [Act.put, lzA, lzB, lzC]
  have gD2 : w.heap.size ≤ gb2 := Nat.le_trans D.size hggb2
  have nX : gb1 ≠ gb2 := by have := lt_heap HB; omega
  replace D := D.trans (kb.mono D.size)
  replace HB := HB.on kb
  clear kb
  obtain ⟨m, hm⟩ : ∃ m, m = v2.heap.size := ⟨_, rfl⟩
  have g1m : gb1 < m := by rw [hm]; exact lt_heap HB
  have g2m : gb2 < m := by rw [hm]; exact lt_heap HZ
  have gD1 : w.heap.size ≤ gb1 := hggb1
  have hmm : m ≤ v2.heap.size := by rw [hm]; exact Nat.le_refl _
  have wm : w.heap.size ≤ m := by omega
  refine wpList_nil ?_
  refine hK1 _ _ ?_
  clear hK1 K1
  refine wp_seq_k (fun K2 hK2 => ?_)
  refine wp_seq_k (fun K3 hK3 => ?_)
  refine wp_region_lit ?_
  refine wl_yield (o := ⟨_, _, _, _, _, _⟩) (.int .i64 0) (yl_move (by rfl) _ rfl _ rfl) ?_
  simp only [Act.put, lzA, lzB, lzC]
  refine wpList_nil ?_
  refine hK3 _ _ ?_
  clear hK3 K3
  refine wp_block ?_
  clear hm
  go_loopw [4] (fun i wr => ∃ (k : Nat) (cc : BxC), i = .int .i64 k ∧ k ≤ 4 ∧ BcIn wr gb1 cc ∧ BcIn wr gb2 bc0 ∧ (∀ j, j < k → ∀ W, Kept m wr W → SetAt W (cc.sc j).val (b.get j)) ∧ (∀ j, k ≤ j → j < 4 → cc.sc j = c.sc j) ∧ m ≤ wr.heap.size ∧ Below w.heap.size w wr) (fun i _ => 4 - (intOf i).toNat)
  case atStart => exact ⟨0, c, rfl, by omega, HB, HZ, fun j h => by omega, fun _ _ _ => rfl, hmm, D⟩
  case round =>
    clear D HB HZ hmm
    obtain ⟨k, cc, rfl, hk, HB, HZ, hN, hO, hmm, D⟩ := hrel
    have K := Kept.refl m wr
    by_cases hlt : k < 4
    · have ek := hO k (Nat.le_refl _) hlt
      refine wp_seq_k (fun K4 hK4 => ?_)
      refine wp_region_lit ?_
      refine wl_yield (o := ⟨_, _, _, _, _, _⟩) (.bool true) (yl_lssI (by rfl) _ _ _ rfl (((k : Nat) : Int)) (4) true rfl rfl (decide_eq_true (by omega))) ?_
      simp only [Act.put, lzA, lzB, lzC]
      refine wpList_nil ?_
      refine hK4 _ _ ?_
      clear hK4 K4
      refine wp_seq_k (fun K5 hK5 => ?_)
      refine wp_cond_true rfl ?_
      refine wp_skip ?_
      refine hK5 _ _ ?_
      clear hK5 K5
      refine wp_seq_k (fun K6 hK6 => ?_)
      refine wp_block ?_
      refine wp_seq_k (fun K7 hK7 => ?_)
      refine wp_region_lit ?_
      refine wl_yield (o := ⟨_, _, _, _, _, _⟩) (.int .i64 (k : Nat)) (yl_move (by rfl) _ rfl _ rfl) ?_
      simp only [Act.put, lzA, lzB, lzC]
      refine wl_yield (o := ⟨_, _, _, _, _, _⟩) (.int .i64 (k : Nat)) (yl_assign (by rfl) _ rfl _ rfl) ?_
      simp only [Act.put, lzA, lzB, lzC]
      refine wpList_nil ?_
      refine hK7 _ _ ?_
      clear hK7 K7
      refine wp_seq_k (fun K8 hK8 => ?_)
      refine wp_region_lit ?_
      refine wl_yield (o := ⟨_, _, _, _, _, _⟩) (.int .i64 (k : Nat)) (yl_move (by rfl) _ rfl _ rfl) ?_
      simp only [Act.put, lzA, lzB, lzC]
      refine wl_yield (o := ⟨_, _, _, _, _, _⟩) (.int .i64 (k : Nat)) (yl_move (by rfl) _ rfl _ rfl) ?_
      simp only [Act.put, lzA, lzB, lzC]
      refine wl_yield (o := ⟨_, _, _, _, _, _⟩) (.pointer (some ⟨gb1, k * 4, none⟩)) (yl_atBox (by rfl) _ _ rfl gb1 k rfl rfl (hlt)) ?_
      simp only [Act.put, lzA, lzB, lzC]
      refine wl_yield (o := ⟨_, _, _, _, _, _⟩) (.pointer (some ⟨gb1, k * 4 + 1, none⟩)) (yl_setI (by rfl) _ rfl gb1 (k * 4) rfl) ?_
      simp only [Act.put, lzA, lzB, lzC]
      refine wl_yield (o := ⟨_, _, _, _, _, _⟩) (.slice (BxC.sc cc k).p ((BxC.sc cc k).n) ((BxC.sc cc k).c)) (yl_rowR (by rfl) _ rfl _ _ rfl _ _ _ (fun _ h => by subst h; exact BcIn.scI k hlt HB)) ?_
      simp only [Act.put, lzA, lzB, lzC]
      have hmo := hmm
      refine wl_call (o := ⟨_, _, _, _, _, _⟩) (by rfl) 85 _ _ rfl #[.slice (BxC.sc cc k).p ((BxC.sc cc k).n) ((BxC.sc cc k).c)] rfl (run_call Tryz.func85 (by kernel_rfl) (by kernel_rfl)) ?_
      refine (cloneR_new _ (b.get k).ints _ (by rw [ek]; exact ((hv.on D).sc k hlt).getInts) (hlen k hlt).1).mono ?_
      rintro r v3 ⟨⟨pi, ni, di, rfl, hI⟩, kb⟩
      replace D := D.trans (kb.mono D.size)
      replace K := K.trans (Kept.ofBelow kb)
      replace hmm := Nat.le_trans hmm kb.size
      replace HB := HB.on kb
      replace HZ := HZ.on kb
      clear kb
      replace hI := fun W (h : Kept m _ W) => hI W (h.mono hmo)
      clear hmo
      refine ⟨.slice pi ni di, rfl, ?_⟩
      simp only [Act.put, lzA, lzB, lzC]
      refine wl_yield (o := ⟨_, _, _, _, _, _⟩) (.pointer (some ⟨gb1, k * 4, none⟩)) (yl_atBox (by rfl) _ _ rfl gb1 k rfl rfl (hlt)) ?_
      simp only [Act.put, lzA, lzB, lzC]
      refine wl_yield (o := ⟨_, _, _, _, _, _⟩) (.pointer (some ⟨gb1, k * 4 + 1, none⟩)) (yl_setI (by rfl) _ rfl gb1 (k * 4) rfl) ?_
      simp only [Act.put, lzA, lzB, lzC]
      refine wl_putI (o := ⟨_, _, _, _, _, _⟩) (by rfl) _ _ rfl gb1 (k * 4 + 1) pi ni di rfl rfl _ (BcIn.scI k hlt HB) (HB.bx.soft _) ?_
      simp only [Act.put, lzA, lzB, lzC]
      have ks := Kept.setCell (m := m) v3 gb1 (k * 4 + 1) (.slice pi ni di) g1m
      have ki := in1_setCell v3 gb1 (k * 4 + 1) (.slice pi ni di)
      replace HB := put_intsK pi ni di k hlt HB
      replace HZ : BcIn _ _ bc0 := (ki.other _ nX.symm).trans HZ
      replace D := ki.below _ _ gD1 D
      replace K := K.trans ks
      replace hmm := Nat.le_trans hmm ks.size
      obtain ⟨c1, hc1⟩ : ∃ x, x = BxC.put cc k ((cc.sc k).withI pi ni di) := ⟨_, rfl⟩
      rw [← hc1] at HB
      have e1 : c1.sc k = (cc.sc k).withI pi ni di := by rw [hc1, BxC.put_sc _ _ _ _ hlt hlt, if_pos rfl]
      have o1 : ∀ j, j < 4 → j ≠ k → c1.sc j = cc.sc j := fun j h1 h2 => by rw [hc1, BxC.put_sc _ _ _ _ hlt h1, if_neg h2]
      replace hI := fun W (h : Kept m _ W) => hI W (ks.trans h)
      generalize v3.setCell ⟨gb1, k * 4 + 1, none⟩ (.slice pi ni di) = v4 at *
      clear ks ki hc1
      refine wpList_nil ?_
      refine hK8 _ _ ?_
      clear hK8 K8
      refine wp_region_lit ?_
      refine wl_yield (o := ⟨_, _, _, _, _, _⟩) (.int .i64 (k : Nat)) (yl_move (by rfl) _ rfl _ rfl) ?_
      simp only [Act.put, lzA, lzB, lzC]
      refine wl_yield (o := ⟨_, _, _, _, _, _⟩) (.int .i64 (k : Nat)) (yl_move (by rfl) _ rfl _ rfl) ?_
      simp only [Act.put, lzA, lzB, lzC]
      refine wl_yield (o := ⟨_, _, _, _, _, _⟩) (.pointer (some ⟨gb1, k * 4, none⟩)) (yl_atBox (by rfl) _ _ rfl gb1 k rfl rfl (hlt)) ?_
      simp only [Act.put, lzA, lzB, lzC]
      refine wl_yield (o := ⟨_, _, _, _, _, _⟩) (.pointer (some ⟨gb1, k * 4 + 3, none⟩)) (yl_setS (by rfl) _ rfl gb1 (k * 4) rfl) ?_
      simp only [Act.put, lzA, lzB, lzC]
      refine wl_yield (o := ⟨_, _, _, _, _, _⟩) (.slice (BxC.sc c1 k).q ((BxC.sc c1 k).m) ((BxC.sc c1 k).e)) (yl_rowS (by rfl) _ rfl _ _ rfl _ _ _ (fun _ h => by subst h; exact BcIn.scS k hlt HB)) ?_
      simp only [Act.put, lzA, lzB, lzC]
      have hmo := hmm
      refine wl_call (o := ⟨_, _, _, _, _, _⟩) (by rfl) 86 _ _ rfl #[.slice (BxC.sc c1 k).q ((BxC.sc c1 k).m) ((BxC.sc c1 k).e)] rfl (run_call Tryz.func86 (by kernel_rfl) (by kernel_rfl)) ?_
      refine (cloneS_new _ (b.get k).strs _ (by rw [e1, ek]; exact ((hv.on D).sc k hlt).getStrs) (hlen k hlt).2).mono ?_
      rintro r v5 ⟨⟨ps, ns, ds, rfl, hS⟩, kb⟩
      have kbc := kb
      replace D := D.trans (kb.mono D.size)
      replace K := K.trans (Kept.ofBelow kb)
      replace hmm := Nat.le_trans hmm kb.size
      replace HB := HB.on kb
      replace HZ := HZ.on kb
      clear kb
      replace hS := fun W (h : Kept m _ W) => hS W (h.mono hmo)
      replace hI := fun W (h : Kept m _ W) => hI W ((Kept.ofBelow kbc).trans h)
      clear hmo
      refine ⟨.slice ps ns ds, rfl, ?_⟩
      simp only [Act.put, lzA, lzB, lzC]
      refine wl_yield (o := ⟨_, _, _, _, _, _⟩) (.pointer (some ⟨gb1, k * 4, none⟩)) (yl_atBox (by rfl) _ _ rfl gb1 k rfl rfl (hlt)) ?_
      simp only [Act.put, lzA, lzB, lzC]
      refine wl_yield (o := ⟨_, _, _, _, _, _⟩) (.pointer (some ⟨gb1, k * 4 + 3, none⟩)) (yl_setS (by rfl) _ rfl gb1 (k * 4) rfl) ?_
      simp only [Act.put, lzA, lzB, lzC]
      refine wl_putS (o := ⟨_, _, _, _, _, _⟩) (by rfl) _ _ rfl gb1 (k * 4 + 3) ps ns ds rfl rfl _ (BcIn.scS k hlt HB) (HB.bx.soft _) ?_
      simp only [Act.put, lzA, lzB, lzC]
      have ks := Kept.setCell (m := m) v5 gb1 (k * 4 + 3) (.slice ps ns ds) g1m
      have ki := in1_setCell v5 gb1 (k * 4 + 3) (.slice ps ns ds)
      replace HB := put_strsK ps ns ds k hlt HB
      replace HZ : BcIn _ _ bc0 := (ki.other _ nX.symm).trans HZ
      replace D := ki.below _ _ gD1 D
      replace K := K.trans ks
      replace hmm := Nat.le_trans hmm ks.size
      obtain ⟨c2, hc2⟩ : ∃ x, x = BxC.put c1 k ((c1.sc k).withS ps ns ds) := ⟨_, rfl⟩
      rw [← hc2] at HB
      have e2 : c2.sc k = (c1.sc k).withS ps ns ds := by rw [hc2, BxC.put_sc _ _ _ _ hlt hlt, if_pos rfl]
      have o2 : ∀ j, j < 4 → j ≠ k → c2.sc j = c1.sc j := fun j h1 h2 => by rw [hc2, BxC.put_sc _ _ _ _ hlt h1, if_neg h2]
      replace hI := fun W (h : Kept m _ W) => hI W (ks.trans h)
      replace hS := fun W (h : Kept m _ W) => hS W (ks.trans h)
      generalize v5.setCell ⟨gb1, k * 4 + 3, none⟩ (.slice ps ns ds) = v6 at *
      clear ks ki hc2
      refine wpList_nil ?_
      refine hK6 _ _ ?_
      clear hK6 K6
      refine wp_region_lit ?_
      refine wl_yield (o := ⟨_, _, _, _, _, _⟩) (.int .i64 (k + 1 : Nat)) (yl_addI (by rfl) _ _ _ rfl (((k : Nat) : Int)) (1) (((k + 1 : Nat) : Int)) rfl rfl (by omega) (by omega) (by omega)) ?_
      simp only [Act.put, lzA, lzB, lzC]
      refine wl_yield (o := ⟨_, _, _, _, _, _⟩) (.int .i64 (k + 1 : Nat)) (yl_move (by rfl) _ rfl _ rfl) ?_
      simp only [Act.put, lzA, lzB, lzC]
      refine wpList_nil ?_
      show _ ∧ _
      go_roundw
      case rel => exact ⟨k + 1, c2, rfl, by omega, HB, HZ, fun j hj W hW => by
        rcases Nat.lt_succ_iff_lt_or_eq.1 hj with h | rfl
        · rw [o2 j (by omega) (by omega), o1 j (by omega) (by omega)]
          exact hN j h W (K.trans hW)
        · have hb := ((hv.sc j hlt).scForm)
          refine ⟨_, _, ?_, hI W hW, hS W hW⟩
          rw [e2, e1, ek]
          unfold SC.withS SC.withI SC.val
          dsimp only
          rw [hb.1, hb.2.2.1], fun j h1 h2 => by rw [o2 j h2 (by omega), o1 j h2 (by omega)]; exact hO j (by omega) h2, hmm, D⟩
      case measure => simp [intOf]; omega
    · refine wp_seq_k (fun K4 hK4 => ?_)
      refine wp_region_lit ?_
      refine wl_yield (o := ⟨_, _, _, _, _, _⟩) (.bool false) (yl_lssI (by rfl) _ _ _ rfl (((k : Nat) : Int)) (4) false rfl rfl (decide_eq_false (by omega))) ?_
      simp only [Act.put, lzA, lzB, lzC]
      refine wpList_nil ?_
      refine hK4 _ _ ?_
      clear hK4 K4
      refine wp_seq_k (fun K5 hK5 => ?_)
      refine wp_cond_false rfl ?_
      refine wp_exit ?_
      refine hK2 _ _ ?_
      clear hK5 K5 hK2 K2
      refine wp_seq_k (fun K6 hK6 => ?_)
      refine wp_region_lit ?_
      refine wl_yield (o := ⟨_, _, _, _, _, _⟩) (BxC.val cc) (yl_bx (by rfl) _ rfl _ _ rfl _ (fun _ h => by subst h; exact BcIn.at HB)) ?_
      simp only [Act.put, lzA, lzB, lzC]
      refine wl_putB (o := ⟨_, _, _, _, _, _⟩) rfl _ _ rfl gb2 0 cc rfl rfl HZ.there ?_
      simp only [Act.put, lzA, lzB, lzC]
      have ks := Kept.setCells (m := m) wr 0 cc.list g2m
      replace HZ := bcIn_put (d := cc) HZ
      replace D : Below w.heap.size w _ := Below.setCells gb2 gD2 cc.list 0 _ D
      replace hmm := Nat.le_trans hmm ks.size
      replace K := K.trans ks
      generalize wr.setCells gb2 0 cc.list = v3 at *
      clear ks
      refine wpList_nil ?_
      refine hK6 _ _ ?_
      clear hK6 K6
      refine wp_ret ?_
      try simp only [Exit.inBlock, Exit.then]
      exact bodyPost_ret (results_cell_row rfl _ _ gb2 47 _ (0, 0) _ rfl HZ.bx Tryz.underlying47 rfl infoBx) rfl ⟨⟨cc, m, rfl, wm, hmm, fun W hW => box_scs fun j hj => hN j (by omega) W (K.trans hW)⟩, D⟩
end Go.Proofs.YtlfhpocfacaaeaaGreat
namespace Go.Proofs.YtlfhpocfacaaeaaGreat
open Go.RowKit
set_option maxHeartbeats 4000000 in
set_option maxRecDepth 100000 in
theorem tidied_base (v : Value) (l : List BoxV) (w : World) (hv : Bxs w v l) (fl : FitL l) (hl : l.length ≤ 1000) :
    Calls Tryz.prog 47 #[v] w fun r w' => (∃ u ks, r = .returned u ∧ OwnB w' w.heap.size u ks ∧ AllBx w ks (tidP l)) ∧ Below w.heap.size w w' := by
  obtain ⟨cs, hr, ha⟩ := hv
  have hbig := hr.1
  have hcl := ha.1
  obtain ⟨q, cp, rfl⟩ := hr.form
  have D := Below.refl w.heap.size w
  go_enter Tryz.func47, Tryz.ntmps47
  refine wp_seq_k (fun K1 hK1 => ?_)
  refine wp_region_lit ?_
  refine wl_yield (o := ⟨_, _, _, _, _, _⟩) (.slice none 0 0) (yl_assign (by rfl) _ rfl _ rfl) ?_
  simp only [Act.put, lzA, lzB, lzC]
  refine wpList_nil ?_
  refine hK1 _ _ ?_
  clear hK1 K1
  refine wp_seq_k (fun K2 hK2 => ?_)
  refine wp_region_lit ?_
  refine wl_yield (o := ⟨_, _, _, _, _, _⟩) (.slice none 0 0) (yl_assign (by rfl) _ rfl _ rfl) ?_
  simp only [Act.put, lzA, lzB, lzC]
  refine wpList_nil ?_
  refine hK2 _ _ ?_
  clear hK2 K2
  refine wp_seq_k (fun K3 hK3 => ?_)
  refine wp_seq_k (fun K4 hK4 => ?_)
  refine wp_region_lit ?_
  refine wl_yield (o := ⟨_, _, _, _, _, _⟩) (.slice q cs.length cp) (yl_move (by rfl) _ rfl _ rfl) ?_
  simp only [Act.put, lzA, lzB, lzC]
  refine wl_yield (o := ⟨_, _, _, _, _, _⟩) (.int .i64 (cs.length : Nat)) (yl_lenB (by rfl) _ rfl _ _ _ rfl) ?_
  simp only [Act.put, lzA, lzB, lzC]
  refine wl_yield (o := ⟨_, _, _, _, _, _⟩) (.int .i64 0) (yl_move (by rfl) _ rfl _ rfl) ?_
  simp only [Act.put, lzA, lzB, lzC]
  refine wpList_nil ?_
  refine hK4 _ _ ?_
  clear hK4 K4
  refine wp_block ?_
  go_loopw [3, 8] (fun u i wr => ∃ (k : Nat) (ks : List BxC), i = .int .i64 k ∧ k ≤ cs.length ∧ OwnB wr w.heap.size u ks ∧ AllBx w ks (tidP (l.take k)) ∧ Below w.heap.size w wr) (fun _ i _ => cs.length - (intOf i).toNat)
  case atStart => exact ⟨0, [], rfl, by omega, ownB_nil _ _, ⟨rfl, fun i h => by simp [tidP] at h⟩, D⟩
  case round =>
    clear D
    obtain ⟨k, ks, rfl, hk, hown, hA, D⟩ := hrel
    by_cases hlt : k < cs.length
    · have hkl : k < l.length := by rw [← ha.1]; exact hlt
      obtain ⟨g, off, rfl, HC⟩ := (hr.on D).at.2 k hlt
      have hownR := hown
      have hKL := tidP_len l k (by omega)
      have hKM := tidP_mem l k (by omega)
      have hKF : FitL (tidP (l.take k)) := fun x hx => fl x (hKM x hx)
      have hks : ks.length ≤ 1000 := by rw [hA.1]; omega
      have fb : FitBx (l.getD k zBox) := fl _ (getB_mem hkl)
      have hb := ha.2 k hkl
      refine wp_seq_k (fun K5 hK5 => ?_)
      refine wp_region_lit ?_
      refine wl_yield (o := ⟨_, _, _, _, _, _⟩) (.bool true) (yl_lssI (by rfl) _ _ _ rfl (((k : Nat) : Int)) (((cs.length : Nat) : Int)) true rfl rfl (decide_eq_true (by omega))) ?_
      simp only [Act.put, lzA, lzB, lzC]
      refine wpList_nil ?_
      refine hK5 _ _ ?_
      clear hK5 K5
      refine wp_seq_k (fun K6 hK6 => ?_)
      refine wp_cond_true rfl ?_
      refine wp_skip ?_
      refine hK6 _ _ ?_
      clear hK6 K6
      refine wp_seq_k (fun K7 hK7 => ?_)
      refine wp_block ?_
      refine wp_seq_k (fun K8 hK8 => ?_)
      refine wp_region_lit ?_
      refine wl_yield (o := ⟨_, _, _, _, _, _⟩) (.pointer (some ⟨g, off + k * 16, none⟩)) (yl_bxAt (by rfl) _ _ rfl g (off) _ _ (k) rfl rfl (hlt)) ?_
      simp only [Act.put, lzA, lzB, lzC]
      refine wl_yield (o := ⟨_, _, _, _, _, _⟩) (BxC.val (cs.getD k bc0)) (yl_bx (by rfl) _ rfl _ _ rfl _ (fun _ h => by subst h; exact HC)) ?_
      simp only [Act.put, lzA, lzB, lzC]
      refine wl_newB (o := ⟨_, _, _, _, _, _⟩) (o2 := ⟨_, _, _, _, _, _⟩) (by rfl) rfl _ _ rfl rfl (fun _ => rfl) (fun _ => rfl) (fun v1 gb1 hggb1 HQ kb => ?_)
      simp only [Act.put, lzA, lzB, lzC]
      replace D := D.trans (kb.mono D.size)
      replace hown := hown.on kb
      clear kb
      refine wpList_nil ?_
      refine hK8 _ _ ?_
      clear hK8 K8
      refine wp_seq_k (fun K9 hK9 => ?_)
      refine wp_seq_k (fun K10 hK10 => ?_)
      refine wp_region_lit ?_
      refine wl_yield (o := ⟨_, _, _, _, _, _⟩) (BxC.val (cs.getD k bc0)) (yl_bx (by rfl) _ rfl _ _ rfl _ (fun _ h => by subst h; exact BcIn.at HQ)) ?_
      simp only [Act.put, lzA, lzB, lzC]
      refine wl_call (o := ⟨_, _, _, _, _, _⟩) (by rfl) 80 _ _ rfl #[BxC.val (cs.getD k bc0)] rfl (run_call Tryz.func80 (by kernel_rfl) (by kernel_rfl)) ?_
      refine (boxProg0.empty _ _ _ (hb.on D) fb).mono ?_
      rintro r v2 ⟨rfl, kb⟩
      replace D := D.trans (kb.mono D.size)
      replace hown := hown.on kb
      replace HQ := HQ.on kb
      clear kb
      cases hq1 : emptyBx (l.getD k zBox)
      · refine ⟨.bool false, rfl, ?_⟩
        simp only [Act.put, lzA, lzB, lzC]
        refine wl_yield (o := ⟨_, _, _, _, _, _⟩) (.bool false) (yl_move (by rfl) _ rfl _ rfl) ?_
        simp only [Act.put, lzA, lzB, lzC]
        refine wl_yield (o := ⟨_, _, _, _, _, _⟩) (BxC.val (cs.getD k bc0)) (yl_bx (by rfl) _ rfl _ _ rfl _ (fun _ h => by subst h; exact BcIn.at HQ)) ?_
        simp only [Act.put, lzA, lzB, lzC]
        refine wl_yield (o := ⟨_, _, _, _, _, _⟩) (u3) (yl_move (by rfl) _ rfl _ rfl) ?_
        simp only [Act.put, lzA, lzB, lzC]
        refine wl_call (o := ⟨_, _, _, _, _, _⟩) (by rfl) 81 _ _ rfl #[BxC.val (cs.getD k bc0), u3] rfl (run_call Tryz.func81 (by kernel_rfl) (by kernel_rfl)) ?_
        refine (liesInOne_any (cs.getD k bc0) (l.getD k zBox) u3 ks (tidP (l.take k)) _ (hb.on D) fb (hown.row (by omega)) (hA.on D) hKF).mono ?_
        rintro r v3 ⟨rfl, kb⟩
        replace D := D.trans (kb.mono D.size)
        replace hown := hown.on kb
        replace HQ := HQ.on kb
        clear kb
        cases hq2 : (tidP (l.take k)).any fun k' => inBx (l.getD k zBox) k'
        · refine ⟨.bool false, rfl, ?_⟩
          simp only [Act.put, lzA, lzB, lzC]
          refine wl_yield (o := ⟨_, _, _, _, _, _⟩) (.bool false) (yl_pickF (by rfl) _ _ _ rfl rfl _ rfl) ?_
          simp only [Act.put, lzA, lzB, lzC]
          refine wpList_nil ?_
          refine hK10 _ _ ?_
          clear hK10 K10
          refine wp_cond_false rfl ?_
          refine wp_skip ?_
          refine hK9 _ _ ?_
          clear hK9 K9
          refine wp_seq_k (fun K11 hK11 => ?_)
          refine wp_region_lit ?_
          refine wl_yield (o := ⟨_, _, _, _, _, _⟩) (u3) (yl_move (by rfl) _ rfl _ rfl) ?_
          simp only [Act.put, lzA, lzB, lzC]
          refine wl_yield (o := ⟨_, _, _, _, _, _⟩) (.func (.func 83) #[] #[.pointer (some ⟨gb1, 0, none⟩)]) (yl_fn (by rfl) _ _ rfl _ rfl) ?_
          simp only [Act.put, lzA, lzB, lzC]
          refine wl_call (o := ⟨_, _, _, _, _, _⟩) (by rfl) 82 _ _ rfl #[u3, .func (.func 83) #[] #[.pointer (some ⟨gb1, 0, none⟩)]] rfl (run_call Tryz.func82 (by kernel_rfl) (by kernel_rfl)) ?_
          refine (deleteB_any 83 (run_call Tryz.func83 (by kernel_rfl) (by kernel_rfl)) _ u3 w.heap.size ks (fun i => inBx ((tidP (l.take k)).getD i zBox) (l.getD k zBox)) _ hown D.size hks (fun i hi W hW => tidied1_any _ _ _ _ _ _ ((hA.2 i (by rw [← hA.1]; exact hi)).on (D.trans hW.b)) ((hW.k _ (lt_heap HQ) (hownR.ne hggb1)).trans HQ) (hb.on (D.trans hW.b)) (hKF _ (getB_mem (by rw [← hA.1]; exact hi))) fb)).mono ?_
          rintro r v4 ⟨⟨u2, rfl, hown2⟩, kb⟩
          replace D := D.trans kb.b
          replace hown := hown2
          replace HQ : BcIn v4 gb1 (cs.getD k bc0) := (kb.k _ (lt_heap HQ) (hownR.ne hggb1)).trans HQ
          clear hown2 kb
          refine ⟨u2, rfl, ?_⟩
          simp only [Act.put, lzA, lzB, lzC]
          refine wl_yield (o := ⟨_, _, _, _, _, _⟩) (u2) (yl_assign (by rfl) _ rfl _ rfl) ?_
          simp only [Act.put, lzA, lzB, lzC]
          refine wpList_nil ?_
          refine hK11 _ _ ?_
          clear hK11 K11
          refine wp_region_lit ?_
          refine wl_yield (o := ⟨_, _, _, _, _, _⟩) (u2) (yl_move (by rfl) _ rfl _ rfl) ?_
          simp only [Act.put, lzA, lzB, lzC]
          refine wl_yield (o := ⟨_, _, _, _, _, _⟩) (BxC.val (cs.getD k bc0)) (yl_bx (by rfl) _ rfl _ _ rfl _ (fun _ h => by subst h; exact BcIn.at HQ)) ?_
          simp only [Act.put, lzA, lzB, lzC]
          refine wl_rowB1 (o := ⟨_, _, _, _, _, _⟩) (by rfl) _ rfl rfl (fun v5 gb5 hggb5 IO24 kb => ?_)
          simp only [Act.put, lzA, lzB, lzC]
          replace D := D.trans (kb.mono D.size)
          replace hown := hown.on kb
          replace HQ := HQ.on kb
          clear kb
          refine wl_appB (o := ⟨_, _, _, _, _, _⟩) (by rfl) _ _ rfl w.heap.size u2 (keptB (fun i => inBx ((tidP (l.take k)).getD i zBox) (l.getD k zBox)) ks ks.length) rfl hown gb5 (cs.getD k bc0) rfl IO24 (by have := keptB_le (fun i => inBx ((tidP (l.take k)).getD i zBox) (l.getD k zBox)) ks ks.length; omega) D.size (fun u9 v6 hown3 kb hs3 => ?_)
          simp only [Act.put, lzA, lzB, lzC]
          replace D := D.trans kb
          replace hown := hown3
          clear hown3 kb hs3
          refine wl_yield (o := ⟨_, _, _, _, _, _⟩) (u9) (yl_assign (by rfl) _ rfl _ rfl) ?_
          simp only [Act.put, lzA, lzB, lzC]
          refine wpList_nil ?_
          refine hK7 _ _ ?_
          clear hK7 K7
          refine wp_region_lit ?_
          refine wl_yield (o := ⟨_, _, _, _, _, _⟩) (.int .i64 (k + 1 : Nat)) (yl_addI (by rfl) _ _ _ rfl (((k : Nat) : Int)) (1) (((k + 1 : Nat) : Int)) rfl rfl (by omega) (by omega) (by omega)) ?_
          simp only [Act.put, lzA, lzB, lzC]
          refine wl_yield (o := ⟨_, _, _, _, _, _⟩) (.int .i64 (k + 1 : Nat)) (yl_move (by rfl) _ rfl _ rfl) ?_
          simp only [Act.put, lzA, lzB, lzC]
          refine wpList_nil ?_
          show _ ∧ _
          go_roundw
          case rel => exact ⟨k + 1, _, rfl, by omega, hown, tidied_step hA hkl hb (.inl ⟨hq1, hq2, rfl⟩), D⟩
          case measure => simp [intOf]; omega
        · refine ⟨.bool true, rfl, ?_⟩
          simp only [Act.put, lzA, lzB, lzC]
          refine wl_yield (o := ⟨_, _, _, _, _, _⟩) (.bool true) (yl_pickF (by rfl) _ _ _ rfl rfl _ rfl) ?_
          simp only [Act.put, lzA, lzB, lzC]
          refine wpList_nil ?_
          refine hK10 _ _ ?_
          clear hK10 K10
          refine wp_cond_true rfl ?_
          refine wp_exit ?_
          refine hK7 _ _ ?_
          clear hK9 K9 hK7 K7
          refine wp_region_lit ?_
          refine wl_yield (o := ⟨_, _, _, _, _, _⟩) (.int .i64 (k + 1 : Nat)) (yl_addI (by rfl) _ _ _ rfl (((k : Nat) : Int)) (1) (((k + 1 : Nat) : Int)) rfl rfl (by omega) (by omega) (by omega)) ?_
          simp only [Act.put, lzA, lzB, lzC]
          refine wl_yield (o := ⟨_, _, _, _, _, _⟩) (.int .i64 (k + 1 : Nat)) (yl_move (by rfl) _ rfl _ rfl) ?_
          simp only [Act.put, lzA, lzB, lzC]
          refine wpList_nil ?_
          show _ ∧ _
          go_roundw
          case rel => exact ⟨k + 1, _, rfl, by omega, hown, tidied_step hA hkl hb (.inr ⟨.inr hq2, rfl⟩), D⟩
          case measure => simp [intOf]; omega
      · refine ⟨.bool true, rfl, ?_⟩
        simp only [Act.put, lzA, lzB, lzC]
        refine wl_yield (o := ⟨_, _, _, _, _, _⟩) (.bool true) (yl_move (by rfl) _ rfl _ rfl) ?_
        simp only [Act.put, lzA, lzB, lzC]
        refine wl_yield (o := ⟨_, _, _, _, _, _⟩) undef (yl_undef (by rfl)) ?_
        simp only [Act.put, lzA, lzB, lzC]
        refine wl_yield (o := ⟨_, _, _, _, _, _⟩) undef (yl_undef (by rfl)) ?_
        simp only [Act.put, lzA, lzB, lzC]
        refine wl_yield (o := ⟨_, _, _, _, _, _⟩) undef (yl_undef (by rfl)) ?_
        simp only [Act.put, lzA, lzB, lzC]
        refine wl_yield (o := ⟨_, _, _, _, _, _⟩) (.bool true) (yl_pickT (by rfl) _ _ _ rfl rfl _ rfl) ?_
        simp only [Act.put, lzA, lzB, lzC]
        refine wpList_nil ?_
        refine hK10 _ _ ?_
        clear hK10 K10
        refine wp_cond_true rfl ?_
        refine wp_exit ?_
        refine hK7 _ _ ?_
        clear hK9 K9 hK7 K7
        refine wp_region_lit ?_
        refine wl_yield (o := ⟨_, _, _, _, _, _⟩) (.int .i64 (k + 1 : Nat)) (yl_addI (by rfl) _ _ _ rfl (((k : Nat) : Int)) (1) (((k + 1 : Nat) : Int)) rfl rfl (by omega) (by omega) (by omega)) ?_
        simp only [Act.put, lzA, lzB, lzC]
        refine wl_yield (o := ⟨_, _, _, _, _, _⟩) (.int .i64 (k + 1 : Nat)) (yl_move (by rfl) _ rfl _ rfl) ?_
        simp only [Act.put, lzA, lzB, lzC]
        refine wpList_nil ?_
        show _ ∧ _
        go_roundw
        case rel => exact ⟨k + 1, _, rfl, by omega, hown, tidied_step hA hkl hb (.inr ⟨.inl hq1, rfl⟩), D⟩
        case measure => simp [intOf]; omega
    · refine wp_seq_k (fun K5 hK5 => ?_)
      refine wp_region_lit ?_
      refine wl_yield (o := ⟨_, _, _, _, _, _⟩) (.bool false) (yl_lssI (by rfl) _ _ _ rfl (((k : Nat) : Int)) (((cs.length : Nat) : Int)) false rfl rfl (decide_eq_false (by omega))) ?_
      simp only [Act.put, lzA, lzB, lzC]
      refine wpList_nil ?_
      refine hK5 _ _ ?_
      clear hK5 K5
      refine wp_seq_k (fun K6 hK6 => ?_)
      refine wp_cond_false rfl ?_
      refine wp_exit ?_
      refine hK3 _ _ ?_
      clear hK6 K6 hK3 K3
      refine wp_seq_k (fun K7 hK7 => ?_)
      refine wp_region_lit ?_
      refine wl_yield (o := ⟨_, _, _, _, _, _⟩) (u3) (yl_move (by rfl) _ rfl _ rfl) ?_
      simp only [Act.put, lzA, lzB, lzC]
      refine wl_yield (o := ⟨_, _, _, _, _, _⟩) (u3) (yl_assign (by rfl) _ rfl _ rfl) ?_
      simp only [Act.put, lzA, lzB, lzC]
      refine wpList_nil ?_
      refine hK7 _ _ ?_
      clear hK7 K7
      refine wp_ret ?_
      go_ret
      have ek : k = l.length := by rw [← ha.1]; omega
      rw [ek, List.take_length] at hA
      exact ⟨⟨_, _, rfl, hown, hA⟩, D⟩
set_option maxHeartbeats 4000000 in
set_option maxRecDepth 100000 in
theorem dnfTidy_any (v : Value) (l : List BoxV) (w : World) (hv : Bxs w v l) (fl : FitL l) (hl : l.length ≤ 1000) :
    Calls Tryz.prog 20 #[v] w fun r w' => (∃ u ds, r = .returned u ∧ OwnB w' w.heap.size u ds ∧ AllBx w' ds (tidP l)) ∧ Below w.heap.size w w' := by
  have D := Below.refl w.heap.size w
  go_enter Tryz.func20, Tryz.ntmps20
  refine wp_seq_k (fun K1 hK1 => ?_)
  refine wp_region_lit ?_
  refine wl_yield (o := ⟨_, _, _, _, _, _⟩) (.slice none 0 0) (yl_assign (by rfl) _ rfl _ rfl) ?_
  simp only [Act.put, lzA, lzB, lzC]
  refine wpList_nil ?_
  refine hK1 _ _ ?_
  clear hK1 K1
  refine wp_seq_k (fun K2 hK2 => ?_)
  refine wp_region_lit ?_
  refine wl_yield (o := ⟨_, _, _, _, _, _⟩) (v) (yl_move (by rfl) _ rfl _ rfl) ?_
  simp only [Act.put, lzA, lzB, lzC]
  refine wl_call (o := ⟨_, _, _, _, _, _⟩) (by rfl) 47 _ _ rfl #[v] rfl (run_call Tryz.func47 (by kernel_rfl) (by kernel_rfl)) ?_
  refine (tidied_base v l _ hv fl hl).mono ?_
  rintro r v1 ⟨⟨u1, ks, rfl, hown, hA⟩, kb⟩
  replace D := D.trans (kb.mono D.size)
  clear kb
  obtain ⟨q1, c1, rfl⟩ := hown.sl
  have hkl := hA.1
  have hTl := tidP_len l l.length (Nat.le_refl _)
  rw [List.take_length] at hTl
  refine ⟨.slice q1 ks.length c1, rfl, ?_⟩
  simp only [Act.put, lzA, lzB, lzC]
  refine wl_yield (o := ⟨_, _, _, _, _, _⟩) (.slice q1 ks.length c1) (yl_assign (by rfl) _ rfl _ rfl) ?_
  simp only [Act.put, lzA, lzB, lzC]
  refine wpList_nil ?_
  refine hK2 _ _ ?_
  clear hK2 K2
  refine wp_seq_k (fun K3 hK3 => ?_)
  refine wp_seq_k (fun K4 hK4 => ?_)
  refine wp_region_lit ?_
  refine wl_yield (o := ⟨_, _, _, _, _, _⟩) (.slice q1 ks.length c1) (yl_move (by rfl) _ rfl _ rfl) ?_
  simp only [Act.put, lzA, lzB, lzC]
  refine wl_yield (o := ⟨_, _, _, _, _, _⟩) (.int .i64 (ks.length : Nat)) (yl_lenB (by rfl) _ rfl _ _ _ rfl) ?_
  simp only [Act.put, lzA, lzB, lzC]
  refine wl_yield (o := ⟨_, _, _, _, _, _⟩) (.int .i64 0) (yl_move (by rfl) _ rfl _ rfl) ?_
  simp only [Act.put, lzA, lzB, lzC]
  refine wpList_nil ?_
  refine hK4 _ _ ?_
  clear hK4 K4
  refine wp_block ?_
  go_loopw [10] (fun i wr => ∃ (k : Nat) (ds : List BxC), i = .int .i64 k ∧ k ≤ ks.length ∧ ds.length = ks.length ∧ OwnB wr w.heap.size (.slice q1 ks.length c1) ds ∧ (∀ j, j < k → ∃ m, (∀ g, q1 = some ⟨g, 0, none⟩ → g < m) ∧ ∀ W, Kept m wr W → BoxAt W (ds.getD j bc0).val ((tidP l).getD j zBox)) ∧ (∀ j, k ≤ j → ds.getD j bc0 = ks.getD j bc0) ∧ Below w.heap.size w wr) (fun i _ => ks.length - (intOf i).toNat)
  case atStart => exact ⟨0, ks, rfl, by omega, rfl, hown, fun j h => by omega, fun _ _ => rfl, D⟩
  case round =>
    clear D hown
    obtain ⟨k, ds, rfl, hk0, hdl, hown, hN, hO, D⟩ := hrel
    have E := Below.refl wr.heap.size wr
    by_cases hlt : k < ks.length
    · have hkL : k < (tidP l).length := by omega
      have hb := hA.2 k hkL
      have fb : FitBx ((tidP l).getD k zBox) := fl _ (by have := tidP_mem l l.length (Nat.le_refl _); rw [List.take_length] at this; exact this _ (getB_mem hkL))
      obtain ⟨g, rfl⟩ : ∃ g, q1 = some ⟨g, 0, none⟩ := by
        rcases hown.form with ⟨_, h⟩ | ⟨g, cap, cur, e, _⟩
        · rw [h] at hdl; simp at hdl; omega
        · injection e with e1 _ _; exact ⟨g, e1⟩
      have glt : g < wr.heap.size := by obtain ⟨_, cur, hg, _⟩ := hown.len; exact lt_heap hg
      have HC : BcAt wr g (0 + k * 16) (ks.getD k bc0) := ⟨glt, by rw [Nat.zero_add, ← hO k (Nat.le_refl _)]; exact hown.range k (by omega)⟩
      refine wp_seq_k (fun K5 hK5 => ?_)
      refine wp_region_lit ?_
      refine wl_yield (o := ⟨_, _, _, _, _, _⟩) (.bool true) (yl_lssI (by rfl) _ _ _ rfl (((k : Nat) : Int)) (((ks.length : Nat) : Int)) true rfl rfl (decide_eq_true (by omega))) ?_
      simp only [Act.put, lzA, lzB, lzC]
      refine wpList_nil ?_
      refine hK5 _ _ ?_
      clear hK5 K5
      refine wp_seq_k (fun K6 hK6 => ?_)
      refine wp_cond_true rfl ?_
      refine wp_skip ?_
      refine hK6 _ _ ?_
      clear hK6 K6
      refine wp_seq_k (fun K7 hK7 => ?_)
      refine wp_block ?_
      refine wp_seq_k (fun K8 hK8 => ?_)
      refine wp_region_lit ?_
      refine wl_yield (o := ⟨_, _, _, _, _, _⟩) (.int .i64 (k : Nat)) (yl_move (by rfl) _ rfl _ rfl) ?_
      simp only [Act.put, lzA, lzB, lzC]
      refine wl_yield (o := ⟨_, _, _, _, _, _⟩) (.pointer (some ⟨g, 0 + k * 16, none⟩)) (yl_bxAt (by rfl) _ _ rfl g (0) _ _ (k) rfl rfl (hlt)) ?_
      simp only [Act.put, lzA, lzB, lzC]
      refine wl_yield (o := ⟨_, _, _, _, _, _⟩) (BxC.val (ks.getD k bc0)) (yl_bx (by rfl) _ rfl _ _ rfl _ (fun _ h => by subst h; exact HC)) ?_
      simp only [Act.put, lzA, lzB, lzC]
      refine wl_allocB (o := ⟨_, _, _, _, _, _⟩) (by rfl) rfl (fun v2 gb2 hggb2 IZ kb => ?_)
      simp only [Act.put, lzA, lzB, lzC]
      refine wl_yield (o := ⟨_, _, _, _, _, _⟩) (.int .i64 (k : Nat)) (yl_assign (by rfl) _ rfl _ rfl) ?_
      simp only [Act.put, lzA, lzB, lzC]
      refine wl_putB (o := ⟨_, _, _, _, _, _⟩) rfl _ _ rfl gb2 0 _ rfl rfl IZ.there ?_
      simp only [Act.put, lzA, lzB, lzC]
      have kb2 := Below.setCells gb2 hggb2 (BxC.list ((ks.getD k bc0))) 0 _ kb
      have H5 := bcIn_put (d := ((ks.getD k bc0))) IZ
      generalize v2.setCells gb2 0 (BxC.list ((ks.getD k bc0))) = v3 at kb2 H5 ⊢
      clear kb IZ
      replace D := D.trans (kb2.mono D.size)
      replace E := E.trans (kb2.mono E.size)
      replace hown := hown.on kb2
      clear kb2
      refine wpList_nil ?_
      refine hK8 _ _ ?_
      clear hK8 K8
      refine wp_region_lit ?_
      refine wl_yield (o := ⟨_, _, _, _, _, _⟩) (.slice (some ⟨g, 0, none⟩) ks.length c1) (yl_move (by rfl) _ rfl _ rfl) ?_
      simp only [Act.put, lzA, lzB, lzC]
      refine wl_yield (o := ⟨_, _, _, _, _, _⟩) (.int .i64 (k : Nat)) (yl_move (by rfl) _ rfl _ rfl) ?_
      simp only [Act.put, lzA, lzB, lzC]
      refine wl_yield (o := ⟨_, _, _, _, _, _⟩) (BxC.val (ks.getD k bc0)) (yl_bx (by rfl) _ rfl _ _ rfl _ (fun _ h => by subst h; exact BcIn.at H5)) ?_
      simp only [Act.put, lzA, lzB, lzC]
      refine wl_call (o := ⟨_, _, _, _, _, _⟩) (by rfl) 48 _ _ rfl #[BxC.val (ks.getD k bc0)] rfl (run_call Tryz.func48 (by kernel_rfl) (by kernel_rfl)) ?_
      have E0 := E.size
      refine (copied6_any _ ((tidP l).getD k zBox) _ (hb.on D) (fun i hi => ⟨by have := fb.ni i hi; omega, by have := fb.ns i hi; omega⟩)).mono ?_
      rintro r v4 ⟨⟨dd, mm, rfl, hm1, hm2, hk⟩, kb⟩
      replace D := D.trans (kb.mono D.size)
      replace E := E.trans (kb.mono E.size)
      replace hown := hown.on kb
      replace H5 := H5.on kb
      clear kb
      have hm1' := hm1
      refine ⟨BxC.val dd, rfl, ?_⟩
      simp only [Act.put, lzA, lzB, lzC]
      refine wl_yield (o := ⟨_, _, _, _, _, _⟩) (.pointer (some ⟨g, 0 + k * 16, none⟩)) (yl_bxAt (by rfl) _ _ rfl g (0) _ _ (k) rfl rfl (hlt)) ?_
      simp only [Act.put, lzA, lzB, lzC]
      refine wl_putB (o := ⟨_, _, _, _, _, _⟩) rfl _ _ rfl g (0 + k * 16) dd rfl rfl (by rw [Nat.zero_add]; have := ownB_there (k := k) (m := 1) hown (by obtain ⟨_, cur, _, _, h, _⟩ := hown.len; omega); rwa [Nat.one_mul] at this) ?_
      simp only [Act.put, lzA, lzB, lzC]
      have KM : ∀ m, g < m → Kept m v4 (v4.setCells g (k * 16) dd.list) := fun m hm => Kept.setCells v4 (k * 16) dd.list hm
      have KK : ∀ m, g < m → Kept m wr (v4.setCells g (k * 16) dd.list) := fun m hm => (Kept.ofBelow E).trans (KM m hm)
      replace D := D.trans (asd_put v4 (k * 16) (BxC.list dd) (by obtain ⟨_, _, _, h, _⟩ := hown.len; exact h)).b
      replace hown := ownB_put hown (k := k) (by omega) dd
      have gmm : g < mm := Nat.lt_of_lt_of_le (Nat.lt_of_lt_of_le glt E0) hm1
      rw [show (0 : Nat) + k * 16 = k * 16 from Nat.zero_add _]
      clear H5
      generalize v4.setCells g (k * 16) (BxC.list dd) = v5 at D hown KM KK ⊢
      refine wpList_nil ?_
      refine hK7 _ _ ?_
      clear hK7 K7
      refine wp_region_lit ?_
      refine wl_yield (o := ⟨_, _, _, _, _, _⟩) (.int .i64 (k + 1 : Nat)) (yl_addI (by rfl) _ _ _ rfl (((k : Nat) : Int)) (1) (((k + 1 : Nat) : Int)) rfl rfl (by omega) (by omega) (by omega)) ?_
      simp only [Act.put, lzA, lzB, lzC]
      refine wl_yield (o := ⟨_, _, _, _, _, _⟩) (.int .i64 (k + 1 : Nat)) (yl_move (by rfl) _ rfl _ rfl) ?_
      simp only [Act.put, lzA, lzB, lzC]
      refine wpList_nil ?_
      show _ ∧ _
      go_roundw
      case rel => exact ⟨k + 1, ds.set k dd, rfl, by omega, by rw [List.length_set]; exact hdl, hown, fun j hj => by
        rcases Nat.lt_succ_iff_lt_or_eq.1 hj with h | rfl
        · obtain ⟨m, hm, hB⟩ := hN j h
          refine ⟨m, hm, fun W hW => ?_⟩
          rw [set_getD (by omega)]
          exact hB W ((KK m (hm g rfl)).trans hW)
        · refine ⟨mm, fun g' e => by cases e; omega, fun W hW => ?_⟩
          rw [show (ds.set j dd).getD j bc0 = dd by rw [List.getD_eq_getElem?_getD, List.getElem?_set_self (by omega)]; rfl]
          exact hk W ((KM mm (by omega)).trans hW), fun j hj => by rw [set_getD (by omega)]; exact hO j (by omega), D⟩
      case measure => simp [intOf]; omega
    · refine wp_seq_k (fun K5 hK5 => ?_)
      refine wp_region_lit ?_
      refine wl_yield (o := ⟨_, _, _, _, _, _⟩) (.bool false) (yl_lssI (by rfl) _ _ _ rfl (((k : Nat) : Int)) (((ks.length : Nat) : Int)) false rfl rfl (decide_eq_false (by omega))) ?_
      simp only [Act.put, lzA, lzB, lzC]
      refine wpList_nil ?_
      refine hK5 _ _ ?_
      clear hK5 K5
      refine wp_seq_k (fun K6 hK6 => ?_)
      refine wp_cond_false rfl ?_
      refine wp_exit ?_
      refine hK3 _ _ ?_
      clear hK6 K6 hK3 K3
      refine wp_seq_k (fun K7 hK7 => ?_)
      refine wp_region_lit ?_
      refine wl_yield (o := ⟨_, _, _, _, _, _⟩) (.slice q1 ks.length c1) (yl_move (by rfl) _ rfl _ rfl) ?_
      simp only [Act.put, lzA, lzB, lzC]
      refine wl_yield (o := ⟨_, _, _, _, _, _⟩) (.slice q1 ks.length c1) (yl_assign (by rfl) _ rfl _ rfl) ?_
      simp only [Act.put, lzA, lzB, lzC]
      refine wpList_nil ?_
      refine hK7 _ _ ?_
      clear hK7 K7
      refine wp_ret ?_
      go_ret
      refine ⟨⟨_, ds, rfl, hown, by omega, fun j hj => ?_⟩, D⟩
      obtain ⟨m, _, hB⟩ := hN j (by omega)
      exact hB _ (Kept.refl _ _)
end Go.Proofs.YtlfhpocfacaaeaaGreat
namespace Go.Proofs.YtlfhpocfacaaeaaGreat
open Go.RowKit
theorem sameF_refl (l : List BoxV) : sameF l l = true := by
  unfold sameF
  rw [decide_eq_true rfl, Bool.true_and, List.all_eq_true]
  exact fun i _ => sameBx_refl _
set_option maxHeartbeats 8000000 in
set_option maxRecDepth 100000 in
theorem dnfTidies_law (v : Value) (f : List BoxV) (e : EvV) (w : World) (hv : Bxs w v f) (nf : nilOk v) (hf : evFit e) (he : inE e) :
    Calls Tryz.prog 5 #[v, evVal e] w fun r w' => r = .returned (.bool true) ∧ Below w.heap.size w w' := by
  have hv0 := hv
  obtain ⟨cf, hrf, haf⟩ := hv0
  have hbig := hrf.1
  have hcf := haf.1
  obtain ⟨qf, pf, rfl⟩ := hrf.form
  have D := Below.refl w.heap.size w
  go_enter Tryz.func5, Tryz.ntmps5
  refine wp_seq_k (fun K1 hK1 => ?_)
  refine wp_region_lit ?_
  refine wl_evBox (o := ⟨_, _, _, _, _, _⟩) (by rfl) _ rfl rfl (fun v1 gb1 HE kb => ?_)
  simp only [Act.put, lzA, lzB, lzC]
  replace D := D.trans (kb.mono D.size)
  clear kb
  refine wl_yield (o := ⟨_, _, _, _, _, _⟩) (.bool false) (yl_assign (by rfl) _ rfl _ rfl) ?_
  simp only [Act.put, lzA, lzB, lzC]
  refine wpList_nil ?_
  refine hK1 _ _ ?_
  clear hK1 K1
  refine wp_seq_k (fun K2 hK2 => ?_)
  refine wp_seq_k (fun K3 hK3 => ?_)
  refine wp_region_lit ?_
  refine wl_call (o := ⟨_, _, _, _, _, _⟩) (by rfl) 10 _ _ rfl #[] rfl (run_call Tryz.func10 (by kernel_rfl) (by kernel_rfl)) ?_
  refine (awake6_any _).mono ?_
  rintro r v2 ⟨rfl, kb⟩
  replace D := D.trans (kb.mono D.size)
  replace HE := HE.on kb
  clear kb
  refine ⟨.bool true, rfl, ?_⟩
  simp only [Act.put, lzA, lzB, lzC]
  refine wl_yield (o := ⟨_, _, _, _, _, _⟩) (.bool false) (yl_not (by rfl) _ _ rfl true rfl) ?_
  simp only [Act.put, lzA, lzB, lzC]
  refine wl_yield (o := ⟨_, _, _, _, _, _⟩) (.bool false) (yl_move (by rfl) _ rfl _ rfl) ?_
  simp only [Act.put, lzA, lzB, lzC]
  refine wl_yield (o := ⟨_, _, _, _, _, _⟩) (.slice qf cf.length pf) (yl_move (by rfl) _ rfl _ rfl) ?_
  simp only [Act.put, lzA, lzB, lzC]
  refine wl_call (o := ⟨_, _, _, _, _, _⟩) (by rfl) 18 _ _ rfl #[.slice qf cf.length pf] rfl (run_call Tryz.func18 (by kernel_rfl) (by kernel_rfl)) ?_
  refine (refFew6_any _ f _ (hv.on D)).mono ?_
  rintro r v3 ⟨rfl, kb⟩
  replace D := D.trans (kb.mono D.size)
  replace HE := HE.on kb
  clear kb
  cases hq1 : decide (f.length ≤ 20) && f.all fewBx
  · refine ⟨.bool false, rfl, ?_⟩
    simp only [Act.put, lzA, lzB, lzC]
    refine wl_yield (o := ⟨_, _, _, _, _, _⟩) (.bool true) (yl_not (by rfl) _ _ rfl false rfl) ?_
    simp only [Act.put, lzA, lzB, lzC]
    refine wl_yield (o := ⟨_, _, _, _, _, _⟩) (.bool true) (yl_pickF (by rfl) _ _ _ rfl rfl _ rfl) ?_
    simp only [Act.put, lzA, lzB, lzC]
    refine wpList_nil ?_
    refine hK3 _ _ ?_
    clear hK3 K3
    refine wp_cond_true rfl ?_
    refine wp_seq_k (fun K4 hK4 => ?_)
    refine wp_region_lit ?_
    refine wl_call (o := ⟨_, _, _, _, _, _⟩) (by rfl) 10 _ _ rfl #[] rfl (run_call Tryz.func10 (by kernel_rfl) (by kernel_rfl)) ?_
    refine (awake6_any _).mono ?_
    rintro r v4 ⟨rfl, kb⟩
    replace D := D.trans (kb.mono D.size)
    replace HE := HE.on kb
    clear kb
    refine ⟨.bool true, rfl, ?_⟩
    simp only [Act.put, lzA, lzB, lzC]
    refine wl_yield (o := ⟨_, _, _, _, _, _⟩) (.bool true) (yl_assign (by rfl) _ rfl _ rfl) ?_
    simp only [Act.put, lzA, lzB, lzC]
    refine wpList_nil ?_
    refine hK4 _ _ ?_
    clear hK4 K4
    refine wp_ret ?_
    go_ret
    exact ⟨rfl, D⟩
  · refine ⟨.bool true, rfl, ?_⟩
    simp only [Act.put, lzA, lzB, lzC]
    refine wl_yield (o := ⟨_, _, _, _, _, _⟩) (.bool false) (yl_not (by rfl) _ _ rfl true rfl) ?_
    simp only [Act.put, lzA, lzB, lzC]
    refine wl_yield (o := ⟨_, _, _, _, _, _⟩) (.bool false) (yl_pickF (by rfl) _ _ _ rfl rfl _ rfl) ?_
    simp only [Act.put, lzA, lzB, lzC]
    refine wpList_nil ?_
    refine hK3 _ _ ?_
    clear hK3 K3
    refine wp_cond_false rfl ?_
    refine wp_skip ?_
    refine hK2 _ _ ?_
    clear hK2 K2
    refine wp_seq_k (fun K4 hK4 => ?_)
    refine wp_seq_k (fun K5 hK5 => ?_)
    refine wp_region_lit ?_
    refine wl_yield (o := ⟨_, _, _, _, _, _⟩) (.slice qf cf.length pf) (yl_move (by rfl) _ rfl _ rfl) ?_
    simp only [Act.put, lzA, lzB, lzC]
    refine wl_yield (o := ⟨_, _, _, _, _, _⟩) (.int .i64 (cf.length : Nat)) (yl_lenB (by rfl) _ rfl _ _ _ rfl) ?_
    simp only [Act.put, lzA, lzB, lzC]
    refine wl_yield (o := ⟨_, _, _, _, _, _⟩) (.int .i64 0) (yl_move (by rfl) _ rfl _ rfl) ?_
    simp only [Act.put, lzA, lzB, lzC]
    refine wpList_nil ?_
    refine hK5 _ _ ?_
    clear hK5 K5
    refine wp_block ?_
    have l1 := few_len6 hq1
    go_loopw [18] (fun i wr => ∃ k : Nat, i = .int .i64 k ∧ k ≤ cf.length ∧ (∀ j, j < k → rightBx (f.getD j zBox) = true) ∧ EvIn wr gb1 e ∧ Below w.heap.size w wr) (fun i _ => cf.length - (intOf i).toNat)
    case atStart => exact ⟨0, rfl, by omega, fun j h => by omega, HE, D⟩
    case round =>
      clear D HE
      obtain ⟨k, rfl, hk, hF, HE, D⟩ := hrel
      by_cases hlt : k < cf.length
      · have hkl : k < f.length := by omega
        obtain ⟨gr, off, rfl, HC⟩ := (hrf.on D).at.2 k hlt
        have HCb := haf.2 k hkl
        refine wp_seq_k (fun K6 hK6 => ?_)
        refine wp_region_lit ?_
        refine wl_yield (o := ⟨_, _, _, _, _, _⟩) (.bool true) (yl_lssI (by rfl) _ _ _ rfl (((k : Nat) : Int)) (((cf.length : Nat) : Int)) true rfl rfl (decide_eq_true (by omega))) ?_
        simp only [Act.put, lzA, lzB, lzC]
        refine wpList_nil ?_
        refine hK6 _ _ ?_
        clear hK6 K6
        refine wp_seq_k (fun K7 hK7 => ?_)
        refine wp_cond_true rfl ?_
        refine wp_skip ?_
        refine hK7 _ _ ?_
        clear hK7 K7
        refine wp_seq_k (fun K8 hK8 => ?_)
        refine wp_block ?_
        refine wp_seq_k (fun K9 hK9 => ?_)
        refine wp_region_lit ?_
        refine wl_yield (o := ⟨_, _, _, _, _, _⟩) (.pointer (some ⟨gr, off + k * 16, none⟩)) (yl_bxAt (by rfl) _ _ rfl gr (off) _ _ (k) rfl rfl (hlt)) ?_
        simp only [Act.put, lzA, lzB, lzC]
        refine wl_yield (o := ⟨_, _, _, _, _, _⟩) (BxC.val (cf.getD k bc0)) (yl_bx (by rfl) _ rfl _ _ rfl _ (fun _ h => by subst h; exact HC)) ?_
        simp only [Act.put, lzA, lzB, lzC]
        refine wl_newB (o := ⟨_, _, _, _, _, _⟩) (o2 := ⟨_, _, _, _, _, _⟩) (by rfl) rfl _ _ rfl rfl (fun _ => rfl) (fun _ => rfl) (fun v4 gb4 hggb4 HQ kb => ?_)
        simp only [Act.put, lzA, lzB, lzC]
        replace D := D.trans (kb.mono D.size)
        replace HE := HE.on kb
        replace HC := HC.on kb
        clear kb
        refine wpList_nil ?_
        refine hK9 _ _ ?_
        clear hK9 K9
        refine wp_seq_k (fun K10 hK10 => ?_)
        refine wp_region_lit ?_
        refine wl_yield (o := ⟨_, _, _, _, _, _⟩) (BxC.val (cf.getD k bc0)) (yl_bx (by rfl) _ rfl _ _ rfl _ (fun _ h => by subst h; exact BcIn.at HQ)) ?_
        simp only [Act.put, lzA, lzB, lzC]
        refine wl_call (o := ⟨_, _, _, _, _, _⟩) (by rfl) 19 _ _ rfl #[BxC.val (cf.getD k bc0)] rfl (run_call Tryz.func19 (by kernel_rfl) (by kernel_rfl)) ?_
        refine (refRightBx_any _ (f.getD k zBox) _ (HCb.on D)).mono ?_
        rintro r v5 ⟨rfl, kb⟩
        replace D := D.trans (kb.mono D.size)
        replace HE := HE.on kb
        replace HC := HC.on kb
        replace HQ := HQ.on kb
        clear kb
        cases hq : rightBx (f.getD k zBox)
        · refine ⟨.bool false, rfl, ?_⟩
          simp only [Act.put, lzA, lzB, lzC]
          refine wl_yield (o := ⟨_, _, _, _, _, _⟩) (.bool true) (yl_not (by rfl) _ _ rfl false rfl) ?_
          simp only [Act.put, lzA, lzB, lzC]
          refine wpList_nil ?_
          refine hK10 _ _ ?_
          clear hK10 K10
          refine wp_cond_true rfl ?_
          refine wp_seq_k (fun K11 hK11 => ?_)
          refine wp_region_lit ?_
          refine wl_yield (o := ⟨_, _, _, _, _, _⟩) (.bool true) (yl_assign (by rfl) _ rfl _ rfl) ?_
          simp only [Act.put, lzA, lzB, lzC]
          refine wpList_nil ?_
          refine hK11 _ _ ?_
          clear hK11 K11
          refine wp_ret ?_
          go_ret
          exact ⟨rfl, D⟩
        · refine ⟨.bool true, rfl, ?_⟩
          simp only [Act.put, lzA, lzB, lzC]
          refine wl_yield (o := ⟨_, _, _, _, _, _⟩) (.bool false) (yl_not (by rfl) _ _ rfl true rfl) ?_
          simp only [Act.put, lzA, lzB, lzC]
          refine wpList_nil ?_
          refine hK10 _ _ ?_
          clear hK10 K10
          refine wp_cond_false rfl ?_
          refine wp_skip ?_
          refine hK8 _ _ ?_
          clear hK8 K8
          refine wp_region_lit ?_
          refine wl_yield (o := ⟨_, _, _, _, _, _⟩) (.int .i64 (k + 1 : Nat)) (yl_addI (by rfl) _ _ _ rfl (((k : Nat) : Int)) (1) (((k + 1 : Nat) : Int)) rfl rfl (by omega) (by omega) (by omega)) ?_
          simp only [Act.put, lzA, lzB, lzC]
          refine wl_yield (o := ⟨_, _, _, _, _, _⟩) (.int .i64 (k + 1 : Nat)) (yl_move (by rfl) _ rfl _ rfl) ?_
          simp only [Act.put, lzA, lzB, lzC]
          refine wpList_nil ?_
          show _ ∧ _
          go_roundw
          case rel => exact ⟨k + 1, rfl, by omega, fun j hj => by
            rcases Nat.lt_succ_iff_lt_or_eq.1 hj with h | rfl
            · exact hF j h
            · exact hq, HE, D⟩
          case measure => simp [intOf]; omega
      · have hall : ∀ b ∈ f, rightBx b = true := fun b hb => by
          obtain ⟨i, hi, rfl⟩ := List.getElem_of_mem hb
          have h := hF i (by omega)
          rw [List.getD_eq_getElem?_getD, List.getElem?_eq_getElem hi] at h
          exact h
        have ff := few_all hv hq1 hall
        have gf : ∀ b ∈ f, GoodB b := fun b hb => (ff b hb).good
        have ft : ∀ b ∈ tidyL f, FewB b := fun b hb => ff b (tidy_sub hb)
        have gt : ∀ b ∈ tidyL f, GoodB b := fun b hb => (ft b hb).good
        have htl := tidy_len f
        refine wp_seq_k (fun K6 hK6 => ?_)
        refine wp_region_lit ?_
        refine wl_yield (o := ⟨_, _, _, _, _, _⟩) (.bool false) (yl_lssI (by rfl) _ _ _ rfl (((k : Nat) : Int)) (((cf.length : Nat) : Int)) false rfl rfl (decide_eq_false (by omega))) ?_
        simp only [Act.put, lzA, lzB, lzC]
        refine wpList_nil ?_
        refine hK6 _ _ ?_
        clear hK6 K6
        refine wp_seq_k (fun K7 hK7 => ?_)
        refine wp_cond_false rfl ?_
        refine wp_exit ?_
        refine hK4 _ _ ?_
        clear hK7 K7 hK4 K4
        refine wp_seq_k (fun K8 hK8 => ?_)
        refine wp_region_lit ?_
        refine wl_rowB0 (o := ⟨_, _, _, _, _, _⟩) (by rfl) rfl (fun v4 u0 hO kb => ?_)
        simp only [Act.put, lzA, lzB, lzC]
        obtain ⟨B0, hB0⟩ : ∃ B0, B0 = wr.heap.size := ⟨_, rfl⟩
        rw [← hB0] at hO
        have gE : gb1 < B0 := by rw [hB0]; exact lt_heap HE
        have wB : w.heap.size ≤ B0 := by rw [hB0]; exact D.size
        have hBs : B0 ≤ v4.heap.size := by rw [hB0]; exact kb.size
        replace D := D.trans (kb.mono D.size)
        replace HE := HE.on kb
        clear kb
        refine wl_yield (o := ⟨_, _, _, _, _, _⟩) (.slice qf cf.length pf) (yl_move (by rfl) _ rfl _ rfl) ?_
        simp only [Act.put, lzA, lzB, lzC]
        refine wpList_appRowB (o := ⟨_, _, _, _, _, _⟩) v4 rfl _ _ rfl B0 u0 _ [] cf rfl hO rfl (hrf.on D) nf (by simp only [List.length_nil]; omega) hBs (fun u1 v5 hO2 kb => ?_)
        simp only [Act.put, lzA, lzB, lzC]
        replace HE : EvIn v5 gb1 e := (kb.block _ gE).trans HE
        replace D := D.trans (kb.mono wB)
        replace hBs := Nat.le_trans hBs kb.size
        rw [List.nil_append] at hO2
        have hB := (bxs_own hO2 (haf.on D) (by omega)).1
        clear hO hO2 kb
        refine wl_call (o := ⟨_, _, _, _, _, _⟩) (by rfl) 20 _ _ rfl #[u1] rfl (run_call Tryz.func20 (by kernel_rfl) (by kernel_rfl)) ?_
        refine (dnfTidy_any _ f _ hB (fun b hb => (ff b hb).fit) (by omega)).mono ?_
        rintro r v6 ⟨⟨u2, d2, rfl, hO2, hA2⟩, kb⟩
        replace D := D.trans (kb.mono D.size)
        replace HE := HE.on kb
        clear kb
        rw [tidP_eq gf] at hA2
        have hT := (bxs_own hO2 hA2 (Nat.le_trans (tidy_len _) (by omega))).1
        clear hO2 hA2 hB
        refine ⟨u2, rfl, ?_⟩
        simp only [Act.put, lzA, lzB, lzC]
        refine wl_yield (o := ⟨_, _, _, _, _, _⟩) (u2) (yl_assign (by rfl) _ rfl _ rfl) ?_
        simp only [Act.put, lzA, lzB, lzC]
        refine wpList_nil ?_
        refine hK8 _ _ ?_
        clear hK8 K8
        refine wp_seq_k (fun K9 hK9 => ?_)
        refine wp_region_held_drew (S := fun w' => EvIn w' gb1 e) (by kernel_rfl) (HE.on (Below.refl _ _).drew) (fun hHeld => ?_)
        have kb : Below v6.heap.size v6 v6.drew := (Below.refl _ v6).drew
        replace D := D.trans (kb.mono D.size)
        replace HE := HE.on kb
        replace hT := hT.on kb
        clear kb
        generalize v6.drew = v7 at D hHeld HE hT ⊢
        refine wpAnyH_take (i := 0) (oi := ⟨_, _, _, _, _, _⟩) (v := u2) rfl (by kernel_rfl) (by kernel_rfl) (by kernel_rfl) (fun _ _ _ h => h) (yl_move (by rfl) _ rfl _ rfl) (by assumption) ?_
        simp only [Act.put, lzA, lzB, lzC]
        refine wpAnyH_take (i := 1) (oi := ⟨_, _, _, _, _, _⟩) (v := .slice qf cf.length pf) rfl (by kernel_rfl) (by kernel_rfl) (by kernel_rfl) (fun _ _ _ h => h) (yl_move (by rfl) _ rfl _ rfl) (by assumption) ?_
        simp only [Act.put, lzA, lzB, lzC]
        refine held_call (o := ⟨_, _, _, _, _, _⟩) 2 (by kernel_rfl) rfl (by rfl) 21 _ _ rfl #[.slice qf cf.length pf] rfl (run_call Tryz.func21 (by kernel_rfl) (by kernel_rfl)) ?_
        refine (refTidy_any _ f _ (hv.on D) ff (by omega)).mono ?_
        rintro r v8 ⟨⟨u3, d3, rfl, hO3, hA3⟩, kb⟩
        replace D := D.trans (kb.mono D.size)
        replace HE := HE.on kb
        replace hT := hT.on kb
        clear kb
        clear hHeld
        have hT3 := (bxs_own hO3 hA3 (Nat.le_trans (tidy_len _) (by omega))).1
        clear hO3 hA3
        refine ⟨u3, rfl, HE, fun hHeld => ?_⟩
        simp only [Act.put, lzA, lzB, lzC]
        refine held_call (o := ⟨_, _, _, _, _, _⟩) 3 (by kernel_rfl) rfl (by rfl) 14 _ _ rfl #[u2, u3] rfl (run_call Tryz.func14 (by kernel_rfl) (by kernel_rfl)) ?_
        refine (refSame6_any _ _ (tidyL f) (tidyL f) _ hT hT3).mono ?_
        rintro r v9 ⟨rfl, kb⟩
        replace D := D.trans (kb.mono D.size)
        replace HE := HE.on kb
        replace hT := hT.on kb
        replace hT3 := hT3.on kb
        clear kb
        clear hHeld
        refine ⟨.bool true, ret_bool (sameF_refl _), HE, fun hHeld => ?_⟩
        simp only [Act.put, lzA, lzB, lzC]
        refine wpAnyH_take (i := 4) (oi := ⟨_, _, _, _, _, _⟩) (v := .bool true) rfl (by kernel_rfl) (by kernel_rfl) (by kernel_rfl) (fun _ _ _ h => h) (yl_move (by rfl) _ rfl _ rfl) (by assumption) ?_
        simp only [Act.put, lzA, lzB, lzC]
        refine wpAnyH_take (i := 5) (oi := ⟨_, _, _, _, _, _⟩) (v := u2) rfl (by kernel_rfl) (by kernel_rfl) (by kernel_rfl) (fun _ _ _ h => h) (yl_move (by rfl) _ rfl _ rfl) (by assumption) ?_
        simp only [Act.put, lzA, lzB, lzC]
        refine wpAnyH_take (i := 7) (oi := ⟨_, _, _, _, _, _⟩) (v := u2) rfl (by kernel_rfl) (by kernel_rfl) (by kernel_rfl) (fun _ _ _ h => h) (yl_move (by rfl) _ rfl _ rfl) (by assumption) ?_
        simp only [Act.put, lzA, lzB, lzC]
        refine held_call (o := ⟨_, _, _, _, _, _⟩) 6 (by kernel_rfl) rfl (by rfl) 20 _ _ rfl #[u2] rfl (run_call Tryz.func20 (by kernel_rfl) (by kernel_rfl)) ?_
        refine (dnfTidy_any _ (tidyL f) _ hT (fun b hb => (ft b hb).fit) (by omega)).mono ?_
        rintro r v10 ⟨⟨u4, d4, rfl, hO4, hA4⟩, kb⟩
        replace D := D.trans (kb.mono D.size)
        replace HE := HE.on kb
        replace hT := hT.on kb
        replace hT3 := hT3.on kb
        clear kb
        clear hHeld
        rw [tidP_eq gt, tidy_idem] at hA4
        have hT4 := (bxs_own hO4 hA4 (Nat.le_trans (tidy_len _) (by omega))).1
        clear hO4 hA4
        refine ⟨u4, rfl, HE, fun hHeld => ?_⟩
        simp only [Act.put, lzA, lzB, lzC]
        refine held_call (o := ⟨_, _, _, _, _, _⟩) 8 (by kernel_rfl) rfl (by rfl) 14 _ _ rfl #[u4, u2] rfl (run_call Tryz.func14 (by kernel_rfl) (by kernel_rfl)) ?_
        refine (refSame6_any _ _ (tidyL f) (tidyL f) _ hT4 hT).mono ?_
        rintro r v11 ⟨rfl, kb⟩
        replace D := D.trans (kb.mono D.size)
        replace HE := HE.on kb
        replace hT := hT.on kb
        replace hT3 := hT3.on kb
        replace hT4 := hT4.on kb
        clear kb
        clear hHeld
        refine ⟨.bool true, ret_bool (sameF_refl _), HE, fun hHeld => ?_⟩
        simp only [Act.put, lzA, lzB, lzC]
        refine wpAnyH_take (i := 9) (oi := ⟨_, _, _, _, _, _⟩) (v := .bool true) rfl (by kernel_rfl) (by kernel_rfl) (by kernel_rfl) (fun _ _ _ h => h) (yl_pickT (by rfl) _ _ _ rfl rfl _ rfl) (by assumption) ?_
        simp only [Act.put, lzA, lzB, lzC]
        refine wpAnyH_take (i := 10) (oi := ⟨_, _, _, _, _, _⟩) (v := .bool true) rfl (by kernel_rfl) (by kernel_rfl) (by kernel_rfl) (fun _ _ _ h => h) (yl_move (by rfl) _ rfl _ rfl) (by assumption) ?_
        simp only [Act.put, lzA, lzB, lzC]
        refine wpAnyH_take (i := 11) (oi := ⟨_, _, _, _, _, _⟩) (v := u2) rfl (by kernel_rfl) (by kernel_rfl) (by kernel_rfl) (fun _ _ _ h => h) (yl_move (by rfl) _ rfl _ rfl) (by assumption) ?_
        simp only [Act.put, lzA, lzB, lzC]
        refine wpAnyH_take (i := 12) (oi := ⟨_, _, _, _, _, _⟩) (v := evVal e) rfl (by kernel_rfl) (by kernel_rfl) (by kernel_rfl) (fun _ _ _ h => h) (yl_ev (by rfl) _ rfl _ 0 rfl _ _ _ _ _ _ _ _ _ _ _ _ (fun _ h => evCells h)) (by assumption) ?_
        simp only [Act.put, lzA, lzB, lzC]
        refine wpAnyH_take (i := 14) (oi := ⟨_, _, _, _, _, _⟩) (v := .slice qf cf.length pf) rfl (by kernel_rfl) (by kernel_rfl) (by kernel_rfl) (fun _ _ _ h => h) (yl_move (by rfl) _ rfl _ rfl) (by assumption) ?_
        simp only [Act.put, lzA, lzB, lzC]
        refine wpAnyH_take (i := 15) (oi := ⟨_, _, _, _, _, _⟩) (v := evVal e) rfl (by kernel_rfl) (by kernel_rfl) (by kernel_rfl) (fun _ _ _ h => h) (yl_ev (by rfl) _ rfl _ 0 rfl _ _ _ _ _ _ _ _ _ _ _ _ (fun _ h => evCells h)) (by assumption) ?_
        simp only [Act.put, lzA, lzB, lzC]
        refine held_call (o := ⟨_, _, _, _, _, _⟩) 13 (by kernel_rfl) rfl (by rfl) 15 _ _ rfl #[u2, evVal e] rfl (run_call Tryz.func15 (by kernel_rfl) (by kernel_rfl)) ?_
        refine (progHas_any _ (tidyL f) e _ hT (fun b hb => (ft b hb).fit) hf he).mono ?_
        rintro r v12 ⟨rfl, kb⟩
        replace D := D.trans (kb.mono D.size)
        replace HE := HE.on kb
        replace hT := hT.on kb
        replace hT3 := hT3.on kb
        replace hT4 := hT4.on kb
        clear kb
        clear hHeld
        refine ⟨.bool (hasL f e), ret_bool (tidy_has gf he), HE, fun hHeld => ?_⟩
        simp only [Act.put, lzA, lzB, lzC]
        refine held_call (o := ⟨_, _, _, _, _, _⟩) 16 (by kernel_rfl) rfl (by rfl) 22 _ _ rfl #[.slice qf cf.length pf, evVal e] rfl (run_call Tryz.func22 (by kernel_rfl) (by kernel_rfl)) ?_
        refine (refHas6_any _ f e _ (hv.on D) hf).mono ?_
        rintro r v13 ⟨rfl, kb⟩
        replace D := D.trans (kb.mono D.size)
        replace HE := HE.on kb
        replace hT := hT.on kb
        replace hT3 := hT3.on kb
        replace hT4 := hT4.on kb
        clear kb
        clear hHeld
        refine ⟨.bool (hasL f e), rfl, HE, fun hHeld => ?_⟩
        simp only [Act.put, lzA, lzB, lzC]
        refine wpAnyH_take (i := 17) (oi := ⟨_, _, _, _, _, _⟩) (v := .bool true) rfl (by kernel_rfl) (by kernel_rfl) (by kernel_rfl) (fun _ _ _ h => h) (yl_eqSame (by rfl) _ _ _ rfl (hasL f e) rfl rfl) (by assumption) ?_
        simp only [Act.put, lzA, lzB, lzC]
        refine wpAnyH_take (i := 18) (oi := ⟨_, _, _, _, _, _⟩) (v := .bool true) rfl (by kernel_rfl) (by kernel_rfl) (by kernel_rfl) (fun _ _ _ h => h) (yl_pickT (by rfl) _ _ _ rfl rfl _ rfl) (by assumption) ?_
        simp only [Act.put, lzA, lzB, lzC]
        refine wpAnyH_take (i := 19) (oi := ⟨_, _, _, _, _, _⟩) (v := .bool true) rfl (by kernel_rfl) (by kernel_rfl) (by kernel_rfl) (fun _ _ _ h => h) (yl_assign (by rfl) _ rfl _ rfl) (by assumption) ?_
        simp only [Act.put, lzA, lzB, lzC]
        refine wpAnyH_done (by kernel_rfl) ?_ _
        clear hHeld
        refine hK9 _ _ ?_
        clear hK9 K9
        refine wp_ret ?_
        go_ret
        exact ⟨rfl, D⟩
end Go.Proofs.YtlfhpocfacaaeaaGreat
