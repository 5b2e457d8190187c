import Derived.Test.YtbaijjclofekcaaGreatDoorRG6
import Derived.Test.YtbaijjclofekcaaGreatDoorRG1
import Derived.Test.YtbaijjclofekcaaGreatDoorRG5
import Derived.Test.YtbaijjclofekcaaGreatDoorRG3
import Derived.Test.YtbaijjclofekcaaGreatDoorTie
import Derived.Test.YtbaijjclofekcaaGreatDoorCards
import Derived.ProofKit
import Derived.LaidMore
import Derived.OpenShut
import Derived.Stop.Joined
import Derived.Stop.LaidErr
import Derived.Lib.LaidTab
import Derived.Lib.SmallJoins
import Derived.Carry
import Derived.Test.YtbaijjclofekcaaGreatDoorRows
import Derived.Test.YtbaijjclofekcaaGreatDoorChecked
import Derived.JoinedOf
set_option linter.unusedSimpArgs false
set_option linter.unusedVariables false
namespace Go.Proofs.YtbaijjclofekcaaGreatDoor
open Go.RowKit
section
variable {ops : Array Oper} {Q : Exit → Act → World → Prop} {o : Oper} {a : Act}
theorem wl_evBox {rest : List Oper} {w : World} (hw : Region.wanted o (yielded ops a.tmps) = true) (x : Operand) (ho : o.op = .box 26 x) {e : EvV} (hx : a.eval x = evVal e)
    (h : ∀ W g, EvIn W g e → Below w.heap.size w W → wpList Tryz.prog ops Q rest (a.put o.dst (.pointer (some ⟨g, 0, none⟩))) W) : wpList Tryz.prog ops Q (o :: rest) a w := by
  refine wl_run hw (.pointer (some ⟨w.heap.size, 0, none⟩)) (w.alloc (evObj e)) ?_ (h _ _ (heap_new _ _) ((Below.refl _ w).alloc (Nat.le_refl _) _))
  simp only [execOp, ho, hx, evVal, evObj]
  go_simp
end
set_option maxHeartbeats 4000000 in
set_option maxRecDepth 100000 in
theorem refFew6_any (v : Value) (l : List BoxV) (w : World) (hv : Bxs w v l) :
    Calls Tryz.prog 6 #[v] w fun r w' => r = .returned (.bool (decide (l.length ≤ 20) && l.all fewBx)) ∧ Below w.heap.size w w' := by
  obtain ⟨cs, hr, ha⟩ := hv
  have hbig := hr.1
  have hcl := ha.1
  obtain ⟨q, cp, rfl⟩ := hr.form
  have hv : Bxs w (.slice q cs.length cp) l := ⟨cs, hr, ha⟩
  have D := Below.refl w.heap.size w
  by_cases h20 : cs.length ≤ 20
  · go_enter Tryz.func6, Tryz.ntmps6
    refine wp_seq_k (fun K1 hK1 => ?_)
    refine wp_region_lit ?_
    refine wl_yield (o := ⟨_, _, _, _, _, _⟩) (.bool false) (yl_assign (by rfl) _ rfl _ rfl) ?_
    simp only [Act.put, lzA, lzB, lzC]
    refine wpList_nil ?_
    refine hK1 _ _ ?_
    clear hK1 K1
    refine wp_seq_k (fun K2 hK2 => ?_)
    refine wp_region_lit ?_
    refine wl_yield (o := ⟨_, _, _, _, _, _⟩) (.slice q cs.length cp) (yl_move (by rfl) _ rfl _ rfl) ?_
    simp only [Act.put, lzA, lzB, lzC]
    refine wl_yield (o := ⟨_, _, _, _, _, _⟩) (.int .i64 (cs.length : Nat)) (yl_lenB (by rfl) _ rfl _ _ _ rfl) ?_
    simp only [Act.put, lzA, lzB, lzC]
    refine wl_yield (o := ⟨_, _, _, _, _, _⟩) (.bool true) (yl_leqI (by rfl) _ _ _ rfl (((cs.length : Nat) : Int)) (20) true rfl rfl (decide_eq_true (by omega))) ?_
    simp only [Act.put, lzA, lzB, lzC]
    refine wl_yield (o := ⟨_, _, _, _, _, _⟩) (.bool true) (yl_move (by rfl) _ rfl _ rfl) ?_
    simp only [Act.put, lzA, lzB, lzC]
    refine wl_yield (o := ⟨_, _, _, _, _, _⟩) (.slice q cs.length cp) (yl_move (by rfl) _ rfl _ rfl) ?_
    simp only [Act.put, lzA, lzB, lzC]
    refine wl_call (o := ⟨_, _, _, _, _, _⟩) (by rfl) 21 _ _ rfl #[.slice q cs.length cp] rfl (run_call Tryz.func21 (by kernel_rfl) (by kernel_rfl)) ?_
    refine (refFewBx_any _ l _ (hv.on D).boxesAt).mono ?_
    rintro r v1 ⟨rfl, kb⟩
    replace D := D.trans (kb.mono D.size)
    clear kb
    refine ⟨.bool (l.all fewBx), rfl, ?_⟩
    simp only [Act.put, lzA, lzB, lzC]
    refine wl_yield (o := ⟨_, _, _, _, _, _⟩) (.bool (l.all fewBx)) (yl_pickT (by rfl) _ _ _ rfl rfl _ rfl) ?_
    simp only [Act.put, lzA, lzB, lzC]
    refine wl_yield (o := ⟨_, _, _, _, _, _⟩) (.bool (l.all fewBx)) (yl_assign (by rfl) _ rfl _ rfl) ?_
    simp only [Act.put, lzA, lzB, lzC]
    refine wpList_nil ?_
    refine hK2 _ _ ?_
    clear hK2 K2
    refine wp_ret ?_
    go_ret
    exact ⟨by rw [decide_eq_true (show l.length ≤ 20 by omega)]; rfl, D⟩
  · go_enter Tryz.func6, Tryz.ntmps6
    refine wp_seq_k (fun K1 hK1 => ?_)
    refine wp_region_lit ?_
    refine wl_yield (o := ⟨_, _, _, _, _, _⟩) (.bool false) (yl_assign (by rfl) _ rfl _ rfl) ?_
    simp only [Act.put, lzA, lzB, lzC]
    refine wpList_nil ?_
    refine hK1 _ _ ?_
    clear hK1 K1
    refine wp_seq_k (fun K2 hK2 => ?_)
    refine wp_region_lit ?_
    refine wl_yield (o := ⟨_, _, _, _, _, _⟩) (.slice q cs.length cp) (yl_move (by rfl) _ rfl _ rfl) ?_
    simp only [Act.put, lzA, lzB, lzC]
    refine wl_yield (o := ⟨_, _, _, _, _, _⟩) (.int .i64 (cs.length : Nat)) (yl_lenB (by rfl) _ rfl _ _ _ rfl) ?_
    simp only [Act.put, lzA, lzB, lzC]
    refine wl_yield (o := ⟨_, _, _, _, _, _⟩) (.bool false) (yl_leqI (by rfl) _ _ _ rfl (((cs.length : Nat) : Int)) (20) false rfl rfl (decide_eq_false (by omega))) ?_
    simp only [Act.put, lzA, lzB, lzC]
    refine wl_yield (o := ⟨_, _, _, _, _, _⟩) (.bool false) (yl_move (by rfl) _ rfl _ rfl) ?_
    simp only [Act.put, lzA, lzB, lzC]
    with_reducible refine wl_yield (o := ⟨_, _, _, _, _, _⟩) undef (yl_undef (by kernel_rfl)) ?_
    simp only [Act.put, lzA, lzB, lzC]
    with_reducible refine wl_yield (o := ⟨_, _, _, _, _, _⟩) undef (yl_undef (by kernel_rfl)) ?_
    simp only [Act.put, lzA, lzB, lzC]
    refine wl_yield (o := ⟨_, _, _, _, _, _⟩) (.bool false) (yl_pickF (by rfl) _ _ _ rfl rfl _ rfl) ?_
    simp only [Act.put, lzA, lzB, lzC]
    refine wl_yield (o := ⟨_, _, _, _, _, _⟩) (.bool false) (yl_assign (by rfl) _ rfl _ rfl) ?_
    simp only [Act.put, lzA, lzB, lzC]
    refine wpList_nil ?_
    refine hK2 _ _ ?_
    clear hK2 K2
    refine wp_ret ?_
    go_ret
    exact ⟨by rw [decide_eq_false (show ¬ l.length ≤ 20 by omega)]; rfl, D⟩
set_option maxHeartbeats 4000000 in
set_option maxRecDepth 100000 in
theorem refHas6_any (v : Value) (l : List BoxV) (e : EvV) (w : World) (hv : Bxs w v l) (hf : evFit e) :
    Calls Tryz.prog 16 #[v, evVal e] w fun r w' => r = .returned (.bool (hasL l e)) ∧ Below w.heap.size w w' := by
  obtain ⟨cs, hr, ha⟩ := hv
  have hbig := hr.1
  have hcl := ha.1
  obtain ⟨q, cp, rfl⟩ := hr.form
  have D := Below.refl w.heap.size w
  go_enter Tryz.func16, Tryz.ntmps16
  refine wp_seq_k (fun K1 hK1 => ?_)
  refine wp_region_lit ?_
  refine wl_evBox (o := ⟨_, _, _, _, _, _⟩) (by rfl) _ rfl rfl (fun v1 gb1 HE kb => ?_)
  simp only [Act.put, lzA, lzB, lzC]
  replace D := D.trans (kb.mono D.size)
  clear kb
  refine wl_yield (o := ⟨_, _, _, _, _, _⟩) (.bool false) (yl_assign (by rfl) _ rfl _ rfl) ?_
  simp only [Act.put, lzA, lzB, lzC]
  refine wpList_nil ?_
  refine hK1 _ _ ?_
  clear hK1 K1
  refine wp_seq_k (fun K2 hK2 => ?_)
  refine wp_seq_k (fun K3 hK3 => ?_)
  refine wp_region_lit ?_
  refine wl_yield (o := ⟨_, _, _, _, _, _⟩) (.int .i64 0) (yl_assign (by rfl) _ rfl _ rfl) ?_
  simp only [Act.put, lzA, lzB, lzC]
  refine wpList_nil ?_
  refine hK3 _ _ ?_
  clear hK3 K3
  refine wp_block ?_
  go_loopw [5] (fun i wr => ∃ k : Nat, i = .int .i64 k ∧ k ≤ cs.length ∧ (∀ j, j < k → hasE (l.getD j zBox) e = false) ∧ EvIn wr gb1 e ∧ Below w.heap.size w wr) (fun i _ => cs.length - (intOf i).toNat)
  case atStart => exact ⟨0, rfl, by omega, fun j h => by omega, HE, D⟩
  case round =>
    clear D HE
    obtain ⟨k, rfl, hk, hF, HE, D⟩ := hrel
    by_cases hlt : k < cs.length
    · have HCkl : k < l.length := by omega
      obtain ⟨g, off, rfl, HC⟩ := (hr.on D).at.2 k (by omega)
      have HCb := ha.2 k HCkl
      refine wp_seq_k (fun K4 hK4 => ?_)
      refine wp_seq_k (fun K5 hK5 => ?_)
      refine wp_region_lit ?_
      refine wl_yield (o := ⟨_, _, _, _, _, _⟩) (.int .i64 (k : Nat)) (yl_move (by rfl) _ rfl _ rfl) ?_
      simp only [Act.put, lzA, lzB, lzC]
      refine wl_yield (o := ⟨_, _, _, _, _, _⟩) (.slice (some ⟨g, off, none⟩) cs.length cp) (yl_move (by rfl) _ rfl _ rfl) ?_
      simp only [Act.put, lzA, lzB, lzC]
      refine wl_yield (o := ⟨_, _, _, _, _, _⟩) (.int .i64 (cs.length : Nat)) (yl_lenB (by rfl) _ rfl _ _ _ rfl) ?_
      simp only [Act.put, lzA, lzB, lzC]
      refine wl_yield (o := ⟨_, _, _, _, _, _⟩) (.bool true) (yl_lssI (by rfl) _ _ _ rfl (((k : Nat) : Int)) (((cs.length : Nat) : Int)) true rfl rfl (decide_eq_true (by omega))) ?_
      simp only [Act.put, lzA, lzB, lzC]
      refine wpList_nil ?_
      refine hK5 _ _ ?_
      clear hK5 K5
      refine wp_cond_true rfl ?_
      refine wp_skip ?_
      refine hK4 _ _ ?_
      clear hK4 K4
      refine wp_seq_k (fun K6 hK6 => ?_)
      refine wp_block ?_
      refine wp_seq_k (fun K7 hK7 => ?_)
      refine wp_region_held_drew (S := fun w' => BcAt w' g (off + k * 16) (cs.getD k bc0) ∧ EvIn w' gb1 e) (by kernel_rfl) ⟨HC.on (Below.refl _ _).drew, HE.on (Below.refl _ _).drew⟩ (fun hHeld => ?_)
      have kb : Below wr.heap.size wr wr.drew := (Below.refl _ wr).drew
      replace D := D.trans (kb.mono D.size)
      replace HE := HE.on kb
      replace HC := HC.on kb
      clear kb
      generalize wr.drew = v2 at D hHeld HE HC ⊢
      refine wpAnyH_take (i := 0) (oi := ⟨_, _, _, _, _, _⟩) (v := .slice (some ⟨g, off, none⟩) cs.length cp) rfl (by kernel_rfl) (by kernel_rfl) (by kernel_rfl) (fun _ _ _ h => h) (yl_move (by rfl) _ rfl _ rfl) (by assumption) ?_
      simp only [Act.put, lzA, lzB, lzC]
      refine wpAnyH_take (i := 1) (oi := ⟨_, _, _, _, _, _⟩) (v := .int .i64 (k : Nat)) rfl (by kernel_rfl) (by kernel_rfl) (by kernel_rfl) (fun _ _ _ h => h) (yl_move (by rfl) _ rfl _ rfl) (by assumption) ?_
      simp only [Act.put, lzA, lzB, lzC]
      refine wpAnyH_take (i := 2) (oi := ⟨_, _, _, _, _, _⟩) (v := .pointer (some ⟨g, off + k * 16, none⟩)) rfl (by kernel_rfl) (by kernel_rfl) (by kernel_rfl) (fun _ _ _ h => h) (yl_bxAt (by rfl) _ _ rfl g (off) _ _ (k) rfl rfl (by omega)) (by assumption) ?_
      simp only [Act.put, lzA, lzB, lzC]
      refine wpAnyH_take (i := 3) (oi := ⟨_, _, _, _, _, _⟩) (v := BxC.val (cs.getD k bc0)) rfl (by kernel_rfl) (by kernel_rfl) (by kernel_rfl) (fun _ _ _ h => h) (yl_bx (by rfl) _ rfl _ _ rfl _ (fun _ h => h.1)) (by assumption) ?_
      simp only [Act.put, lzA, lzB, lzC]
      refine wpAnyH_take (i := 4) (oi := ⟨_, _, _, _, _, _⟩) (v := evVal e) rfl (by kernel_rfl) (by kernel_rfl) (by kernel_rfl) (fun _ _ _ h => h) (yl_ev (by rfl) _ rfl _ 0 rfl _ _ _ _ _ _ _ _ _ _ _ _ (fun _ h => evCells h.2)) (by assumption) ?_
      simp only [Act.put, lzA, lzB, lzC]
      refine held_call (o := ⟨_, _, _, _, _, _⟩) 5 (by kernel_rfl) rfl (by rfl) 19 _ _ rfl #[BxC.val (cs.getD k bc0), evVal e] rfl (run_call Tryz.func19 (by kernel_rfl) (by kernel_rfl)) ?_
      refine (refHasBx_any _ (l.getD k zBox) e _ (HCb.on D) hf).mono ?_
      rintro r v3 ⟨rfl, kb⟩
      replace D := D.trans (kb.mono D.size)
      replace HE := HE.on kb
      replace HC := HC.on kb
      clear kb
      clear hHeld
      cases hq : hasE (l.getD k zBox) e
      · refine ⟨.bool false, rfl, ⟨HC, HE⟩, fun hHeld => ?_⟩
        simp only [Act.put, lzA, lzB, lzC]
        refine wpAnyH_done (by kernel_rfl) ?_ _
        clear hHeld
        refine hK7 _ _ ?_
        clear hK7 K7
        refine wp_cond_false rfl ?_
        refine wp_skip ?_
        refine hK6 _ _ ?_
        clear hK6 K6
        refine wp_region_lit ?_
        refine wl_yield (o := ⟨_, _, _, _, _, _⟩) (.int .i64 (k : Nat)) (yl_move (by rfl) _ rfl _ rfl) ?_
        simp only [Act.put, lzA, lzB, lzC]
        refine wl_yield (o := ⟨_, _, _, _, _, _⟩) (.int .i64 (k + 1 : Nat)) (yl_addI (by rfl) _ _ _ rfl (((k : Nat) : Int)) (1) (((k + 1 : Nat) : Int)) rfl rfl (by omega) (by omega) (by omega)) ?_
        simp only [Act.put, lzA, lzB, lzC]
        refine wl_yield (o := ⟨_, _, _, _, _, _⟩) (.int .i64 (k + 1 : Nat)) (yl_assign (by rfl) _ rfl _ rfl) ?_
        simp only [Act.put, lzA, lzB, lzC]
        refine wpList_nil ?_
        show _ ∧ _
        go_roundw
        case rel => exact ⟨k + 1, rfl, by omega, fun j hj => by
          rcases Nat.lt_succ_iff_lt_or_eq.1 hj with h | rfl
          · exact hF j h
          · exact hq, HE, D⟩
        case measure => simp [intOf]; omega
      · refine ⟨.bool true, rfl, ⟨HC, HE⟩, fun hHeld => ?_⟩
        simp only [Act.put, lzA, lzB, lzC]
        refine wpAnyH_done (by kernel_rfl) ?_ _
        clear hHeld
        refine hK7 _ _ ?_
        clear hK7 K7
        refine wp_cond_true rfl ?_
        refine wp_seq_k (fun K8 hK8 => ?_)
        refine wp_region_lit ?_
        refine wl_yield (o := ⟨_, _, _, _, _, _⟩) (.bool true) (yl_assign (by rfl) _ rfl _ rfl) ?_
        simp only [Act.put, lzA, lzB, lzC]
        refine wpList_nil ?_
        refine hK8 _ _ ?_
        clear hK8 K8
        refine wp_ret ?_
        go_ret
        exact ⟨by rw [show hasL l e = true from List.any_eq_true.2 ⟨_, getB_mem HCkl, hq⟩]; rfl, D⟩
    · refine wp_seq_k (fun K4 hK4 => ?_)
      refine wp_seq_k (fun K5 hK5 => ?_)
      refine wp_region_lit ?_
      refine wl_yield (o := ⟨_, _, _, _, _, _⟩) (.int .i64 (k : Nat)) (yl_move (by rfl) _ rfl _ rfl) ?_
      simp only [Act.put, lzA, lzB, lzC]
      refine wl_yield (o := ⟨_, _, _, _, _, _⟩) (.slice q cs.length cp) (yl_move (by rfl) _ rfl _ rfl) ?_
      simp only [Act.put, lzA, lzB, lzC]
      refine wl_yield (o := ⟨_, _, _, _, _, _⟩) (.int .i64 (cs.length : Nat)) (yl_lenB (by rfl) _ rfl _ _ _ rfl) ?_
      simp only [Act.put, lzA, lzB, lzC]
      refine wl_yield (o := ⟨_, _, _, _, _, _⟩) (.bool false) (yl_lssI (by rfl) _ _ _ rfl (((k : Nat) : Int)) (((cs.length : Nat) : Int)) false rfl rfl (decide_eq_false (by omega))) ?_
      simp only [Act.put, lzA, lzB, lzC]
      refine wpList_nil ?_
      refine hK5 _ _ ?_
      clear hK5 K5
      refine wp_cond_false rfl ?_
      refine wp_exit ?_
      refine hK2 _ _ ?_
      clear hK4 K4 hK2 K2
      refine wp_seq_k (fun K6 hK6 => ?_)
      refine wp_region_lit ?_
      refine wl_yield (o := ⟨_, _, _, _, _, _⟩) (.bool false) (yl_assign (by rfl) _ rfl _ rfl) ?_
      simp only [Act.put, lzA, lzB, lzC]
      refine wpList_nil ?_
      refine hK6 _ _ ?_
      clear hK6 K6
      refine wp_ret ?_
      go_ret
      exact ⟨by rw [show hasL l e = false from List.any_eq_false.2 fun b hb => by
          obtain ⟨i, hi, rfl⟩ := List.getElem_of_mem hb
          have := hF i (by omega)
          rw [List.getD_eq_getElem?_getD, List.getElem?_eq_getElem hi] at this
          simp only [Option.getD_some] at this
          rw [this]; simp]; rfl, D⟩
end Go.Proofs.YtbaijjclofekcaaGreatDoor
namespace Go.Proofs.YtbaijjclofekcaaGreatDoor
open Go.RowKit
theorem few_good {l : List BoxV} (h : ∀ b ∈ l, MidB b) : ∀ c ∈ l, GoodB c := fun c hc => (h c hc).good
set_option maxHeartbeats 4000000 in
set_option maxRecDepth 100000 in
theorem refRight6_all (v : Value) (l : List BoxV) (w : World) (hv : Bxs w v l) (fl0 : l.all (fun b => smallBx b && rightBx b) = true → ∀ b ∈ l, MidB b) :
    Calls Tryz.prog 7 #[v] w fun r w' => r = .returned (.bool (rightF l)) ∧ Below w.heap.size w w' := by
  obtain ⟨cs, hr, ha⟩ := hv
  have hbig := hr.1
  have hcl := ha.1
  obtain ⟨q, cp, rfl⟩ := hr.form
  have D := Below.refl w.heap.size w
  go_enter Tryz.func7, Tryz.ntmps7
  refine wp_seq_k (fun K1 hK1 => ?_)
  refine wp_region_lit ?_
  refine wl_yield (o := ⟨_, _, _, _, _, _⟩) (.bool false) (yl_assign (by rfl) _ rfl _ rfl) ?_
  simp only [Act.put, lzA, lzB, lzC]
  refine wpList_nil ?_
  refine hK1 _ _ ?_
  clear hK1 K1
  refine wp_seq_k (fun K2 hK2 => ?_)
  refine wp_seq_k (fun K3 hK3 => ?_)
  refine wp_region_lit ?_
  refine wl_yield (o := ⟨_, _, _, _, _, _⟩) (.int .i64 0) (yl_assign (by rfl) _ rfl _ rfl) ?_
  simp only [Act.put, lzA, lzB, lzC]
  refine wpList_nil ?_
  refine hK3 _ _ ?_
  clear hK3 K3
  refine wp_block ?_
  go_loopw [3] (fun i wr => ∃ k : Nat, i = .int .i64 k ∧ k ≤ cs.length ∧ (∀ j, j < k → (smallBx (l.getD j zBox) && rightBx (l.getD j zBox)) = true) ∧ Below w.heap.size w wr) (fun i _ => cs.length - (intOf i).toNat)
  case atStart => exact ⟨0, rfl, by omega, fun j h => by omega, D⟩
  case round =>
    clear D
    obtain ⟨k, rfl, hk, hF, D⟩ := hrel
    by_cases hlt : k < cs.length
    · have hkl : k < l.length := by rw [← ha.1]; exact hlt
      obtain ⟨g, off, rfl, HC⟩ := (hr.on D).at.2 k hlt
      have hb := ha.2 k hkl
      refine wp_seq_k (fun K4 hK4 => ?_)
      refine wp_seq_k (fun K5 hK5 => ?_)
      refine wp_region_lit ?_
      refine wl_yield (o := ⟨_, _, _, _, _, _⟩) (.int .i64 (k : Nat)) (yl_move (by rfl) _ rfl _ rfl) ?_
      simp only [Act.put, lzA, lzB, lzC]
      refine wl_yield (o := ⟨_, _, _, _, _, _⟩) (.slice (some ⟨g, off, none⟩) cs.length cp) (yl_move (by rfl) _ rfl _ rfl) ?_
      simp only [Act.put, lzA, lzB, lzC]
      refine wl_yield (o := ⟨_, _, _, _, _, _⟩) (.int .i64 (cs.length : Nat)) (yl_lenB (by rfl) _ rfl _ _ _ rfl) ?_
      simp only [Act.put, lzA, lzB, lzC]
      refine wl_yield (o := ⟨_, _, _, _, _, _⟩) (.bool true) (yl_lssI (by rfl) _ _ _ rfl (((k : Nat) : Int)) (((cs.length : Nat) : Int)) true rfl rfl (decide_eq_true (by omega))) ?_
      simp only [Act.put, lzA, lzB, lzC]
      refine wpList_nil ?_
      refine hK5 _ _ ?_
      clear hK5 K5
      refine wp_cond_true rfl ?_
      refine wp_skip ?_
      refine hK4 _ _ ?_
      clear hK4 K4
      refine wp_seq_k (fun K6 hK6 => ?_)
      refine wp_block ?_
      refine wp_seq_k (fun K7 hK7 => ?_)
      refine wp_region_lit ?_
      refine wl_yield (o := ⟨_, _, _, _, _, _⟩) (.slice (some ⟨g, off, none⟩) cs.length cp) (yl_move (by rfl) _ rfl _ rfl) ?_
      simp only [Act.put, lzA, lzB, lzC]
      refine wl_yield (o := ⟨_, _, _, _, _, _⟩) (.int .i64 (k : Nat)) (yl_move (by rfl) _ rfl _ rfl) ?_
      simp only [Act.put, lzA, lzB, lzC]
      refine wl_yield (o := ⟨_, _, _, _, _, _⟩) (.pointer (some ⟨g, off + k * 16, none⟩)) (yl_bxAt (by rfl) _ _ rfl g (off) _ _ (k) rfl rfl (hlt)) ?_
      simp only [Act.put, lzA, lzB, lzC]
      refine wl_yield (o := ⟨_, _, _, _, _, _⟩) (BxC.val (cs.getD k bc0)) (yl_bx (by rfl) _ rfl _ _ rfl _ (fun _ h => by subst h; exact HC)) ?_
      simp only [Act.put, lzA, lzB, lzC]
      refine wl_call (o := ⟨_, _, _, _, _, _⟩) (by rfl) 22 _ _ rfl #[BxC.val (cs.getD k bc0)] rfl (run_call Tryz.func22 (by kernel_rfl) (by kernel_rfl)) ?_
      refine (refRightBx_any _ (l.getD k zBox) _ (hb.on D)).mono ?_
      rintro r v1 ⟨rfl, kb⟩
      replace D := D.trans (kb.mono D.size)
      replace HC := HC.on kb
      clear kb
      cases hq2 : rightBx (l.getD k zBox)
      · refine ⟨.bool false, rfl, ?_⟩
        simp only [Act.put, lzA, lzB, lzC]
        refine wl_yield (o := ⟨_, _, _, _, _, _⟩) (.bool true) (yl_not (by rfl) _ _ rfl false rfl) ?_
        simp only [Act.put, lzA, lzB, lzC]
        refine wl_yield (o := ⟨_, _, _, _, _, _⟩) (.bool true) (yl_move (by rfl) _ rfl _ rfl) ?_
        simp only [Act.put, lzA, lzB, lzC]
        with_reducible refine wl_yield (o := ⟨_, _, _, _, _, _⟩) undef (yl_undef (by kernel_rfl)) ?_
        simp only [Act.put, lzA, lzB, lzC]
        with_reducible refine wl_yield (o := ⟨_, _, _, _, _, _⟩) undef (yl_undef (by kernel_rfl)) ?_
        simp only [Act.put, lzA, lzB, lzC]
        with_reducible refine wl_yield (o := ⟨_, _, _, _, _, _⟩) undef (yl_undef (by kernel_rfl)) ?_
        simp only [Act.put, lzA, lzB, lzC]
        with_reducible refine wl_yield (o := ⟨_, _, _, _, _, _⟩) undef (yl_undef (by kernel_rfl)) ?_
        simp only [Act.put, lzA, lzB, lzC]
        with_reducible refine wl_yield (o := ⟨_, _, _, _, _, _⟩) undef (yl_undef (by kernel_rfl)) ?_
        simp only [Act.put, lzA, lzB, lzC]
        with_reducible refine wl_yield (o := ⟨_, _, _, _, _, _⟩) undef (yl_undef (by kernel_rfl)) ?_
        simp only [Act.put, lzA, lzB, lzC]
        refine wl_yield (o := ⟨_, _, _, _, _, _⟩) (.bool true) (yl_pickT (by rfl) _ _ _ rfl rfl _ rfl) ?_
        simp only [Act.put, lzA, lzB, lzC]
        refine wpList_nil ?_
        refine hK7 _ _ ?_
        clear hK7 K7
        refine wp_cond_true rfl ?_
        refine wp_seq_k (fun K8 hK8 => ?_)
        refine wp_region_lit ?_
        refine wl_yield (o := ⟨_, _, _, _, _, _⟩) (.bool false) (yl_assign (by rfl) _ rfl _ rfl) ?_
        simp only [Act.put, lzA, lzB, lzC]
        refine wpList_nil ?_
        refine hK8 _ _ ?_
        clear hK8 K8
        refine wp_ret ?_
        go_ret
        exact ⟨by unfold rightF; rw [show l.all (fun b => smallBx b && rightBx b) = false from List.all_eq_false.2 ⟨_, getB_mem hkl, by rw [hq2]; simp⟩, Bool.false_and, Bool.and_false]; rfl, D⟩
      · refine ⟨.bool true, rfl, ?_⟩
        simp only [Act.put, lzA, lzB, lzC]
        refine wl_yield (o := ⟨_, _, _, _, _, _⟩) (.bool false) (yl_not (by rfl) _ _ rfl true rfl) ?_
        simp only [Act.put, lzA, lzB, lzC]
        refine wl_yield (o := ⟨_, _, _, _, _, _⟩) (.bool false) (yl_move (by rfl) _ rfl _ rfl) ?_
        simp only [Act.put, lzA, lzB, lzC]
        refine wl_yield (o := ⟨_, _, _, _, _, _⟩) (.slice (some ⟨g, off, none⟩) cs.length cp) (yl_move (by rfl) _ rfl _ rfl) ?_
        simp only [Act.put, lzA, lzB, lzC]
        refine wl_yield (o := ⟨_, _, _, _, _, _⟩) (.int .i64 (k : Nat)) (yl_move (by rfl) _ rfl _ rfl) ?_
        simp only [Act.put, lzA, lzB, lzC]
        refine wl_yield (o := ⟨_, _, _, _, _, _⟩) (.pointer (some ⟨g, off + k * 16, none⟩)) (yl_bxAt (by rfl) _ _ rfl g (off) _ _ (k) rfl rfl (hlt)) ?_
        simp only [Act.put, lzA, lzB, lzC]
        refine wl_yield (o := ⟨_, _, _, _, _, _⟩) (BxC.val (cs.getD k bc0)) (yl_bx (by rfl) _ rfl _ _ rfl _ (fun _ h => by subst h; exact HC)) ?_
        simp only [Act.put, lzA, lzB, lzC]
        refine wl_call (o := ⟨_, _, _, _, _, _⟩) (by rfl) 23 _ _ rfl #[BxC.val (cs.getD k bc0)] rfl (run_call Tryz.func23 (by kernel_rfl) (by kernel_rfl)) ?_
        refine (refSmallBx_any (cs.getD k bc0) (l.getD k zBox) _ (hb.on D)).mono ?_
        rintro r v2 ⟨rfl, kb⟩
        replace D := D.trans (kb.mono D.size)
        replace HC := HC.on kb
        clear kb
        cases hq1 : smallBx (l.getD k zBox)
        · refine ⟨.bool false, rfl, ?_⟩
          simp only [Act.put, lzA, lzB, lzC]
          refine wl_yield (o := ⟨_, _, _, _, _, _⟩) (.bool true) (yl_not (by rfl) _ _ rfl false rfl) ?_
          simp only [Act.put, lzA, lzB, lzC]
          refine wl_yield (o := ⟨_, _, _, _, _, _⟩) (.bool true) (yl_pickF (by rfl) _ _ _ rfl rfl _ rfl) ?_
          simp only [Act.put, lzA, lzB, lzC]
          refine wpList_nil ?_
          refine hK7 _ _ ?_
          clear hK7 K7
          refine wp_cond_true rfl ?_
          refine wp_seq_k (fun K8 hK8 => ?_)
          refine wp_region_lit ?_
          refine wl_yield (o := ⟨_, _, _, _, _, _⟩) (.bool false) (yl_assign (by rfl) _ rfl _ rfl) ?_
          simp only [Act.put, lzA, lzB, lzC]
          refine wpList_nil ?_
          refine hK8 _ _ ?_
          clear hK8 K8
          refine wp_ret ?_
          go_ret
          exact ⟨by unfold rightF; rw [show l.all (fun b => smallBx b && rightBx b) = false from List.all_eq_false.2 ⟨_, getB_mem hkl, by rw [hq1, hq2]; simp⟩, Bool.false_and, Bool.and_false]; rfl, D⟩
        · refine ⟨.bool true, rfl, ?_⟩
          simp only [Act.put, lzA, lzB, lzC]
          refine wl_yield (o := ⟨_, _, _, _, _, _⟩) (.bool false) (yl_not (by rfl) _ _ rfl true rfl) ?_
          simp only [Act.put, lzA, lzB, lzC]
          refine wl_yield (o := ⟨_, _, _, _, _, _⟩) (.bool false) (yl_pickF (by rfl) _ _ _ rfl rfl _ rfl) ?_
          simp only [Act.put, lzA, lzB, lzC]
          refine wpList_nil ?_
          refine hK7 _ _ ?_
          clear hK7 K7
          refine wp_cond_false rfl ?_
          refine wp_skip ?_
          refine hK6 _ _ ?_
          clear hK6 K6
          refine wp_region_lit ?_
          refine wl_yield (o := ⟨_, _, _, _, _, _⟩) (.int .i64 (k : Nat)) (yl_move (by rfl) _ rfl _ rfl) ?_
          simp only [Act.put, lzA, lzB, lzC]
          refine wl_yield (o := ⟨_, _, _, _, _, _⟩) (.int .i64 (k + 1 : Nat)) (yl_addI (by rfl) _ _ _ rfl (((k : Nat) : Int)) (1) (((k + 1 : Nat) : Int)) rfl rfl (by omega) (by omega) (by omega)) ?_
          simp only [Act.put, lzA, lzB, lzC]
          refine wl_yield (o := ⟨_, _, _, _, _, _⟩) (.int .i64 (k + 1 : Nat)) (yl_assign (by rfl) _ rfl _ rfl) ?_
          simp only [Act.put, lzA, lzB, lzC]
          refine wpList_nil ?_
          show _ ∧ _
          go_roundw
          case rel => exact ⟨k + 1, rfl, by omega, fun j hj => by
            rcases Nat.lt_succ_iff_lt_or_eq.1 hj with h | rfl
            · exact hF j h
            · rw [hq1, hq2]; rfl, D⟩
          case measure => simp [intOf]; omega
    · have hall : l.all (fun b => smallBx b && rightBx b) = true := List.all_eq_true.2 fun b hb => by
        obtain ⟨i, hi, rfl⟩ := List.getElem_of_mem hb
        have := hF i (by omega)
        rwa [List.getD_eq_getElem?_getD, List.getElem?_eq_getElem hi] at this
      have fl := fl0 hall
      by_cases h4 : cs.length ≤ 4
      · refine wp_seq_k (fun K4 hK4 => ?_)
        refine wp_seq_k (fun K5 hK5 => ?_)
        refine wp_region_lit ?_
        refine wl_yield (o := ⟨_, _, _, _, _, _⟩) (.int .i64 (k : Nat)) (yl_move (by rfl) _ rfl _ rfl) ?_
        simp only [Act.put, lzA, lzB, lzC]
        refine wl_yield (o := ⟨_, _, _, _, _, _⟩) (.slice q cs.length cp) (yl_move (by rfl) _ rfl _ rfl) ?_
        simp only [Act.put, lzA, lzB, lzC]
        refine wl_yield (o := ⟨_, _, _, _, _, _⟩) (.int .i64 (cs.length : Nat)) (yl_lenB (by rfl) _ rfl _ _ _ rfl) ?_
        simp only [Act.put, lzA, lzB, lzC]
        refine wl_yield (o := ⟨_, _, _, _, _, _⟩) (.bool false) (yl_lssI (by rfl) _ _ _ rfl (((k : Nat) : Int)) (((cs.length : Nat) : Int)) false rfl rfl (decide_eq_false (by omega))) ?_
        simp only [Act.put, lzA, lzB, lzC]
        refine wpList_nil ?_
        refine hK5 _ _ ?_
        clear hK5 K5
        refine wp_cond_false rfl ?_
        refine wp_exit ?_
        refine hK2 _ _ ?_
        clear hK4 K4 hK2 K2
        refine wp_seq_k (fun K6 hK6 => ?_)
        refine wp_region_lit ?_
        refine wl_yield (o := ⟨_, _, _, _, _, _⟩) (.slice q cs.length cp) (yl_move (by rfl) _ rfl _ rfl) ?_
        simp only [Act.put, lzA, lzB, lzC]
        refine wl_yield (o := ⟨_, _, _, _, _, _⟩) (.int .i64 (cs.length : Nat)) (yl_lenB (by rfl) _ rfl _ _ _ rfl) ?_
        simp only [Act.put, lzA, lzB, lzC]
        refine wl_yield (o := ⟨_, _, _, _, _, _⟩) (.bool true) (yl_leqI (by rfl) _ _ _ rfl (((cs.length : Nat) : Int)) (4) true rfl rfl (decide_eq_true (by omega))) ?_
        simp only [Act.put, lzA, lzB, lzC]
        refine wl_yield (o := ⟨_, _, _, _, _, _⟩) (.bool true) (yl_move (by rfl) _ rfl _ rfl) ?_
        simp only [Act.put, lzA, lzB, lzC]
        refine wl_yield (o := ⟨_, _, _, _, _, _⟩) (.slice q cs.length cp) (yl_move (by rfl) _ rfl _ rfl) ?_
        simp only [Act.put, lzA, lzB, lzC]
        refine wl_call (o := ⟨_, _, _, _, _, _⟩) (by rfl) 24 _ _ rfl #[.slice q cs.length cp] rfl (run_call Tryz.func24 (by kernel_rfl) (by kernel_rfl)) ?_
        refine (refTidy_any _ l _ (⟨cs, hr.on D, ha.on D⟩) fl (by omega)).mono ?_
        rintro r v1 ⟨⟨u1, ks, rfl, hO, hA⟩, kb⟩
        replace D := D.trans (kb.mono D.size)
        clear kb
        obtain ⟨q1, c1, rfl⟩ := hO.sl
        refine ⟨.slice q1 ks.length c1, rfl, ?_⟩
        simp only [Act.put, lzA, lzB, lzC]
        refine wl_yield (o := ⟨_, _, _, _, _, _⟩) (.int .i64 (ks.length : Nat)) (yl_lenB (by rfl) _ rfl _ _ _ rfl) ?_
        simp only [Act.put, lzA, lzB, lzC]
        refine wl_yield (o := ⟨_, _, _, _, _, _⟩) (.slice q cs.length cp) (yl_move (by rfl) _ rfl _ rfl) ?_
        simp only [Act.put, lzA, lzB, lzC]
        refine wl_yield (o := ⟨_, _, _, _, _, _⟩) (.int .i64 (cs.length : Nat)) (yl_lenB (by rfl) _ rfl _ _ _ rfl) ?_
        simp only [Act.put, lzA, lzB, lzC]
        refine wl_yield (o := ⟨_, _, _, _, _, _⟩) (.bool (decide (ks.length = cs.length))) (yl_eqlI (by rfl) _ _ _ rfl (((ks.length : Nat) : Int)) (((cs.length : Nat) : Int)) (decide (ks.length = cs.length)) rfl rfl (by rw [decide_eq_decide]; omega)) ?_
        simp only [Act.put, lzA, lzB, lzC]
        refine wl_yield (o := ⟨_, _, _, _, _, _⟩) (.bool (decide (ks.length = cs.length))) (yl_pickT (by rfl) _ _ _ rfl rfl _ rfl) ?_
        simp only [Act.put, lzA, lzB, lzC]
        refine wl_yield (o := ⟨_, _, _, _, _, _⟩) (.bool (decide (ks.length = cs.length))) (yl_assign (by rfl) _ rfl _ rfl) ?_
        simp only [Act.put, lzA, lzB, lzC]
        refine wpList_nil ?_
        refine hK6 _ _ ?_
        clear hK6 K6
        refine wp_ret ?_
        go_ret
        exact ⟨by unfold rightF; rw [decide_eq_true (show l.length ≤ 4 by omega), hall, tidP_eq (few_good fl), ← hA.1, ← ha.1]; rfl, D⟩
      · refine wp_seq_k (fun K4 hK4 => ?_)
        refine wp_seq_k (fun K5 hK5 => ?_)
        refine wp_region_lit ?_
        refine wl_yield (o := ⟨_, _, _, _, _, _⟩) (.int .i64 (k : Nat)) (yl_move (by rfl) _ rfl _ rfl) ?_
        simp only [Act.put, lzA, lzB, lzC]
        refine wl_yield (o := ⟨_, _, _, _, _, _⟩) (.slice q cs.length cp) (yl_move (by rfl) _ rfl _ rfl) ?_
        simp only [Act.put, lzA, lzB, lzC]
        refine wl_yield (o := ⟨_, _, _, _, _, _⟩) (.int .i64 (cs.length : Nat)) (yl_lenB (by rfl) _ rfl _ _ _ rfl) ?_
        simp only [Act.put, lzA, lzB, lzC]
        refine wl_yield (o := ⟨_, _, _, _, _, _⟩) (.bool false) (yl_lssI (by rfl) _ _ _ rfl (((k : Nat) : Int)) (((cs.length : Nat) : Int)) false rfl rfl (decide_eq_false (by omega))) ?_
        simp only [Act.put, lzA, lzB, lzC]
        refine wpList_nil ?_
        refine hK5 _ _ ?_
        clear hK5 K5
        refine wp_cond_false rfl ?_
        refine wp_exit ?_
        refine hK2 _ _ ?_
        clear hK4 K4 hK2 K2
        refine wp_seq_k (fun K6 hK6 => ?_)
        refine wp_region_lit ?_
        refine wl_yield (o := ⟨_, _, _, _, _, _⟩) (.slice q cs.length cp) (yl_move (by rfl) _ rfl _ rfl) ?_
        simp only [Act.put, lzA, lzB, lzC]
        refine wl_yield (o := ⟨_, _, _, _, _, _⟩) (.int .i64 (cs.length : Nat)) (yl_lenB (by rfl) _ rfl _ _ _ rfl) ?_
        simp only [Act.put, lzA, lzB, lzC]
        refine wl_yield (o := ⟨_, _, _, _, _, _⟩) (.bool false) (yl_leqI (by rfl) _ _ _ rfl (((cs.length : Nat) : Int)) (4) false rfl rfl (decide_eq_false (by omega))) ?_
        simp only [Act.put, lzA, lzB, lzC]
        refine wl_yield (o := ⟨_, _, _, _, _, _⟩) (.bool false) (yl_move (by rfl) _ rfl _ rfl) ?_
        simp only [Act.put, lzA, lzB, lzC]
        with_reducible refine wl_yield (o := ⟨_, _, _, _, _, _⟩) undef (yl_undef (by kernel_rfl)) ?_
        simp only [Act.put, lzA, lzB, lzC]
        with_reducible refine wl_yield (o := ⟨_, _, _, _, _, _⟩) undef (yl_undef (by kernel_rfl)) ?_
        simp only [Act.put, lzA, lzB, lzC]
        with_reducible refine wl_yield (o := ⟨_, _, _, _, _, _⟩) undef (yl_undef (by kernel_rfl)) ?_
        simp only [Act.put, lzA, lzB, lzC]
        with_reducible refine wl_yield (o := ⟨_, _, _, _, _, _⟩) undef (yl_undef (by kernel_rfl)) ?_
        simp only [Act.put, lzA, lzB, lzC]
        with_reducible refine wl_yield (o := ⟨_, _, _, _, _, _⟩) undef (yl_undef (by kernel_rfl)) ?_
        simp only [Act.put, lzA, lzB, lzC]
        with_reducible refine wl_yield (o := ⟨_, _, _, _, _, _⟩) undef (yl_undef (by kernel_rfl)) ?_
        simp only [Act.put, lzA, lzB, lzC]
        refine wl_yield (o := ⟨_, _, _, _, _, _⟩) (.bool false) (yl_pickF (by rfl) _ _ _ rfl rfl _ rfl) ?_
        simp only [Act.put, lzA, lzB, lzC]
        refine wl_yield (o := ⟨_, _, _, _, _, _⟩) (.bool false) (yl_assign (by rfl) _ rfl _ rfl) ?_
        simp only [Act.put, lzA, lzB, lzC]
        refine wpList_nil ?_
        refine hK6 _ _ ?_
        clear hK6 K6
        refine wp_ret ?_
        go_ret
        exact ⟨by unfold rightF; rw [decide_eq_false (show ¬ l.length ≤ 4 by omega), Bool.false_and]; rfl, D⟩
end Go.Proofs.YtbaijjclofekcaaGreatDoor
namespace Go.Proofs.YtbaijjclofekcaaGreatDoor
open Go.RowKit
theorem rightF_set {l : List BoxV} (h : rightF l = true) {b : BoxV} (hb : b ∈ l) {i : Nat} (hi : i < 4) : rightSet (b.get i) = true := by
  unfold rightF at h
  rw [Bool.and_eq_true, Bool.and_eq_true, List.all_eq_true] at h
  have hq := h.2.1 b hb
  rw [Bool.and_eq_true] at hq
  exact (all4_iff _).1 hq.2 i hi
theorem rightF_len {l : List BoxV} (h : rightF l = true) : l.length ≤ 4 := by
  unfold rightF at h
  rw [Bool.and_eq_true] at h
  exact of_decide_eq_true h.1
theorem mem_attr {l : List BoxV} {b : BoxV} (hb : b ∈ l) (i : Nat) : b.get i ∈ attrL l i := List.mem_map.2 ⟨b, hb, rfl⟩
theorem attr_append (l m : List BoxV) (i : Nat) : attrL (l ++ m) i = attrL l i ++ attrL m i := by unfold attrL; rw [List.map_append]
theorem has_cells {all l : List BoxV} (hl : ∀ b ∈ l, b ∈ all) (hr : ∀ b ∈ l, ∀ i, i < 4 → rightSet (b.get i) = true) (hI : ∀ i, i < 4 → InL (attrL all i)) {e e' : EvV}
    (h : ∀ i, i < 4 → ∃ k, k < (cutL (attrL all i)).length ∧ hasP ((cutL (attrL all i)).getD k noSet) (e.get i) = true ∧ hasP ((cutL (attrL all i)).getD k noSet) (e'.get i) = true) : hasL l e = hasL l e' := by
  have one : ∀ b ∈ l, hasE b e = hasE b e' := fun b hb => by
    rw [Bool.eq_iff_iff, hasE_iff, hasE_iff]
    have eq : ∀ i, i < 4 → hasP (b.get i) (e.get i) = hasP (b.get i) (e'.get i) := fun i hi => by
      obtain ⟨k, hk, h1, h2⟩ := h i hi
      exact cell_whole (cut_of (hI i hi)) (mem_attr (hl b hb) i) (hr b hb i hi) (i := k) hk h1 h2
    exact ⟨fun q i hi => (eq i hi) ▸ q i hi, fun q i hi => (eq i hi).symm ▸ q i hi⟩
  unfold hasL
  rw [Bool.eq_iff_iff, List.any_eq_true, List.any_eq_true]
  exact ⟨fun ⟨b, hb, q⟩ => ⟨b, hb, by rw [← one b hb]; exact q⟩, fun ⟨b, hb, q⟩ => ⟨b, hb, by rw [one b hb]; exact q⟩⟩
theorem fewC_attr {l : List BoxV} (h : l.all fewBx = true) (h2 : l.length ≤ 15) {i : Nat} (hi : i < 4) : FewC (attrL l i) := by
  refine fewC_all (List.all_eq_true.2 fun S hS => ?_) (by unfold attrL; rw [List.length_map]; exact h2)
  obtain ⟨b, hb, rfl⟩ := List.mem_map.1 hS
  have hq := List.all_eq_true.1 h b hb
  unfold fewBx at hq
  simp only [List.all_cons, List.all_nil, Bool.and_true, Bool.and_eq_true] at hq
  match i, hi with
  | 0, _ => exact hq.1
  | 1, _ => exact hq.2.1
  | 2, _ => exact hq.2.2.1
  | 3, _ => exact hq.2.2.2
end Go.Proofs.YtbaijjclofekcaaGreatDoor
namespace Go.Proofs.YtbaijjclofekcaaGreatDoor
open Go.RowKit
section
variable {ops : Array Oper} {S : World → Prop} {o : Oper} {a : Act}
theorem yt_lenFf (hw : Region.wanted o (yielded ops a.tmps) = true) (x : Operand) (ho : o.op = .call { callee := .builtin .len, args := #[x], argTypes := #[57] }) (p : Option Addr) (n c : Nat) (hx : a.eval x = .slice p n c) : YieldsIf Tryz.prog ops S o (.int .i64 n) a :=
  Or.inl ⟨hw, fun w hS => by
    unfold execOp
    simp only [ho, resolve, invoke, builtin, Sem.run_bind, Sem.run_pure, Result.andThen_ok, List.map_toArray, List.map_cons, List.map_nil, hx]
    go_simp⟩
set_option maxRecDepth 100000 in
theorem yt_atFf (hw : Region.wanted o (yielded ops a.tmps) = true) (x y : Operand) (ho : o.op = .indexAddr 57 x y) (b off n c i : Nat) (hx : a.eval x = .slice (some ⟨b, off, none⟩) n c) (hy : a.eval y = .int .i64 i) (hi : i < n) : YieldsIf Tryz.prog ops S o (.pointer (some ⟨b, off + i * 1, none⟩)) a :=
  Or.inl ⟨hw, fun w hS => by
    simp only [execOp, ho, hx, hy]
    go_simp⟩
theorem yt_ldFx (hw : Region.wanted o (yielded ops a.tmps) = true) (x : Operand) (ho : o.op = .load 73 x) (g k : Nat) (hx : a.eval x = .pointer (some ⟨g, k, none⟩)) (p : Option Addr) (n c : Nat) (h : ∀ w, S w → w.cell? ⟨g, k, none⟩ = some (.slice p n c)) : YieldsIf Tryz.prog ops S o (.slice p n c) a :=
  Or.inl ⟨hw, fun w hS => by
    have hc := h w hS
    simp only [execOp, ho, hx]
    go_simp⟩
end
theorem GridIn.sAt {w : World} {b : Nat} {d m : Int} {s c : Nat → Sl} (h : GridIn w b d m s c) {j : Nat} (hj : j < 4) : w.cell? ⟨b, 3 + j, none⟩ = some (.slice (s j).p (s j).n (s j).c) := by
  have : j = 0 ∨ j = 1 ∨ j = 2 ∨ j = 3 := by omega
  rcases this with rfl | rfl | rfl | rfl
  · exact cell_heap h 3
  · exact cell_heap h 4
  · exact cell_heap h 5
  · exact cell_heap h 6
section
variable {ops : Array Oper} {Q : Exit → Act → World → Prop} {o : Oper} {a : Act}
theorem ot_putGs {i : Nat} {w : World} {K : Act → World → Prop} (hi : ops[i]? = some o) (hw : Region.wanted o (yielded ops a.tmps) = true) (x y : Operand) (ho : o.op = .store 31 x y) (b k : Nat) (hk : k < 4) (hx : a.eval x = .pointer (some ⟨b, 3 + k, none⟩)) (u : Sl) (hy : a.eval y = u.val)
    (d m : Int) (s c : Nat → Sl) (hG : GridIn w b d m s c)
    (h : ∀ W, GridIn W b d m (fun j => if j = k then u else s j) c → w.grownBy W (some b) → K (a.put o.dst undef) W) : wpOp Tryz.prog ops Q i K a w := by
  have f0 := frozen_heap hG (3 + k)
  have c0 : ∃ v, w.cell? ⟨b, 3 + k, none⟩ = some v := by
    rw [cell_heap hG, Array.getElem?_eq_getElem (by simp; omega)]
    exact ⟨_, rfl⟩
  obtain ⟨v, c0⟩ := c0
  have hG' := heap_setCell (i := 3 + k) u.val hG
  refine ot_skip hi hw (w.setCell ⟨b, 3 + k, none⟩ u.val) ?_ (h _ (hG'.trans ?_) (grown_put _ _ _ _))
  · unfold Sl.val at hy ⊢
    simp only [execOp, ho, hx, hy]
    go_simp
  · unfold gObj
    have : k = 0 ∨ k = 1 ∨ k = 2 ∨ k = 3 := by omega
    rcases this with rfl | rfl | rfl | rfl <;> simp
theorem ot_appU9 {i : Nat} {w : World} {K : Act → World → Prop} (hi : ops[i]? = some o) (hw : Region.wanted o (yielded ops a.tmps) = true) (s x : Operand) (ho : o.op = .call { callee := .builtin .append, args := #[s, x], argTypes := #[31, 31] })
    (B : Nat) (v : Value) (cs : List SC) (hs : a.eval s = v) (hown : OwnU w B v cs) (g : Nat) (d : SC) (hx : a.eval x = .slice (some ⟨g, 0, none⟩) 1 1) (hd : StIn w g d) (hn : cs.length ≤ 100000) (hB : B ≤ w.heap.size)
    (h : ∀ v' w', OwnU w' B v' (cs ++ [d]) → Asd v.ownBlock B w w' → (∀ k, v'.ownBlock = some k → some k = v.ownBlock ∨ w.heap.size ≤ k) → (∀ {y : Value} {b : SetV}, SetAt w y b → SetAt w' y b) → K (a.put o.dst v') w') : wpOp Tryz.prog ops Q i K a w := by
  obtain ⟨v', w', hr, h1, h2, h3⟩ := run_appU9 w B o.type v cs hown g d hd hn hB
  refine ot_run hi hw v' w' ?_ (h v' w' h1 h2 h3 (fun q => hown.carry h2 q))
  unfold execOp
  simp only [ho, resolve, invoke, builtin, Sem.run_bind, Sem.run_pure, Result.andThen_ok, List.map_toArray, List.map_cons, List.map_nil, hs, hx, hr]
end
theorem GridIn.asd {w w' : World} {b B : Nat} {d m : Int} {s c : Nat → Sl} {r : Option Nat} (h : GridIn w b d m s c) (ha : Asd r B w w') (hne : r ≠ some b) : GridIn w' b d m s c := (ha.k b (lt_heap h) (fun e => hne e.symm)).trans h
end Go.Proofs.YtbaijjclofekcaaGreatDoor
namespace Go.Proofs.YtbaijjclofekcaaGreatDoor
open Go.RowKit
theorem pl49 {a d : Bool} {p q : Option Addr} {n c m e : Nat} : ∀ x ∈ (#[.bool a, .slice p n c, .bool d, .slice q m e] : Array Value).toList, plainQ x = true := fun x hx => plq_list ⟨a, p, n, c, d, q, m, e⟩ x hx
section
variable {ops : Array Oper} {S : World → Prop} {o : Oper} {a : Act}
theorem yt_ldLq9 (hw : Region.wanted o (yielded ops a.tmps) = true) (x : Operand) (ho : o.op = .load 31 x) (g k : Nat) (hx : a.eval x = .pointer (some ⟨g, k, none⟩)) (p : Option Addr) (n c : Nat) (h : ∀ w, S w → w.cell? ⟨g, k, none⟩ = some (.slice p n c)) : YieldsIf Tryz.prog ops S o (.slice p n c) a :=
  Or.inl ⟨hw, fun w hS => by
    have hc := h w hS
    simp only [execOp, ho, hx]
    go_simp⟩
end
theorem Four.lt {m : Nat} {w : World} {s : Nat → Sl} {cs : Nat → List SC} {ls : Nat → List SetV} (h : Four m w s cs ls) : ∀ i, i < 4 → ∀ g, (s i).val.ownBlock = some g → g < w.heap.size := fun i hi g e => by
  obtain ⟨cur, h1, _⟩ := (h.own i hi).pl g e
  exact lt_heap h1
theorem Four.congr {m : Nat} {w : World} {s : Nat → Sl} {cs : Nat → List SC} {ls ls' : Nat → List SetV} (h : Four m w s cs ls) (e : ∀ i, i < 4 → ls i = ls' i) : Four m w s cs ls' := ⟨h.own, fun j hj => by rw [← e j hj]; exact h.st j hj, h.ne⟩
theorem Four.len {m : Nat} {w : World} {s : Nat → Sl} {cs : Nat → List SC} {ls : Nat → List SetV} (h : Four m w s cs ls) {j : Nat} (hj : j < 4) : (cs j).length = (ls j).length := (h.st j hj).at_.1
def partL9 (X : List BoxV) (bx : BoxV) (j : Nat) : Nat → List SetV := fun i => attrL (X ++ if i < j then [bx] else []) i
theorem part_step (X : List BoxV) (bx : BoxV) (j i : Nat) : (if i = j then partL9 X bx j i ++ [bx.get j] else partL9 X bx j i) = partL9 X bx (j + 1) i := by
  unfold partL9
  by_cases e : i = j
  · subst e
    rw [if_pos rfl, if_neg (Nat.lt_irrefl _), if_pos (Nat.lt_succ_self _), List.append_nil, attr_append]
    rfl
  · rw [if_neg e]
    by_cases h : i < j
    · rw [if_pos h, if_pos (by omega)]
    · rw [if_neg h, if_neg (by omega)]
theorem flat_more {Ls : List (List BoxV)} {k : Nat} (h : k < Ls.length) : (Ls.take (k + 1)).flatten = (Ls.take k).flatten ++ Ls.getD k [] := by
  rw [List.take_succ_eq_append_getElem h, List.flatten_append, List.getD_eq_getElem?_getD, List.getElem?_eq_getElem h]
  simp
theorem take_moreX {l : List BoxV} {k : Nat} (h : k < l.length) : l.take (k + 1) = l.take k ++ [l.getD k zBox] := by
  rw [List.take_succ_eq_append_getElem h, List.getD_eq_getElem?_getD, List.getElem?_eq_getElem h]
  rfl
theorem flat_lenX {Ls : List (List BoxV)} (h : ∀ l ∈ Ls, l.length ≤ 1000) : Ls.flatten.length ≤ Ls.length * 1000 := by
  induction Ls with
  | nil => exact Nat.zero_le _
  | cons a t ih =>
    rw [List.flatten_cons, List.length_append, List.length_cons, Nat.add_mul, Nat.one_mul]
    have h1 := h a List.mem_cons_self
    have h2 := ih (fun l hl => h l (List.mem_cons_of_mem _ hl))
    omega
set_option maxHeartbeats 4000000 in
set_option maxRecDepth 100000 in
theorem new_any (gF : Nat) (Ls : List (List BoxV)) (vs : Nat → Value) (w : World) (hgF : gF < w.heap.size) (hF : ∀ k, k < Ls.length → w.cell? ⟨gF, k, none⟩ = some (vs k)) (hvs : ∀ k, k < Ls.length → Bxs w (vs k) (Ls.getD k [])) (hn : Ls.length ≤ 10) (hsm : ∀ l ∈ Ls, l.length ≤ 1000) (hsz0 : ∀ l ∈ Ls, ∀ b ∈ l, ∀ j, j < 4 → (b.get j).ints.length ≤ 100000 ∧ (b.get j).strs.length ≤ 100000) :
    Calls Tryz.prog 8 #[.slice (some ⟨gF, 0, none⟩) Ls.length Ls.length] w fun r w' => (∃ b, r = .returned (.pointer (some ⟨b, 0, none⟩)) ∧ w.heap.size ≤ b ∧ GridN w' b (fun i => attrL Ls.flatten i)) ∧ Below w.heap.size w w' := by
  have D : w.grownBy w none := grown_refl _ _
  go_enter Tryz.func8, Tryz.ntmps8
  refine wp_seq_k (fun K1 hK1 => ?_)
  refine wp_region_lit ?_
  refine wl_yield (o := ⟨_, _, _, _, _, _⟩) (.pointer none) (yl_assign (by rfl) _ rfl _ rfl) ?_
  simp only [Act.put, lzA, lzB, lzC]
  refine wpList_nil ?_
  refine hK1 _ _ ?_
  clear hK1 K1
  refine wp_seq_k (fun K2 hK2 => ?_)
  refine wp_region_lit ?_
  refine wq_allocG (o := ⟨_, _, _, _, _, _⟩) (by rfl) rfl (fun v1 g1 hg G kb => ?_)
  simp only [Act.put, lzA, lzB, lzC]
  have hb0 : w.heap.size ≤ g1 := hg
  clear hg
  replace D := grown_below D kb
  clear kb
  have FO := four_nil w.heap.size v1
  refine wl_yield (o := ⟨_, _, _, _, _, _⟩) (.pointer (some ⟨g1, 0, none⟩)) (yl_assign (by rfl) _ rfl _ rfl) ?_
  simp only [Act.put, lzA, lzB, lzC]
  refine wpList_nil ?_
  refine hK2 _ _ ?_
  clear hK2 K2
  refine wp_seq_k (fun K3 hK3 => ?_)
  refine wp_seq_k (fun K4 hK4 => ?_)
  refine wp_region_lit ?_
  refine wl_yield (o := ⟨_, _, _, _, _, _⟩) (.slice (some ⟨gF, 0, none⟩) Ls.length Ls.length) (yl_move (by rfl) _ rfl _ rfl) ?_
  simp only [Act.put, lzA, lzB, lzC]
  refine wl_yield (o := ⟨_, _, _, _, _, _⟩) (.int .i64 (Ls.length : Nat)) (yt_lenFf (by rfl) _ rfl (some ⟨gF, 0, none⟩) Ls.length Ls.length rfl) ?_
  simp only [Act.put, lzA, lzB, lzC]
  refine wl_yield (o := ⟨_, _, _, _, _, _⟩) (.int .i64 0) (yl_move (by rfl) _ rfl _ rfl) ?_
  simp only [Act.put, lzA, lzB, lzC]
  refine wpList_nil ?_
  refine hK4 _ _ ?_
  clear hK4 K4
  refine wp_block ?_
  go_loopw [13] (fun i wr => ∃ (k : Nat) (s : Nat → Sl) (cs : Nat → List SC), i = .int .i64 ((k : Nat) : Int) ∧ k ≤ Ls.length ∧ GridIn wr g1 0 0 s (fun _ => sl0) ∧ Four w.heap.size wr s cs (fun i => attrL (Ls.take k).flatten i) ∧ w.grownBy wr none) (fun i _ => Ls.length - (intOf i).toNat)
  case atStart => exact ⟨0, _, _, rfl, Nat.zero_le _, G, FO, D⟩
  case round =>
    clear D G FO
    obtain ⟨k, s, cs, rfl, hk, G, FO, D⟩ := hrel
    by_cases hlt : k < Ls.length
    · have hB := hvs k hlt
      have hsl := hsm _ (gD_mem (d := []) hlt)
      have hzl := hsz0 _ (gD_mem (d := []) hlt)
      have F0 := hF k hlt
      generalize hl9 : Ls.getD k [] = l at hB hsl hzl
      obtain ⟨bs9, ⟨hbs, aB, capB, hvB, hrow⟩, HA⟩ := hB
      have hbl := HA.1
      rw [hvB] at F0
      have cellF := fun (W : World) (D : w.grownBy W none) (j : Nat) => (below_none D).cell (p := ⟨gF, j, none⟩) hgF
      refine wp_seq_k (fun K5 hK5 => ?_)
      refine wp_region_lit ?_
      refine wl_yield (o := ⟨_, _, _, _, _, _⟩) (.bool true) (yt_lssI (by rfl) _ _ _ rfl ((k : Nat) : Int) ((Ls.length : Nat) : Int) true rfl rfl (decide_eq_true (by omega))) ?_
      simp only [Act.put, lzA, lzB, lzC]
      refine wpList_nil ?_
      refine hK5 _ _ ?_
      clear hK5 K5
      refine wp_seq_k (fun K6 hK6 => ?_)
      refine wp_cond_true rfl ?_
      refine wp_skip ?_
      refine hK6 _ _ ?_
      clear hK6 K6
      refine wp_seq_k (fun K7 hK7 => ?_)
      refine wp_block ?_
      refine wp_seq_k (fun K8 hK8 => ?_)
      refine wp_region_lit ?_
      refine wl_yield (o := ⟨_, _, _, _, _, _⟩) (.pointer (some ⟨gF, 0 + k * 1, none⟩)) (yt_atFf (by rfl) _ _ rfl gF 0 _ _ k rfl rfl (hlt)) ?_
      simp only [Act.put, lzA, lzB, lzC]
      refine wl_yield (o := ⟨_, _, _, _, _, _⟩) (.slice aB bs9.length capB) (yt_ldFx (by rfl) _ rfl _ _ rfl _ _ _ (fun _ h => by subst h; rw [Nat.zero_add, Nat.mul_one]; exact (cellF _ D _).trans F0)) ?_
      simp only [Act.put, lzA, lzB, lzC]
      refine wl_yield (o := ⟨_, _, _, _, _, _⟩) (.slice aB bs9.length capB) (yl_assign (by rfl) _ rfl _ rfl) ?_
      simp only [Act.put, lzA, lzB, lzC]
      refine wpList_nil ?_
      refine hK8 _ _ ?_
      clear hK8 K8
      refine wp_seq_k (fun K9 hK9 => ?_)
      refine wp_region_lit ?_
      refine wl_yield (o := ⟨_, _, _, _, _, _⟩) (.slice aB bs9.length capB) (yl_move (by rfl) _ rfl _ rfl) ?_
      simp only [Act.put, lzA, lzB, lzC]
      refine wl_yield (o := ⟨_, _, _, _, _, _⟩) (.int .i64 (bs9.length : Nat)) (yl_lenF (by rfl) _ rfl aB bs9.length capB rfl) ?_
      simp only [Act.put, lzA, lzB, lzC]
      refine wl_yield (o := ⟨_, _, _, _, _, _⟩) (.int .i64 0) (yl_move (by rfl) _ rfl _ rfl) ?_
      simp only [Act.put, lzA, lzB, lzC]
      refine wpList_nil ?_
      refine hK9 _ _ ?_
      clear hK9 K9
      refine wp_block ?_
      go_loopw [19] (fun i wr => ∃ (q : Nat) (s : Nat → Sl) (cs : Nat → List SC), i = .int .i64 ((q : Nat) : Int) ∧ q ≤ bs9.length ∧ GridIn wr g1 0 0 s (fun _ => sl0) ∧ Four w.heap.size wr s cs (fun i => attrL ((Ls.take k).flatten ++ l.take q) i) ∧ w.grownBy wr none) (fun i _ => bs9.length - (intOf i).toNat)
      case atStart => exact ⟨0, s, cs, rfl, Nat.zero_le _, G, by rw [List.take_zero, List.append_nil]; exact FO, D⟩
      case round =>
        clear D G FO s cs
        obtain ⟨q, s, cs, rfl, hq, G, FO, D⟩ := hrel
        by_cases hlq : q < bs9.length
        · have hf1 := flat_lenX (fun l hl => hsm l (List.mem_of_mem_take hl) : ∀ l ∈ Ls.take k, l.length ≤ 1000)
          have hf2 : (Ls.take k).length ≤ 10 := by rw [List.length_take]; omega
          have hf3 := Nat.mul_le_mul_right 1000 hf2
          have hXb : ((Ls.take k).flatten ++ l.take q).length ≤ 11000 := by rw [List.length_append, List.length_take]; omega
          obtain ⟨gB, oB, rfl, hgB, hr⟩ := hrow q hlq
          have HAq := HA.2 q (by omega)
          have hsz := fun j (hj : j < 4) => hzl _ (gD_mem (d := zBox) (show q < l.length by omega)) j hj
          have HBc : BcAt w gB (oB + q * 16) (bs9.getD q bc0) := ⟨hgB, hr⟩
          have cellB := fun (W : World) (D : w.grownBy W none) => HBc.on (below_none D)
          generalize hbx : l.getD q zBox = bx at HAq hsz
          generalize bs9.getD q bc0 = c9 at HAq hr cellB HBc
          refine wp_seq_k (fun K10 hK10 => ?_)
          refine wp_region_lit ?_
          refine wl_yield (o := ⟨_, _, _, _, _, _⟩) (.bool true) (yt_lssI (by rfl) _ _ _ rfl ((q : Nat) : Int) ((bs9.length : Nat) : Int) true rfl rfl (decide_eq_true (by omega))) ?_
          simp only [Act.put, lzA, lzB, lzC]
          refine wpList_nil ?_
          refine hK10 _ _ ?_
          clear hK10 K10
          refine wp_seq_k (fun K11 hK11 => ?_)
          refine wp_cond_true rfl ?_
          refine wp_skip ?_
          refine hK11 _ _ ?_
          clear hK11 K11
          refine wp_seq_k (fun K12 hK12 => ?_)
          refine wp_block ?_
          refine wp_seq_k (fun K13 hK13 => ?_)
          refine wp_region_lit ?_
          refine wl_yield (o := ⟨_, _, _, _, _, _⟩) (.pointer (some ⟨gB, oB + q * 16, none⟩)) (yl_fxAt (by rfl) _ _ rfl gB oB _ _ q rfl rfl (hlq)) ?_
          simp only [Act.put, lzA, lzB, lzC]
          refine wl_yield (o := ⟨_, _, _, _, _, _⟩) (BxC.val c9) (yl_bx (by rfl) _ rfl _ _ rfl _ (fun _ h => by subst h; exact cellB _ D)) ?_
          simp only [Act.put, lzA, lzB, lzC]
          refine wl_newB (o := ⟨_, _, _, _, _, _⟩) (o2 := ⟨_, _, _, _, _, _⟩) (by rfl) rfl _ _ rfl rfl (fun _ => rfl) (fun _ => rfl) (fun v2 g2 hgg2 G2 kb => ?_)
          simp only [Act.put, lzA, lzB, lzC]
          replace D := grown_below D kb
          replace G := GridIn.on G kb
          replace FO := FO.on kb
          clear kb
          refine wpList_nil ?_
          refine hK13 _ _ ?_
          clear hK13 K13
          refine wp_seq_k (fun K14 hK14 => ?_)
          refine wp_region_lit ?_
          refine wl_yield (o := ⟨_, _, _, _, _, _⟩) (BxC.val c9) (yl_bx (by rfl) _ rfl _ _ rfl _ (fun _ h => by subst h; exact BcIn.at G2)) ?_
          simp only [Act.put, lzA, lzB, lzC]
          refine wl_yield (o := ⟨_, _, _, _, _, _⟩) (.int .i64 0) (yl_move (by rfl) _ rfl _ rfl) ?_
          simp only [Act.put, lzA, lzB, lzC]
          refine wpList_nil ?_
          refine hK14 _ _ ?_
          clear hK14 K14
          refine wp_block ?_
          generalize hX : ((Ls.take k).flatten ++ l.take q) = X at FO hXb
          go_loopw [24] (fun i wr => ∃ (j : Nat) (s : Nat → Sl) (cs : Nat → List SC), i = .int .i64 ((j : Nat) : Int) ∧ j ≤ 4 ∧ GridIn wr g1 0 0 s (fun _ => sl0) ∧ Four w.heap.size wr s cs (partL9 X bx j) ∧ w.grownBy wr none) (fun i _ => 4 - (intOf i).toNat)
          case atStart => exact ⟨0, s, cs, rfl, Nat.zero_le _, G, FO.congr (fun i _ => by unfold partL9; rw [if_neg (Nat.not_lt_zero _), List.append_nil]), D⟩
          case round =>
            clear D G FO s cs
            obtain ⟨j, s, cs, rfl, hj, G, FO, D⟩ := hrel
            by_cases hlj : j < 4
            · have hXl : ∀ i, (partL9 X bx j i).length ≤ 12000 := fun i => by
                unfold partL9 attrL
                rw [List.length_map, List.length_append]
                split <;> simp <;> omega
              refine wp_seq_k (fun K15 hK15 => ?_)
              refine wp_region_lit ?_
              refine wl_yield (o := ⟨_, _, _, _, _, _⟩) (.bool true) (yt_lssI (by rfl) _ _ _ rfl ((j : Nat) : Int) 4 true rfl rfl (decide_eq_true (by omega))) ?_
              simp only [Act.put, lzA, lzB, lzC]
              refine wpList_nil ?_
              refine hK15 _ _ ?_
              clear hK15 K15
              refine wp_seq_k (fun K16 hK16 => ?_)
              refine wp_cond_true rfl ?_
              refine wp_skip ?_
              refine hK16 _ _ ?_
              clear hK16 K16
              refine wp_seq_k (fun K17 hK17 => ?_)
              refine wp_block ?_
              refine wp_seq_k (fun K18 hK18 => ?_)
              refine wp_region_lit ?_
              refine wl_yield (o := ⟨_, _, _, _, _, _⟩) (.int .i64 (j : Nat)) (yl_move (by rfl) _ rfl _ rfl) ?_
              simp only [Act.put, lzA, lzB, lzC]
              refine wl_yield (o := ⟨_, _, _, _, _, _⟩) (SC.val (BxC.sc c9 j)) (yl_bxIdx (by rfl) _ _ rfl c9 j rfl rfl (hlj)) ?_
              simp only [Act.put, lzA, lzB, lzC]
              have ltF := FO.lt
              refine wt_allocSt (o := ⟨_, _, _, _, _, _⟩) (by rfl) rfl (fun v3 g3 hg G3 kb => ?_)
              simp only [Act.put, lzA, lzB, lzC]
              have hx9 : ∀ j, j < 4 → (s j).val.ownBlock ≠ some g3 := fun j hj e => by have := ltF j hj _ e; omega
              have n_g1_g3 : g1 ≠ g3 := by have := lt_heap G; omega
              clear ltF
              have ge_g3 : w.heap.size ≤ g3 := Nat.le_trans D.size hg
              clear hg
              replace D := grown_below D kb
              replace G := GridIn.on G kb
              replace FO := FO.on kb
              clear kb
              replace G3 : v3.heap[g3]? = some (.cells #[.bool false, .slice none 0 0, .bool false, .slice none 0 0] 43 (0, 0)) := G3
              refine wl_yield (o := ⟨_, _, _, _, _, _⟩) (.int .i64 (j : Nat)) (yl_assign (by rfl) _ rfl _ rfl) ?_
              simp only [Act.put, lzA, lzB, lzC]
              refine wt_putSt (o := ⟨_, _, _, _, _, _⟩) rfl _ _ rfl _ rfl ((BxC.sc c9 j)) rfl G3 rfl (fun v4 X kg => ?_)
              simp only [Act.put, lzA, lzB, lzC]
              replace D := gr_new D ge_g3 kg
              replace G := heap_gr G kg n_g1_g3
              replace FO := FO.put G3 pl49 kg hx9
              clear kg
              replace G3 : v4.heap[g3]? = some (.cells #[.bool ((BxC.sc c9 j).a), .slice (BxC.sc c9 j).p (BxC.sc c9 j).n (BxC.sc c9 j).c, .bool ((BxC.sc c9 j).d), .slice (BxC.sc c9 j).q (BxC.sc c9 j).m (BxC.sc c9 j).e] 43 (0, 0)) := X
              clear X
              refine wpList_nil ?_
              refine hK18 _ _ ?_
              clear hK18 K18
              refine wp_region_late (S := fun w' => w'.heap[g3]? = some (.cells #[.bool ((BxC.sc c9 j).a), .slice (BxC.sc c9 j).p (BxC.sc c9 j).n (BxC.sc c9 j).c, .bool ((BxC.sc c9 j).d), .slice (BxC.sc c9 j).q (BxC.sc c9 j).m (BxC.sc c9 j).e] 43 (0, 0)) ∧ GridIn w' g1 0 0 s (fun _ => sl0)) (late := fun j => [15].contains j) (by kernel_rfl) ?_
              have kb : Below v4.heap.size v4 v4.drew := (Below.refl _ v4).drew
              replace D := grown_below D kb
              replace G := GridIn.on G kb
              replace FO := FO.on kb
              replace G3 := heap_on G3 kb
              clear kb
              generalize v4.drew = v5 at D G FO G3 ⊢
              refine wpAnyL_pure (i := 0) (oi := ⟨_, _, _, _, _, _⟩) (v := .pointer (some ⟨g1, 0, none⟩)) rfl (by kernel_rfl) (by kernel_rfl) (by kernel_rfl) (fun _ _ _ h => h) (yl_move (by rfl) _ rfl _ rfl) ?_
              simp only [Act.put, lzA, lzB, lzC]
              refine wpAnyL_pure (i := 1) (oi := ⟨_, _, _, _, _, _⟩) (v := .int .i64 (j : Nat)) rfl (by kernel_rfl) (by kernel_rfl) (by kernel_rfl) (fun _ _ _ h => h) (yl_move (by rfl) _ rfl _ rfl) ?_
              simp only [Act.put, lzA, lzB, lzC]
              refine wpAnyL_pure (i := 2) (oi := ⟨_, _, _, _, _, _⟩) (v := .pointer (some ⟨g1, 0, none⟩)) rfl (by kernel_rfl) (by kernel_rfl) (by kernel_rfl) (fun _ _ _ h => h) (yl_move (by rfl) _ rfl _ rfl) ?_
              simp only [Act.put, lzA, lzB, lzC]
              refine wpAnyL_pure (i := 3) (oi := ⟨_, _, _, _, _, _⟩) (v := .int .i64 (j : Nat)) rfl (by kernel_rfl) (by kernel_rfl) (by kernel_rfl) (fun _ _ _ h => h) (yl_move (by rfl) _ rfl _ rfl) ?_
              simp only [Act.put, lzA, lzB, lzC]
              refine wpAnyL_pure (i := 4) (oi := ⟨_, _, _, _, _, _⟩) (v := .pointer (some ⟨g1, 0, none⟩)) rfl (by kernel_rfl) (by kernel_rfl) (by kernel_rfl) (fun _ _ _ h => h) (yt_nil (by rfl) _ rfl _ rfl) ?_
              simp only [Act.put, lzA, lzB, lzC]
              refine wpAnyL_pure (i := 5) (oi := ⟨_, _, _, _, _, _⟩) (v := .pointer (some ⟨g1, 3, none⟩)) rfl (by kernel_rfl) (by kernel_rfl) (by kernel_rfl) (fun _ _ _ h => h) (yq_fG 1 (by decide) (by rfl) _ rfl g1 rfl) ?_
              simp only [Act.put, lzA, lzB, lzC]
              refine wpAnyL_pure (i := 6) (oi := ⟨_, _, _, _, _, _⟩) (v := .pointer (some ⟨g1, 3 + j, none⟩)) rfl (by kernel_rfl) (by kernel_rfl) (by kernel_rfl) (fun _ _ _ h => h) (yq_at4 (by rfl) _ _ rfl g1 3 j rfl rfl hlj) ?_
              simp only [Act.put, lzA, lzB, lzC]
              refine wpAnyL_load (i := 7) (oi := ⟨_, _, _, _, _, _⟩) (v := Sl.val (s j)) rfl (by kernel_rfl) (by kernel_rfl) (by kernel_rfl) (by kernel_rfl) (fun _ _ _ h => h) (yt_ldLq9 (by rfl) _ rfl _ _ rfl (s j).p (s j).n (s j).c (fun _ h => GridIn.sAt h.2 hlj)) ⟨G3, G⟩ ?_
              simp only [Act.put, lzA, lzB, lzC]
              refine wpAnyL_load (i := 8) (oi := ⟨_, _, _, _, _, _⟩) (v := SC.val (BxC.sc c9 j)) rfl (by kernel_rfl) (by kernel_rfl) (by kernel_rfl) (by kernel_rfl) (fun _ _ _ h => h) (yl_set (by rfl) _ rfl _ 0 rfl _ _ _ _ (fun _ h => ⟨cell_heap h.1 0, cell_heap h.1 1, cell_heap h.1 2, cell_heap h.1 3⟩)) ⟨G3, G⟩ ?_
              simp only [Act.put, lzA, lzB, lzC]
              refine wpAnyL_pure (i := 12) (oi := ⟨_, _, _, _, _, _⟩) (v := .pointer (some ⟨g1, 0, none⟩)) rfl (by kernel_rfl) (by kernel_rfl) (by kernel_rfl) (fun _ _ _ h => h) (yt_nil (by rfl) _ rfl _ rfl) ?_
              simp only [Act.put, lzA, lzB, lzC]
              refine wpAnyL_pure (i := 13) (oi := ⟨_, _, _, _, _, _⟩) (v := .pointer (some ⟨g1, 3, none⟩)) rfl (by kernel_rfl) (by kernel_rfl) (by kernel_rfl) (fun _ _ _ h => h) (yq_fG 1 (by decide) (by rfl) _ rfl g1 rfl) ?_
              simp only [Act.put, lzA, lzB, lzC]
              refine wpAnyL_all (rs := [9]) (by kernel_rfl) (by simp) ?_
              intro j hj
              have hj := List.mem_singleton.1 hj
              subst hj
              refine ot_call (o := ⟨_, _, _, _, _, _⟩) rfl (by rfl) 25 _ _ rfl #[SC.val (BxC.sc c9 j)] rfl (run_call Tryz.func25 (by kernel_rfl) (by kernel_rfl)) ?_
              refine (copied9_any _ (bx.get j) _ ((HAq.sc j hlj).on (below_none D)) (hsz j hlj).1 (hsz j hlj).2).mono ?_
              rintro r v6 (⟨⟨d9, rfl, hC9, hU9⟩, kb⟩)
              replace hU9 := hU9.mono D.size
              replace D := grown_below D kb
              replace G := GridIn.on G kb
              replace FO := FO.on kb
              replace G3 := heap_on G3 kb
              clear kb
              refine Or.inl ⟨SC.val d9, rfl, ⟨fun _ _ => ⟨G3, G⟩, ?_⟩⟩
              simp only [Act.put, lzA, lzB, lzC]
              refine wpAnyL_all (rs := [10]) (by kernel_rfl) (by simp) ?_
              intro j hj
              have hj := List.mem_singleton.1 hj
              subst hj
              refine ot_row1Q (o := ⟨_, _, _, _, _, _⟩) rfl (by rfl) _ rfl d9 rfl (fun v7 g7 hg G7 kb => ?_)
              have n_g3_g7 : g3 ≠ g7 := by have := lt_heap G3; omega
              have ge_g7 : w.heap.size ≤ g7 := Nat.le_trans D.size hg
              clear hg
              replace D := grown_below D kb
              replace G := GridIn.on G kb
              replace FO := FO.on kb
              replace G3 := heap_on G3 kb
              replace hC9 := hC9.on kb
              clear kb
              refine ⟨fun _ _ => ⟨G3, G⟩, ?_⟩
              simp only [Act.put, lzA, lzB, lzC]
              refine wpAnyL_all (rs := [11]) (by kernel_rfl) (by simp) ?_
              intro j hj
              have hj := List.mem_singleton.1 hj
              subst hj
              refine ot_appU9 (o := ⟨_, _, _, _, _, _⟩) rfl (by rfl) _ _ rfl w.heap.size _ (cs j) rfl (FO.own j hlj) g7 d9 rfl G7 (by have := FO.len hlj; rw [this]; exact Nat.le_trans (hXl j) (by omega)) D.size (fun v8' v8 OU' ha hw hc => ?_)
              obtain ⟨u9, rfl⟩ : ∃ u : Sl, v8' = u.val := by
                obtain ⟨a, c, e⟩ := OU'.own.frm
                exact ⟨⟨a, _, c⟩, e⟩
              have FO' := FO.app hlj OU' ha hw hc hC9 hU9
              replace G := G.asd ha (FO.notG G j hlj)
              replace G3 := (ha.k g3 (lt_heap G3) (fun e => hx9 j hlj e.symm)).trans G3
              replace D := grown_none ((below_none D).trans ha.b)
              replace FO := FO'
              clear FO' OU' ha hw hc hC9 hU9 G7
              refine ⟨fun _ _ => ⟨G3, G⟩, ?_⟩
              simp only [Act.put, lzA, lzB, lzC]
              refine wpAnyL_pure (i := 14) (oi := ⟨_, _, _, _, _, _⟩) (v := .pointer (some ⟨g1, 3 + j, none⟩)) rfl (by kernel_rfl) (by kernel_rfl) (by kernel_rfl) (fun _ _ _ h => h) (yq_at4 (by rfl) _ _ rfl g1 3 j rfl rfl hlj) ?_
              simp only [Act.put, lzA, lzB, lzC]
              refine wpAnyL_all (rs := [15]) (by kernel_rfl) (by simp) ?_
              intro j hj
              have hj := List.mem_singleton.1 hj
              subst hj
              refine ot_putGs (o := ⟨_, _, _, _, _, _⟩) rfl (by rfl) _ _ rfl g1 j hlj rfl u9 rfl _ _ _ _ G (fun v9 X kg => ?_)
              replace FO := FO.grid G kg
              replace D := gr_new D hb0 kg
              replace G := X
              clear X kg G3
              refine ⟨fun h => absurd h (by decide), ?_⟩
              simp only [Act.put, lzA, lzB, lzC]
              refine wpAnyL_done (by kernel_rfl) ?_ _
              refine hK17 _ _ ?_
              clear hK17 K17
              refine wp_region_lit ?_
              refine wl_yield (o := ⟨_, _, _, _, _, _⟩) (.int .i64 (j + 1 : Nat)) (yt_addI (by rfl) _ _ _ rfl ((j : Nat) : Int) 1 ((j + 1 : Nat) : Int) rfl rfl (by omega) (by omega) (by omega)) ?_
              simp only [Act.put, lzA, lzB, lzC]
              refine wl_yield (o := ⟨_, _, _, _, _, _⟩) (.int .i64 (j + 1 : Nat)) (yl_move (by rfl) _ rfl _ rfl) ?_
              simp only [Act.put, lzA, lzB, lzC]
              refine wpList_nil ?_
              show _ ∧ _
              go_roundw
              case rel => exact ⟨j + 1, _, _, rfl, by omega, G, FO.congr (fun i _ => part_step X bx j i), D⟩
              case measure => simp [intOf]; omega
            · obtain rfl : j = 4 := by omega
              subst hX
              replace FO := FO.congr (ls' := fun i => attrL (((Ls.take k).flatten ++ l.take q) ++ [bx]) i) (fun i hi => by unfold partL9; rw [if_pos hi])
              refine wp_seq_k (fun K15 hK15 => ?_)
              refine wp_region_lit ?_
              refine wl_yield (o := ⟨_, _, _, _, _, _⟩) (.bool false) (yt_lssI (by rfl) _ _ _ rfl ((4 : Nat) : Int) 4 false rfl rfl (decide_eq_false (by omega))) ?_
              simp only [Act.put, lzA, lzB, lzC]
              refine wpList_nil ?_
              refine hK15 _ _ ?_
              clear hK15 K15
              refine wp_seq_k (fun K16 hK16 => ?_)
              refine wp_cond_false rfl ?_
              refine wp_exit ?_
              refine hK12 _ _ ?_
              clear hK16 K16 hK12 K12
              refine wp_region_lit ?_
              refine wl_yield (o := ⟨_, _, _, _, _, _⟩) (.int .i64 (q + 1 : Nat)) (yt_addI (by rfl) _ _ _ rfl ((q : Nat) : Int) 1 ((q + 1 : Nat) : Int) rfl rfl (by omega) (by omega) (by omega)) ?_
              simp only [Act.put, lzA, lzB, lzC]
              refine wl_yield (o := ⟨_, _, _, _, _, _⟩) (.int .i64 (q + 1 : Nat)) (yl_move (by rfl) _ rfl _ rfl) ?_
              simp only [Act.put, lzA, lzB, lzC]
              refine wpList_nil ?_
              show _ ∧ _
              go_roundw
              case rel => exact ⟨q + 1, s, cs, rfl, by omega, G, by rw [take_moreX (by omega), hbx, ← List.append_assoc]; exact FO, D⟩
              case measure => simp [intOf]; omega
        · obtain rfl : q = bs9.length := by omega
          rw [hbl, List.take_length] at FO
          refine wp_seq_k (fun K10 hK10 => ?_)
          refine wp_region_lit ?_
          refine wl_yield (o := ⟨_, _, _, _, _, _⟩) (.bool false) (yt_lssI (by rfl) _ _ _ rfl ((bs9.length : Nat) : Int) ((bs9.length : Nat) : Int) false rfl rfl (decide_eq_false (by omega))) ?_
          simp only [Act.put, lzA, lzB, lzC]
          refine wpList_nil ?_
          refine hK10 _ _ ?_
          clear hK10 K10
          refine wp_seq_k (fun K11 hK11 => ?_)
          refine wp_cond_false rfl ?_
          refine wp_exit ?_
          refine hK7 _ _ ?_
          clear hK11 K11 hK7 K7
          refine wp_region_lit ?_
          refine wl_yield (o := ⟨_, _, _, _, _, _⟩) (.int .i64 (k + 1 : Nat)) (yt_addI (by rfl) _ _ _ rfl ((k : Nat) : Int) 1 ((k + 1 : Nat) : Int) rfl rfl (by omega) (by omega) (by omega)) ?_
          simp only [Act.put, lzA, lzB, lzC]
          refine wl_yield (o := ⟨_, _, _, _, _, _⟩) (.int .i64 (k + 1 : Nat)) (yl_move (by rfl) _ rfl _ rfl) ?_
          simp only [Act.put, lzA, lzB, lzC]
          refine wpList_nil ?_
          show _ ∧ _
          go_roundw
          case rel => exact ⟨k + 1, s, cs, rfl, by omega, G, by rw [flat_more hlt, hl9]; exact FO, D⟩
          case measure => simp [intOf]; omega
    · obtain rfl : k = Ls.length := by omega
      rw [List.take_length] at FO
      refine wp_seq_k (fun K5 hK5 => ?_)
      refine wp_region_lit ?_
      refine wl_yield (o := ⟨_, _, _, _, _, _⟩) (.bool false) (yt_lssI (by rfl) _ _ _ rfl ((Ls.length : Nat) : Int) ((Ls.length : Nat) : Int) false rfl rfl (decide_eq_false (by omega))) ?_
      simp only [Act.put, lzA, lzB, lzC]
      refine wpList_nil ?_
      refine hK5 _ _ ?_
      clear hK5 K5
      refine wp_seq_k (fun K6 hK6 => ?_)
      refine wp_cond_false rfl ?_
      refine wp_exit ?_
      refine hK3 _ _ ?_
      clear hK6 K6 hK3 K3
      refine wp_seq_k (fun K7 hK7 => ?_)
      refine wp_region_lit ?_
      refine wl_yield (o := ⟨_, _, _, _, _, _⟩) (.pointer (some ⟨g1, 0, none⟩)) (yl_move (by rfl) _ rfl _ rfl) ?_
      simp only [Act.put, lzA, lzB, lzC]
      refine wl_yield (o := ⟨_, _, _, _, _, _⟩) (.pointer (some ⟨g1, 0, none⟩)) (yl_assign (by rfl) _ rfl _ rfl) ?_
      simp only [Act.put, lzA, lzB, lzC]
      refine wpList_nil ?_
      refine hK7 _ _ ?_
      clear hK7 K7
      refine wp_ret ?_
      try simp only [Exit.inBlock, Exit.then]
      go_ret
      exact ⟨⟨g1, rfl, hb0, FO.ok G (fun j hj => by rw [FO.len hj]; unfold attrL; rw [List.length_map]; have := flat_lenX hsm; omega)⟩, below_none D⟩
end Go.Proofs.YtbaijjclofekcaaGreatDoor
namespace Go.Proofs.YtbaijjclofekcaaGreatDoor
open Go.RowKit
section
variable {ops : Array Oper} {S : World → Prop} {o : Oper} {a : Act}
end
set_option maxHeartbeats 4000000 in
set_option maxRecDepth 100000 in
theorem sameAll_any (v u : Value) (l : List SetV) (w : World) (hv : SetsAt w v l) (hu : SetsAt w u l) :
    Calls Tryz.prog 13 #[v, u] w fun r w' => r = .returned (.bool true) ∧ Below w.heap.size w w' := by
  obtain ⟨a, cap, rfl, -⟩ := hv.2
  obtain ⟨b, cb, rfl, -⟩ := hu.2
  have hl64 := hv.1
  have D : w.grownBy w none := grown_refl _ _
  go_enter Tryz.func13, Tryz.ntmps13
  refine wp_seq_k (fun K1 hK1 => ?_)
  refine wp_region_lit ?_
  refine wl_yield (o := ⟨_, _, _, _, _, _⟩) (.bool false) (yl_assign (by rfl) _ rfl _ rfl) ?_
  simp only [Act.put, lzA, lzB, lzC]
  refine wpList_nil ?_
  refine hK1 _ _ ?_
  clear hK1 K1
  refine wp_seq_k (fun K2 hK2 => ?_)
  refine wp_seq_k (fun K3 hK3 => ?_)
  refine wp_region_lit ?_
  refine wl_yield (o := ⟨_, _, _, _, _, _⟩) (.slice a l.length cap) (yl_move (by rfl) _ rfl _ rfl) ?_
  simp only [Act.put, lzA, lzB, lzC]
  refine wl_yield (o := ⟨_, _, _, _, _, _⟩) (.int .i64 (l.length : Nat)) (yt_lenQ (by rfl) _ rfl a l.length cap rfl) ?_
  simp only [Act.put, lzA, lzB, lzC]
  refine wl_yield (o := ⟨_, _, _, _, _, _⟩) (.slice b l.length cb) (yl_move (by rfl) _ rfl _ rfl) ?_
  simp only [Act.put, lzA, lzB, lzC]
  refine wl_yield (o := ⟨_, _, _, _, _, _⟩) (.int .i64 (l.length : Nat)) (yt_lenQ (by rfl) _ rfl b l.length cb rfl) ?_
  simp only [Act.put, lzA, lzB, lzC]
  refine wl_yield (o := ⟨_, _, _, _, _, _⟩) (.bool false) (yt_neqI (by rfl) _ _ _ rfl ((l.length : Nat) : Int) ((l.length : Nat) : Int) false rfl rfl (by simp)) ?_
  simp only [Act.put, lzA, lzB, lzC]
  refine wpList_nil ?_
  refine hK3 _ _ ?_
  clear hK3 K3
  refine wp_cond_false rfl ?_
  refine wp_skip ?_
  refine hK2 _ _ ?_
  clear hK2 K2
  refine wp_seq_k (fun K4 hK4 => ?_)
  refine wp_seq_k (fun K5 hK5 => ?_)
  refine wp_region_lit ?_
  refine wl_yield (o := ⟨_, _, _, _, _, _⟩) (.int .i64 0) (yl_assign (by rfl) _ rfl _ rfl) ?_
  simp only [Act.put, lzA, lzB, lzC]
  refine wpList_nil ?_
  refine hK5 _ _ ?_
  clear hK5 K5
  refine wp_block ?_
  go_loopw [5] (fun i wr => ∃ (k : Nat), i = .int .i64 ((k : Nat) : Int) ∧ k ≤ l.length ∧ w.grownBy wr none) (fun i _ => l.length - (intOf i).toNat)
  case atStart => exact ⟨0, rfl, Nat.zero_le _, D⟩
  case round =>
    clear D
    obtain ⟨k, rfl, hk, D⟩ := hrel
    by_cases hlt : k < l.length
    · obtain ⟨gI, oI, vi, vs, rfl, hgI, C0, C1, C2, C3, hI, hT⟩ := hv.at.2 k hlt
      obtain ⟨gJ, oJ, wi, ws, rfl, hgJ, E0, E1, E2, E3, hI2, hT2⟩ := hu.at.2 k hlt
      generalize hS : l.getD k noSet = S at C0 C2 hI hT E0 E2 hI2 hT2
      obtain ⟨ai, ci, rfl⟩ := hI.form
      obtain ⟨az, cz, rfl⟩ := hT.form
      obtain ⟨bi, di, rfl⟩ := hI2.form
      obtain ⟨bz, dz, rfl⟩ := hT2.form
      have cellD := fun (W : World) (D : w.grownBy W none) (j : Nat) => (below_none D).cell (p := ⟨gI, j, none⟩) hgI
      have cellE := fun (W : World) (D : w.grownBy W none) (j : Nat) => (below_none D).cell (p := ⟨gJ, j, none⟩) hgJ
      refine wp_seq_k (fun K6 hK6 => ?_)
      refine wp_seq_k (fun K7 hK7 => ?_)
      refine wp_region_lit ?_
      refine wl_yield (o := ⟨_, _, _, _, _, _⟩) (.int .i64 (k : Nat)) (yl_move (by rfl) _ rfl _ rfl) ?_
      simp only [Act.put, lzA, lzB, lzC]
      refine wl_yield (o := ⟨_, _, _, _, _, _⟩) (.slice (some ⟨gI, oI, none⟩) l.length cap) (yl_move (by rfl) _ rfl _ rfl) ?_
      simp only [Act.put, lzA, lzB, lzC]
      refine wl_yield (o := ⟨_, _, _, _, _, _⟩) (.int .i64 (l.length : Nat)) (yt_lenQ (by rfl) _ rfl (some ⟨gI, oI, none⟩) l.length cap rfl) ?_
      simp only [Act.put, lzA, lzB, lzC]
      refine wl_yield (o := ⟨_, _, _, _, _, _⟩) (.bool true) (yt_lssI (by rfl) _ _ _ rfl ((k : Nat) : Int) ((l.length : Nat) : Int) true rfl rfl (decide_eq_true (by omega))) ?_
      simp only [Act.put, lzA, lzB, lzC]
      refine wpList_nil ?_
      refine hK7 _ _ ?_
      clear hK7 K7
      refine wp_cond_true rfl ?_
      refine wp_skip ?_
      refine hK6 _ _ ?_
      clear hK6 K6
      refine wp_seq_k (fun K8 hK8 => ?_)
      refine wp_block ?_
      refine wp_seq_k (fun K9 hK9 => ?_)
      refine wp_region_late (S := fun w' => (w'.cell? ⟨gI, oI + k * 4, none⟩ = some (.bool S.absent) ∧ w'.cell? ⟨gI, oI + k * 4 + 1, none⟩ = some (.slice ai S.ints.length ci) ∧ w'.cell? ⟨gI, oI + k * 4 + 2, none⟩ = some (.bool S.co) ∧ w'.cell? ⟨gI, oI + k * 4 + 3, none⟩ = some (.slice az S.strs.length cz)) ∧ (w'.cell? ⟨gJ, oJ + k * 4, none⟩ = some (.bool S.absent) ∧ w'.cell? ⟨gJ, oJ + k * 4 + 1, none⟩ = some (.slice bi S.ints.length di) ∧ w'.cell? ⟨gJ, oJ + k * 4 + 2, none⟩ = some (.bool S.co) ∧ w'.cell? ⟨gJ, oJ + k * 4 + 3, none⟩ = some (.slice bz S.strs.length dz))) (late := fun j => [].contains j) (by kernel_rfl) ?_
      have kb : Below wr.heap.size wr wr.drew := (Below.refl _ wr).drew
      replace D := grown_below D kb
      clear kb
      generalize wr.drew = v1 at D  ⊢
      refine wpAnyL_pure (i := 0) (oi := ⟨_, _, _, _, _, _⟩) (v := .slice (some ⟨gI, oI, none⟩) l.length cap) rfl (by kernel_rfl) (by kernel_rfl) (by kernel_rfl) (fun _ _ _ h => h) (yl_move (by rfl) _ rfl _ rfl) ?_
      simp only [Act.put, lzA, lzB, lzC]
      refine wpAnyL_pure (i := 1) (oi := ⟨_, _, _, _, _, _⟩) (v := .int .i64 (k : Nat)) rfl (by kernel_rfl) (by kernel_rfl) (by kernel_rfl) (fun _ _ _ h => h) (yl_move (by rfl) _ rfl _ rfl) ?_
      simp only [Act.put, lzA, lzB, lzC]
      refine wpAnyL_pure (i := 2) (oi := ⟨_, _, _, _, _, _⟩) (v := .pointer (some ⟨gI, oI + k * 4, none⟩)) rfl (by kernel_rfl) (by kernel_rfl) (by kernel_rfl) (fun _ _ _ h => h) (yt_atQ (by rfl) _ _ rfl gI oI _ _ k rfl rfl (hlt)) ?_
      simp only [Act.put, lzA, lzB, lzC]
      refine wpAnyL_load (i := 3) (oi := ⟨_, _, _, _, _, _⟩) (v := .agg #[.bool (S.absent), .slice ai S.ints.length ci, .bool (S.co), .slice az S.strs.length cz]) rfl (by kernel_rfl) (by kernel_rfl) (by kernel_rfl) (by kernel_rfl) (fun _ _ _ h => h) (yl_set (by rfl) _ rfl _ _ rfl _ _ _ _ (fun _ h => h.1)) ⟨⟨(cellD _ D _).trans C0, (cellD _ D _).trans C1, (cellD _ D _).trans C2, (cellD _ D _).trans C3⟩, ⟨(cellE _ D _).trans E0, (cellE _ D _).trans E1, (cellE _ D _).trans E2, (cellE _ D _).trans E3⟩⟩ ?_
      simp only [Act.put, lzA, lzB, lzC]
      refine wpAnyL_pure (i := 4) (oi := ⟨_, _, _, _, _, _⟩) (v := .slice (some ⟨gJ, oJ, none⟩) l.length cb) rfl (by kernel_rfl) (by kernel_rfl) (by kernel_rfl) (fun _ _ _ h => h) (yl_move (by rfl) _ rfl _ rfl) ?_
      simp only [Act.put, lzA, lzB, lzC]
      refine wpAnyL_pure (i := 5) (oi := ⟨_, _, _, _, _, _⟩) (v := .int .i64 (k : Nat)) rfl (by kernel_rfl) (by kernel_rfl) (by kernel_rfl) (fun _ _ _ h => h) (yl_move (by rfl) _ rfl _ rfl) ?_
      simp only [Act.put, lzA, lzB, lzC]
      refine wpAnyL_pure (i := 6) (oi := ⟨_, _, _, _, _, _⟩) (v := .pointer (some ⟨gJ, oJ + k * 4, none⟩)) rfl (by kernel_rfl) (by kernel_rfl) (by kernel_rfl) (fun _ _ _ h => h) (yt_atQ (by rfl) _ _ rfl gJ oJ _ _ k rfl rfl (hlt)) ?_
      simp only [Act.put, lzA, lzB, lzC]
      refine wpAnyL_load (i := 7) (oi := ⟨_, _, _, _, _, _⟩) (v := .agg #[.bool (S.absent), .slice bi S.ints.length di, .bool (S.co), .slice bz S.strs.length dz]) rfl (by kernel_rfl) (by kernel_rfl) (by kernel_rfl) (by kernel_rfl) (fun _ _ _ h => h) (yl_set (by rfl) _ rfl _ _ rfl _ _ _ _ (fun _ h => h.2)) ⟨⟨(cellD _ D _).trans C0, (cellD _ D _).trans C1, (cellD _ D _).trans C2, (cellD _ D _).trans C3⟩, ⟨(cellE _ D _).trans E0, (cellE _ D _).trans E1, (cellE _ D _).trans E2, (cellE _ D _).trans E3⟩⟩ ?_
      simp only [Act.put, lzA, lzB, lzC]
      refine wpAnyL_all (rs := [8]) (by kernel_rfl) (by simp) ?_
      intro j hj
      have hj := List.mem_singleton.1 hj
      subst hj
      refine ot_call (o := ⟨_, _, _, _, _, _⟩) rfl (by rfl) 31 _ _ rfl #[.agg #[.bool (S.absent), .slice ai S.ints.length ci, .bool (S.co), .slice az S.strs.length cz], .agg #[.bool (S.absent), .slice bi S.ints.length di, .bool (S.co), .slice bz S.strs.length dz]] rfl (run_call Tryz.func31 (by kernel_rfl) (by kernel_rfl)) ?_
      refine (refSame_any _ _ S S _ (show SetAt _ (SC.val ⟨S.absent, ai, S.ints.length, ci, S.co, az, S.strs.length, cz⟩) S from ⟨_, _, rfl, hI.on (below_none D), hT.on (below_none D)⟩) (show SetAt _ (SC.val ⟨S.absent, bi, S.ints.length, di, S.co, bz, S.strs.length, dz⟩) S from ⟨_, _, rfl, hI2.on (below_none D), hT2.on (below_none D)⟩)).mono ?_
      rintro r v2 (⟨rfl, kb⟩)
      replace D := grown_below D kb
      clear kb
      refine Or.inl ⟨.bool true, ret_bool ((sameB_iff S S).2 rfl), ⟨fun _ _ => ⟨⟨(cellD _ D _).trans C0, (cellD _ D _).trans C1, (cellD _ D _).trans C2, (cellD _ D _).trans C3⟩, ⟨(cellE _ D _).trans E0, (cellE _ D _).trans E1, (cellE _ D _).trans E2, (cellE _ D _).trans E3⟩⟩, ?_⟩⟩
      simp only [Act.put, lzA, lzB, lzC]
      refine wpAnyL_pure (i := 9) (oi := ⟨_, _, _, _, _, _⟩) (v := .bool false) rfl (by kernel_rfl) (by kernel_rfl) (by kernel_rfl) (fun _ _ _ h => h) (yl_not (by rfl) _ _ rfl true rfl) ?_
      simp only [Act.put, lzA, lzB, lzC]
      refine wpAnyL_done (by kernel_rfl) ?_ _
      refine hK9 _ _ ?_
      clear hK9 K9
      refine wp_cond_false rfl ?_
      refine wp_skip ?_
      refine hK8 _ _ ?_
      clear hK8 K8
      refine wp_region_lit ?_
      refine wl_yield (o := ⟨_, _, _, _, _, _⟩) (.int .i64 (k : Nat)) (yl_move (by rfl) _ rfl _ rfl) ?_
      simp only [Act.put, lzA, lzB, lzC]
      refine wl_yield (o := ⟨_, _, _, _, _, _⟩) (.int .i64 (k + 1 : Nat)) (yt_addI (by rfl) _ _ _ rfl ((k : Nat) : Int) 1 ((k + 1 : Nat) : Int) rfl rfl (by omega) (by omega) (by omega)) ?_
      simp only [Act.put, lzA, lzB, lzC]
      refine wl_yield (o := ⟨_, _, _, _, _, _⟩) (.int .i64 (k + 1 : Nat)) (yl_assign (by rfl) _ rfl _ rfl) ?_
      simp only [Act.put, lzA, lzB, lzC]
      refine wpList_nil ?_
      show _ ∧ _
      go_roundw
      case rel => exact ⟨k + 1, rfl, by omega, D⟩
      case measure => simp [intOf]; omega
    · obtain rfl : k = l.length := by omega
      refine wp_seq_k (fun K6 hK6 => ?_)
      refine wp_seq_k (fun K7 hK7 => ?_)
      refine wp_region_lit ?_
      refine wl_yield (o := ⟨_, _, _, _, _, _⟩) (.int .i64 (l.length : Nat)) (yl_move (by rfl) _ rfl _ rfl) ?_
      simp only [Act.put, lzA, lzB, lzC]
      refine wl_yield (o := ⟨_, _, _, _, _, _⟩) (.slice a l.length cap) (yl_move (by rfl) _ rfl _ rfl) ?_
      simp only [Act.put, lzA, lzB, lzC]
      refine wl_yield (o := ⟨_, _, _, _, _, _⟩) (.int .i64 (l.length : Nat)) (yt_lenQ (by rfl) _ rfl a l.length cap rfl) ?_
      simp only [Act.put, lzA, lzB, lzC]
      refine wl_yield (o := ⟨_, _, _, _, _, _⟩) (.bool false) (yt_lssI (by rfl) _ _ _ rfl ((l.length : Nat) : Int) ((l.length : Nat) : Int) false rfl rfl (decide_eq_false (by omega))) ?_
      simp only [Act.put, lzA, lzB, lzC]
      refine wpList_nil ?_
      refine hK7 _ _ ?_
      clear hK7 K7
      refine wp_cond_false rfl ?_
      refine wp_exit ?_
      refine hK4 _ _ ?_
      clear hK6 K6 hK4 K4
      refine wp_seq_k (fun K8 hK8 => ?_)
      refine wp_region_lit ?_
      refine wl_yield (o := ⟨_, _, _, _, _, _⟩) (.bool true) (yl_assign (by rfl) _ rfl _ rfl) ?_
      simp only [Act.put, lzA, lzB, lzC]
      refine wpList_nil ?_
      refine hK8 _ _ ?_
      clear hK8 K8
      refine wp_ret ?_
      try simp only [Exit.inBlock, Exit.then]
      go_ret
      exact ⟨rfl, below_none D⟩
end Go.Proofs.YtbaijjclofekcaaGreatDoor
namespace Go.Proofs.YtbaijjclofekcaaGreatDoor
open Go.RowKit
theorem wpList_appRowB {ops : Array Oper} {rest : List Oper} {o : Oper} {a : Act} {Q : Exit → Act → World → Prop} (w : World) (hgd : o.guard = none) (s x : Operand)
    (ho : o.op = .call { callee := .builtin .append, args := #[s, x], argTypes := #[22, 22] })
    (B : Nat) (v u : Value) (l m : List BxC) (hs : a.eval s = v) (hown : OwnB w B v l) (hu : a.eval x = u) (hx : BxRow w u m) (hnil : nilOkQ u) (hlen : l.length + m.length ≤ 1000000) (hB : B ≤ w.heap.size)
    (h : ∀ v' w', OwnB w' B v' (l ++ m) → Below B w w' → wpList Tryz.prog ops Q rest (a.put o.dst v') w') : wpList Tryz.prog ops Q (o :: rest) a w := by
  obtain ⟨i0, hi, hz0, hz1, hz2⟩ := info_parts cInfoB
  obtain ⟨_, ad, cap, rfl, hel⟩ := hx
  cases ad with
  | none =>
    have hm : m = [] := by
      cases m with
      | nil => rfl
      | cons r m =>
        obtain ⟨b, off, e, _⟩ := hel 0 (by simp)
        cases e
    subst hm
    refine wpList_append_own_none hgd s x 22 ho B 50 i0 16 Tryz.underlying22 hi v l.length (bcCells l) hs hown (hu.trans (hnil _ _ rfl)) ?_
    refine h v w ?_ (Below.refl _ _)
    rw [List.append_nil]; exact hown
  | some ad =>
    refine wpList_append_own w hgd s x 22 ho B 50 i0 _ 16 256 Tryz.underlying22 hi hz0 hz1 hz2 rfl (by decide) v l.length (bcCells l) hs hown ad m.length _ (bcCells m) hu (by rw [bcCells_len]) ?_ (bcCells_one _) (by unfold maxLen; omega) (by omega) hB ?_
    · intro j u hj
      have hjl : j < m.length * 16 := by
        have := (List.getElem?_eq_some_iff.1 hj).1
        rwa [bcCells_len] at this
      obtain ⟨b, off, e, _, hr⟩ := hel (j / 16) (by omega)
      have h1 := bcCells_at m (j / 16) (j % 16) (by omega) (Nat.mod_lt _ (by decide))
      simp at e
      subst e
      rw [Go.WideShapes.add_plain]
      rw [show j / 16 * 16 + j % 16 = j by omega, hj] at h1
      have := hr (j % 16) u h1.symm
      rwa [show off + j / 16 * 16 + j % 16 = off + j by omega] at this
    · intro v' w' h1 h2 _
      refine h v' w' ?_ ((Below.refl _ _).grown h2 hB (fun k hk => (World.ownsRow.lt hown k hk).1))
      unfold OwnB
      rw [List.length_append, bcCells_append]
      exact h1
section
variable {ops : Array Oper} {Q : Exit → Act → World → Prop} {o : Oper} {a : Act}
theorem wq_row0B {rest : List Oper} {w : World} (hw : Region.wanted o (yielded ops a.tmps) = true) (ho : o.op = .buildSlice 22 0 #[])
    (h : ∀ W g, OwnB W w.heap.size (.slice (some ⟨g, 0, none⟩) 0 0) [] → Below w.heap.size w W → wpList Tryz.prog ops Q rest (a.put o.dst (.slice (some ⟨g, 0, none⟩) 0 0)) W) : wpList Tryz.prog ops Q (o :: rest) a w := by
  refine wl_run hw (.slice (some ⟨w.heap.size, 0, none⟩) 0 0) (w.alloc (.cells #[] 50)) ?_ (h _ _ ⟨rfl, Or.inr ⟨w.heap.size, 0, #[], rfl, Nat.le_refl _, heap_new _ _, Nat.le_refl _, by unfold maxLen; omega, rfl, rfl⟩⟩ ((Below.refl _ w).alloc (Nat.le_refl _) _))
  simp only [execOp, ho, List.map_toArray, List.map_nil]
  go_simp
theorem wq_row2F {rest : List Oper} {w : World} (hw : Region.wanted o (yielded ops a.tmps) = true) (x y : Operand) (ho : o.op = .buildSlice 57 2 #[(0, x), (1, y)]) (p q : Option Addr) (n c m e : Nat) (hx : a.eval x = .slice p n c) (hy : a.eval y = .slice q m e)
    (h : ∀ W g, w.heap.size ≤ g → W.heap[g]? = some (.cells #[.slice p n c, .slice q m e] 73 (0, 0)) → Below w.heap.size w W → wpList Tryz.prog ops Q rest (a.put o.dst (.slice (some ⟨g, 0, none⟩) 2 2)) W) : wpList Tryz.prog ops Q (o :: rest) a w := by
  refine wl_run hw (.slice (some ⟨w.heap.size, 0, none⟩) 2 2) (w.alloc (.cells #[.slice p n c, .slice q m e] 73)) ?_ (h _ _ (Nat.le_refl _) (heap_new _ _) ((Below.refl _ w).alloc (Nat.le_refl _) _))
  simp only [execOp, ho, List.map_toArray, List.map_cons, List.map_nil, hx, hy]
  go_simp
end
end Go.Proofs.YtbaijjclofekcaaGreatDoor
namespace Go.Proofs.YtbaijjclofekcaaGreatDoor
open Go.RowKit
theorem Bxs.fit {w : World} {v : Value} {l : List BoxV} (hv : Bxs w v l) {b : BoxV} (hb : b ∈ l) : ∃ c : BxC, BoxAt w c.val b := by
  obtain ⟨cs, _, ha⟩ := hv
  obtain ⟨i, hi, e⟩ := mem_getD zBox hb
  exact ⟨_, e ▸ ha.2 i hi⟩
theorem mid_small {w : World} {v : Value} {l : List BoxV} (hv : Bxs w v l) (h : l.all (fun b => smallBx b && rightBx b) = true) : ∀ b ∈ l, MidB b := fun b hb => by
  obtain ⟨c, hc⟩ := hv.fit hb
  have hq := List.all_eq_true.1 h b hb
  rw [Bool.and_eq_true] at hq
  have hf := fit_small hc hq.1 hq.2
  exact ⟨hf.good, hf.ni, hf.ns⟩
theorem Bxs.inL {w : World} {v : Value} {l : List BoxV} (hv : Bxs w v l) {i : Nat} (hi : i < 4) : InL (attrL l i) := fun S hS => by
  obtain ⟨b, hb, rfl⟩ := List.mem_map.1 hS
  obtain ⟨c, hc⟩ := hv.fit hb
  obtain ⟨vi, vs, _, hI, hT⟩ := hc.sc i hi
  exact ⟨hI.1, hT.1⟩
theorem inL_append {l m : List BoxV} {i : Nat} (h : InL (attrL l i)) (k : InL (attrL m i)) : InL (attrL (l ++ m) i) := fun S hS => by
  rw [attr_append] at hS
  exact (List.mem_append.1 hS).elim (h S) (k S)
end Go.Proofs.YtbaijjclofekcaaGreatDoor
namespace Go.Proofs.YtbaijjclofekcaaGreatDoor
open Go.RowKit
theorem put_mid8 (g : Nat) (t : TypeId) : ∀ (ds cs pre post : List Value) (w : World), w.heap[g]? = some (.cells (pre ++ (cs ++ post)).toArray t (0, 0)) → cs.length = ds.length → (w.setCells g pre.length ds).heap[g]? = some (.cells (pre ++ (ds ++ post)).toArray t (0, 0)) ∧ w.grownBy (w.setCells g pre.length ds) (some g)
  | [], [], pre, post, w, h, _ => ⟨h, grown_refl _ _⟩
  | d :: ds, c :: cs, pre, post, w, h, hl => by
    have h1 := heap_setCell (i := pre.length) d h
    have e : ((pre ++ ((c :: cs) ++ post)).toArray).setIfInBounds pre.length d = ((pre ++ [d]) ++ (cs ++ post)).toArray := by simp
    rw [e] at h1
    obtain ⟨h2, h3⟩ := put_mid8 g t ds cs (pre ++ [d]) post _ h1 (by simpa using hl)
    rw [List.length_append, List.length_cons, List.length_nil] at h2 h3
    rw [List.append_assoc, List.cons_append, List.nil_append] at h2
    exact ⟨h2, grown_trans (grown_put _ _ _ _) h3⟩
def BxC.put (c : BxC) (i : Nat) (s : SC) : BxC := match i with
  | 0 => { c with s0 := s }
  | 1 => { c with s1 := s }
  | 2 => { c with s2 := s }
  | 3 => { c with s3 := s }
  | _ => c
theorem ev_put {w : World} {g : Nat} {e : EvV} (h : EvIn w g e) (i : Nat) (hi : i < 4) (v : Va) : EvIn (w.setCells g (i * 3) [.int .i64 v.1, .int .i64 v.2.1, .string v.2.2]) g (e.put i v) ∧ w.grownBy (w.setCells g (i * 3) [.int .i64 v.1, .int .i64 v.2.1, .string v.2.2]) (some g) := by
  match i, hi with
  | 0, _ => exact put_mid8 g 26 [.int .i64 v.1, .int .i64 v.2.1, .string v.2.2] [.int .i64 e.v0.1, .int .i64 e.v0.2.1, .string e.v0.2.2] [] [.int .i64 e.v1.1, .int .i64 e.v1.2.1, .string e.v1.2.2, .int .i64 e.v2.1, .int .i64 e.v2.2.1, .string e.v2.2.2, .int .i64 e.v3.1, .int .i64 e.v3.2.1, .string e.v3.2.2] w h rfl
  | 1, _ => exact put_mid8 g 26 [.int .i64 v.1, .int .i64 v.2.1, .string v.2.2] [.int .i64 e.v1.1, .int .i64 e.v1.2.1, .string e.v1.2.2] [.int .i64 e.v0.1, .int .i64 e.v0.2.1, .string e.v0.2.2] [.int .i64 e.v2.1, .int .i64 e.v2.2.1, .string e.v2.2.2, .int .i64 e.v3.1, .int .i64 e.v3.2.1, .string e.v3.2.2] w h rfl
  | 2, _ => exact put_mid8 g 26 [.int .i64 v.1, .int .i64 v.2.1, .string v.2.2] [.int .i64 e.v2.1, .int .i64 e.v2.2.1, .string e.v2.2.2] [.int .i64 e.v0.1, .int .i64 e.v0.2.1, .string e.v0.2.2, .int .i64 e.v1.1, .int .i64 e.v1.2.1, .string e.v1.2.2] [.int .i64 e.v3.1, .int .i64 e.v3.2.1, .string e.v3.2.2] w h rfl
  | 3, _ => exact put_mid8 g 26 [.int .i64 v.1, .int .i64 v.2.1, .string v.2.2] [.int .i64 e.v3.1, .int .i64 e.v3.2.1, .string e.v3.2.2] [.int .i64 e.v0.1, .int .i64 e.v0.2.1, .string e.v0.2.2, .int .i64 e.v1.1, .int .i64 e.v1.2.1, .string e.v1.2.2, .int .i64 e.v2.1, .int .i64 e.v2.2.1, .string e.v2.2.2] [] w h rfl
theorem EvIn.atI {w : World} {g : Nat} {e : EvV} (h : EvIn w g e) (i : Nat) (hi : i < 4) : w.cell? ⟨g, i * 3, none⟩ = some (.int .i64 (e.get i).1) ∧ w.cell? ⟨g, i * 3 + 1, none⟩ = some (.int .i64 (e.get i).2.1) ∧ w.cell? ⟨g, i * 3 + 2, none⟩ = some (.string (e.get i).2.2) := by
  match i, hi with
  | 0, _ => exact ⟨cell_heap h 0, cell_heap h 1, cell_heap h 2⟩
  | 1, _ => exact ⟨cell_heap h 3, cell_heap h 4, cell_heap h 5⟩
  | 2, _ => exact ⟨cell_heap h 6, cell_heap h 7, cell_heap h 8⟩
  | 3, _ => exact ⟨cell_heap h 9, cell_heap h 10, cell_heap h 11⟩
section
variable {ops : Array Oper} {Q : Exit → Act → World → Prop} {S : World → Prop} {o : Oper} {a : Act}
theorem wt_putEv1 {rest : List Oper} {w : World} (hw : o.guard = none) (x y : Operand) (ho : o.op = .store 24 x y) (g i : Nat) (hi : i < 4) (hx : a.eval x = .pointer (some ⟨g, i * 3, none⟩)) (v : Va) (hy : a.eval y = vVal v) {e : EvV} (hc : EvIn w g e)
    (h : ∀ W, EvIn W g (e.put i v) → w.grownBy W (some g) → wpList Tryz.prog ops Q rest (a.put o.dst undef) W) : wpList Tryz.prog ops Q (o :: rest) a w := by
  have ht : w.there g (i * 3) 3 := fun j hj => ⟨by rw [cell_heap hc, Array.getElem?_eq_getElem (by simp; omega)]; rfl, frozen_heap hc _⟩
  refine wpList_store_mid hw 24 x y ho g (i * 3) #[.int .i64 v.1, .int .i64 v.2.1, .string v.2.2] hx hy ht (by rw [infoV]; rfl) (by simp [Value.oneCell']) ?_
  obtain ⟨h1, h2⟩ := ev_put hc i hi v
  exact h _ h1 h2
end
theorem allBx_append {w : World} {ks ms : List BxC} {K M : List BoxV} (h : AllBx w ks K) (h' : AllBx w ms M) : AllBx w (ks ++ ms) (K ++ M) := by
  refine ⟨by rw [List.length_append, List.length_append, h.1, h'.1], fun i hi => ?_⟩
  rw [List.length_append] at hi
  by_cases hi' : i < K.length
  · rw [List.getD_eq_getElem?_getD, List.getD_eq_getElem?_getD, List.getElem?_append_left (by rw [h.1]; exact hi'), List.getElem?_append_left hi', ← List.getD_eq_getElem?_getD, ← List.getD_eq_getElem?_getD]
    exact h.2 i hi'
  · rw [List.getD_eq_getElem?_getD, List.getD_eq_getElem?_getD, List.getElem?_append_right (by rw [h.1]; omega), List.getElem?_append_right (by omega), ← List.getD_eq_getElem?_getD, ← List.getD_eq_getElem?_getD, h.1]
    exact h'.2 (i - K.length) (by omega)
theorem hasP_max {S : SetV} {q : Va} (h : hasP S q = true) : q.2.2.size ≤ maxLen := by
  have hr := hasB_right (show hasB S q.1 q.2.1 q.2.2 = true from h)
  unfold rightB at hr
  have e : ∀ s : ByteArray, s.toList.isEmpty = true → s.size ≤ maxLen := fun s h => by
    have : s = bs s.data.toList := rfl
    rw [this, isE] at h
    rw [this, bs_size, of_decide_eq_true h]
    exact Nat.zero_le _
  split at hr
  · simp only [Bool.and_eq_true] at hr; exact e _ hr.2
  · split at hr
    · exact e _ hr
    · split at hr
      · simp only [Bool.and_eq_true, decide_eq_true_eq] at hr; unfold maxLen; omega
      · cases hr
theorem evFit_get9 {e : EvV} (h : evFit e) (i : Nat) (hi : i < 4) : (e.get i).2.2.size ≤ maxLen := by
  obtain ⟨h0, h1, h2, h3⟩ := h
  match i, hi with
  | 0, _ => exact h0
  | 1, _ => exact h1
  | 2, _ => exact h2
  | 3, _ => exact h3
theorem EvV.get_put9 (e : EvV) (i j : Nat) (v : Va) (hi : i < 4) (hj : j < 4) : (e.put i v).get j = if j = i then v else e.get j := by
  match i, hi, j, hj with
  | 0, _, 0, _ => rfl
  | 0, _, 1, _ => rfl
  | 0, _, 2, _ => rfl
  | 0, _, 3, _ => rfl
  | 1, _, 0, _ => rfl
  | 1, _, 1, _ => rfl
  | 1, _, 2, _ => rfl
  | 1, _, 3, _ => rfl
  | 2, _, 0, _ => rfl
  | 2, _, 1, _ => rfl
  | 2, _, 2, _ => rfl
  | 2, _, 3, _ => rfl
  | 3, _, 0, _ => rfl
  | 3, _, 1, _ => rfl
  | 3, _, 2, _ => rfl
  | 3, _, 3, _ => rfl
theorem evFit_put9 {e : EvV} (h : evFit e) (i : Nat) (v : Va) (hv : v.2.2.size ≤ maxLen) : evFit (e.put i v) := by
  obtain ⟨h0, h1, h2, h3⟩ := h
  match i with
  | 0 => exact ⟨hv, h1, h2, h3⟩
  | 1 => exact ⟨h0, hv, h2, h3⟩
  | 2 => exact ⟨h0, h1, hv, h3⟩
  | 3 => exact ⟨h0, h1, h2, hv⟩
  | n + 4 => exact ⟨h0, h1, h2, h3⟩
def InC (all : List BoxV) (e e' : EvV) (j : Nat) : Prop := ∀ i, i < j → ∃ k, k < (cutL (attrL all i)).length ∧ hasP ((cutL (attrL all i)).getD k noSet) (e.get i) = true ∧ hasP ((cutL (attrL all i)).getD k noSet) (e'.get i) = true
theorem inC_step {all : List BoxV} {e e' : EvV} {j : Nat} (h : InC all e e' j) (hj : j < 4) {k : Nat} (hk : k < (cutL (attrL all j)).length) {q : Va} (h1 : hasP ((cutL (attrL all j)).getD k noSet) (e.get j) = true) (h2 : hasP ((cutL (attrL all j)).getD k noSet) q = true) : InC all e (e'.put j q) (j + 1) := fun i hi => by
  by_cases e1 : i = j
  · subst e1
    exact ⟨k, hk, h1, by rw [EvV.get_put9 e' i i q hj hj, if_pos rfl]; exact h2⟩
  · obtain ⟨k', a1, a2, a3⟩ := h i (by omega)
    exact ⟨k', a1, a2, by rw [EvV.get_put9 e' j i q hj (by omega), if_neg e1]; exact a3⟩
theorem okk (b : Bool) (n m : Nat) : b = false ∨ (b = true ∧ n < m) ∨ (b = true ∧ ¬ n < m) := by
  cases b
  · exact Or.inl rfl
  · by_cases h : n < m
    · exact Or.inr (Or.inl ⟨rfl, h⟩)
    · exact Or.inr (Or.inr ⟨rfl, h⟩)
theorem fewBx_get {b : BoxV} (h : fewBx b = true) {i : Nat} (hi : i < 4) : fewB (b.get i) = true := by
  unfold fewBx at h
  simp only [List.all_cons, List.all_nil, Bool.and_true, Bool.and_eq_true] at h
  match i, hi with
  | 0, _ => exact h.1
  | 1, _ => exact h.2.1
  | 2, _ => exact h.2.2.1
  | 3, _ => exact h.2.2.2
theorem fewBx_sz {l : List BoxV} (h : l.all fewBx = true) {b : BoxV} (hb : b ∈ l) {j : Nat} (hj : j < 4) : (b.get j).ints.length ≤ 100000 ∧ (b.get j).strs.length ≤ 100000 := by
  have := few_len9 (fewBx_get (List.all_eq_true.1 h b hb) hj)
  omega
theorem rowAll {m b : Nat} {w w' : World} {v : Value} {cs ds : List BxC} {l k : List BoxV} (h : OwnB w m v (cs ++ ds)) (kg : w.grownBy w' (some b)) (hb : b < m) (h1 : AllBx w' cs l) (h2 : AllBx w' ds k) (hl : (cs ++ ds).length ≤ 1000000) : Bxs w' v (l ++ k) :=
  ⟨cs ++ ds, OwnB.row (B := m) (ownsRow_kept h (kept_lt kg hb)) hl, allBx_append h1 h2⟩
end Go.Proofs.YtbaijjclofekcaaGreatDoor
namespace Go.Proofs.YtbaijjclofekcaaGreatDoor
open Go.RowKit
set_option maxHeartbeats 4000000 in
set_option maxRecDepth 100000 in
theorem cellsGrid_law (v0 v1 : Value) (l0 l1 : List BoxV) (e : EvV) (w : World) (HE : Env w) (hv0 : Bxs w v0 l0) (hn0 : nilOkQ v0) (hv1 : Bxs w v1 l1) (hn1 : nilOkQ v1) (hfe : evFit e) :
    Calls Tryz.prog 3 #[v0, v1, evVal e] w fun r w' => r = .returned (.bool true) ∧ Below w.heap.size w w' := by
  have w6 : 2 ≤ w.heap.size := HE.big
  have HE0 := HE
  obtain ⟨cs0, hR0, HA0⟩ := hv0
  have hcl0 := HA0.1
  obtain ⟨a0, cap0, rfl⟩ : ∃ a0 cap0, v0 = .slice a0 l0.length cap0 := by
    obtain ⟨_, a, cap, e, _⟩ := hR0
    exact ⟨a, cap, by rw [e, hcl0]⟩
  have hv0 : Bxs w (.slice a0 l0.length cap0) l0 := ⟨cs0, hR0, HA0⟩
  obtain ⟨cs1, hR1, HA1⟩ := hv1
  have hcl1 := HA1.1
  obtain ⟨a1, cap1, rfl⟩ : ∃ a1 cap1, v1 = .slice a1 l1.length cap1 := by
    obtain ⟨_, a, cap, e, _⟩ := hR1
    exact ⟨a, cap, by rw [e, hcl1]⟩
  have hv1 : Bxs w (.slice a1 l1.length cap1) l1 := ⟨cs1, hR1, HA1⟩
  have D : w.grownBy w none := grown_refl _ _
  go_enter Tryz.func3, Tryz.ntmps3
  refine wp_seq_k (fun K1 hK1 => ?_)
  refine wp_region_lit ?_
  refine wt_boxEv (o := ⟨_, _, _, _, _, _⟩) (by rfl) _ rfl (e) rfl (fun v1 g1 hg G1 kb => ?_)
  simp only [Act.put, lzA, lzB, lzC]
  have ge_g1 : w.heap.size ≤ g1 := Nat.le_trans D.size hg
  have six_g1 : 2 ≤ g1 := Nat.le_trans w6 ge_g1
  clear hg
  replace D := grown_below D kb
  replace HE := HE.on kb
  clear kb
  replace G1 : v1.heap[g1]? = some (.cells #[.int .i64 (e.v0.1), .int .i64 (e.v0.2.1), .string e.v0.2.2, .int .i64 (e.v1.1), .int .i64 (e.v1.2.1), .string e.v1.2.2, .int .i64 (e.v2.1), .int .i64 (e.v2.2.1), .string e.v2.2.2, .int .i64 (e.v3.1), .int .i64 (e.v3.2.1), .string e.v3.2.2] 26 (0, 0)) := G1
  refine wl_yield (o := ⟨_, _, _, _, _, _⟩) (.bool false) (yl_assign (by rfl) _ rfl _ rfl) ?_
  simp only [Act.put, lzA, lzB, lzC]
  refine wpList_nil ?_
  refine hK1 _ _ ?_
  clear hK1 K1
  refine wp_seq_k (fun K2 hK2 => ?_)
  refine wp_seq_k (fun K3 hK3 => ?_)
  refine wp_region_lit ?_
  refine wt_call (o := ⟨_, _, _, _, _, _⟩) (by rfl) 5 _ _ rfl #[] rfl (run_call Tryz.func5 (by kernel_rfl) (by kernel_rfl)) ?_
  refine (awake9_any _ HE).mono ?_
  rintro r v2 ⟨rfl, kb⟩
  replace D := grown_below D kb
  replace HE := HE.on kb
  replace G1 := heap_on G1 kb
  clear kb
  refine Or.inl ⟨.bool true, rfl, ?_⟩
  simp only [Act.put, lzA, lzB, lzC]
  refine wl_yield (o := ⟨_, _, _, _, _, _⟩) (.bool false) (yl_not (by rfl) _ _ rfl true rfl) ?_
  simp only [Act.put, lzA, lzB, lzC]
  refine wl_yield (o := ⟨_, _, _, _, _, _⟩) (.bool false) (yl_move (by rfl) _ rfl _ rfl) ?_
  simp only [Act.put, lzA, lzB, lzC]
  refine wl_yield (o := ⟨_, _, _, _, _, _⟩) (.slice a0 l0.length cap0) (yl_move (by rfl) _ rfl _ rfl) ?_
  simp only [Act.put, lzA, lzB, lzC]
  cases hfw0 : (decide (l0.length ≤ 20) && l0.all fewBx)
  · refine wt_call (o := ⟨_, _, _, _, _, _⟩) (by rfl) 6 _ _ rfl #[.slice a0 l0.length cap0] rfl (run_call Tryz.func6 (by kernel_rfl) (by kernel_rfl)) ?_
    refine (refFew6_any _ l0 _ (hv0.on (below_none D))).mono ?_
    rintro r v3 (⟨rfl, kb⟩)
    · replace D := grown_below D kb
      replace HE := HE.on kb
      replace G1 := heap_on G1 kb
      clear kb
      refine Or.inl ⟨.bool false, ret_bool hfw0, ?_⟩
      simp only [Act.put, lzA, lzB, lzC]
      refine wl_yield (o := ⟨_, _, _, _, _, _⟩) (.bool true) (yl_not (by rfl) _ _ rfl false rfl) ?_
      simp only [Act.put, lzA, lzB, lzC]
      refine wl_yield (o := ⟨_, _, _, _, _, _⟩) (.bool true) (yl_pickF (by rfl) _ _ _ rfl rfl _ rfl) ?_
      simp only [Act.put, lzA, lzB, lzC]
      refine wl_yield (o := ⟨_, _, _, _, _, _⟩) (.bool true) (yl_move (by rfl) _ rfl _ rfl) ?_
      simp only [Act.put, lzA, lzB, lzC]
      with_reducible refine wl_yield (o := ⟨_, _, _, _, _, _⟩) undef (yl_undef (by kernel_rfl)) ?_
      simp only [Act.put, lzA, lzB, lzC]
      with_reducible refine wl_yield (o := ⟨_, _, _, _, _, _⟩) undef (yl_undef (by kernel_rfl)) ?_
      simp only [Act.put, lzA, lzB, lzC]
      with_reducible refine wl_yield (o := ⟨_, _, _, _, _, _⟩) undef (yl_undef (by kernel_rfl)) ?_
      simp only [Act.put, lzA, lzB, lzC]
      refine wl_yield (o := ⟨_, _, _, _, _, _⟩) (.bool true) (yl_pickT (by rfl) _ _ _ rfl rfl _ rfl) ?_
      simp only [Act.put, lzA, lzB, lzC]
      refine wl_yield (o := ⟨_, _, _, _, _, _⟩) (.bool true) (yl_move (by rfl) _ rfl _ rfl) ?_
      simp only [Act.put, lzA, lzB, lzC]
      with_reducible refine wl_yield (o := ⟨_, _, _, _, _, _⟩) undef (yl_undef (by kernel_rfl)) ?_
      simp only [Act.put, lzA, lzB, lzC]
      with_reducible refine wl_yield (o := ⟨_, _, _, _, _, _⟩) undef (yl_undef (by kernel_rfl)) ?_
      simp only [Act.put, lzA, lzB, lzC]
      with_reducible refine wl_yield (o := ⟨_, _, _, _, _, _⟩) undef (yl_undef (by kernel_rfl)) ?_
      simp only [Act.put, lzA, lzB, lzC]
      refine wl_yield (o := ⟨_, _, _, _, _, _⟩) (.bool true) (yl_pickT (by rfl) _ _ _ rfl rfl _ rfl) ?_
      simp only [Act.put, lzA, lzB, lzC]
      refine wl_yield (o := ⟨_, _, _, _, _, _⟩) (.bool true) (yl_move (by rfl) _ rfl _ rfl) ?_
      simp only [Act.put, lzA, lzB, lzC]
      with_reducible refine wl_yield (o := ⟨_, _, _, _, _, _⟩) undef (yl_undef (by kernel_rfl)) ?_
      simp only [Act.put, lzA, lzB, lzC]
      with_reducible refine wl_yield (o := ⟨_, _, _, _, _, _⟩) undef (yl_undef (by kernel_rfl)) ?_
      simp only [Act.put, lzA, lzB, lzC]
      with_reducible refine wl_yield (o := ⟨_, _, _, _, _, _⟩) undef (yl_undef (by kernel_rfl)) ?_
      simp only [Act.put, lzA, lzB, lzC]
      refine wl_yield (o := ⟨_, _, _, _, _, _⟩) (.bool true) (yl_pickT (by rfl) _ _ _ rfl rfl _ rfl) ?_
      simp only [Act.put, lzA, lzB, lzC]
      refine wpList_nil ?_
      refine hK3 _ _ ?_
      clear hK3 K3
      refine wp_cond_true rfl ?_
      refine wp_seq_k (fun K4 hK4 => ?_)
      refine wp_region_lit ?_
      refine wt_call (o := ⟨_, _, _, _, _, _⟩) (by rfl) 5 _ _ rfl #[] rfl (run_call Tryz.func5 (by kernel_rfl) (by kernel_rfl)) ?_
      refine (awake9_any _ HE).mono ?_
      rintro r v4 ⟨rfl, kb⟩
      replace D := grown_below D kb
      replace HE := HE.on kb
      replace G1 := heap_on G1 kb
      clear kb
      refine Or.inl ⟨.bool true, rfl, ?_⟩
      simp only [Act.put, lzA, lzB, lzC]
      refine wl_yield (o := ⟨_, _, _, _, _, _⟩) (.bool true) (yl_assign (by rfl) _ rfl _ rfl) ?_
      simp only [Act.put, lzA, lzB, lzC]
      refine wpList_nil ?_
      refine hK4 _ _ ?_
      clear hK4 K4
      refine wp_ret ?_
      try simp only [Exit.inBlock, Exit.then]
      go_ret
      exact ⟨rfl, below_none D⟩
  · have hfb0 : l0.length ≤ 20 ∧ l0.all fewBx = true := by
      rw [Bool.and_eq_true] at hfw0
      exact ⟨of_decide_eq_true hfw0.1, hfw0.2⟩
    refine wt_call (o := ⟨_, _, _, _, _, _⟩) (by rfl) 6 _ _ rfl #[.slice a0 l0.length cap0] rfl (run_call Tryz.func6 (by kernel_rfl) (by kernel_rfl)) ?_
    refine (refFew6_any _ l0 _ (hv0.on (below_none D))).mono ?_
    rintro r v3 (⟨rfl, kb⟩)
    · replace D := grown_below D kb
      replace HE := HE.on kb
      replace G1 := heap_on G1 kb
      clear kb
      refine Or.inl ⟨.bool true, ret_bool hfw0, ?_⟩
      simp only [Act.put, lzA, lzB, lzC]
      refine wl_yield (o := ⟨_, _, _, _, _, _⟩) (.bool false) (yl_not (by rfl) _ _ rfl true rfl) ?_
      simp only [Act.put, lzA, lzB, lzC]
      refine wl_yield (o := ⟨_, _, _, _, _, _⟩) (.bool false) (yl_pickF (by rfl) _ _ _ rfl rfl _ rfl) ?_
      simp only [Act.put, lzA, lzB, lzC]
      refine wl_yield (o := ⟨_, _, _, _, _, _⟩) (.bool false) (yl_move (by rfl) _ rfl _ rfl) ?_
      simp only [Act.put, lzA, lzB, lzC]
      refine wl_yield (o := ⟨_, _, _, _, _, _⟩) (.slice a1 l1.length cap1) (yl_move (by rfl) _ rfl _ rfl) ?_
      simp only [Act.put, lzA, lzB, lzC]
      cases hfw1 : (decide (l1.length ≤ 20) && l1.all fewBx)
      · refine wt_call (o := ⟨_, _, _, _, _, _⟩) (by rfl) 6 _ _ rfl #[.slice a1 l1.length cap1] rfl (run_call Tryz.func6 (by kernel_rfl) (by kernel_rfl)) ?_
        refine (refFew6_any _ l1 _ (hv1.on (below_none D))).mono ?_
        rintro r v4 (⟨rfl, kb⟩)
        · replace D := grown_below D kb
          replace HE := HE.on kb
          replace G1 := heap_on G1 kb
          clear kb
          refine Or.inl ⟨.bool false, ret_bool hfw1, ?_⟩
          simp only [Act.put, lzA, lzB, lzC]
          refine wl_yield (o := ⟨_, _, _, _, _, _⟩) (.bool true) (yl_not (by rfl) _ _ rfl false rfl) ?_
          simp only [Act.put, lzA, lzB, lzC]
          refine wl_yield (o := ⟨_, _, _, _, _, _⟩) (.bool true) (yl_pickF (by rfl) _ _ _ rfl rfl _ rfl) ?_
          simp only [Act.put, lzA, lzB, lzC]
          refine wl_yield (o := ⟨_, _, _, _, _, _⟩) (.bool true) (yl_move (by rfl) _ rfl _ rfl) ?_
          simp only [Act.put, lzA, lzB, lzC]
          with_reducible refine wl_yield (o := ⟨_, _, _, _, _, _⟩) undef (yl_undef (by kernel_rfl)) ?_
          simp only [Act.put, lzA, lzB, lzC]
          with_reducible refine wl_yield (o := ⟨_, _, _, _, _, _⟩) undef (yl_undef (by kernel_rfl)) ?_
          simp only [Act.put, lzA, lzB, lzC]
          with_reducible refine wl_yield (o := ⟨_, _, _, _, _, _⟩) undef (yl_undef (by kernel_rfl)) ?_
          simp only [Act.put, lzA, lzB, lzC]
          refine wl_yield (o := ⟨_, _, _, _, _, _⟩) (.bool true) (yl_pickT (by rfl) _ _ _ rfl rfl _ rfl) ?_
          simp only [Act.put, lzA, lzB, lzC]
          refine wl_yield (o := ⟨_, _, _, _, _, _⟩) (.bool true) (yl_move (by rfl) _ rfl _ rfl) ?_
          simp only [Act.put, lzA, lzB, lzC]
          with_reducible refine wl_yield (o := ⟨_, _, _, _, _, _⟩) undef (yl_undef (by kernel_rfl)) ?_
          simp only [Act.put, lzA, lzB, lzC]
          with_reducible refine wl_yield (o := ⟨_, _, _, _, _, _⟩) undef (yl_undef (by kernel_rfl)) ?_
          simp only [Act.put, lzA, lzB, lzC]
          with_reducible refine wl_yield (o := ⟨_, _, _, _, _, _⟩) undef (yl_undef (by kernel_rfl)) ?_
          simp only [Act.put, lzA, lzB, lzC]
          refine wl_yield (o := ⟨_, _, _, _, _, _⟩) (.bool true) (yl_pickT (by rfl) _ _ _ rfl rfl _ rfl) ?_
          simp only [Act.put, lzA, lzB, lzC]
          refine wpList_nil ?_
          refine hK3 _ _ ?_
          clear hK3 K3
          refine wp_cond_true rfl ?_
          refine wp_seq_k (fun K4 hK4 => ?_)
          refine wp_region_lit ?_
          refine wt_call (o := ⟨_, _, _, _, _, _⟩) (by rfl) 5 _ _ rfl #[] rfl (run_call Tryz.func5 (by kernel_rfl) (by kernel_rfl)) ?_
          refine (awake9_any _ HE).mono ?_
          rintro r v5 ⟨rfl, kb⟩
          replace D := grown_below D kb
          replace HE := HE.on kb
          replace G1 := heap_on G1 kb
          clear kb
          refine Or.inl ⟨.bool true, rfl, ?_⟩
          simp only [Act.put, lzA, lzB, lzC]
          refine wl_yield (o := ⟨_, _, _, _, _, _⟩) (.bool true) (yl_assign (by rfl) _ rfl _ rfl) ?_
          simp only [Act.put, lzA, lzB, lzC]
          refine wpList_nil ?_
          refine hK4 _ _ ?_
          clear hK4 K4
          refine wp_ret ?_
          try simp only [Exit.inBlock, Exit.then]
          go_ret
          exact ⟨rfl, below_none D⟩
      · have hfb1 : l1.length ≤ 20 ∧ l1.all fewBx = true := by
          rw [Bool.and_eq_true] at hfw1
          exact ⟨of_decide_eq_true hfw1.1, hfw1.2⟩
        refine wt_call (o := ⟨_, _, _, _, _, _⟩) (by rfl) 6 _ _ rfl #[.slice a1 l1.length cap1] rfl (run_call Tryz.func6 (by kernel_rfl) (by kernel_rfl)) ?_
        refine (refFew6_any _ l1 _ (hv1.on (below_none D))).mono ?_
        rintro r v4 (⟨rfl, kb⟩)
        · replace D := grown_below D kb
          replace HE := HE.on kb
          replace G1 := heap_on G1 kb
          clear kb
          refine Or.inl ⟨.bool true, ret_bool hfw1, ?_⟩
          simp only [Act.put, lzA, lzB, lzC]
          refine wl_yield (o := ⟨_, _, _, _, _, _⟩) (.bool false) (yl_not (by rfl) _ _ rfl true rfl) ?_
          simp only [Act.put, lzA, lzB, lzC]
          refine wl_yield (o := ⟨_, _, _, _, _, _⟩) (.bool false) (yl_pickF (by rfl) _ _ _ rfl rfl _ rfl) ?_
          simp only [Act.put, lzA, lzB, lzC]
          refine wl_yield (o := ⟨_, _, _, _, _, _⟩) (.bool false) (yl_move (by rfl) _ rfl _ rfl) ?_
          simp only [Act.put, lzA, lzB, lzC]
          refine wl_yield (o := ⟨_, _, _, _, _, _⟩) (.slice a0 l0.length cap0) (yl_move (by rfl) _ rfl _ rfl) ?_
          simp only [Act.put, lzA, lzB, lzC]
          cases hrt0 : rightF l0
          · refine wt_call (o := ⟨_, _, _, _, _, _⟩) (by rfl) 7 _ _ rfl #[.slice a0 l0.length cap0] rfl (run_call Tryz.func7 (by kernel_rfl) (by kernel_rfl)) ?_
            refine (refRight6_all _ l0 _ (hv0.on (below_none D)) (mid_small (hv0.on (below_none D)))).mono ?_
            rintro r v5 (⟨rfl, kb⟩)
            · replace D := grown_below D kb
              replace HE := HE.on kb
              replace G1 := heap_on G1 kb
              clear kb
              refine Or.inl ⟨.bool false, ret_bool hrt0, ?_⟩
              simp only [Act.put, lzA, lzB, lzC]
              refine wl_yield (o := ⟨_, _, _, _, _, _⟩) (.bool true) (yl_not (by rfl) _ _ rfl false rfl) ?_
              simp only [Act.put, lzA, lzB, lzC]
              refine wl_yield (o := ⟨_, _, _, _, _, _⟩) (.bool true) (yl_pickF (by rfl) _ _ _ rfl rfl _ rfl) ?_
              simp only [Act.put, lzA, lzB, lzC]
              refine wl_yield (o := ⟨_, _, _, _, _, _⟩) (.bool true) (yl_move (by rfl) _ rfl _ rfl) ?_
              simp only [Act.put, lzA, lzB, lzC]
              with_reducible refine wl_yield (o := ⟨_, _, _, _, _, _⟩) undef (yl_undef (by kernel_rfl)) ?_
              simp only [Act.put, lzA, lzB, lzC]
              with_reducible refine wl_yield (o := ⟨_, _, _, _, _, _⟩) undef (yl_undef (by kernel_rfl)) ?_
              simp only [Act.put, lzA, lzB, lzC]
              with_reducible refine wl_yield (o := ⟨_, _, _, _, _, _⟩) undef (yl_undef (by kernel_rfl)) ?_
              simp only [Act.put, lzA, lzB, lzC]
              refine wl_yield (o := ⟨_, _, _, _, _, _⟩) (.bool true) (yl_pickT (by rfl) _ _ _ rfl rfl _ rfl) ?_
              simp only [Act.put, lzA, lzB, lzC]
              refine wpList_nil ?_
              refine hK3 _ _ ?_
              clear hK3 K3
              refine wp_cond_true rfl ?_
              refine wp_seq_k (fun K4 hK4 => ?_)
              refine wp_region_lit ?_
              refine wt_call (o := ⟨_, _, _, _, _, _⟩) (by rfl) 5 _ _ rfl #[] rfl (run_call Tryz.func5 (by kernel_rfl) (by kernel_rfl)) ?_
              refine (awake9_any _ HE).mono ?_
              rintro r v6 ⟨rfl, kb⟩
              replace D := grown_below D kb
              replace HE := HE.on kb
              replace G1 := heap_on G1 kb
              clear kb
              refine Or.inl ⟨.bool true, rfl, ?_⟩
              simp only [Act.put, lzA, lzB, lzC]
              refine wl_yield (o := ⟨_, _, _, _, _, _⟩) (.bool true) (yl_assign (by rfl) _ rfl _ rfl) ?_
              simp only [Act.put, lzA, lzB, lzC]
              refine wpList_nil ?_
              refine hK4 _ _ ?_
              clear hK4 K4
              refine wp_ret ?_
              try simp only [Exit.inBlock, Exit.then]
              go_ret
              exact ⟨rfl, below_none D⟩
          · refine wt_call (o := ⟨_, _, _, _, _, _⟩) (by rfl) 7 _ _ rfl #[.slice a0 l0.length cap0] rfl (run_call Tryz.func7 (by kernel_rfl) (by kernel_rfl)) ?_
            refine (refRight6_all _ l0 _ (hv0.on (below_none D)) (mid_small (hv0.on (below_none D)))).mono ?_
            rintro r v5 (⟨rfl, kb⟩)
            · replace D := grown_below D kb
              replace HE := HE.on kb
              replace G1 := heap_on G1 kb
              clear kb
              refine Or.inl ⟨.bool true, ret_bool hrt0, ?_⟩
              simp only [Act.put, lzA, lzB, lzC]
              refine wl_yield (o := ⟨_, _, _, _, _, _⟩) (.bool false) (yl_not (by rfl) _ _ rfl true rfl) ?_
              simp only [Act.put, lzA, lzB, lzC]
              refine wl_yield (o := ⟨_, _, _, _, _, _⟩) (.bool false) (yl_pickF (by rfl) _ _ _ rfl rfl _ rfl) ?_
              simp only [Act.put, lzA, lzB, lzC]
              refine wl_yield (o := ⟨_, _, _, _, _, _⟩) (.bool false) (yl_move (by rfl) _ rfl _ rfl) ?_
              simp only [Act.put, lzA, lzB, lzC]
              refine wl_yield (o := ⟨_, _, _, _, _, _⟩) (.slice a1 l1.length cap1) (yl_move (by rfl) _ rfl _ rfl) ?_
              simp only [Act.put, lzA, lzB, lzC]
              cases hrt1 : rightF l1
              · refine wt_call (o := ⟨_, _, _, _, _, _⟩) (by rfl) 7 _ _ rfl #[.slice a1 l1.length cap1] rfl (run_call Tryz.func7 (by kernel_rfl) (by kernel_rfl)) ?_
                refine (refRight6_all _ l1 _ (hv1.on (below_none D)) (mid_small (hv1.on (below_none D)))).mono ?_
                rintro r v6 (⟨rfl, kb⟩)
                · replace D := grown_below D kb
                  replace HE := HE.on kb
                  replace G1 := heap_on G1 kb
                  clear kb
                  refine Or.inl ⟨.bool false, ret_bool hrt1, ?_⟩
                  simp only [Act.put, lzA, lzB, lzC]
                  refine wl_yield (o := ⟨_, _, _, _, _, _⟩) (.bool true) (yl_not (by rfl) _ _ rfl false rfl) ?_
                  simp only [Act.put, lzA, lzB, lzC]
                  refine wl_yield (o := ⟨_, _, _, _, _, _⟩) (.bool true) (yl_pickF (by rfl) _ _ _ rfl rfl _ rfl) ?_
                  simp only [Act.put, lzA, lzB, lzC]
                  refine wpList_nil ?_
                  refine hK3 _ _ ?_
                  clear hK3 K3
                  refine wp_cond_true rfl ?_
                  refine wp_seq_k (fun K4 hK4 => ?_)
                  refine wp_region_lit ?_
                  refine wt_call (o := ⟨_, _, _, _, _, _⟩) (by rfl) 5 _ _ rfl #[] rfl (run_call Tryz.func5 (by kernel_rfl) (by kernel_rfl)) ?_
                  refine (awake9_any _ HE).mono ?_
                  rintro r v7 ⟨rfl, kb⟩
                  replace D := grown_below D kb
                  replace HE := HE.on kb
                  replace G1 := heap_on G1 kb
                  clear kb
                  refine Or.inl ⟨.bool true, rfl, ?_⟩
                  simp only [Act.put, lzA, lzB, lzC]
                  refine wl_yield (o := ⟨_, _, _, _, _, _⟩) (.bool true) (yl_assign (by rfl) _ rfl _ rfl) ?_
                  simp only [Act.put, lzA, lzB, lzC]
                  refine wpList_nil ?_
                  refine hK4 _ _ ?_
                  clear hK4 K4
                  refine wp_ret ?_
                  try simp only [Exit.inBlock, Exit.then]
                  go_ret
                  exact ⟨rfl, below_none D⟩
              · refine wt_call (o := ⟨_, _, _, _, _, _⟩) (by rfl) 7 _ _ rfl #[.slice a1 l1.length cap1] rfl (run_call Tryz.func7 (by kernel_rfl) (by kernel_rfl)) ?_
                refine (refRight6_all _ l1 _ (hv1.on (below_none D)) (mid_small (hv1.on (below_none D)))).mono ?_
                rintro r v6 (⟨rfl, kb⟩)
                · replace D := grown_below D kb
                  replace HE := HE.on kb
                  replace G1 := heap_on G1 kb
                  clear kb
                  refine Or.inl ⟨.bool true, ret_bool hrt1, ?_⟩
                  simp only [Act.put, lzA, lzB, lzC]
                  refine wl_yield (o := ⟨_, _, _, _, _, _⟩) (.bool false) (yl_not (by rfl) _ _ rfl true rfl) ?_
                  simp only [Act.put, lzA, lzB, lzC]
                  refine wl_yield (o := ⟨_, _, _, _, _, _⟩) (.bool false) (yl_pickF (by rfl) _ _ _ rfl rfl _ rfl) ?_
                  simp only [Act.put, lzA, lzB, lzC]
                  refine wpList_nil ?_
                  refine hK3 _ _ ?_
                  clear hK3 K3
                  refine wp_cond_false rfl ?_
                  refine wp_skip ?_
                  refine hK2 _ _ ?_
                  clear hK2 K2
                  refine wp_seq_k (fun K4 hK4 => ?_)
                  refine wp_region_lit ?_
                  refine wl_yield (o := ⟨_, _, _, _, _, _⟩) (.slice a0 l0.length cap0) (yl_move (by rfl) _ rfl _ rfl) ?_
                  simp only [Act.put, lzA, lzB, lzC]
                  refine wl_yield (o := ⟨_, _, _, _, _, _⟩) (.slice a1 l1.length cap1) (yl_move (by rfl) _ rfl _ rfl) ?_
                  simp only [Act.put, lzA, lzB, lzC]
                  refine wq_row2F (o := ⟨_, _, _, _, _, _⟩) (by rfl) _ _ rfl a0 a1 l0.length cap0 l1.length cap1 rfl rfl (fun v7 g7 hg G7 kb => ?_)
                  simp only [Act.put, lzA, lzB, lzC]
                  have n_g1_g7 : g1 ≠ g7 := by have := lt_heap G1; omega
                  have ge_g7 : w.heap.size ≤ g7 := Nat.le_trans D.size hg
                  have six_g7 : 2 ≤ g7 := Nat.le_trans w6 ge_g7
                  clear hg
                  replace D := grown_below D kb
                  replace HE := HE.on kb
                  replace G1 := heap_on G1 kb
                  clear kb
                  have hwV := D.size
                  have hg5V := lt_heap G1
                  have hfall : (l0 ++ l1).all fewBx = true := by rw [List.all_append, hfb0.2, hfb1.2]; rfl
                  have hlen0 := rightF_len hrt0
                  have hlen1 := rightF_len hrt1
                  have hlall : (l0 ++ l1).length ≤ 15 := by rw [List.length_append]; omega
                  have hfc : ∀ i, i < 4 → FewC (attrL (l0 ++ l1) i) := fun i hi => fewC_attr hfall hlall hi
                  have hil : ∀ i, i < 4 → InL (attrL (l0 ++ l1) i) := fun i hi => inL_append (Bxs.inL hv0 hi) (Bxs.inL hv1 hi)
                  refine wt_call (o := ⟨_, _, _, _, _, _⟩) (by rfl) 8 _ _ rfl #[.slice (some ⟨g7, 0, none⟩) 2 2] rfl (run_call Tryz.func8 (by kernel_rfl) (by kernel_rfl)) ?_
                  refine (new_any g7 [l0, l1] (fun k => if k = 0 then .slice a0 l0.length cap0 else .slice a1 l1.length cap1) _ (lt_heap G7)
                    (fun k hk => match k, hk with
                      | 0, _ => cell_heap G7 0
                      | 1, _ => cell_heap G7 1)
                    (fun k hk => match k, hk with
                      | 0, _ => (hv0.on (below_none D))
                      | 1, _ => (hv1.on (below_none D))) (by simp)
                    (fun l hl => by
                      simp only [List.mem_cons, List.not_mem_nil, or_false] at hl
                      rcases hl with rfl | rfl <;> omega)
                    (fun l hl x hx j hj => by
                      simp only [List.mem_cons, List.not_mem_nil, or_false] at hl
                      rcases hl with rfl | rfl
                      · exact fewBx_sz hfb0.2 hx hj
                      · exact fewBx_sz hfb1.2 hx hj)).mono ?_
                  rintro r v8 (⟨⟨b, rfl, hb, NG⟩, kb⟩)
                  · replace D := grown_below D kb
                    replace HE := HE.on kb
                    replace G1 := heap_on G1 kb
                    clear kb
                    have OK : GridN v8 b (fun i => attrL (l0 ++ l1) i) := by
                      have e : ([l0, l1] : List (List BoxV)).flatten = (l0 ++ l1) := by simp
                      rw [e] at NG; exact NG
                    clear NG
                    have hb0 : w.heap.size ≤ b := Nat.le_trans hwV hb
                    have six_b : 2 ≤ b := Nat.le_trans w6 hb0
                    have ge_b := hb0
                    have hg5b : g1 < b := Nat.lt_of_lt_of_le hg5V hb
                    clear hb
                    refine Or.inl ⟨.pointer (some ⟨b, 0, none⟩), rfl, ?_⟩
                    simp only [Act.put, lzA, lzB, lzC]
                    refine wl_yield (o := ⟨_, _, _, _, _, _⟩) (.pointer (some ⟨b, 0, none⟩)) (yl_assign (by rfl) _ rfl _ rfl) ?_
                    simp only [Act.put, lzA, lzB, lzC]
                    refine wpList_nil ?_
                    refine hK4 _ _ ?_
                    clear hK4 K4
                    refine wp_seq_k (fun K5 hK5 => ?_)
                    refine wp_region_lit ?_
                    have hbV := OK.lt
                    refine wq_row0B (o := ⟨_, _, _, _, _, _⟩) (by rfl) rfl (fun v9 g9 OB KB => ?_)
                    simp only [Act.put, lzA, lzB, lzC]
                    refine wl_yield (o := ⟨_, _, _, _, _, _⟩) (.slice a0 l0.length cap0) (yl_move (by rfl) _ rfl _ rfl) ?_
                    simp only [Act.put, lzA, lzB, lzC]
                    refine wpList_appRowB _ rfl _ _ rfl v8.heap.size _ _ [] cs0 rfl OB rfl (hR0.on ((below_none D).trans (KB.mono D.size))) hn0 (by first | omega | (simp; omega)) KB.size ?_
                    intro v10' v10 OB' kB
                    simp only [Act.put, lzA, lzB, lzC]
                    replace OB := OB'
                    clear OB'
                    replace KB := KB.trans kB
                    clear kB
                    rw [List.nil_append] at OB
                    refine wl_yield (o := ⟨_, _, _, _, _, _⟩) (.slice a1 l1.length cap1) (yl_move (by rfl) _ rfl _ rfl) ?_
                    simp only [Act.put, lzA, lzB, lzC]
                    refine wpList_appRowB _ rfl _ _ rfl v8.heap.size _ _ cs0 cs1 rfl OB rfl (hR1.on ((below_none D).trans (KB.mono D.size))) hn1 (by first | omega | (simp; omega)) KB.size ?_
                    intro v11' v11 OB' kB
                    simp only [Act.put, lzA, lzB, lzC]
                    replace OB := OB'
                    clear OB'
                    replace KB := KB.trans kB
                    clear kB
                    replace D := grown_below D KB
                    replace HE := HE.on KB
                    replace G1 := heap_on G1 KB
                    replace OK := OK.on KB
                    clear KB
                    have OK3 := OK
                    clear OK
                    have D3 : v11.grownBy v11 none := grown_refl _ _
                    refine wl_yield (o := ⟨_, _, _, _, _, _⟩) (v11') (yl_assign (by rfl) _ rfl _ rfl) ?_
                    simp only [Act.put, lzA, lzB, lzC]
                    refine wpList_nil ?_
                    refine hK5 _ _ ?_
                    clear hK5 K5
                    refine wp_seq_k (fun K6 hK6 => ?_)
                    refine wp_region_lit ?_
                    refine wl_yield (o := ⟨_, _, _, _, _, _⟩) (evVal e) (yl_ev (by rfl) _ rfl _ 0 rfl _ _ _ _ _ _ _ _ _ _ _ _ (fun _ h => by subst h; exact ⟨cell_heap G1 0, cell_heap G1 1, cell_heap G1 2, cell_heap G1 3, cell_heap G1 4, cell_heap G1 5, cell_heap G1 6, cell_heap G1 7, cell_heap G1 8, cell_heap G1 9, cell_heap G1 10, cell_heap G1 11⟩)) ?_
                    simp only [Act.put, lzA, lzB, lzC]
                    refine wt_allocEv (o := ⟨_, _, _, _, _, _⟩) (by rfl) rfl (fun v12 g12 hg G12 kb => ?_)
                    simp only [Act.put, lzA, lzB, lzC]
                    have n_g1_g12 : g1 ≠ g12 := by have := lt_heap G1; omega
                    have ge_g12 : w.heap.size ≤ g12 := Nat.le_trans D.size hg
                    have ge_D3_g12 : v11.heap.size ≤ g12 := Nat.le_trans D3.size hg
                    have six_g12 : 2 ≤ g12 := Nat.le_trans w6 ge_g12
                    clear hg
                    replace D := grown_below D kb
                    replace HE := HE.on kb
                    replace G1 := heap_on G1 kb
                    replace D3 := grown_below D3 kb
                    clear kb
                    replace G12 : v12.heap[g12]? = some (.cells #[.int .i64 0, .int .i64 0, .string (bs ([])), .int .i64 0, .int .i64 0, .string (bs ([])), .int .i64 0, .int .i64 0, .string (bs ([])), .int .i64 0, .int .i64 0, .string (bs ([]))] 26 (0, 0)) := G12
                    refine wt_putEv (o := ⟨_, _, _, _, _, _⟩) rfl _ _ rfl _ rfl (e) rfl G12 rfl (fun v13 X kg => ?_)
                    simp only [Act.put, lzA, lzB, lzC]
                    replace D := gr_new D ge_g12 kg
                    replace HE := Env.gr HE kg six_g12
                    replace G1 := heap_gr G1 kg n_g1_g12
                    replace D3 := gr_new D3 ge_D3_g12 kg
                    clear kg
                    replace G12 : v13.heap[g12]? = some (.cells #[.int .i64 (e.v0.1), .int .i64 (e.v0.2.1), .string e.v0.2.2, .int .i64 (e.v1.1), .int .i64 (e.v1.2.1), .string e.v1.2.2, .int .i64 (e.v2.1), .int .i64 (e.v2.2.1), .string e.v2.2.2, .int .i64 (e.v3.1), .int .i64 (e.v3.2.1), .string e.v3.2.2] 26 (0, 0)) := X
                    clear X
                    refine wl_yield (o := ⟨_, _, _, _, _, _⟩) (.bool true) (yl_assign (by rfl) _ rfl _ rfl) ?_
                    simp only [Act.put, lzA, lzB, lzC]
                    refine wpList_nil ?_
                    refine hK6 _ _ ?_
                    clear hK6 K6
                    refine wp_seq_k (fun K7 hK7 => ?_)
                    refine wp_seq_k (fun K8 hK8 => ?_)
                    refine wp_region_lit ?_
                    refine wl_yield (o := ⟨_, _, _, _, _, _⟩) (.int .i64 0) (yl_move (by rfl) _ rfl _ rfl) ?_
                    simp only [Act.put, lzA, lzB, lzC]
                    refine wpList_nil ?_
                    refine hK8 _ _ ?_
                    clear hK8 K8
                    refine wp_block ?_
                    have n_b_g12 : b ≠ g12 := by have := ge_D3_g12; have := OK3.lt; omega
                    have n_g1_b : g1 ≠ b := by have := hg5b; omega
                    have OK : GridM (g12 + 1) v13 b (fun i => attrL (l0 ++ l1) i) := (OK3.on (below_none D3)).ok _
                    replace D3 := grown_below (grown_refl _ (some b)) (below_none D3)
                    have hinc : true = true → InC (l0 ++ l1) e e 0 := fun _ i hi => absurd hi (Nat.not_lt_zero _)
                    go_loopw [10, 47] (fun x i wr => ∃ (j : Nat) (ok9 : Bool) (e9 : EvV), x = .bool ok9 ∧ i = .int .i64 ((j : Nat) : Int) ∧ j ≤ 4 ∧ wr.heap[g1]? = some (.cells #[.int .i64 (e.v0.1), .int .i64 (e.v0.2.1), .string e.v0.2.2, .int .i64 (e.v1.1), .int .i64 (e.v1.2.1), .string e.v1.2.2, .int .i64 (e.v2.1), .int .i64 (e.v2.2.1), .string e.v2.2.2, .int .i64 (e.v3.1), .int .i64 (e.v3.2.1), .string e.v3.2.2] 26 (0, 0)) ∧ wr.heap[g12]? = some (evObj e9) ∧ Env wr ∧ GridM (g12 + 1) wr b (fun i => attrL (l0 ++ l1) i) ∧ v11.grownBy wr (some b) ∧ w.grownBy wr none ∧ evFit e9 ∧ (ok9 = true → InC (l0 ++ l1) e e9 j)) (fun _ i _ => 4 - (intOf i).toNat)
                    case atStart => exact ⟨0, true, e, rfl, rfl, Nat.zero_le _, G1, G12, HE, OK, D3, D, hfe, hinc⟩
                    case round =>
                      clear D D3 HE OK hinc G1 G12
                      obtain ⟨j, ok9, e9, rfl, rfl, hj, G1, G12, HE, OK, D3, D, hfe9, hinc⟩ := hrel
                      by_cases hlt : j < 4
                      · have hfj := hfc j hlt
                        refine wp_seq_k (fun K9 hK9 => ?_)
                        refine wp_region_lit ?_
                        refine wl_yield (o := ⟨_, _, _, _, _, _⟩) (.bool true) (yt_lssI (by rfl) _ _ _ rfl ((j : Nat) : Int) 4 true rfl rfl (decide_eq_true (by omega))) ?_
                        simp only [Act.put, lzA, lzB, lzC]
                        refine wpList_nil ?_
                        refine hK9 _ _ ?_
                        clear hK9 K9
                        refine wp_seq_k (fun K10 hK10 => ?_)
                        refine wp_cond_true rfl ?_
                        refine wp_skip ?_
                        refine hK10 _ _ ?_
                        clear hK10 K10
                        refine wp_seq_k (fun K11 hK11 => ?_)
                        refine wp_block ?_
                        refine wp_seq_k (fun K12 hK12 => ?_)
                        refine wp_region_lit ?_
                        refine wl_yield (o := ⟨_, _, _, _, _, _⟩) (.int .i64 (j : Nat)) (yl_move (by rfl) _ rfl _ rfl) ?_
                        simp only [Act.put, lzA, lzB, lzC]
                        refine wl_yield (o := ⟨_, _, _, _, _, _⟩) (.int .i64 (j : Nat)) (yl_assign (by rfl) _ rfl _ rfl) ?_
                        simp only [Act.put, lzA, lzB, lzC]
                        refine wpList_nil ?_
                        refine hK12 _ _ ?_
                        clear hK12 K12
                        refine wp_seq_k (fun K13 hK13 => ?_)
                        refine wp_region_lit ?_
                        refine wl_yield (o := ⟨_, _, _, _, _, _⟩) (.pointer (some ⟨b, 0, none⟩)) (yl_move (by rfl) _ rfl _ rfl) ?_
                        simp only [Act.put, lzA, lzB, lzC]
                        refine wl_yield (o := ⟨_, _, _, _, _, _⟩) (.int .i64 (j : Nat)) (yl_move (by rfl) _ rfl _ rfl) ?_
                        simp only [Act.put, lzA, lzB, lzC]
                        refine wt_call (o := ⟨_, _, _, _, _, _⟩) (by rfl) 9 _ _ rfl #[.pointer (some ⟨b, 0, none⟩), .int .i64 (j : Nat)] rfl (run_call Tryz.func9 (by kernel_rfl) (by kernel_rfl)) ?_
                        refine (attrM_any (g12 + 1) b j hlt (fun i => attrL (l0 ++ l1) i) _ OK hfc (lt_heap G12)).mono ?_
                        rintro r v14 (⟨⟨u, rfl, HCu⟩, GL, kg⟩)
                        · have hbm := OK.lt
                          have HK := HCu
                          clear HCu
                          replace D := gr_new D ge_b kg
                          replace HE := Env.gr HE kg six_b
                          replace G1 := heap_gr G1 kg n_g1_b
                          replace G12 := heap_gr G12 kg (Ne.symm n_b_g12)
                          replace D3 := grown_trans D3 kg
                          clear kg
                          clear OK
                          have OK := GL
                          clear GL
                          obtain ⟨a5, cap5, rfl⟩ : ∃ a5 cap5, u = .slice a5 (cutL (attrL (l0 ++ l1) j)).length cap5 := by
                            obtain ⟨q, e1, e2⟩ := HK.form
                            exact ⟨q.p, q.c, by rw [e1]; unfold Sl.val; rw [e2]⟩
                          refine Or.inl ⟨.slice a5 (cutL (attrL (l0 ++ l1) j)).length cap5, rfl, ?_⟩
                          simp only [Act.put, lzA, lzB, lzC]
                          refine wl_yield (o := ⟨_, _, _, _, _, _⟩) (.slice a5 (cutL (attrL (l0 ++ l1) j)).length cap5) (yl_assign (by rfl) _ rfl _ rfl) ?_
                          simp only [Act.put, lzA, lzB, lzC]
                          refine wpList_nil ?_
                          refine hK13 _ _ ?_
                          clear hK13 K13
                          refine wp_seq_k (fun K14 hK14 => ?_)
                          refine wp_region_lit ?_
                          refine wl_yield (o := ⟨_, _, _, _, _, _⟩) (.slice a5 (cutL (attrL (l0 ++ l1) j)).length cap5) (yl_move (by rfl) _ rfl _ rfl) ?_
                          simp only [Act.put, lzA, lzB, lzC]
                          refine wl_yield (o := ⟨_, _, _, _, _, _⟩) (.int .i64 (j : Nat)) (yl_move (by rfl) _ rfl _ rfl) ?_
                          simp only [Act.put, lzA, lzB, lzC]
                          refine wl_yield (o := ⟨_, _, _, _, _, _⟩) (.pointer (some ⟨g1, j * 3, none⟩)) (yl_atEv (by rfl) _ _ rfl g1 j rfl rfl (hlt)) ?_
                          simp only [Act.put, lzA, lzB, lzC]
                          refine wl_yield (o := ⟨_, _, _, _, _, _⟩) (vVal (EvV.get e j)) (yl_val (by rfl) _ rfl _ _ rfl _ _ _ (fun _ h => by subst h; exact EvIn.atI G1 j hlt)) ?_
                          simp only [Act.put, lzA, lzB, lzC]
                          rcases okk ok9 (whichN (cutL (attrL (l0 ++ l1) j)) (EvV.get e j)) (cutL (attrL (l0 ++ l1) j)).length with rfl | ⟨rfl, hwJ⟩ | ⟨rfl, hwJ⟩
                          · refine wt_call (o := ⟨_, _, _, _, _, _⟩) (by rfl) 10 _ _ rfl #[.slice a5 (cutL (attrL (l0 ++ l1) j)).length cap5, vVal (EvV.get e j)] rfl (run_call Tryz.func10 (by kernel_rfl) (by kernel_rfl)) ?_
                            refine (which_any _ (cutL (attrL (l0 ++ l1) j)) (EvV.get e j) _ (HK.sets (Kept.refl _ _)) (fit_cut (hil j hlt) hfj) (evFit_get9 hfe j hlt)).mono ?_
                            rintro r v15 (⟨rfl, kb⟩)
                            · replace D := grown_below D kb
                              replace HE := HE.on kb
                              replace G1 := heap_on G1 kb
                              replace G12 := heap_on G12 kb
                              replace OK := OK.on kb
                              replace D3 := grown_below D3 kb
                              replace HK := HK.on kb
                              clear kb
                              refine Or.inl ⟨.int .i64 (whichI (cutL (attrL (l0 ++ l1) j)) (EvV.get e j)), rfl, ?_⟩
                              simp only [Act.put, lzA, lzB, lzC]
                              refine wl_yield (o := ⟨_, _, _, _, _, _⟩) (.int .i64 (whichI (cutL (attrL (l0 ++ l1) j)) (EvV.get e j))) (yl_assign (by rfl) _ rfl _ rfl) ?_
                              simp only [Act.put, lzA, lzB, lzC]
                              refine wpList_nil ?_
                              refine hK14 _ _ ?_
                              clear hK14 K14
                              refine wp_seq_k (fun K15 hK15 => ?_)
                              refine wp_seq_k (fun K16 hK16 => ?_)
                              refine wp_region_lit ?_
                              refine wl_yield (o := ⟨_, _, _, _, _, _⟩) (.pointer (some ⟨b, 0, none⟩)) (yl_move (by rfl) _ rfl _ rfl) ?_
                              simp only [Act.put, lzA, lzB, lzC]
                              refine wt_call (o := ⟨_, _, _, _, _, _⟩) (by rfl) 11 _ _ rfl #[.pointer (some ⟨b, 0, none⟩)] rfl (run_call Tryz.func11 (by kernel_rfl) (by kernel_rfl)) ?_
                              refine (countM_any (g12 + 1) b (fun i => attrL (l0 ++ l1) i) _ OK.ok hfc (lt_heap G12)).mono ?_
                              rintro r v16 (⟨rfl, GL, kg⟩)
                              · replace D := gr_new D ge_b kg
                                replace HE := Env.gr HE kg six_b
                                replace G1 := heap_gr G1 kg n_g1_b
                                replace G12 := heap_gr G12 kg (Ne.symm n_b_g12)
                                replace D3 := grown_trans D3 kg
                                replace HK := HK.kept (kept_lt kg hbm)
                                clear kg
                                clear OK
                                have OK := GL
                                clear GL
                                refine Or.inl ⟨.int .i64 (cntU (fun i => (cutL (attrL (l0 ++ l1) i)).length) 4 : Nat), rfl, ?_⟩
                                simp only [Act.put, lzA, lzB, lzC]
                                refine wl_yield (o := ⟨_, _, _, _, _, _⟩) (v11') (yl_move (by rfl) _ rfl _ rfl) ?_
                                simp only [Act.put, lzA, lzB, lzC]
                                refine wt_call (o := ⟨_, _, _, _, _, _⟩) (by rfl) 12 _ _ rfl #[v11'] rfl (run_call Tryz.func12 (by kernel_rfl) (by kernel_rfl)) ?_
                                refine (refCount9_any _ (l0 ++ l1) _ (rowAll OB D3 hbV (HA0.on (below_none D)) (HA1.on (below_none D)) (by rw [List.length_append]; omega)) (by omega) hfc).mono ?_
                                rintro r v17 (⟨rfl, kb⟩)
                                · replace D := grown_below D kb
                                  replace HE := HE.on kb
                                  replace G1 := heap_on G1 kb
                                  replace G12 := heap_on G12 kb
                                  replace OK := OK.on kb
                                  replace D3 := grown_below D3 kb
                                  replace HK := HK.on kb
                                  clear kb
                                  refine Or.inl ⟨.int .i64 (cntU (fun i => (cutL (attrL (l0 ++ l1) i)).length) 4 : Nat), rfl, ?_⟩
                                  simp only [Act.put, lzA, lzB, lzC]
                                  refine wl_yield (o := ⟨_, _, _, _, _, _⟩) (.bool false) (yt_neqI (by rfl) _ _ _ rfl ((cntU (fun i => (cutL (attrL (l0 ++ l1) i)).length) 4 : Nat) : Int) ((cntU (fun i => (cutL (attrL (l0 ++ l1) i)).length) 4 : Nat) : Int) false rfl rfl (decide_eq_false (fun h => h rfl))) ?_
                                  simp only [Act.put, lzA, lzB, lzC]
                                  refine wl_yield (o := ⟨_, _, _, _, _, _⟩) (.bool false) (yl_move (by rfl) _ rfl _ rfl) ?_
                                  simp only [Act.put, lzA, lzB, lzC]
                                  refine wl_yield (o := ⟨_, _, _, _, _, _⟩) (.slice a5 (cutL (attrL (l0 ++ l1) j)).length cap5) (yl_move (by rfl) _ rfl _ rfl) ?_
                                  simp only [Act.put, lzA, lzB, lzC]
                                  refine wl_yield (o := ⟨_, _, _, _, _, _⟩) (v11') (yl_move (by rfl) _ rfl _ rfl) ?_
                                  simp only [Act.put, lzA, lzB, lzC]
                                  refine wl_yield (o := ⟨_, _, _, _, _, _⟩) (.int .i64 (j : Nat)) (yl_move (by rfl) _ rfl _ rfl) ?_
                                  simp only [Act.put, lzA, lzB, lzC]
                                  refine wt_call (o := ⟨_, _, _, _, _, _⟩) (by rfl) 14 _ _ rfl #[v11', .int .i64 (j : Nat)] rfl (run_call Tryz.func14 (by kernel_rfl) (by kernel_rfl)) ?_
                                  refine (refAttr_any _ j hlt (l0 ++ l1) _ (rowAll OB D3 hbV (HA0.on (below_none D)) (HA1.on (below_none D)) (by rw [List.length_append]; omega)) (by omega) hfj).mono ?_
                                  rintro r v18 (⟨⟨u9, rfl, HR⟩, kb⟩)
                                  · replace D := grown_below D kb
                                    replace HE := HE.on kb
                                    replace G1 := heap_on G1 kb
                                    replace G12 := heap_on G12 kb
                                    replace OK := OK.on kb
                                    replace D3 := grown_below D3 kb
                                    replace HK := HK.on kb
                                    clear kb
                                    refine Or.inl ⟨u9, rfl, ?_⟩
                                    simp only [Act.put, lzA, lzB, lzC]
                                    refine wt_call (o := ⟨_, _, _, _, _, _⟩) (by rfl) 13 _ _ rfl #[.slice a5 (cutL (attrL (l0 ++ l1) j)).length cap5, u9] rfl (run_call Tryz.func13 (by kernel_rfl) (by kernel_rfl)) ?_
                                    refine (sameAll_any _ _ (cutL (attrL (l0 ++ l1) j)) _ (HK.sets (Kept.refl _ _)) HR).mono ?_
                                    rintro r v19 (⟨rfl, kb⟩)
                                    · replace D := grown_below D kb
                                      replace HE := HE.on kb
                                      replace G1 := heap_on G1 kb
                                      replace G12 := heap_on G12 kb
                                      replace OK := OK.on kb
                                      replace D3 := grown_below D3 kb
                                      replace HK := HK.on kb
                                      clear kb
                                      refine Or.inl ⟨.bool true, rfl, ?_⟩
                                      simp only [Act.put, lzA, lzB, lzC]
                                      refine wl_yield (o := ⟨_, _, _, _, _, _⟩) (.bool false) (yl_not (by rfl) _ _ rfl true rfl) ?_
                                      simp only [Act.put, lzA, lzB, lzC]
                                      refine wl_yield (o := ⟨_, _, _, _, _, _⟩) (.bool false) (yl_pickF (by rfl) _ _ _ rfl rfl _ rfl) ?_
                                      simp only [Act.put, lzA, lzB, lzC]
                                      refine wpList_nil ?_
                                      refine hK16 _ _ ?_
                                      clear hK16 K16
                                      refine wp_cond_false rfl ?_
                                      refine wp_skip ?_
                                      refine hK15 _ _ ?_
                                      clear hK15 K15
                                      refine wp_seq_k (fun K17 hK17 => ?_)
                                      refine wp_region_lit ?_
                                      refine wl_yield (o := ⟨_, _, _, _, _, _⟩) (.bool false) (yl_move (by rfl) _ rfl _ rfl) ?_
                                      simp only [Act.put, lzA, lzB, lzC]
                                      refine wl_yield (o := ⟨_, _, _, _, _, _⟩) (.bool false) (yl_move (by rfl) _ rfl _ rfl) ?_
                                      simp only [Act.put, lzA, lzB, lzC]
                                      with_reducible refine wl_yield (o := ⟨_, _, _, _, _, _⟩) undef (yl_undef (by kernel_rfl)) ?_
                                      simp only [Act.put, lzA, lzB, lzC]
                                      with_reducible refine wl_yield (o := ⟨_, _, _, _, _, _⟩) undef (yl_undef (by kernel_rfl)) ?_
                                      simp only [Act.put, lzA, lzB, lzC]
                                      refine wl_yield (o := ⟨_, _, _, _, _, _⟩) (.bool false) (yl_pickF (by rfl) _ _ _ rfl rfl _ rfl) ?_
                                      simp only [Act.put, lzA, lzB, lzC]
                                      refine wl_yield (o := ⟨_, _, _, _, _, _⟩) (.bool false) (yl_assign (by rfl) _ rfl _ rfl) ?_
                                      simp only [Act.put, lzA, lzB, lzC]
                                      refine wpList_nil ?_
                                      refine hK17 _ _ ?_
                                      clear hK17 K17
                                      refine wp_seq_k (fun K18 hK18 => ?_)
                                      refine wp_region_lit ?_
                                      refine wl_yield (o := ⟨_, _, _, _, _, _⟩) (.bool false) (yl_move (by rfl) _ rfl _ rfl) ?_
                                      simp only [Act.put, lzA, lzB, lzC]
                                      refine wpList_nil ?_
                                      refine hK18 _ _ ?_
                                      clear hK18 K18
                                      refine wp_cond_false rfl ?_
                                      refine wp_skip ?_
                                      refine hK11 _ _ ?_
                                      clear hK11 K11
                                      refine wp_region_lit ?_
                                      refine wl_yield (o := ⟨_, _, _, _, _, _⟩) (.int .i64 (j + 1 : Nat)) (yt_addI (by rfl) _ _ _ rfl ((j : Nat) : Int) 1 ((j + 1 : Nat) : Int) rfl rfl (by omega) (by omega) (by omega)) ?_
                                      simp only [Act.put, lzA, lzB, lzC]
                                      refine wl_yield (o := ⟨_, _, _, _, _, _⟩) (.int .i64 (j + 1 : Nat)) (yl_move (by rfl) _ rfl _ rfl) ?_
                                      simp only [Act.put, lzA, lzB, lzC]
                                      refine wpList_nil ?_
                                      show _ ∧ _
                                      go_roundw
                                      case rel => exact ⟨j + 1, _, _, rfl, rfl, by omega, G1, G12, HE, OK.ok, D3, D, hfe9, fun h => by cases h⟩
                                      case measure => simp [intOf]; omega
                          · have hwi : whichI (cutL (attrL (l0 ++ l1) j)) (EvV.get e j) = ((whichN (cutL (attrL (l0 ++ l1) j)) (EvV.get e j) : Nat) : Int) := by unfold whichI; rw [if_pos hwJ]
                            have hwP := which_at hwJ
                            generalize hJ : whichN (cutL (attrL (l0 ++ l1) j)) (EvV.get e j) = J at hwJ hwi hwP
                            refine wt_call (o := ⟨_, _, _, _, _, _⟩) (by rfl) 10 _ _ rfl #[.slice a5 (cutL (attrL (l0 ++ l1) j)).length cap5, vVal (EvV.get e j)] rfl (run_call Tryz.func10 (by kernel_rfl) (by kernel_rfl)) ?_
                            refine (which_any _ (cutL (attrL (l0 ++ l1) j)) (EvV.get e j) _ (HK.sets (Kept.refl _ _)) (fit_cut (hil j hlt) hfj) (evFit_get9 hfe j hlt)).mono ?_
                            rintro r v15 (⟨rfl, kb⟩)
                            · replace D := grown_below D kb
                              replace HE := HE.on kb
                              replace G1 := heap_on G1 kb
                              replace G12 := heap_on G12 kb
                              replace OK := OK.on kb
                              replace D3 := grown_below D3 kb
                              replace HK := HK.on kb
                              clear kb
                              refine Or.inl ⟨.int .i64 (J : Nat), ret_int hwi, ?_⟩
                              simp only [Act.put, lzA, lzB, lzC]
                              refine wl_yield (o := ⟨_, _, _, _, _, _⟩) (.int .i64 (J : Nat)) (yl_assign (by rfl) _ rfl _ rfl) ?_
                              simp only [Act.put, lzA, lzB, lzC]
                              refine wpList_nil ?_
                              refine hK14 _ _ ?_
                              clear hK14 K14
                              refine wp_seq_k (fun K15 hK15 => ?_)
                              refine wp_seq_k (fun K16 hK16 => ?_)
                              refine wp_region_lit ?_
                              refine wl_yield (o := ⟨_, _, _, _, _, _⟩) (.pointer (some ⟨b, 0, none⟩)) (yl_move (by rfl) _ rfl _ rfl) ?_
                              simp only [Act.put, lzA, lzB, lzC]
                              refine wt_call (o := ⟨_, _, _, _, _, _⟩) (by rfl) 11 _ _ rfl #[.pointer (some ⟨b, 0, none⟩)] rfl (run_call Tryz.func11 (by kernel_rfl) (by kernel_rfl)) ?_
                              refine (countM_any (g12 + 1) b (fun i => attrL (l0 ++ l1) i) _ OK.ok hfc (lt_heap G12)).mono ?_
                              rintro r v16 (⟨rfl, GL, kg⟩)
                              · replace D := gr_new D ge_b kg
                                replace HE := Env.gr HE kg six_b
                                replace G1 := heap_gr G1 kg n_g1_b
                                replace G12 := heap_gr G12 kg (Ne.symm n_b_g12)
                                replace D3 := grown_trans D3 kg
                                replace HK := HK.kept (kept_lt kg hbm)
                                clear kg
                                clear OK
                                have OK := GL
                                clear GL
                                refine Or.inl ⟨.int .i64 (cntU (fun i => (cutL (attrL (l0 ++ l1) i)).length) 4 : Nat), rfl, ?_⟩
                                simp only [Act.put, lzA, lzB, lzC]
                                refine wl_yield (o := ⟨_, _, _, _, _, _⟩) (v11') (yl_move (by rfl) _ rfl _ rfl) ?_
                                simp only [Act.put, lzA, lzB, lzC]
                                refine wt_call (o := ⟨_, _, _, _, _, _⟩) (by rfl) 12 _ _ rfl #[v11'] rfl (run_call Tryz.func12 (by kernel_rfl) (by kernel_rfl)) ?_
                                refine (refCount9_any _ (l0 ++ l1) _ (rowAll OB D3 hbV (HA0.on (below_none D)) (HA1.on (below_none D)) (by rw [List.length_append]; omega)) (by omega) hfc).mono ?_
                                rintro r v17 (⟨rfl, kb⟩)
                                · replace D := grown_below D kb
                                  replace HE := HE.on kb
                                  replace G1 := heap_on G1 kb
                                  replace G12 := heap_on G12 kb
                                  replace OK := OK.on kb
                                  replace D3 := grown_below D3 kb
                                  replace HK := HK.on kb
                                  clear kb
                                  refine Or.inl ⟨.int .i64 (cntU (fun i => (cutL (attrL (l0 ++ l1) i)).length) 4 : Nat), rfl, ?_⟩
                                  simp only [Act.put, lzA, lzB, lzC]
                                  refine wl_yield (o := ⟨_, _, _, _, _, _⟩) (.bool false) (yt_neqI (by rfl) _ _ _ rfl ((cntU (fun i => (cutL (attrL (l0 ++ l1) i)).length) 4 : Nat) : Int) ((cntU (fun i => (cutL (attrL (l0 ++ l1) i)).length) 4 : Nat) : Int) false rfl rfl (decide_eq_false (fun h => h rfl))) ?_
                                  simp only [Act.put, lzA, lzB, lzC]
                                  refine wl_yield (o := ⟨_, _, _, _, _, _⟩) (.bool false) (yl_move (by rfl) _ rfl _ rfl) ?_
                                  simp only [Act.put, lzA, lzB, lzC]
                                  refine wl_yield (o := ⟨_, _, _, _, _, _⟩) (.slice a5 (cutL (attrL (l0 ++ l1) j)).length cap5) (yl_move (by rfl) _ rfl _ rfl) ?_
                                  simp only [Act.put, lzA, lzB, lzC]
                                  refine wl_yield (o := ⟨_, _, _, _, _, _⟩) (v11') (yl_move (by rfl) _ rfl _ rfl) ?_
                                  simp only [Act.put, lzA, lzB, lzC]
                                  refine wl_yield (o := ⟨_, _, _, _, _, _⟩) (.int .i64 (j : Nat)) (yl_move (by rfl) _ rfl _ rfl) ?_
                                  simp only [Act.put, lzA, lzB, lzC]
                                  refine wt_call (o := ⟨_, _, _, _, _, _⟩) (by rfl) 14 _ _ rfl #[v11', .int .i64 (j : Nat)] rfl (run_call Tryz.func14 (by kernel_rfl) (by kernel_rfl)) ?_
                                  refine (refAttr_any _ j hlt (l0 ++ l1) _ (rowAll OB D3 hbV (HA0.on (below_none D)) (HA1.on (below_none D)) (by rw [List.length_append]; omega)) (by omega) hfj).mono ?_
                                  rintro r v18 (⟨⟨u9, rfl, HR⟩, kb⟩)
                                  · replace D := grown_below D kb
                                    replace HE := HE.on kb
                                    replace G1 := heap_on G1 kb
                                    replace G12 := heap_on G12 kb
                                    replace OK := OK.on kb
                                    replace D3 := grown_below D3 kb
                                    replace HK := HK.on kb
                                    clear kb
                                    refine Or.inl ⟨u9, rfl, ?_⟩
                                    simp only [Act.put, lzA, lzB, lzC]
                                    refine wt_call (o := ⟨_, _, _, _, _, _⟩) (by rfl) 13 _ _ rfl #[.slice a5 (cutL (attrL (l0 ++ l1) j)).length cap5, u9] rfl (run_call Tryz.func13 (by kernel_rfl) (by kernel_rfl)) ?_
                                    refine (sameAll_any _ _ (cutL (attrL (l0 ++ l1) j)) _ (HK.sets (Kept.refl _ _)) HR).mono ?_
                                    rintro r v19 (⟨rfl, kb⟩)
                                    · replace D := grown_below D kb
                                      replace HE := HE.on kb
                                      replace G1 := heap_on G1 kb
                                      replace G12 := heap_on G12 kb
                                      replace OK := OK.on kb
                                      replace D3 := grown_below D3 kb
                                      replace HK := HK.on kb
                                      clear kb
                                      refine Or.inl ⟨.bool true, rfl, ?_⟩
                                      simp only [Act.put, lzA, lzB, lzC]
                                      refine wl_yield (o := ⟨_, _, _, _, _, _⟩) (.bool false) (yl_not (by rfl) _ _ rfl true rfl) ?_
                                      simp only [Act.put, lzA, lzB, lzC]
                                      refine wl_yield (o := ⟨_, _, _, _, _, _⟩) (.bool false) (yl_pickF (by rfl) _ _ _ rfl rfl _ rfl) ?_
                                      simp only [Act.put, lzA, lzB, lzC]
                                      refine wpList_nil ?_
                                      refine hK16 _ _ ?_
                                      clear hK16 K16
                                      refine wp_cond_false rfl ?_
                                      refine wp_skip ?_
                                      refine hK15 _ _ ?_
                                      clear hK15 K15
                                      refine wp_seq_k (fun K17 hK17 => ?_)
                                      refine wp_region_lit ?_
                                      refine wl_yield (o := ⟨_, _, _, _, _, _⟩) (.bool true) (yl_move (by rfl) _ rfl _ rfl) ?_
                                      simp only [Act.put, lzA, lzB, lzC]
                                      refine wl_yield (o := ⟨_, _, _, _, _, _⟩) (.bool true) (yl_move (by rfl) _ rfl _ rfl) ?_
                                      simp only [Act.put, lzA, lzB, lzC]
                                      refine wl_yield (o := ⟨_, _, _, _, _, _⟩) (.int .i64 (J : Nat)) (yl_move (by rfl) _ rfl _ rfl) ?_
                                      simp only [Act.put, lzA, lzB, lzC]
                                      refine wl_yield (o := ⟨_, _, _, _, _, _⟩) (.bool true) (yt_geqI (by rfl) _ _ _ rfl ((J : Nat) : Int) 0 true rfl rfl (decide_eq_true (by omega))) ?_
                                      simp only [Act.put, lzA, lzB, lzC]
                                      refine wl_yield (o := ⟨_, _, _, _, _, _⟩) (.bool true) (yl_pickT (by rfl) _ _ _ rfl rfl _ rfl) ?_
                                      simp only [Act.put, lzA, lzB, lzC]
                                      refine wl_yield (o := ⟨_, _, _, _, _, _⟩) (.bool true) (yl_assign (by rfl) _ rfl _ rfl) ?_
                                      simp only [Act.put, lzA, lzB, lzC]
                                      refine wpList_nil ?_
                                      refine hK17 _ _ ?_
                                      clear hK17 K17
                                      refine wp_seq_k (fun K18 hK18 => ?_)
                                      refine wp_region_lit ?_
                                      refine wl_yield (o := ⟨_, _, _, _, _, _⟩) (.bool true) (yl_move (by rfl) _ rfl _ rfl) ?_
                                      simp only [Act.put, lzA, lzB, lzC]
                                      refine wpList_nil ?_
                                      refine hK18 _ _ ?_
                                      clear hK18 K18
                                      refine wp_cond_true rfl ?_
                                      refine wp_region_lit ?_
                                      have HS9 := HK.sets (Kept.refl _ _)
                                      obtain ⟨q, hq⟩ := cell_sample (cut_of (hil j hlt)) (i := J) hwJ
                                      have hq : sampleV ((cutL (attrL (l0 ++ l1) j)).getD J noSet) = some q := hq
                                      have hfk := fit_cut (hil j hlt) hfj _ (gD_mem (d := noSet) hwJ)
                                      have hqh := sample_has hq (by have := hfk.ns; omega)
                                      have hqm := hasP_max hqh
                                      obtain ⟨gA, oA, vi', vs', rfl, hgA, A0, A1, A2, A3, hIA, hTA⟩ := HS9.at.2 J hwJ
                                      obtain ⟨ai', ci', rfl⟩ := hIA.form
                                      obtain ⟨az', cz', rfl⟩ := hTA.form
                                      have hXA := (show SetAt _ (SC.val ⟨((cutL (attrL (l0 ++ l1) j)).getD J noSet).absent, ai', ((cutL (attrL (l0 ++ l1) j)).getD J noSet).ints.length, ci', ((cutL (attrL (l0 ++ l1) j)).getD J noSet).co, az', ((cutL (attrL (l0 ++ l1) j)).getD J noSet).strs.length, cz'⟩) ((cutL (attrL (l0 ++ l1) j)).getD J noSet) from ⟨_, _, rfl, hIA, hTA⟩)
                                      generalize hY9 : (cutL (attrL (l0 ++ l1) j)).getD J noSet = Y9 at A0 A1 A2 A3 hIA hTA hq hfk hqh hXA
                                      clear HK HS9
                                      refine wl_yield (o := ⟨_, _, _, _, _, _⟩) (.int .i64 (j : Nat)) (yl_move (by rfl) _ rfl _ rfl) ?_
                                      simp only [Act.put, lzA, lzB, lzC]
                                      refine wl_yield (o := ⟨_, _, _, _, _, _⟩) (.slice (some ⟨gA, oA, none⟩) (cutL (attrL (l0 ++ l1) j)).length cap5) (yl_move (by rfl) _ rfl _ rfl) ?_
                                      simp only [Act.put, lzA, lzB, lzC]
                                      refine wl_yield (o := ⟨_, _, _, _, _, _⟩) (.int .i64 (J : Nat)) (yl_move (by rfl) _ rfl _ rfl) ?_
                                      simp only [Act.put, lzA, lzB, lzC]
                                      refine wl_yield (o := ⟨_, _, _, _, _, _⟩) (.pointer (some ⟨gA, oA + J * 4, none⟩)) (yt_atQ (by rfl) _ _ rfl gA oA _ _ J rfl rfl (hwJ)) ?_
                                      simp only [Act.put, lzA, lzB, lzC]
                                      refine wl_yield (o := ⟨_, _, _, _, _, _⟩) (.agg #[.bool (Y9.absent), .slice ai' Y9.ints.length ci', .bool (Y9.co), .slice az' Y9.strs.length cz']) (yl_set (by rfl) _ rfl _ _ rfl _ _ _ _ (fun _ h => by subst h; exact ⟨A0, A1, A2, A3⟩)) ?_
                                      simp only [Act.put, lzA, lzB, lzC]
                                      refine wt_call (o := ⟨_, _, _, _, _, _⟩) (by rfl) 15 _ _ rfl #[.agg #[.bool (Y9.absent), .slice ai' Y9.ints.length ci', .bool (Y9.co), .slice az' Y9.strs.length cz']] rfl (run_call Tryz.func15 (by kernel_rfl) (by kernel_rfl)) ?_
                                      refine (sample_any _ Y9 _ HE hXA (fun _ => hfk)).mono ?_
                                      rintro r v20 (⟨rfl, kb⟩)
                                      · replace D := grown_below D kb
                                        replace HE := HE.on kb
                                        replace G1 := heap_on G1 kb
                                        replace G12 := heap_on G12 kb
                                        replace OK := OK.on kb
                                        replace D3 := grown_below D3 kb
                                        clear kb
                                        refine Or.inl ⟨.tuple #[vVal q, .bool true], by rw [hq]; rfl, ?_⟩
                                        simp only [Act.put, lzA, lzB, lzC]
                                        refine wl_yield (o := ⟨_, _, _, _, _, _⟩) (.tuple #[vVal q, .bool true]) (yl_move (by rfl) _ rfl _ rfl) ?_
                                        simp only [Act.put, lzA, lzB, lzC]
                                        refine wl_yield (o := ⟨_, _, _, _, _, _⟩) (vVal q) (yl_extract0 (by rfl) _ rfl _ _ rfl) ?_
                                        simp only [Act.put, lzA, lzB, lzC]
                                        refine wl_yield (o := ⟨_, _, _, _, _, _⟩) (.bool true) (yl_extract1 (by rfl) _ rfl _ _ rfl) ?_
                                        simp only [Act.put, lzA, lzB, lzC]
                                        refine wl_yield (o := ⟨_, _, _, _, _, _⟩) (.pointer (some ⟨g12, j * 3, none⟩)) (yl_atEv (by rfl) _ _ rfl g12 j rfl rfl (hlt)) ?_
                                        simp only [Act.put, lzA, lzB, lzC]
                                        rw [← hY9] at hqh
                                        refine wt_putEv1 (o := ⟨_, _, _, _, _, _⟩) rfl _ _ rfl g12 j hlt rfl q rfl (e := e9) G12 (fun v21 X kg => ?_)
                                        simp only [Act.put, lzA, lzB, lzC]
                                        replace D := gr_new D ge_g12 kg
                                        replace HE := Env.gr HE kg six_g12
                                        replace G1 := heap_gr G1 kg n_g1_g12
                                        replace OK := GridL.put OK kg (Nat.lt_succ_self _) n_b_g12
                                        replace D3 := gr_new D3 ge_D3_g12 kg
                                        clear kg
                                        replace G12 : v21.heap[g12]? = some (evObj (EvV.put e9 j q)) := X
                                        clear X
                                        refine wpList_nil ?_
                                        refine hK11 _ _ ?_
                                        clear hK11 K11
                                        refine wp_region_lit ?_
                                        refine wl_yield (o := ⟨_, _, _, _, _, _⟩) (.int .i64 (j + 1 : Nat)) (yt_addI (by rfl) _ _ _ rfl ((j : Nat) : Int) 1 ((j + 1 : Nat) : Int) rfl rfl (by omega) (by omega) (by omega)) ?_
                                        simp only [Act.put, lzA, lzB, lzC]
                                        refine wl_yield (o := ⟨_, _, _, _, _, _⟩) (.int .i64 (j + 1 : Nat)) (yl_move (by rfl) _ rfl _ rfl) ?_
                                        simp only [Act.put, lzA, lzB, lzC]
                                        refine wpList_nil ?_
                                        show _ ∧ _
                                        go_roundw
                                        case rel => exact ⟨j + 1, _, _, rfl, rfl, by omega, G1, G12, HE, OK.ok, D3, D, evFit_put9 hfe9 _ _ hqm, fun _ => inC_step (hinc rfl) hlt hwJ hwP hqh⟩
                                        case measure => simp [intOf]; omega
                          · have hwi : whichI (cutL (attrL (l0 ++ l1) j)) (EvV.get e j) = -1 := by unfold whichI; rw [if_neg hwJ]
                            refine wt_call (o := ⟨_, _, _, _, _, _⟩) (by rfl) 10 _ _ rfl #[.slice a5 (cutL (attrL (l0 ++ l1) j)).length cap5, vVal (EvV.get e j)] rfl (run_call Tryz.func10 (by kernel_rfl) (by kernel_rfl)) ?_
                            refine (which_any _ (cutL (attrL (l0 ++ l1) j)) (EvV.get e j) _ (HK.sets (Kept.refl _ _)) (fit_cut (hil j hlt) hfj) (evFit_get9 hfe j hlt)).mono ?_
                            rintro r v15 (⟨rfl, kb⟩)
                            · replace D := grown_below D kb
                              replace HE := HE.on kb
                              replace G1 := heap_on G1 kb
                              replace G12 := heap_on G12 kb
                              replace OK := OK.on kb
                              replace D3 := grown_below D3 kb
                              replace HK := HK.on kb
                              clear kb
                              refine Or.inl ⟨.int .i64 (-1), ret_int hwi, ?_⟩
                              simp only [Act.put, lzA, lzB, lzC]
                              refine wl_yield (o := ⟨_, _, _, _, _, _⟩) (.int .i64 (-1)) (yl_assign (by rfl) _ rfl _ rfl) ?_
                              simp only [Act.put, lzA, lzB, lzC]
                              refine wpList_nil ?_
                              refine hK14 _ _ ?_
                              clear hK14 K14
                              refine wp_seq_k (fun K15 hK15 => ?_)
                              refine wp_seq_k (fun K16 hK16 => ?_)
                              refine wp_region_lit ?_
                              refine wl_yield (o := ⟨_, _, _, _, _, _⟩) (.pointer (some ⟨b, 0, none⟩)) (yl_move (by rfl) _ rfl _ rfl) ?_
                              simp only [Act.put, lzA, lzB, lzC]
                              refine wt_call (o := ⟨_, _, _, _, _, _⟩) (by rfl) 11 _ _ rfl #[.pointer (some ⟨b, 0, none⟩)] rfl (run_call Tryz.func11 (by kernel_rfl) (by kernel_rfl)) ?_
                              refine (countM_any (g12 + 1) b (fun i => attrL (l0 ++ l1) i) _ OK.ok hfc (lt_heap G12)).mono ?_
                              rintro r v16 (⟨rfl, GL, kg⟩)
                              · replace D := gr_new D ge_b kg
                                replace HE := Env.gr HE kg six_b
                                replace G1 := heap_gr G1 kg n_g1_b
                                replace G12 := heap_gr G12 kg (Ne.symm n_b_g12)
                                replace D3 := grown_trans D3 kg
                                replace HK := HK.kept (kept_lt kg hbm)
                                clear kg
                                clear OK
                                have OK := GL
                                clear GL
                                refine Or.inl ⟨.int .i64 (cntU (fun i => (cutL (attrL (l0 ++ l1) i)).length) 4 : Nat), rfl, ?_⟩
                                simp only [Act.put, lzA, lzB, lzC]
                                refine wl_yield (o := ⟨_, _, _, _, _, _⟩) (v11') (yl_move (by rfl) _ rfl _ rfl) ?_
                                simp only [Act.put, lzA, lzB, lzC]
                                refine wt_call (o := ⟨_, _, _, _, _, _⟩) (by rfl) 12 _ _ rfl #[v11'] rfl (run_call Tryz.func12 (by kernel_rfl) (by kernel_rfl)) ?_
                                refine (refCount9_any _ (l0 ++ l1) _ (rowAll OB D3 hbV (HA0.on (below_none D)) (HA1.on (below_none D)) (by rw [List.length_append]; omega)) (by omega) hfc).mono ?_
                                rintro r v17 (⟨rfl, kb⟩)
                                · replace D := grown_below D kb
                                  replace HE := HE.on kb
                                  replace G1 := heap_on G1 kb
                                  replace G12 := heap_on G12 kb
                                  replace OK := OK.on kb
                                  replace D3 := grown_below D3 kb
                                  replace HK := HK.on kb
                                  clear kb
                                  refine Or.inl ⟨.int .i64 (cntU (fun i => (cutL (attrL (l0 ++ l1) i)).length) 4 : Nat), rfl, ?_⟩
                                  simp only [Act.put, lzA, lzB, lzC]
                                  refine wl_yield (o := ⟨_, _, _, _, _, _⟩) (.bool false) (yt_neqI (by rfl) _ _ _ rfl ((cntU (fun i => (cutL (attrL (l0 ++ l1) i)).length) 4 : Nat) : Int) ((cntU (fun i => (cutL (attrL (l0 ++ l1) i)).length) 4 : Nat) : Int) false rfl rfl (decide_eq_false (fun h => h rfl))) ?_
                                  simp only [Act.put, lzA, lzB, lzC]
                                  refine wl_yield (o := ⟨_, _, _, _, _, _⟩) (.bool false) (yl_move (by rfl) _ rfl _ rfl) ?_
                                  simp only [Act.put, lzA, lzB, lzC]
                                  refine wl_yield (o := ⟨_, _, _, _, _, _⟩) (.slice a5 (cutL (attrL (l0 ++ l1) j)).length cap5) (yl_move (by rfl) _ rfl _ rfl) ?_
                                  simp only [Act.put, lzA, lzB, lzC]
                                  refine wl_yield (o := ⟨_, _, _, _, _, _⟩) (v11') (yl_move (by rfl) _ rfl _ rfl) ?_
                                  simp only [Act.put, lzA, lzB, lzC]
                                  refine wl_yield (o := ⟨_, _, _, _, _, _⟩) (.int .i64 (j : Nat)) (yl_move (by rfl) _ rfl _ rfl) ?_
                                  simp only [Act.put, lzA, lzB, lzC]
                                  refine wt_call (o := ⟨_, _, _, _, _, _⟩) (by rfl) 14 _ _ rfl #[v11', .int .i64 (j : Nat)] rfl (run_call Tryz.func14 (by kernel_rfl) (by kernel_rfl)) ?_
                                  refine (refAttr_any _ j hlt (l0 ++ l1) _ (rowAll OB D3 hbV (HA0.on (below_none D)) (HA1.on (below_none D)) (by rw [List.length_append]; omega)) (by omega) hfj).mono ?_
                                  rintro r v18 (⟨⟨u9, rfl, HR⟩, kb⟩)
                                  · replace D := grown_below D kb
                                    replace HE := HE.on kb
                                    replace G1 := heap_on G1 kb
                                    replace G12 := heap_on G12 kb
                                    replace OK := OK.on kb
                                    replace D3 := grown_below D3 kb
                                    replace HK := HK.on kb
                                    clear kb
                                    refine Or.inl ⟨u9, rfl, ?_⟩
                                    simp only [Act.put, lzA, lzB, lzC]
                                    refine wt_call (o := ⟨_, _, _, _, _, _⟩) (by rfl) 13 _ _ rfl #[.slice a5 (cutL (attrL (l0 ++ l1) j)).length cap5, u9] rfl (run_call Tryz.func13 (by kernel_rfl) (by kernel_rfl)) ?_
                                    refine (sameAll_any _ _ (cutL (attrL (l0 ++ l1) j)) _ (HK.sets (Kept.refl _ _)) HR).mono ?_
                                    rintro r v19 (⟨rfl, kb⟩)
                                    · replace D := grown_below D kb
                                      replace HE := HE.on kb
                                      replace G1 := heap_on G1 kb
                                      replace G12 := heap_on G12 kb
                                      replace OK := OK.on kb
                                      replace D3 := grown_below D3 kb
                                      replace HK := HK.on kb
                                      clear kb
                                      refine Or.inl ⟨.bool true, rfl, ?_⟩
                                      simp only [Act.put, lzA, lzB, lzC]
                                      refine wl_yield (o := ⟨_, _, _, _, _, _⟩) (.bool false) (yl_not (by rfl) _ _ rfl true rfl) ?_
                                      simp only [Act.put, lzA, lzB, lzC]
                                      refine wl_yield (o := ⟨_, _, _, _, _, _⟩) (.bool false) (yl_pickF (by rfl) _ _ _ rfl rfl _ rfl) ?_
                                      simp only [Act.put, lzA, lzB, lzC]
                                      refine wpList_nil ?_
                                      refine hK16 _ _ ?_
                                      clear hK16 K16
                                      refine wp_cond_false rfl ?_
                                      refine wp_skip ?_
                                      refine hK15 _ _ ?_
                                      clear hK15 K15
                                      refine wp_seq_k (fun K17 hK17 => ?_)
                                      refine wp_region_lit ?_
                                      refine wl_yield (o := ⟨_, _, _, _, _, _⟩) (.bool true) (yl_move (by rfl) _ rfl _ rfl) ?_
                                      simp only [Act.put, lzA, lzB, lzC]
                                      refine wl_yield (o := ⟨_, _, _, _, _, _⟩) (.bool true) (yl_move (by rfl) _ rfl _ rfl) ?_
                                      simp only [Act.put, lzA, lzB, lzC]
                                      refine wl_yield (o := ⟨_, _, _, _, _, _⟩) (.int .i64 (-1)) (yl_move (by rfl) _ rfl _ rfl) ?_
                                      simp only [Act.put, lzA, lzB, lzC]
                                      refine wl_yield (o := ⟨_, _, _, _, _, _⟩) (.bool false) (yt_geqI (by rfl) _ _ _ rfl (-1) 0 false rfl rfl (decide_eq_false (by omega))) ?_
                                      simp only [Act.put, lzA, lzB, lzC]
                                      refine wl_yield (o := ⟨_, _, _, _, _, _⟩) (.bool false) (yl_pickT (by rfl) _ _ _ rfl rfl _ rfl) ?_
                                      simp only [Act.put, lzA, lzB, lzC]
                                      refine wl_yield (o := ⟨_, _, _, _, _, _⟩) (.bool false) (yl_assign (by rfl) _ rfl _ rfl) ?_
                                      simp only [Act.put, lzA, lzB, lzC]
                                      refine wpList_nil ?_
                                      refine hK17 _ _ ?_
                                      clear hK17 K17
                                      refine wp_seq_k (fun K18 hK18 => ?_)
                                      refine wp_region_lit ?_
                                      refine wl_yield (o := ⟨_, _, _, _, _, _⟩) (.bool false) (yl_move (by rfl) _ rfl _ rfl) ?_
                                      simp only [Act.put, lzA, lzB, lzC]
                                      refine wpList_nil ?_
                                      refine hK18 _ _ ?_
                                      clear hK18 K18
                                      refine wp_cond_false rfl ?_
                                      refine wp_skip ?_
                                      refine hK11 _ _ ?_
                                      clear hK11 K11
                                      refine wp_region_lit ?_
                                      refine wl_yield (o := ⟨_, _, _, _, _, _⟩) (.int .i64 (j + 1 : Nat)) (yt_addI (by rfl) _ _ _ rfl ((j : Nat) : Int) 1 ((j + 1 : Nat) : Int) rfl rfl (by omega) (by omega) (by omega)) ?_
                                      simp only [Act.put, lzA, lzB, lzC]
                                      refine wl_yield (o := ⟨_, _, _, _, _, _⟩) (.int .i64 (j + 1 : Nat)) (yl_move (by rfl) _ rfl _ rfl) ?_
                                      simp only [Act.put, lzA, lzB, lzC]
                                      refine wpList_nil ?_
                                      show _ ∧ _
                                      go_roundw
                                      case rel => exact ⟨j + 1, _, _, rfl, rfl, by omega, G1, G12, HE, OK.ok, D3, D, hfe9, fun h => by cases h⟩
                                      case measure => simp [intOf]; omega
                      · obtain rfl : j = 4 := by omega
                        refine wp_seq_k (fun K9 hK9 => ?_)
                        refine wp_region_lit ?_
                        refine wl_yield (o := ⟨_, _, _, _, _, _⟩) (.bool false) (yt_lssI (by rfl) _ _ _ rfl ((4 : Nat) : Int) 4 false rfl rfl (decide_eq_false (by omega))) ?_
                        simp only [Act.put, lzA, lzB, lzC]
                        refine wpList_nil ?_
                        refine hK9 _ _ ?_
                        clear hK9 K9
                        refine wp_seq_k (fun K10 hK10 => ?_)
                        refine wp_cond_false rfl ?_
                        refine wp_exit ?_
                        refine hK7 _ _ ?_
                        clear hK10 K10 hK7 K7
                        refine wp_seq_k (fun K11 hK11 => ?_)
                        cases ok9
                        · refine wp_region_late (S := fun w' => w'.heap[g1]? = some (.cells #[.int .i64 (e.v0.1), .int .i64 (e.v0.2.1), .string e.v0.2.2, .int .i64 (e.v1.1), .int .i64 (e.v1.2.1), .string e.v1.2.2, .int .i64 (e.v2.1), .int .i64 (e.v2.2.1), .string e.v2.2.2, .int .i64 (e.v3.1), .int .i64 (e.v3.2.1), .string e.v3.2.2] 26 (0, 0)) ∧ w'.heap[g12]? = some (.cells #[.int .i64 (e9.v0.1), .int .i64 (e9.v0.2.1), .string e9.v0.2.2, .int .i64 (e9.v1.1), .int .i64 (e9.v1.2.1), .string e9.v1.2.2, .int .i64 (e9.v2.1), .int .i64 (e9.v2.2.1), .string e9.v2.2.2, .int .i64 (e9.v3.1), .int .i64 (e9.v3.2.1), .string e9.v3.2.2] 26 (0, 0))) (late := fun j => [].contains j) (by kernel_rfl) ?_
                          have kb : Below wr.heap.size wr wr.drew := (Below.refl _ wr).drew
                          replace D := grown_below D kb
                          replace HE := HE.on kb
                          replace G1 := heap_on G1 kb
                          replace G12 := heap_on G12 kb
                          clear kb
                          generalize wr.drew = v14 at D HE G1 G12 ⊢
                          refine wpAnyL_pure (i := 0) (oi := ⟨_, _, _, _, _, _⟩) (v := .bool false) rfl (by kernel_rfl) (by kernel_rfl) (by kernel_rfl) (fun _ _ _ h => h) (yl_move (by rfl) _ rfl _ rfl) ?_
                          simp only [Act.put, lzA, lzB, lzC]
                          refine wpAnyL_pure (i := 1) (oi := ⟨_, _, _, _, _, _⟩) (v := .bool true) rfl (by kernel_rfl) (by kernel_rfl) (by kernel_rfl) (fun _ _ _ h => h) (yl_not (by rfl) _ _ rfl false rfl) ?_
                          simp only [Act.put, lzA, lzB, lzC]
                          refine wpAnyL_pure (i := 2) (oi := ⟨_, _, _, _, _, _⟩) (v := .bool true) rfl (by kernel_rfl) (by kernel_rfl) (by kernel_rfl) (fun _ _ _ h => h) (yl_move (by rfl) _ rfl _ rfl) ?_
                          simp only [Act.put, lzA, lzB, lzC]
                          refine wpAnyL_pure (i := 3) (oi := ⟨_, _, _, _, _, _⟩) (v := undef) rfl (by kernel_rfl) (by kernel_rfl) (by kernel_rfl) (fun _ _ _ h => h) (yl_undef (by rfl)) ?_
                          simp only [Act.put, lzA, lzB, lzC]
                          refine wpAnyL_load (i := 4) (oi := ⟨_, _, _, _, _, _⟩) (v := undef) rfl (by kernel_rfl) (by kernel_rfl) (by kernel_rfl) (by kernel_rfl) (fun _ _ _ h => h) (yl_undef (by rfl)) ⟨G1, G12⟩ ?_
                          simp only [Act.put, lzA, lzB, lzC]
                          refine wpAnyL_pure (i := 5) (oi := ⟨_, _, _, _, _, _⟩) (v := undef) rfl (by kernel_rfl) (by kernel_rfl) (by kernel_rfl) (fun _ _ _ h => h) (yl_undef (by rfl)) ?_
                          simp only [Act.put, lzA, lzB, lzC]
                          refine wpAnyL_pure (i := 6) (oi := ⟨_, _, _, _, _, _⟩) (v := undef) rfl (by kernel_rfl) (by kernel_rfl) (by kernel_rfl) (fun _ _ _ h => h) (yl_undef (by rfl)) ?_
                          simp only [Act.put, lzA, lzB, lzC]
                          refine wpAnyL_load (i := 7) (oi := ⟨_, _, _, _, _, _⟩) (v := undef) rfl (by kernel_rfl) (by kernel_rfl) (by kernel_rfl) (by kernel_rfl) (fun _ _ _ h => h) (yl_undef (by rfl)) ⟨G1, G12⟩ ?_
                          simp only [Act.put, lzA, lzB, lzC]
                          refine wpAnyL_pure (i := 8) (oi := ⟨_, _, _, _, _, _⟩) (v := undef) rfl (by kernel_rfl) (by kernel_rfl) (by kernel_rfl) (fun _ _ _ h => h) (yl_undef (by rfl)) ?_
                          simp only [Act.put, lzA, lzB, lzC]
                          refine wpAnyL_pure (i := 9) (oi := ⟨_, _, _, _, _, _⟩) (v := undef) rfl (by kernel_rfl) (by kernel_rfl) (by kernel_rfl) (fun _ _ _ h => h) (yl_undef (by rfl)) ?_
                          simp only [Act.put, lzA, lzB, lzC]
                          refine wpAnyL_pure (i := 10) (oi := ⟨_, _, _, _, _, _⟩) (v := .bool true) rfl (by kernel_rfl) (by kernel_rfl) (by kernel_rfl) (fun _ _ _ h => h) (yl_pickT (by rfl) _ _ _ rfl rfl _ rfl) ?_
                          simp only [Act.put, lzA, lzB, lzC]
                          refine wpAnyL_pure (i := 11) (oi := ⟨_, _, _, _, _, _⟩) (v := .bool true) rfl (by kernel_rfl) (by kernel_rfl) (by kernel_rfl) (fun _ _ _ h => h) (yl_assign (by rfl) _ rfl _ rfl) ?_
                          simp only [Act.put, lzA, lzB, lzC]
                          refine wpAnyL_done (by kernel_rfl) ?_ _
                          refine hK11 _ _ ?_
                          clear hK11 K11
                          refine wp_ret ?_
                          try simp only [Exit.inBlock, Exit.then]
                          go_ret
                          exact ⟨rfl, below_none D⟩
                        · have hhc : hasL l0 e = hasL l0 e9 := has_cells (all := (l0 ++ l1)) (fun b hb => List.mem_append_left _ hb) (fun b hb i hi => rightF_set hrt0 hb hi) hil (hinc rfl)
                          cases hh9 : hasL l0 e9
                          · refine wp_region_late (S := fun w' => w'.heap[g1]? = some (.cells #[.int .i64 (e.v0.1), .int .i64 (e.v0.2.1), .string e.v0.2.2, .int .i64 (e.v1.1), .int .i64 (e.v1.2.1), .string e.v1.2.2, .int .i64 (e.v2.1), .int .i64 (e.v2.2.1), .string e.v2.2.2, .int .i64 (e.v3.1), .int .i64 (e.v3.2.1), .string e.v3.2.2] 26 (0, 0)) ∧ w'.heap[g12]? = some (.cells #[.int .i64 (e9.v0.1), .int .i64 (e9.v0.2.1), .string e9.v0.2.2, .int .i64 (e9.v1.1), .int .i64 (e9.v1.2.1), .string e9.v1.2.2, .int .i64 (e9.v2.1), .int .i64 (e9.v2.2.1), .string e9.v2.2.2, .int .i64 (e9.v3.1), .int .i64 (e9.v3.2.1), .string e9.v3.2.2] 26 (0, 0))) (late := fun j => [].contains j) (by kernel_rfl) ?_
                            have kb : Below wr.heap.size wr wr.drew := (Below.refl _ wr).drew
                            replace D := grown_below D kb
                            replace HE := HE.on kb
                            replace G1 := heap_on G1 kb
                            replace G12 := heap_on G12 kb
                            clear kb
                            generalize wr.drew = v14 at D HE G1 G12 ⊢
                            refine wpAnyL_pure (i := 0) (oi := ⟨_, _, _, _, _, _⟩) (v := .bool true) rfl (by kernel_rfl) (by kernel_rfl) (by kernel_rfl) (fun _ _ _ h => h) (yl_move (by rfl) _ rfl _ rfl) ?_
                            simp only [Act.put, lzA, lzB, lzC]
                            refine wpAnyL_pure (i := 1) (oi := ⟨_, _, _, _, _, _⟩) (v := .bool false) rfl (by kernel_rfl) (by kernel_rfl) (by kernel_rfl) (fun _ _ _ h => h) (yl_not (by rfl) _ _ rfl true rfl) ?_
                            simp only [Act.put, lzA, lzB, lzC]
                            refine wpAnyL_pure (i := 2) (oi := ⟨_, _, _, _, _, _⟩) (v := .bool false) rfl (by kernel_rfl) (by kernel_rfl) (by kernel_rfl) (fun _ _ _ h => h) (yl_move (by rfl) _ rfl _ rfl) ?_
                            simp only [Act.put, lzA, lzB, lzC]
                            refine wpAnyL_pure (i := 3) (oi := ⟨_, _, _, _, _, _⟩) (v := .slice a0 l0.length cap0) rfl (by kernel_rfl) (by kernel_rfl) (by kernel_rfl) (fun _ _ _ h => h) (yl_move (by rfl) _ rfl _ rfl) ?_
                            simp only [Act.put, lzA, lzB, lzC]
                            refine wpAnyL_load (i := 4) (oi := ⟨_, _, _, _, _, _⟩) (v := evVal e) rfl (by kernel_rfl) (by kernel_rfl) (by kernel_rfl) (by kernel_rfl) (fun _ _ _ h => h) (yl_ev (by rfl) _ rfl _ 0 rfl _ _ _ _ _ _ _ _ _ _ _ _ (fun _ h => ⟨cell_heap h.1 0, cell_heap h.1 1, cell_heap h.1 2, cell_heap h.1 3, cell_heap h.1 4, cell_heap h.1 5, cell_heap h.1 6, cell_heap h.1 7, cell_heap h.1 8, cell_heap h.1 9, cell_heap h.1 10, cell_heap h.1 11⟩)) ⟨G1, G12⟩ ?_
                            simp only [Act.put, lzA, lzB, lzC]
                            refine wpAnyL_pure (i := 6) (oi := ⟨_, _, _, _, _, _⟩) (v := .slice a0 l0.length cap0) rfl (by kernel_rfl) (by kernel_rfl) (by kernel_rfl) (fun _ _ _ h => h) (yl_move (by rfl) _ rfl _ rfl) ?_
                            simp only [Act.put, lzA, lzB, lzC]
                            refine wpAnyL_load (i := 7) (oi := ⟨_, _, _, _, _, _⟩) (v := evVal e9) rfl (by kernel_rfl) (by kernel_rfl) (by kernel_rfl) (by kernel_rfl) (fun _ _ _ h => h) (yl_ev (by rfl) _ rfl _ 0 rfl _ _ _ _ _ _ _ _ _ _ _ _ (fun _ h => ⟨cell_heap h.2 0, cell_heap h.2 1, cell_heap h.2 2, cell_heap h.2 3, cell_heap h.2 4, cell_heap h.2 5, cell_heap h.2 6, cell_heap h.2 7, cell_heap h.2 8, cell_heap h.2 9, cell_heap h.2 10, cell_heap h.2 11⟩)) ⟨G1, G12⟩ ?_
                            simp only [Act.put, lzA, lzB, lzC]
                            refine wpAnyL_all (rs := [5]) (by kernel_rfl) (by simp) ?_
                            intro j hj
                            have hj := List.mem_singleton.1 hj
                            subst hj
                            refine ot_call (o := ⟨_, _, _, _, _, _⟩) rfl (by rfl) 16 _ _ rfl #[.slice a0 l0.length cap0, evVal e] rfl (run_call Tryz.func16 (by kernel_rfl) (by kernel_rfl)) ?_
                            refine (refHas6_any _ l0 e _ (hv0.on (below_none D)) hfe).mono ?_
                            rintro r v15 (⟨rfl, kb⟩)
                            replace D := grown_below D kb
                            replace HE := HE.on kb
                            replace G1 := heap_on G1 kb
                            replace G12 := heap_on G12 kb
                            clear kb
                            refine Or.inl ⟨.bool false, ret_bool (hhc.trans hh9), ⟨fun _ _ => ⟨G1, G12⟩, ?_⟩⟩
                            simp only [Act.put, lzA, lzB, lzC]
                            refine wpAnyL_all (rs := [8]) (by kernel_rfl) (by simp) ?_
                            intro j hj
                            have hj := List.mem_singleton.1 hj
                            subst hj
                            refine ot_call (o := ⟨_, _, _, _, _, _⟩) rfl (by rfl) 16 _ _ rfl #[.slice a0 l0.length cap0, evVal e9] rfl (run_call Tryz.func16 (by kernel_rfl) (by kernel_rfl)) ?_
                            refine (refHas6_any _ l0 e9 _ (hv0.on (below_none D)) hfe9).mono ?_
                            rintro r v16 (⟨rfl, kb⟩)
                            replace D := grown_below D kb
                            replace HE := HE.on kb
                            replace G1 := heap_on G1 kb
                            replace G12 := heap_on G12 kb
                            clear kb
                            refine Or.inl ⟨.bool false, ret_bool hh9, ⟨fun _ _ => ⟨G1, G12⟩, ?_⟩⟩
                            simp only [Act.put, lzA, lzB, lzC]
                            refine wpAnyL_pure (i := 9) (oi := ⟨_, _, _, _, _, _⟩) (v := .bool true) rfl (by kernel_rfl) (by kernel_rfl) (by kernel_rfl) (fun _ _ _ h => h) (yl_eqB (by rfl) _ _ _ rfl false false rfl rfl) ?_
                            simp only [Act.put, lzA, lzB, lzC]
                            refine wpAnyL_pure (i := 10) (oi := ⟨_, _, _, _, _, _⟩) (v := .bool true) rfl (by kernel_rfl) (by kernel_rfl) (by kernel_rfl) (fun _ _ _ h => h) (yl_pickF (by rfl) _ _ _ rfl rfl _ rfl) ?_
                            simp only [Act.put, lzA, lzB, lzC]
                            refine wpAnyL_pure (i := 11) (oi := ⟨_, _, _, _, _, _⟩) (v := .bool true) rfl (by kernel_rfl) (by kernel_rfl) (by kernel_rfl) (fun _ _ _ h => h) (yl_assign (by rfl) _ rfl _ rfl) ?_
                            simp only [Act.put, lzA, lzB, lzC]
                            refine wpAnyL_done (by kernel_rfl) ?_ _
                            refine hK11 _ _ ?_
                            clear hK11 K11
                            refine wp_ret ?_
                            try simp only [Exit.inBlock, Exit.then]
                            go_ret
                            exact ⟨rfl, below_none D⟩
                          · refine wp_region_late (S := fun w' => w'.heap[g1]? = some (.cells #[.int .i64 (e.v0.1), .int .i64 (e.v0.2.1), .string e.v0.2.2, .int .i64 (e.v1.1), .int .i64 (e.v1.2.1), .string e.v1.2.2, .int .i64 (e.v2.1), .int .i64 (e.v2.2.1), .string e.v2.2.2, .int .i64 (e.v3.1), .int .i64 (e.v3.2.1), .string e.v3.2.2] 26 (0, 0)) ∧ w'.heap[g12]? = some (.cells #[.int .i64 (e9.v0.1), .int .i64 (e9.v0.2.1), .string e9.v0.2.2, .int .i64 (e9.v1.1), .int .i64 (e9.v1.2.1), .string e9.v1.2.2, .int .i64 (e9.v2.1), .int .i64 (e9.v2.2.1), .string e9.v2.2.2, .int .i64 (e9.v3.1), .int .i64 (e9.v3.2.1), .string e9.v3.2.2] 26 (0, 0))) (late := fun j => [].contains j) (by kernel_rfl) ?_
                            have kb : Below wr.heap.size wr wr.drew := (Below.refl _ wr).drew
                            replace D := grown_below D kb
                            replace HE := HE.on kb
                            replace G1 := heap_on G1 kb
                            replace G12 := heap_on G12 kb
                            clear kb
                            generalize wr.drew = v14 at D HE G1 G12 ⊢
                            refine wpAnyL_pure (i := 0) (oi := ⟨_, _, _, _, _, _⟩) (v := .bool true) rfl (by kernel_rfl) (by kernel_rfl) (by kernel_rfl) (fun _ _ _ h => h) (yl_move (by rfl) _ rfl _ rfl) ?_
                            simp only [Act.put, lzA, lzB, lzC]
                            refine wpAnyL_pure (i := 1) (oi := ⟨_, _, _, _, _, _⟩) (v := .bool false) rfl (by kernel_rfl) (by kernel_rfl) (by kernel_rfl) (fun _ _ _ h => h) (yl_not (by rfl) _ _ rfl true rfl) ?_
                            simp only [Act.put, lzA, lzB, lzC]
                            refine wpAnyL_pure (i := 2) (oi := ⟨_, _, _, _, _, _⟩) (v := .bool false) rfl (by kernel_rfl) (by kernel_rfl) (by kernel_rfl) (fun _ _ _ h => h) (yl_move (by rfl) _ rfl _ rfl) ?_
                            simp only [Act.put, lzA, lzB, lzC]
                            refine wpAnyL_pure (i := 3) (oi := ⟨_, _, _, _, _, _⟩) (v := .slice a0 l0.length cap0) rfl (by kernel_rfl) (by kernel_rfl) (by kernel_rfl) (fun _ _ _ h => h) (yl_move (by rfl) _ rfl _ rfl) ?_
                            simp only [Act.put, lzA, lzB, lzC]
                            refine wpAnyL_load (i := 4) (oi := ⟨_, _, _, _, _, _⟩) (v := evVal e) rfl (by kernel_rfl) (by kernel_rfl) (by kernel_rfl) (by kernel_rfl) (fun _ _ _ h => h) (yl_ev (by rfl) _ rfl _ 0 rfl _ _ _ _ _ _ _ _ _ _ _ _ (fun _ h => ⟨cell_heap h.1 0, cell_heap h.1 1, cell_heap h.1 2, cell_heap h.1 3, cell_heap h.1 4, cell_heap h.1 5, cell_heap h.1 6, cell_heap h.1 7, cell_heap h.1 8, cell_heap h.1 9, cell_heap h.1 10, cell_heap h.1 11⟩)) ⟨G1, G12⟩ ?_
                            simp only [Act.put, lzA, lzB, lzC]
                            refine wpAnyL_pure (i := 6) (oi := ⟨_, _, _, _, _, _⟩) (v := .slice a0 l0.length cap0) rfl (by kernel_rfl) (by kernel_rfl) (by kernel_rfl) (fun _ _ _ h => h) (yl_move (by rfl) _ rfl _ rfl) ?_
                            simp only [Act.put, lzA, lzB, lzC]
                            refine wpAnyL_load (i := 7) (oi := ⟨_, _, _, _, _, _⟩) (v := evVal e9) rfl (by kernel_rfl) (by kernel_rfl) (by kernel_rfl) (by kernel_rfl) (fun _ _ _ h => h) (yl_ev (by rfl) _ rfl _ 0 rfl _ _ _ _ _ _ _ _ _ _ _ _ (fun _ h => ⟨cell_heap h.2 0, cell_heap h.2 1, cell_heap h.2 2, cell_heap h.2 3, cell_heap h.2 4, cell_heap h.2 5, cell_heap h.2 6, cell_heap h.2 7, cell_heap h.2 8, cell_heap h.2 9, cell_heap h.2 10, cell_heap h.2 11⟩)) ⟨G1, G12⟩ ?_
                            simp only [Act.put, lzA, lzB, lzC]
                            refine wpAnyL_all (rs := [5]) (by kernel_rfl) (by simp) ?_
                            intro j hj
                            have hj := List.mem_singleton.1 hj
                            subst hj
                            refine ot_call (o := ⟨_, _, _, _, _, _⟩) rfl (by rfl) 16 _ _ rfl #[.slice a0 l0.length cap0, evVal e] rfl (run_call Tryz.func16 (by kernel_rfl) (by kernel_rfl)) ?_
                            refine (refHas6_any _ l0 e _ (hv0.on (below_none D)) hfe).mono ?_
                            rintro r v15 (⟨rfl, kb⟩)
                            replace D := grown_below D kb
                            replace HE := HE.on kb
                            replace G1 := heap_on G1 kb
                            replace G12 := heap_on G12 kb
                            clear kb
                            refine Or.inl ⟨.bool true, ret_bool (hhc.trans hh9), ⟨fun _ _ => ⟨G1, G12⟩, ?_⟩⟩
                            simp only [Act.put, lzA, lzB, lzC]
                            refine wpAnyL_all (rs := [8]) (by kernel_rfl) (by simp) ?_
                            intro j hj
                            have hj := List.mem_singleton.1 hj
                            subst hj
                            refine ot_call (o := ⟨_, _, _, _, _, _⟩) rfl (by rfl) 16 _ _ rfl #[.slice a0 l0.length cap0, evVal e9] rfl (run_call Tryz.func16 (by kernel_rfl) (by kernel_rfl)) ?_
                            refine (refHas6_any _ l0 e9 _ (hv0.on (below_none D)) hfe9).mono ?_
                            rintro r v16 (⟨rfl, kb⟩)
                            replace D := grown_below D kb
                            replace HE := HE.on kb
                            replace G1 := heap_on G1 kb
                            replace G12 := heap_on G12 kb
                            clear kb
                            refine Or.inl ⟨.bool true, ret_bool hh9, ⟨fun _ _ => ⟨G1, G12⟩, ?_⟩⟩
                            simp only [Act.put, lzA, lzB, lzC]
                            refine wpAnyL_pure (i := 9) (oi := ⟨_, _, _, _, _, _⟩) (v := .bool true) rfl (by kernel_rfl) (by kernel_rfl) (by kernel_rfl) (fun _ _ _ h => h) (yl_eqB (by rfl) _ _ _ rfl true true rfl rfl) ?_
                            simp only [Act.put, lzA, lzB, lzC]
                            refine wpAnyL_pure (i := 10) (oi := ⟨_, _, _, _, _, _⟩) (v := .bool true) rfl (by kernel_rfl) (by kernel_rfl) (by kernel_rfl) (fun _ _ _ h => h) (yl_pickF (by rfl) _ _ _ rfl rfl _ rfl) ?_
                            simp only [Act.put, lzA, lzB, lzC]
                            refine wpAnyL_pure (i := 11) (oi := ⟨_, _, _, _, _, _⟩) (v := .bool true) rfl (by kernel_rfl) (by kernel_rfl) (by kernel_rfl) (fun _ _ _ h => h) (yl_assign (by rfl) _ rfl _ rfl) ?_
                            simp only [Act.put, lzA, lzB, lzC]
                            refine wpAnyL_done (by kernel_rfl) ?_ _
                            refine hK11 _ _ ?_
                            clear hK11 K11
                            refine wp_ret ?_
                            try simp only [Exit.inBlock, Exit.then]
                            go_ret
                            exact ⟨rfl, below_none D⟩
end Go.Proofs.YtbaijjclofekcaaGreatDoor
namespace Go.Proofs.YtbaijjclofekcaaGreatDoor
open Go.ChangeShapes Go.WideShapes Go.ChangeAt Go.WideMaps Go.WideElems Go.RowKit Go.Joins
theorem own : ownKnob Tryz.prog.godebug = none := by kernel_rfl
theorem gPowType : (Tryz.prog.globals[0]?).map (·.type) = some 175 := by kernel_rfl
def d64 : List Int := [0, 1, 56, 2, 57, 49, 28, 3, 61, 58, 42, 50, 38, 29, 17, 4, 62, 47, 59, 36, 45, 43, 51, 22, 53, 39, 33, 30, 24, 18, 12, 5, 63, 55, 48, 27, 60, 41, 37, 16, 46, 35, 44, 21, 52, 32, 23, 11, 54, 26, 40, 15, 34, 20, 31, 10, 25, 14, 19, 9, 13, 8, 7, 6]
theorem gD64 : Tryz.prog.globalNamed "math/bits.deBruijn64tab" = some 2 := by kernel_rfl
theorem gD64Type : (Tryz.prog.globals[2]?).map (·.type) = some 190 := by kernel_rfl
theorem cellsU8 : Tryz.prog.cellsOf 5 = 1 := by kernel_rfl
theorem cellsD64 : Tryz.prog.cellsOf 190 = 64 := by kernel_rfl
theorem cellsPow : Tryz.prog.cellsOf 175 = 20 := by kernel_rfl
theorem cellsU64 : Tryz.prog.cellsOf 107 = 1 := by kernel_rfl
abbrev laid5 : List (String × DataW Unit) := [("math/bits.deBruijn32tab", Rows.laid_math_bits_deBruijn32tab), ("math/bits.deBruijn64tab", Rows.laid_math_bits_deBruijn64tab), ("internal/strconv.uint64pow10", Rows.laid_internal_strconv_uint64pow10)]
theorem env_of_laid {W : World} (h : laidMetH Tryz.prog laid5 W) : Env W := by
  rw [MakeChecks.laidMetH_plain _ _ _ (by kernel_rfl)] at h
  have hp : Lib.TabIs Tryz.prog W "internal/strconv.uint64pow10" .u64 Lib.pow10Tab := Lib.tabIs_of_head gPow gPowType Tryz.underlying175 Tryz.underlying107 cellsU64 cellsPow (show laidMet Tryz.prog (("internal/strconv.uint64pow10", Lib.tabData .u64 Lib.pow10Tab) :: _) W from h.tail.tail)
  have big : 2 ≤ W.heap.size := by
    rcases Nat.lt_or_ge 1 W.heap.size with h' | h'
    · exact h'
    · exfalso
      have hq : Lib.TabIs Tryz.prog W "math/bits.deBruijn64tab" .u8 d64 := Lib.tabIs_of_head gD64 gD64Type Tryz.underlying190 Tryz.underlying5 cellsU8 cellsD64 (show laidMet Tryz.prog (("math/bits.deBruijn64tab", Lib.tabData .u8 d64) :: _) W from h.tail)
      have k1 := hp.cell gPow 0 (by decide)
      have k2 := hq.cell gD64 0 (by decide)
      have e : ∀ {g : Nat} {x : Value}, W.cell? ⟨g, 0, none⟩ = some x → g < W.heap.size := fun {g x} hc => by
        rcases Nat.lt_or_ge g W.heap.size with q | q
        · exact q
        · unfold World.cell? at hc
          rw [Array.getElem?_eq_none q] at hc
          cases hc
      first | (have := e k1; omega) | (have := e k2; omega)
  exact ⟨big, hp⟩
theorem door_met (os : Os) (args : Array Value) : laidMetH Tryz.prog laid5 ((World.doorLaid Tryz.prog 400 os).forCall (fun _ _ => 0) ⟨#[], args, []⟩).memory :=
  laidMetH_of_parts3 (fuel := 8) (laidMet_of_run' 8 (by kernel_rfl) (by kernel_rfl)) (by kernel_rfl) (by kernel_rfl)
end Go.Proofs.YtbaijjclofekcaaGreatDoor
namespace Go.Proofs.YtbaijjclofekcaaGreatDoor
open Go.ChangeShapes Go.WideShapes Go.ChangeAt Go.WideMaps Go.WideElems Go.RowKit Go.Joins
open Go.ChangeMaps (open_string shut_string)
theorem cellsGrid_laid : laidOutB Tryz.prog = true := by kernel_rfl
set_option maxRecDepth 100000 in
set_option maxHeartbeats 1000000 in
theorem cellsGrid_lifted (os : Os) (started : os.Started) (H : Type) (enc : TypeId × Value → H) :
    ReturnsInHanded {} Tryz.checked os 3 .any (fun w args => (Rows.cellsGridSpec.pre enc Tryz.prog Tryz.f3 [] false w args ∧ laidMetH Tryz.prog laid5 w) ∧ sizedMet enc Tryz.prog Tryz.f3 (OpenSpec.ofChange Rows.cellsGridSpec) false w args)
      (Rows.cellsGridSpec.post enc Tryz.prog Tryz.f3 false true false false) := by
  refine returnsInHanded_of_change_and (C := Tryz.checked) (X := fun w _ => laidMetH Tryz.prog laid5 w) (fun _ _ _ hh h => h.of_heap hh) own started (by kernel_rfl) Tryz.func3
    (ChangeSpec.witness_shaped (enc := enc) (C := Tryz.checked) (os := os) (X := fun w _ => laidMetH Tryz.prog laid5 w) false (World.doorLaid Tryz.prog 400 os) #[.slice none 0 0, .slice none 0 0, .agg #[.int .i64 0, .int .i64 0, .string ⟨#[]⟩, .int .i64 0, .int .i64 0, .string ⟨#[]⟩, .int .i64 0, .int .i64 0, .string ⟨#[]⟩, .int .i64 0, .int .i64 0, .string ⟨#[]⟩]] 8 rfl (World.shaped_of_RefB (by kernel_rfl) (by kernel_rfl)) (by kernel_rfl) (by kernel_rfl) (by kernel_rfl) (door_met os _)) ?_
  intro W base args ds gs before hval0 hW _ _ hL _
  have hval : ∀ (j : Nat) t v, Tryz.f3.params[j]? = some t → args[j]? = some v → Value.okWide Tryz.prog W .any base t v := hval0
  have hW' := hW
  obtain ⟨p, q, hA0, hV, rfl, hfz, hnd⟩ := hW
  have hA : DataW.TrodAll enc Tryz.prog W 0 (fun _ => true) true Tryz.f3.params.toList args.toList ds p := hA0
  rw [Tryz.params3] at hA hval
  obtain ⟨v0, v1, v2, d0, d1, d2, p0, p1, p2, rfl, rfl, rfl, h0, h1, h2⟩ := trodAll_three hA
  obtain ⟨rfl, rfl⟩ := trodVars_none hV
  have hlt0 : ∀ x ∈ p0, x.block < W.heap.size := fun x hx => hW'.lt x (by simp [hx])
  obtain ⟨A0, o0, q0⟩ := open_boxesA (hval 0 22 v0 rfl rfl) h0
  have hlt1 : ∀ x ∈ p1, x.block < W.heap.size := fun x hx => hW'.lt x (by simp [hx])
  obtain ⟨A1, o1, q1⟩ := open_boxesA (hval 1 22 v1 rfl rfl) h1
  have hlt2 : ∀ x ∈ p2, x.block < W.heap.size := fun x hx => hW'.lt x (by simp [hx])
  obtain ⟨A2, rfl, f2, n2⟩ := open_evA (hval 2 26 v2 rfl rfl) h2
  clear hA0 hval0
  have hE := env_of_laid hL
  refine (cellsGrid_law v0 v1 A0 A1 A2 W hE o0 q0 o1 q1 f2).mono fun e W' ⟨he, hb⟩ => ?_
  subst he
  simp only [List.append_nil, List.nil_append] at hW'
  refine ⟨_, rfl, _, _, _, [], (p0 ++ (p1 ++ p2)), [], hW', ?_, ?_, rfl, hb.frame _, fun h => by cases h⟩
  · exact trodAll_mk1 (shut_bool Tryz.underlying4 _)
  · exact trodAll_mk3 (Below.trod cellsGrid_laid (by kernel_rfl) (of_decide_eq_true (by kernel_rfl)) h0 hb hlt0) (Below.trod cellsGrid_laid (by kernel_rfl) (of_decide_eq_true (by kernel_rfl)) h1 hb hlt1) (Below.trod cellsGrid_laid (by kernel_rfl) (of_decide_eq_true (by kernel_rfl)) h2 hb hlt2)
end Go.Proofs.YtbaijjclofekcaaGreatDoor
namespace Go.Proofs.YtbaijjclofekcaaGreatDoor
open Go
theorem and2 {a b : Bool} (h : a = true) (k : b = true) : (a && b) = true := by rw [h, k]; rfl
theorem sp_laid : laidOutB Tryz.pinned.checked.prog = true := by kernel_rfl
theorem sp_maps : mapsRowed Tryz.pinned.checked.prog = true := by kernel_rfl
theorem sp_stops : (Tryz.pinned.checked.prog.stops == []) = true := by kernel_rfl
theorem sp_knobs : (Tryz.pinned.checked.prog.stopKnobs == []) = true := by kernel_rfl
theorem sp_plain : (Rows.cellsGridRow.plainKeys == Tryz.pinned.checked.prog.plainKeys) = true := by kernel_rfl
theorem sp_heard : Tryz.pinned.checked.prog.stopsHeard = true := by kernel_rfl
theorem sp_enter : Tryz.pinned.checked.prog.mayEnter = true := by kernel_rfl
theorem sp_lift : (Rows.cellsGridRow.lifted == Tryz.pinned.checked.prog.liftsFinal) = true := by kernel_rfl
theorem sp_make : (Tryz.pinned.checked.prog.make == some Rows.cellsGridRow.make) = true := by kernel_rfl
end Go.Proofs.YtbaijjclofekcaaGreatDoor
namespace Go.Proofs.YtbaijjclofekcaaGreatDoor
open Go.ChangeShapes Go.WideShapes Go.ChangeAt Go.WideMaps Go.WideElems Go.RowKit Go.Joins
open Go.ChangeMaps (open_string shut_string)
theorem cellsGrid_ip : (Rows.cellsGridRow.inPlace == Tryz.pinned.checked.prog.inPlace 3) = true := by kernel_rfl
theorem cellsGrid_uf : (Rows.cellsGridRow.unfollowed == Tryz.pinned.checked.prog.unfollowed 3) = true := by kernel_rfl
theorem cellsGrid_rc : (Rows.cellsGridRow.recurses == Tryz.pinned.checked.prog.recurses 3) = true := by kernel_rfl
theorem cellsGrid_nm : (Rows.cellsGridRow.named == Tryz.pinned.checked.prog.varsNamed 3) = true := by kernel_rfl
theorem cellsGrid_nt : (namedTie Tryz.pinned.checked.prog Rows.cellsGridRow.named Rows.cellsGridSpec.vars) = true := by kernel_rfl
theorem cellsGrid_closed : joinedFacts Tryz.pinned.checked.prog 3 Tryz.f3 Rows.cellsGridSpec Rows.cellsGridRow = true := by
  unfold joinedFacts
  exact (and2 (and2 (and2 (and2 (and2 (and2 (and2 (and2 (and2 (and2 (and2 (and2 (and2 (and2 (and2 (and2 (and2 (and2 (and2 (and2 (and2 (and2 (and2 (and2 (and2 (and2 (and2 (and2 (and2 (and2 (and2 (by kernel_rfl) sp_laid) sp_maps) (by kernel_rfl)) cellsGrid_nt) (by kernel_rfl)) sp_stops) (by kernel_rfl)) sp_knobs) cellsGrid_ip) cellsGrid_uf) cellsGrid_rc) cellsGrid_nm) (by kernel_rfl)) (by kernel_rfl)) (by kernel_rfl)) (by kernel_rfl)) (by kernel_rfl)) (by kernel_rfl)) (by kernel_rfl)) (by kernel_rfl)) (by kernel_rfl)) sp_plain) (by kernel_rfl)) sp_heard) sp_enter) sp_lift) sp_make) (by kernel_rfl)) (by kernel_rfl)) (by kernel_rfl)) (by kernel_rfl))
theorem cellsGrid_said : Rows.CellsGridSaid :=
  OpenClaim.holds_of_wide 3 Tryz.f3 rfl rfl rfl rfl rfl rfl rfl ⟨rfl, rfl, rfl, rfl, rfl⟩ rfl rfl rfl rfl rfl (by kernel_rfl) Tryz.func3 cellsGrid_closed
    (of_decide_eq_true (by kernel_rfl)) (by unfold Func.isWrapper; first | (rw [if_pos (by decide +kernel)]; kernel_rfl) | (rw [if_neg (by decide +kernel)]; exact ⟨rfl, rfl⟩))
    (fun os started H enc _ => cellsGrid_lifted os started H enc)
end Go.Proofs.YtbaijjclofekcaaGreatDoor
namespace Go.Proofs.YtbaijjclofekcaaGreatDoor
open Go.ChangeShapes Go.WideShapes Go.ChangeAt Go.WideMaps Go.WideElems Go.RowKit Go.Joins
open Go.ChangeMaps (open_string shut_string)
theorem cellsGrid_plain (f : FuncId) (fn : Func) (hf : Tryz.pinned.checked.prog.funcNamed "arbour/arbourlaw09.CellsGrid" = some f) (hfn : Tryz.pinned.checked.prog.funcs[f]? = some fn) :
    false = Tryz.pinned.checked.prog.looks [] ∧ ∀ (j : Nat) t, fn.params[j]? = some t → Tryz.pinned.checked.prog.wantsStandIn t = false := by
  obtain rfl : f = 3 := Option.some.inj ((show Tryz.prog.funcNamed "arbour/arbourlaw09.CellsGrid" = some 3 by kernel_rfl).symm.trans hf) |>.symm
  obtain rfl : fn = Tryz.f3 := (Option.some.inj (Tryz.func3.symm.trans hfn)).symm
  refine ⟨by kernel_rfl, fun j t ht => ?_⟩
  rw [Tryz.params3] at ht
  have hm : t ∈ [22, 22, 26] := by simpa using Array.mem_of_getElem? ht
  have hall : ([22, 22, 26].all fun u => !Tryz.prog.wantsStandIn u) = true := by kernel_rfl
  exact (show Tryz.prog.wantsStandIn t = false by simpa using List.all_eq_true.1 hall t (by simpa using hm))
end Go.Proofs.YtbaijjclofekcaaGreatDoor
namespace Go.Proofs.YtbaijjclofekcaaGreatDoor
open Go.ChangeShapes Go.WideShapes Go.ChangeAt Go.WideMaps Go.WideElems Go.RowKit Go.Joins
open Go.ChangeMaps (open_string shut_string)
theorem cellsGrid_goes : false = Rows.cellsGridRow.goesBy Tryz.pinned.checked.prog := by kernel_rfl
theorem cellsGrid_wft : Rows.cellsGridRow.wfByText (OpenSpec.ofChange Rows.cellsGridSpec) = true := by kernel_rfl
end Go.Proofs.YtbaijjclofekcaaGreatDoor
