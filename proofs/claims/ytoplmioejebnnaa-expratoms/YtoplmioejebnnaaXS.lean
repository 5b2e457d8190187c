/-
  The walk of the law ExprAtoms.
-/
import Derived.Test.YtoplmioejebnnaaXR
set_option linter.unusedSimpArgs false
set_option linter.unusedVariables false
namespace Go.Proofs.Ytoplmioejebnnaa
open Go.RowKit

theorem c_atom {attr : Int} (a0 : -9223372036854775808 ≤ attr) (a1 : attr ≤ 9223372036854775807) {s : SC} {S : SetV} {w : World} (hv : SetAt w s.val S) (h1 : S.ints.length * 16 ≤ 140737488355328) (h2 : S.strs.length * 16 ≤ 140737488355328) : Calls Try.prog 26 #[.int .i64 attr, s.val] w fun r w' => (∃ d : EC, r = .returned d.val ∧ Xp 1 w' d (atomX attr S)) ∧ Below w.heap.size w w' := progAtom_any attr a0 a1 s S w hv h1 h2
set_option maxHeartbeats 8000000 in
set_option maxRecDepth 100000 in
theorem exprAtoms_walk (attr : Int) (a0 : -9223372036854775808 ≤ attr) (a1 : attr ≤ 9223372036854775807) (s : SC) (S : SetV) (e : EvV) (w : World) (HS : SetAt w s.val S) (h1 : S.ints.length * 16 ≤ 140737488355328) (h2 : S.strs.length * 16 ≤ 140737488355328) (hf : evFit e) :
    Calls Try.prog 8 #[.int .i64 attr, s.val, evVal e] w fun r w' => r = .returned (.bool true) ∧ Below w.heap.size w w' := by
  have D := Below.refl w.heap.size w
  go_enter Try.func8, Try.ntmps8
  refine wp_seq_k (fun K1 hK1 => ?_)
  refine wp_region_lit ?_
  refine wl_stBox (o := ⟨_, _, _, _, _, _⟩) (by rfl) _ rfl rfl (fun v1 gb1 IS kb => ?_)
  simp only [Act.put, List.setIfInBounds_toArray, List.set_cons_zero, List.set_cons_succ]
  replace D := D.trans (kb.mono D.size)
  replace HS := HS.on kb
  clear kb
  refine wl_evBox (o := ⟨_, _, _, _, _, _⟩) (by rfl) _ rfl rfl (fun v2 gb2 IE kb => ?_)
  simp only [Act.put, List.setIfInBounds_toArray, List.set_cons_zero, List.set_cons_succ]
  replace D := D.trans (kb.mono D.size)
  replace HS := HS.on kb
  replace IS := IS.on kb
  clear kb
  refine wl_yield (o := ⟨_, _, _, _, _, _⟩) (.bool false) (yl_assign (by rfl) _ rfl _ rfl) ?_
  simp only [Act.put, List.setIfInBounds_toArray, List.set_cons_zero, List.set_cons_succ]
  refine wpList_nil ?_
  refine hK1 _ _ ?_
  clear hK1 K1
  refine wp_seq_k (fun K2 hK2 => ?_)
  refine wp_region_lit ?_
  refine wl_yield (o := ⟨_, _, _, _, _, _⟩) (.int .i64 attr) (yl_move (by rfl) _ rfl _ rfl) ?_
  simp only [Act.put, List.setIfInBounds_toArray, List.set_cons_zero, List.set_cons_succ]
  refine wl_yield (o := ⟨_, _, _, _, _, _⟩) (SC.val s) (yl_set (by rfl) _ rfl _ 0 rfl _ _ _ _ (fun _ h => by subst h; exact stCells IS)) ?_
  simp only [Act.put, List.setIfInBounds_toArray, List.set_cons_zero, List.set_cons_succ]
  refine wl_call (o := ⟨_, _, _, _, _, _⟩) (by rfl) 26 _ _ rfl #[.int .i64 attr, SC.val s] rfl (run_call Try.func26 (by kernel_rfl) (by kernel_rfl)) ?_
  refine (c_atom a0 a1 HS h1 h2).mono ?_
  rintro r v3 ⟨⟨x, rfl, HX⟩, kb⟩
  replace D := D.trans (kb.mono D.size)
  replace HS := HS.on kb
  replace IS := IS.on kb
  replace IE := IE.on kb
  clear kb
  refine ⟨EC.val x, rfl, ?_⟩
  simp only [Act.put, List.setIfInBounds_toArray, List.set_cons_zero, List.set_cons_succ]
  refine wl_newEx (o := ⟨_, _, _, _, _, _⟩) (o2 := ⟨_, _, _, _, _, _⟩) (by rfl) rfl _ _ rfl rfl (fun _ => rfl) (fun _ => rfl) (fun v4 gb4 IX kb => ?_)
  simp only [Act.put, List.setIfInBounds_toArray, List.set_cons_zero, List.set_cons_succ]
  replace D := D.trans (kb.mono D.size)
  replace HS := HS.on kb
  replace IS := IS.on kb
  replace IE := IE.on kb
  replace HX := HX.on kb
  clear kb
  refine wpList_nil ?_
  refine hK2 _ _ ?_
  clear hK2 K2
  refine wp_seq_k (fun K3 hK3 => ?_)
  refine wp_seq_k (fun K4 hK4 => ?_)
  refine wp_region_lit ?_
  refine wl_call (o := ⟨_, _, _, _, _, _⟩) (by rfl) 9 _ _ rfl #[] rfl (run_call Try.func9 (by kernel_rfl) (by kernel_rfl)) ?_
  refine (awake5_any _).mono ?_
  rintro r v5 ⟨rfl, kb⟩
  replace D := D.trans (kb.mono D.size)
  replace HS := HS.on kb
  replace IS := IS.on kb
  replace IE := IE.on kb
  replace HX := HX.on kb
  replace IX := IX.on kb
  clear kb
  refine ⟨.bool true, rfl, ?_⟩
  simp only [Act.put, List.setIfInBounds_toArray, List.set_cons_zero, List.set_cons_succ]
  refine wl_yield (o := ⟨_, _, _, _, _, _⟩) (.bool false) (yl_not (by rfl) _ _ rfl true rfl) ?_
  simp only [Act.put, List.setIfInBounds_toArray, List.set_cons_zero, List.set_cons_succ]
  refine wl_yield (o := ⟨_, _, _, _, _, _⟩) (.bool false) (yl_move (by rfl) _ rfl _ rfl) ?_
  simp only [Act.put, List.setIfInBounds_toArray, List.set_cons_zero, List.set_cons_succ]
  refine wl_yield (o := ⟨_, _, _, _, _, _⟩) (EC.val x) (yl_ex (by rfl) _ rfl _ 0 rfl _ (fun _ h => by subst h; exact ExIn.ec IX)) ?_
  simp only [Act.put, List.setIfInBounds_toArray, List.set_cons_zero, List.set_cons_succ]
  refine wl_call (o := ⟨_, _, _, _, _, _⟩) (by rfl) 10 _ _ rfl #[EC.val x] rfl (run_call Try.func10 (by kernel_rfl) (by kernel_rfl)) ?_
  refine (c_refFew HX).mono ?_
  rintro r v6 ⟨rfl, kb⟩
  replace D := D.trans (kb.mono D.size)
  replace HS := HS.on kb
  replace IS := IS.on kb
  replace IE := IE.on kb
  replace HX := HX.on kb
  replace IX := IX.on kb
  clear kb
  cases hF : fewX 1 (atomX attr S)
  · refine ⟨.bool false, rfl, ?_⟩
    simp only [Act.put, List.setIfInBounds_toArray, List.set_cons_zero, List.set_cons_succ]
    refine wl_yield (o := ⟨_, _, _, _, _, _⟩) (.bool true) (yl_not (by rfl) _ _ rfl false rfl) ?_
    simp only [Act.put, List.setIfInBounds_toArray, List.set_cons_zero, List.set_cons_succ]
    refine wl_yield (o := ⟨_, _, _, _, _, _⟩) (.bool true) (yl_pickF (by rfl) _ _ _ rfl rfl _ rfl) ?_
    simp only [Act.put, List.setIfInBounds_toArray, List.set_cons_zero, List.set_cons_succ]
    refine wpList_nil ?_
    refine hK4 _ _ ?_
    clear hK4 K4
    refine wp_cond_true rfl ?_
    refine wp_seq_k (fun K5 hK5 => ?_)
    refine wp_region_lit ?_
    refine wl_call (o := ⟨_, _, _, _, _, _⟩) (by rfl) 9 _ _ rfl #[] rfl (run_call Try.func9 (by kernel_rfl) (by kernel_rfl)) ?_
    refine (awake5_any _).mono ?_
    rintro r v7 ⟨rfl, kb⟩
    replace D := D.trans (kb.mono D.size)
    replace HS := HS.on kb
    replace IS := IS.on kb
    replace IE := IE.on kb
    replace HX := HX.on kb
    replace IX := IX.on kb
    clear kb
    refine ⟨.bool true, rfl, ?_⟩
    simp only [Act.put, List.setIfInBounds_toArray, List.set_cons_zero, List.set_cons_succ]
    refine wl_yield (o := ⟨_, _, _, _, _, _⟩) (.bool true) (yl_assign (by rfl) _ rfl _ rfl) ?_
    simp only [Act.put, List.setIfInBounds_toArray, List.set_cons_zero, List.set_cons_succ]
    refine wpList_nil ?_
    refine hK5 _ _ ?_
    clear hK5 K5
    refine wp_ret ?_
    go_ret
    exact ⟨rfl, D⟩
  · refine ⟨.bool true, rfl, ?_⟩
    simp only [Act.put, List.setIfInBounds_toArray, List.set_cons_zero, List.set_cons_succ]
    refine wl_yield (o := ⟨_, _, _, _, _, _⟩) (.bool false) (yl_not (by rfl) _ _ rfl true rfl) ?_
    simp only [Act.put, List.setIfInBounds_toArray, List.set_cons_zero, List.set_cons_succ]
    refine wl_yield (o := ⟨_, _, _, _, _, _⟩) (.bool false) (yl_pickF (by rfl) _ _ _ rfl rfl _ rfl) ?_
    simp only [Act.put, List.setIfInBounds_toArray, List.set_cons_zero, List.set_cons_succ]
    refine wpList_nil ?_
    refine hK4 _ _ ?_
    clear hK4 K4
    refine wp_cond_false rfl ?_
    refine wp_skip ?_
    refine hK3 _ _ ?_
    clear hK3 K3
    refine wp_seq_k (fun K5 hK5 => ?_)
    refine wp_seq_k (fun K6 hK6 => ?_)
    refine wp_region_lit ?_
    refine wl_yield (o := ⟨_, _, _, _, _, _⟩) (EC.val x) (yl_ex (by rfl) _ rfl _ 0 rfl _ (fun _ h => by subst h; exact ExIn.ec IX)) ?_
    simp only [Act.put, List.setIfInBounds_toArray, List.set_cons_zero, List.set_cons_succ]
    refine wl_call (o := ⟨_, _, _, _, _, _⟩) (by rfl) 15 _ _ rfl #[EC.val x] rfl (run_call Try.func15 (by kernel_rfl) (by kernel_rfl)) ?_
    refine (c_right HX (by omega)).mono ?_
    rintro r v7 ⟨rfl, kb⟩
    replace D := D.trans (kb.mono D.size)
    replace HS := HS.on kb
    replace IS := IS.on kb
    replace IE := IE.on kb
    replace HX := HX.on kb
    replace IX := IX.on kb
    clear kb
    cases hR : rightX (atomX attr S)
    · refine ⟨.bool false, rfl, ?_⟩
      simp only [Act.put, List.setIfInBounds_toArray, List.set_cons_zero, List.set_cons_succ]
      refine wl_yield (o := ⟨_, _, _, _, _, _⟩) (.bool true) (yl_not (by rfl) _ _ rfl false rfl) ?_
      simp only [Act.put, List.setIfInBounds_toArray, List.set_cons_zero, List.set_cons_succ]
      refine wpList_nil ?_
      refine hK6 _ _ ?_
      clear hK6 K6
      refine wp_cond_true rfl ?_
      refine wp_seq_k (fun K7 hK7 => ?_)
      refine wp_region_lit ?_
      refine wl_yield (o := ⟨_, _, _, _, _, _⟩) (EC.val x) (yl_ex (by rfl) _ rfl _ 0 rfl _ (fun _ h => by subst h; exact ExIn.ec IX)) ?_
      simp only [Act.put, List.setIfInBounds_toArray, List.set_cons_zero, List.set_cons_succ]
      refine wl_yield (o := ⟨_, _, _, _, _, _⟩) (evVal e) (yl_ev (by rfl) _ rfl _ 0 rfl _ _ _ _ _ _ _ _ _ _ _ _ (fun _ h => by subst h; exact evCells IE)) ?_
      simp only [Act.put, List.setIfInBounds_toArray, List.set_cons_zero, List.set_cons_succ]
      refine wl_call (o := ⟨_, _, _, _, _, _⟩) (by rfl) 17 _ _ rfl #[EC.val x, evVal e] rfl (run_call Try.func17 (by kernel_rfl) (by kernel_rfl)) ?_
      refine (c_eval HX (by omega) hf).mono ?_
      rintro r v8 ⟨rfl, kb⟩
      replace D := D.trans (kb.mono D.size)
      replace HS := HS.on kb
      replace IS := IS.on kb
      replace IE := IE.on kb
      replace HX := HX.on kb
      replace IX := IX.on kb
      clear kb
      refine ⟨.bool false, ret_bool (evalX_wrong hR e), ?_⟩
      simp only [Act.put, List.setIfInBounds_toArray, List.set_cons_zero, List.set_cons_succ]
      refine wl_yield (o := ⟨_, _, _, _, _, _⟩) (.bool true) (yl_not (by rfl) _ _ rfl false rfl) ?_
      simp only [Act.put, List.setIfInBounds_toArray, List.set_cons_zero, List.set_cons_succ]
      refine wl_yield (o := ⟨_, _, _, _, _, _⟩) (.bool true) (yl_assign (by rfl) _ rfl _ rfl) ?_
      simp only [Act.put, List.setIfInBounds_toArray, List.set_cons_zero, List.set_cons_succ]
      refine wpList_nil ?_
      refine hK7 _ _ ?_
      clear hK7 K7
      refine wp_ret ?_
      go_ret
      exact ⟨rfl, D⟩
    · refine ⟨.bool true, rfl, ?_⟩
      simp only [Act.put, List.setIfInBounds_toArray, List.set_cons_zero, List.set_cons_succ]
      refine wl_yield (o := ⟨_, _, _, _, _, _⟩) (.bool false) (yl_not (by rfl) _ _ rfl true rfl) ?_
      simp only [Act.put, List.setIfInBounds_toArray, List.set_cons_zero, List.set_cons_succ]
      refine wpList_nil ?_
      refine hK6 _ _ ?_
      clear hK6 K6
      refine wp_cond_false rfl ?_
      refine wp_skip ?_
      refine hK5 _ _ ?_
      clear hK5 K5
      refine wp_seq_k (fun K7 hK7 => ?_)
      obtain ⟨hA, hN⟩ := atoms_plain (e := e) hR
      rw [eval_none] at hA hN
      have hI : isX 8 (atomX attr S) e = hasP S (e.get attr.toNat) := rfl
      have hcp := (few_cp HX hF).2
      have hcp1 : cpX 1 (atomX attr S) := ⟨hcp.1, hcp.2.1, hcp.2.2.1, fun y hy => by cases hy⟩
      have h0 := eval_none e
      clear hcp
      cases hr : rightE e
      · rw [hr] at hA hN h0
        rw [Bool.false_and] at hA hN
        refine wp_region_held_drew (S := fun w' => ExIn w' gb4 x ∧ EvIn w' gb2 e) (by kernel_rfl) ⟨IX, IE⟩ (fun hHeld => ?_)
        have kb : Below v7.heap.size v7 v7.drew := (Below.refl _ v7).drew
        replace D := D.trans (kb.mono D.size)
        replace HS := HS.on kb
        replace IS := IS.on kb
        replace IE := IE.on kb
        replace HX := HX.on kb
        replace IX := IX.on kb
        clear kb
        generalize v7.drew = v8 at D hHeld HS IS IE HX IX ⊢
        refine wpAnyH_take (i := 0) (oi := ⟨_, _, _, _, _, _⟩) (v := EC.val x) rfl (by kernel_rfl) (by kernel_rfl) (by kernel_rfl) (fun _ _ _ h => h) (yl_ex (by rfl) _ rfl _ 0 rfl _ (fun _ h => ExIn.ec h.1)) (by assumption) ?_
        simp only [Act.put, List.setIfInBounds_toArray, List.set_cons_zero, List.set_cons_succ]
        refine wpAnyH_take (i := 1) (oi := ⟨_, _, _, _, _, _⟩) (v := evVal e) rfl (by kernel_rfl) (by kernel_rfl) (by kernel_rfl) (fun _ _ _ h => h) (yl_ev (by rfl) _ rfl _ 0 rfl _ _ _ _ _ _ _ _ _ _ _ _ (fun _ h => evCells h.2)) (by assumption) ?_
        simp only [Act.put, List.setIfInBounds_toArray, List.set_cons_zero, List.set_cons_succ]
        refine wpAnyH_take (i := 4) (oi := ⟨_, _, _, _, _, _⟩) (v := evVal e) rfl (by kernel_rfl) (by kernel_rfl) (by kernel_rfl) (fun _ _ _ h => h) (yl_ev (by rfl) _ rfl _ 0 rfl _ _ _ _ _ _ _ _ _ _ _ _ (fun _ h => evCells h.2)) (by assumption) ?_
        simp only [Act.put, List.setIfInBounds_toArray, List.set_cons_zero, List.set_cons_succ]
        refine held_call (o := ⟨_, _, _, _, _, _⟩) 2 (by kernel_rfl) rfl (by rfl) 17 _ _ rfl #[EC.val x, evVal e] rfl (run_call Try.func17 (by kernel_rfl) (by kernel_rfl)) ?_
        refine (c_eval HX (by omega) hf).mono ?_
        rintro r v9 ⟨rfl, kb⟩
        replace D := D.trans (kb.mono D.size)
        replace HS := HS.on kb
        replace IS := IS.on kb
        replace IE := IE.on kb
        replace HX := HX.on kb
        replace IX := IX.on kb
        clear kb
        clear hHeld
        refine ⟨.bool false, ret_bool hA, ⟨IX, IE⟩, fun hHeld => ?_⟩
        simp only [Act.put, List.setIfInBounds_toArray, List.set_cons_zero, List.set_cons_succ]
        refine held_call (o := ⟨_, _, _, _, _, _⟩) 3 (by kernel_rfl) rfl (by rfl) 19 _ _ rfl #[.slice none 0 0] rfl (run_call Try.func19 (by kernel_rfl) (by kernel_rfl)) ?_
        refine (c_and0 _).mono ?_
        rintro r v10 ⟨⟨b, rfl, HB⟩, kb⟩
        replace D := D.trans (kb.mono D.size)
        replace HS := HS.on kb
        replace IS := IS.on kb
        replace IE := IE.on kb
        replace HX := HX.on kb
        replace IX := IX.on kb
        clear kb
        clear hHeld
        refine ⟨EC.val b, rfl, ⟨IX, IE⟩, fun hHeld => ?_⟩
        simp only [Act.put, List.setIfInBounds_toArray, List.set_cons_zero, List.set_cons_succ]
        refine held_call (o := ⟨_, _, _, _, _, _⟩) 5 (by kernel_rfl) rfl (by rfl) 17 _ _ rfl #[EC.val b, evVal e] rfl (run_call Try.func17 (by kernel_rfl) (by kernel_rfl)) ?_
        refine (c_eval HB (by omega) hf).mono ?_
        rintro r v11 ⟨rfl, kb⟩
        replace D := D.trans (kb.mono D.size)
        replace HS := HS.on kb
        replace IS := IS.on kb
        replace IE := IE.on kb
        replace HX := HX.on kb
        replace IX := IX.on kb
        replace HB := HB.on kb
        clear kb
        clear hHeld
        clear HB
        refine ⟨.bool false, ret_bool h0, ⟨IX, IE⟩, fun hHeld => ?_⟩
        simp only [Act.put, List.setIfInBounds_toArray, List.set_cons_zero, List.set_cons_succ]
        refine wpAnyH_take (i := 6) (oi := ⟨_, _, _, _, _, _⟩) (v := .bool false) rfl (by kernel_rfl) (by kernel_rfl) (by kernel_rfl) (fun _ _ _ h => h) (yl_move (by rfl) _ rfl _ rfl) (by assumption) ?_
        simp only [Act.put, List.setIfInBounds_toArray, List.set_cons_zero, List.set_cons_succ]
        refine wpAnyH_take (i := 7) (oi := ⟨_, _, _, _, _, _⟩) (v := undef) rfl (by kernel_rfl) (by kernel_rfl) (by kernel_rfl) (fun _ _ _ h => h) (yl_undef (by rfl)) (by assumption) ?_
        simp only [Act.put, List.setIfInBounds_toArray, List.set_cons_zero, List.set_cons_succ]
        refine wpAnyH_take (i := 8) (oi := ⟨_, _, _, _, _, _⟩) (v := undef) rfl (by kernel_rfl) (by kernel_rfl) (by kernel_rfl) (fun _ _ _ h => h) (yl_undef (by rfl)) (by assumption) ?_
        simp only [Act.put, List.setIfInBounds_toArray, List.set_cons_zero, List.set_cons_succ]
        refine wpAnyH_take (i := 9) (oi := ⟨_, _, _, _, _, _⟩) (v := undef) rfl (by kernel_rfl) (by kernel_rfl) (by kernel_rfl) (fun _ _ _ h => h) (yl_undef (by rfl)) (by assumption) ?_
        simp only [Act.put, List.setIfInBounds_toArray, List.set_cons_zero, List.set_cons_succ]
        refine wpAnyH_take (i := 10) (oi := ⟨_, _, _, _, _, _⟩) (v := .bool false) rfl (by kernel_rfl) (by kernel_rfl) (by kernel_rfl) (fun _ _ _ h => h) (yl_pickF (by rfl) _ _ _ rfl rfl _ rfl) (by assumption) ?_
        simp only [Act.put, List.setIfInBounds_toArray, List.set_cons_zero, List.set_cons_succ]
        refine wpAnyH_take (i := 11) (oi := ⟨_, _, _, _, _, _⟩) (v := .bool true) rfl (by kernel_rfl) (by kernel_rfl) (by kernel_rfl) (fun _ _ _ h => h) (yl_eqB (by rfl) _ _ _ rfl false false rfl rfl) (by assumption) ?_
        simp only [Act.put, List.setIfInBounds_toArray, List.set_cons_zero, List.set_cons_succ]
        refine wpAnyH_take (i := 12) (oi := ⟨_, _, _, _, _, _⟩) (v := .bool true) rfl (by kernel_rfl) (by kernel_rfl) (by kernel_rfl) (fun _ _ _ h => h) (yl_move (by rfl) _ rfl _ rfl) (by assumption) ?_
        simp only [Act.put, List.setIfInBounds_toArray, List.set_cons_zero, List.set_cons_succ]
        refine wpAnyH_take (i := 13) (oi := ⟨_, _, _, _, _, _⟩) (v := EC.val x) rfl (by kernel_rfl) (by kernel_rfl) (by kernel_rfl) (fun _ _ _ h => h) (yl_ex (by rfl) _ rfl _ 0 rfl _ (fun _ h => ExIn.ec h.1)) (by assumption) ?_
        simp only [Act.put, List.setIfInBounds_toArray, List.set_cons_zero, List.set_cons_succ]
        refine wpAnyH_take (i := 15) (oi := ⟨_, _, _, _, _, _⟩) (v := evVal e) rfl (by kernel_rfl) (by kernel_rfl) (by kernel_rfl) (fun _ _ _ h => h) (yl_ev (by rfl) _ rfl _ 0 rfl _ _ _ _ _ _ _ _ _ _ _ _ (fun _ h => evCells h.2)) (by assumption) ?_
        simp only [Act.put, List.setIfInBounds_toArray, List.set_cons_zero, List.set_cons_succ]
        refine wpAnyH_take (i := 18) (oi := ⟨_, _, _, _, _, _⟩) (v := evVal e) rfl (by kernel_rfl) (by kernel_rfl) (by kernel_rfl) (fun _ _ _ h => h) (yl_ev (by rfl) _ rfl _ 0 rfl _ _ _ _ _ _ _ _ _ _ _ _ (fun _ h => evCells h.2)) (by assumption) ?_
        simp only [Act.put, List.setIfInBounds_toArray, List.set_cons_zero, List.set_cons_succ]
        refine held_call (o := ⟨_, _, _, _, _, _⟩) 14 (by kernel_rfl) rfl (by rfl) 21 _ _ rfl #[EC.val x] rfl (run_call Try.func21 (by kernel_rfl) (by kernel_rfl)) ?_
        refine (c_not HX hcp1).mono ?_
        rintro r v12 ⟨⟨c, rfl, HC⟩, kb⟩
        replace D := D.trans (kb.mono D.size)
        replace HS := HS.on kb
        replace IS := IS.on kb
        replace IE := IE.on kb
        replace HX := HX.on kb
        replace IX := IX.on kb
        clear kb
        clear hHeld
        refine ⟨EC.val c, rfl, ⟨IX, IE⟩, fun hHeld => ?_⟩
        simp only [Act.put, List.setIfInBounds_toArray, List.set_cons_zero, List.set_cons_succ]
        refine held_call (o := ⟨_, _, _, _, _, _⟩) 16 (by kernel_rfl) rfl (by rfl) 17 _ _ rfl #[EC.val c, evVal e] rfl (run_call Try.func17 (by kernel_rfl) (by kernel_rfl)) ?_
        refine (c_eval HC (by omega) hf).mono ?_
        rintro r v13 ⟨rfl, kb⟩
        replace D := D.trans (kb.mono D.size)
        replace HS := HS.on kb
        replace IS := IS.on kb
        replace IE := IE.on kb
        replace HX := HX.on kb
        replace IX := IX.on kb
        replace HC := HC.on kb
        clear kb
        clear hHeld
        clear HC
        refine ⟨.bool false, ret_bool hN, ⟨IX, IE⟩, fun hHeld => ?_⟩
        simp only [Act.put, List.setIfInBounds_toArray, List.set_cons_zero, List.set_cons_succ]
        refine held_call (o := ⟨_, _, _, _, _, _⟩) 17 (by kernel_rfl) rfl (by rfl) 19 _ _ rfl #[.slice none 0 0] rfl (run_call Try.func19 (by kernel_rfl) (by kernel_rfl)) ?_
        refine (c_and0 _).mono ?_
        rintro r v14 ⟨⟨d, rfl, HD⟩, kb⟩
        replace D := D.trans (kb.mono D.size)
        replace HS := HS.on kb
        replace IS := IS.on kb
        replace IE := IE.on kb
        replace HX := HX.on kb
        replace IX := IX.on kb
        clear kb
        clear hHeld
        refine ⟨EC.val d, rfl, ⟨IX, IE⟩, fun hHeld => ?_⟩
        simp only [Act.put, List.setIfInBounds_toArray, List.set_cons_zero, List.set_cons_succ]
        refine held_call (o := ⟨_, _, _, _, _, _⟩) 19 (by kernel_rfl) rfl (by rfl) 17 _ _ rfl #[EC.val d, evVal e] rfl (run_call Try.func17 (by kernel_rfl) (by kernel_rfl)) ?_
        refine (c_eval HD (by omega) hf).mono ?_
        rintro r v15 ⟨rfl, kb⟩
        replace D := D.trans (kb.mono D.size)
        replace HS := HS.on kb
        replace IS := IS.on kb
        replace IE := IE.on kb
        replace HX := HX.on kb
        replace IX := IX.on kb
        replace HD := HD.on kb
        clear kb
        clear hHeld
        clear HD
        refine ⟨.bool false, ret_bool h0, ⟨IX, IE⟩, fun hHeld => ?_⟩
        simp only [Act.put, List.setIfInBounds_toArray, List.set_cons_zero, List.set_cons_succ]
        refine wpAnyH_take (i := 20) (oi := ⟨_, _, _, _, _, _⟩) (v := .bool false) rfl (by kernel_rfl) (by kernel_rfl) (by kernel_rfl) (fun _ _ _ h => h) (yl_move (by rfl) _ rfl _ rfl) (by assumption) ?_
        simp only [Act.put, List.setIfInBounds_toArray, List.set_cons_zero, List.set_cons_succ]
        refine wpAnyH_take (i := 21) (oi := ⟨_, _, _, _, _, _⟩) (v := undef) rfl (by kernel_rfl) (by kernel_rfl) (by kernel_rfl) (fun _ _ _ h => h) (yl_undef (by rfl)) (by assumption) ?_
        simp only [Act.put, List.setIfInBounds_toArray, List.set_cons_zero, List.set_cons_succ]
        refine wpAnyH_take (i := 22) (oi := ⟨_, _, _, _, _, _⟩) (v := undef) rfl (by kernel_rfl) (by kernel_rfl) (by kernel_rfl) (fun _ _ _ h => h) (yl_undef (by rfl)) (by assumption) ?_
        simp only [Act.put, List.setIfInBounds_toArray, List.set_cons_zero, List.set_cons_succ]
        refine wpAnyH_take (i := 23) (oi := ⟨_, _, _, _, _, _⟩) (v := undef) rfl (by kernel_rfl) (by kernel_rfl) (by kernel_rfl) (fun _ _ _ h => h) (yl_undef (by rfl)) (by assumption) ?_
        simp only [Act.put, List.setIfInBounds_toArray, List.set_cons_zero, List.set_cons_succ]
        refine wpAnyH_take (i := 24) (oi := ⟨_, _, _, _, _, _⟩) (v := undef) rfl (by kernel_rfl) (by kernel_rfl) (by kernel_rfl) (fun _ _ _ h => h) (yl_undef (by rfl)) (by assumption) ?_
        simp only [Act.put, List.setIfInBounds_toArray, List.set_cons_zero, List.set_cons_succ]
        refine wpAnyH_take (i := 25) (oi := ⟨_, _, _, _, _, _⟩) (v := .bool false) rfl (by kernel_rfl) (by kernel_rfl) (by kernel_rfl) (fun _ _ _ h => h) (yl_pickF (by rfl) _ _ _ rfl rfl _ rfl) (by assumption) ?_
        simp only [Act.put, List.setIfInBounds_toArray, List.set_cons_zero, List.set_cons_succ]
        refine wpAnyH_take (i := 26) (oi := ⟨_, _, _, _, _, _⟩) (v := .bool true) rfl (by kernel_rfl) (by kernel_rfl) (by kernel_rfl) (fun _ _ _ h => h) (yl_eqB (by rfl) _ _ _ rfl false false rfl rfl) (by assumption) ?_
        simp only [Act.put, List.setIfInBounds_toArray, List.set_cons_zero, List.set_cons_succ]
        refine wpAnyH_take (i := 27) (oi := ⟨_, _, _, _, _, _⟩) (v := .bool true) rfl (by kernel_rfl) (by kernel_rfl) (by kernel_rfl) (fun _ _ _ h => h) (yl_pickT (by rfl) _ _ _ rfl rfl _ rfl) (by assumption) ?_
        simp only [Act.put, List.setIfInBounds_toArray, List.set_cons_zero, List.set_cons_succ]
        refine wpAnyH_take (i := 28) (oi := ⟨_, _, _, _, _, _⟩) (v := .bool true) rfl (by kernel_rfl) (by kernel_rfl) (by kernel_rfl) (fun _ _ _ h => h) (yl_assign (by rfl) _ rfl _ rfl) (by assumption) ?_
        simp only [Act.put, List.setIfInBounds_toArray, List.set_cons_zero, List.set_cons_succ]
        refine wpAnyH_done (by kernel_rfl) ?_ _
        clear hHeld
        refine hK7 _ _ ?_
        clear hK7 K7
        refine wp_ret ?_
        go_ret
        exact ⟨rfl, D⟩
      · rw [hr] at hA hN h0
        rw [Bool.true_and] at hA hN
        cases hp : hasP S (e.get attr.toNat)
        · rw [hp] at hA hN hI
          refine wp_region_held_drew (S := fun w' => ExIn w' gb4 x ∧ EvIn w' gb2 e) (by kernel_rfl) ⟨IX, IE⟩ (fun hHeld => ?_)
          have kb : Below v7.heap.size v7 v7.drew := (Below.refl _ v7).drew
          replace D := D.trans (kb.mono D.size)
          replace HS := HS.on kb
          replace IS := IS.on kb
          replace IE := IE.on kb
          replace HX := HX.on kb
          replace IX := IX.on kb
          clear kb
          generalize v7.drew = v8 at D hHeld HS IS IE HX IX ⊢
          refine wpAnyH_take (i := 0) (oi := ⟨_, _, _, _, _, _⟩) (v := EC.val x) rfl (by kernel_rfl) (by kernel_rfl) (by kernel_rfl) (fun _ _ _ h => h) (yl_ex (by rfl) _ rfl _ 0 rfl _ (fun _ h => ExIn.ec h.1)) (by assumption) ?_
          simp only [Act.put, List.setIfInBounds_toArray, List.set_cons_zero, List.set_cons_succ]
          refine wpAnyH_take (i := 1) (oi := ⟨_, _, _, _, _, _⟩) (v := evVal e) rfl (by kernel_rfl) (by kernel_rfl) (by kernel_rfl) (fun _ _ _ h => h) (yl_ev (by rfl) _ rfl _ 0 rfl _ _ _ _ _ _ _ _ _ _ _ _ (fun _ h => evCells h.2)) (by assumption) ?_
          simp only [Act.put, List.setIfInBounds_toArray, List.set_cons_zero, List.set_cons_succ]
          refine wpAnyH_take (i := 4) (oi := ⟨_, _, _, _, _, _⟩) (v := evVal e) rfl (by kernel_rfl) (by kernel_rfl) (by kernel_rfl) (fun _ _ _ h => h) (yl_ev (by rfl) _ rfl _ 0 rfl _ _ _ _ _ _ _ _ _ _ _ _ (fun _ h => evCells h.2)) (by assumption) ?_
          simp only [Act.put, List.setIfInBounds_toArray, List.set_cons_zero, List.set_cons_succ]
          refine held_call (o := ⟨_, _, _, _, _, _⟩) 2 (by kernel_rfl) rfl (by rfl) 17 _ _ rfl #[EC.val x, evVal e] rfl (run_call Try.func17 (by kernel_rfl) (by kernel_rfl)) ?_
          refine (c_eval HX (by omega) hf).mono ?_
          rintro r v9 ⟨rfl, kb⟩
          replace D := D.trans (kb.mono D.size)
          replace HS := HS.on kb
          replace IS := IS.on kb
          replace IE := IE.on kb
          replace HX := HX.on kb
          replace IX := IX.on kb
          clear kb
          clear hHeld
          refine ⟨.bool false, ret_bool hA, ⟨IX, IE⟩, fun hHeld => ?_⟩
          simp only [Act.put, List.setIfInBounds_toArray, List.set_cons_zero, List.set_cons_succ]
          refine held_call (o := ⟨_, _, _, _, _, _⟩) 3 (by kernel_rfl) rfl (by rfl) 19 _ _ rfl #[.slice none 0 0] rfl (run_call Try.func19 (by kernel_rfl) (by kernel_rfl)) ?_
          refine (c_and0 _).mono ?_
          rintro r v10 ⟨⟨b, rfl, HB⟩, kb⟩
          replace D := D.trans (kb.mono D.size)
          replace HS := HS.on kb
          replace IS := IS.on kb
          replace IE := IE.on kb
          replace HX := HX.on kb
          replace IX := IX.on kb
          clear kb
          clear hHeld
          refine ⟨EC.val b, rfl, ⟨IX, IE⟩, fun hHeld => ?_⟩
          simp only [Act.put, List.setIfInBounds_toArray, List.set_cons_zero, List.set_cons_succ]
          refine held_call (o := ⟨_, _, _, _, _, _⟩) 5 (by kernel_rfl) rfl (by rfl) 17 _ _ rfl #[EC.val b, evVal e] rfl (run_call Try.func17 (by kernel_rfl) (by kernel_rfl)) ?_
          refine (c_eval HB (by omega) hf).mono ?_
          rintro r v11 ⟨rfl, kb⟩
          replace D := D.trans (kb.mono D.size)
          replace HS := HS.on kb
          replace IS := IS.on kb
          replace IE := IE.on kb
          replace HX := HX.on kb
          replace IX := IX.on kb
          replace HB := HB.on kb
          clear kb
          clear hHeld
          clear HB
          refine ⟨.bool true, ret_bool h0, ⟨IX, IE⟩, fun hHeld => ?_⟩
          simp only [Act.put, List.setIfInBounds_toArray, List.set_cons_zero, List.set_cons_succ]
          refine wpAnyH_take (i := 6) (oi := ⟨_, _, _, _, _, _⟩) (v := .bool true) rfl (by kernel_rfl) (by kernel_rfl) (by kernel_rfl) (fun _ _ _ h => h) (yl_move (by rfl) _ rfl _ rfl) (by assumption) ?_
          simp only [Act.put, List.setIfInBounds_toArray, List.set_cons_zero, List.set_cons_succ]
          refine wpAnyH_take (i := 7) (oi := ⟨_, _, _, _, _, _⟩) (v := EC.val x) rfl (by kernel_rfl) (by kernel_rfl) (by kernel_rfl) (fun _ _ _ h => h) (yl_ex (by rfl) _ rfl _ 0 rfl _ (fun _ h => ExIn.ec h.1)) (by assumption) ?_
          simp only [Act.put, List.setIfInBounds_toArray, List.set_cons_zero, List.set_cons_succ]
          refine wpAnyH_take (i := 8) (oi := ⟨_, _, _, _, _, _⟩) (v := evVal e) rfl (by kernel_rfl) (by kernel_rfl) (by kernel_rfl) (fun _ _ _ h => h) (yl_ev (by rfl) _ rfl _ 0 rfl _ _ _ _ _ _ _ _ _ _ _ _ (fun _ h => evCells h.2)) (by assumption) ?_
          simp only [Act.put, List.setIfInBounds_toArray, List.set_cons_zero, List.set_cons_succ]
          refine held_call (o := ⟨_, _, _, _, _, _⟩) 9 (by kernel_rfl) rfl (by rfl) 27 _ _ rfl #[EC.val x, evVal e] rfl (run_call Try.func27 (by kernel_rfl) (by kernel_rfl)) ?_
          refine (c_refIs HX hf hR).mono ?_
          rintro r v12 ⟨rfl, kb⟩
          replace D := D.trans (kb.mono D.size)
          replace HS := HS.on kb
          replace IS := IS.on kb
          replace IE := IE.on kb
          replace HX := HX.on kb
          replace IX := IX.on kb
          clear kb
          clear hHeld
          refine ⟨.bool false, ret_bool hI, ⟨IX, IE⟩, fun hHeld => ?_⟩
          simp only [Act.put, List.setIfInBounds_toArray, List.set_cons_zero, List.set_cons_succ]
          refine wpAnyH_take (i := 10) (oi := ⟨_, _, _, _, _, _⟩) (v := .bool false) rfl (by kernel_rfl) (by kernel_rfl) (by kernel_rfl) (fun _ _ _ h => h) (yl_pickT (by rfl) _ _ _ rfl rfl _ rfl) (by assumption) ?_
          simp only [Act.put, List.setIfInBounds_toArray, List.set_cons_zero, List.set_cons_succ]
          refine wpAnyH_take (i := 11) (oi := ⟨_, _, _, _, _, _⟩) (v := .bool true) rfl (by kernel_rfl) (by kernel_rfl) (by kernel_rfl) (fun _ _ _ h => h) (yl_eqB (by rfl) _ _ _ rfl false false rfl rfl) (by assumption) ?_
          simp only [Act.put, List.setIfInBounds_toArray, List.set_cons_zero, List.set_cons_succ]
          refine wpAnyH_take (i := 12) (oi := ⟨_, _, _, _, _, _⟩) (v := .bool true) rfl (by kernel_rfl) (by kernel_rfl) (by kernel_rfl) (fun _ _ _ h => h) (yl_move (by rfl) _ rfl _ rfl) (by assumption) ?_
          simp only [Act.put, List.setIfInBounds_toArray, List.set_cons_zero, List.set_cons_succ]
          refine wpAnyH_take (i := 13) (oi := ⟨_, _, _, _, _, _⟩) (v := EC.val x) rfl (by kernel_rfl) (by kernel_rfl) (by kernel_rfl) (fun _ _ _ h => h) (yl_ex (by rfl) _ rfl _ 0 rfl _ (fun _ h => ExIn.ec h.1)) (by assumption) ?_
          simp only [Act.put, List.setIfInBounds_toArray, List.set_cons_zero, List.set_cons_succ]
          refine wpAnyH_take (i := 15) (oi := ⟨_, _, _, _, _, _⟩) (v := evVal e) rfl (by kernel_rfl) (by kernel_rfl) (by kernel_rfl) (fun _ _ _ h => h) (yl_ev (by rfl) _ rfl _ 0 rfl _ _ _ _ _ _ _ _ _ _ _ _ (fun _ h => evCells h.2)) (by assumption) ?_
          simp only [Act.put, List.setIfInBounds_toArray, List.set_cons_zero, List.set_cons_succ]
          refine wpAnyH_take (i := 18) (oi := ⟨_, _, _, _, _, _⟩) (v := evVal e) rfl (by kernel_rfl) (by kernel_rfl) (by kernel_rfl) (fun _ _ _ h => h) (yl_ev (by rfl) _ rfl _ 0 rfl _ _ _ _ _ _ _ _ _ _ _ _ (fun _ h => evCells h.2)) (by assumption) ?_
          simp only [Act.put, List.setIfInBounds_toArray, List.set_cons_zero, List.set_cons_succ]
          refine held_call (o := ⟨_, _, _, _, _, _⟩) 14 (by kernel_rfl) rfl (by rfl) 21 _ _ rfl #[EC.val x] rfl (run_call Try.func21 (by kernel_rfl) (by kernel_rfl)) ?_
          refine (c_not HX hcp1).mono ?_
          rintro r v13 ⟨⟨c, rfl, HC⟩, kb⟩
          replace D := D.trans (kb.mono D.size)
          replace HS := HS.on kb
          replace IS := IS.on kb
          replace IE := IE.on kb
          replace HX := HX.on kb
          replace IX := IX.on kb
          clear kb
          clear hHeld
          refine ⟨EC.val c, rfl, ⟨IX, IE⟩, fun hHeld => ?_⟩
          simp only [Act.put, List.setIfInBounds_toArray, List.set_cons_zero, List.set_cons_succ]
          refine held_call (o := ⟨_, _, _, _, _, _⟩) 16 (by kernel_rfl) rfl (by rfl) 17 _ _ rfl #[EC.val c, evVal e] rfl (run_call Try.func17 (by kernel_rfl) (by kernel_rfl)) ?_
          refine (c_eval HC (by omega) hf).mono ?_
          rintro r v14 ⟨rfl, kb⟩
          replace D := D.trans (kb.mono D.size)
          replace HS := HS.on kb
          replace IS := IS.on kb
          replace IE := IE.on kb
          replace HX := HX.on kb
          replace IX := IX.on kb
          replace HC := HC.on kb
          clear kb
          clear hHeld
          clear HC
          refine ⟨.bool true, ret_bool hN, ⟨IX, IE⟩, fun hHeld => ?_⟩
          simp only [Act.put, List.setIfInBounds_toArray, List.set_cons_zero, List.set_cons_succ]
          refine held_call (o := ⟨_, _, _, _, _, _⟩) 17 (by kernel_rfl) rfl (by rfl) 19 _ _ rfl #[.slice none 0 0] rfl (run_call Try.func19 (by kernel_rfl) (by kernel_rfl)) ?_
          refine (c_and0 _).mono ?_
          rintro r v15 ⟨⟨d, rfl, HD⟩, kb⟩
          replace D := D.trans (kb.mono D.size)
          replace HS := HS.on kb
          replace IS := IS.on kb
          replace IE := IE.on kb
          replace HX := HX.on kb
          replace IX := IX.on kb
          clear kb
          clear hHeld
          refine ⟨EC.val d, rfl, ⟨IX, IE⟩, fun hHeld => ?_⟩
          simp only [Act.put, List.setIfInBounds_toArray, List.set_cons_zero, List.set_cons_succ]
          refine held_call (o := ⟨_, _, _, _, _, _⟩) 19 (by kernel_rfl) rfl (by rfl) 17 _ _ rfl #[EC.val d, evVal e] rfl (run_call Try.func17 (by kernel_rfl) (by kernel_rfl)) ?_
          refine (c_eval HD (by omega) hf).mono ?_
          rintro r v16 ⟨rfl, kb⟩
          replace D := D.trans (kb.mono D.size)
          replace HS := HS.on kb
          replace IS := IS.on kb
          replace IE := IE.on kb
          replace HX := HX.on kb
          replace IX := IX.on kb
          replace HD := HD.on kb
          clear kb
          clear hHeld
          clear HD
          refine ⟨.bool true, ret_bool h0, ⟨IX, IE⟩, fun hHeld => ?_⟩
          simp only [Act.put, List.setIfInBounds_toArray, List.set_cons_zero, List.set_cons_succ]
          refine wpAnyH_take (i := 20) (oi := ⟨_, _, _, _, _, _⟩) (v := .bool true) rfl (by kernel_rfl) (by kernel_rfl) (by kernel_rfl) (fun _ _ _ h => h) (yl_move (by rfl) _ rfl _ rfl) (by assumption) ?_
          simp only [Act.put, List.setIfInBounds_toArray, List.set_cons_zero, List.set_cons_succ]
          refine wpAnyH_take (i := 21) (oi := ⟨_, _, _, _, _, _⟩) (v := EC.val x) rfl (by kernel_rfl) (by kernel_rfl) (by kernel_rfl) (fun _ _ _ h => h) (yl_ex (by rfl) _ rfl _ 0 rfl _ (fun _ h => ExIn.ec h.1)) (by assumption) ?_
          simp only [Act.put, List.setIfInBounds_toArray, List.set_cons_zero, List.set_cons_succ]
          refine wpAnyH_take (i := 22) (oi := ⟨_, _, _, _, _, _⟩) (v := evVal e) rfl (by kernel_rfl) (by kernel_rfl) (by kernel_rfl) (fun _ _ _ h => h) (yl_ev (by rfl) _ rfl _ 0 rfl _ _ _ _ _ _ _ _ _ _ _ _ (fun _ h => evCells h.2)) (by assumption) ?_
          simp only [Act.put, List.setIfInBounds_toArray, List.set_cons_zero, List.set_cons_succ]
          refine held_call (o := ⟨_, _, _, _, _, _⟩) 23 (by kernel_rfl) rfl (by rfl) 27 _ _ rfl #[EC.val x, evVal e] rfl (run_call Try.func27 (by kernel_rfl) (by kernel_rfl)) ?_
          refine (c_refIs HX hf hR).mono ?_
          rintro r v17 ⟨rfl, kb⟩
          replace D := D.trans (kb.mono D.size)
          replace HS := HS.on kb
          replace IS := IS.on kb
          replace IE := IE.on kb
          replace HX := HX.on kb
          replace IX := IX.on kb
          clear kb
          clear hHeld
          refine ⟨.bool false, ret_bool hI, ⟨IX, IE⟩, fun hHeld => ?_⟩
          simp only [Act.put, List.setIfInBounds_toArray, List.set_cons_zero, List.set_cons_succ]
          refine wpAnyH_take (i := 24) (oi := ⟨_, _, _, _, _, _⟩) (v := .bool true) rfl (by kernel_rfl) (by kernel_rfl) (by kernel_rfl) (fun _ _ _ h => h) (yl_not (by rfl) _ _ rfl false rfl) (by assumption) ?_
          simp only [Act.put, List.setIfInBounds_toArray, List.set_cons_zero, List.set_cons_succ]
          refine wpAnyH_take (i := 25) (oi := ⟨_, _, _, _, _, _⟩) (v := .bool true) rfl (by kernel_rfl) (by kernel_rfl) (by kernel_rfl) (fun _ _ _ h => h) (yl_pickT (by rfl) _ _ _ rfl rfl _ rfl) (by assumption) ?_
          simp only [Act.put, List.setIfInBounds_toArray, List.set_cons_zero, List.set_cons_succ]
          refine wpAnyH_take (i := 26) (oi := ⟨_, _, _, _, _, _⟩) (v := .bool true) rfl (by kernel_rfl) (by kernel_rfl) (by kernel_rfl) (fun _ _ _ h => h) (yl_eqB (by rfl) _ _ _ rfl true true rfl rfl) (by assumption) ?_
          simp only [Act.put, List.setIfInBounds_toArray, List.set_cons_zero, List.set_cons_succ]
          refine wpAnyH_take (i := 27) (oi := ⟨_, _, _, _, _, _⟩) (v := .bool true) rfl (by kernel_rfl) (by kernel_rfl) (by kernel_rfl) (fun _ _ _ h => h) (yl_pickT (by rfl) _ _ _ rfl rfl _ rfl) (by assumption) ?_
          simp only [Act.put, List.setIfInBounds_toArray, List.set_cons_zero, List.set_cons_succ]
          refine wpAnyH_take (i := 28) (oi := ⟨_, _, _, _, _, _⟩) (v := .bool true) rfl (by kernel_rfl) (by kernel_rfl) (by kernel_rfl) (fun _ _ _ h => h) (yl_assign (by rfl) _ rfl _ rfl) (by assumption) ?_
          simp only [Act.put, List.setIfInBounds_toArray, List.set_cons_zero, List.set_cons_succ]
          refine wpAnyH_done (by kernel_rfl) ?_ _
          clear hHeld
          refine hK7 _ _ ?_
          clear hK7 K7
          refine wp_ret ?_
          go_ret
          exact ⟨rfl, D⟩
        · rw [hp] at hA hN hI
          refine wp_region_held_drew (S := fun w' => ExIn w' gb4 x ∧ EvIn w' gb2 e) (by kernel_rfl) ⟨IX, IE⟩ (fun hHeld => ?_)
          have kb : Below v7.heap.size v7 v7.drew := (Below.refl _ v7).drew
          replace D := D.trans (kb.mono D.size)
          replace HS := HS.on kb
          replace IS := IS.on kb
          replace IE := IE.on kb
          replace HX := HX.on kb
          replace IX := IX.on kb
          clear kb
          generalize v7.drew = v8 at D hHeld HS IS IE HX IX ⊢
          refine wpAnyH_take (i := 0) (oi := ⟨_, _, _, _, _, _⟩) (v := EC.val x) rfl (by kernel_rfl) (by kernel_rfl) (by kernel_rfl) (fun _ _ _ h => h) (yl_ex (by rfl) _ rfl _ 0 rfl _ (fun _ h => ExIn.ec h.1)) (by assumption) ?_
          simp only [Act.put, List.setIfInBounds_toArray, List.set_cons_zero, List.set_cons_succ]
          refine wpAnyH_take (i := 1) (oi := ⟨_, _, _, _, _, _⟩) (v := evVal e) rfl (by kernel_rfl) (by kernel_rfl) (by kernel_rfl) (fun _ _ _ h => h) (yl_ev (by rfl) _ rfl _ 0 rfl _ _ _ _ _ _ _ _ _ _ _ _ (fun _ h => evCells h.2)) (by assumption) ?_
          simp only [Act.put, List.setIfInBounds_toArray, List.set_cons_zero, List.set_cons_succ]
          refine wpAnyH_take (i := 4) (oi := ⟨_, _, _, _, _, _⟩) (v := evVal e) rfl (by kernel_rfl) (by kernel_rfl) (by kernel_rfl) (fun _ _ _ h => h) (yl_ev (by rfl) _ rfl _ 0 rfl _ _ _ _ _ _ _ _ _ _ _ _ (fun _ h => evCells h.2)) (by assumption) ?_
          simp only [Act.put, List.setIfInBounds_toArray, List.set_cons_zero, List.set_cons_succ]
          refine held_call (o := ⟨_, _, _, _, _, _⟩) 2 (by kernel_rfl) rfl (by rfl) 17 _ _ rfl #[EC.val x, evVal e] rfl (run_call Try.func17 (by kernel_rfl) (by kernel_rfl)) ?_
          refine (c_eval HX (by omega) hf).mono ?_
          rintro r v9 ⟨rfl, kb⟩
          replace D := D.trans (kb.mono D.size)
          replace HS := HS.on kb
          replace IS := IS.on kb
          replace IE := IE.on kb
          replace HX := HX.on kb
          replace IX := IX.on kb
          clear kb
          clear hHeld
          refine ⟨.bool true, ret_bool hA, ⟨IX, IE⟩, fun hHeld => ?_⟩
          simp only [Act.put, List.setIfInBounds_toArray, List.set_cons_zero, List.set_cons_succ]
          refine held_call (o := ⟨_, _, _, _, _, _⟩) 3 (by kernel_rfl) rfl (by rfl) 19 _ _ rfl #[.slice none 0 0] rfl (run_call Try.func19 (by kernel_rfl) (by kernel_rfl)) ?_
          refine (c_and0 _).mono ?_
          rintro r v10 ⟨⟨b, rfl, HB⟩, kb⟩
          replace D := D.trans (kb.mono D.size)
          replace HS := HS.on kb
          replace IS := IS.on kb
          replace IE := IE.on kb
          replace HX := HX.on kb
          replace IX := IX.on kb
          clear kb
          clear hHeld
          refine ⟨EC.val b, rfl, ⟨IX, IE⟩, fun hHeld => ?_⟩
          simp only [Act.put, List.setIfInBounds_toArray, List.set_cons_zero, List.set_cons_succ]
          refine held_call (o := ⟨_, _, _, _, _, _⟩) 5 (by kernel_rfl) rfl (by rfl) 17 _ _ rfl #[EC.val b, evVal e] rfl (run_call Try.func17 (by kernel_rfl) (by kernel_rfl)) ?_
          refine (c_eval HB (by omega) hf).mono ?_
          rintro r v11 ⟨rfl, kb⟩
          replace D := D.trans (kb.mono D.size)
          replace HS := HS.on kb
          replace IS := IS.on kb
          replace IE := IE.on kb
          replace HX := HX.on kb
          replace IX := IX.on kb
          replace HB := HB.on kb
          clear kb
          clear hHeld
          clear HB
          refine ⟨.bool true, ret_bool h0, ⟨IX, IE⟩, fun hHeld => ?_⟩
          simp only [Act.put, List.setIfInBounds_toArray, List.set_cons_zero, List.set_cons_succ]
          refine wpAnyH_take (i := 6) (oi := ⟨_, _, _, _, _, _⟩) (v := .bool true) rfl (by kernel_rfl) (by kernel_rfl) (by kernel_rfl) (fun _ _ _ h => h) (yl_move (by rfl) _ rfl _ rfl) (by assumption) ?_
          simp only [Act.put, List.setIfInBounds_toArray, List.set_cons_zero, List.set_cons_succ]
          refine wpAnyH_take (i := 7) (oi := ⟨_, _, _, _, _, _⟩) (v := EC.val x) rfl (by kernel_rfl) (by kernel_rfl) (by kernel_rfl) (fun _ _ _ h => h) (yl_ex (by rfl) _ rfl _ 0 rfl _ (fun _ h => ExIn.ec h.1)) (by assumption) ?_
          simp only [Act.put, List.setIfInBounds_toArray, List.set_cons_zero, List.set_cons_succ]
          refine wpAnyH_take (i := 8) (oi := ⟨_, _, _, _, _, _⟩) (v := evVal e) rfl (by kernel_rfl) (by kernel_rfl) (by kernel_rfl) (fun _ _ _ h => h) (yl_ev (by rfl) _ rfl _ 0 rfl _ _ _ _ _ _ _ _ _ _ _ _ (fun _ h => evCells h.2)) (by assumption) ?_
          simp only [Act.put, List.setIfInBounds_toArray, List.set_cons_zero, List.set_cons_succ]
          refine held_call (o := ⟨_, _, _, _, _, _⟩) 9 (by kernel_rfl) rfl (by rfl) 27 _ _ rfl #[EC.val x, evVal e] rfl (run_call Try.func27 (by kernel_rfl) (by kernel_rfl)) ?_
          refine (c_refIs HX hf hR).mono ?_
          rintro r v12 ⟨rfl, kb⟩
          replace D := D.trans (kb.mono D.size)
          replace HS := HS.on kb
          replace IS := IS.on kb
          replace IE := IE.on kb
          replace HX := HX.on kb
          replace IX := IX.on kb
          clear kb
          clear hHeld
          refine ⟨.bool true, ret_bool hI, ⟨IX, IE⟩, fun hHeld => ?_⟩
          simp only [Act.put, List.setIfInBounds_toArray, List.set_cons_zero, List.set_cons_succ]
          refine wpAnyH_take (i := 10) (oi := ⟨_, _, _, _, _, _⟩) (v := .bool true) rfl (by kernel_rfl) (by kernel_rfl) (by kernel_rfl) (fun _ _ _ h => h) (yl_pickT (by rfl) _ _ _ rfl rfl _ rfl) (by assumption) ?_
          simp only [Act.put, List.setIfInBounds_toArray, List.set_cons_zero, List.set_cons_succ]
          refine wpAnyH_take (i := 11) (oi := ⟨_, _, _, _, _, _⟩) (v := .bool true) rfl (by kernel_rfl) (by kernel_rfl) (by kernel_rfl) (fun _ _ _ h => h) (yl_eqB (by rfl) _ _ _ rfl true true rfl rfl) (by assumption) ?_
          simp only [Act.put, List.setIfInBounds_toArray, List.set_cons_zero, List.set_cons_succ]
          refine wpAnyH_take (i := 12) (oi := ⟨_, _, _, _, _, _⟩) (v := .bool true) rfl (by kernel_rfl) (by kernel_rfl) (by kernel_rfl) (fun _ _ _ h => h) (yl_move (by rfl) _ rfl _ rfl) (by assumption) ?_
          simp only [Act.put, List.setIfInBounds_toArray, List.set_cons_zero, List.set_cons_succ]
          refine wpAnyH_take (i := 13) (oi := ⟨_, _, _, _, _, _⟩) (v := EC.val x) rfl (by kernel_rfl) (by kernel_rfl) (by kernel_rfl) (fun _ _ _ h => h) (yl_ex (by rfl) _ rfl _ 0 rfl _ (fun _ h => ExIn.ec h.1)) (by assumption) ?_
          simp only [Act.put, List.setIfInBounds_toArray, List.set_cons_zero, List.set_cons_succ]
          refine wpAnyH_take (i := 15) (oi := ⟨_, _, _, _, _, _⟩) (v := evVal e) rfl (by kernel_rfl) (by kernel_rfl) (by kernel_rfl) (fun _ _ _ h => h) (yl_ev (by rfl) _ rfl _ 0 rfl _ _ _ _ _ _ _ _ _ _ _ _ (fun _ h => evCells h.2)) (by assumption) ?_
          simp only [Act.put, List.setIfInBounds_toArray, List.set_cons_zero, List.set_cons_succ]
          refine wpAnyH_take (i := 18) (oi := ⟨_, _, _, _, _, _⟩) (v := evVal e) rfl (by kernel_rfl) (by kernel_rfl) (by kernel_rfl) (fun _ _ _ h => h) (yl_ev (by rfl) _ rfl _ 0 rfl _ _ _ _ _ _ _ _ _ _ _ _ (fun _ h => evCells h.2)) (by assumption) ?_
          simp only [Act.put, List.setIfInBounds_toArray, List.set_cons_zero, List.set_cons_succ]
          refine held_call (o := ⟨_, _, _, _, _, _⟩) 14 (by kernel_rfl) rfl (by rfl) 21 _ _ rfl #[EC.val x] rfl (run_call Try.func21 (by kernel_rfl) (by kernel_rfl)) ?_
          refine (c_not HX hcp1).mono ?_
          rintro r v13 ⟨⟨c, rfl, HC⟩, kb⟩
          replace D := D.trans (kb.mono D.size)
          replace HS := HS.on kb
          replace IS := IS.on kb
          replace IE := IE.on kb
          replace HX := HX.on kb
          replace IX := IX.on kb
          clear kb
          clear hHeld
          refine ⟨EC.val c, rfl, ⟨IX, IE⟩, fun hHeld => ?_⟩
          simp only [Act.put, List.setIfInBounds_toArray, List.set_cons_zero, List.set_cons_succ]
          refine held_call (o := ⟨_, _, _, _, _, _⟩) 16 (by kernel_rfl) rfl (by rfl) 17 _ _ rfl #[EC.val c, evVal e] rfl (run_call Try.func17 (by kernel_rfl) (by kernel_rfl)) ?_
          refine (c_eval HC (by omega) hf).mono ?_
          rintro r v14 ⟨rfl, kb⟩
          replace D := D.trans (kb.mono D.size)
          replace HS := HS.on kb
          replace IS := IS.on kb
          replace IE := IE.on kb
          replace HX := HX.on kb
          replace IX := IX.on kb
          replace HC := HC.on kb
          clear kb
          clear hHeld
          clear HC
          refine ⟨.bool false, ret_bool hN, ⟨IX, IE⟩, fun hHeld => ?_⟩
          simp only [Act.put, List.setIfInBounds_toArray, List.set_cons_zero, List.set_cons_succ]
          refine held_call (o := ⟨_, _, _, _, _, _⟩) 17 (by kernel_rfl) rfl (by rfl) 19 _ _ rfl #[.slice none 0 0] rfl (run_call Try.func19 (by kernel_rfl) (by kernel_rfl)) ?_
          refine (c_and0 _).mono ?_
          rintro r v15 ⟨⟨d, rfl, HD⟩, kb⟩
          replace D := D.trans (kb.mono D.size)
          replace HS := HS.on kb
          replace IS := IS.on kb
          replace IE := IE.on kb
          replace HX := HX.on kb
          replace IX := IX.on kb
          clear kb
          clear hHeld
          refine ⟨EC.val d, rfl, ⟨IX, IE⟩, fun hHeld => ?_⟩
          simp only [Act.put, List.setIfInBounds_toArray, List.set_cons_zero, List.set_cons_succ]
          refine held_call (o := ⟨_, _, _, _, _, _⟩) 19 (by kernel_rfl) rfl (by rfl) 17 _ _ rfl #[EC.val d, evVal e] rfl (run_call Try.func17 (by kernel_rfl) (by kernel_rfl)) ?_
          refine (c_eval HD (by omega) hf).mono ?_
          rintro r v16 ⟨rfl, kb⟩
          replace D := D.trans (kb.mono D.size)
          replace HS := HS.on kb
          replace IS := IS.on kb
          replace IE := IE.on kb
          replace HX := HX.on kb
          replace IX := IX.on kb
          replace HD := HD.on kb
          clear kb
          clear hHeld
          clear HD
          refine ⟨.bool true, ret_bool h0, ⟨IX, IE⟩, fun hHeld => ?_⟩
          simp only [Act.put, List.setIfInBounds_toArray, List.set_cons_zero, List.set_cons_succ]
          refine wpAnyH_take (i := 20) (oi := ⟨_, _, _, _, _, _⟩) (v := .bool true) rfl (by kernel_rfl) (by kernel_rfl) (by kernel_rfl) (fun _ _ _ h => h) (yl_move (by rfl) _ rfl _ rfl) (by assumption) ?_
          simp only [Act.put, List.setIfInBounds_toArray, List.set_cons_zero, List.set_cons_succ]
          refine wpAnyH_take (i := 21) (oi := ⟨_, _, _, _, _, _⟩) (v := EC.val x) rfl (by kernel_rfl) (by kernel_rfl) (by kernel_rfl) (fun _ _ _ h => h) (yl_ex (by rfl) _ rfl _ 0 rfl _ (fun _ h => ExIn.ec h.1)) (by assumption) ?_
          simp only [Act.put, List.setIfInBounds_toArray, List.set_cons_zero, List.set_cons_succ]
          refine wpAnyH_take (i := 22) (oi := ⟨_, _, _, _, _, _⟩) (v := evVal e) rfl (by kernel_rfl) (by kernel_rfl) (by kernel_rfl) (fun _ _ _ h => h) (yl_ev (by rfl) _ rfl _ 0 rfl _ _ _ _ _ _ _ _ _ _ _ _ (fun _ h => evCells h.2)) (by assumption) ?_
          simp only [Act.put, List.setIfInBounds_toArray, List.set_cons_zero, List.set_cons_succ]
          refine held_call (o := ⟨_, _, _, _, _, _⟩) 23 (by kernel_rfl) rfl (by rfl) 27 _ _ rfl #[EC.val x, evVal e] rfl (run_call Try.func27 (by kernel_rfl) (by kernel_rfl)) ?_
          refine (c_refIs HX hf hR).mono ?_
          rintro r v17 ⟨rfl, kb⟩
          replace D := D.trans (kb.mono D.size)
          replace HS := HS.on kb
          replace IS := IS.on kb
          replace IE := IE.on kb
          replace HX := HX.on kb
          replace IX := IX.on kb
          clear kb
          clear hHeld
          refine ⟨.bool true, ret_bool hI, ⟨IX, IE⟩, fun hHeld => ?_⟩
          simp only [Act.put, List.setIfInBounds_toArray, List.set_cons_zero, List.set_cons_succ]
          refine wpAnyH_take (i := 24) (oi := ⟨_, _, _, _, _, _⟩) (v := .bool false) rfl (by kernel_rfl) (by kernel_rfl) (by kernel_rfl) (fun _ _ _ h => h) (yl_not (by rfl) _ _ rfl true rfl) (by assumption) ?_
          simp only [Act.put, List.setIfInBounds_toArray, List.set_cons_zero, List.set_cons_succ]
          refine wpAnyH_take (i := 25) (oi := ⟨_, _, _, _, _, _⟩) (v := .bool false) rfl (by kernel_rfl) (by kernel_rfl) (by kernel_rfl) (fun _ _ _ h => h) (yl_pickT (by rfl) _ _ _ rfl rfl _ rfl) (by assumption) ?_
          simp only [Act.put, List.setIfInBounds_toArray, List.set_cons_zero, List.set_cons_succ]
          refine wpAnyH_take (i := 26) (oi := ⟨_, _, _, _, _, _⟩) (v := .bool true) rfl (by kernel_rfl) (by kernel_rfl) (by kernel_rfl) (fun _ _ _ h => h) (yl_eqB (by rfl) _ _ _ rfl false false rfl rfl) (by assumption) ?_
          simp only [Act.put, List.setIfInBounds_toArray, List.set_cons_zero, List.set_cons_succ]
          refine wpAnyH_take (i := 27) (oi := ⟨_, _, _, _, _, _⟩) (v := .bool true) rfl (by kernel_rfl) (by kernel_rfl) (by kernel_rfl) (fun _ _ _ h => h) (yl_pickT (by rfl) _ _ _ rfl rfl _ rfl) (by assumption) ?_
          simp only [Act.put, List.setIfInBounds_toArray, List.set_cons_zero, List.set_cons_succ]
          refine wpAnyH_take (i := 28) (oi := ⟨_, _, _, _, _, _⟩) (v := .bool true) rfl (by kernel_rfl) (by kernel_rfl) (by kernel_rfl) (fun _ _ _ h => h) (yl_assign (by rfl) _ rfl _ rfl) (by assumption) ?_
          simp only [Act.put, List.setIfInBounds_toArray, List.set_cons_zero, List.set_cons_succ]
          refine wpAnyH_done (by kernel_rfl) ?_ _
          clear hHeld
          refine hK7 _ _ ?_
          clear hK7 K7
          refine wp_ret ?_
          go_ret
          exact ⟨rfl, D⟩
end Go.Proofs.Ytoplmioejebnnaa
