/-
  The walk of the law ExprTwice.
-/
import Derived.Test.YtoplmioejebnnaaXX0
import Derived.Deep.CutRange
set_option linter.unusedSimpArgs false
set_option linter.unusedVariables false
namespace Go.Proofs.Ytoplmioejebnnaa
open Go.RowKit

theorem twice_all {x : ExV} {e : EvV} (hR : rightX x = true) : ∀ y ∈ [notX (notX x), andX [x, andX []], orX [orX [], x], andX [x, x], orX [x, x], andX [x], orX [x]], rightX y = true → evalX y e = evalX x e := by
  intro y hy
  simp only [List.mem_cons, List.not_mem_nil, or_false] at hy
  rcases hy with rfl | rfl | rfl | rfl | rfl | rfl | rfl
  · exact fun h => twice_not hR h
  · exact fun h => twice_and hR h
  · exact fun h => twice_or hR h
  · exact fun h => twice_and2 hR h
  · exact fun h => twice_or2 hR h
  · exact fun h => twice_and1 hR h
  · exact fun h => twice_or1 hR h
theorem tw_mem (x : ExV) (k : Nat) (h : k < 7) : List.getD [notX (notX x), andX [x, andX []], orX [orX [], x], andX [x, x], orX [x, x], andX [x], orX [x]] k noX ∈ [notX (notX x), andX [x, andX []], orX [orX [], x], andX [x, x], orX [x, x], andX [x], orX [x]] := getD_mem (by simpa using h)
/-! ### What the operations of region 4 have made -/
def twR (c : EC) (x : ExV) : Nat → World → Vg → Prop
  | 0, _, y => y.1 = c.val
  | 1, w, y => ∃ d : EC, y.1 = d.val ∧ Xp 20 w d (notX x)
  | 2, w, y => ∃ d : EC, y.1 = d.val ∧ Xp 21 w d (notX (notX x))
  | 3, _, y => y.1 = c.val
  | 4, w, y => ∃ d : EC, y.1 = d.val ∧ Xp 1 w d (andX [])
  | 5, w, y => RowsX 19 w y.1 [x, andX []]
  | 6, w, y => ∃ d : EC, y.1 = d.val ∧ Xp 20 w d (andX [x, andX []])
  | 7, w, y => ∃ d : EC, y.1 = d.val ∧ Xp 1 w d (orX [])
  | 8, _, y => y.1 = c.val
  | 9, w, y => RowsX 19 w y.1 [orX [], x]
  | 10, w, y => ∃ d : EC, y.1 = d.val ∧ Xp 20 w d (orX [orX [], x])
  | 11, _, y => y.1 = c.val
  | 12, _, y => y.1 = c.val
  | 13, w, y => RowsX 19 w y.1 [x, x]
  | 14, w, y => ∃ d : EC, y.1 = d.val ∧ Xp 20 w d (andX [x, x])
  | 15, _, y => y.1 = c.val
  | 16, _, y => y.1 = c.val
  | 17, w, y => RowsX 19 w y.1 [x, x]
  | 18, w, y => ∃ d : EC, y.1 = d.val ∧ Xp 20 w d (orX [x, x])
  | 19, _, y => y.1 = c.val
  | 20, w, y => RowsX 19 w y.1 [x]
  | 21, w, y => ∃ d : EC, y.1 = d.val ∧ Xp 20 w d (andX [x])
  | 22, _, y => y.1 = c.val
  | 23, w, y => RowsX 19 w y.1 [x]
  | 24, w, y => ∃ d : EC, y.1 = d.val ∧ Xp 20 w d (orX [x])
  | 25, w, y => RowsX 21 w y.1 [notX (notX x), andX [x, andX []], orX [orX [], x], andX [x, x], orX [x, x], andX [x], orX [x]]
  | 26, _, y => y.1 = .int .i64 7
  | 27, _, y => y.1 = .int .i64 0
  | _ + 28, _, _ => True
theorem twR_on (c : EC) (x : ExV) : ∀ i w w' y, twR c x i w y → Below w.heap.size w w' → twR c x i w' y
  | 0, _, _, _, h, _ => h
  | 1, _, _, _, ⟨d, h, k⟩, hb => ⟨d, h, k.on hb⟩
  | 2, _, _, _, ⟨d, h, k⟩, hb => ⟨d, h, k.on hb⟩
  | 3, _, _, _, h, _ => h
  | 4, _, _, _, ⟨d, h, k⟩, hb => ⟨d, h, k.on hb⟩
  | 5, w, w', y, h, hb => RowsX.on (show RowsX 19 w y.1 _ from h) hb
  | 6, _, _, _, ⟨d, h, k⟩, hb => ⟨d, h, k.on hb⟩
  | 7, _, _, _, ⟨d, h, k⟩, hb => ⟨d, h, k.on hb⟩
  | 8, _, _, _, h, _ => h
  | 9, w, w', y, h, hb => RowsX.on (show RowsX 19 w y.1 _ from h) hb
  | 10, _, _, _, ⟨d, h, k⟩, hb => ⟨d, h, k.on hb⟩
  | 11, _, _, _, h, _ => h
  | 12, _, _, _, h, _ => h
  | 13, w, w', y, h, hb => RowsX.on (show RowsX 19 w y.1 _ from h) hb
  | 14, _, _, _, ⟨d, h, k⟩, hb => ⟨d, h, k.on hb⟩
  | 15, _, _, _, h, _ => h
  | 16, _, _, _, h, _ => h
  | 17, w, w', y, h, hb => RowsX.on (show RowsX 19 w y.1 _ from h) hb
  | 18, _, _, _, ⟨d, h, k⟩, hb => ⟨d, h, k.on hb⟩
  | 19, _, _, _, h, _ => h
  | 20, w, w', y, h, hb => RowsX.on (show RowsX 19 w y.1 _ from h) hb
  | 21, _, _, _, ⟨d, h, k⟩, hb => ⟨d, h, k.on hb⟩
  | 22, _, _, _, h, _ => h
  | 23, w, w', y, h, hb => RowsX.on (show RowsX 19 w y.1 _ from h) hb
  | 24, _, _, _, ⟨d, h, k⟩, hb => ⟨d, h, k.on hb⟩
  | 25, w, w', y, h, hb => RowsX.on (show RowsX 21 w y.1 _ from h) hb
  | 26, _, _, _, h, _ => h
  | 27, _, _, _, h, _ => h
  | _ + 28, _, _, _, _, _ => trivial
set_option maxHeartbeats 16000000 in
set_option maxRecDepth 100000 in
theorem exprTwice_walk (n : Nat) (c : EC) (x : ExV) (e : EvV) (w : World) (HX : Xp n w c x) (hf : evFit e) :
    Calls Try.prog 7 #[c.val, evVal e] w fun r w' => r = .returned (.bool true) ∧ Below w.heap.size w w' := by
  have D := Below.refl w.heap.size w
  go_enter Try.func7, Try.ntmps7
  refine wp_seq_k (fun K1 hK1 => ?_)
  refine wp_region_lit ?_
  refine wl_boxEx (o := ⟨_, _, _, _, _, _⟩) (by rfl) _ rfl rfl (fun v1 gb1 IX kb => ?_)
  simp only [Act.put, List.setIfInBounds_toArray, List.set_cons_zero, List.set_cons_succ]
  replace D := D.trans (kb.mono D.size)
  replace HX := HX.on kb
  clear kb
  refine wl_evBox (o := ⟨_, _, _, _, _, _⟩) (by rfl) _ rfl rfl (fun v2 gb2 IE kb => ?_)
  simp only [Act.put, List.setIfInBounds_toArray, List.set_cons_zero, List.set_cons_succ]
  replace D := D.trans (kb.mono D.size)
  replace HX := HX.on kb
  replace IX := IX.on kb
  clear kb
  refine wl_yield (o := ⟨_, _, _, _, _, _⟩) (.bool false) (yl_assign (by rfl) _ rfl _ rfl) ?_
  simp only [Act.put, List.setIfInBounds_toArray, List.set_cons_zero, List.set_cons_succ]
  refine wpList_nil ?_
  refine hK1 _ _ ?_
  clear hK1 K1
  refine wp_seq_k (fun K2 hK2 => ?_)
  refine wp_seq_k (fun K3 hK3 => ?_)
  refine wp_region_lit ?_
  refine wl_call (o := ⟨_, _, _, _, _, _⟩) (by rfl) 9 _ _ rfl #[] rfl (run_call Try.func9 (by kernel_rfl) (by kernel_rfl)) ?_
  refine (awake5_any _).mono ?_
  rintro r v3 ⟨rfl, kb⟩
  replace D := D.trans (kb.mono D.size)
  replace HX := HX.on kb
  replace IX := IX.on kb
  replace IE := IE.on kb
  clear kb
  refine ⟨.bool true, rfl, ?_⟩
  simp only [Act.put, List.setIfInBounds_toArray, List.set_cons_zero, List.set_cons_succ]
  refine wl_yield (o := ⟨_, _, _, _, _, _⟩) (.bool false) (yl_not (by rfl) _ _ rfl true rfl) ?_
  simp only [Act.put, List.setIfInBounds_toArray, List.set_cons_zero, List.set_cons_succ]
  refine wl_yield (o := ⟨_, _, _, _, _, _⟩) (.bool false) (yl_move (by rfl) _ rfl _ rfl) ?_
  simp only [Act.put, List.setIfInBounds_toArray, List.set_cons_zero, List.set_cons_succ]
  refine wl_yield (o := ⟨_, _, _, _, _, _⟩) (EC.val c) (yl_ex (by rfl) _ rfl _ 0 rfl _ (fun _ h => by subst h; exact ExIn.ec IX)) ?_
  simp only [Act.put, List.setIfInBounds_toArray, List.set_cons_zero, List.set_cons_succ]
  refine wl_call (o := ⟨_, _, _, _, _, _⟩) (by rfl) 10 _ _ rfl #[EC.val c] rfl (run_call Try.func10 (by kernel_rfl) (by kernel_rfl)) ?_
  refine (c_refFew HX).mono ?_
  rintro r v4 ⟨rfl, kb⟩
  replace D := D.trans (kb.mono D.size)
  replace HX := HX.on kb
  replace IX := IX.on kb
  replace IE := IE.on kb
  clear kb
  cases hF : fewX n x
  · refine ⟨.bool false, rfl, ?_⟩
    simp only [Act.put, List.setIfInBounds_toArray, List.set_cons_zero, List.set_cons_succ]
    refine wl_yield (o := ⟨_, _, _, _, _, _⟩) (.bool true) (yl_not (by rfl) _ _ rfl false rfl) ?_
    simp only [Act.put, List.setIfInBounds_toArray, List.set_cons_zero, List.set_cons_succ]
    refine wl_yield (o := ⟨_, _, _, _, _, _⟩) (.bool true) (yl_pickF (by rfl) _ _ _ rfl rfl _ rfl) ?_
    simp only [Act.put, List.setIfInBounds_toArray, List.set_cons_zero, List.set_cons_succ]
    refine wl_yield (o := ⟨_, _, _, _, _, _⟩) (.bool true) (yl_move (by rfl) _ rfl _ rfl) ?_
    simp only [Act.put, List.setIfInBounds_toArray, List.set_cons_zero, List.set_cons_succ]
    refine wl_yield (o := ⟨_, _, _, _, _, _⟩) undef (yl_undef (by rfl)) ?_
    simp only [Act.put, List.setIfInBounds_toArray, List.set_cons_zero, List.set_cons_succ]
    refine wl_yield (o := ⟨_, _, _, _, _, _⟩) undef (yl_undef (by rfl)) ?_
    simp only [Act.put, List.setIfInBounds_toArray, List.set_cons_zero, List.set_cons_succ]
    refine wl_yield (o := ⟨_, _, _, _, _, _⟩) undef (yl_undef (by rfl)) ?_
    simp only [Act.put, List.setIfInBounds_toArray, List.set_cons_zero, List.set_cons_succ]
    refine wl_yield (o := ⟨_, _, _, _, _, _⟩) (.bool true) (yl_pickT (by rfl) _ _ _ rfl rfl _ rfl) ?_
    simp only [Act.put, List.setIfInBounds_toArray, List.set_cons_zero, List.set_cons_succ]
    refine wpList_nil ?_
    refine hK3 _ _ ?_
    clear hK3 K3
    refine wp_cond_true rfl ?_
    refine wp_seq_k (fun K4 hK4 => ?_)
    refine wp_region_lit ?_
    refine wl_call (o := ⟨_, _, _, _, _, _⟩) (by rfl) 9 _ _ rfl #[] rfl (run_call Try.func9 (by kernel_rfl) (by kernel_rfl)) ?_
    refine (awake5_any _).mono ?_
    rintro r v5 ⟨rfl, kb⟩
    replace D := D.trans (kb.mono D.size)
    replace HX := HX.on kb
    replace IX := IX.on kb
    replace IE := IE.on kb
    clear kb
    refine ⟨.bool true, rfl, ?_⟩
    simp only [Act.put, List.setIfInBounds_toArray, List.set_cons_zero, List.set_cons_succ]
    refine wl_yield (o := ⟨_, _, _, _, _, _⟩) (.bool true) (yl_assign (by rfl) _ rfl _ rfl) ?_
    simp only [Act.put, List.setIfInBounds_toArray, List.set_cons_zero, List.set_cons_succ]
    refine wpList_nil ?_
    refine hK4 _ _ ?_
    clear hK4 K4
    refine wp_ret ?_
    go_ret
    exact ⟨rfl, D⟩
  · refine ⟨.bool true, rfl, ?_⟩
    simp only [Act.put, List.setIfInBounds_toArray, List.set_cons_zero, List.set_cons_succ]
    refine wl_yield (o := ⟨_, _, _, _, _, _⟩) (.bool false) (yl_not (by rfl) _ _ rfl true rfl) ?_
    simp only [Act.put, List.setIfInBounds_toArray, List.set_cons_zero, List.set_cons_succ]
    refine wl_yield (o := ⟨_, _, _, _, _, _⟩) (.bool false) (yl_pickF (by rfl) _ _ _ rfl rfl _ rfl) ?_
    simp only [Act.put, List.setIfInBounds_toArray, List.set_cons_zero, List.set_cons_succ]
    refine wl_yield (o := ⟨_, _, _, _, _, _⟩) (.bool false) (yl_move (by rfl) _ rfl _ rfl) ?_
    simp only [Act.put, List.setIfInBounds_toArray, List.set_cons_zero, List.set_cons_succ]
    refine wl_yield (o := ⟨_, _, _, _, _, _⟩) (EC.val c) (yl_ex (by rfl) _ rfl _ 0 rfl _ (fun _ h => by subst h; exact ExIn.ec IX)) ?_
    simp only [Act.put, List.setIfInBounds_toArray, List.set_cons_zero, List.set_cons_succ]
    refine wl_call (o := ⟨_, _, _, _, _, _⟩) (by rfl) 16 _ _ rfl #[EC.val c] rfl (run_call Try.func16 (by kernel_rfl) (by kernel_rfl)) ?_
    refine (c_refRight HX).mono ?_
    rintro r v5 ⟨rfl, kb⟩
    replace D := D.trans (kb.mono D.size)
    replace HX := HX.on kb
    replace IX := IX.on kb
    replace IE := IE.on kb
    clear kb
    cases hR : rightX x
    · refine ⟨.bool false, rfl, ?_⟩
      simp only [Act.put, List.setIfInBounds_toArray, List.set_cons_zero, List.set_cons_succ]
      refine wl_yield (o := ⟨_, _, _, _, _, _⟩) (.bool true) (yl_not (by rfl) _ _ rfl false rfl) ?_
      simp only [Act.put, List.setIfInBounds_toArray, List.set_cons_zero, List.set_cons_succ]
      refine wl_yield (o := ⟨_, _, _, _, _, _⟩) (.bool true) (yl_pickF (by rfl) _ _ _ rfl rfl _ rfl) ?_
      simp only [Act.put, List.setIfInBounds_toArray, List.set_cons_zero, List.set_cons_succ]
      refine wpList_nil ?_
      refine hK3 _ _ ?_
      clear hK3 K3
      refine wp_cond_true rfl ?_
      refine wp_seq_k (fun K4 hK4 => ?_)
      refine wp_region_lit ?_
      refine wl_call (o := ⟨_, _, _, _, _, _⟩) (by rfl) 9 _ _ rfl #[] rfl (run_call Try.func9 (by kernel_rfl) (by kernel_rfl)) ?_
      refine (awake5_any _).mono ?_
      rintro r v6 ⟨rfl, kb⟩
      replace D := D.trans (kb.mono D.size)
      replace HX := HX.on kb
      replace IX := IX.on kb
      replace IE := IE.on kb
      clear kb
      refine ⟨.bool true, rfl, ?_⟩
      simp only [Act.put, List.setIfInBounds_toArray, List.set_cons_zero, List.set_cons_succ]
      refine wl_yield (o := ⟨_, _, _, _, _, _⟩) (.bool true) (yl_assign (by rfl) _ rfl _ rfl) ?_
      simp only [Act.put, List.setIfInBounds_toArray, List.set_cons_zero, List.set_cons_succ]
      refine wpList_nil ?_
      refine hK4 _ _ ?_
      clear hK4 K4
      refine wp_ret ?_
      go_ret
      exact ⟨rfl, D⟩
    · refine ⟨.bool true, rfl, ?_⟩
      simp only [Act.put, List.setIfInBounds_toArray, List.set_cons_zero, List.set_cons_succ]
      refine wl_yield (o := ⟨_, _, _, _, _, _⟩) (.bool false) (yl_not (by rfl) _ _ rfl true rfl) ?_
      simp only [Act.put, List.setIfInBounds_toArray, List.set_cons_zero, List.set_cons_succ]
      refine wl_yield (o := ⟨_, _, _, _, _, _⟩) (.bool false) (yl_pickF (by rfl) _ _ _ rfl rfl _ rfl) ?_
      simp only [Act.put, List.setIfInBounds_toArray, List.set_cons_zero, List.set_cons_succ]
      refine wpList_nil ?_
      refine hK3 _ _ ?_
      clear hK3 K3
      refine wp_cond_false rfl ?_
      refine wp_skip ?_
      refine hK2 _ _ ?_
      clear hK2 K2
      obtain ⟨H19, hcp⟩ := few_cp HX hF
      replace HX := H19
      clear H19 hF
      refine wp_seq_k (fun K4 hK4 => ?_)
      refine wp_region_lit ?_
      refine wl_yield (o := ⟨_, _, _, _, _, _⟩) (EC.val c) (yl_ex (by rfl) _ rfl _ 0 rfl _ (fun _ h => by subst h; exact ExIn.ec IX)) ?_
      simp only [Act.put, List.setIfInBounds_toArray, List.set_cons_zero, List.set_cons_succ]
      refine wl_yield (o := ⟨_, _, _, _, _, _⟩) (evVal e) (yl_ev (by rfl) _ rfl _ 0 rfl _ _ _ _ _ _ _ _ _ _ _ _ (fun _ h => by subst h; exact evCells IE)) ?_
      simp only [Act.put, List.setIfInBounds_toArray, List.set_cons_zero, List.set_cons_succ]
      refine wl_call (o := ⟨_, _, _, _, _, _⟩) (by rfl) 17 _ _ rfl #[EC.val c, evVal e] rfl (run_call Try.func17 (by kernel_rfl) (by kernel_rfl)) ?_
      refine (c_eval HX (by omega) hf).mono ?_
      rintro r v6 ⟨rfl, kb⟩
      replace D := D.trans (kb.mono D.size)
      replace HX := HX.on kb
      replace IX := IX.on kb
      replace IE := IE.on kb
      clear kb
      cases hE : evalX x e
      · refine ⟨.bool false, rfl, ?_⟩
        simp only [Act.put, List.setIfInBounds_toArray, List.set_cons_zero, List.set_cons_succ]
        refine wl_yield (o := ⟨_, _, _, _, _, _⟩) (.bool false) (yl_assign (by rfl) _ rfl _ rfl) ?_
        simp only [Act.put, List.setIfInBounds_toArray, List.set_cons_zero, List.set_cons_succ]
        refine wpList_nil ?_
        refine hK4 _ _ ?_
        clear hK4 K4
        refine wp_seq_k (fun K5 hK5 => ?_)
        refine wp_seq_k (fun K4 hK4 => ?_)
        refine wp_region_any (by kernel_rfl) ?_
        have T0 : Below v6.heap.size v6 { v6 with drawn := v6.drawn + 1 } := (Below.refl _ v6).drew
        refine wpAny_slots 28 (fun Y => { tmps := #[EC.val c, evVal e, .pointer (some ⟨gb1, 0, none⟩), .pointer (some ⟨gb2, 0, none⟩), .bool false, .bool false, undef, undef, .bool true, .bool false, .bool false, EC.val c, .bool true, .bool false, .bool false, .bool false, EC.val c, .bool true, .bool false, .bool false, undef, EC.val c, evVal e, .bool false, (Y 24).1, (Y 25).1, (Y 26).1, (Y 27).1, (Y 28).1, (Y 29).1, (Y 30).1, (Y 31).1, (Y 32).1, (Y 33).1, (Y 34).1, (Y 35).1, (Y 36).1, (Y 37).1, (Y 38).1, (Y 39).1, (Y 40).1, (Y 41).1, (Y 42).1, (Y 43).1, (Y 44).1, (Y 45).1, (Y 46).1, (Y 47).1, (Y 48).1, (Y 49).1, (Y 50).1, (Y 51).1, undef, undef, undef, undef, undef, undef, undef, undef, undef, undef, undef, undef, undef], defers := [] }) (fun i => i + 24) (twR c x) v6 (fun i o ho e he => acyc_of (by kernel_rfl) i o ho e he) (fun i o hi ho => absurd (Array.getElem?_eq_some_iff.1 ho).1 (by simp; omega)) (by simp) (fun i j _ _ h => by simpa using h) (twR_on c x) ?step ?done _ _ (fun _ => (undef, 0, 0)) _ (by simp) unlisted_all (fun j _ => by simp [Array.getD_eq_getD_getElem?, Array.getElem?_replicate]; split <;> rfl) T0 (fun j _ h => by simp [Array.getD_eq_getD_getElem?, Array.getElem?_replicate] at h; split at h <;> cases h) (fun i j _ _ _ h => by simp [Array.getD_eq_getD_getElem?, Array.getElem?_replicate] at h; split at h <;> cases h)
        case step =>
          intro i hi l Y v hB hRR hA
          have HX := HX.on hB
          have IX := IX.on hB
          clear T0
          match i, hi with
          | 0, _ =>
            refine wpOp_yield (o := ⟨_, _, _, _, _, _⟩) rfl (by rfl) c.val (yl_ex (by rfl) _ rfl _ 0 rfl c (fun _ h => by subst h; exact IX.ec)) ?_
            exact ⟨(c.val, v.heap.size, v.heap.size), rfl, Below.refl _ _, rfl, Nat.le_refl _, Nat.le_refl _⟩
          | 1, _ =>
            have h0 : (Y 24).1 = c.val := hRR 0 (by omega) (hA _ rfl ⟨0, .data⟩ (by simp) rfl)
            refine op_call (o := ⟨_, _, _, _, _, _⟩) rfl (by rfl) 21 _ _ rfl #[(Y 24).1] rfl (run_call Try.func21 (by kernel_rfl) (by kernel_rfl)) ?_
            have con := c_not HX hcp
            rw [← h0] at con
            refine (con).mono ?_
            rintro r v' ⟨⟨d, rfl, hd⟩, kb⟩
            exact ⟨d.val, rfl, (d.val, v.heap.size, v'.heap.size), rfl, kb, ⟨d, rfl, hd⟩, Nat.le_refl _, Nat.le_refl _⟩
          | 2, _ =>
            obtain ⟨d0, h0, k0⟩ := hRR 1 (by omega) (hA _ rfl ⟨1, .data⟩ (by simp) rfl)
            refine op_call (o := ⟨_, _, _, _, _, _⟩) rfl (by rfl) 21 _ _ rfl #[(Y 25).1] rfl (run_call Try.func21 (by kernel_rfl) (by kernel_rfl)) ?_
            have con := c_not k0 (cp_not hcp)
            rw [← h0] at con
            refine (con).mono ?_
            rintro r v' ⟨⟨d, rfl, hd⟩, kb⟩
            exact ⟨d.val, rfl, (d.val, v.heap.size, v'.heap.size), rfl, kb, ⟨d, rfl, hd⟩, Nat.le_refl _, Nat.le_refl _⟩
          | 3, _ =>
            refine wpOp_yield (o := ⟨_, _, _, _, _, _⟩) rfl (by rfl) c.val (yl_ex (by rfl) _ rfl _ 0 rfl c (fun _ h => by subst h; exact IX.ec)) ?_
            exact ⟨(c.val, v.heap.size, v.heap.size), rfl, Below.refl _ _, rfl, Nat.le_refl _, Nat.le_refl _⟩
          | 4, _ =>
            refine op_call (o := ⟨_, _, _, _, _, _⟩) rfl (by rfl) 19 _ _ rfl #[.slice none 0 0] rfl (run_call Try.func19 (by kernel_rfl) (by kernel_rfl)) ?_
            refine (c_and0 _).mono ?_
            rintro r v' ⟨⟨d, rfl, hd⟩, kb⟩
            exact ⟨d.val, rfl, (d.val, v.heap.size, v'.heap.size), rfl, kb, ⟨d, rfl, hd⟩, Nat.le_refl _, Nat.le_refl _⟩
          | 5, _ =>
            have h0 : (Y 27).1 = c.val := hRR 3 (by omega) (hA _ rfl ⟨3, .data⟩ (by simp) rfl)
            obtain ⟨d1, h1, k1⟩ := hRR 4 (by omega) (hA _ rfl ⟨4, .data⟩ (by simp) rfl)
            refine wpOp_run (o := ⟨_, _, _, _, _, _⟩) rfl (by rfl) (.slice (some ⟨v.heap.size, 0, none⟩) 2 2) (v.alloc (rowObj [c, d1])) (rn_row2 _ rfl h0 h1) ?_
            exact ⟨(.slice (some ⟨v.heap.size, 0, none⟩) 2 2, v.heap.size, v.heap.size + 1), rfl, (Below.refl _ v).alloc (Nat.le_refl _) _, rows_new 19 v [(c, x), (d1, andX [])] (by intro q hq; simp only [List.mem_cons, List.not_mem_nil, or_false] at hq; rcases hq with rfl | rfl <;> first | exact ExAt.more _ _ (by omega) HX | exact ExAt.more _ _ (by omega) k1), Nat.le_refl _, by simp⟩
          | 6, _ =>
            obtain h0 : RowsX 19 v (Y 29).1 [x, andX []] := hRR 5 (by omega) (hA _ rfl ⟨5, .data⟩ (by simp) rfl)
            refine op_call (o := ⟨_, _, _, _, _, _⟩) rfl (by rfl) 19 _ _ rfl #[(Y 29).1] rfl (run_call Try.func19 (by kernel_rfl) (by kernel_rfl)) ?_
            refine (c_and h0 (by simp) (cp_xa hcp)).mono ?_
            rintro r v' ⟨⟨d, rfl, hd⟩, kb⟩
            exact ⟨d.val, rfl, (d.val, v.heap.size, v'.heap.size), rfl, kb, ⟨d, rfl, hd⟩, Nat.le_refl _, Nat.le_refl _⟩
          | 7, _ =>
            refine op_call (o := ⟨_, _, _, _, _, _⟩) rfl (by rfl) 20 _ _ rfl #[.slice none 0 0] rfl (run_call Try.func20 (by kernel_rfl) (by kernel_rfl)) ?_
            refine (c_or0 _).mono ?_
            rintro r v' ⟨⟨d, rfl, hd⟩, kb⟩
            exact ⟨d.val, rfl, (d.val, v.heap.size, v'.heap.size), rfl, kb, ⟨d, rfl, hd⟩, Nat.le_refl _, Nat.le_refl _⟩
          | 8, _ =>
            refine wpOp_yield (o := ⟨_, _, _, _, _, _⟩) rfl (by rfl) c.val (yl_ex (by rfl) _ rfl _ 0 rfl c (fun _ h => by subst h; exact IX.ec)) ?_
            exact ⟨(c.val, v.heap.size, v.heap.size), rfl, Below.refl _ _, rfl, Nat.le_refl _, Nat.le_refl _⟩
          | 9, _ =>
            obtain ⟨d0, h0, k0⟩ := hRR 7 (by omega) (hA _ rfl ⟨7, .data⟩ (by simp) rfl)
            have h1 : (Y 32).1 = c.val := hRR 8 (by omega) (hA _ rfl ⟨8, .data⟩ (by simp) rfl)
            refine wpOp_run (o := ⟨_, _, _, _, _, _⟩) rfl (by rfl) (.slice (some ⟨v.heap.size, 0, none⟩) 2 2) (v.alloc (rowObj [d0, c])) (rn_row2 _ rfl h0 h1) ?_
            exact ⟨(.slice (some ⟨v.heap.size, 0, none⟩) 2 2, v.heap.size, v.heap.size + 1), rfl, (Below.refl _ v).alloc (Nat.le_refl _) _, rows_new 19 v [(d0, orX []), (c, x)] (by intro q hq; simp only [List.mem_cons, List.not_mem_nil, or_false] at hq; rcases hq with rfl | rfl <;> first | exact ExAt.more _ _ (by omega) HX | exact ExAt.more _ _ (by omega) k0), Nat.le_refl _, by simp⟩
          | 10, _ =>
            obtain h0 : RowsX 19 v (Y 33).1 [orX [], x] := hRR 9 (by omega) (hA _ rfl ⟨9, .data⟩ (by simp) rfl)
            refine op_call (o := ⟨_, _, _, _, _, _⟩) rfl (by rfl) 20 _ _ rfl #[(Y 33).1] rfl (run_call Try.func20 (by kernel_rfl) (by kernel_rfl)) ?_
            refine (c_or h0 (by simp) (cp_ox hcp)).mono ?_
            rintro r v' ⟨⟨d, rfl, hd⟩, kb⟩
            exact ⟨d.val, rfl, (d.val, v.heap.size, v'.heap.size), rfl, kb, ⟨d, rfl, hd⟩, Nat.le_refl _, Nat.le_refl _⟩
          | 11, _ =>
            refine wpOp_yield (o := ⟨_, _, _, _, _, _⟩) rfl (by rfl) c.val (yl_ex (by rfl) _ rfl _ 0 rfl c (fun _ h => by subst h; exact IX.ec)) ?_
            exact ⟨(c.val, v.heap.size, v.heap.size), rfl, Below.refl _ _, rfl, Nat.le_refl _, Nat.le_refl _⟩
          | 12, _ =>
            refine wpOp_yield (o := ⟨_, _, _, _, _, _⟩) rfl (by rfl) c.val (yl_ex (by rfl) _ rfl _ 0 rfl c (fun _ h => by subst h; exact IX.ec)) ?_
            exact ⟨(c.val, v.heap.size, v.heap.size), rfl, Below.refl _ _, rfl, Nat.le_refl _, Nat.le_refl _⟩
          | 13, _ =>
            have h0 : (Y 35).1 = c.val := hRR 11 (by omega) (hA _ rfl ⟨11, .data⟩ (by simp) rfl)
            have h1 : (Y 36).1 = c.val := hRR 12 (by omega) (hA _ rfl ⟨12, .data⟩ (by simp) rfl)
            refine wpOp_run (o := ⟨_, _, _, _, _, _⟩) rfl (by rfl) (.slice (some ⟨v.heap.size, 0, none⟩) 2 2) (v.alloc (rowObj [c, c])) (rn_row2 _ rfl h0 h1) ?_
            exact ⟨(.slice (some ⟨v.heap.size, 0, none⟩) 2 2, v.heap.size, v.heap.size + 1), rfl, (Below.refl _ v).alloc (Nat.le_refl _) _, rows_new 19 v [(c, x), (c, x)] (by intro q hq; simp only [List.mem_cons, List.not_mem_nil, or_false] at hq; rcases hq with rfl | rfl <;> first | exact ExAt.more _ _ (by omega) HX), Nat.le_refl _, by simp⟩
          | 14, _ =>
            obtain h0 : RowsX 19 v (Y 37).1 [x, x] := hRR 13 (by omega) (hA _ rfl ⟨13, .data⟩ (by simp) rfl)
            refine op_call (o := ⟨_, _, _, _, _, _⟩) rfl (by rfl) 19 _ _ rfl #[(Y 37).1] rfl (run_call Try.func19 (by kernel_rfl) (by kernel_rfl)) ?_
            refine (c_and h0 (by simp) (cp_xx hcp)).mono ?_
            rintro r v' ⟨⟨d, rfl, hd⟩, kb⟩
            exact ⟨d.val, rfl, (d.val, v.heap.size, v'.heap.size), rfl, kb, ⟨d, rfl, hd⟩, Nat.le_refl _, Nat.le_refl _⟩
          | 15, _ =>
            refine wpOp_yield (o := ⟨_, _, _, _, _, _⟩) rfl (by rfl) c.val (yl_ex (by rfl) _ rfl _ 0 rfl c (fun _ h => by subst h; exact IX.ec)) ?_
            exact ⟨(c.val, v.heap.size, v.heap.size), rfl, Below.refl _ _, rfl, Nat.le_refl _, Nat.le_refl _⟩
          | 16, _ =>
            refine wpOp_yield (o := ⟨_, _, _, _, _, _⟩) rfl (by rfl) c.val (yl_ex (by rfl) _ rfl _ 0 rfl c (fun _ h => by subst h; exact IX.ec)) ?_
            exact ⟨(c.val, v.heap.size, v.heap.size), rfl, Below.refl _ _, rfl, Nat.le_refl _, Nat.le_refl _⟩
          | 17, _ =>
            have h0 : (Y 39).1 = c.val := hRR 15 (by omega) (hA _ rfl ⟨15, .data⟩ (by simp) rfl)
            have h1 : (Y 40).1 = c.val := hRR 16 (by omega) (hA _ rfl ⟨16, .data⟩ (by simp) rfl)
            refine wpOp_run (o := ⟨_, _, _, _, _, _⟩) rfl (by rfl) (.slice (some ⟨v.heap.size, 0, none⟩) 2 2) (v.alloc (rowObj [c, c])) (rn_row2 _ rfl h0 h1) ?_
            exact ⟨(.slice (some ⟨v.heap.size, 0, none⟩) 2 2, v.heap.size, v.heap.size + 1), rfl, (Below.refl _ v).alloc (Nat.le_refl _) _, rows_new 19 v [(c, x), (c, x)] (by intro q hq; simp only [List.mem_cons, List.not_mem_nil, or_false] at hq; rcases hq with rfl | rfl <;> first | exact ExAt.more _ _ (by omega) HX), Nat.le_refl _, by simp⟩
          | 18, _ =>
            obtain h0 : RowsX 19 v (Y 41).1 [x, x] := hRR 17 (by omega) (hA _ rfl ⟨17, .data⟩ (by simp) rfl)
            refine op_call (o := ⟨_, _, _, _, _, _⟩) rfl (by rfl) 20 _ _ rfl #[(Y 41).1] rfl (run_call Try.func20 (by kernel_rfl) (by kernel_rfl)) ?_
            refine (c_or h0 (by simp) (cp_xx hcp)).mono ?_
            rintro r v' ⟨⟨d, rfl, hd⟩, kb⟩
            exact ⟨d.val, rfl, (d.val, v.heap.size, v'.heap.size), rfl, kb, ⟨d, rfl, hd⟩, Nat.le_refl _, Nat.le_refl _⟩
          | 19, _ =>
            refine wpOp_yield (o := ⟨_, _, _, _, _, _⟩) rfl (by rfl) c.val (yl_ex (by rfl) _ rfl _ 0 rfl c (fun _ h => by subst h; exact IX.ec)) ?_
            exact ⟨(c.val, v.heap.size, v.heap.size), rfl, Below.refl _ _, rfl, Nat.le_refl _, Nat.le_refl _⟩
          | 20, _ =>
            have h0 : (Y 43).1 = c.val := hRR 19 (by omega) (hA _ rfl ⟨19, .data⟩ (by simp) rfl)
            refine wpOp_run (o := ⟨_, _, _, _, _, _⟩) rfl (by rfl) (.slice (some ⟨v.heap.size, 0, none⟩) 1 1) (v.alloc (rowObj [c])) (rn_row1 _ rfl h0) ?_
            exact ⟨(.slice (some ⟨v.heap.size, 0, none⟩) 1 1, v.heap.size, v.heap.size + 1), rfl, (Below.refl _ v).alloc (Nat.le_refl _) _, rows_new 19 v [(c, x)] (by intro q hq; simp only [List.mem_cons, List.not_mem_nil, or_false] at hq; rcases hq with rfl <;> first | exact ExAt.more _ _ (by omega) HX), Nat.le_refl _, by simp⟩
          | 21, _ =>
            obtain h0 : RowsX 19 v (Y 44).1 [x] := hRR 20 (by omega) (hA _ rfl ⟨20, .data⟩ (by simp) rfl)
            refine op_call (o := ⟨_, _, _, _, _, _⟩) rfl (by rfl) 19 _ _ rfl #[(Y 44).1] rfl (run_call Try.func19 (by kernel_rfl) (by kernel_rfl)) ?_
            refine (c_and h0 (by simp) (cp_x1 hcp)).mono ?_
            rintro r v' ⟨⟨d, rfl, hd⟩, kb⟩
            exact ⟨d.val, rfl, (d.val, v.heap.size, v'.heap.size), rfl, kb, ⟨d, rfl, hd⟩, Nat.le_refl _, Nat.le_refl _⟩
          | 22, _ =>
            refine wpOp_yield (o := ⟨_, _, _, _, _, _⟩) rfl (by rfl) c.val (yl_ex (by rfl) _ rfl _ 0 rfl c (fun _ h => by subst h; exact IX.ec)) ?_
            exact ⟨(c.val, v.heap.size, v.heap.size), rfl, Below.refl _ _, rfl, Nat.le_refl _, Nat.le_refl _⟩
          | 23, _ =>
            have h0 : (Y 46).1 = c.val := hRR 22 (by omega) (hA _ rfl ⟨22, .data⟩ (by simp) rfl)
            refine wpOp_run (o := ⟨_, _, _, _, _, _⟩) rfl (by rfl) (.slice (some ⟨v.heap.size, 0, none⟩) 1 1) (v.alloc (rowObj [c])) (rn_row1 _ rfl h0) ?_
            exact ⟨(.slice (some ⟨v.heap.size, 0, none⟩) 1 1, v.heap.size, v.heap.size + 1), rfl, (Below.refl _ v).alloc (Nat.le_refl _) _, rows_new 19 v [(c, x)] (by intro q hq; simp only [List.mem_cons, List.not_mem_nil, or_false] at hq; rcases hq with rfl <;> first | exact ExAt.more _ _ (by omega) HX), Nat.le_refl _, by simp⟩
          | 24, _ =>
            obtain h0 : RowsX 19 v (Y 47).1 [x] := hRR 23 (by omega) (hA _ rfl ⟨23, .data⟩ (by simp) rfl)
            refine op_call (o := ⟨_, _, _, _, _, _⟩) rfl (by rfl) 20 _ _ rfl #[(Y 47).1] rfl (run_call Try.func20 (by kernel_rfl) (by kernel_rfl)) ?_
            refine (c_or h0 (by simp) (cp_x1 hcp)).mono ?_
            rintro r v' ⟨⟨d, rfl, hd⟩, kb⟩
            exact ⟨d.val, rfl, (d.val, v.heap.size, v'.heap.size), rfl, kb, ⟨d, rfl, hd⟩, Nat.le_refl _, Nat.le_refl _⟩
          | 25, _ =>
            obtain ⟨d0, h0, k0⟩ := hRR 2 (by omega) (hA _ rfl ⟨2, .data⟩ (by simp) rfl)
            obtain ⟨d1, h1, k1⟩ := hRR 6 (by omega) (hA _ rfl ⟨6, .data⟩ (by simp) rfl)
            obtain ⟨d2, h2, k2⟩ := hRR 10 (by omega) (hA _ rfl ⟨10, .data⟩ (by simp) rfl)
            obtain ⟨d3, h3, k3⟩ := hRR 14 (by omega) (hA _ rfl ⟨14, .data⟩ (by simp) rfl)
            obtain ⟨d4, h4, k4⟩ := hRR 18 (by omega) (hA _ rfl ⟨18, .data⟩ (by simp) rfl)
            obtain ⟨d5, h5, k5⟩ := hRR 21 (by omega) (hA _ rfl ⟨21, .data⟩ (by simp) rfl)
            obtain ⟨d6, h6, k6⟩ := hRR 24 (by omega) (hA _ rfl ⟨24, .data⟩ (by simp) rfl)
            refine wpOp_run (o := ⟨_, _, _, _, _, _⟩) rfl (by rfl) (.slice (some ⟨v.heap.size, 0, none⟩) 7 7) (v.alloc (rowObj [d0, d1, d2, d3, d4, d5, d6])) (rn_row7 _ rfl h0 h1 h2 h3 h4 h5 h6) ?_
            exact ⟨(.slice (some ⟨v.heap.size, 0, none⟩) 7 7, v.heap.size, v.heap.size + 1), rfl, (Below.refl _ v).alloc (Nat.le_refl _) _, rows_new 21 v [(d0, notX (notX x)), (d1, andX [x, andX []]), (d2, orX [orX [], x]), (d3, andX [x, x]), (d4, orX [x, x]), (d5, andX [x]), (d6, orX [x])] (by intro q hq; simp only [List.mem_cons, List.not_mem_nil, or_false] at hq; rcases hq with rfl | rfl | rfl | rfl | rfl | rfl | rfl <;> first | exact ExAt.more _ _ (by omega) HX | exact ExAt.more _ _ (by omega) k0 | exact ExAt.more _ _ (by omega) k1 | exact ExAt.more _ _ (by omega) k2 | exact ExAt.more _ _ (by omega) k3 | exact ExAt.more _ _ (by omega) k4 | exact ExAt.more _ _ (by omega) k5 | exact ExAt.more _ _ (by omega) k6), Nat.le_refl _, by simp⟩
          | 26, _ =>
            obtain ⟨p, k, h0, _⟩ : RowsX 21 v (Y 49).1 [notX (notX x), andX [x, andX []], orX [orX [], x], andX [x, x], orX [x, x], andX [x], orX [x]] := hRR 25 (by omega) (hA _ rfl ⟨25, .data⟩ (by simp) rfl)
            have h1 : (Y 49).1 = .slice p 7 k := h0
            refine wpOp_yield (o := ⟨_, _, _, _, _, _⟩) rfl (by rfl) (.int .i64 7) (yl_lenEx (by rfl) (.tmp 49) rfl p 7 k h1) ?_
            exact ⟨(.int .i64 7, v.heap.size, v.heap.size), rfl, Below.refl _ _, rfl, Nat.le_refl _, Nat.le_refl _⟩
          | 27, _ =>
            refine wpOp_yield (o := ⟨_, _, _, _, _, _⟩) rfl (by rfl) (.int .i64 0) (yl_move (by rfl) _ rfl _ rfl) ?_
            exact ⟨(.int .i64 0, v.heap.size, v.heap.size), rfl, Below.refl _ _, rfl, Nat.le_refl _, Nat.le_refl _⟩
          | m + 28, hm => exact absurd hm (by omega)
        case done =>
          intro fuel l Y v _ hs hall _ hB hRR _
          refine wpAny_nil (ready_nil hs hall) ?_
          refine hK4 _ _ ?_
          clear hK4 K4 T0
          have hrow : RowsX 21 v (Y 49).1 [notX (notX x), andX [x, andX []], orX [orX [], x], andX [x, x], orX [x, x], andX [x], orX [x]] := (hRR 25 (by omega)).1
          have hlen : (Y 50).1 = .int .i64 7 := (hRR 26 (by omega)).1
          have hz : (Y 51).1 = .int .i64 0 := (hRR 27 (by omega)).1
          obtain ⟨p, kk, he, hk1, hk2, hk3, hel⟩ := hrow
          rw [he, hlen, hz]
          replace HX := HX.on hB
          replace IE := IE.on hB
          replace D := D.trans (hB.mono D.size)
          clear hRR hlen hz he hk3 hB hall hs IX
          generalize (Y 24).1 = y24
          generalize (Y 25).1 = y25
          generalize (Y 26).1 = y26
          generalize (Y 27).1 = y27
          generalize (Y 28).1 = y28
          generalize (Y 29).1 = y29
          generalize (Y 30).1 = y30
          generalize (Y 31).1 = y31
          generalize (Y 32).1 = y32
          generalize (Y 33).1 = y33
          generalize (Y 34).1 = y34
          generalize (Y 35).1 = y35
          generalize (Y 36).1 = y36
          generalize (Y 37).1 = y37
          generalize (Y 38).1 = y38
          generalize (Y 39).1 = y39
          generalize (Y 40).1 = y40
          generalize (Y 41).1 = y41
          generalize (Y 42).1 = y42
          generalize (Y 43).1 = y43
          generalize (Y 44).1 = y44
          generalize (Y 45).1 = y45
          generalize (Y 46).1 = y46
          generalize (Y 47).1 = y47
          generalize (Y 48).1 = y48
          have HEL := hide hel
          have IEH := hide IE
          have DH := hide D
          have HTW := hide (twice_all (e := e) hR)
          have HFF := hide hf
          have HGE := hide (lt_heap IE)
          clear hel IE D HX hcp hf
          simp only [List.length_cons, List.length_nil, Nat.reduceAdd] at HEL hk1 ⊢
          go_wp2
          go_loopw [51] (fun i wr => ∃ k : Nat, i = .int .i64 k ∧ k ≤ 7 ∧ Hid (Below v.heap.size v wr)) (fun i _ => 7 - (intOf i).toNat)
          case atStart => exact ⟨0, rfl, by omega, hide (Below.refl _ _)⟩
          case round =>
            obtain ⟨k, rfl, hk, HB⟩ := hrel
            by_cases hlt : k < 7
            · obtain ⟨g, off, d, hp, hg, hd, hy⟩ := HEL.out k hlt
              have HY := hide (show Xp 21 v d _ from hy)
              obtain ⟨d0, d1, d2, d3, d4, d5, d6⟩ := hd.on hg HB.out
              have hmem := tw_mem x k hlt
              have hTW := hide (HTW.out _ hmem)
              generalize List.getD [notX (notX x), andX [x, andX []], orX [orX [], x], andX [x, x], orX [x, x], andX [x], orX [x]] k noX = z at HY hTW
              have bA := (Below.refl _ wr).alloc (Nat.le_refl _) (exObj d)
              have DA := hide (HB.out.trans (bA.mono HB.out.size))
              have XA := hide (show ExIn (wr.alloc (exObj d)) wr.heap.size d from heap_new wr _)
              clear bA hy hd hmem HTW
              unfold exObj at DA XA
              rw [hp]
              go_upto_region 7 with fail
              generalize wr.alloc (Obj.cells #[.int .i64 d.k, .int .i64 d.t, .bool d.s.a, .slice d.s.p d.s.n d.s.c, .bool d.s.d, .slice d.s.q d.s.m d.s.e, .slice d.p d.n d.c] 28) = wa at DA XA ⊢
              clear d0 d1 d2 d3 d4 d5 d6
              obtain ⟨c0, c1, c2, c3, c4, c5, c6⟩ := ecCells1 XA.out
              go_wp2_with fail
              refine (c_right (HY.out.on DA.out) (by omega)).mono ?_
              rintro r wf ⟨rfl, bF⟩
              have DF := hide (DA.out.trans (bF.mono DA.out.size))
              have XF := hide (XA.out.on bF)
              clear bF c0 c1 c2 c3 c4 c5 c6 XA DA
              cases hq : rightX z
              · go_wp2
                exact ⟨⟨k + 1, by go_num, by omega, DF⟩, by simp [intOf]; omega⟩
              · have hval := hTW.out hq
                rw [hE] at hval
                have HVAL := hide hval
                clear hval
                obtain ⟨c0, c1, c2, c3, c4, c5, c6⟩ := ecCells1 XF.out
                obtain ⟨f0, f1, f2, f3, f4, f5, f6, f7, f8, f9, f10, f11⟩ := evCells (IEH.out.on DF.out)
                go_wp2_with fail
                refine (c_eval (HY.out.on DF.out) (by omega) HFF.out).mono ?_
                rintro r w8 ⟨rfl, b8⟩
                have D8 := hide (DF.out.trans (b8.mono DF.out.size))
                rw [HVAL.out]
                clear b8 c0 c1 c2 c3 c4 c5 c6 f0 f1 f2 f3 f4 f5 f6 f7 f8 f9 f10 f11
                go_wp2
                exact ⟨⟨k + 1, by go_num, by omega, D8⟩, by simp [intOf]; omega⟩
            · have hge : decide ((k : Int) < 7) = false := by simp; omega
              go_wp2
              go_ret
              exact ⟨rfl, DH.out.trans (HB.out.mono DH.out.size)⟩
      · refine ⟨.bool true, rfl, ?_⟩
        simp only [Act.put, List.setIfInBounds_toArray, List.set_cons_zero, List.set_cons_succ]
        refine wl_yield (o := ⟨_, _, _, _, _, _⟩) (.bool true) (yl_assign (by rfl) _ rfl _ rfl) ?_
        simp only [Act.put, List.setIfInBounds_toArray, List.set_cons_zero, List.set_cons_succ]
        refine wpList_nil ?_
        refine hK4 _ _ ?_
        clear hK4 K4
        refine wp_seq_k (fun K5 hK5 => ?_)
        refine wp_seq_k (fun K4 hK4 => ?_)
        refine wp_region_any (by kernel_rfl) ?_
        have T0 : Below v6.heap.size v6 { v6 with drawn := v6.drawn + 1 } := (Below.refl _ v6).drew
        refine wpAny_slots 28 (fun Y => { tmps := #[EC.val c, evVal e, .pointer (some ⟨gb1, 0, none⟩), .pointer (some ⟨gb2, 0, none⟩), .bool false, .bool true, undef, undef, .bool true, .bool false, .bool false, EC.val c, .bool true, .bool false, .bool false, .bool false, EC.val c, .bool true, .bool false, .bool false, undef, EC.val c, evVal e, .bool true, (Y 24).1, (Y 25).1, (Y 26).1, (Y 27).1, (Y 28).1, (Y 29).1, (Y 30).1, (Y 31).1, (Y 32).1, (Y 33).1, (Y 34).1, (Y 35).1, (Y 36).1, (Y 37).1, (Y 38).1, (Y 39).1, (Y 40).1, (Y 41).1, (Y 42).1, (Y 43).1, (Y 44).1, (Y 45).1, (Y 46).1, (Y 47).1, (Y 48).1, (Y 49).1, (Y 50).1, (Y 51).1, undef, undef, undef, undef, undef, undef, undef, undef, undef, undef, undef, undef, undef], defers := [] }) (fun i => i + 24) (twR c x) v6 (fun i o ho e he => acyc_of (by kernel_rfl) i o ho e he) (fun i o hi ho => absurd (Array.getElem?_eq_some_iff.1 ho).1 (by simp; omega)) (by simp) (fun i j _ _ h => by simpa using h) (twR_on c x) ?step ?done _ _ (fun _ => (undef, 0, 0)) _ (by simp) unlisted_all (fun j _ => by simp [Array.getD_eq_getD_getElem?, Array.getElem?_replicate]; split <;> rfl) T0 (fun j _ h => by simp [Array.getD_eq_getD_getElem?, Array.getElem?_replicate] at h; split at h <;> cases h) (fun i j _ _ _ h => by simp [Array.getD_eq_getD_getElem?, Array.getElem?_replicate] at h; split at h <;> cases h)
        case step =>
          intro i hi l Y v hB hRR hA
          have HX := HX.on hB
          have IX := IX.on hB
          clear T0
          match i, hi with
          | 0, _ =>
            refine wpOp_yield (o := ⟨_, _, _, _, _, _⟩) rfl (by rfl) c.val (yl_ex (by rfl) _ rfl _ 0 rfl c (fun _ h => by subst h; exact IX.ec)) ?_
            exact ⟨(c.val, v.heap.size, v.heap.size), rfl, Below.refl _ _, rfl, Nat.le_refl _, Nat.le_refl _⟩
          | 1, _ =>
            have h0 : (Y 24).1 = c.val := hRR 0 (by omega) (hA _ rfl ⟨0, .data⟩ (by simp) rfl)
            refine op_call (o := ⟨_, _, _, _, _, _⟩) rfl (by rfl) 21 _ _ rfl #[(Y 24).1] rfl (run_call Try.func21 (by kernel_rfl) (by kernel_rfl)) ?_
            have con := c_not HX hcp
            rw [← h0] at con
            refine (con).mono ?_
            rintro r v' ⟨⟨d, rfl, hd⟩, kb⟩
            exact ⟨d.val, rfl, (d.val, v.heap.size, v'.heap.size), rfl, kb, ⟨d, rfl, hd⟩, Nat.le_refl _, Nat.le_refl _⟩
          | 2, _ =>
            obtain ⟨d0, h0, k0⟩ := hRR 1 (by omega) (hA _ rfl ⟨1, .data⟩ (by simp) rfl)
            refine op_call (o := ⟨_, _, _, _, _, _⟩) rfl (by rfl) 21 _ _ rfl #[(Y 25).1] rfl (run_call Try.func21 (by kernel_rfl) (by kernel_rfl)) ?_
            have con := c_not k0 (cp_not hcp)
            rw [← h0] at con
            refine (con).mono ?_
            rintro r v' ⟨⟨d, rfl, hd⟩, kb⟩
            exact ⟨d.val, rfl, (d.val, v.heap.size, v'.heap.size), rfl, kb, ⟨d, rfl, hd⟩, Nat.le_refl _, Nat.le_refl _⟩
          | 3, _ =>
            refine wpOp_yield (o := ⟨_, _, _, _, _, _⟩) rfl (by rfl) c.val (yl_ex (by rfl) _ rfl _ 0 rfl c (fun _ h => by subst h; exact IX.ec)) ?_
            exact ⟨(c.val, v.heap.size, v.heap.size), rfl, Below.refl _ _, rfl, Nat.le_refl _, Nat.le_refl _⟩
          | 4, _ =>
            refine op_call (o := ⟨_, _, _, _, _, _⟩) rfl (by rfl) 19 _ _ rfl #[.slice none 0 0] rfl (run_call Try.func19 (by kernel_rfl) (by kernel_rfl)) ?_
            refine (c_and0 _).mono ?_
            rintro r v' ⟨⟨d, rfl, hd⟩, kb⟩
            exact ⟨d.val, rfl, (d.val, v.heap.size, v'.heap.size), rfl, kb, ⟨d, rfl, hd⟩, Nat.le_refl _, Nat.le_refl _⟩
          | 5, _ =>
            have h0 : (Y 27).1 = c.val := hRR 3 (by omega) (hA _ rfl ⟨3, .data⟩ (by simp) rfl)
            obtain ⟨d1, h1, k1⟩ := hRR 4 (by omega) (hA _ rfl ⟨4, .data⟩ (by simp) rfl)
            refine wpOp_run (o := ⟨_, _, _, _, _, _⟩) rfl (by rfl) (.slice (some ⟨v.heap.size, 0, none⟩) 2 2) (v.alloc (rowObj [c, d1])) (rn_row2 _ rfl h0 h1) ?_
            exact ⟨(.slice (some ⟨v.heap.size, 0, none⟩) 2 2, v.heap.size, v.heap.size + 1), rfl, (Below.refl _ v).alloc (Nat.le_refl _) _, rows_new 19 v [(c, x), (d1, andX [])] (by intro q hq; simp only [List.mem_cons, List.not_mem_nil, or_false] at hq; rcases hq with rfl | rfl <;> first | exact ExAt.more _ _ (by omega) HX | exact ExAt.more _ _ (by omega) k1), Nat.le_refl _, by simp⟩
          | 6, _ =>
            obtain h0 : RowsX 19 v (Y 29).1 [x, andX []] := hRR 5 (by omega) (hA _ rfl ⟨5, .data⟩ (by simp) rfl)
            refine op_call (o := ⟨_, _, _, _, _, _⟩) rfl (by rfl) 19 _ _ rfl #[(Y 29).1] rfl (run_call Try.func19 (by kernel_rfl) (by kernel_rfl)) ?_
            refine (c_and h0 (by simp) (cp_xa hcp)).mono ?_
            rintro r v' ⟨⟨d, rfl, hd⟩, kb⟩
            exact ⟨d.val, rfl, (d.val, v.heap.size, v'.heap.size), rfl, kb, ⟨d, rfl, hd⟩, Nat.le_refl _, Nat.le_refl _⟩
          | 7, _ =>
            refine op_call (o := ⟨_, _, _, _, _, _⟩) rfl (by rfl) 20 _ _ rfl #[.slice none 0 0] rfl (run_call Try.func20 (by kernel_rfl) (by kernel_rfl)) ?_
            refine (c_or0 _).mono ?_
            rintro r v' ⟨⟨d, rfl, hd⟩, kb⟩
            exact ⟨d.val, rfl, (d.val, v.heap.size, v'.heap.size), rfl, kb, ⟨d, rfl, hd⟩, Nat.le_refl _, Nat.le_refl _⟩
          | 8, _ =>
            refine wpOp_yield (o := ⟨_, _, _, _, _, _⟩) rfl (by rfl) c.val (yl_ex (by rfl) _ rfl _ 0 rfl c (fun _ h => by subst h; exact IX.ec)) ?_
            exact ⟨(c.val, v.heap.size, v.heap.size), rfl, Below.refl _ _, rfl, Nat.le_refl _, Nat.le_refl _⟩
          | 9, _ =>
            obtain ⟨d0, h0, k0⟩ := hRR 7 (by omega) (hA _ rfl ⟨7, .data⟩ (by simp) rfl)
            have h1 : (Y 32).1 = c.val := hRR 8 (by omega) (hA _ rfl ⟨8, .data⟩ (by simp) rfl)
            refine wpOp_run (o := ⟨_, _, _, _, _, _⟩) rfl (by rfl) (.slice (some ⟨v.heap.size, 0, none⟩) 2 2) (v.alloc (rowObj [d0, c])) (rn_row2 _ rfl h0 h1) ?_
            exact ⟨(.slice (some ⟨v.heap.size, 0, none⟩) 2 2, v.heap.size, v.heap.size + 1), rfl, (Below.refl _ v).alloc (Nat.le_refl _) _, rows_new 19 v [(d0, orX []), (c, x)] (by intro q hq; simp only [List.mem_cons, List.not_mem_nil, or_false] at hq; rcases hq with rfl | rfl <;> first | exact ExAt.more _ _ (by omega) HX | exact ExAt.more _ _ (by omega) k0), Nat.le_refl _, by simp⟩
          | 10, _ =>
            obtain h0 : RowsX 19 v (Y 33).1 [orX [], x] := hRR 9 (by omega) (hA _ rfl ⟨9, .data⟩ (by simp) rfl)
            refine op_call (o := ⟨_, _, _, _, _, _⟩) rfl (by rfl) 20 _ _ rfl #[(Y 33).1] rfl (run_call Try.func20 (by kernel_rfl) (by kernel_rfl)) ?_
            refine (c_or h0 (by simp) (cp_ox hcp)).mono ?_
            rintro r v' ⟨⟨d, rfl, hd⟩, kb⟩
            exact ⟨d.val, rfl, (d.val, v.heap.size, v'.heap.size), rfl, kb, ⟨d, rfl, hd⟩, Nat.le_refl _, Nat.le_refl _⟩
          | 11, _ =>
            refine wpOp_yield (o := ⟨_, _, _, _, _, _⟩) rfl (by rfl) c.val (yl_ex (by rfl) _ rfl _ 0 rfl c (fun _ h => by subst h; exact IX.ec)) ?_
            exact ⟨(c.val, v.heap.size, v.heap.size), rfl, Below.refl _ _, rfl, Nat.le_refl _, Nat.le_refl _⟩
          | 12, _ =>
            refine wpOp_yield (o := ⟨_, _, _, _, _, _⟩) rfl (by rfl) c.val (yl_ex (by rfl) _ rfl _ 0 rfl c (fun _ h => by subst h; exact IX.ec)) ?_
            exact ⟨(c.val, v.heap.size, v.heap.size), rfl, Below.refl _ _, rfl, Nat.le_refl _, Nat.le_refl _⟩
          | 13, _ =>
            have h0 : (Y 35).1 = c.val := hRR 11 (by omega) (hA _ rfl ⟨11, .data⟩ (by simp) rfl)
            have h1 : (Y 36).1 = c.val := hRR 12 (by omega) (hA _ rfl ⟨12, .data⟩ (by simp) rfl)
            refine wpOp_run (o := ⟨_, _, _, _, _, _⟩) rfl (by rfl) (.slice (some ⟨v.heap.size, 0, none⟩) 2 2) (v.alloc (rowObj [c, c])) (rn_row2 _ rfl h0 h1) ?_
            exact ⟨(.slice (some ⟨v.heap.size, 0, none⟩) 2 2, v.heap.size, v.heap.size + 1), rfl, (Below.refl _ v).alloc (Nat.le_refl _) _, rows_new 19 v [(c, x), (c, x)] (by intro q hq; simp only [List.mem_cons, List.not_mem_nil, or_false] at hq; rcases hq with rfl | rfl <;> first | exact ExAt.more _ _ (by omega) HX), Nat.le_refl _, by simp⟩
          | 14, _ =>
            obtain h0 : RowsX 19 v (Y 37).1 [x, x] := hRR 13 (by omega) (hA _ rfl ⟨13, .data⟩ (by simp) rfl)
            refine op_call (o := ⟨_, _, _, _, _, _⟩) rfl (by rfl) 19 _ _ rfl #[(Y 37).1] rfl (run_call Try.func19 (by kernel_rfl) (by kernel_rfl)) ?_
            refine (c_and h0 (by simp) (cp_xx hcp)).mono ?_
            rintro r v' ⟨⟨d, rfl, hd⟩, kb⟩
            exact ⟨d.val, rfl, (d.val, v.heap.size, v'.heap.size), rfl, kb, ⟨d, rfl, hd⟩, Nat.le_refl _, Nat.le_refl _⟩
          | 15, _ =>
            refine wpOp_yield (o := ⟨_, _, _, _, _, _⟩) rfl (by rfl) c.val (yl_ex (by rfl) _ rfl _ 0 rfl c (fun _ h => by subst h; exact IX.ec)) ?_
            exact ⟨(c.val, v.heap.size, v.heap.size), rfl, Below.refl _ _, rfl, Nat.le_refl _, Nat.le_refl _⟩
          | 16, _ =>
            refine wpOp_yield (o := ⟨_, _, _, _, _, _⟩) rfl (by rfl) c.val (yl_ex (by rfl) _ rfl _ 0 rfl c (fun _ h => by subst h; exact IX.ec)) ?_
            exact ⟨(c.val, v.heap.size, v.heap.size), rfl, Below.refl _ _, rfl, Nat.le_refl _, Nat.le_refl _⟩
          | 17, _ =>
            have h0 : (Y 39).1 = c.val := hRR 15 (by omega) (hA _ rfl ⟨15, .data⟩ (by simp) rfl)
            have h1 : (Y 40).1 = c.val := hRR 16 (by omega) (hA _ rfl ⟨16, .data⟩ (by simp) rfl)
            refine wpOp_run (o := ⟨_, _, _, _, _, _⟩) rfl (by rfl) (.slice (some ⟨v.heap.size, 0, none⟩) 2 2) (v.alloc (rowObj [c, c])) (rn_row2 _ rfl h0 h1) ?_
            exact ⟨(.slice (some ⟨v.heap.size, 0, none⟩) 2 2, v.heap.size, v.heap.size + 1), rfl, (Below.refl _ v).alloc (Nat.le_refl _) _, rows_new 19 v [(c, x), (c, x)] (by intro q hq; simp only [List.mem_cons, List.not_mem_nil, or_false] at hq; rcases hq with rfl | rfl <;> first | exact ExAt.more _ _ (by omega) HX), Nat.le_refl _, by simp⟩
          | 18, _ =>
            obtain h0 : RowsX 19 v (Y 41).1 [x, x] := hRR 17 (by omega) (hA _ rfl ⟨17, .data⟩ (by simp) rfl)
            refine op_call (o := ⟨_, _, _, _, _, _⟩) rfl (by rfl) 20 _ _ rfl #[(Y 41).1] rfl (run_call Try.func20 (by kernel_rfl) (by kernel_rfl)) ?_
            refine (c_or h0 (by simp) (cp_xx hcp)).mono ?_
            rintro r v' ⟨⟨d, rfl, hd⟩, kb⟩
            exact ⟨d.val, rfl, (d.val, v.heap.size, v'.heap.size), rfl, kb, ⟨d, rfl, hd⟩, Nat.le_refl _, Nat.le_refl _⟩
          | 19, _ =>
            refine wpOp_yield (o := ⟨_, _, _, _, _, _⟩) rfl (by rfl) c.val (yl_ex (by rfl) _ rfl _ 0 rfl c (fun _ h => by subst h; exact IX.ec)) ?_
            exact ⟨(c.val, v.heap.size, v.heap.size), rfl, Below.refl _ _, rfl, Nat.le_refl _, Nat.le_refl _⟩
          | 20, _ =>
            have h0 : (Y 43).1 = c.val := hRR 19 (by omega) (hA _ rfl ⟨19, .data⟩ (by simp) rfl)
            refine wpOp_run (o := ⟨_, _, _, _, _, _⟩) rfl (by rfl) (.slice (some ⟨v.heap.size, 0, none⟩) 1 1) (v.alloc (rowObj [c])) (rn_row1 _ rfl h0) ?_
            exact ⟨(.slice (some ⟨v.heap.size, 0, none⟩) 1 1, v.heap.size, v.heap.size + 1), rfl, (Below.refl _ v).alloc (Nat.le_refl _) _, rows_new 19 v [(c, x)] (by intro q hq; simp only [List.mem_cons, List.not_mem_nil, or_false] at hq; rcases hq with rfl <;> first | exact ExAt.more _ _ (by omega) HX), Nat.le_refl _, by simp⟩
          | 21, _ =>
            obtain h0 : RowsX 19 v (Y 44).1 [x] := hRR 20 (by omega) (hA _ rfl ⟨20, .data⟩ (by simp) rfl)
            refine op_call (o := ⟨_, _, _, _, _, _⟩) rfl (by rfl) 19 _ _ rfl #[(Y 44).1] rfl (run_call Try.func19 (by kernel_rfl) (by kernel_rfl)) ?_
            refine (c_and h0 (by simp) (cp_x1 hcp)).mono ?_
            rintro r v' ⟨⟨d, rfl, hd⟩, kb⟩
            exact ⟨d.val, rfl, (d.val, v.heap.size, v'.heap.size), rfl, kb, ⟨d, rfl, hd⟩, Nat.le_refl _, Nat.le_refl _⟩
          | 22, _ =>
            refine wpOp_yield (o := ⟨_, _, _, _, _, _⟩) rfl (by rfl) c.val (yl_ex (by rfl) _ rfl _ 0 rfl c (fun _ h => by subst h; exact IX.ec)) ?_
            exact ⟨(c.val, v.heap.size, v.heap.size), rfl, Below.refl _ _, rfl, Nat.le_refl _, Nat.le_refl _⟩
          | 23, _ =>
            have h0 : (Y 46).1 = c.val := hRR 22 (by omega) (hA _ rfl ⟨22, .data⟩ (by simp) rfl)
            refine wpOp_run (o := ⟨_, _, _, _, _, _⟩) rfl (by rfl) (.slice (some ⟨v.heap.size, 0, none⟩) 1 1) (v.alloc (rowObj [c])) (rn_row1 _ rfl h0) ?_
            exact ⟨(.slice (some ⟨v.heap.size, 0, none⟩) 1 1, v.heap.size, v.heap.size + 1), rfl, (Below.refl _ v).alloc (Nat.le_refl _) _, rows_new 19 v [(c, x)] (by intro q hq; simp only [List.mem_cons, List.not_mem_nil, or_false] at hq; rcases hq with rfl <;> first | exact ExAt.more _ _ (by omega) HX), Nat.le_refl _, by simp⟩
          | 24, _ =>
            obtain h0 : RowsX 19 v (Y 47).1 [x] := hRR 23 (by omega) (hA _ rfl ⟨23, .data⟩ (by simp) rfl)
            refine op_call (o := ⟨_, _, _, _, _, _⟩) rfl (by rfl) 20 _ _ rfl #[(Y 47).1] rfl (run_call Try.func20 (by kernel_rfl) (by kernel_rfl)) ?_
            refine (c_or h0 (by simp) (cp_x1 hcp)).mono ?_
            rintro r v' ⟨⟨d, rfl, hd⟩, kb⟩
            exact ⟨d.val, rfl, (d.val, v.heap.size, v'.heap.size), rfl, kb, ⟨d, rfl, hd⟩, Nat.le_refl _, Nat.le_refl _⟩
          | 25, _ =>
            obtain ⟨d0, h0, k0⟩ := hRR 2 (by omega) (hA _ rfl ⟨2, .data⟩ (by simp) rfl)
            obtain ⟨d1, h1, k1⟩ := hRR 6 (by omega) (hA _ rfl ⟨6, .data⟩ (by simp) rfl)
            obtain ⟨d2, h2, k2⟩ := hRR 10 (by omega) (hA _ rfl ⟨10, .data⟩ (by simp) rfl)
            obtain ⟨d3, h3, k3⟩ := hRR 14 (by omega) (hA _ rfl ⟨14, .data⟩ (by simp) rfl)
            obtain ⟨d4, h4, k4⟩ := hRR 18 (by omega) (hA _ rfl ⟨18, .data⟩ (by simp) rfl)
            obtain ⟨d5, h5, k5⟩ := hRR 21 (by omega) (hA _ rfl ⟨21, .data⟩ (by simp) rfl)
            obtain ⟨d6, h6, k6⟩ := hRR 24 (by omega) (hA _ rfl ⟨24, .data⟩ (by simp) rfl)
            refine wpOp_run (o := ⟨_, _, _, _, _, _⟩) rfl (by rfl) (.slice (some ⟨v.heap.size, 0, none⟩) 7 7) (v.alloc (rowObj [d0, d1, d2, d3, d4, d5, d6])) (rn_row7 _ rfl h0 h1 h2 h3 h4 h5 h6) ?_
            exact ⟨(.slice (some ⟨v.heap.size, 0, none⟩) 7 7, v.heap.size, v.heap.size + 1), rfl, (Below.refl _ v).alloc (Nat.le_refl _) _, rows_new 21 v [(d0, notX (notX x)), (d1, andX [x, andX []]), (d2, orX [orX [], x]), (d3, andX [x, x]), (d4, orX [x, x]), (d5, andX [x]), (d6, orX [x])] (by intro q hq; simp only [List.mem_cons, List.not_mem_nil, or_false] at hq; rcases hq with rfl | rfl | rfl | rfl | rfl | rfl | rfl <;> first | exact ExAt.more _ _ (by omega) HX | exact ExAt.more _ _ (by omega) k0 | exact ExAt.more _ _ (by omega) k1 | exact ExAt.more _ _ (by omega) k2 | exact ExAt.more _ _ (by omega) k3 | exact ExAt.more _ _ (by omega) k4 | exact ExAt.more _ _ (by omega) k5 | exact ExAt.more _ _ (by omega) k6), Nat.le_refl _, by simp⟩
          | 26, _ =>
            obtain ⟨p, k, h0, _⟩ : RowsX 21 v (Y 49).1 [notX (notX x), andX [x, andX []], orX [orX [], x], andX [x, x], orX [x, x], andX [x], orX [x]] := hRR 25 (by omega) (hA _ rfl ⟨25, .data⟩ (by simp) rfl)
            have h1 : (Y 49).1 = .slice p 7 k := h0
            refine wpOp_yield (o := ⟨_, _, _, _, _, _⟩) rfl (by rfl) (.int .i64 7) (yl_lenEx (by rfl) (.tmp 49) rfl p 7 k h1) ?_
            exact ⟨(.int .i64 7, v.heap.size, v.heap.size), rfl, Below.refl _ _, rfl, Nat.le_refl _, Nat.le_refl _⟩
          | 27, _ =>
            refine wpOp_yield (o := ⟨_, _, _, _, _, _⟩) rfl (by rfl) (.int .i64 0) (yl_move (by rfl) _ rfl _ rfl) ?_
            exact ⟨(.int .i64 0, v.heap.size, v.heap.size), rfl, Below.refl _ _, rfl, Nat.le_refl _, Nat.le_refl _⟩
          | m + 28, hm => exact absurd hm (by omega)
        case done =>
          intro fuel l Y v _ hs hall _ hB hRR _
          refine wpAny_nil (ready_nil hs hall) ?_
          refine hK4 _ _ ?_
          clear hK4 K4 T0
          have hrow : RowsX 21 v (Y 49).1 [notX (notX x), andX [x, andX []], orX [orX [], x], andX [x, x], orX [x, x], andX [x], orX [x]] := (hRR 25 (by omega)).1
          have hlen : (Y 50).1 = .int .i64 7 := (hRR 26 (by omega)).1
          have hz : (Y 51).1 = .int .i64 0 := (hRR 27 (by omega)).1
          obtain ⟨p, kk, he, hk1, hk2, hk3, hel⟩ := hrow
          rw [he, hlen, hz]
          replace HX := HX.on hB
          replace IE := IE.on hB
          replace D := D.trans (hB.mono D.size)
          clear hRR hlen hz he hk3 hB hall hs IX
          generalize (Y 24).1 = y24
          generalize (Y 25).1 = y25
          generalize (Y 26).1 = y26
          generalize (Y 27).1 = y27
          generalize (Y 28).1 = y28
          generalize (Y 29).1 = y29
          generalize (Y 30).1 = y30
          generalize (Y 31).1 = y31
          generalize (Y 32).1 = y32
          generalize (Y 33).1 = y33
          generalize (Y 34).1 = y34
          generalize (Y 35).1 = y35
          generalize (Y 36).1 = y36
          generalize (Y 37).1 = y37
          generalize (Y 38).1 = y38
          generalize (Y 39).1 = y39
          generalize (Y 40).1 = y40
          generalize (Y 41).1 = y41
          generalize (Y 42).1 = y42
          generalize (Y 43).1 = y43
          generalize (Y 44).1 = y44
          generalize (Y 45).1 = y45
          generalize (Y 46).1 = y46
          generalize (Y 47).1 = y47
          generalize (Y 48).1 = y48
          have HEL := hide hel
          have IEH := hide IE
          have DH := hide D
          have HTW := hide (twice_all (e := e) hR)
          have HFF := hide hf
          have HGE := hide (lt_heap IE)
          clear hel IE D HX hcp hf
          simp only [List.length_cons, List.length_nil, Nat.reduceAdd] at HEL hk1 ⊢
          go_wp2
          go_loopw [51] (fun i wr => ∃ k : Nat, i = .int .i64 k ∧ k ≤ 7 ∧ Hid (Below v.heap.size v wr)) (fun i _ => 7 - (intOf i).toNat)
          case atStart => exact ⟨0, rfl, by omega, hide (Below.refl _ _)⟩
          case round =>
            obtain ⟨k, rfl, hk, HB⟩ := hrel
            by_cases hlt : k < 7
            · obtain ⟨g, off, d, hp, hg, hd, hy⟩ := HEL.out k hlt
              have HY := hide (show Xp 21 v d _ from hy)
              obtain ⟨d0, d1, d2, d3, d4, d5, d6⟩ := hd.on hg HB.out
              have hmem := tw_mem x k hlt
              have hTW := hide (HTW.out _ hmem)
              generalize List.getD [notX (notX x), andX [x, andX []], orX [orX [], x], andX [x, x], orX [x, x], andX [x], orX [x]] k noX = z at HY hTW
              have bA := (Below.refl _ wr).alloc (Nat.le_refl _) (exObj d)
              have DA := hide (HB.out.trans (bA.mono HB.out.size))
              have XA := hide (show ExIn (wr.alloc (exObj d)) wr.heap.size d from heap_new wr _)
              clear bA hy hd hmem HTW
              unfold exObj at DA XA
              rw [hp]
              go_upto_region 7 with fail
              generalize wr.alloc (Obj.cells #[.int .i64 d.k, .int .i64 d.t, .bool d.s.a, .slice d.s.p d.s.n d.s.c, .bool d.s.d, .slice d.s.q d.s.m d.s.e, .slice d.p d.n d.c] 28) = wa at DA XA ⊢
              clear d0 d1 d2 d3 d4 d5 d6
              obtain ⟨c0, c1, c2, c3, c4, c5, c6⟩ := ecCells1 XA.out
              go_wp2_with fail
              refine (c_right (HY.out.on DA.out) (by omega)).mono ?_
              rintro r wf ⟨rfl, bF⟩
              have DF := hide (DA.out.trans (bF.mono DA.out.size))
              have XF := hide (XA.out.on bF)
              clear bF c0 c1 c2 c3 c4 c5 c6 XA DA
              cases hq : rightX z
              · go_wp2
                exact ⟨⟨k + 1, by go_num, by omega, DF⟩, by simp [intOf]; omega⟩
              · have hval := hTW.out hq
                rw [hE] at hval
                have HVAL := hide hval
                clear hval
                obtain ⟨c0, c1, c2, c3, c4, c5, c6⟩ := ecCells1 XF.out
                obtain ⟨f0, f1, f2, f3, f4, f5, f6, f7, f8, f9, f10, f11⟩ := evCells (IEH.out.on DF.out)
                go_wp2_with fail
                refine (c_eval (HY.out.on DF.out) (by omega) HFF.out).mono ?_
                rintro r w8 ⟨rfl, b8⟩
                have D8 := hide (DF.out.trans (b8.mono DF.out.size))
                rw [HVAL.out]
                clear b8 c0 c1 c2 c3 c4 c5 c6 f0 f1 f2 f3 f4 f5 f6 f7 f8 f9 f10 f11
                go_wp2
                exact ⟨⟨k + 1, by go_num, by omega, D8⟩, by simp [intOf]; omega⟩
            · have hge : decide ((k : Int) < 7) = false := by simp; omega
              go_wp2
              go_ret
              exact ⟨rfl, DH.out.trans (HB.out.mono DH.out.size)⟩
end Go.Proofs.Ytoplmioejebnnaa
