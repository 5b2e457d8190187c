/-
  'awake' of the fifth layer.
-/
import Derived.Test.YtoplmioejebnnaaGY
set_option linter.unusedSimpArgs false
set_option linter.unusedVariables false
namespace Go.Proofs.Ytoplmioejebnnaa
open Go.RowKit

def sFive : SetV := ⟨false, [(5, 5)], false, []⟩
theorem setF_of {w : World} {p : Option Addr} {c : Nat} (h : RngsAt w (.slice p 1 c) [(5, 5)]) : SetAt w (SC.val ⟨false, p, 1, c, false, none, 0, 0⟩) sFive := ⟨_, _, rfl, h, strs_none _⟩
theorem cpFive : cpX 1 (atomX 0 sFive) := ⟨by simp [atomX, sFive], by simp [atomX, sFive], by simp [atomX], fun y hy => by cases hy⟩
theorem aw_right : rightX (notX (atomX 0 sFive)) = true := notAtom_right (by rfl)
theorem aw_size : sizeA (notX (atomX 0 sFive)) = (2, 2) := by
  unfold sizeA
  rw [notAtom_fits]
  rfl
theorem aw_e : rightE evZ = true := by simp [rightE, all4, EvV.get, evZ, vaZ, rightB]
theorem aw_e5 : rightE evFive = true := by simp [rightE, all4, EvV.get, evFive, vaZ, rightB]
theorem aw_and : evalX (andX []) evZ = true := by rw [eval_none, aw_e]
theorem aw_or : evalX (orX []) evZ = false := eval_never _
theorem aw_z : evalX (notX (atomX 0 sFive)) evZ = true := by
  rw [evalX_right aw_right, isX_not, isX_atom, aw_e]
  simp [hasP, hasB, sFive, EvV.get, evZ, vaZ]
theorem aw_five : evalX (notX (atomX 0 sFive)) evFive = false := by
  rw [evalX_right aw_right, isX_not, isX_atom, aw_e5]
  simp [hasP, hasB, sFive, EvV.get, evFive, vaZ, rightB, inIntsB]
theorem aw_none : rightX noX = false := by rfl
theorem noX_at (w : World) : Xp 1 w ec0 noX := ⟨ec0, rfl, ⟨rfl, rfl, rfl, by simp [ec0], by simp [ec0], by simp [ec0], by simp [ec0], noSet_at w, Nat.le_refl _, by simp [ec0], fun _ => ⟨rfl, rfl⟩⟩, fun i hi => by simp [noX] at hi⟩
section
variable {ops : Array Oper} {Q : Exit → Act → World → Prop} {S : World → Prop} {o : Oper} {a : Act}
theorem wl_rowF {rest : List Oper} {w : World} (hw : Region.wanted o (yielded ops a.tmps) = true) (x : Operand) (ho : o.op = .buildSlice 22 1 #[(0, x)]) (hx : a.eval x = .agg #[.int .i64 5, .int .i64 5])
    (h : ∀ W p c, RngsAt W (.slice p 1 c) [(5, 5)] → Below w.heap.size w W → wpList Try.prog ops Q rest (a.put o.dst (.slice p 1 c)) W) : wpList Try.prog ops Q (o :: rest) a w := by
  refine wl_run hw (.slice (some ⟨w.heap.size, 0, none⟩) 1 1) (w.alloc (.cells #[.int .i64 5, .int .i64 5] 54)) ?_ (h _ _ _ (rngs_new w _ [(5, 5)] rfl (fun r hr => by simp at hr; rw [hr]; dsimp only; omega) (by simp) _ rfl 1 1 rfl) ((Below.refl _ w).alloc (Nat.le_refl _) _))
  simp only [execOp, ho, List.map_toArray, List.map_cons, List.map_nil, hx]
  go_simp
end
set_option maxHeartbeats 8000000 in
set_option maxRecDepth 100000 in
theorem awake5_any (w : World) :
    Calls Try.prog 9 #[] w fun r w' => r = .returned (.bool true) ∧ Below w.heap.size w w' := by
  have D := Below.refl w.heap.size w
  go_enter Try.func9, Try.ntmps9
  refine wp_seq_k (fun K1 hK1 => ?_)
  refine wp_region_lit ?_
  refine wl_yield (o := ⟨_, _, _, _, _, _⟩) (.bool false) (yl_assign (by rfl) _ rfl _ rfl) ?_
  simp only [Act.put, List.setIfInBounds_toArray, List.set_cons_zero, List.set_cons_succ]
  refine wpList_nil ?_
  refine hK1 _ _ ?_
  clear hK1 K1
  refine wp_seq_k (fun K2 hK2 => ?_)
  refine wp_region_lit ?_
  refine wl_run (o := ⟨_, _, _, _, _, _⟩) (by rfl) (.agg #[.int .i64 5, .int .i64 5]) w (by go_simp) ?_
  simp only [Act.put, List.setIfInBounds_toArray, List.set_cons_zero, List.set_cons_succ]
  refine wl_rowF (o := ⟨_, _, _, _, _, _⟩) (by rfl) _ rfl rfl (fun v1 p1 r1 HY kb => ?_)
  simp only [Act.put, List.setIfInBounds_toArray, List.set_cons_zero, List.set_cons_succ]
  replace D := D.trans (kb.mono D.size)
  clear kb
  have HSA := setF_of HY
  refine wl_run (o := ⟨_, _, _, _, _, _⟩) (by rfl) (SC.val ⟨false, p1, 1, r1, false, none, 0, 0⟩) v1 (by unfold SC.val; go_simp) ?_
  simp only [Act.put, List.setIfInBounds_toArray, List.set_cons_zero, List.set_cons_succ]
  refine wl_call (o := ⟨_, _, _, _, _, _⟩) (by rfl) 26 _ _ rfl #[.int .i64 0, SC.val ⟨false, p1, 1, r1, false, none, 0, 0⟩] rfl (run_call Try.func26 (by kernel_rfl) (by kernel_rfl)) ?_
  refine (progAtom_any 0 (by omega) (by omega) _ sFive _ HSA (by simp [sFive]) (by simp [sFive])).mono ?_
  rintro r v2 ⟨⟨u, rfl, HU⟩, kb⟩
  replace D := D.trans (kb.mono D.size)
  clear kb
  refine ⟨EC.val u, rfl, ?_⟩
  simp only [Act.put, List.setIfInBounds_toArray, List.set_cons_zero, List.set_cons_succ]
  refine wl_call (o := ⟨_, _, _, _, _, _⟩) (by rfl) 21 _ _ rfl #[EC.val u] rfl (run_call Try.func21 (by kernel_rfl) (by kernel_rfl)) ?_
  refine (c_not HU cpFive).mono ?_
  rintro r v3 ⟨⟨a, rfl, HA⟩, kb⟩
  replace D := D.trans (kb.mono D.size)
  replace HU := HU.on kb
  clear kb
  refine ⟨EC.val a, rfl, ?_⟩
  simp only [Act.put, List.setIfInBounds_toArray, List.set_cons_zero, List.set_cons_succ]
  refine wl_newEx (o := ⟨_, _, _, _, _, _⟩) (o2 := ⟨_, _, _, _, _, _⟩) (by rfl) rfl _ _ rfl rfl (fun _ => rfl) (fun _ => rfl) (fun v4 gb4 IA kb => ?_)
  simp only [Act.put, List.setIfInBounds_toArray, List.set_cons_zero, List.set_cons_succ]
  replace D := D.trans (kb.mono D.size)
  replace HU := HU.on kb
  replace HA := HA.on kb
  clear kb
  refine wpList_nil ?_
  refine hK2 _ _ ?_
  clear hK2 K2
  refine wp_seq_k (fun K3 hK3 => ?_)
  refine wp_region_lit ?_
  refine wl_yield (o := ⟨_, _, _, _, _, _⟩) (EC.val a) (yl_ex (by rfl) _ rfl _ 0 rfl _ (fun _ h => by subst h; exact ExIn.ec IA)) ?_
  simp only [Act.put, List.setIfInBounds_toArray, List.set_cons_zero, List.set_cons_succ]
  refine wl_call (o := ⟨_, _, _, _, _, _⟩) (by rfl) 11 _ _ rfl #[EC.val a] rfl (run_call Try.func11 (by kernel_rfl) (by kernel_rfl)) ?_
  refine (c_size HA (by omega)).mono ?_
  rintro r v5 ⟨rfl, kb⟩
  replace D := D.trans (kb.mono D.size)
  replace HU := HU.on kb
  replace HA := HA.on kb
  replace IA := IA.on kb
  clear kb
  refine ⟨.tuple #[.int .i64 2, .int .i64 2], by rw [aw_size], ?_⟩
  simp only [Act.put, List.setIfInBounds_toArray, List.set_cons_zero, List.set_cons_succ]
  refine wl_yield (o := ⟨_, _, _, _, _, _⟩) (.tuple #[.int .i64 2, .int .i64 2]) (yl_move (by rfl) _ rfl _ rfl) ?_
  simp only [Act.put, List.setIfInBounds_toArray, List.set_cons_zero, List.set_cons_succ]
  refine wl_yield (o := ⟨_, _, _, _, _, _⟩) (.int .i64 2) (yl_extract0 (by rfl) _ rfl _ _ rfl) ?_
  simp only [Act.put, List.setIfInBounds_toArray, List.set_cons_zero, List.set_cons_succ]
  refine wl_yield (o := ⟨_, _, _, _, _, _⟩) (.int .i64 2) (yl_extract1 (by rfl) _ rfl _ _ rfl) ?_
  simp only [Act.put, List.setIfInBounds_toArray, List.set_cons_zero, List.set_cons_succ]
  refine wl_yield (o := ⟨_, _, _, _, _, _⟩) (.int .i64 2) (yl_assign (by rfl) _ rfl _ rfl) ?_
  simp only [Act.put, List.setIfInBounds_toArray, List.set_cons_zero, List.set_cons_succ]
  refine wl_yield (o := ⟨_, _, _, _, _, _⟩) (.int .i64 2) (yl_assign (by rfl) _ rfl _ rfl) ?_
  simp only [Act.put, List.setIfInBounds_toArray, List.set_cons_zero, List.set_cons_succ]
  refine wpList_nil ?_
  refine hK3 _ _ ?_
  clear hK3 K3
  refine wp_seq_k (fun K4 hK4 => ?_)
  refine wp_region_lit ?_
  refine wl_call (o := ⟨_, _, _, _, _, _⟩) (by rfl) 19 _ _ rfl #[.slice none 0 0] rfl (run_call Try.func19 (by kernel_rfl) (by kernel_rfl)) ?_
  refine (c_and0 _).mono ?_
  rintro r v6 ⟨⟨b, rfl, HB⟩, kb⟩
  replace D := D.trans (kb.mono D.size)
  replace HU := HU.on kb
  replace HA := HA.on kb
  replace IA := IA.on kb
  clear kb
  refine ⟨EC.val b, rfl, ?_⟩
  simp only [Act.put, List.setIfInBounds_toArray, List.set_cons_zero, List.set_cons_succ]
  refine wl_yield (o := ⟨_, _, _, _, _, _⟩) (evVal evZ) (yl_zeroE (by rfl) rfl) ?_
  simp only [Act.put, List.setIfInBounds_toArray, List.set_cons_zero, List.set_cons_succ]
  refine wl_call (o := ⟨_, _, _, _, _, _⟩) (by rfl) 17 _ _ rfl #[EC.val b, evVal evZ] rfl (run_call Try.func17 (by kernel_rfl) (by kernel_rfl)) ?_
  refine (c_eval HB (by omega) evZ_fit).mono ?_
  rintro r v7 ⟨rfl, kb⟩
  replace D := D.trans (kb.mono D.size)
  replace HU := HU.on kb
  replace HA := HA.on kb
  replace IA := IA.on kb
  replace HB := HB.on kb
  clear kb
  refine ⟨.bool true, ret_bool aw_and, ?_⟩
  simp only [Act.put, List.setIfInBounds_toArray, List.set_cons_zero, List.set_cons_succ]
  refine wl_yield (o := ⟨_, _, _, _, _, _⟩) (.bool true) (yl_move (by rfl) _ rfl _ rfl) ?_
  simp only [Act.put, List.setIfInBounds_toArray, List.set_cons_zero, List.set_cons_succ]
  refine wl_call (o := ⟨_, _, _, _, _, _⟩) (by rfl) 20 _ _ rfl #[.slice none 0 0] rfl (run_call Try.func20 (by kernel_rfl) (by kernel_rfl)) ?_
  refine (c_or0 _).mono ?_
  rintro r v8 ⟨⟨c, rfl, HC⟩, kb⟩
  replace D := D.trans (kb.mono D.size)
  replace HU := HU.on kb
  replace HA := HA.on kb
  replace IA := IA.on kb
  replace HB := HB.on kb
  clear kb
  refine ⟨EC.val c, rfl, ?_⟩
  simp only [Act.put, List.setIfInBounds_toArray, List.set_cons_zero, List.set_cons_succ]
  refine wl_yield (o := ⟨_, _, _, _, _, _⟩) (evVal evZ) (yl_zeroE (by rfl) rfl) ?_
  simp only [Act.put, List.setIfInBounds_toArray, List.set_cons_zero, List.set_cons_succ]
  refine wl_call (o := ⟨_, _, _, _, _, _⟩) (by rfl) 17 _ _ rfl #[EC.val c, evVal evZ] rfl (run_call Try.func17 (by kernel_rfl) (by kernel_rfl)) ?_
  refine (c_eval HC (by omega) evZ_fit).mono ?_
  rintro r v9 ⟨rfl, kb⟩
  replace D := D.trans (kb.mono D.size)
  replace HU := HU.on kb
  replace HA := HA.on kb
  replace IA := IA.on kb
  replace HB := HB.on kb
  replace HC := HC.on kb
  clear kb
  refine ⟨.bool false, ret_bool aw_or, ?_⟩
  simp only [Act.put, List.setIfInBounds_toArray, List.set_cons_zero, List.set_cons_succ]
  refine wl_yield (o := ⟨_, _, _, _, _, _⟩) (.bool true) (yl_not (by rfl) _ _ rfl false rfl) ?_
  simp only [Act.put, List.setIfInBounds_toArray, List.set_cons_zero, List.set_cons_succ]
  refine wl_yield (o := ⟨_, _, _, _, _, _⟩) (.bool true) (yl_pickT (by rfl) _ _ _ rfl rfl _ rfl) ?_
  simp only [Act.put, List.setIfInBounds_toArray, List.set_cons_zero, List.set_cons_succ]
  refine wl_yield (o := ⟨_, _, _, _, _, _⟩) (.bool true) (yl_move (by rfl) _ rfl _ rfl) ?_
  simp only [Act.put, List.setIfInBounds_toArray, List.set_cons_zero, List.set_cons_succ]
  refine wl_yield (o := ⟨_, _, _, _, _, _⟩) (EC.val a) (yl_ex (by rfl) _ rfl _ 0 rfl _ (fun _ h => by subst h; exact ExIn.ec IA)) ?_
  simp only [Act.put, List.setIfInBounds_toArray, List.set_cons_zero, List.set_cons_succ]
  refine wl_yield (o := ⟨_, _, _, _, _, _⟩) (evVal evZ) (yl_zeroE (by rfl) rfl) ?_
  simp only [Act.put, List.setIfInBounds_toArray, List.set_cons_zero, List.set_cons_succ]
  refine wl_call (o := ⟨_, _, _, _, _, _⟩) (by rfl) 17 _ _ rfl #[EC.val a, evVal evZ] rfl (run_call Try.func17 (by kernel_rfl) (by kernel_rfl)) ?_
  refine (c_eval HA (by omega) evZ_fit).mono ?_
  rintro r v10 ⟨rfl, kb⟩
  replace D := D.trans (kb.mono D.size)
  replace HU := HU.on kb
  replace HA := HA.on kb
  replace IA := IA.on kb
  replace HB := HB.on kb
  replace HC := HC.on kb
  clear kb
  refine ⟨.bool true, ret_bool aw_z, ?_⟩
  simp only [Act.put, List.setIfInBounds_toArray, List.set_cons_zero, List.set_cons_succ]
  refine wl_yield (o := ⟨_, _, _, _, _, _⟩) (.bool true) (yl_pickT (by rfl) _ _ _ rfl rfl _ rfl) ?_
  simp only [Act.put, List.setIfInBounds_toArray, List.set_cons_zero, List.set_cons_succ]
  refine wl_yield (o := ⟨_, _, _, _, _, _⟩) (.bool true) (yl_move (by rfl) _ rfl _ rfl) ?_
  simp only [Act.put, List.setIfInBounds_toArray, List.set_cons_zero, List.set_cons_succ]
  refine wl_yield (o := ⟨_, _, _, _, _, _⟩) (EC.val a) (yl_ex (by rfl) _ rfl _ 0 rfl _ (fun _ h => by subst h; exact ExIn.ec IA)) ?_
  simp only [Act.put, List.setIfInBounds_toArray, List.set_cons_zero, List.set_cons_succ]
  refine wl_run (o := ⟨_, _, _, _, _, _⟩) (by rfl) (.agg #[.int .i64 1, .int .i64 5, .string ⟨#[]⟩]) v10 (by go_simp) ?_
  simp only [Act.put, List.setIfInBounds_toArray, List.set_cons_zero, List.set_cons_succ]
  refine wl_run (o := ⟨_, _, _, _, _, _⟩) (by rfl) (evVal evFive) v10 (by unfold evVal evFive vaZ; go_simp) ?_
  simp only [Act.put, List.setIfInBounds_toArray, List.set_cons_zero, List.set_cons_succ]
  refine wl_call (o := ⟨_, _, _, _, _, _⟩) (by rfl) 17 _ _ rfl #[EC.val a, evVal evFive] rfl (run_call Try.func17 (by kernel_rfl) (by kernel_rfl)) ?_
  refine (c_eval HA (by omega) evFive_fit).mono ?_
  rintro r v11 ⟨rfl, kb⟩
  replace D := D.trans (kb.mono D.size)
  replace HU := HU.on kb
  replace HA := HA.on kb
  replace IA := IA.on kb
  replace HB := HB.on kb
  replace HC := HC.on kb
  clear kb
  refine ⟨.bool false, ret_bool aw_five, ?_⟩
  simp only [Act.put, List.setIfInBounds_toArray, List.set_cons_zero, List.set_cons_succ]
  refine wl_yield (o := ⟨_, _, _, _, _, _⟩) (.bool true) (yl_not (by rfl) _ _ rfl false rfl) ?_
  simp only [Act.put, List.setIfInBounds_toArray, List.set_cons_zero, List.set_cons_succ]
  refine wl_yield (o := ⟨_, _, _, _, _, _⟩) (.bool true) (yl_pickT (by rfl) _ _ _ rfl rfl _ rfl) ?_
  simp only [Act.put, List.setIfInBounds_toArray, List.set_cons_zero, List.set_cons_succ]
  refine wl_yield (o := ⟨_, _, _, _, _, _⟩) (.bool true) (yl_move (by rfl) _ rfl _ rfl) ?_
  simp only [Act.put, List.setIfInBounds_toArray, List.set_cons_zero, List.set_cons_succ]
  refine wl_yield (o := ⟨_, _, _, _, _, _⟩) (.int .i64 2) (yl_move (by rfl) _ rfl _ rfl) ?_
  simp only [Act.put, List.setIfInBounds_toArray, List.set_cons_zero, List.set_cons_succ]
  refine wl_yield (o := ⟨_, _, _, _, _, _⟩) (.bool true) (yl_eqI (by rfl) _ _ _ rfl (2) (2) rfl rfl) ?_
  simp only [Act.put, List.setIfInBounds_toArray, List.set_cons_zero, List.set_cons_succ]
  refine wl_yield (o := ⟨_, _, _, _, _, _⟩) (.bool true) (yl_pickT (by rfl) _ _ _ rfl rfl _ rfl) ?_
  simp only [Act.put, List.setIfInBounds_toArray, List.set_cons_zero, List.set_cons_succ]
  refine wl_yield (o := ⟨_, _, _, _, _, _⟩) (.bool true) (yl_move (by rfl) _ rfl _ rfl) ?_
  simp only [Act.put, List.setIfInBounds_toArray, List.set_cons_zero, List.set_cons_succ]
  refine wl_yield (o := ⟨_, _, _, _, _, _⟩) (.int .i64 2) (yl_move (by rfl) _ rfl _ rfl) ?_
  simp only [Act.put, List.setIfInBounds_toArray, List.set_cons_zero, List.set_cons_succ]
  refine wl_yield (o := ⟨_, _, _, _, _, _⟩) (.bool true) (yl_eqI (by rfl) _ _ _ rfl (2) (2) rfl rfl) ?_
  simp only [Act.put, List.setIfInBounds_toArray, List.set_cons_zero, List.set_cons_succ]
  refine wl_yield (o := ⟨_, _, _, _, _, _⟩) (.bool true) (yl_pickT (by rfl) _ _ _ rfl rfl _ rfl) ?_
  simp only [Act.put, List.setIfInBounds_toArray, List.set_cons_zero, List.set_cons_succ]
  refine wl_yield (o := ⟨_, _, _, _, _, _⟩) (.bool true) (yl_move (by rfl) _ rfl _ rfl) ?_
  simp only [Act.put, List.setIfInBounds_toArray, List.set_cons_zero, List.set_cons_succ]
  refine wl_yield (o := ⟨_, _, _, _, _, _⟩) (EC.val a) (yl_ex (by rfl) _ rfl _ 0 rfl _ (fun _ h => by subst h; exact ExIn.ec IA)) ?_
  simp only [Act.put, List.setIfInBounds_toArray, List.set_cons_zero, List.set_cons_succ]
  refine wl_call (o := ⟨_, _, _, _, _, _⟩) (by rfl) 15 _ _ rfl #[EC.val a] rfl (run_call Try.func15 (by kernel_rfl) (by kernel_rfl)) ?_
  refine (c_right HA (by omega)).mono ?_
  rintro r v12 ⟨rfl, kb⟩
  replace D := D.trans (kb.mono D.size)
  replace HU := HU.on kb
  replace HA := HA.on kb
  replace IA := IA.on kb
  replace HB := HB.on kb
  replace HC := HC.on kb
  clear kb
  refine ⟨.bool true, ret_bool aw_right, ?_⟩
  simp only [Act.put, List.setIfInBounds_toArray, List.set_cons_zero, List.set_cons_succ]
  refine wl_yield (o := ⟨_, _, _, _, _, _⟩) (.bool true) (yl_pickT (by rfl) _ _ _ rfl rfl _ rfl) ?_
  simp only [Act.put, List.setIfInBounds_toArray, List.set_cons_zero, List.set_cons_succ]
  refine wl_yield (o := ⟨_, _, _, _, _, _⟩) (.bool true) (yl_move (by rfl) _ rfl _ rfl) ?_
  simp only [Act.put, List.setIfInBounds_toArray, List.set_cons_zero, List.set_cons_succ]
  refine wl_yield (o := ⟨_, _, _, _, _, _⟩) (EC.val ec0) (yl_zeroX (by rfl) rfl) ?_
  simp only [Act.put, List.setIfInBounds_toArray, List.set_cons_zero, List.set_cons_succ]
  refine wl_call (o := ⟨_, _, _, _, _, _⟩) (by rfl) 15 _ _ rfl #[EC.val ec0] rfl (run_call Try.func15 (by kernel_rfl) (by kernel_rfl)) ?_
  refine (c_right (n := 1) (x := noX) (noX_at _) (by omega)).mono ?_
  rintro r v13 ⟨rfl, kb⟩
  replace D := D.trans (kb.mono D.size)
  replace HU := HU.on kb
  replace HA := HA.on kb
  replace IA := IA.on kb
  replace HB := HB.on kb
  replace HC := HC.on kb
  clear kb
  refine ⟨.bool false, ret_bool aw_none, ?_⟩
  simp only [Act.put, List.setIfInBounds_toArray, List.set_cons_zero, List.set_cons_succ]
  refine wl_yield (o := ⟨_, _, _, _, _, _⟩) (.bool true) (yl_not (by rfl) _ _ rfl false rfl) ?_
  simp only [Act.put, List.setIfInBounds_toArray, List.set_cons_zero, List.set_cons_succ]
  refine wl_yield (o := ⟨_, _, _, _, _, _⟩) (.bool true) (yl_pickT (by rfl) _ _ _ rfl rfl _ rfl) ?_
  simp only [Act.put, List.setIfInBounds_toArray, List.set_cons_zero, List.set_cons_succ]
  refine wl_yield (o := ⟨_, _, _, _, _, _⟩) (.bool true) (yl_assign (by rfl) _ rfl _ rfl) ?_
  simp only [Act.put, List.setIfInBounds_toArray, List.set_cons_zero, List.set_cons_succ]
  refine wpList_nil ?_
  refine hK4 _ _ ?_
  clear hK4 K4
  refine wp_ret ?_
  go_ret
  exact ⟨rfl, D⟩
end Go.Proofs.Ytoplmioejebnnaa
