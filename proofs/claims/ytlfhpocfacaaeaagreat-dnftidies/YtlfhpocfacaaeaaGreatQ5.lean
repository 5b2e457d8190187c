/-
  The program's Size, Right and Eval, in the words of the expression alone.
-/
import Derived.Test.YtlfhpocfacaaeaaGreatQ2
import Derived.Test.YtlfhpocfacaaeaaGreatQ4
import Derived.Test.YtlfhpocfacaaeaaGreatQ3
import Derived.Test.YtlfhpocfacaaeaaGreatQ1
import Derived.Lib.AppendZeros
import Derived.Laws.AppendOwnNone
set_option linter.unusedSimpArgs false
set_option linter.unusedVariables false
namespace Go.Proofs.YtlfhpocfacaaeaaGreat
open Go.RowKit

theorem progRight_any (k : Nat) (c : EC) (x : ExV) (w : World) (hx : ExAt k w c.val x) (hk : k ≤ 1000) :
    Calls Tryz.prog 34 #[c.val] w fun r w' => r = .returned (.bool (rightX x)) ∧ Below w.heap.size w w' := by
  have := right_any k c x w hx hk
  rw [right_plain (ExAt.low k hx)] at this
  exact this

set_option maxHeartbeats 4000000 in
set_option maxRecDepth 100000 in
theorem progEval_any (k : Nat) (c : EC) (x : ExV) (e : EvV) (w : World) (hx : ExAt k w c.val x) (hk : k ≤ 1000) (hf : evFit e) :
    Calls Tryz.prog 26 #[c.val, evVal e] w fun r w' => r = .returned (.bool (evalX x e)) ∧ Below w.heap.size w w' := by
  have HT := hide (XeAt.new w c e)
  have X := fun (W : World) (hb : Below w.heap.size w W) => hide (progRight_any k c x W (ExAt.on hb _ hx) hk)
  have Y := fun (W : World) => hide (event_any e W hf)
  have Z : rightX x = true → ∀ (W : World) (hb : Below w.heap.size w W), Hid (Calls Tryz.prog 58 #[c.val, evVal e] W fun r W' => r = .returned (.bool (isX 8 x e)) ∧ Below W.heap.size W W') := fun hr W hb => hide (by
    have h8 := rightX_low hr
    unfold rightX at hr
    rw [Bool.and_eq_true] at hr
    exact isSo_any e hf 8 x c W (ExAt.shrink k 8 (ExAt.on hb _ hx) h8) hr.2)
  have EQ : Hid (evalX x e = ((rightX x && rightE e) && isX 8 x e)) := hide rfl
  generalize evalX x e = R at EQ ⊢
  generalize isX 8 x e = p at EQ Z
  clear hx hf hk
  unfold exObj evObj at HT
  unfold EC.val evVal at *
  cases hr : rightX x
  · rw [hr] at X EQ
    have E : Hid (R = false) := hide EQ.out
    clear Z EQ Y
    go_enter Tryz.func26, Tryz.ntmps26
    go_wp2_with fail
    refine (unhide (X _ HT.out.b)).mono ?_
    rintro r w1 ⟨rfl, b1⟩
    have HT1 := hide (HT.out.on b1)
    clear X HT b1
    go_wp2
    go_ret
    exact ⟨ret_bool E.out.symm, HT1.out.b⟩
  · rw [hr] at X EQ
    have Z := Z hr
    clear hr
    generalize rightE e = q at Y EQ
    cases q
    · have E : Hid (R = false) := hide EQ.out
      clear Z EQ
      go_enter Tryz.func26, Tryz.ntmps26
      go_wp2_with fail
      refine (unhide (X _ HT.out.b)).mono ?_
      rintro r w1 ⟨rfl, b1⟩
      have HT1 := hide (HT.out.on b1)
      obtain ⟨d0, d1, d2, d3, d4, d5, d6, d7, d8, d9, d10, d11⟩ := evCells HT1.out.e
      clear X HT b1
      go_wp2_with fail
      refine (unhide (Y _)).mono ?_
      rintro r w2 ⟨rfl, b2⟩
      have HT2 := hide (HT1.out.on b2)
      clear Y HT1 b2 d0 d1 d2 d3 d4 d5 d6 d7 d8 d9 d10 d11
      go_wp2
      go_ret
      exact ⟨ret_bool E.out.symm, HT2.out.b⟩
    · have E : Hid (R = p) := hide EQ.out
      clear EQ
      go_enter Tryz.func26, Tryz.ntmps26
      go_wp2_with fail
      refine (unhide (X _ HT.out.b)).mono ?_
      rintro r w1 ⟨rfl, b1⟩
      have HT1 := hide (HT.out.on b1)
      obtain ⟨d0, d1, d2, d3, d4, d5, d6, d7, d8, d9, d10, d11⟩ := evCells HT1.out.e
      clear X HT b1
      go_wp2_with fail
      refine (unhide (Y _)).mono ?_
      rintro r w2 ⟨rfl, b2⟩
      have HT2 := hide (HT1.out.on b2)
      clear Y HT1 b2 d0 d1 d2 d3 d4 d5 d6 d7 d8 d9 d10 d11
      obtain ⟨d0, d1, d2, d3, d4, d5, d6, d7, d8, d9, d10, d11⟩ := evCells HT2.out.e
      obtain ⟨c0, c1, c2, c3, c4, c5, c6⟩ := ecCells1 HT2.out.x
      go_wp2_with fail
      refine (unhide (Z _ HT2.out.b)).mono ?_
      rintro r w3 ⟨rfl, b3⟩
      have HT3 := hide (HT2.out.on b3)
      clear Z HT2 b3 d0 d1 d2 d3 d4 d5 d6 d7 d8 d9 d10 d11 c0 c1 c2 c3 c4 c5 c6
      go_wp2
      go_ret
      exact ⟨ret_bool E.out.symm, HT3.out.b⟩
end Go.Proofs.YtlfhpocfacaaeaaGreat
/-
  Steps of regions, of the fifth layer: new blocks and rows of expressions; the contracts of the layer in one form.
-/
set_option linter.unusedSimpArgs false
set_option linter.unusedVariables false
namespace Go.Proofs.YtlfhpocfacaaeaaGreat
open Go.RowKit

/-- An expression as a value. -/
def Xp (n : Nat) (w : World) (c : EC) (x : ExV) : Prop := ExAt n w c.val x
theorem Xp.on {n : Nat} {w w' : World} {c : EC} {x : ExV} (h : Xp n w c x) (hb : Below w.heap.size w w') : Xp n w' c x := ExAt.on hb n h
/-- A set in a block of its own. -/
def StB (w : World) (g : Nat) (s : SC) : Prop := w.heap[g]? = some (stObj s)
theorem StB.on {w w' : World} {g : Nat} {s : SC} (h : StB w g s) (hb : Below w.heap.size w w') : StB w' g s := (hb.block _ (lt_heap h)).trans h
def vaZ : Va := (0, 0, ⟨#[]⟩)
def evZ : EvV := ⟨vaZ, vaZ, vaZ, vaZ⟩
theorem evZ_fit : evFit evZ := ⟨Nat.zero_le _, Nat.zero_le _, Nat.zero_le _, Nat.zero_le _⟩
section
variable {ops : Array Oper} {Q : Exit → Act → World → Prop} {S : World → Prop} {o : Oper} {a : Act}
set_option maxRecDepth 100000 in
theorem wl_boxEx {rest : List Oper} {w : World} (hw : Region.wanted o (yielded ops a.tmps) = true) (x : Operand) (ho : o.op = .box 28 x) {c : EC} (hx : a.eval x = c.val)
    (h : ∀ W g, ExIn W g c → Below w.heap.size w W → wpList Tryz.prog ops Q rest (a.put o.dst (.pointer (some ⟨g, 0, none⟩))) W) : wpList Tryz.prog ops Q (o :: rest) a w := by
  refine wl_run hw (.pointer (some ⟨w.heap.size, 0, none⟩)) (w.alloc (exObj c)) ?_ (h _ _ (heap_new _ _) ((Below.refl _ w).alloc (Nat.le_refl _) _))
  simp only [execOp, ho, hx, EC.val, exObj]
  go_simp
set_option maxRecDepth 100000 in
theorem wl_evBox {rest : List Oper} {w : World} (hw : Region.wanted o (yielded ops a.tmps) = true) (x : Operand) (ho : o.op = .box 42 x) {e : EvV} (hx : a.eval x = evVal e)
    (h : ∀ W g, EvIn W g e → Below w.heap.size w W → wpList Tryz.prog ops Q rest (a.put o.dst (.pointer (some ⟨g, 0, none⟩))) W) : wpList Tryz.prog ops Q (o :: rest) a w := by
  refine wl_run hw (.pointer (some ⟨w.heap.size, 0, none⟩)) (w.alloc (evObj e)) ?_ (h _ _ (heap_new _ _) ((Below.refl _ w).alloc (Nat.le_refl _) _))
  simp only [execOp, ho, hx, evVal, evObj]
  go_simp
set_option maxRecDepth 100000 in
/-- A new block, and an expression stored there. -/
theorem wl_newEx {o2 : Oper} {rest : List Oper} {w : World} (hw : Region.wanted o (yielded ops a.tmps) = true) (ho : o.op = .alloc 28) (x y : Operand) (ho2 : o2.op = .store 28 x y) (hg2 : o2.guard = none)
    (hx : ∀ v, (a.put o.dst v).eval x = v) {c : EC} (hy : ∀ v, (a.put o.dst v).eval y = c.val)
    (h : ∀ W g, ExIn W g c → Below w.heap.size w W → wpList Tryz.prog ops Q rest ((a.put o.dst (.pointer (some ⟨g, 0, none⟩))).put o2.dst undef) W) : wpList Tryz.prog ops Q (o :: o2 :: rest) a w := by
  refine wl_run hw (.pointer (some ⟨w.heap.size, 0, none⟩)) (w.alloc (exObj ec0)) ?_ ?_
  · simp only [execOp, ho, exObj, ec0, SC.zero]
    go_simp
  · have hz : ExIn (w.alloc (exObj ec0)) w.heap.size ec0 := heap_new _ _
    have ht : (w.alloc (exObj ec0)).there w.heap.size 0 7 := fun j hj => by
      refine ⟨?_, soft_heap hz _⟩
      rw [hz.ec.range j _ (List.getElem?_eq_getElem (show j < ec0.list.length from hj))]
      rfl
    refine wpList_store_mid hg2 28 x y ho2 w.heap.size 0 c.list.toArray (hx _) (hy _) ht (by rw [infoEx]; rfl) (all_oneCell_toArray c.list_one) ?_
    refine h _ _ ?_ (Below.setCells w.heap.size (Nat.le_refl _) c.list 0 _ ((Below.refl _ w).alloc (Nat.le_refl _) _))
    exact heap_put (heap_put (heap_put (heap_put (heap_put (heap_put (heap_put hz 0 (.int .i64 c.k)) 1 (.int .i64 c.t)) 2 (.bool c.s.a)) 3 (.slice c.s.p c.s.n c.s.c)) 4 (.bool c.s.d)) 5 (.slice c.s.q c.s.m c.s.e)) 6 (.slice c.p c.n c.c)
theorem yl_zeroE (hw : Region.wanted o (yielded ops a.tmps) = true) (ho : o.op = .build 42 #[]) : YieldsIf Tryz.prog ops S o (evVal evZ) a :=
  Or.inl ⟨hw, fun w _ => by
    simp only [execOp, ho, evVal, evZ, vaZ]
    go_simp⟩
theorem yl_zeroX (hw : Region.wanted o (yielded ops a.tmps) = true) (ho : o.op = .build 28 #[]) : YieldsIf Tryz.prog ops S o ec0.val a :=
  Or.inl ⟨hw, fun w _ => by
    simp only [execOp, ho, EC.val, ec0, SC.zero]
    go_simp⟩
theorem yl_neqB (hw : Region.wanted o (yielded ops a.tmps) = true) (x y : Operand) (t : TypeId) (ho : o.op = .binOp .neq 4 x y t) (p q : Bool) (hx : a.eval x = .bool p) (hy : a.eval y = .bool q) : YieldsIf Tryz.prog ops S o (.bool (p != q)) a :=
  Or.inl ⟨hw, fun w hS => by
    simp only [execOp, ho, hx, hy]
    go_simp
    cases p <;> cases q <;> rfl⟩
end

/-! ### What may be gone over -/
theorem count_sub {f : Nat} {x y : ExV} (h : countX (f + 1) x < 100) (hy : y ∈ x.sub) : countX f y < 100 := by
  have hg : ∀ (l : List ExV) (n : Int), l.foldl (fun n y => if n < 100 then n + countX f y else n) n < 100 → 0 ≤ n → y ∈ l → countX f y < 100 := by
    intro l
    induction l with
    | nil => intro n _ _ h; cases h
    | cons z l ih =>
      intro n h h0 hm
      rw [List.foldl_cons] at h
      have hz := countX_pos f z
      have h2 := count_len f l _ h
      by_cases hn : n < 100
      · rw [if_pos hn] at h h2
        rcases List.mem_cons.1 hm with rfl | hm
        · omega
        · exact ih _ h (by omega) hm
      · rw [if_neg hn] at h h2
        omega
  unfold countX at h
  exact hg x.sub 1 (by omega) (by omega) hy
theorem cp_of : ∀ (k f n : Nat) (x : ExV), lowX k x → lowX n x → countX f x < 100 → setsX n x = true → cpX k x
  | 0, _, _, _, h, _, _, _ => by cases h
  | k + 1, 0, _, _, _, _, h, _ => by unfold countX at h; omega
  | k + 1, f + 1, 0, _, _, h, _, _ => by cases h
  | k + 1, f + 1, n + 1, x, hk, hn, hc, hs => by
    unfold setsX at hs
    rw [Bool.and_eq_true, List.all_eq_true] at hs
    have hf := hs.1
    unfold fewB at hf
    simp only [Bool.and_eq_true, decide_eq_true_eq] at hf
    have hc' := hc
    unfold countX at hc'
    have hl := count_len f x.sub 1 (by omega)
    exact ⟨by omega, by omega, by omega, fun y hy => cp_of k f n y (hk y hy) (hn y hy) (count_sub hc hy) (hs.2 y hy)⟩
theorem few_low {n : Nat} {x : ExV} (h : fewX n x = true) : lowX 19 x := by
  unfold fewX at h
  simp only [Bool.and_eq_true, decide_eq_true_eq] at h
  exact deep_low 21 19 x (by omega) (by omega) (by omega) (by omega)
theorem few_cp {n : Nat} {w : World} {c : EC} {x : ExV} (hx : Xp n w c x) (h : fewX n x = true) : Xp 19 w c x ∧ cpX 19 x := by
  have l19 := few_low h
  unfold fewX at h
  simp only [Bool.and_eq_true, decide_eq_true_eq] at h
  exact ⟨ExAt.shrink n 19 hx l19, cp_of 19 21 n x l19 (ExAt.low n hx) h.1.1 h.2⟩
theorem cp_nil (n : Nat) : ∀ y ∈ ([] : List ExV), cpX n y := fun y h => by cases h

/-! ### The contracts in one form -/
theorem c_refFew {n : Nat} {w : World} {c : EC} {x : ExV} (h : Xp n w c x) : Calls Tryz.prog 11 #[c.val] w fun r w' => r = .returned (.bool (fewX n x)) ∧ Below w.heap.size w w' := refFewX_any n x c.val w h
theorem c_and {n : Nat} {w : World} {v : Value} {l : List ExV} (h : RowsX n w v l) (hl : l.length ≤ 1000) (hcp : ∀ y ∈ l, cpX n y) : Calls Tryz.prog 27 #[v] w fun r w' => (∃ d : EC, r = .returned d.val ∧ Xp (n + 1) w' d (andX l)) ∧ Below w.heap.size w w' := progAnd_any n v l w h hl hcp
theorem c_or {n : Nat} {w : World} {v : Value} {l : List ExV} (h : RowsX n w v l) (hl : l.length ≤ 1000) (hcp : ∀ y ∈ l, cpX n y) : Calls Tryz.prog 28 #[v] w fun r w' => (∃ d : EC, r = .returned d.val ∧ Xp (n + 1) w' d (orX l)) ∧ Below w.heap.size w w' := progOr_any n v l w h hl hcp
theorem c_and0 (w : World) : Calls Tryz.prog 27 #[.slice none 0 0] w fun r w' => (∃ d : EC, r = .returned d.val ∧ Xp 1 w' d (andX [])) ∧ Below w.heap.size w w' := progAnd_any 0 _ [] w (RowsX.nil 0 w) (by simp) (cp_nil 0)
theorem c_or0 (w : World) : Calls Tryz.prog 28 #[.slice none 0 0] w fun r w' => (∃ d : EC, r = .returned d.val ∧ Xp 1 w' d (orX [])) ∧ Below w.heap.size w w' := progOr_any 0 _ [] w (RowsX.nil 0 w) (by simp) (cp_nil 0)
theorem c_not {n : Nat} {w : World} {c : EC} {x : ExV} (h : Xp n w c x) (hcp : cpX n x) : Calls Tryz.prog 25 #[c.val] w fun r w' => (∃ d : EC, r = .returned d.val ∧ Xp (n + 1) w' d (notX x)) ∧ Below w.heap.size w w' := progNot_any n c x w h hcp
theorem c_right {n : Nat} {w : World} {c : EC} {x : ExV} (h : Xp n w c x) (hn : n ≤ 1000) : Calls Tryz.prog 34 #[c.val] w fun r w' => r = .returned (.bool (rightX x)) ∧ Below w.heap.size w w' := progRight_any n c x w h hn
theorem c_eval {n : Nat} {w : World} {c : EC} {x : ExV} {e : EvV} (h : Xp n w c x) (hn : n ≤ 1000) (hf : evFit e) : Calls Tryz.prog 26 #[c.val, evVal e] w fun r w' => r = .returned (.bool (evalX x e)) ∧ Below w.heap.size w w' := progEval_any n c x e w h hn hf
theorem c_refEval {n : Nat} {w : World} {c : EC} {x : ExV} {e : EvV} (h : Xp n w c x) (hf : evFit e) : Calls Tryz.prog 16 #[c.val, evVal e] w fun r w' => r = .returned (.bool (evalX x e)) ∧ Below w.heap.size w w' := refEvalX_any n c x e w h hf
end Go.Proofs.YtlfhpocfacaaeaaGreat
/-
  The closures over box.In and box.Has; liesInOne, Has.
-/
set_option linter.unusedSimpArgs false
set_option linter.unusedVariables false
namespace Go.Proofs.YtlfhpocfacaaeaaGreat
open Go.RowKit

set_option maxHeartbeats 4000000 in
set_option maxRecDepth 100000 in
theorem tidied1_any (c d : BxC) (g : Nat) (a b : BoxV) (w : World) (hv : BoxAt w c.val a) (HQ : BcIn w g d) (hu : BoxAt w d.val b) (fa : FitBx a) (fb : FitBx b) :
    Calls Tryz.prog 83 #[c.val, .pointer (some ⟨g, 0, none⟩)] w fun r w' => r = .returned (.bool (inBx a b)) ∧ Below w.heap.size w w' := by
  have D := Below.refl w.heap.size w
  go_enter Tryz.func83, Tryz.ntmps83
  refine wp_seq_k (fun K1 hK1 => ?_)
  refine wp_region_lit ?_
  refine wl_boxBc (o := ⟨_, _, _, _, _, _⟩) (by rfl) _ rfl rfl (fun v1 gb1 hggb1 IO2 kb => ?_)
  simp only [Act.put, List.setIfInBounds_toArray, List.set_cons_zero, List.set_cons_succ]
  replace D := D.trans (kb.mono D.size)
  replace HQ := HQ.on kb
  replace hv := hv.on kb
  replace hu := hu.on kb
  clear kb
  refine wl_yield (o := ⟨_, _, _, _, _, _⟩) (.bool false) (yl_assign (by rfl) _ rfl _ rfl) ?_
  simp only [Act.put, List.setIfInBounds_toArray, List.set_cons_zero, List.set_cons_succ]
  refine wpList_nil ?_
  refine hK1 _ _ ?_
  clear hK1 K1
  refine wp_seq_k (fun K2 hK2 => ?_)
  refine wp_region_lit ?_
  refine wl_yield (o := ⟨_, _, _, _, _, _⟩) (BxC.val c) (yl_bx (by rfl) _ rfl _ _ rfl _ (fun _ h => by subst h; exact BcIn.at IO2)) ?_
  simp only [Act.put, List.setIfInBounds_toArray, List.set_cons_zero, List.set_cons_succ]
  refine wl_yield (o := ⟨_, _, _, _, _, _⟩) (BxC.val d) (yl_bx (by rfl) _ rfl _ _ rfl _ (fun _ h => by subst h; exact BcIn.at HQ)) ?_
  simp only [Act.put, List.setIfInBounds_toArray, List.set_cons_zero, List.set_cons_succ]
  refine wl_call (o := ⟨_, _, _, _, _, _⟩) (by rfl) 84 _ _ rfl #[BxC.val c, BxC.val d] rfl (run_call Tryz.func84 (by kernel_rfl) (by kernel_rfl)) ?_
  refine (boxProg0.in_ _ _ a b _ hv hu fa fb).mono ?_
  rintro r v2 ⟨rfl, kb⟩
  replace D := D.trans (kb.mono D.size)
  replace HQ := HQ.on kb
  replace hv := hv.on kb
  replace hu := hu.on kb
  replace IO2 := IO2.on kb
  clear kb
  refine ⟨.bool (inBx a b), rfl, ?_⟩
  simp only [Act.put, List.setIfInBounds_toArray, List.set_cons_zero, List.set_cons_succ]
  refine wl_yield (o := ⟨_, _, _, _, _, _⟩) (.bool (inBx a b)) (yl_assign (by rfl) _ rfl _ rfl) ?_
  simp only [Act.put, List.setIfInBounds_toArray, List.set_cons_zero, List.set_cons_succ]
  refine wpList_nil ?_
  refine hK2 _ _ ?_
  clear hK2 K2
  refine wp_ret ?_
  go_ret
  exact ⟨rfl, D⟩
set_option maxHeartbeats 4000000 in
set_option maxRecDepth 100000 in
theorem lies1_any (c d : BxC) (g : Nat) (a b : BoxV) (w : World) (hv : BoxAt w c.val a) (HQ : BcIn w g d) (hu : BoxAt w d.val b) (fa : FitBx a) (fb : FitBx b) :
    Calls Tryz.prog 114 #[c.val, .pointer (some ⟨g, 0, none⟩)] w fun r w' => r = .returned (.bool (inBx b a)) ∧ Below w.heap.size w w' := by
  have D := Below.refl w.heap.size w
  go_enter Tryz.func114, Tryz.ntmps114
  refine wp_seq_k (fun K1 hK1 => ?_)
  refine wp_region_lit ?_
  refine wl_boxBc (o := ⟨_, _, _, _, _, _⟩) (by rfl) _ rfl rfl (fun v1 gb1 hggb1 IO2 kb => ?_)
  simp only [Act.put, List.setIfInBounds_toArray, List.set_cons_zero, List.set_cons_succ]
  replace D := D.trans (kb.mono D.size)
  replace HQ := HQ.on kb
  replace hv := hv.on kb
  replace hu := hu.on kb
  clear kb
  refine wl_yield (o := ⟨_, _, _, _, _, _⟩) (.bool false) (yl_assign (by rfl) _ rfl _ rfl) ?_
  simp only [Act.put, List.setIfInBounds_toArray, List.set_cons_zero, List.set_cons_succ]
  refine wpList_nil ?_
  refine hK1 _ _ ?_
  clear hK1 K1
  refine wp_seq_k (fun K2 hK2 => ?_)
  refine wp_region_lit ?_
  refine wl_yield (o := ⟨_, _, _, _, _, _⟩) (BxC.val d) (yl_bx (by rfl) _ rfl _ _ rfl _ (fun _ h => by subst h; exact BcIn.at HQ)) ?_
  simp only [Act.put, List.setIfInBounds_toArray, List.set_cons_zero, List.set_cons_succ]
  refine wl_yield (o := ⟨_, _, _, _, _, _⟩) (BxC.val c) (yl_bx (by rfl) _ rfl _ _ rfl _ (fun _ h => by subst h; exact BcIn.at IO2)) ?_
  simp only [Act.put, List.setIfInBounds_toArray, List.set_cons_zero, List.set_cons_succ]
  refine wl_call (o := ⟨_, _, _, _, _, _⟩) (by rfl) 84 _ _ rfl #[BxC.val d, BxC.val c] rfl (run_call Tryz.func84 (by kernel_rfl) (by kernel_rfl)) ?_
  refine (boxProg0.in_ _ _ b a _ hu hv fb fa).mono ?_
  rintro r v2 ⟨rfl, kb⟩
  replace D := D.trans (kb.mono D.size)
  replace HQ := HQ.on kb
  replace hv := hv.on kb
  replace hu := hu.on kb
  replace IO2 := IO2.on kb
  clear kb
  refine ⟨.bool (inBx b a), rfl, ?_⟩
  simp only [Act.put, List.setIfInBounds_toArray, List.set_cons_zero, List.set_cons_succ]
  refine wl_yield (o := ⟨_, _, _, _, _, _⟩) (.bool (inBx b a)) (yl_assign (by rfl) _ rfl _ rfl) ?_
  simp only [Act.put, List.setIfInBounds_toArray, List.set_cons_zero, List.set_cons_succ]
  refine wpList_nil ?_
  refine hK2 _ _ ?_
  clear hK2 K2
  refine wp_ret ?_
  go_ret
  exact ⟨rfl, D⟩
set_option maxHeartbeats 4000000 in
set_option maxRecDepth 100000 in
theorem has1_any (c : BxC) (e : EvV) (g : Nat) (a : BoxV) (w : World) (hv : BoxAt w c.val a) (HE : EvIn w g e) (fa : FitBx a) (hf : evFit e) (he : inE e) :
    Calls Tryz.prog 40 #[c.val, .pointer (some ⟨g, 0, none⟩)] w fun r w' => r = .returned (.bool (hasE a e)) ∧ Below w.heap.size w w' := by
  have D := Below.refl w.heap.size w
  go_enter Tryz.func40, Tryz.ntmps40
  refine wp_seq_k (fun K1 hK1 => ?_)
  refine wp_region_lit ?_
  refine wl_boxBc (o := ⟨_, _, _, _, _, _⟩) (by rfl) _ rfl rfl (fun v1 gb1 hggb1 IO2 kb => ?_)
  simp only [Act.put, List.setIfInBounds_toArray, List.set_cons_zero, List.set_cons_succ]
  replace D := D.trans (kb.mono D.size)
  replace HE := HE.on kb
  replace hv := hv.on kb
  clear kb
  refine wl_yield (o := ⟨_, _, _, _, _, _⟩) (.bool false) (yl_assign (by rfl) _ rfl _ rfl) ?_
  simp only [Act.put, List.setIfInBounds_toArray, List.set_cons_zero, List.set_cons_succ]
  refine wpList_nil ?_
  refine hK1 _ _ ?_
  clear hK1 K1
  refine wp_seq_k (fun K2 hK2 => ?_)
  refine wp_region_lit ?_
  refine wl_yield (o := ⟨_, _, _, _, _, _⟩) (BxC.val c) (yl_bx (by rfl) _ rfl _ _ rfl _ (fun _ h => by subst h; exact BcIn.at IO2)) ?_
  simp only [Act.put, List.setIfInBounds_toArray, List.set_cons_zero, List.set_cons_succ]
  refine wl_yield (o := ⟨_, _, _, _, _, _⟩) (evVal e) (yl_ev (by rfl) _ rfl _ 0 rfl _ _ _ _ _ _ _ _ _ _ _ _ (fun _ h => by subst h; exact evCells HE)) ?_
  simp only [Act.put, List.setIfInBounds_toArray, List.set_cons_zero, List.set_cons_succ]
  refine wl_call (o := ⟨_, _, _, _, _, _⟩) (by rfl) 41 _ _ rfl #[BxC.val c, evVal e] rfl (run_call Tryz.func41 (by kernel_rfl) (by kernel_rfl)) ?_
  refine (boxProg0.has _ a e _ hv fa hf he).mono ?_
  rintro r v2 ⟨rfl, kb⟩
  replace D := D.trans (kb.mono D.size)
  replace HE := HE.on kb
  replace hv := hv.on kb
  replace IO2 := IO2.on kb
  clear kb
  refine ⟨.bool (hasE a e), rfl, ?_⟩
  simp only [Act.put, List.setIfInBounds_toArray, List.set_cons_zero, List.set_cons_succ]
  refine wl_yield (o := ⟨_, _, _, _, _, _⟩) (.bool (hasE a e)) (yl_assign (by rfl) _ rfl _ rfl) ?_
  simp only [Act.put, List.setIfInBounds_toArray, List.set_cons_zero, List.set_cons_succ]
  refine wpList_nil ?_
  refine hK2 _ _ ?_
  clear hK2 K2
  refine wp_ret ?_
  go_ret
  exact ⟨rfl, D⟩
def FitL (l : List BoxV) : Prop := ∀ b ∈ l, FitBx b
theorem range_anyC (f : BoxV → Bool) {cs : List BxC} {l : List BoxV} (h : cs.length = l.length) : (List.range cs.length).any (fun i => f (l.getD i zBox)) = l.any f := by rw [h]; exact range_anyB f l
set_option maxHeartbeats 4000000 in
set_option maxRecDepth 100000 in
theorem liesInOne_any (d : BxC) (b : BoxV) (v : Value) (cs : List BxC) (l : List BoxV) (w : World) (hu : BoxAt w d.val b) (fb : FitBx b) (hr : BxRow w v cs) (ha : AllBx w cs l) (fl : FitL l) :
    Calls Tryz.prog 81 #[d.val, v] w fun r w' => r = .returned (.bool (l.any fun k => inBx b k)) ∧ Below w.heap.size w w' := by
  have D := Below.refl w.heap.size w
  go_enter Tryz.func81, Tryz.ntmps81
  refine wp_seq_k (fun K1 hK1 => ?_)
  refine wp_region_lit ?_
  refine wl_boxBc (o := ⟨_, _, _, _, _, _⟩) (by rfl) _ rfl rfl (fun v1 gb1 hggb1 HQ kb => ?_)
  simp only [Act.put, List.setIfInBounds_toArray, List.set_cons_zero, List.set_cons_succ]
  replace D := D.trans (kb.mono D.size)
  clear kb
  refine wl_yield (o := ⟨_, _, _, _, _, _⟩) (.bool false) (yl_assign (by rfl) _ rfl _ rfl) ?_
  simp only [Act.put, List.setIfInBounds_toArray, List.set_cons_zero, List.set_cons_succ]
  refine wpList_nil ?_
  refine hK1 _ _ ?_
  clear hK1 K1
  refine wp_seq_k (fun K2 hK2 => ?_)
  refine wp_region_lit ?_
  refine wl_yield (o := ⟨_, _, _, _, _, _⟩) (v) (yl_move (by rfl) _ rfl _ rfl) ?_
  simp only [Act.put, List.setIfInBounds_toArray, List.set_cons_zero, List.set_cons_succ]
  refine wl_yield (o := ⟨_, _, _, _, _, _⟩) (.func (.func 114) #[] #[.pointer (some ⟨gb1, 0, none⟩)]) (yl_fn (by rfl) _ _ rfl _ rfl) ?_
  simp only [Act.put, List.setIfInBounds_toArray, List.set_cons_zero, List.set_cons_succ]
  refine wl_call (o := ⟨_, _, _, _, _, _⟩) (by rfl) 113 _ _ rfl #[v, .func (.func 114) #[] #[.pointer (some ⟨gb1, 0, none⟩)]] rfl (run_call Tryz.func113 (by kernel_rfl) (by kernel_rfl)) ?_
  refine (containsB_any 114 (run_call Tryz.func114 (by kernel_rfl) (by kernel_rfl)) _ v cs (fun i => inBx b (l.getD i zBox)) _ (hr.on D) (fun i hi W hb => lies1_any _ d _ _ b _ ((ha.2 i (by rw [← ha.1]; exact hi)).on (D.trans (hb.mono D.size))) (HQ.on hb) (hu.on (D.trans (hb.mono D.size))) (fl _ (getB_mem (by rw [← ha.1]; exact hi))) fb)).mono ?_
  rintro r v2 ⟨rfl, kb⟩
  replace D := D.trans (kb.mono D.size)
  replace HQ := HQ.on kb
  clear kb
  refine ⟨.bool ((List.range cs.length).any fun i => inBx b (l.getD i zBox)), rfl, ?_⟩
  simp only [Act.put, List.setIfInBounds_toArray, List.set_cons_zero, List.set_cons_succ]
  refine wl_yield (o := ⟨_, _, _, _, _, _⟩) (.bool ((List.range cs.length).any fun i => inBx b (l.getD i zBox))) (yl_assign (by rfl) _ rfl _ rfl) ?_
  simp only [Act.put, List.setIfInBounds_toArray, List.set_cons_zero, List.set_cons_succ]
  refine wpList_nil ?_
  refine hK2 _ _ ?_
  clear hK2 K2
  refine wp_ret ?_
  go_ret
  exact ⟨by rw [range_anyC (fun k => inBx b k) ha.1]; rfl, D⟩
set_option maxHeartbeats 4000000 in
set_option maxRecDepth 100000 in
theorem progHas_any (v : Value) (l : List BoxV) (e : EvV) (w : World) (hv : Bxs w v l) (fl : FitL l) (hf : evFit e) (he : inE e) :
    Calls Tryz.prog 15 #[v, evVal e] w fun r w' => r = .returned (.bool (hasL l e)) ∧ Below w.heap.size w w' := by
  obtain ⟨cs, hr, ha⟩ := hv
  have D := Below.refl w.heap.size w
  go_enter Tryz.func15, Tryz.ntmps15
  refine wp_seq_k (fun K1 hK1 => ?_)
  refine wp_region_lit ?_
  refine wl_evBox (o := ⟨_, _, _, _, _, _⟩) (by rfl) _ rfl rfl (fun v1 gb1 HE kb => ?_)
  simp only [Act.put, List.setIfInBounds_toArray, List.set_cons_zero, List.set_cons_succ]
  replace D := D.trans (kb.mono D.size)
  clear kb
  refine wl_yield (o := ⟨_, _, _, _, _, _⟩) (.bool false) (yl_assign (by rfl) _ rfl _ rfl) ?_
  simp only [Act.put, List.setIfInBounds_toArray, List.set_cons_zero, List.set_cons_succ]
  refine wpList_nil ?_
  refine hK1 _ _ ?_
  clear hK1 K1
  refine wp_seq_k (fun K2 hK2 => ?_)
  refine wp_region_lit ?_
  refine wl_yield (o := ⟨_, _, _, _, _, _⟩) (v) (yl_move (by rfl) _ rfl _ rfl) ?_
  simp only [Act.put, List.setIfInBounds_toArray, List.set_cons_zero, List.set_cons_succ]
  refine wl_yield (o := ⟨_, _, _, _, _, _⟩) (.func (.func 40) #[] #[.pointer (some ⟨gb1, 0, none⟩)]) (yl_fn (by rfl) _ _ rfl _ rfl) ?_
  simp only [Act.put, List.setIfInBounds_toArray, List.set_cons_zero, List.set_cons_succ]
  refine wl_call (o := ⟨_, _, _, _, _, _⟩) (by rfl) 39 _ _ rfl #[v, .func (.func 40) #[] #[.pointer (some ⟨gb1, 0, none⟩)]] rfl (run_call Tryz.func39 (by kernel_rfl) (by kernel_rfl)) ?_
  refine (containsF_any 40 (run_call Tryz.func40 (by kernel_rfl) (by kernel_rfl)) _ v cs (fun i => hasE (l.getD i zBox) e) _ (hr.on D) (fun i hi W hb => has1_any _ e _ _ _ ((ha.2 i (by rw [← ha.1]; exact hi)).on (D.trans (hb.mono D.size))) (HE.on hb) (fl _ (getB_mem (by rw [← ha.1]; exact hi))) hf he)).mono ?_
  rintro r v2 ⟨rfl, kb⟩
  replace D := D.trans (kb.mono D.size)
  replace HE := HE.on kb
  clear kb
  refine ⟨.bool ((List.range cs.length).any fun i => hasE (l.getD i zBox) e), rfl, ?_⟩
  simp only [Act.put, List.setIfInBounds_toArray, List.set_cons_zero, List.set_cons_succ]
  refine wl_yield (o := ⟨_, _, _, _, _, _⟩) (.bool ((List.range cs.length).any fun i => hasE (l.getD i zBox) e)) (yl_assign (by rfl) _ rfl _ rfl) ?_
  simp only [Act.put, List.setIfInBounds_toArray, List.set_cons_zero, List.set_cons_succ]
  refine wpList_nil ?_
  refine hK2 _ _ ?_
  clear hK2 K2
  refine wp_ret ?_
  go_ret
  exact ⟨by rw [range_anyC (fun k => hasE k e) ha.1]; rfl, D⟩
end Go.Proofs.YtlfhpocfacaaeaaGreat
/-
  The program's tidied.
-/
set_option linter.unusedSimpArgs false
set_option linter.unusedVariables false
namespace Go.Proofs.YtlfhpocfacaaeaaGreat
open Go.RowKit

theorem allBx_snoc {w : World} {ks : List BxC} {L : List BoxV} {c : BxC} {b : BoxV} (h : AllBx w ks L) (hb : BoxAt w c.val b) : AllBx w (ks ++ [c]) (L ++ [b]) := by
  refine ⟨by rw [List.length_append, List.length_append, h.1]; rfl, fun i hi => ?_⟩
  rw [List.length_append, List.length_singleton] at hi
  by_cases hi' : i < L.length
  · rw [getB_lt hi', List.getD_eq_getElem?_getD, List.getElem?_append_left (by rw [h.1]; exact hi'), ← List.getD_eq_getElem?_getD]
    exact h.2 i hi'
  · have e : i = L.length := by omega
    subst e
    rw [getB_end, List.getD_eq_getElem?_getD, ← h.1, List.getElem?_append_right (Nat.le_refl _)]
    simpa using hb
theorem allBx_filter {w : World} {ks : List BxC} {L : List BoxV} (h : AllBx w ks L) (q : BoxV → Bool) : ∀ m, m ≤ L.length → AllBx w (keptB (fun i => q (L.getD i zBox)) ks m) ((L.take m).filter fun k => !q k)
  | 0, _ => ⟨by simp [keptB], fun i hi => by simp at hi⟩
  | m + 1, hm => by
    have ih := allBx_filter h q m (by omega)
    have e : L.take (m + 1) = L.take m ++ [L.getD m zBox] := by
      rw [List.take_add_one, List.getD_eq_getElem?_getD, List.getElem?_eq_getElem (by omega)]
      rfl
    rw [e, List.filter_append]
    cases hq : q (L.getD m zBox)
    · rw [keptB_no hq, show [L.getD m zBox].filter (fun k => !q k) = [L.getD m zBox] by rw [List.filter_cons, List.filter_nil, hq]; rfl]
      exact allBx_snoc ih (h.2 m (by omega))
    · rw [keptB_yes hq, show [L.getD m zBox].filter (fun k => !q k) = [] by rw [List.filter_cons, List.filter_nil, hq]; rfl, List.append_nil]
      exact ih
theorem tidP_take (l : List BoxV) (k : Nat) (hk : k < l.length) : tidP (l.take (k + 1)) = stepT (tidP (l.take k)) (l.getD k zBox) := by
  have h1 : l.take (k + 1) = l.take k ++ [l.getD k zBox] := by
    rw [List.take_add_one, List.getD_eq_getElem?_getD, List.getElem?_eq_getElem hk]
    rfl
  unfold tidP
  rw [h1, List.foldl_append]
  rfl
theorem stepT_len (L : List BoxV) (b : BoxV) : (stepT L b).length ≤ L.length + 1 := by
  unfold stepT
  split
  · omega
  · rw [List.length_append, List.length_singleton]
    have := List.length_filter_le (fun k => !inBx k b) L
    omega
theorem tidP_len (l : List BoxV) : ∀ k, k ≤ l.length → (tidP (l.take k)).length ≤ k
  | 0, _ => by simp [tidP]
  | k + 1, hk => by
    rw [tidP_take l k (by omega)]
    have := tidP_len l k (by omega)
    have := stepT_len (tidP (l.take k)) (l.getD k zBox)
    omega
theorem stepT_mem {L : List BoxV} {b x : BoxV} (h : x ∈ stepT L b) : x ∈ L ∨ x = b := by
  unfold stepT at h
  split at h
  · exact Or.inl h
  · rcases List.mem_append.1 h with h | h
    · exact Or.inl (List.mem_filter.1 h).1
    · exact Or.inr (List.mem_singleton.1 h)
theorem tidP_mem (l : List BoxV) : ∀ k, k ≤ l.length → ∀ x ∈ tidP (l.take k), x ∈ l
  | 0, _, x, h => by simp [tidP] at h
  | k + 1, hk, x, h => by
    rw [tidP_take l k (by omega)] at h
    rcases stepT_mem h with h | rfl
    · exact tidP_mem l k (by omega) x h
    · exact getB_mem (by omega)
theorem tidied_step {w : World} {ks ks' : List BxC} {l : List BoxV} {c : BxC} {k : Nat} (hA : AllBx w ks (tidP (l.take k))) (hk : k < l.length) (hb : BoxAt w c.val (l.getD k zBox))
    (h : (emptyBx (l.getD k zBox) = false ∧ ((tidP (l.take k)).any fun k' => inBx (l.getD k zBox) k') = false ∧ ks' = keptB (fun i => inBx ((tidP (l.take k)).getD i zBox) (l.getD k zBox)) ks ks.length ++ [c]) ∨
      ((emptyBx (l.getD k zBox) = true ∨ ((tidP (l.take k)).any fun k' => inBx (l.getD k zBox) k') = true) ∧ ks' = ks)) : AllBx w ks' (tidP (l.take (k + 1))) := by
  rw [tidP_take l k hk]
  unfold stepT
  rcases h with ⟨h1, h2, rfl⟩ | ⟨h, rfl⟩
  · rw [h1, h2, Bool.or_false, if_neg (by simp)]
    have := allBx_filter hA (fun x => inBx x (l.getD k zBox)) _ (Nat.le_refl _)
    rw [List.take_length, ← hA.1] at this
    exact allBx_snoc this hb
  · rw [if_pos (by rcases h with h | h <;> rw [h] <;> simp)]
    exact hA
set_option maxHeartbeats 4000000 in
set_option maxRecDepth 100000 in
theorem tidied_any (v : Value) (l : List BoxV) (w : World) (hv : Bxs w v l) (fl : FitL l) (hl : l.length ≤ 1000) :
    Calls Tryz.prog 47 #[v] w fun r w' => (∃ u ks, r = .returned u ∧ OwnB w' w.heap.size u ks ∧ AllBx w' ks (tidP l)) ∧ Below w.heap.size w w' := by
  obtain ⟨cs, hr, ha⟩ := hv
  have hbig := hr.1
  have hcl := ha.1
  obtain ⟨q, cp, rfl⟩ := hr.form
  have D := Below.refl w.heap.size w
  go_enter Tryz.func47, Tryz.ntmps47
  refine wp_seq_k (fun K1 hK1 => ?_)
  refine wp_region_lit ?_
  refine wl_yield (o := ⟨_, _, _, _, _, _⟩) (.slice none 0 0) (yl_assign (by rfl) _ rfl _ rfl) ?_
  simp only [Act.put, List.setIfInBounds_toArray, List.set_cons_zero, List.set_cons_succ]
  refine wpList_nil ?_
  refine hK1 _ _ ?_
  clear hK1 K1
  refine wp_seq_k (fun K2 hK2 => ?_)
  refine wp_region_lit ?_
  refine wl_yield (o := ⟨_, _, _, _, _, _⟩) (.slice none 0 0) (yl_assign (by rfl) _ rfl _ rfl) ?_
  simp only [Act.put, List.setIfInBounds_toArray, List.set_cons_zero, List.set_cons_succ]
  refine wpList_nil ?_
  refine hK2 _ _ ?_
  clear hK2 K2
  refine wp_seq_k (fun K3 hK3 => ?_)
  refine wp_seq_k (fun K4 hK4 => ?_)
  refine wp_region_lit ?_
  refine wl_yield (o := ⟨_, _, _, _, _, _⟩) (.slice q cs.length cp) (yl_move (by rfl) _ rfl _ rfl) ?_
  simp only [Act.put, List.setIfInBounds_toArray, List.set_cons_zero, List.set_cons_succ]
  refine wl_yield (o := ⟨_, _, _, _, _, _⟩) (.int .i64 (cs.length : Nat)) (yl_lenB (by rfl) _ rfl _ _ _ rfl) ?_
  simp only [Act.put, List.setIfInBounds_toArray, List.set_cons_zero, List.set_cons_succ]
  refine wl_yield (o := ⟨_, _, _, _, _, _⟩) (.int .i64 0) (yl_move (by rfl) _ rfl _ rfl) ?_
  simp only [Act.put, List.setIfInBounds_toArray, List.set_cons_zero, List.set_cons_succ]
  refine wpList_nil ?_
  refine hK4 _ _ ?_
  clear hK4 K4
  refine wp_block ?_
  go_loopw [3, 8] (fun u i wr => ∃ (k : Nat) (ks : List BxC), i = .int .i64 k ∧ k ≤ cs.length ∧ OwnB wr w.heap.size u ks ∧ AllBx w ks (tidP (l.take k)) ∧ Below w.heap.size w wr) (fun _ i _ => cs.length - (intOf i).toNat)
  case atStart => exact ⟨0, [], rfl, by omega, ownB_nil _ _, ⟨rfl, fun i h => by simp [tidP] at h⟩, D⟩
  case round =>
    clear D
    obtain ⟨k, ks, rfl, hk, hown, hA, D⟩ := hrel
    by_cases hlt : k < cs.length
    · have hkl : k < l.length := by rw [← ha.1]; exact hlt
      obtain ⟨g, off, rfl, HC⟩ := (hr.on D).at.2 k hlt
      have hownR := hown
      have hKL := tidP_len l k (by omega)
      have hKM := tidP_mem l k (by omega)
      have hKF : FitL (tidP (l.take k)) := fun x hx => fl x (hKM x hx)
      have hks : ks.length ≤ 1000 := by rw [hA.1]; omega
      have fb : FitBx (l.getD k zBox) := fl _ (getB_mem hkl)
      have hb := ha.2 k hkl
      refine wp_seq_k (fun K5 hK5 => ?_)
      refine wp_region_lit ?_
      refine wl_yield (o := ⟨_, _, _, _, _, _⟩) (.bool true) (yl_lssI (by rfl) _ _ _ rfl (((k : Nat) : Int)) (((cs.length : Nat) : Int)) true rfl rfl (decide_eq_true (by omega))) ?_
      simp only [Act.put, List.setIfInBounds_toArray, List.set_cons_zero, List.set_cons_succ]
      refine wpList_nil ?_
      refine hK5 _ _ ?_
      clear hK5 K5
      refine wp_seq_k (fun K6 hK6 => ?_)
      refine wp_cond_true rfl ?_
      refine wp_skip ?_
      refine hK6 _ _ ?_
      clear hK6 K6
      refine wp_seq_k (fun K7 hK7 => ?_)
      refine wp_block ?_
      refine wp_seq_k (fun K8 hK8 => ?_)
      refine wp_region_lit ?_
      refine wl_yield (o := ⟨_, _, _, _, _, _⟩) (.pointer (some ⟨g, off + k * 16, none⟩)) (yl_bxAt (by rfl) _ _ rfl g (off) _ _ (k) rfl rfl (hlt)) ?_
      simp only [Act.put, List.setIfInBounds_toArray, List.set_cons_zero, List.set_cons_succ]
      refine wl_yield (o := ⟨_, _, _, _, _, _⟩) (BxC.val (cs.getD k bc0)) (yl_bx (by rfl) _ rfl _ _ rfl _ (fun _ h => by subst h; exact HC)) ?_
      simp only [Act.put, List.setIfInBounds_toArray, List.set_cons_zero, List.set_cons_succ]
      refine wl_newB (o := ⟨_, _, _, _, _, _⟩) (o2 := ⟨_, _, _, _, _, _⟩) (by rfl) rfl _ _ rfl rfl (fun _ => rfl) (fun _ => rfl) (fun v1 gb1 hggb1 HQ kb => ?_)
      simp only [Act.put, List.setIfInBounds_toArray, List.set_cons_zero, List.set_cons_succ]
      replace D := D.trans (kb.mono D.size)
      replace hown := hown.on kb
      clear kb
      refine wpList_nil ?_
      refine hK8 _ _ ?_
      clear hK8 K8
      refine wp_seq_k (fun K9 hK9 => ?_)
      refine wp_seq_k (fun K10 hK10 => ?_)
      refine wp_region_lit ?_
      refine wl_yield (o := ⟨_, _, _, _, _, _⟩) (BxC.val (cs.getD k bc0)) (yl_bx (by rfl) _ rfl _ _ rfl _ (fun _ h => by subst h; exact BcIn.at HQ)) ?_
      simp only [Act.put, List.setIfInBounds_toArray, List.set_cons_zero, List.set_cons_succ]
      refine wl_call (o := ⟨_, _, _, _, _, _⟩) (by rfl) 80 _ _ rfl #[BxC.val (cs.getD k bc0)] rfl (run_call Tryz.func80 (by kernel_rfl) (by kernel_rfl)) ?_
      refine (boxProg0.empty _ _ _ (hb.on D) fb).mono ?_
      rintro r v2 ⟨rfl, kb⟩
      replace D := D.trans (kb.mono D.size)
      replace hown := hown.on kb
      replace HQ := HQ.on kb
      clear kb
      cases hq1 : emptyBx (l.getD k zBox)
      · refine ⟨.bool false, rfl, ?_⟩
        simp only [Act.put, List.setIfInBounds_toArray, List.set_cons_zero, List.set_cons_succ]
        refine wl_yield (o := ⟨_, _, _, _, _, _⟩) (.bool false) (yl_move (by rfl) _ rfl _ rfl) ?_
        simp only [Act.put, List.setIfInBounds_toArray, List.set_cons_zero, List.set_cons_succ]
        refine wl_yield (o := ⟨_, _, _, _, _, _⟩) (BxC.val (cs.getD k bc0)) (yl_bx (by rfl) _ rfl _ _ rfl _ (fun _ h => by subst h; exact BcIn.at HQ)) ?_
        simp only [Act.put, List.setIfInBounds_toArray, List.set_cons_zero, List.set_cons_succ]
        refine wl_yield (o := ⟨_, _, _, _, _, _⟩) (u3) (yl_move (by rfl) _ rfl _ rfl) ?_
        simp only [Act.put, List.setIfInBounds_toArray, List.set_cons_zero, List.set_cons_succ]
        refine wl_call (o := ⟨_, _, _, _, _, _⟩) (by rfl) 81 _ _ rfl #[BxC.val (cs.getD k bc0), u3] rfl (run_call Tryz.func81 (by kernel_rfl) (by kernel_rfl)) ?_
        refine (liesInOne_any (cs.getD k bc0) (l.getD k zBox) u3 ks (tidP (l.take k)) _ (hb.on D) fb (hown.row (by omega)) (hA.on D) hKF).mono ?_
        rintro r v3 ⟨rfl, kb⟩
        replace D := D.trans (kb.mono D.size)
        replace hown := hown.on kb
        replace HQ := HQ.on kb
        clear kb
        cases hq2 : (tidP (l.take k)).any fun k' => inBx (l.getD k zBox) k'
        · refine ⟨.bool false, rfl, ?_⟩
          simp only [Act.put, List.setIfInBounds_toArray, List.set_cons_zero, List.set_cons_succ]
          refine wl_yield (o := ⟨_, _, _, _, _, _⟩) (.bool false) (yl_pickF (by rfl) _ _ _ rfl rfl _ rfl) ?_
          simp only [Act.put, List.setIfInBounds_toArray, List.set_cons_zero, List.set_cons_succ]
          refine wpList_nil ?_
          refine hK10 _ _ ?_
          clear hK10 K10
          refine wp_cond_false rfl ?_
          refine wp_skip ?_
          refine hK9 _ _ ?_
          clear hK9 K9
          refine wp_seq_k (fun K11 hK11 => ?_)
          refine wp_region_lit ?_
          refine wl_yield (o := ⟨_, _, _, _, _, _⟩) (u3) (yl_move (by rfl) _ rfl _ rfl) ?_
          simp only [Act.put, List.setIfInBounds_toArray, List.set_cons_zero, List.set_cons_succ]
          refine wl_yield (o := ⟨_, _, _, _, _, _⟩) (.func (.func 83) #[] #[.pointer (some ⟨gb1, 0, none⟩)]) (yl_fn (by rfl) _ _ rfl _ rfl) ?_
          simp only [Act.put, List.setIfInBounds_toArray, List.set_cons_zero, List.set_cons_succ]
          refine wl_call (o := ⟨_, _, _, _, _, _⟩) (by rfl) 82 _ _ rfl #[u3, .func (.func 83) #[] #[.pointer (some ⟨gb1, 0, none⟩)]] rfl (run_call Tryz.func82 (by kernel_rfl) (by kernel_rfl)) ?_
          refine (deleteB_any 83 (run_call Tryz.func83 (by kernel_rfl) (by kernel_rfl)) _ u3 w.heap.size ks (fun i => inBx ((tidP (l.take k)).getD i zBox) (l.getD k zBox)) _ hown D.size hks (fun i hi W hW => tidied1_any _ _ _ _ _ _ ((hA.2 i (by rw [← hA.1]; exact hi)).on (D.trans hW.b)) ((hW.k _ (lt_heap HQ) (hownR.ne hggb1)).trans HQ) (hb.on (D.trans hW.b)) (hKF _ (getB_mem (by rw [← hA.1]; exact hi))) fb)).mono ?_
          rintro r v4 ⟨⟨u2, rfl, hown2⟩, kb⟩
          replace D := D.trans kb.b
          replace hown := hown2
          replace HQ : BcIn v4 gb1 (cs.getD k bc0) := (kb.k _ (lt_heap HQ) (hownR.ne hggb1)).trans HQ
          clear hown2 kb
          refine ⟨u2, rfl, ?_⟩
          simp only [Act.put, List.setIfInBounds_toArray, List.set_cons_zero, List.set_cons_succ]
          refine wl_yield (o := ⟨_, _, _, _, _, _⟩) (u2) (yl_assign (by rfl) _ rfl _ rfl) ?_
          simp only [Act.put, List.setIfInBounds_toArray, List.set_cons_zero, List.set_cons_succ]
          refine wpList_nil ?_
          refine hK11 _ _ ?_
          clear hK11 K11
          refine wp_region_lit ?_
          refine wl_yield (o := ⟨_, _, _, _, _, _⟩) (u2) (yl_move (by rfl) _ rfl _ rfl) ?_
          simp only [Act.put, List.setIfInBounds_toArray, List.set_cons_zero, List.set_cons_succ]
          refine wl_yield (o := ⟨_, _, _, _, _, _⟩) (BxC.val (cs.getD k bc0)) (yl_bx (by rfl) _ rfl _ _ rfl _ (fun _ h => by subst h; exact BcIn.at HQ)) ?_
          simp only [Act.put, List.setIfInBounds_toArray, List.set_cons_zero, List.set_cons_succ]
          refine wl_rowB1 (o := ⟨_, _, _, _, _, _⟩) (by rfl) _ rfl rfl (fun v5 gb5 hggb5 IO24 kb => ?_)
          simp only [Act.put, List.setIfInBounds_toArray, List.set_cons_zero, List.set_cons_succ]
          replace D := D.trans (kb.mono D.size)
          replace hown := hown.on kb
          replace HQ := HQ.on kb
          clear kb
          refine wl_appB (o := ⟨_, _, _, _, _, _⟩) (by rfl) _ _ rfl w.heap.size u2 (keptB (fun i => inBx ((tidP (l.take k)).getD i zBox) (l.getD k zBox)) ks ks.length) rfl hown gb5 (cs.getD k bc0) rfl IO24 (by have := keptB_le (fun i => inBx ((tidP (l.take k)).getD i zBox) (l.getD k zBox)) ks ks.length; omega) D.size (fun u9 v6 hown3 kb hs3 => ?_)
          simp only [Act.put, List.setIfInBounds_toArray, List.set_cons_zero, List.set_cons_succ]
          replace D := D.trans kb
          replace hown := hown3
          clear hown3 kb hs3
          refine wl_yield (o := ⟨_, _, _, _, _, _⟩) (u9) (yl_assign (by rfl) _ rfl _ rfl) ?_
          simp only [Act.put, List.setIfInBounds_toArray, List.set_cons_zero, List.set_cons_succ]
          refine wpList_nil ?_
          refine hK7 _ _ ?_
          clear hK7 K7
          refine wp_region_lit ?_
          refine wl_yield (o := ⟨_, _, _, _, _, _⟩) (.int .i64 (k + 1 : Nat)) (yl_addI (by rfl) _ _ _ rfl (((k : Nat) : Int)) (1) (((k + 1 : Nat) : Int)) rfl rfl (by omega) (by omega) (by omega)) ?_
          simp only [Act.put, List.setIfInBounds_toArray, List.set_cons_zero, List.set_cons_succ]
          refine wl_yield (o := ⟨_, _, _, _, _, _⟩) (.int .i64 (k + 1 : Nat)) (yl_move (by rfl) _ rfl _ rfl) ?_
          simp only [Act.put, List.setIfInBounds_toArray, List.set_cons_zero, List.set_cons_succ]
          refine wpList_nil ?_
          show _ ∧ _
          go_roundw
          case rel => exact ⟨k + 1, _, rfl, by omega, hown, tidied_step hA hkl hb (.inl ⟨hq1, hq2, rfl⟩), D⟩
          case measure => simp [intOf]; omega
        · refine ⟨.bool true, rfl, ?_⟩
          simp only [Act.put, List.setIfInBounds_toArray, List.set_cons_zero, List.set_cons_succ]
          refine wl_yield (o := ⟨_, _, _, _, _, _⟩) (.bool true) (yl_pickF (by rfl) _ _ _ rfl rfl _ rfl) ?_
          simp only [Act.put, List.setIfInBounds_toArray, List.set_cons_zero, List.set_cons_succ]
          refine wpList_nil ?_
          refine hK10 _ _ ?_
          clear hK10 K10
          refine wp_cond_true rfl ?_
          refine wp_exit ?_
          refine hK7 _ _ ?_
          clear hK9 K9 hK7 K7
          refine wp_region_lit ?_
          refine wl_yield (o := ⟨_, _, _, _, _, _⟩) (.int .i64 (k + 1 : Nat)) (yl_addI (by rfl) _ _ _ rfl (((k : Nat) : Int)) (1) (((k + 1 : Nat) : Int)) rfl rfl (by omega) (by omega) (by omega)) ?_
          simp only [Act.put, List.setIfInBounds_toArray, List.set_cons_zero, List.set_cons_succ]
          refine wl_yield (o := ⟨_, _, _, _, _, _⟩) (.int .i64 (k + 1 : Nat)) (yl_move (by rfl) _ rfl _ rfl) ?_
          simp only [Act.put, List.setIfInBounds_toArray, List.set_cons_zero, List.set_cons_succ]
          refine wpList_nil ?_
          show _ ∧ _
          go_roundw
          case rel => exact ⟨k + 1, _, rfl, by omega, hown, tidied_step hA hkl hb (.inr ⟨.inr hq2, rfl⟩), D⟩
          case measure => simp [intOf]; omega
      · refine ⟨.bool true, rfl, ?_⟩
        simp only [Act.put, List.setIfInBounds_toArray, List.set_cons_zero, List.set_cons_succ]
        refine wl_yield (o := ⟨_, _, _, _, _, _⟩) (.bool true) (yl_move (by rfl) _ rfl _ rfl) ?_
        simp only [Act.put, List.setIfInBounds_toArray, List.set_cons_zero, List.set_cons_succ]
        refine wl_yield (o := ⟨_, _, _, _, _, _⟩) undef (yl_undef (by rfl)) ?_
        simp only [Act.put, List.setIfInBounds_toArray, List.set_cons_zero, List.set_cons_succ]
        refine wl_yield (o := ⟨_, _, _, _, _, _⟩) undef (yl_undef (by rfl)) ?_
        simp only [Act.put, List.setIfInBounds_toArray, List.set_cons_zero, List.set_cons_succ]
        refine wl_yield (o := ⟨_, _, _, _, _, _⟩) undef (yl_undef (by rfl)) ?_
        simp only [Act.put, List.setIfInBounds_toArray, List.set_cons_zero, List.set_cons_succ]
        refine wl_yield (o := ⟨_, _, _, _, _, _⟩) (.bool true) (yl_pickT (by rfl) _ _ _ rfl rfl _ rfl) ?_
        simp only [Act.put, List.setIfInBounds_toArray, List.set_cons_zero, List.set_cons_succ]
        refine wpList_nil ?_
        refine hK10 _ _ ?_
        clear hK10 K10
        refine wp_cond_true rfl ?_
        refine wp_exit ?_
        refine hK7 _ _ ?_
        clear hK9 K9 hK7 K7
        refine wp_region_lit ?_
        refine wl_yield (o := ⟨_, _, _, _, _, _⟩) (.int .i64 (k + 1 : Nat)) (yl_addI (by rfl) _ _ _ rfl (((k : Nat) : Int)) (1) (((k + 1 : Nat) : Int)) rfl rfl (by omega) (by omega) (by omega)) ?_
        simp only [Act.put, List.setIfInBounds_toArray, List.set_cons_zero, List.set_cons_succ]
        refine wl_yield (o := ⟨_, _, _, _, _, _⟩) (.int .i64 (k + 1 : Nat)) (yl_move (by rfl) _ rfl _ rfl) ?_
        simp only [Act.put, List.setIfInBounds_toArray, List.set_cons_zero, List.set_cons_succ]
        refine wpList_nil ?_
        show _ ∧ _
        go_roundw
        case rel => exact ⟨k + 1, _, rfl, by omega, hown, tidied_step hA hkl hb (.inr ⟨.inl hq1, rfl⟩), D⟩
        case measure => simp [intOf]; omega
    · refine wp_seq_k (fun K5 hK5 => ?_)
      refine wp_region_lit ?_
      refine wl_yield (o := ⟨_, _, _, _, _, _⟩) (.bool false) (yl_lssI (by rfl) _ _ _ rfl (((k : Nat) : Int)) (((cs.length : Nat) : Int)) false rfl rfl (decide_eq_false (by omega))) ?_
      simp only [Act.put, List.setIfInBounds_toArray, List.set_cons_zero, List.set_cons_succ]
      refine wpList_nil ?_
      refine hK5 _ _ ?_
      clear hK5 K5
      refine wp_seq_k (fun K6 hK6 => ?_)
      refine wp_cond_false rfl ?_
      refine wp_exit ?_
      refine hK3 _ _ ?_
      clear hK6 K6 hK3 K3
      refine wp_seq_k (fun K7 hK7 => ?_)
      refine wp_region_lit ?_
      refine wl_yield (o := ⟨_, _, _, _, _, _⟩) (u3) (yl_move (by rfl) _ rfl _ rfl) ?_
      simp only [Act.put, List.setIfInBounds_toArray, List.set_cons_zero, List.set_cons_succ]
      refine wl_yield (o := ⟨_, _, _, _, _, _⟩) (u3) (yl_assign (by rfl) _ rfl _ rfl) ?_
      simp only [Act.put, List.setIfInBounds_toArray, List.set_cons_zero, List.set_cons_succ]
      refine wpList_nil ?_
      refine hK7 _ _ ?_
      clear hK7 K7
      refine wp_ret ?_
      go_ret
      have ek : k = l.length := by rw [← ha.1]; omega
      rw [ek, List.take_length] at hA
      exact ⟨⟨_, _, rfl, hown, hA.on D⟩, D⟩
end Go.Proofs.YtlfhpocfacaaeaaGreat
/-
  Rows of boxes of the call's own that hold no numbers and no texts themselves: what lies elsewhere stays; append, make, Grow, Concat.
-/
set_option linter.unusedSimpArgs false
set_option linter.unusedVariables false
namespace Go.Proofs.YtlfhpocfacaaeaaGreat
open Go.RowKit

def plainV : Value → Bool
  | .int _ _ => false
  | .string _ => false
  | _ => true
theorem plain_list (c : BxC) : ∀ x ∈ c.list, plainV x = true := by
  intro v hv
  unfold BxC.list at hv
  simp only [List.mem_cons, List.not_mem_nil, or_false] at hv
  rcases hv with rfl | rfl | rfl | rfl | rfl | rfl | rfl | rfl | rfl | rfl | rfl | rfl | rfl | rfl | rfl | rfl <;> rfl
theorem plain_cells (cs : List BxC) : ∀ x ∈ bcCells cs, plainV x = true := by
  intro x hx
  unfold bcCells at hx
  obtain ⟨c, _, hx⟩ := List.mem_flatMap.1 hx
  exact plain_list c x hx
theorem plain_zero (n : Nat) : ∀ x ∈ (Builtin.zeroCells bc0.val.cells n).toList, plainV x = true := by
  intro v hv
  simp only [Builtin.zeroCells, Array.toList_map, List.mem_map] at hv
  obtain ⟨i, -, rfl⟩ := hv
  have hm : ∀ j : Nat, j < 16 → plainV (bc0.list.toArray[j]!) = true := by
    intro j hj
    have : bc0.list.toArray[j]! = bc0.list[j]'(by rw [BxC.list_len]; exact hj) := by simp [hj, BxC.list_len]
    rw [this]
    exact plain_list bc0 _ (List.getElem_mem _)
  exact hm _ (Nat.mod_lt _ (by decide))
theorem plain_made (n : Nat) : ∀ x ∈ (madeCells bc0.val.cells n).toList, plainV x = true := by
  intro v hv
  simp only [madeCells, Array.toList_map, List.mem_map] at hv
  obtain ⟨i, -, rfl⟩ := hv
  have hm : ∀ j : Nat, j < 16 → plainV (bc0.list.toArray[j]!) = true := by
    intro j hj
    have : bc0.list.toArray[j]! = bc0.list[j]'(by rw [BxC.list_len]; exact hj) := by simp [hj, BxC.list_len]
    rw [this]
    exact plain_list bc0 _ (List.getElem_mem _)
  exact hm _ (Nat.mod_lt _ (by decide))
/-- A row of the call's own, in whose block no numbers and no texts lie. -/
structure OwnC (w : World) (B : Nat) (v : Value) (cs : List BxC) : Prop where
  own : OwnB w B v cs
  pl : ∀ g, v.ownBlock = some g → ∃ cur, w.heap[g]? = some (.cells cur 47 (0, 0)) ∧ ∀ x ∈ cur.toList, plainV x = true
theorem OwnC.on {w w' : World} {B : Nat} {v : Value} {cs : List BxC} (h : OwnC w B v cs) (hb : Below w.heap.size w w') : OwnC w' B v cs :=
  ⟨h.own.on hb, fun g hg => by
    obtain ⟨cur, h1, h2⟩ := h.pl g hg
    exact ⟨cur, (hb.block _ (lt_heap h1)).trans h1, h2⟩⟩
theorem OwnC.mono {w : World} {B B' : Nat} {v : Value} {cs : List BxC} (h : OwnC w B v cs) (hb : B' ≤ B) : OwnC w B' v cs := ⟨h.own.mono hb, h.pl⟩
/-! ### What lies elsewhere stays -/
theorem RngsAt.aside {w w' : World} {v : Value} {l : List Rg} {p : Nat} {cs : Array Value} {t : TypeId} {fz : Nat × Nat} (h : RngsAt w v l) (hp : w.heap[p]? = some (.cells cs t fz)) (hn : ∀ x ∈ cs.toList, plainV x = true) (hs : w.heap.size ≤ w'.heap.size) (hk : ∀ k, k < w.heap.size → k ≠ p → w'.heap[k]? = w.heap[k]?) : RngsAt w' v l := by
  obtain ⟨h1, h2, a, cap, hv, h⟩ := h
  refine ⟨h1, h2, a, cap, hv, fun i hi => ?_⟩
  obtain ⟨b, off, ha, hlt, c0, c1⟩ := h i hi
  have hb : b ≠ p := by
    rintro rfl
    rw [cell_heap hp] at c0
    obtain ⟨hj, e⟩ := Array.getElem?_eq_some_iff.1 c0
    have hm := hn _ (Array.getElem_mem_toList hj)
    rw [e] at hm
    cases hm
  have hc : ∀ o, w'.cell? ⟨b, o, none⟩ = w.cell? ⟨b, o, none⟩ := fun o => by unfold World.cell?; simp only [hk b hlt hb]
  exact ⟨b, off, ha, Nat.lt_of_lt_of_le hlt hs, (hc _).trans c0, (hc _).trans c1⟩
theorem StrsAt.aside {w w' : World} {v : Value} {l : List ByteArray} {p : Nat} {cs : Array Value} {t : TypeId} {fz : Nat × Nat} (h : StrsAt w v l) (hp : w.heap[p]? = some (.cells cs t fz)) (hn : ∀ x ∈ cs.toList, plainV x = true) (hs : w.heap.size ≤ w'.heap.size) (hk : ∀ k, k < w.heap.size → k ≠ p → w'.heap[k]? = w.heap[k]?) : StrsAt w' v l := by
  obtain ⟨h1, h2, a, cap, hv, h⟩ := h
  refine ⟨h1, h2, a, cap, hv, fun i hi => ?_⟩
  obtain ⟨b, off, ha, hlt, c0⟩ := h i hi
  have hb : b ≠ p := by
    rintro rfl
    rw [cell_heap hp] at c0
    obtain ⟨hj, e⟩ := Array.getElem?_eq_some_iff.1 c0
    have hm := hn _ (Array.getElem_mem_toList hj)
    rw [e] at hm
    cases hm
  have hc : ∀ o, w'.cell? ⟨b, o, none⟩ = w.cell? ⟨b, o, none⟩ := fun o => by unfold World.cell?; simp only [hk b hlt hb]
  exact ⟨b, off, ha, Nat.lt_of_lt_of_le hlt hs, (hc _).trans c0⟩
theorem BoxAt.aside {w w' : World} {v : Value} {b : BoxV} {p : Nat} {cs : Array Value} {t : TypeId} {fz : Nat × Nat} (h : BoxAt w v b) (hp : w.heap[p]? = some (.cells cs t fz)) (hn : ∀ x ∈ cs.toList, plainV x = true) (hs : w.heap.size ≤ w'.heap.size) (hk : ∀ k, k < w.heap.size → k ≠ p → w'.heap[k]? = w.heap[k]?) : BoxAt w' v b := by
  obtain ⟨s0, s1, s2, s3, rfl, h0, h1, h2, h3⟩ := h.scs
  have H : ∀ {u : Value} {S : SetV}, SetAt w u S → SetAt w' u S := fun {u S} q => by
    obtain ⟨vi, vs, hv, q1, q2⟩ := q
    exact ⟨vi, vs, hv, q1.aside hp hn hs hk, q2.aside hp hn hs hk⟩
  exact boxAt_of (H h0) (H h1) (H h2) (H h3)
theorem OwnC.carry {w w' : World} {B B' : Nat} {v : Value} {cs : List BxC} (h : OwnC w B v cs) (ha : Asd v.ownBlock B' w w') {y : Value} {b : BoxV} (hb : BoxAt w y b) : BoxAt w' y b := by
  cases ho : v.ownBlock with
  | none =>
    rw [ho] at ha
    have H : ∀ k, k < w.heap.size → w'.heap[k]? = w.heap[k]? := fun k hk => ha.k k hk (by simp)
    exact hb.on ⟨ha.b.os, ha.b.tape, ha.b.output, ha.s, H⟩
  | some g =>
    obtain ⟨cur, h1, h2⟩ := h.pl g ho
    rw [ho] at ha
    exact hb.aside h1 h2 ha.s (fun k hk hne => ha.k k hk (fun e => hne (Option.some.inj e)))
theorem AllBx.carry {w w' : World} {cs : List BxC} {l : List BoxV} (h : AllBx w cs l) (c : ∀ {y : Value} {b : BoxV}, BoxAt w y b → BoxAt w' y b) : AllBx w' cs l := ⟨h.1, fun i hi => c (h.2 i hi)⟩
/-! ### append -/
theorem run_appC (w : World) (B ty : Nat) (v : Value) (cs : List BxC) (hown : OwnC w B v cs) (g : Nat) (d : BxC) (hd : BcIn w g d) (hn : cs.length ≤ 1000) (hB : B ≤ w.heap.size) :
    ∃ v' w', (Builtin.append_ #[31, 31] ty #[v, .slice (some ⟨g, 0, none⟩) 1 1]).run Tryz.prog w = .ok v' w' ∧ OwnC w' B v' (cs ++ [d]) ∧ Asd v.ownBlock B w w' ∧ (∀ k, v'.ownBlock = some k → some k = v.ownBlock ∨ w.heap.size ≤ k) := by
  obtain ⟨i0, hi, hz0, hz1, hz2⟩ := info_parts cInfoB
  have hnews : ∀ j u, d.list[j]? = some u → w.cell? ((⟨g, 0, none⟩ : Addr).add j) = some u := fun j u hu => by rw [Addr.add_mid]; exact hd.range j u hu
  obtain ⟨v', w', hr, ho, hg, _⟩ := run_append_own (P := Tryz.prog) w B 31 ty 47 i0 _ 16 256 Tryz.underlying31 hi hz0 hz1 hz2 rfl (by decide) v cs.length (bcCells cs) hown.own ⟨g, 0, none⟩ 1 1 d.list (by rw [BxC.list_len]) hnews d.list_one (by unfold maxLen; omega) (by omega) hB
  have hO : OwnB w' B v' (cs ++ [d]) := by
    show w'.ownsRow B 47 16 v' (cs ++ [d]).length (bcCells (cs ++ [d]))
    rw [bcCells_append, List.length_append]
    have : bcCells [d] = d.list := by unfold bcCells; simp
    rw [this]
    exact ho
  have hA : Asd v.ownBlock B w w' := ⟨(Below.refl _ _).grown hg hB (fun k hk => (World.ownsRow.lt hown.own k hk).1), hg.size, fun k hk hne => hg.block k hk hne⟩
  rcases hown.own.2 with ⟨rfl, hlen⟩ | ⟨g0, cap, cur, rfl, hbg, hgc, hnc, hcm, hcs, htake⟩
  · have hr2 := run_append_nil (P := Tryz.prog) w 31 ty 47 i0 _ Tryz.underlying31 hi hz0 ⟨g, 0, none⟩ 1 1 d.list (by rw [BxC.list_len, hz1]) hnews (by omega) (by omega) (by rw [hz2]; omega)
    rw [hr] at hr2
    injection hr2 with e1 e2
    refine ⟨v', w', hr, ⟨hO, fun k hk => ?_⟩, hA, fun k hk => ?_⟩
    · rw [e1] at hk
      obtain rfl : w.heap.size = k := Option.some.inj hk
      refine ⟨_, by rw [e2]; exact heap_new w.drew _, fun x hx => ?_⟩
      rw [Array.toList_append, List.mem_append] at hx
      rcases hx with hx | hx
      · exact plain_list d x (by simpa using hx)
      · exact plain_zero _ x hx
    · rw [e1] at hk
      obtain rfl : w.heap.size = k := Option.some.inj hk
      exact Or.inr (Nat.le_refl _)
  · by_cases hroom : cs.length + 1 ≤ cap
    · have hr2 := run_append_room (P := Tryz.prog) w 31 ty 47 i0 Tryz.underlying31 hi g0 cs.length cap cur hgc ⟨g, 0, none⟩ 1 1 d.list (by rw [BxC.list_len, hz1]) hnews d.list_one hroom (by rw [BxC.list_len, hz1, hcs]; omega)
      rw [hr] at hr2
      injection hr2 with e1 e2
      obtain ⟨cur0, p1, p2⟩ := hown.pl g0 rfl
      rw [hgc] at p1
      injection p1 with p1
      injection p1 with p1 _ _
      subst p1
      refine ⟨v', w', hr, ⟨hO, fun k hk => ?_⟩, hA, fun k hk => ?_⟩
      · rw [e1] at hk
        obtain rfl : g0 = k := Option.some.inj hk
        refine ⟨_, by rw [e2]; exact setRow_heap w g0 cur _ _ _ hgc, fun x hx => ?_⟩
        simp only [List.mem_append] at hx
        rcases hx with (hx | hx) | hx
        · exact p2 x (List.mem_of_mem_take hx)
        · exact plain_list d x hx
        · exact p2 x (List.mem_of_mem_drop hx)
      · rw [e1] at hk
        left
        exact hk.symm
    · have hr2 := run_append_grow (P := Tryz.prog) w 31 ty 47 i0 _ Tryz.underlying31 hi hz0 ⟨g0, 0, none⟩ cs.length cap (bcCells cs) (by rw [hz1]; exact hown.own.1) (hown.own.cells (g := g0) rfl) ⟨g, 0, none⟩ 1 1 d.list (by rw [BxC.list_len, hz1]) hnews (by omega) (by omega) (growslice_fits (by omega) (by rw [hz2]; omega))
      rw [hr] at hr2
      injection hr2 with e1 e2
      refine ⟨v', w', hr, ⟨hO, fun k hk => ?_⟩, hA, fun k hk => ?_⟩
      · rw [e1] at hk
        obtain rfl : w.heap.size = k := Option.some.inj hk
        refine ⟨_, by rw [e2]; exact heap_new w.drew _, fun x hx => ?_⟩
        rw [Array.toList_append, Array.toList_append, List.mem_append, List.mem_append] at hx
        rcases hx with (hx | hx) | hx
        · exact plain_cells cs x (by simpa using hx)
        · exact plain_list d x (by simpa using hx)
        · exact plain_zero _ x hx
      · rw [e1] at hk
        obtain rfl : w.heap.size = k := Option.some.inj hk
        exact Or.inr (Nat.le_refl _)
section
variable {ops : Array Oper} {Q : Exit → Act → World → Prop} {S : World → Prop} {o : Oper} {a : Act}
/-- One box more at the end of such a row. -/
theorem wl_appC {rest : List Oper} {w : World} (hw : Region.wanted o (yielded ops a.tmps) = true) (s x : Operand) (ho : o.op = .call { callee := .builtin .append, args := #[s, x], argTypes := #[31, 31] })
    (B : Nat) (v : Value) (cs : List BxC) (hs : a.eval s = v) (hown : OwnC w B v cs) (g : Nat) (d : BxC) (hx : a.eval x = .slice (some ⟨g, 0, none⟩) 1 1) (hd : BcIn w g d) (hn : cs.length ≤ 1000) (hB : B ≤ w.heap.size)
    (h : ∀ v' w', OwnC w' B v' (cs ++ [d]) → Asd v.ownBlock B w w' → (∀ k, v'.ownBlock = some k → some k = v.ownBlock ∨ w.heap.size ≤ k) → (∀ {y : Value} {b : BoxV}, BoxAt w y b → BoxAt w' y b) → wpList Tryz.prog ops Q rest (a.put o.dst v') w') : wpList Tryz.prog ops Q (o :: rest) a w := by
  obtain ⟨v', w', hr, h1, h2, h3⟩ := run_appC w B o.type v cs hown g d hd hn hB
  refine wl_run hw v' w' ?_ (h v' w' h1 h2 h3 (fun q => hown.carry h2 q))
  unfold execOp
  simp only [ho, resolve, invoke, builtin, Sem.run_bind, Sem.run_pure, Result.andThen_ok, List.map_toArray, List.map_cons, List.map_nil, hs, hx, hr]
theorem yl_mulI (hw : Region.wanted o (yielded ops a.tmps) = true) (x y : Operand) (t : TypeId) (ho : o.op = .binOp .mul 3 x y t) (p q r : Int) (hx : a.eval x = .int .i64 p) (hy : a.eval y = .int .i64 q) (hr : p * q = r) (h0 : -9223372036854775808 ≤ r) (h1 : r ≤ 9223372036854775807) : YieldsIf Tryz.prog ops S o (.int .i64 r) a :=
  Or.inl ⟨hw, fun w hS => by
    subst hr
    simp only [execOp, ho, hx, hy]
    go_simp
    rw [IntKind.wrap_i64]; omega⟩
theorem madeC {w : World} {i0 : TypeInfo} (hi : Tryz.prog.info? 47 = some i0) (hz0 : i0.zero = some bc0.val) (hz1 : i0.size = 16) (hz2 : i0.bytes = 256) (N : Nat) (hN : N ≤ 100000) :
    ∃ w', (Instr.makeSlice 31 (.int .i64 0) (.int .i64 (N : Int))).run Tryz.prog w = .ok (.slice (some ⟨w.heap.size, 0, none⟩) 0 N) w' ∧ OwnC w' w.heap.size (.slice (some ⟨w.heap.size, 0, none⟩) 0 N) [] ∧ Below w.heap.size w w' := by
  have hr := run_make (P := Tryz.prog) w 31 47 i0 _ Tryz.underlying31 hi hz0 .i64 .i64 0 N (Int.le_refl _) (by omega) (by rw [hz2]; omega) (by omega)
  obtain ⟨w', hm1, hm2, hm3⟩ := run_make_own (P := Tryz.prog) w w.heap.size 31 47 i0 _ 16 Tryz.underlying31 hi hz0 hz1 .i64 .i64 N (by rw [hz2]; omega) (by unfold maxLen; omega) (Nat.le_refl _)
  refine ⟨w', hm1, ⟨hm2, fun g hg => ?_⟩, (Below.refl _ w).grown hm3 (Nat.le_refl _) (fun k hk => by cases hk)⟩
  obtain rfl : w.heap.size = g := Option.some.inj hg
  rw [hm1] at hr
  injection hr with e1 e2
  refine ⟨_, by rw [e2]; exact heap_new w _, fun x hx => ?_⟩
  exact plain_made _ x hx
/-- A new row with room for so many. -/
theorem wl_makeC {rest : List Oper} {w : World} (hw : Region.wanted o (yielded ops a.tmps) = true) (y x : Operand) (ho : o.op = .makeSlice 31 y x) (hy : a.eval y = .int .i64 0) (N : Nat) (hx : a.eval x = .int .i64 N) (hN : N ≤ 100000)
    (h : ∀ v W, OwnC W w.heap.size v [] → Below w.heap.size w W → wpList Tryz.prog ops Q rest (a.put o.dst v) W) : wpList Tryz.prog ops Q (o :: rest) a w := by
  obtain ⟨i0, hi, hz0, hz1, hz2⟩ := info_parts cInfoB
  obtain ⟨w', h1, h2, h3⟩ := madeC (w := w) hi hz0 hz1 hz2 N hN
  refine wl_run hw _ w' ?_ (h _ w' h2 h3)
  simp only [execOp, ho, hy, hx, Sem.run_bind, h1, Result.andThen_ok, Sem.run_pure]
end
end Go.Proofs.YtlfhpocfacaaeaaGreat
/-
  slices.Grow and slices.Concat of rows of boxes.
-/
set_option linter.unusedSimpArgs false
set_option linter.unusedVariables false
namespace Go.Proofs.YtlfhpocfacaaeaaGreat
open Go.RowKit

def nilOk (v : Value) : Prop := ∀ n c, v = .slice none n c → v = .slice none 0 0
theorem OwnB.nilOk {w : World} {B : Nat} {v : Value} {cs : List BxC} (h : OwnB w B v cs) : nilOk v := by
  rcases h.form with ⟨rfl, rfl⟩ | ⟨g, cap, cur, rfl, _⟩
  · exact fun _ _ _ => rfl
  · intro n c e; cases e
/-- A row of boxes, wherever it lies, put behind one of the call's own. -/
theorem wpList_appRowB {ops : Array Oper} {rest : List Oper} {o : Oper} {a : Act} {Q : Exit → Act → World → Prop} (w : World) (hgd : o.guard = none) (s x : Operand)
    (ho : o.op = .call { callee := .builtin .append, args := #[s, x], argTypes := #[31, 31] })
    (B : Nat) (v u : Value) (l m : List BxC) (hs : a.eval s = v) (hown : OwnB w B v l) (hu : a.eval x = u) (hx : BxRow w u m) (hnil : nilOk u) (hlen : l.length + m.length ≤ 1000000) (hB : B ≤ w.heap.size)
    (h : ∀ v' w', OwnB w' B v' (l ++ m) → Below B w w' → wpList Tryz.prog ops Q rest (a.put o.dst v') w') : wpList Tryz.prog ops Q (o :: rest) a w := by
  obtain ⟨i0, hi, hz0, hz1, hz2⟩ := info_parts cInfoB
  obtain ⟨_, ad, cap, rfl, hel⟩ := hx
  cases ad with
  | none =>
    have hm : m = [] := by
      cases m with
      | nil => rfl
      | cons r m =>
        obtain ⟨b, off, e, _⟩ := hel 0 (by simp)
        cases e
    subst hm
    refine wpList_append_own_none hgd s x 31 ho B 47 i0 16 Tryz.underlying31 hi v l.length (bcCells l) hs hown (hu.trans (hnil _ _ rfl)) ?_
    refine h v w ?_ (Below.refl _ _)
    rw [List.append_nil]; exact hown
  | some ad =>
    refine wpList_append_own w hgd s x 31 ho B 47 i0 _ 16 256 Tryz.underlying31 hi hz0 hz1 hz2 rfl (by decide) v l.length (bcCells l) hs hown ad m.length _ (bcCells m) hu (by rw [bcCells_len]) ?_ (bcCells_one _) (by unfold maxLen; omega) (by omega) hB ?_
    · intro j u hj
      have hjl : j < m.length * 16 := by
        have := (List.getElem?_eq_some_iff.1 hj).1
        rwa [bcCells_len] at this
      obtain ⟨b, off, e, _, hr⟩ := hel (j / 16) (by omega)
      have h1 := bcCells_at m (j / 16) (j % 16) (by omega) (Nat.mod_lt _ (by decide))
      simp at e
      subst e
      rw [Go.WideShapes.add_plain]
      rw [show j / 16 * 16 + j % 16 = j by omega, hj] at h1
      have := hr (j % 16) u h1.symm
      rwa [show off + j / 16 * 16 + j % 16 = off + j by omega] at this
    · intro v' w' h1 h2 _
      refine h v' w' ?_ ((Below.refl _ _).grown h2 hB (fun k hk => (World.ownsRow.lt hown k hk).1))
      unfold OwnB
      rw [List.length_append, bcCells_append]
      exact h1
theorem ownB_grown {w : World} {c : Nat} {cs : Array Value} (hc : c ≤ maxLen) (hs : cs.size = c * 16) : OwnB (w.drew.alloc (.cells cs 47)) w.heap.size (.slice (some ⟨w.heap.size, 0, none⟩) 0 c) [] := by
  refine ⟨rfl, Or.inr ⟨w.heap.size, c, cs, rfl, Nat.le_refl _, ?_, Nat.zero_le _, hc, hs, ?_⟩⟩
  · show (w.heap.push _)[w.heap.size]? = _
    simp
  · show List.take (0 * 16) _ = []
    rw [Nat.zero_mul]; rfl
set_option maxHeartbeats 2000000 in
set_option maxRecDepth 100000 in
theorem growB_any (n : Nat) (w : World) (hn : n ≤ 100000) :
    Calls Tryz.prog 125 #[.slice none 0 0, .int .i64 n] w fun r w' => (∃ u, r = .returned u ∧ OwnB w' w.heap.size u []) ∧ Below w.heap.size w w' := by
  rcases Nat.eq_zero_or_pos n with h0 | h0
  · subst h0
    go_enter Tryz.func125, Tryz.ntmps125
    go_wp2
    go_ret
    exact ⟨⟨_, rfl, ownB_nil _ _⟩, Below.refl _ _⟩
  · obtain ⟨i0, hi, hz0, hz1, hz2⟩ := info_parts cInfoB
    replace hz0 : i0.zero = some (.agg bc0.list.toArray) := hz0
    have A := hide (fun ty => Lib.run_append_nil_zeros (P := Tryz.prog) w 31 3 ty 47 i0 _ .i64 .i64 Tryz.underlying31 Tryz.underlying3 hi hz0 n h0 (by rw [hz1]; omega) (by omega) (by rw [hz2]; omega))
    have hc1 := grownCap_ge w n 0 47
    have hc2 := grownCap_le_maxLen w n 0 47 (by unfold maxLen; omega)
    generalize grownCap w n 0 47 = c at *
    have HC2 := hide hc2
    clear hi hz0 hz1 hz2 hc2
    go_enter Tryz.func125, Tryz.ntmps125
    go_wp2_with (at_builtin; refine Lib.wpList_append_run _ rfl _ _ _ _ rfl _ _ rfl rfl _ _ (A.out _) ?_)
    go_ret
    refine ⟨⟨_, rfl, ownB_grown HC2.out ?_⟩, ((Below.refl _ _).drew).alloc (Nat.le_refl _) _⟩
    rw [Array.size_append, size_zeroCells, size_zeroCells, ← Nat.add_mul, show n + (c - n) = c by omega]
    rfl
set_option maxHeartbeats 4000000 in
set_option maxRecDepth 100000 in
theorem concatB_any (g : Nat) (va vb : Value) (la lb : List BxC) (w : World) (hg : w.heap[g]? = some (.cells #[va, vb] 31 (0, 0))) (ha : BxRow w va la) (hb : BxRow w vb lb) (na : nilOk va) (nb : nilOk vb) (hl : la.length + lb.length ≤ 100000) :
    Calls Tryz.prog 106 #[.slice (some ⟨g, 0, none⟩) 2 2] w fun r w' => (∃ u, r = .returned u ∧ OwnB w' w.heap.size u (la ++ lb)) ∧ Below w.heap.size w w' := by
  have HA := hide ha
  have HB := hide hb
  have hlt := lt_heap hg
  have c0 := cell_heap hg 0
  have c1 := cell_heap hg 1
  simp only [List.getElem?_toArray, List.getElem?_cons_zero, List.getElem?_cons_succ] at c0 c1
  obtain ⟨pa, ca, rfl⟩ := ha.form
  obtain ⟨pb, cb, rfl⟩ := hb.form
  have HL := hide hl
  clear ha hb hg
  have GR := hide (growB_any (la.length + lb.length) w hl)
  obtain ⟨x, hx⟩ : ∃ x : Nat, x = la.length := ⟨_, rfl⟩
  obtain ⟨y, hy⟩ : ∃ y : Nat, y = lb.length := ⟨_, rfl⟩
  rw [← hx] at hl HL c0 HA GR na
  rw [← hy] at hl HL c1 HB GR nb
  have HX := hide hx
  have HY := hide hy
  clear hx hy
  go_enter Tryz.func106, Tryz.ntmps106
  go_wp2
  go_loopw [3, 11] (fun s i wr => wr = w ∧ ((i = .int .i64 0 ∧ s = .int .i64 0) ∨ (i = .int .i64 1 ∧ s = .int .i64 (x : Int)) ∨ (i = .int .i64 2 ∧ s = .int .i64 ((x : Int) + (y : Int))))) (fun _ i _ => 2 - (intOf i).toNat)
  case atStart => exact ⟨rfl, Or.inl ⟨rfl, rfl⟩⟩
  case round =>
    obtain ⟨rfl, ⟨rfl, rfl⟩ | ⟨rfl, rfl⟩ | ⟨rfl, rfl⟩⟩ := hrel
    · go_wp2
      exact ⟨⟨trivial, Or.inr (Or.inl ⟨rfl, by first | rfl | simp⟩)⟩, by simp [intOf]⟩
    · go_wp2
      exact ⟨⟨trivial, Or.inr (Or.inr ⟨rfl, rfl⟩)⟩, by simp [intOf]⟩
    · rw [Int.natCast_add] at GR
      go_wp2_with fail
      refine (unhide GR).mono ?_
      rintro r w1 ⟨⟨u1, rfl, o1⟩, b1⟩
      have c0' := (b1.cell (p := ⟨g, 0, none⟩) hlt).trans c0
      have c1' := (b1.cell (p := ⟨g, 1, none⟩) hlt).trans c1
      have O1 := hide o1
      have B1 := hide b1
      clear GR o1 b1
      go_wp2
      go_loopw [6, 27] (fun o i wr' => Hid (Below wr.heap.size wr wr') ∧ ((i = .int .i64 0 ∧ Hid (OwnB wr' wr.heap.size o [])) ∨ (i = .int .i64 1 ∧ Hid (OwnB wr' wr.heap.size o la)) ∨ (i = .int .i64 2 ∧ Hid (OwnB wr' wr.heap.size o (la ++ lb))))) (fun _ i _ => 2 - (intOf i).toNat)
      case atStart => exact ⟨B1, Or.inl ⟨rfl, O1⟩⟩
      case round =>
        clear c0' c1' B1 O1
        obtain ⟨HW, ⟨rfl, HO⟩ | ⟨rfl, HO⟩ | ⟨rfl, HO⟩⟩ := hrel
        · have d0 := (HW.out.cell (p := ⟨g, 0, none⟩) hlt).trans c0
          have szW := HW.out.size
          have LE : Hid (([] : List BxC).length + la.length ≤ 1000000) := hide (by have := HX.out; have := HL.out; simp; omega)
          have VA := hide (HA.out.on HW.out)
          go_wp2_with (at_builtin; refine wpList_appRowB _ rfl _ _ rfl _ _ _ _ la rfl HO.out rfl VA.out na LE.out szW ?_; intro v8 w8 hO8 hb8; have O8 := hide hO8; have B8 := hide (HW.out.trans hb8); clear hO8 hb8)
          rw [List.nil_append] at O8
          exact ⟨⟨B8, Or.inr (Or.inl ⟨rfl, O8⟩)⟩, by simp [intOf]⟩
        · have d0 := (HW.out.cell (p := ⟨g, 1, none⟩) hlt).trans c1
          have szW := HW.out.size
          have LE : Hid (la.length + lb.length ≤ 1000000) := hide (by have := HX.out; have := HY.out; have := HL.out; omega)
          have VB := hide (HB.out.on HW.out)
          go_wp2_with (at_builtin; refine wpList_appRowB _ rfl _ _ rfl _ _ _ _ lb rfl HO.out rfl VB.out nb LE.out szW ?_; intro v8 w8 hO8 hb8; have O8 := hide hO8; have B8 := hide (HW.out.trans hb8); clear hO8 hb8)
          exact ⟨⟨B8, Or.inr (Or.inr ⟨rfl, O8⟩)⟩, by simp [intOf]⟩
        · go_wp2
          go_ret
          exact ⟨⟨_, rfl, HO.out⟩, HW.out⟩

section
variable {ops : Array Oper} {Q : Exit → Act → World → Prop} {o : Oper} {a : Act}
/-- A row of two rows. -/
theorem wl_rows2 {rest : List Oper} {w : World} (hw : Region.wanted o (yielded ops a.tmps) = true) (x y : Operand) (ho : o.op = .buildSlice 111 2 #[(0, x), (1, y)]) {p q : Option Addr} {n m c d : Nat} (hx : a.eval x = .slice p n c) (hy : a.eval y = .slice q m d)
    (h : ∀ W g, W.heap[g]? = some (.cells #[.slice p n c, .slice q m d] 31 (0, 0)) → Below w.heap.size w W → wpList Tryz.prog ops Q rest (a.put o.dst (.slice (some ⟨g, 0, none⟩) 2 2)) W) : wpList Tryz.prog ops Q (o :: rest) a w := by
  refine wl_run hw (.slice (some ⟨w.heap.size, 0, none⟩) 2 2) (w.alloc (.cells #[.slice p n c, .slice q m d] 31)) ?_ (h _ _ (heap_new _ _) ((Below.refl _ w).alloc (Nat.le_refl _) _))
  simp only [execOp, ho, List.map_toArray, List.map_cons, List.map_nil, hx, hy]
  go_simp
end
theorem prod_take (l m : List BoxV) (k : Nat) (h : k < l.length) : prodL (l.take (k + 1)) m = prodL (l.take k) m ++ m.map fun b => andBx (l.getD k zBox) b := by
  unfold prodL
  exact take_flat _ l k zBox h
theorem idx_lt {k n j m N : Nat} (h : k < n) (hj : j < m) (hN : n * m = N) : k * m + j < N := by
  have : (k + 1) * m ≤ n * m := Nat.mul_le_mul_right m h
  rw [Nat.succ_mul] at this
  omega
theorem allBx_append {w : World} {ks ms : List BxC} {K M : List BoxV} (h : AllBx w ks K) (h' : AllBx w ms M) : AllBx w (ks ++ ms) (K ++ M) := by
  refine ⟨by rw [List.length_append, List.length_append, h.1, h'.1], fun i hi => ?_⟩
  rw [List.length_append] at hi
  by_cases hi' : i < K.length
  · rw [List.getD_eq_getElem?_getD, List.getD_eq_getElem?_getD, List.getElem?_append_left (by rw [h.1]; exact hi'), List.getElem?_append_left hi', ← List.getD_eq_getElem?_getD, ← List.getD_eq_getElem?_getD]
    exact h.2 i hi'
  · rw [List.getD_eq_getElem?_getD, List.getD_eq_getElem?_getD, List.getElem?_append_right (by rw [h.1]; omega), List.getElem?_append_right (by omega), ← List.getD_eq_getElem?_getD, ← List.getD_eq_getElem?_getD, h.1]
    exact h'.2 (i - K.length) (by omega)
end Go.Proofs.YtlfhpocfacaaeaaGreat
/-
  Steps of regions, of the sixth layer: a set out of a box by its place; a set in a new block; boxes as they lie in rows that are made.
-/
set_option linter.unusedSimpArgs false
set_option linter.unusedVariables false
namespace Go.Proofs.YtlfhpocfacaaeaaGreat
open Go.RowKit

def BxC.sc (c : BxC) : Nat → SC
  | 0 => c.s0
  | 1 => c.s1
  | 2 => c.s2
  | _ => c.s3
theorem BoxAt.sc {w : World} {c : BxC} {b : BoxV} (h : BoxAt w c.val b) (i : Nat) (hi : i < 4) : SetAt w (c.sc i).val (b.get i) := by
  obtain ⟨⟨h0, h1, h2, h3⟩, _⟩ := sc_forms (s0 := c.s0) (s1 := c.s1) (s2 := c.s2) (s3 := c.s3) h
  match i, hi with
  | 0, _ => exact h0
  | 1, _ => exact h1
  | 2, _ => exact h2
  | 3, _ => exact h3
section
variable {ops : Array Oper} {Q : Exit → Act → World → Prop} {S : World → Prop} {o : Oper} {a : Act}
theorem yl_bxIdx (hw : Region.wanted o (yielded ops a.tmps) = true) (x y : Operand) (ho : o.op = .index 47 x y) (c : BxC) (i : Nat) (hx : a.eval x = c.val) (hy : a.eval y = .int .i64 i) (hi : i < 4) : YieldsIf Tryz.prog ops S o (c.sc i).val a :=
  Or.inl ⟨hw, fun w hS => by
    simp only [execOp, ho, hx, hy]
    match i, hi with
    | 0, _ =>
      have := run_at0 w c.s0 c.s1 c.s2 c.s3
      simp only [Sem.run_bind, BxC.val, bxVal] at this ⊢
      rw [show ((0 : Nat) : Int) = 0 from rfl, this]; rfl
    | 1, _ =>
      have := run_at1 w c.s0 c.s1 c.s2 c.s3
      simp only [Sem.run_bind, BxC.val, bxVal] at this ⊢
      rw [show ((1 : Nat) : Int) = 1 from rfl, this]; rfl
    | 2, _ =>
      have := run_at2 w c.s0 c.s1 c.s2 c.s3
      simp only [Sem.run_bind, BxC.val, bxVal] at this ⊢
      rw [show ((2 : Nat) : Int) = 2 from rfl, this]; rfl
    | 3, _ =>
      have := run_at3 w c.s0 c.s1 c.s2 c.s3
      simp only [Sem.run_bind, BxC.val, bxVal] at this ⊢
      rw [show ((3 : Nat) : Int) = 3 from rfl, this]; rfl⟩
theorem infoSt4 : (Tryz.prog.info? 25).map (·.size) = some 4 := by kernel_rfl
def SC.list (s : SC) : List Value := [.bool s.a, .slice s.p s.n s.c, .bool s.d, .slice s.q s.m s.e]
theorem SC.list_one (s : SC) : ∀ v ∈ s.list, v.oneCell' = true := by
  intro v hv
  unfold SC.list at hv
  simp only [List.mem_cons, List.not_mem_nil, or_false] at hv
  rcases hv with rfl | rfl | rfl | rfl <;> rfl
set_option maxRecDepth 100000 in
/-- A new block, and a set stored there. -/
theorem wl_newS {o2 : Oper} {rest : List Oper} {w : World} (hw : Region.wanted o (yielded ops a.tmps) = true) (ho : o.op = .alloc 25) (x y : Operand) (ho2 : o2.op = .store 25 x y) (hg2 : o2.guard = none)
    (hx : ∀ v, (a.put o.dst v).eval x = v) {s : SC} (hy : ∀ v, (a.put o.dst v).eval y = s.val)
    (h : ∀ W g, StIn W g s → Below w.heap.size w W → wpList Tryz.prog ops Q rest ((a.put o.dst (.pointer (some ⟨g, 0, none⟩))).put o2.dst undef) W) : wpList Tryz.prog ops Q (o :: o2 :: rest) a w := by
  refine wl_run hw (.pointer (some ⟨w.heap.size, 0, none⟩)) (w.alloc (.cells #[.bool false, .slice none 0 0, .bool false, .slice none 0 0] 25)) ?_ ?_
  · simp only [execOp, ho]
    go_simp
  · have hz : StIn (w.alloc (.cells #[.bool false, .slice none 0 0, .bool false, .slice none 0 0] 25)) w.heap.size SC.zero := heap_new _ _
    have ht : (w.alloc (.cells #[.bool false, .slice none 0 0, .bool false, .slice none 0 0] 25)).there w.heap.size 0 4 := there_of hz (by decide)
    refine wpList_store_mid hg2 25 x y ho2 w.heap.size 0 s.list.toArray (hx _) (hy _) ht (by rw [infoSt4]; rfl) (all_oneCell_toArray s.list_one) ?_
    refine h _ _ ?_ (Below.setCells w.heap.size (Nat.le_refl _) s.list 0 _ ((Below.refl _ w).alloc (Nat.le_refl _) _))
    exact heap_setCell (i := 3) (.slice s.q s.m s.e) (heap_setCell (i := 2) (.bool s.d) (heap_setCell (i := 1) (.slice s.p s.n s.c) (heap_setCell (i := 0) (.bool s.a) hz)))
end
theorem OwnB.sl {w : World} {B : Nat} {v : Value} {cs : List BxC} (h : OwnB w B v cs) : ∃ p c, v = .slice p cs.length c := by
  rcases h.form with ⟨rfl, rfl⟩ | ⟨g, cap, cur, rfl, _⟩
  · exact ⟨none, 0, rfl⟩
  · exact ⟨_, cap, rfl⟩
/-- Small: few ranges, few strings. -/
def smallBx (b : BoxV) : Bool := all4 fun i => smallB (b.get i)
theorem smallB_any (v : Value) (S : SetV) (w : World) (hv : SetAt w v S) : Calls Tryz.prog 89 #[v] w fun r w' => r = .returned (.bool (smallB S)) ∧ Below w.heap.size w w' := small_any v S w hv
theorem all4_no {f : Nat → Bool} {i : Nat} (hi : i < 4) (h : f i = false) : all4 f = false := by
  cases hq : all4 f
  · rfl
  · rw [(all4_iff f).1 hq i hi] at h; cases h
theorem fit_small {w : World} {v : Value} {b : BoxV} (h : BoxAt w v b) (hs : smallBx b = true) (hr : rightBx b = true) : FitBx b := by
  have hS : ∀ i, i < 4 → (b.get i).ints.length ≤ 6 ∧ (b.get i).strs.length ≤ 6 := fun i hi => by
    have := (all4_iff _).1 hs i hi
    unfold smallB at this
    rw [Bool.and_eq_true, decide_eq_true_eq, decide_eq_true_eq] at this
    exact this
  exact ⟨⟨fun i hi => ⟨(all4_iff _).1 hr i hi, h.i64 i hi⟩, fun i hi => by have := (hS i hi).2; omega⟩, fun i hi => by have := (hS i hi).1; omega, fun i hi => by have := (hS i hi).2; omega⟩
/-- May the boxes be a filter? -/
def rightF (l : List BoxV) : Bool := decide (l.length ≤ 4) && (l.all (fun b => smallBx b && rightBx b) && decide ((tidP l).length = l.length))
end Go.Proofs.YtlfhpocfacaaeaaGreat
/-
  The program's box.Small, box.Right, dnf.Right, dnf.Same.
-/
set_option linter.unusedSimpArgs false
set_option linter.unusedVariables false
namespace Go.Proofs.YtlfhpocfacaaeaaGreat
open Go.RowKit

set_option maxHeartbeats 4000000 in
set_option maxRecDepth 100000 in
theorem boxSmall_any (c : BxC) (b : BoxV) (w : World) (hv0 : BoxAt w c.val b) :
    Calls Tryz.prog 52 #[c.val] w fun r w' => r = .returned (.bool (smallBx b)) ∧ Below w.heap.size w w' := by
  have hv := hv0
  have D := Below.refl w.heap.size w
  go_enter Tryz.func52, Tryz.ntmps52
  refine wp_seq_k (fun K1 hK1 => ?_)
  refine wp_region_lit ?_
  refine wl_boxBc (o := ⟨_, _, _, _, _, _⟩) (by rfl) _ rfl rfl (fun v1 gb1 hggb1 IO1 kb => ?_)
  simp only [Act.put, List.setIfInBounds_toArray, List.set_cons_zero, List.set_cons_succ]
  replace D := D.trans (kb.mono D.size)
  replace hv := hv.on kb
  clear kb
  refine wl_yield (o := ⟨_, _, _, _, _, _⟩) (.bool false) (yl_assign (by rfl) _ rfl _ rfl) ?_
  simp only [Act.put, List.setIfInBounds_toArray, List.set_cons_zero, List.set_cons_succ]
  refine wpList_nil ?_
  refine hK1 _ _ ?_
  clear hK1 K1
  refine wp_seq_k (fun K2 hK2 => ?_)
  refine wp_seq_k (fun K3 hK3 => ?_)
  refine wp_region_lit ?_
  refine wl_yield (o := ⟨_, _, _, _, _, _⟩) (BxC.val c) (yl_bx (by rfl) _ rfl _ _ rfl _ (fun _ h => by subst h; exact BcIn.at IO1)) ?_
  simp only [Act.put, List.setIfInBounds_toArray, List.set_cons_zero, List.set_cons_succ]
  refine wl_yield (o := ⟨_, _, _, _, _, _⟩) (.int .i64 0) (yl_move (by rfl) _ rfl _ rfl) ?_
  simp only [Act.put, List.setIfInBounds_toArray, List.set_cons_zero, List.set_cons_succ]
  refine wpList_nil ?_
  refine hK3 _ _ ?_
  clear hK3 K3
  refine wp_block ?_
  go_loopw [6] (fun i wr => ∃ k : Nat, i = .int .i64 k ∧ k ≤ 4 ∧ (∀ j, j < k → smallB (b.get j) = true) ∧ Below w.heap.size w wr) (fun i _ => 4 - (intOf i).toNat)
  case atStart => exact ⟨0, rfl, by omega, fun j h => by omega, D⟩
  case round =>
    replace hv := hv0
    clear D
    obtain ⟨k, rfl, hk, hF, D⟩ := hrel
    replace hv := hv.on D
    by_cases hlt : k < 4
    · refine wp_seq_k (fun K4 hK4 => ?_)
      refine wp_region_lit ?_
      refine wl_yield (o := ⟨_, _, _, _, _, _⟩) (.bool true) (yl_lssI (by rfl) _ _ _ rfl (((k : Nat) : Int)) (4) true rfl rfl (decide_eq_true (by omega))) ?_
      simp only [Act.put, List.setIfInBounds_toArray, List.set_cons_zero, List.set_cons_succ]
      refine wpList_nil ?_
      refine hK4 _ _ ?_
      clear hK4 K4
      refine wp_seq_k (fun K5 hK5 => ?_)
      refine wp_cond_true rfl ?_
      refine wp_skip ?_
      refine hK5 _ _ ?_
      clear hK5 K5
      refine wp_seq_k (fun K6 hK6 => ?_)
      refine wp_block ?_
      refine wp_seq_k (fun K7 hK7 => ?_)
      refine wp_region_lit ?_
      refine wl_yield (o := ⟨_, _, _, _, _, _⟩) (SC.val (BxC.sc c k)) (yl_bxIdx (by rfl) _ _ rfl c k rfl rfl (hlt)) ?_
      simp only [Act.put, List.setIfInBounds_toArray, List.set_cons_zero, List.set_cons_succ]
      refine wl_newS (o := ⟨_, _, _, _, _, _⟩) (o2 := ⟨_, _, _, _, _, _⟩) (by rfl) rfl _ _ rfl rfl (fun _ => rfl) (fun _ => rfl) (fun v2 gb2 IO4 kb => ?_)
      simp only [Act.put, List.setIfInBounds_toArray, List.set_cons_zero, List.set_cons_succ]
      replace D := D.trans (kb.mono D.size)
      replace hv := hv.on kb
      clear kb
      refine wpList_nil ?_
      refine hK7 _ _ ?_
      clear hK7 K7
      refine wp_seq_k (fun K8 hK8 => ?_)
      refine wp_region_lit ?_
      refine wl_yield (o := ⟨_, _, _, _, _, _⟩) (SC.val (BxC.sc c k)) (yl_set (by rfl) _ rfl _ 0 rfl _ _ _ _ (fun _ h => by subst h; exact stCells IO4)) ?_
      simp only [Act.put, List.setIfInBounds_toArray, List.set_cons_zero, List.set_cons_succ]
      refine wl_call (o := ⟨_, _, _, _, _, _⟩) (by rfl) 89 _ _ rfl #[SC.val (BxC.sc c k)] rfl (run_call Tryz.func89 (by kernel_rfl) (by kernel_rfl)) ?_
      refine (smallB_any _ (b.get k) _ (hv.sc k hlt)).mono ?_
      rintro r v3 ⟨rfl, kb⟩
      replace D := D.trans (kb.mono D.size)
      replace hv := hv.on kb
      replace IO4 := IO4.on kb
      clear kb
      cases hq : smallB (b.get k)
      · refine ⟨.bool false, rfl, ?_⟩
        simp only [Act.put, List.setIfInBounds_toArray, List.set_cons_zero, List.set_cons_succ]
        refine wl_yield (o := ⟨_, _, _, _, _, _⟩) (.bool true) (yl_not (by rfl) _ _ rfl false rfl) ?_
        simp only [Act.put, List.setIfInBounds_toArray, List.set_cons_zero, List.set_cons_succ]
        refine wpList_nil ?_
        refine hK8 _ _ ?_
        clear hK8 K8
        refine wp_cond_true rfl ?_
        refine wp_seq_k (fun K9 hK9 => ?_)
        refine wp_region_lit ?_
        refine wl_yield (o := ⟨_, _, _, _, _, _⟩) (.bool false) (yl_assign (by rfl) _ rfl _ rfl) ?_
        simp only [Act.put, List.setIfInBounds_toArray, List.set_cons_zero, List.set_cons_succ]
        refine wpList_nil ?_
        refine hK9 _ _ ?_
        clear hK9 K9
        refine wp_ret ?_
        go_ret
        exact ⟨by rw [show smallBx b = false from all4_no hlt hq]; rfl, D⟩
      · refine ⟨.bool true, rfl, ?_⟩
        simp only [Act.put, List.setIfInBounds_toArray, List.set_cons_zero, List.set_cons_succ]
        refine wl_yield (o := ⟨_, _, _, _, _, _⟩) (.bool false) (yl_not (by rfl) _ _ rfl true rfl) ?_
        simp only [Act.put, List.setIfInBounds_toArray, List.set_cons_zero, List.set_cons_succ]
        refine wpList_nil ?_
        refine hK8 _ _ ?_
        clear hK8 K8
        refine wp_cond_false rfl ?_
        refine wp_skip ?_
        refine hK6 _ _ ?_
        clear hK6 K6
        refine wp_region_lit ?_
        refine wl_yield (o := ⟨_, _, _, _, _, _⟩) (.int .i64 (k + 1 : Nat)) (yl_addI (by rfl) _ _ _ rfl (((k : Nat) : Int)) (1) (((k + 1 : Nat) : Int)) rfl rfl (by omega) (by omega) (by omega)) ?_
        simp only [Act.put, List.setIfInBounds_toArray, List.set_cons_zero, List.set_cons_succ]
        refine wl_yield (o := ⟨_, _, _, _, _, _⟩) (.int .i64 (k + 1 : Nat)) (yl_move (by rfl) _ rfl _ rfl) ?_
        simp only [Act.put, List.setIfInBounds_toArray, List.set_cons_zero, List.set_cons_succ]
        refine wpList_nil ?_
        show _ ∧ _
        go_roundw
        case rel => exact ⟨k + 1, rfl, by omega, fun j hj => by
          rcases Nat.lt_succ_iff_lt_or_eq.1 hj with h | rfl
          · exact hF j h
          · exact hq, D⟩
        case measure => simp [intOf]; omega
    · refine wp_seq_k (fun K4 hK4 => ?_)
      refine wp_region_lit ?_
      refine wl_yield (o := ⟨_, _, _, _, _, _⟩) (.bool false) (yl_lssI (by rfl) _ _ _ rfl (((k : Nat) : Int)) (4) false rfl rfl (decide_eq_false (by omega))) ?_
      simp only [Act.put, List.setIfInBounds_toArray, List.set_cons_zero, List.set_cons_succ]
      refine wpList_nil ?_
      refine hK4 _ _ ?_
      clear hK4 K4
      refine wp_seq_k (fun K5 hK5 => ?_)
      refine wp_cond_false rfl ?_
      refine wp_exit ?_
      refine hK2 _ _ ?_
      clear hK5 K5 hK2 K2
      refine wp_seq_k (fun K6 hK6 => ?_)
      refine wp_region_lit ?_
      refine wl_yield (o := ⟨_, _, _, _, _, _⟩) (.bool true) (yl_assign (by rfl) _ rfl _ rfl) ?_
      simp only [Act.put, List.setIfInBounds_toArray, List.set_cons_zero, List.set_cons_succ]
      refine wpList_nil ?_
      refine hK6 _ _ ?_
      clear hK6 K6
      refine wp_ret ?_
      go_ret
      exact ⟨by rw [show smallBx b = true from (all4_iff _).2 fun i hi => hF i (by omega)]; rfl, D⟩
set_option maxHeartbeats 4000000 in
set_option maxRecDepth 100000 in
theorem boxRight_any (c : BxC) (b : BoxV) (w : World) (hv0 : BoxAt w c.val b) :
    Calls Tryz.prog 53 #[c.val] w fun r w' => r = .returned (.bool (rightBx b)) ∧ Below w.heap.size w w' := by
  have hv := hv0
  have D := Below.refl w.heap.size w
  go_enter Tryz.func53, Tryz.ntmps53
  refine wp_seq_k (fun K1 hK1 => ?_)
  refine wp_region_lit ?_
  refine wl_boxBc (o := ⟨_, _, _, _, _, _⟩) (by rfl) _ rfl rfl (fun v1 gb1 hggb1 IO1 kb => ?_)
  simp only [Act.put, List.setIfInBounds_toArray, List.set_cons_zero, List.set_cons_succ]
  replace D := D.trans (kb.mono D.size)
  replace hv := hv.on kb
  clear kb
  refine wl_yield (o := ⟨_, _, _, _, _, _⟩) (.bool false) (yl_assign (by rfl) _ rfl _ rfl) ?_
  simp only [Act.put, List.setIfInBounds_toArray, List.set_cons_zero, List.set_cons_succ]
  refine wpList_nil ?_
  refine hK1 _ _ ?_
  clear hK1 K1
  refine wp_seq_k (fun K2 hK2 => ?_)
  refine wp_seq_k (fun K3 hK3 => ?_)
  refine wp_region_lit ?_
  refine wl_yield (o := ⟨_, _, _, _, _, _⟩) (BxC.val c) (yl_bx (by rfl) _ rfl _ _ rfl _ (fun _ h => by subst h; exact BcIn.at IO1)) ?_
  simp only [Act.put, List.setIfInBounds_toArray, List.set_cons_zero, List.set_cons_succ]
  refine wl_yield (o := ⟨_, _, _, _, _, _⟩) (.int .i64 0) (yl_move (by rfl) _ rfl _ rfl) ?_
  simp only [Act.put, List.setIfInBounds_toArray, List.set_cons_zero, List.set_cons_succ]
  refine wpList_nil ?_
  refine hK3 _ _ ?_
  clear hK3 K3
  refine wp_block ?_
  go_loopw [6] (fun i wr => ∃ k : Nat, i = .int .i64 k ∧ k ≤ 4 ∧ (∀ j, j < k → rightSet (b.get j) = true) ∧ Below w.heap.size w wr) (fun i _ => 4 - (intOf i).toNat)
  case atStart => exact ⟨0, rfl, by omega, fun j h => by omega, D⟩
  case round =>
    replace hv := hv0
    clear D
    obtain ⟨k, rfl, hk, hF, D⟩ := hrel
    replace hv := hv.on D
    by_cases hlt : k < 4
    · refine wp_seq_k (fun K4 hK4 => ?_)
      refine wp_region_lit ?_
      refine wl_yield (o := ⟨_, _, _, _, _, _⟩) (.bool true) (yl_lssI (by rfl) _ _ _ rfl (((k : Nat) : Int)) (4) true rfl rfl (decide_eq_true (by omega))) ?_
      simp only [Act.put, List.setIfInBounds_toArray, List.set_cons_zero, List.set_cons_succ]
      refine wpList_nil ?_
      refine hK4 _ _ ?_
      clear hK4 K4
      refine wp_seq_k (fun K5 hK5 => ?_)
      refine wp_cond_true rfl ?_
      refine wp_skip ?_
      refine hK5 _ _ ?_
      clear hK5 K5
      refine wp_seq_k (fun K6 hK6 => ?_)
      refine wp_block ?_
      refine wp_seq_k (fun K7 hK7 => ?_)
      refine wp_region_lit ?_
      refine wl_yield (o := ⟨_, _, _, _, _, _⟩) (SC.val (BxC.sc c k)) (yl_bxIdx (by rfl) _ _ rfl c k rfl rfl (hlt)) ?_
      simp only [Act.put, List.setIfInBounds_toArray, List.set_cons_zero, List.set_cons_succ]
      refine wl_newS (o := ⟨_, _, _, _, _, _⟩) (o2 := ⟨_, _, _, _, _, _⟩) (by rfl) rfl _ _ rfl rfl (fun _ => rfl) (fun _ => rfl) (fun v2 gb2 IO4 kb => ?_)
      simp only [Act.put, List.setIfInBounds_toArray, List.set_cons_zero, List.set_cons_succ]
      replace D := D.trans (kb.mono D.size)
      replace hv := hv.on kb
      clear kb
      refine wpList_nil ?_
      refine hK7 _ _ ?_
      clear hK7 K7
      refine wp_seq_k (fun K8 hK8 => ?_)
      refine wp_region_lit ?_
      refine wl_yield (o := ⟨_, _, _, _, _, _⟩) (SC.val (BxC.sc c k)) (yl_set (by rfl) _ rfl _ 0 rfl _ _ _ _ (fun _ h => by subst h; exact stCells IO4)) ?_
      simp only [Act.put, List.setIfInBounds_toArray, List.set_cons_zero, List.set_cons_succ]
      refine wl_call (o := ⟨_, _, _, _, _, _⟩) (by rfl) 90 _ _ rfl #[SC.val (BxC.sc c k)] rfl (run_call Tryz.func90 (by kernel_rfl) (by kernel_rfl)) ?_
      refine (setRight_any _ (b.get k) _ (hv.sc k hlt)).mono ?_
      rintro r v3 ⟨rfl, kb⟩
      replace D := D.trans (kb.mono D.size)
      replace hv := hv.on kb
      replace IO4 := IO4.on kb
      clear kb
      cases hq : rightSet (b.get k)
      · refine ⟨.bool false, rfl, ?_⟩
        simp only [Act.put, List.setIfInBounds_toArray, List.set_cons_zero, List.set_cons_succ]
        refine wl_yield (o := ⟨_, _, _, _, _, _⟩) (.bool true) (yl_not (by rfl) _ _ rfl false rfl) ?_
        simp only [Act.put, List.setIfInBounds_toArray, List.set_cons_zero, List.set_cons_succ]
        refine wpList_nil ?_
        refine hK8 _ _ ?_
        clear hK8 K8
        refine wp_cond_true rfl ?_
        refine wp_seq_k (fun K9 hK9 => ?_)
        refine wp_region_lit ?_
        refine wl_yield (o := ⟨_, _, _, _, _, _⟩) (.bool false) (yl_assign (by rfl) _ rfl _ rfl) ?_
        simp only [Act.put, List.setIfInBounds_toArray, List.set_cons_zero, List.set_cons_succ]
        refine wpList_nil ?_
        refine hK9 _ _ ?_
        clear hK9 K9
        refine wp_ret ?_
        go_ret
        exact ⟨by rw [show rightBx b = false from all4_no hlt hq]; rfl, D⟩
      · refine ⟨.bool true, rfl, ?_⟩
        simp only [Act.put, List.setIfInBounds_toArray, List.set_cons_zero, List.set_cons_succ]
        refine wl_yield (o := ⟨_, _, _, _, _, _⟩) (.bool false) (yl_not (by rfl) _ _ rfl true rfl) ?_
        simp only [Act.put, List.setIfInBounds_toArray, List.set_cons_zero, List.set_cons_succ]
        refine wpList_nil ?_
        refine hK8 _ _ ?_
        clear hK8 K8
        refine wp_cond_false rfl ?_
        refine wp_skip ?_
        refine hK6 _ _ ?_
        clear hK6 K6
        refine wp_region_lit ?_
        refine wl_yield (o := ⟨_, _, _, _, _, _⟩) (.int .i64 (k + 1 : Nat)) (yl_addI (by rfl) _ _ _ rfl (((k : Nat) : Int)) (1) (((k + 1 : Nat) : Int)) rfl rfl (by omega) (by omega) (by omega)) ?_
        simp only [Act.put, List.setIfInBounds_toArray, List.set_cons_zero, List.set_cons_succ]
        refine wl_yield (o := ⟨_, _, _, _, _, _⟩) (.int .i64 (k + 1 : Nat)) (yl_move (by rfl) _ rfl _ rfl) ?_
        simp only [Act.put, List.setIfInBounds_toArray, List.set_cons_zero, List.set_cons_succ]
        refine wpList_nil ?_
        show _ ∧ _
        go_roundw
        case rel => exact ⟨k + 1, rfl, by omega, fun j hj => by
          rcases Nat.lt_succ_iff_lt_or_eq.1 hj with h | rfl
          · exact hF j h
          · exact hq, D⟩
        case measure => simp [intOf]; omega
    · refine wp_seq_k (fun K4 hK4 => ?_)
      refine wp_region_lit ?_
      refine wl_yield (o := ⟨_, _, _, _, _, _⟩) (.bool false) (yl_lssI (by rfl) _ _ _ rfl (((k : Nat) : Int)) (4) false rfl rfl (decide_eq_false (by omega))) ?_
      simp only [Act.put, List.setIfInBounds_toArray, List.set_cons_zero, List.set_cons_succ]
      refine wpList_nil ?_
      refine hK4 _ _ ?_
      clear hK4 K4
      refine wp_seq_k (fun K5 hK5 => ?_)
      refine wp_cond_false rfl ?_
      refine wp_exit ?_
      refine hK2 _ _ ?_
      clear hK5 K5 hK2 K2
      refine wp_seq_k (fun K6 hK6 => ?_)
      refine wp_region_lit ?_
      refine wl_yield (o := ⟨_, _, _, _, _, _⟩) (.bool true) (yl_assign (by rfl) _ rfl _ rfl) ?_
      simp only [Act.put, List.setIfInBounds_toArray, List.set_cons_zero, List.set_cons_succ]
      refine wpList_nil ?_
      refine hK6 _ _ ?_
      clear hK6 K6
      refine wp_ret ?_
      go_ret
      exact ⟨by rw [show rightBx b = true from (all4_iff _).2 fun i hi => hF i (by omega)]; rfl, D⟩
set_option maxHeartbeats 4000000 in
set_option maxRecDepth 100000 in
theorem dnfRight_any (v : Value) (l : List BoxV) (w : World) (hv : Bxs w v l) :
    Calls Tryz.prog 23 #[v] w fun r w' => r = .returned (.bool (rightF l)) ∧ Below w.heap.size w w' := by
  obtain ⟨cs, hr, ha⟩ := hv
  have hbig := hr.1
  have hcl := ha.1
  obtain ⟨q, cp, rfl⟩ := hr.form
  have D := Below.refl w.heap.size w
  go_enter Tryz.func23, Tryz.ntmps23
  refine wp_seq_k (fun K1 hK1 => ?_)
  refine wp_region_lit ?_
  refine wl_yield (o := ⟨_, _, _, _, _, _⟩) (.bool false) (yl_assign (by rfl) _ rfl _ rfl) ?_
  simp only [Act.put, List.setIfInBounds_toArray, List.set_cons_zero, List.set_cons_succ]
  refine wpList_nil ?_
  refine hK1 _ _ ?_
  clear hK1 K1
  refine wp_seq_k (fun K2 hK2 => ?_)
  refine wp_seq_k (fun K3 hK3 => ?_)
  refine wp_region_lit ?_
  refine wl_yield (o := ⟨_, _, _, _, _, _⟩) (.slice q cs.length cp) (yl_move (by rfl) _ rfl _ rfl) ?_
  simp only [Act.put, List.setIfInBounds_toArray, List.set_cons_zero, List.set_cons_succ]
  refine wl_yield (o := ⟨_, _, _, _, _, _⟩) (.int .i64 (cs.length : Nat)) (yl_lenF (by rfl) _ rfl _ _ _ rfl) ?_
  simp only [Act.put, List.setIfInBounds_toArray, List.set_cons_zero, List.set_cons_succ]
  refine wl_yield (o := ⟨_, _, _, _, _, _⟩) (.bool (decide (4 < cs.length))) (yl_gtrI (by rfl) _ _ _ rfl (((cs.length : Nat) : Int)) (4) (decide (4 < cs.length)) rfl rfl (by rw [decide_eq_decide]; omega)) ?_
  simp only [Act.put, List.setIfInBounds_toArray, List.set_cons_zero, List.set_cons_succ]
  refine wpList_nil ?_
  refine hK3 _ _ ?_
  clear hK3 K3
  refine wp_cond_split (t := (decide (4 < cs.length))) rfl (fun hc => ?_) (fun hc => ?_)
  · have h4 : 4 < cs.length := of_decide_eq_true hc
    refine wp_seq_k (fun K4 hK4 => ?_)
    refine wp_region_lit ?_
    refine wl_yield (o := ⟨_, _, _, _, _, _⟩) (.bool false) (yl_assign (by rfl) _ rfl _ rfl) ?_
    simp only [Act.put, List.setIfInBounds_toArray, List.set_cons_zero, List.set_cons_succ]
    refine wpList_nil ?_
    refine hK4 _ _ ?_
    clear hK4 K4
    refine wp_ret ?_
    go_ret
    exact ⟨by unfold rightF; rw [decide_eq_false (show ¬ l.length ≤ 4 by omega), Bool.false_and]; rfl, D⟩
  · have h4 : ¬ 4 < cs.length := of_decide_eq_false hc
    refine wp_skip ?_
    refine hK2 _ _ ?_
    clear hK2 K2
    refine wp_seq_k (fun K4 hK4 => ?_)
    refine wp_seq_k (fun K5 hK5 => ?_)
    refine wp_region_lit ?_
    refine wl_yield (o := ⟨_, _, _, _, _, _⟩) (.slice q cs.length cp) (yl_move (by rfl) _ rfl _ rfl) ?_
    simp only [Act.put, List.setIfInBounds_toArray, List.set_cons_zero, List.set_cons_succ]
    refine wl_yield (o := ⟨_, _, _, _, _, _⟩) (.int .i64 (cs.length : Nat)) (yl_lenF (by rfl) _ rfl _ _ _ rfl) ?_
    simp only [Act.put, List.setIfInBounds_toArray, List.set_cons_zero, List.set_cons_succ]
    refine wl_yield (o := ⟨_, _, _, _, _, _⟩) (.int .i64 0) (yl_move (by rfl) _ rfl _ rfl) ?_
    simp only [Act.put, List.setIfInBounds_toArray, List.set_cons_zero, List.set_cons_succ]
    refine wpList_nil ?_
    refine hK5 _ _ ?_
    clear hK5 K5
    refine wp_block ?_
    go_loopw [10] (fun i wr => ∃ k : Nat, i = .int .i64 k ∧ k ≤ cs.length ∧ (∀ j, j < k → (smallBx (l.getD j zBox) && rightBx (l.getD j zBox)) = true) ∧ Below w.heap.size w wr) (fun i _ => cs.length - (intOf i).toNat)
    case atStart => exact ⟨0, rfl, by omega, fun j h => by omega, D⟩
    case round =>
      clear D
      obtain ⟨k, rfl, hk, hF, D⟩ := hrel
      by_cases hlt : k < cs.length
      · have hkl : k < l.length := by rw [← ha.1]; exact hlt
        obtain ⟨g, off, rfl, HC⟩ := (hr.on D).at.2 k hlt
        have hb := ha.2 k hkl
        refine wp_seq_k (fun K6 hK6 => ?_)
        refine wp_region_lit ?_
        refine wl_yield (o := ⟨_, _, _, _, _, _⟩) (.bool true) (yl_lssI (by rfl) _ _ _ rfl (((k : Nat) : Int)) (((cs.length : Nat) : Int)) true rfl rfl (decide_eq_true (by omega))) ?_
        simp only [Act.put, List.setIfInBounds_toArray, List.set_cons_zero, List.set_cons_succ]
        refine wpList_nil ?_
        refine hK6 _ _ ?_
        clear hK6 K6
        refine wp_seq_k (fun K7 hK7 => ?_)
        refine wp_cond_true rfl ?_
        refine wp_skip ?_
        refine hK7 _ _ ?_
        clear hK7 K7
        refine wp_seq_k (fun K8 hK8 => ?_)
        refine wp_block ?_
        refine wp_seq_k (fun K9 hK9 => ?_)
        refine wp_region_lit ?_
        refine wl_yield (o := ⟨_, _, _, _, _, _⟩) (.pointer (some ⟨g, off + k * 16, none⟩)) (yl_fxAt (by rfl) _ _ rfl g (off) _ _ (k) rfl rfl (hlt)) ?_
        simp only [Act.put, List.setIfInBounds_toArray, List.set_cons_zero, List.set_cons_succ]
        refine wl_yield (o := ⟨_, _, _, _, _, _⟩) (BxC.val (cs.getD k bc0)) (yl_bx (by rfl) _ rfl _ _ rfl _ (fun _ h => by subst h; exact HC)) ?_
        simp only [Act.put, List.setIfInBounds_toArray, List.set_cons_zero, List.set_cons_succ]
        refine wl_newB (o := ⟨_, _, _, _, _, _⟩) (o2 := ⟨_, _, _, _, _, _⟩) (by rfl) rfl _ _ rfl rfl (fun _ => rfl) (fun _ => rfl) (fun v1 gb1 hggb1 IO4 kb => ?_)
        simp only [Act.put, List.setIfInBounds_toArray, List.set_cons_zero, List.set_cons_succ]
        replace D := D.trans (kb.mono D.size)
        clear kb
        refine wpList_nil ?_
        refine hK9 _ _ ?_
        clear hK9 K9
        refine wp_seq_k (fun K10 hK10 => ?_)
        refine wp_region_lit ?_
        refine wl_yield (o := ⟨_, _, _, _, _, _⟩) (BxC.val (cs.getD k bc0)) (yl_bx (by rfl) _ rfl _ _ rfl _ (fun _ h => by subst h; exact BcIn.at IO4)) ?_
        simp only [Act.put, List.setIfInBounds_toArray, List.set_cons_zero, List.set_cons_succ]
        refine wl_call (o := ⟨_, _, _, _, _, _⟩) (by rfl) 52 _ _ rfl #[BxC.val (cs.getD k bc0)] rfl (run_call Tryz.func52 (by kernel_rfl) (by kernel_rfl)) ?_
        refine (boxSmall_any (cs.getD k bc0) (l.getD k zBox) _ (hb.on D)).mono ?_
        rintro r v2 ⟨rfl, kb⟩
        replace D := D.trans (kb.mono D.size)
        replace IO4 := IO4.on kb
        clear kb
        cases hq1 : smallBx (l.getD k zBox)
        · refine ⟨.bool false, rfl, ?_⟩
          simp only [Act.put, List.setIfInBounds_toArray, List.set_cons_zero, List.set_cons_succ]
          refine wl_yield (o := ⟨_, _, _, _, _, _⟩) (.bool true) (yl_not (by rfl) _ _ rfl false rfl) ?_
          simp only [Act.put, List.setIfInBounds_toArray, List.set_cons_zero, List.set_cons_succ]
          refine wl_yield (o := ⟨_, _, _, _, _, _⟩) (.bool true) (yl_move (by rfl) _ rfl _ rfl) ?_
          simp only [Act.put, List.setIfInBounds_toArray, List.set_cons_zero, List.set_cons_succ]
          refine wl_yield (o := ⟨_, _, _, _, _, _⟩) undef (yl_undef (by rfl)) ?_
          simp only [Act.put, List.setIfInBounds_toArray, List.set_cons_zero, List.set_cons_succ]
          refine wl_yield (o := ⟨_, _, _, _, _, _⟩) undef (yl_undef (by rfl)) ?_
          simp only [Act.put, List.setIfInBounds_toArray, List.set_cons_zero, List.set_cons_succ]
          refine wl_yield (o := ⟨_, _, _, _, _, _⟩) undef (yl_undef (by rfl)) ?_
          simp only [Act.put, List.setIfInBounds_toArray, List.set_cons_zero, List.set_cons_succ]
          refine wl_yield (o := ⟨_, _, _, _, _, _⟩) (.bool true) (yl_pickT (by rfl) _ _ _ rfl rfl _ rfl) ?_
          simp only [Act.put, List.setIfInBounds_toArray, List.set_cons_zero, List.set_cons_succ]
          refine wpList_nil ?_
          refine hK10 _ _ ?_
          clear hK10 K10
          refine wp_cond_true rfl ?_
          refine wp_seq_k (fun K11 hK11 => ?_)
          refine wp_region_lit ?_
          refine wl_yield (o := ⟨_, _, _, _, _, _⟩) (.bool false) (yl_assign (by rfl) _ rfl _ rfl) ?_
          simp only [Act.put, List.setIfInBounds_toArray, List.set_cons_zero, List.set_cons_succ]
          refine wpList_nil ?_
          refine hK11 _ _ ?_
          clear hK11 K11
          refine wp_ret ?_
          go_ret
          exact ⟨by unfold rightF; rw [show l.all (fun b => smallBx b && rightBx b) = false from List.all_eq_false.2 ⟨_, getB_mem hkl, by rw [hq1]; simp⟩, Bool.false_and, Bool.and_false]; rfl, D⟩
        · refine ⟨.bool true, rfl, ?_⟩
          simp only [Act.put, List.setIfInBounds_toArray, List.set_cons_zero, List.set_cons_succ]
          refine wl_yield (o := ⟨_, _, _, _, _, _⟩) (.bool false) (yl_not (by rfl) _ _ rfl true rfl) ?_
          simp only [Act.put, List.setIfInBounds_toArray, List.set_cons_zero, List.set_cons_succ]
          refine wl_yield (o := ⟨_, _, _, _, _, _⟩) (.bool false) (yl_move (by rfl) _ rfl _ rfl) ?_
          simp only [Act.put, List.setIfInBounds_toArray, List.set_cons_zero, List.set_cons_succ]
          refine wl_yield (o := ⟨_, _, _, _, _, _⟩) (BxC.val (cs.getD k bc0)) (yl_bx (by rfl) _ rfl _ _ rfl _ (fun _ h => by subst h; exact BcIn.at IO4)) ?_
          simp only [Act.put, List.setIfInBounds_toArray, List.set_cons_zero, List.set_cons_succ]
          refine wl_call (o := ⟨_, _, _, _, _, _⟩) (by rfl) 53 _ _ rfl #[BxC.val (cs.getD k bc0)] rfl (run_call Tryz.func53 (by kernel_rfl) (by kernel_rfl)) ?_
          refine (boxRight_any (cs.getD k bc0) (l.getD k zBox) _ (hb.on D)).mono ?_
          rintro r v3 ⟨rfl, kb⟩
          replace D := D.trans (kb.mono D.size)
          replace IO4 := IO4.on kb
          clear kb
          cases hq2 : rightBx (l.getD k zBox)
          · refine ⟨.bool false, rfl, ?_⟩
            simp only [Act.put, List.setIfInBounds_toArray, List.set_cons_zero, List.set_cons_succ]
            refine wl_yield (o := ⟨_, _, _, _, _, _⟩) (.bool true) (yl_not (by rfl) _ _ rfl false rfl) ?_
            simp only [Act.put, List.setIfInBounds_toArray, List.set_cons_zero, List.set_cons_succ]
            refine wl_yield (o := ⟨_, _, _, _, _, _⟩) (.bool true) (yl_pickF (by rfl) _ _ _ rfl rfl _ rfl) ?_
            simp only [Act.put, List.setIfInBounds_toArray, List.set_cons_zero, List.set_cons_succ]
            refine wpList_nil ?_
            refine hK10 _ _ ?_
            clear hK10 K10
            refine wp_cond_true rfl ?_
            refine wp_seq_k (fun K11 hK11 => ?_)
            refine wp_region_lit ?_
            refine wl_yield (o := ⟨_, _, _, _, _, _⟩) (.bool false) (yl_assign (by rfl) _ rfl _ rfl) ?_
            simp only [Act.put, List.setIfInBounds_toArray, List.set_cons_zero, List.set_cons_succ]
            refine wpList_nil ?_
            refine hK11 _ _ ?_
            clear hK11 K11
            refine wp_ret ?_
            go_ret
            exact ⟨by unfold rightF; rw [show l.all (fun b => smallBx b && rightBx b) = false from List.all_eq_false.2 ⟨_, getB_mem hkl, by rw [hq1, hq2]; simp⟩, Bool.false_and, Bool.and_false]; rfl, D⟩
          · refine ⟨.bool true, rfl, ?_⟩
            simp only [Act.put, List.setIfInBounds_toArray, List.set_cons_zero, List.set_cons_succ]
            refine wl_yield (o := ⟨_, _, _, _, _, _⟩) (.bool false) (yl_not (by rfl) _ _ rfl true rfl) ?_
            simp only [Act.put, List.setIfInBounds_toArray, List.set_cons_zero, List.set_cons_succ]
            refine wl_yield (o := ⟨_, _, _, _, _, _⟩) (.bool false) (yl_pickF (by rfl) _ _ _ rfl rfl _ rfl) ?_
            simp only [Act.put, List.setIfInBounds_toArray, List.set_cons_zero, List.set_cons_succ]
            refine wpList_nil ?_
            refine hK10 _ _ ?_
            clear hK10 K10
            refine wp_cond_false rfl ?_
            refine wp_skip ?_
            refine hK8 _ _ ?_
            clear hK8 K8
            refine wp_region_lit ?_
            refine wl_yield (o := ⟨_, _, _, _, _, _⟩) (.int .i64 (k + 1 : Nat)) (yl_addI (by rfl) _ _ _ rfl (((k : Nat) : Int)) (1) (((k + 1 : Nat) : Int)) rfl rfl (by omega) (by omega) (by omega)) ?_
            simp only [Act.put, List.setIfInBounds_toArray, List.set_cons_zero, List.set_cons_succ]
            refine wl_yield (o := ⟨_, _, _, _, _, _⟩) (.int .i64 (k + 1 : Nat)) (yl_move (by rfl) _ rfl _ rfl) ?_
            simp only [Act.put, List.setIfInBounds_toArray, List.set_cons_zero, List.set_cons_succ]
            refine wpList_nil ?_
            show _ ∧ _
            go_roundw
            case rel => exact ⟨k + 1, rfl, by omega, fun j hj => by
              rcases Nat.lt_succ_iff_lt_or_eq.1 hj with h | rfl
              · exact hF j h
              · rw [hq1, hq2]; rfl, D⟩
            case measure => simp [intOf]; omega
      · have hall : ∀ b ∈ l, (smallBx b && rightBx b) = true := fun b hb => by
          obtain ⟨i, hi, rfl⟩ := List.getElem_of_mem hb
          have := hF i (by omega)
          rwa [List.getD_eq_getElem?_getD, List.getElem?_eq_getElem hi] at this
        have fl : FitL l := fun b hb => by
          have h := hall b hb
          rw [Bool.and_eq_true] at h
          obtain ⟨i, hi, rfl⟩ := List.getElem_of_mem hb
          have hbx := ha.2 i hi
          rw [List.getD_eq_getElem?_getD, List.getD_eq_getElem?_getD, List.getElem?_eq_getElem hi] at hbx
          exact fit_small hbx h.1 h.2
        refine wp_seq_k (fun K6 hK6 => ?_)
        refine wp_region_lit ?_
        refine wl_yield (o := ⟨_, _, _, _, _, _⟩) (.bool false) (yl_lssI (by rfl) _ _ _ rfl (((k : Nat) : Int)) (((cs.length : Nat) : Int)) false rfl rfl (decide_eq_false (by omega))) ?_
        simp only [Act.put, List.setIfInBounds_toArray, List.set_cons_zero, List.set_cons_succ]
        refine wpList_nil ?_
        refine hK6 _ _ ?_
        clear hK6 K6
        refine wp_seq_k (fun K7 hK7 => ?_)
        refine wp_cond_false rfl ?_
        refine wp_exit ?_
        refine hK4 _ _ ?_
        clear hK7 K7 hK4 K4
        refine wp_seq_k (fun K8 hK8 => ?_)
        refine wp_region_lit ?_
        refine wl_yield (o := ⟨_, _, _, _, _, _⟩) (.slice q cs.length cp) (yl_move (by rfl) _ rfl _ rfl) ?_
        simp only [Act.put, List.setIfInBounds_toArray, List.set_cons_zero, List.set_cons_succ]
        refine wl_call (o := ⟨_, _, _, _, _, _⟩) (by rfl) 47 _ _ rfl #[.slice q cs.length cp] rfl (run_call Tryz.func47 (by kernel_rfl) (by kernel_rfl)) ?_
        refine (tidied_any _ l _ (⟨cs, hr.on D, ha.on D⟩) fl (by omega)).mono ?_
        rintro r v1 ⟨⟨u1, ks, rfl, hO, hA⟩, kb⟩
        replace D := D.trans (kb.mono D.size)
        clear kb
        obtain ⟨q1, c1, rfl⟩ := hO.sl
        refine ⟨.slice q1 ks.length c1, rfl, ?_⟩
        simp only [Act.put, List.setIfInBounds_toArray, List.set_cons_zero, List.set_cons_succ]
        refine wl_yield (o := ⟨_, _, _, _, _, _⟩) (.int .i64 (ks.length : Nat)) (yl_lenB (by rfl) _ rfl _ _ _ rfl) ?_
        simp only [Act.put, List.setIfInBounds_toArray, List.set_cons_zero, List.set_cons_succ]
        refine wl_yield (o := ⟨_, _, _, _, _, _⟩) (.slice q cs.length cp) (yl_move (by rfl) _ rfl _ rfl) ?_
        simp only [Act.put, List.setIfInBounds_toArray, List.set_cons_zero, List.set_cons_succ]
        refine wl_yield (o := ⟨_, _, _, _, _, _⟩) (.int .i64 (cs.length : Nat)) (yl_lenF (by rfl) _ rfl _ _ _ rfl) ?_
        simp only [Act.put, List.setIfInBounds_toArray, List.set_cons_zero, List.set_cons_succ]
        refine wl_yield (o := ⟨_, _, _, _, _, _⟩) (.bool (decide (ks.length = cs.length))) (yl_eqlI (by rfl) _ _ _ rfl (((ks.length : Nat) : Int)) (((cs.length : Nat) : Int)) (decide (ks.length = cs.length)) rfl rfl (by rw [decide_eq_decide]; omega)) ?_
        simp only [Act.put, List.setIfInBounds_toArray, List.set_cons_zero, List.set_cons_succ]
        refine wl_yield (o := ⟨_, _, _, _, _, _⟩) (.bool (decide (ks.length = cs.length))) (yl_assign (by rfl) _ rfl _ rfl) ?_
        simp only [Act.put, List.setIfInBounds_toArray, List.set_cons_zero, List.set_cons_succ]
        refine wpList_nil ?_
        refine hK8 _ _ ?_
        clear hK8 K8
        refine wp_ret ?_
        go_ret
        exact ⟨by unfold rightF; rw [decide_eq_true (show l.length ≤ 4 by omega), List.all_eq_true.2 hall, ← hA.1, ← ha.1]; rfl, D⟩
end Go.Proofs.YtlfhpocfacaaeaaGreat
/-
  The program's product and sum.
-/
set_option linter.unusedSimpArgs false
set_option linter.unusedVariables false
namespace Go.Proofs.YtlfhpocfacaaeaaGreat
open Go.RowKit

set_option maxHeartbeats 4000000 in
set_option maxRecDepth 100000 in
theorem product_any (v u0 : Value) (l m : List BoxV) (w : World) (hv : Bxs w v l) (hu : Bxs w u0 m) (fl : FitL l) (fm : FitL m) (hlm : l.length * m.length ≤ 1000) :
    Calls Tryz.prog 67 #[v, u0] w fun r w' => (∃ u ks B, r = .returned u ∧ OwnB w' B u ks ∧ AllBx w' ks (prodL l m)) ∧ Below w.heap.size w w' := by
  obtain ⟨cs, h1, ha⟩ := hv
  obtain ⟨ds, h2, hb⟩ := hu
  have hbig := h1.1
  have hbig2 := h2.1
  have hcl := ha.1
  have hdl := hb.1
  obtain ⟨N, hN⟩ : ∃ N, cs.length * ds.length = N := ⟨_, rfl⟩
  have hN1 : N ≤ 1000 := by rw [← hN, hcl, hdl]; exact hlm
  obtain ⟨q1, p1, rfl⟩ := h1.form
  obtain ⟨q2, p2, rfl⟩ := h2.form
  have D := Below.refl w.heap.size w
  go_enter Tryz.func67, Tryz.ntmps67
  refine wp_seq_k (fun K1 hK1 => ?_)
  refine wp_region_lit ?_
  refine wl_yield (o := ⟨_, _, _, _, _, _⟩) (.slice none 0 0) (yl_assign (by rfl) _ rfl _ rfl) ?_
  simp only [Act.put, List.setIfInBounds_toArray, List.set_cons_zero, List.set_cons_succ]
  refine wpList_nil ?_
  refine hK1 _ _ ?_
  clear hK1 K1
  refine wp_seq_k (fun K2 hK2 => ?_)
  refine wp_region_lit ?_
  refine wl_yield (o := ⟨_, _, _, _, _, _⟩) (.slice q1 cs.length p1) (yl_move (by rfl) _ rfl _ rfl) ?_
  simp only [Act.put, List.setIfInBounds_toArray, List.set_cons_zero, List.set_cons_succ]
  refine wl_yield (o := ⟨_, _, _, _, _, _⟩) (.int .i64 (cs.length : Nat)) (yl_lenB (by rfl) _ rfl _ _ _ rfl) ?_
  simp only [Act.put, List.setIfInBounds_toArray, List.set_cons_zero, List.set_cons_succ]
  refine wl_yield (o := ⟨_, _, _, _, _, _⟩) (.slice q2 ds.length p2) (yl_move (by rfl) _ rfl _ rfl) ?_
  simp only [Act.put, List.setIfInBounds_toArray, List.set_cons_zero, List.set_cons_succ]
  refine wl_yield (o := ⟨_, _, _, _, _, _⟩) (.int .i64 (ds.length : Nat)) (yl_lenB (by rfl) _ rfl _ _ _ rfl) ?_
  simp only [Act.put, List.setIfInBounds_toArray, List.set_cons_zero, List.set_cons_succ]
  refine wl_yield (o := ⟨_, _, _, _, _, _⟩) (.int .i64 (N : Nat)) (yl_mulI (by rfl) _ _ _ rfl (((cs.length : Nat) : Int)) (((ds.length : Nat) : Int)) ((N : Nat) : Int) rfl rfl (by rw [← hN]; exact (Int.natCast_mul _ _).symm) (by omega) (by omega)) ?_
  simp only [Act.put, List.setIfInBounds_toArray, List.set_cons_zero, List.set_cons_succ]
  refine wl_makeC (o := ⟨_, _, _, _, _, _⟩) (by rfl) _ _ rfl rfl N rfl (by omega) (fun u v1 hown kb => ?_)
  simp only [Act.put, List.setIfInBounds_toArray, List.set_cons_zero, List.set_cons_succ]
  replace D := D.trans (kb.mono D.size)
  clear kb
  refine wl_yield (o := ⟨_, _, _, _, _, _⟩) (u) (yl_assign (by rfl) _ rfl _ rfl) ?_
  simp only [Act.put, List.setIfInBounds_toArray, List.set_cons_zero, List.set_cons_succ]
  refine wpList_nil ?_
  refine hK2 _ _ ?_
  clear hK2 K2
  refine wp_seq_k (fun K3 hK3 => ?_)
  refine wp_seq_k (fun K4 hK4 => ?_)
  refine wp_region_lit ?_
  refine wl_yield (o := ⟨_, _, _, _, _, _⟩) (.slice q1 cs.length p1) (yl_move (by rfl) _ rfl _ rfl) ?_
  simp only [Act.put, List.setIfInBounds_toArray, List.set_cons_zero, List.set_cons_succ]
  refine wl_yield (o := ⟨_, _, _, _, _, _⟩) (.int .i64 (cs.length : Nat)) (yl_lenB (by rfl) _ rfl _ _ _ rfl) ?_
  simp only [Act.put, List.setIfInBounds_toArray, List.set_cons_zero, List.set_cons_succ]
  refine wl_yield (o := ⟨_, _, _, _, _, _⟩) (.int .i64 0) (yl_move (by rfl) _ rfl _ rfl) ?_
  simp only [Act.put, List.setIfInBounds_toArray, List.set_cons_zero, List.set_cons_succ]
  refine wpList_nil ?_
  refine hK4 _ _ ?_
  clear hK4 K4
  refine wp_block ?_
  go_loopw [5, 18] (fun u i wr => ∃ (k : Nat) (ks : List BxC), i = .int .i64 k ∧ k ≤ cs.length ∧ OwnC wr w.heap.size u ks ∧ ks.length = k * ds.length ∧ AllBx wr ks (prodL (l.take k) m) ∧ Below w.heap.size w wr) (fun _ i _ => cs.length - (intOf i).toNat)
  case atStart => exact ⟨0, [], rfl, by omega, hown, by simp, ⟨by simp [prodL], fun i h => by simp [prodL] at h⟩, D⟩
  case round =>
    clear D hown
    obtain ⟨k, ks, rfl, hk, hown, hkl, hA, D⟩ := hrel
    by_cases hlt : k < cs.length
    · have hkL : k < l.length := by rw [← ha.1]; exact hlt
      obtain ⟨g1, o1, rfl, HC⟩ := (h1.on D).at.2 k hlt
      have hb1 := ha.2 k hkL
      have hownR := hown
      refine wp_seq_k (fun K5 hK5 => ?_)
      refine wp_region_lit ?_
      refine wl_yield (o := ⟨_, _, _, _, _, _⟩) (.bool true) (yl_lssI (by rfl) _ _ _ rfl (((k : Nat) : Int)) (((cs.length : Nat) : Int)) true rfl rfl (decide_eq_true (by omega))) ?_
      simp only [Act.put, List.setIfInBounds_toArray, List.set_cons_zero, List.set_cons_succ]
      refine wpList_nil ?_
      refine hK5 _ _ ?_
      clear hK5 K5
      refine wp_seq_k (fun K6 hK6 => ?_)
      refine wp_cond_true rfl ?_
      refine wp_skip ?_
      refine hK6 _ _ ?_
      clear hK6 K6
      refine wp_seq_k (fun K7 hK7 => ?_)
      refine wp_block ?_
      refine wp_seq_k (fun K8 hK8 => ?_)
      refine wp_region_lit ?_
      refine wl_yield (o := ⟨_, _, _, _, _, _⟩) (.pointer (some ⟨g1, o1 + k * 16, none⟩)) (yl_bxAt (by rfl) _ _ rfl g1 (o1) _ _ (k) rfl rfl (hlt)) ?_
      simp only [Act.put, List.setIfInBounds_toArray, List.set_cons_zero, List.set_cons_succ]
      refine wl_yield (o := ⟨_, _, _, _, _, _⟩) (BxC.val (cs.getD k bc0)) (yl_bx (by rfl) _ rfl _ _ rfl _ (fun _ h => by subst h; exact HC)) ?_
      simp only [Act.put, List.setIfInBounds_toArray, List.set_cons_zero, List.set_cons_succ]
      refine wl_newB (o := ⟨_, _, _, _, _, _⟩) (o2 := ⟨_, _, _, _, _, _⟩) (by rfl) rfl _ _ rfl rfl (fun _ => rfl) (fun _ => rfl) (fun v2 gb2 hggb2 H7 kb => ?_)
      simp only [Act.put, List.setIfInBounds_toArray, List.set_cons_zero, List.set_cons_succ]
      replace D := D.trans (kb.mono D.size)
      replace hown := hown.on kb
      replace hA := hA.on kb
      clear kb
      refine wpList_nil ?_
      refine hK8 _ _ ?_
      clear hK8 K8
      refine wp_seq_k (fun K9 hK9 => ?_)
      refine wp_region_lit ?_
      refine wl_yield (o := ⟨_, _, _, _, _, _⟩) (.slice q2 ds.length p2) (yl_move (by rfl) _ rfl _ rfl) ?_
      simp only [Act.put, List.setIfInBounds_toArray, List.set_cons_zero, List.set_cons_succ]
      refine wl_yield (o := ⟨_, _, _, _, _, _⟩) (.int .i64 (ds.length : Nat)) (yl_lenB (by rfl) _ rfl _ _ _ rfl) ?_
      simp only [Act.put, List.setIfInBounds_toArray, List.set_cons_zero, List.set_cons_succ]
      refine wl_yield (o := ⟨_, _, _, _, _, _⟩) (.int .i64 0) (yl_move (by rfl) _ rfl _ rfl) ?_
      simp only [Act.put, List.setIfInBounds_toArray, List.set_cons_zero, List.set_cons_succ]
      refine wpList_nil ?_
      refine hK9 _ _ ?_
      clear hK9 K9
      refine wp_block ?_
      have hne := hownR.own.ne hggb2
      go_loopw [5, 24] (fun u i wr => ∃ (j : Nat) (ks' : List BxC), i = .int .i64 j ∧ j ≤ ds.length ∧ OwnC wr w.heap.size u ks' ∧ ks'.length = k * ds.length + j ∧ AllBx wr ks' (prodL (l.take k) m ++ (m.take j).map fun b => andBx (l.getD k zBox) b) ∧ BcIn wr gb2 (cs.getD k bc0) ∧ some gb2 ≠ u.ownBlock ∧ Below w.heap.size w wr) (fun _ i _ => ds.length - (intOf i).toNat)
      case atStart => exact ⟨0, ks, rfl, by omega, hown, by omega, by rw [List.take_zero, List.map_nil, List.append_nil]; exact hA, H7, hne, D⟩
      case round =>
        clear D hown hA H7 hne
        obtain ⟨j, ks', rfl, hj, hown, hkl', hA, H7, hne, D⟩ := hrel
        by_cases hlt2 : j < ds.length
        · have hjM : j < m.length := by rw [← hb.1]; exact hlt2
          obtain ⟨g2, o2, rfl, HC2⟩ := (h2.on D).at.2 j hlt2
          have hb2 := hb.2 j hjM
          have hixN := idx_lt hlt hlt2 hN
          refine wp_seq_k (fun K10 hK10 => ?_)
          refine wp_region_lit ?_
          refine wl_yield (o := ⟨_, _, _, _, _, _⟩) (.bool true) (yl_lssI (by rfl) _ _ _ rfl (((j : Nat) : Int)) (((ds.length : Nat) : Int)) true rfl rfl (decide_eq_true (by omega))) ?_
          simp only [Act.put, List.setIfInBounds_toArray, List.set_cons_zero, List.set_cons_succ]
          refine wpList_nil ?_
          refine hK10 _ _ ?_
          clear hK10 K10
          refine wp_seq_k (fun K11 hK11 => ?_)
          refine wp_cond_true rfl ?_
          refine wp_skip ?_
          refine hK11 _ _ ?_
          clear hK11 K11
          refine wp_seq_k (fun K12 hK12 => ?_)
          refine wp_block ?_
          refine wp_seq_k (fun K13 hK13 => ?_)
          refine wp_region_lit ?_
          refine wl_yield (o := ⟨_, _, _, _, _, _⟩) (.pointer (some ⟨g2, o2 + j * 16, none⟩)) (yl_bxAt (by rfl) _ _ rfl g2 (o2) _ _ (j) rfl rfl (hlt2)) ?_
          simp only [Act.put, List.setIfInBounds_toArray, List.set_cons_zero, List.set_cons_succ]
          refine wl_yield (o := ⟨_, _, _, _, _, _⟩) (BxC.val (ds.getD j bc0)) (yl_bx (by rfl) _ rfl _ _ rfl _ (fun _ h => by subst h; exact HC2)) ?_
          simp only [Act.put, List.setIfInBounds_toArray, List.set_cons_zero, List.set_cons_succ]
          refine wl_newB (o := ⟨_, _, _, _, _, _⟩) (o2 := ⟨_, _, _, _, _, _⟩) (by rfl) rfl _ _ rfl rfl (fun _ => rfl) (fun _ => rfl) (fun v3 gb3 hggb3 H9 kb => ?_)
          simp only [Act.put, List.setIfInBounds_toArray, List.set_cons_zero, List.set_cons_succ]
          replace D := D.trans (kb.mono D.size)
          replace hown := hown.on kb
          replace hA := hA.on kb
          replace H7 := H7.on kb
          clear kb
          refine wpList_nil ?_
          refine hK13 _ _ ?_
          clear hK13 K13
          refine wp_region_lit ?_
          refine wl_yield (o := ⟨_, _, _, _, _, _⟩) (u5) (yl_move (by rfl) _ rfl _ rfl) ?_
          simp only [Act.put, List.setIfInBounds_toArray, List.set_cons_zero, List.set_cons_succ]
          refine wl_yield (o := ⟨_, _, _, _, _, _⟩) (BxC.val (cs.getD k bc0)) (yl_bx (by rfl) _ rfl _ _ rfl _ (fun _ h => by subst h; exact BcIn.at H7)) ?_
          simp only [Act.put, List.setIfInBounds_toArray, List.set_cons_zero, List.set_cons_succ]
          refine wl_yield (o := ⟨_, _, _, _, _, _⟩) (BxC.val (ds.getD j bc0)) (yl_bx (by rfl) _ rfl _ _ rfl _ (fun _ h => by subst h; exact BcIn.at H9)) ?_
          simp only [Act.put, List.setIfInBounds_toArray, List.set_cons_zero, List.set_cons_succ]
          refine wl_call (o := ⟨_, _, _, _, _, _⟩) (by rfl) 105 _ _ rfl #[BxC.val (cs.getD k bc0), BxC.val (ds.getD j bc0)] rfl (run_call Tryz.func105 (by kernel_rfl) (by kernel_rfl)) ?_
          refine (boxProg0.and _ _ _ _ _ (hb1.on D) (hb2.on D) (fl _ (getB_mem hkL)) (fm _ (getB_mem hjM))).mono ?_
          rintro r v4 ⟨⟨y1, rfl, hy⟩, kb⟩
          replace D := D.trans (kb.mono D.size)
          replace hown := hown.on kb
          replace hA := hA.on kb
          replace H7 := H7.on kb
          replace H9 := H9.on kb
          clear kb
          obtain ⟨cy, rfl⟩ := hy.bc
          refine ⟨BxC.val cy, rfl, ?_⟩
          simp only [Act.put, List.setIfInBounds_toArray, List.set_cons_zero, List.set_cons_succ]
          refine wl_rowB1 (o := ⟨_, _, _, _, _, _⟩) (by rfl) _ rfl rfl (fun v5 gb5 hggb5 IO32 kb => ?_)
          simp only [Act.put, List.setIfInBounds_toArray, List.set_cons_zero, List.set_cons_succ]
          replace D := D.trans (kb.mono D.size)
          replace hown := hown.on kb
          replace hA := hA.on kb
          replace H7 := H7.on kb
          replace H9 := H9.on kb
          replace hy := hy.on kb
          clear kb
          refine wl_appC (o := ⟨_, _, _, _, _, _⟩) (by rfl) _ _ rfl w.heap.size u5 ks' rfl hown gb5 cy rfl IO32 (by omega) D.size (fun u9 v6 hown9 hA9 hw9 hc9 => ?_)
          simp only [Act.put, List.setIfInBounds_toArray, List.set_cons_zero, List.set_cons_succ]
          have hlt9 := lt_heap H7
          replace H7 : BcIn v6 gb2 (cs.getD k bc0) := (hA9.k _ (lt_heap H7) hne).trans H7
          replace hA := allBx_snoc (hA.carry hc9) (hc9 hy)
          rw [List.append_assoc, ← take_map _ m j zBox hjM] at hA
          replace hne : some gb2 ≠ u9.ownBlock := fun e => by
            rcases hw9 _ e.symm with h | h
            · exact hne h
            · omega
          replace D := D.trans hA9.b
          replace hown := hown9
          clear hown9 hA9 hw9 hc9 hy
          refine wl_yield (o := ⟨_, _, _, _, _, _⟩) (u9) (yl_assign (by rfl) _ rfl _ rfl) ?_
          simp only [Act.put, List.setIfInBounds_toArray, List.set_cons_zero, List.set_cons_succ]
          refine wpList_nil ?_
          refine hK12 _ _ ?_
          clear hK12 K12
          refine wp_region_lit ?_
          refine wl_yield (o := ⟨_, _, _, _, _, _⟩) (.int .i64 (j + 1 : Nat)) (yl_addI (by rfl) _ _ _ rfl (((j : Nat) : Int)) (1) (((j + 1 : Nat) : Int)) rfl rfl (by omega) (by omega) (by omega)) ?_
          simp only [Act.put, List.setIfInBounds_toArray, List.set_cons_zero, List.set_cons_succ]
          refine wl_yield (o := ⟨_, _, _, _, _, _⟩) (.int .i64 (j + 1 : Nat)) (yl_move (by rfl) _ rfl _ rfl) ?_
          simp only [Act.put, List.setIfInBounds_toArray, List.set_cons_zero, List.set_cons_succ]
          refine wpList_nil ?_
          show _ ∧ _
          go_roundw
          case rel => exact ⟨j + 1, _, rfl, by omega, hown, by rw [List.length_append, List.length_singleton, hkl']; omega, hA, H7, hne, D⟩
          case measure => simp [intOf]; omega
        · refine wp_seq_k (fun K10 hK10 => ?_)
          refine wp_region_lit ?_
          refine wl_yield (o := ⟨_, _, _, _, _, _⟩) (.bool false) (yl_lssI (by rfl) _ _ _ rfl (((j : Nat) : Int)) (((ds.length : Nat) : Int)) false rfl rfl (decide_eq_false (by omega))) ?_
          simp only [Act.put, List.setIfInBounds_toArray, List.set_cons_zero, List.set_cons_succ]
          refine wpList_nil ?_
          refine hK10 _ _ ?_
          clear hK10 K10
          refine wp_seq_k (fun K11 hK11 => ?_)
          refine wp_cond_false rfl ?_
          refine wp_exit ?_
          refine hK7 _ _ ?_
          clear hK11 K11 hK7 K7
          refine wp_region_lit ?_
          refine wl_yield (o := ⟨_, _, _, _, _, _⟩) (.int .i64 (k + 1 : Nat)) (yl_addI (by rfl) _ _ _ rfl (((k : Nat) : Int)) (1) (((k + 1 : Nat) : Int)) rfl rfl (by omega) (by omega) (by omega)) ?_
          simp only [Act.put, List.setIfInBounds_toArray, List.set_cons_zero, List.set_cons_succ]
          refine wl_yield (o := ⟨_, _, _, _, _, _⟩) (.int .i64 (k + 1 : Nat)) (yl_move (by rfl) _ rfl _ rfl) ?_
          simp only [Act.put, List.setIfInBounds_toArray, List.set_cons_zero, List.set_cons_succ]
          refine wpList_nil ?_
          show _ ∧ _
          go_roundw
          case rel => exact ⟨k + 1, ks', rfl, by omega, hown, by rw [hkl', Nat.succ_mul]; omega, by rw [prod_take l m k hkL]; rw [show j = m.length by omega, List.take_length] at hA; exact hA, D⟩
          case measure => simp [intOf]; omega
    · refine wp_seq_k (fun K5 hK5 => ?_)
      refine wp_region_lit ?_
      refine wl_yield (o := ⟨_, _, _, _, _, _⟩) (.bool false) (yl_lssI (by rfl) _ _ _ rfl (((k : Nat) : Int)) (((cs.length : Nat) : Int)) false rfl rfl (decide_eq_false (by omega))) ?_
      simp only [Act.put, List.setIfInBounds_toArray, List.set_cons_zero, List.set_cons_succ]
      refine wpList_nil ?_
      refine hK5 _ _ ?_
      clear hK5 K5
      refine wp_seq_k (fun K6 hK6 => ?_)
      refine wp_cond_false rfl ?_
      refine wp_exit ?_
      refine hK3 _ _ ?_
      clear hK6 K6 hK3 K3
      refine wp_seq_k (fun K7 hK7 => ?_)
      refine wp_region_lit ?_
      refine wl_yield (o := ⟨_, _, _, _, _, _⟩) (u5) (yl_move (by rfl) _ rfl _ rfl) ?_
      simp only [Act.put, List.setIfInBounds_toArray, List.set_cons_zero, List.set_cons_succ]
      refine wl_yield (o := ⟨_, _, _, _, _, _⟩) (u5) (yl_assign (by rfl) _ rfl _ rfl) ?_
      simp only [Act.put, List.setIfInBounds_toArray, List.set_cons_zero, List.set_cons_succ]
      refine wpList_nil ?_
      refine hK7 _ _ ?_
      clear hK7 K7
      refine wp_ret ?_
      go_ret
      exact ⟨⟨_, ks, _, rfl, hown.own, by rw [show k = l.length by have := ha.1; omega, List.take_length] at hA; exact hA⟩, D⟩
set_option maxHeartbeats 4000000 in
set_option maxRecDepth 100000 in
theorem sum_any (v u0 : Value) (l m : List BoxV) (w : World) (hv : Bxs w v l) (hu : Bxs w u0 m) (n1 : nilOk v) (n2 : nilOk u0) (hlm : l.length + m.length ≤ 1000) :
    Calls Tryz.prog 68 #[v, u0] w fun r w' => (∃ u ks B, r = .returned u ∧ OwnB w' B u ks ∧ AllBx w' ks (l ++ m)) ∧ Below w.heap.size w w' := by
  obtain ⟨cs, h1, ha⟩ := hv
  obtain ⟨ds, h2, hb⟩ := hu
  have hbig := h1.1
  have hbig2 := h2.1
  have hcl := ha.1
  have hdl := hb.1
  obtain ⟨q1, p1, rfl⟩ := h1.form
  obtain ⟨q2, p2, rfl⟩ := h2.form
  have D := Below.refl w.heap.size w
  go_enter Tryz.func68, Tryz.ntmps68
  refine wp_seq_k (fun K1 hK1 => ?_)
  refine wp_region_lit ?_
  refine wl_yield (o := ⟨_, _, _, _, _, _⟩) (.slice none 0 0) (yl_assign (by rfl) _ rfl _ rfl) ?_
  simp only [Act.put, List.setIfInBounds_toArray, List.set_cons_zero, List.set_cons_succ]
  refine wpList_nil ?_
  refine hK1 _ _ ?_
  clear hK1 K1
  refine wp_seq_k (fun K2 hK2 => ?_)
  refine wp_region_lit ?_
  refine wl_yield (o := ⟨_, _, _, _, _, _⟩) (.slice q1 cs.length p1) (yl_move (by rfl) _ rfl _ rfl) ?_
  simp only [Act.put, List.setIfInBounds_toArray, List.set_cons_zero, List.set_cons_succ]
  refine wl_yield (o := ⟨_, _, _, _, _, _⟩) (.slice q2 ds.length p2) (yl_move (by rfl) _ rfl _ rfl) ?_
  simp only [Act.put, List.setIfInBounds_toArray, List.set_cons_zero, List.set_cons_succ]
  refine wl_rows2 (o := ⟨_, _, _, _, _, _⟩) (by rfl) _ _ rfl rfl rfl (fun v1 gr HR kb => ?_)
  simp only [Act.put, List.setIfInBounds_toArray, List.set_cons_zero, List.set_cons_succ]
  replace D := D.trans (kb.mono D.size)
  clear kb
  refine wl_call (o := ⟨_, _, _, _, _, _⟩) (by rfl) 106 _ _ rfl #[.slice (some ⟨gr, 0, none⟩) 2 2] rfl (run_call Tryz.func106 (by kernel_rfl) (by kernel_rfl)) ?_
  refine (concatB_any gr _ _ cs ds _ HR (h1.on D) (h2.on D) n1 n2 (by omega)).mono ?_
  rintro r v2 ⟨⟨u1, rfl, hO⟩, kb⟩
  replace D := D.trans (kb.mono D.size)
  clear kb
  refine ⟨u1, rfl, ?_⟩
  simp only [Act.put, List.setIfInBounds_toArray, List.set_cons_zero, List.set_cons_succ]
  refine wl_yield (o := ⟨_, _, _, _, _, _⟩) (u1) (yl_assign (by rfl) _ rfl _ rfl) ?_
  simp only [Act.put, List.setIfInBounds_toArray, List.set_cons_zero, List.set_cons_succ]
  refine wpList_nil ?_
  refine hK2 _ _ ?_
  clear hK2 K2
  refine wp_ret ?_
  go_ret
  exact ⟨⟨_, _, _, rfl, hO, (allBx_append ha hb).on D⟩, D⟩
end Go.Proofs.YtlfhpocfacaaeaaGreat
/-
  Steps of regions, of the sixth layer: fields of an expression, rows of expressions, rows of one box made in a region that draws; bounds of what is put together.
-/
set_option linter.unusedSimpArgs false
set_option linter.unusedVariables false
namespace Go.Proofs.YtlfhpocfacaaeaaGreat
open Go.RowKit

section
variable {ops : Array Oper} {Q : Exit → Act → World → Prop} {S : World → Prop} {o : Oper} {a : Act}
theorem yl_exField0 (hw : Region.wanted o (yielded ops a.tmps) = true) (x : Operand) (ho : o.op = .fieldAddr 28 x 0) (g : Nat) (hx : a.eval x = .pointer (some ⟨g, 0, none⟩)) : YieldsIf Tryz.prog ops S o (.pointer (some ⟨g, 0, none⟩)) a :=
  Or.inl ⟨hw, fun w hS => by
    simp only [execOp, ho, hx]
    go_simp⟩
theorem yl_exField1 (hw : Region.wanted o (yielded ops a.tmps) = true) (x : Operand) (ho : o.op = .fieldAddr 28 x 1) (g : Nat) (hx : a.eval x = .pointer (some ⟨g, 0, none⟩)) : YieldsIf Tryz.prog ops S o (.pointer (some ⟨g, 1, none⟩)) a :=
  Or.inl ⟨hw, fun w hS => by
    simp only [execOp, ho, hx]
    go_simp⟩
theorem yl_exField2 (hw : Region.wanted o (yielded ops a.tmps) = true) (x : Operand) (ho : o.op = .fieldAddr 28 x 2) (g : Nat) (hx : a.eval x = .pointer (some ⟨g, 0, none⟩)) : YieldsIf Tryz.prog ops S o (.pointer (some ⟨g, 2, none⟩)) a :=
  Or.inl ⟨hw, fun w hS => by
    simp only [execOp, ho, hx]
    go_simp⟩
theorem yl_intX (hw : Region.wanted o (yielded ops a.tmps) = true) (x : Operand) (ho : o.op = .load 3 x) (g k : Nat) (hx : a.eval x = .pointer (some ⟨g, k, none⟩)) (z : Int) (h : ∀ w, S w → w.cell? ⟨g, k, none⟩ = some (.int .i64 z)) : YieldsIf Tryz.prog ops S o (.int .i64 z) a :=
  Or.inl ⟨hw, fun w hS => by
    have := h w hS
    simp only [execOp, ho, hx]
    go_simp⟩
set_option maxRecDepth 100000 in
theorem yl_exAtO (hw : Region.wanted o (yielded ops a.tmps) = true) (x y : Operand) (ho : o.op = .indexAddr 26 x y) (b off n c i : Nat) (hx : a.eval x = .slice (some ⟨b, off, none⟩) n c) (hy : a.eval y = .int .i64 i) (hi : i < n) : YieldsIf Tryz.prog ops S o (.pointer (some ⟨b, off + i * 7, none⟩)) a :=
  Or.inl ⟨hw, fun w hS => by
    simp only [execOp, ho, hx, hy]
    go_simp⟩
theorem yl_lenE (hw : Region.wanted o (yielded ops a.tmps) = true) (x : Operand) (ho : o.op = .call { callee := .builtin .len, args := #[x], argTypes := #[26] }) (p : Option Addr) (n c : Nat) (hx : a.eval x = .slice p n c) : YieldsIf Tryz.prog ops S o (.int .i64 n) a :=
  Or.inl ⟨hw, fun w hS => by
    unfold execOp
    simp only [ho, resolve, invoke, builtin, Sem.run_bind, Sem.run_pure, Result.andThen_ok, List.map_toArray, List.map_cons, List.map_nil, hx]
    go_simp⟩
theorem op_rowB1 {i : Nat} {w : World} {K : Act → World → Prop} (hi : ops[i]? = some o) (hw : Region.wanted o (yielded ops a.tmps) = true) (x : Operand) (ho : o.op = .buildSlice 31 1 #[(0, x)]) {c : BxC} (hx : a.eval x = c.val)
    (h : ∀ W g, w.heap.size ≤ g → BcIn W g c → Below w.heap.size w W → K (a.put o.dst (.slice (some ⟨g, 0, none⟩) 1 1)) W) : wpOp Tryz.prog ops Q i K a w := by
  unfold wpOp
  simp only [hi]
  rw [if_pos hw]
  refine Or.inl ?_
  unfold Oper.wp
  rw [rn_rowBx1 x ho hx]
  exact h _ _ (Nat.le_refl _) (heap_new _ _) ((Below.refl _ w).alloc (Nat.le_refl _) _)
end
theorem ExIn.c0 {w : World} {g : Nat} {c : EC} (h : ExIn w g c) : w.cell? ⟨g, 0, none⟩ = some (.int .i64 c.k) := h.ec.c0
theorem ExIn.c1 {w : World} {g : Nat} {c : EC} (h : ExIn w g c) : w.cell? ⟨g, 1, none⟩ = some (.int .i64 c.t) := h.ec.c1
theorem ExIn.cs {w : World} {g : Nat} {c : EC} (h : ExIn w g c) : w.cell? ⟨g, 2, none⟩ = some (.bool c.s.a) ∧ w.cell? ⟨g, 2 + 1, none⟩ = some (.slice c.s.p c.s.n c.s.c) ∧ w.cell? ⟨g, 2 + 2, none⟩ = some (.bool c.s.d) ∧ w.cell? ⟨g, 2 + 3, none⟩ = some (.slice c.s.q c.s.m c.s.e) := ⟨h.ec.c2, h.ec.c3, h.ec.c4, h.ec.c5⟩
theorem ExIn.c6 {w : World} {g : Nat} {c : EC} (h : ExIn w g c) : w.cell? ⟨g, 6, none⟩ = some (.slice c.p c.n c.c) := h.ec.c6
theorem ExAt.i64 {w : World} : ∀ (n : Nat) {v : Value} {x : ExV}, ExAt n w v x → i64X n x
  | 0, _, _, _ => trivial
  | n + 1, v, x, ⟨c, hv, hc, hs⟩ => ⟨hc.s.i64, fun y hy => by
    obtain ⟨i, hi, rfl⟩ := List.getElem_of_mem hy
    obtain ⟨g, off, d, hp, hg, hd, hx⟩ := hs i hi
    have := ExAt.i64 n hx
    rwa [List.getD_eq_getElem?_getD, List.getElem?_eq_getElem hi, Option.getD_some] at this⟩
theorem ExAt.rows {w : World} {n : Nat} {c : EC} {x : ExV} (h : ExAt (n + 1) w c.val x) : RowsX n w (.slice c.p c.n c.c) x.sub := by
  obtain ⟨c', hv, hc, hs⟩ := h
  have := ec_inj hv
  subst this
  exact ⟨c.p, c.c, by rw [hc.n], by rw [← hc.n]; exact hc.room, hc.big, fun e => by have := hc.none e; rw [← hc.n]; exact this, hs⟩
theorem ExAt.for {w : World} {n : Nat} {c : EC} {x : ExV} (h : ExAt (n + 1) w c.val x) : EcFor w c x := by
  obtain ⟨c', hv, hc, hs⟩ := h
  have := ec_inj hv
  subst this
  exact hc
theorem Fits.fitL {A : Nat} {l : List BoxV} (h : Fits A l) (hA : A ≤ 39) : FitL l := fun b hb => ⟨(h.f b hb).1, fun i hi => by have := h.i b hb i hi; omega, fun i hi => by have := (h.f b hb).2 i hi; omega⟩
theorem Res.fitL {A : Nat} {l : List BoxV} (h : Res A l) (hA : A ≤ 40) : FitL l := fun b hb => ⟨(h.f b hb).1, fun i hi => by have := h.i b hb i hi; omega, fun i hi => by have := (h.f b hb).2 i hi; omega⟩
theorem FitL.good {l : List BoxV} (h : FitL l) : ∀ c ∈ l, GoodB c := fun c hc => (h c hc).good
theorem sum_take (f : ExV → Nat) (l : List ExV) (k : Nat) (h : k < l.length) : ((l.take (k + 1)).map f).sum = ((l.take k).map f).sum + f (l.getD k noX) := by
  rw [List.take_add_one, List.map_append, List.sum_append, List.getD_eq_getElem?_getD, List.getElem?_eq_getElem h]
  simp
theorem sum_take_le (f : ExV → Nat) (l : List ExV) (k : Nat) : ((l.take k).map f).sum ≤ (l.map f).sum := by
  have := List.take_append_drop k l
  have h2 : (l.map f).sum = ((l.take k ++ l.drop k).map f).sum := by rw [this]
  rw [h2, List.map_append, List.sum_append]
  omega
/-- What is answered of an expression's boxes. -/
def BoxesOk (w : World) (r : Ending) (o : Option (List BoxV)) : Prop := match o with
  | none => r = .returned (.tuple #[.slice none 0 0, .bool false])
  | some l => ∃ u, r = .returned (.tuple #[u, .bool true]) ∧ Bxs w u l ∧ nilOk u
theorem len_join {prod : Bool} {a b : List BoxV} (ha : a.length ≤ 16) (hb : b.length ≤ 16) : (joinL prod a b).length ≤ 1000 := by
  unfold joinL prodL
  cases prod
  · simp only [Bool.false_eq_true, if_false, List.length_append]; omega
  · simp only [if_true]
    have : (a.flatMap fun x => b.map fun y => andBx x y).length ≤ a.length * 16 := flat_len _ 16 a (fun x _ => by rw [List.length_map]; exact hb)
    omega
theorem boxes_len : ∀ (n : Nat) (x : ExV) (neg : Bool) (l : List BoxV), boxesX n x neg = some l → l.length ≤ 16
  | 0, _, _, _, h => by cases h
  | n + 1, x, neg, l, h => by
    have F : ∀ (f : ExV → Option (List BoxV)) (prod : Bool) (ys : List ExV) (out l : List BoxV), out.length ≤ 16 → foldX f prod ys out = some l → l.length ≤ 16 := by
      intro f prod ys
      induction ys with
      | nil => intro out l ho h; unfold foldX at h; cases h; exact ho
      | cons y ys ih =>
        intro out l ho h
        unfold foldX at h
        cases hy : f y with
        | none => rw [hy] at h; cases h
        | some ly =>
          rw [hy] at h
          dsimp only at h
          obtain ⟨nx, hnx⟩ : ∃ nx, nx = if prod = true then prodL out ly else out ++ ly := ⟨_, rfl⟩
          rw [← hnx] at h
          split at h
          · exact ih _ _ (by assumption) h
          · cases h
    unfold boxesX at h
    split at h
    · cases h
      exact Nat.le_trans (tidy_len _) (by simp)
    · split at h
      · exact boxes_len n _ _ l h
      · refine F _ _ _ _ l ?_ h
        split <;> simp
end Go.Proofs.YtlfhpocfacaaeaaGreat
/-
  The program's atomBox, gathered, boxesOf.
-/
set_option linter.unusedSimpArgs false
set_option linter.unusedVariables false
namespace Go.Proofs.YtlfhpocfacaaeaaGreat
open Go.RowKit

theorem atom_with {z attr : Int} {s : SetV} (h0 : 0 ≤ attr) (h3 : attr ≤ 3) (hz : z = attr) : withBx allBx z s = allBx.put attr.toNat s := by
  subst hz
  unfold withBx
  rw [if_pos ⟨h0, by omega⟩]
set_option maxHeartbeats 4000000 in
set_option maxRecDepth 100000 in
theorem atomBox_any (c : EC) (x : ExV) (neg : Bool) (w : World) (hE : EcFor w c x) (h0 : 0 ≤ x.attr) (h3 : x.attr ≤ 3) (hgood : Good x.set) (hi : x.set.ints.length ≤ 6) (hs6 : x.set.strs.length ≤ 6) :
    Calls Tryz.prog 64 #[c.val, .bool neg] w fun r w' => (∃ u, r = .returned u ∧ BoxAt w' u (allBx.put x.attr.toNat (if neg then notV x.set else x.set))) ∧ Below w.heap.size w w' := by
  have hct := hE.t
  have ht0 := hE.t0
  have ht1 := hE.t1
  have hs := hE.s
  have hfn : Fit (notV x.set) := ⟨notV_good hgood, by have := (notV_len x.set hgood).1; omega, by have := (notV_len x.set hgood).2; omega⟩
  have D := Below.refl w.heap.size w
  cases neg
  · go_enter Tryz.func64, Tryz.ntmps64
    refine wp_seq_k (fun K1 hK1 => ?_)
    refine wp_region_lit ?_
    refine wl_boxEx (o := ⟨_, _, _, _, _, _⟩) (by rfl) _ rfl rfl (fun v1 gb1 HX kb => ?_)
    simp only [Act.put, List.setIfInBounds_toArray, List.set_cons_zero, List.set_cons_succ]
    replace D := D.trans (kb.mono D.size)
    clear kb
    refine wl_allocB (o := ⟨_, _, _, _, _, _⟩) (by rfl) rfl (fun v2 gb2 hggb2 IZ kb => ?_)
    simp only [Act.put, List.setIfInBounds_toArray, List.set_cons_zero, List.set_cons_succ]
    have nX : gb1 ≠ gb2 := by have := lt_heap HX; omega
    have gD : w.heap.size ≤ gb2 := by have := D.size; omega
    replace D := D.trans (kb.mono D.size)
    replace HX := HX.on kb
    clear kb
    refine wpList_nil ?_
    refine hK1 _ _ ?_
    clear hK1 K1
    refine wp_seq_k (fun K2 hK2 => ?_)
    refine wp_seq_k (fun K3 hK3 => ?_)
    refine wp_region_lit ?_
    refine wl_yield (o := ⟨_, _, _, _, _, _⟩) (.bool false) (yl_move (by rfl) _ rfl _ rfl) ?_
    simp only [Act.put, List.setIfInBounds_toArray, List.set_cons_zero, List.set_cons_succ]
    refine wpList_nil ?_
    refine hK3 _ _ ?_
    clear hK3 K3
    refine wp_cond_false rfl ?_
    refine wp_skip ?_
    refine hK2 _ _ ?_
    clear hK2 K2
    refine wp_seq_k (fun K4 hK4 => ?_)
    refine wp_region_lit ?_
    refine wl_yield (o := ⟨_, _, _, _, _, _⟩) (.pointer (some ⟨gb1, 1, none⟩)) (yl_exField1 (by rfl) _ rfl _ rfl) ?_
    simp only [Act.put, List.setIfInBounds_toArray, List.set_cons_zero, List.set_cons_succ]
    refine wl_yield (o := ⟨_, _, _, _, _, _⟩) (.int .i64 (c.t)) (yl_intX (by rfl) _ rfl _ 1 rfl _ (fun _ h => by subst h; exact ExIn.c1 HX)) ?_
    simp only [Act.put, List.setIfInBounds_toArray, List.set_cons_zero, List.set_cons_succ]
    refine wl_yield (o := ⟨_, _, _, _, _, _⟩) (.pointer (some ⟨gb1, 2, none⟩)) (yl_exField2 (by rfl) _ rfl _ rfl) ?_
    simp only [Act.put, List.setIfInBounds_toArray, List.set_cons_zero, List.set_cons_succ]
    refine wl_yield (o := ⟨_, _, _, _, _, _⟩) (SC.val c.s) (yl_set (by rfl) _ rfl _ 2 rfl _ _ _ _ (fun _ h => by subst h; exact ExIn.cs HX)) ?_
    simp only [Act.put, List.setIfInBounds_toArray, List.set_cons_zero, List.set_cons_succ]
    refine wl_call (o := ⟨_, _, _, _, _, _⟩) (by rfl) 102 _ _ rfl #[.int .i64 (c.t), SC.val c.s] rfl (run_call Tryz.func102 (by kernel_rfl) (by kernel_rfl)) ?_
    refine (boxProg0.atom c.t _ x.set _ ht0 ht1 (hs.on D) ⟨hgood, by omega, by omega⟩).mono ?_
    rintro r v3 ⟨⟨y1, rfl, hy⟩, kb⟩
    replace D := D.trans (kb.mono D.size)
    replace HX := HX.on kb
    replace IZ := IZ.on kb
    clear kb
    obtain ⟨cy, rfl⟩ := hy.bc
    refine ⟨BxC.val cy, rfl, ?_⟩
    simp only [Act.put, List.setIfInBounds_toArray, List.set_cons_zero, List.set_cons_succ]
    refine wl_putB (o := ⟨_, _, _, _, _, _⟩) rfl _ _ rfl gb2 0 cy rfl rfl IZ.there ?_
    simp only [Act.put, List.setIfInBounds_toArray, List.set_cons_zero, List.set_cons_succ]
    have HR := (bcIn_put (d := cy) IZ).bx
    have ki : In1 v3 (v3.setCells gb2 0 cy.list) gb2 := (put_whole cy.s0 cy.s1 cy.s2 cy.s3 IZ.bx).2
    replace D := ki.below _ _ gD D
    replace hy := ki.boxAt IZ.bx hy
    generalize v3.setCells gb2 0 cy.list = v4 at D HR hy ⊢
    clear ki IZ
    refine wpList_nil ?_
    refine hK4 _ _ ?_
    clear hK4 K4
    refine wp_ret ?_
    rw [atom_with h0 h3 hct] at hy
    exact bodyPost_ret (results_cell_row rfl _ _ gb2 47 _ (0, 0) _ rfl HR Tryz.underlying47 rfl infoBx) rfl ⟨⟨_, rfl, hy⟩, D⟩
  · go_enter Tryz.func64, Tryz.ntmps64
    refine wp_seq_k (fun K1 hK1 => ?_)
    refine wp_region_lit ?_
    refine wl_boxEx (o := ⟨_, _, _, _, _, _⟩) (by rfl) _ rfl rfl (fun v1 gb1 HX kb => ?_)
    simp only [Act.put, List.setIfInBounds_toArray, List.set_cons_zero, List.set_cons_succ]
    replace D := D.trans (kb.mono D.size)
    clear kb
    refine wl_allocB (o := ⟨_, _, _, _, _, _⟩) (by rfl) rfl (fun v2 gb2 hggb2 IZ kb => ?_)
    simp only [Act.put, List.setIfInBounds_toArray, List.set_cons_zero, List.set_cons_succ]
    have nX : gb1 ≠ gb2 := by have := lt_heap HX; omega
    have gD : w.heap.size ≤ gb2 := by have := D.size; omega
    replace D := D.trans (kb.mono D.size)
    replace HX := HX.on kb
    clear kb
    refine wpList_nil ?_
    refine hK1 _ _ ?_
    clear hK1 K1
    refine wp_seq_k (fun K2 hK2 => ?_)
    refine wp_seq_k (fun K3 hK3 => ?_)
    refine wp_region_lit ?_
    refine wl_yield (o := ⟨_, _, _, _, _, _⟩) (.bool true) (yl_move (by rfl) _ rfl _ rfl) ?_
    simp only [Act.put, List.setIfInBounds_toArray, List.set_cons_zero, List.set_cons_succ]
    refine wpList_nil ?_
    refine hK3 _ _ ?_
    clear hK3 K3
    refine wp_cond_true rfl ?_
    refine wp_seq_k (fun K4 hK4 => ?_)
    refine wp_region_held_drew (S := fun w' => ExIn w' gb1 c) (by kernel_rfl) HX (fun hHeld => ?_)
    have kb : Below v2.heap.size v2 v2.drew := (Below.refl _ v2).drew
    replace D := D.trans (kb.mono D.size)
    replace HX := HX.on kb
    replace IZ := IZ.on kb
    clear kb
    generalize v2.drew = v3 at D hHeld HX IZ ⊢
    refine wpAnyH_take (i := 0) (oi := ⟨_, _, _, _, _, _⟩) (v := .pointer (some ⟨gb1, 1, none⟩)) rfl (by kernel_rfl) (by kernel_rfl) (by kernel_rfl) (fun _ _ _ h => h) (yl_exField1 (by rfl) _ rfl _ rfl) (by assumption) ?_
    simp only [Act.put, List.setIfInBounds_toArray, List.set_cons_zero, List.set_cons_succ]
    refine wpAnyH_take (i := 1) (oi := ⟨_, _, _, _, _, _⟩) (v := .int .i64 (c.t)) rfl (by kernel_rfl) (by kernel_rfl) (by kernel_rfl) (fun _ _ _ h => h) (yl_intX (by rfl) _ rfl _ 1 rfl _ (fun _ h => ExIn.c1 h)) (by assumption) ?_
    simp only [Act.put, List.setIfInBounds_toArray, List.set_cons_zero, List.set_cons_succ]
    refine wpAnyH_take (i := 2) (oi := ⟨_, _, _, _, _, _⟩) (v := .pointer (some ⟨gb1, 2, none⟩)) rfl (by kernel_rfl) (by kernel_rfl) (by kernel_rfl) (fun _ _ _ h => h) (yl_exField2 (by rfl) _ rfl _ rfl) (by assumption) ?_
    simp only [Act.put, List.setIfInBounds_toArray, List.set_cons_zero, List.set_cons_succ]
    refine wpAnyH_take (i := 3) (oi := ⟨_, _, _, _, _, _⟩) (v := SC.val c.s) rfl (by kernel_rfl) (by kernel_rfl) (by kernel_rfl) (fun _ _ _ h => h) (yl_set (by rfl) _ rfl _ 2 rfl _ _ _ _ (fun _ h => ExIn.cs h)) (by assumption) ?_
    simp only [Act.put, List.setIfInBounds_toArray, List.set_cons_zero, List.set_cons_succ]
    refine held_call (o := ⟨_, _, _, _, _, _⟩) 4 (by kernel_rfl) rfl (by rfl) 103 _ _ rfl #[SC.val c.s] rfl (run_call Tryz.func103 (by kernel_rfl) (by kernel_rfl)) ?_
    refine (setProg.not _ x.set _ (hs.on D) ⟨hgood, by omega, by omega⟩).mono ?_
    rintro r v4 ⟨⟨u1, rfl, hn⟩, kb⟩
    replace D := D.trans (kb.mono D.size)
    replace HX := HX.on kb
    replace IZ := IZ.on kb
    clear kb
    clear hHeld
    obtain ⟨sn, rfl⟩ := hn.sc
    refine ⟨SC.val sn, rfl, HX, fun hHeld => ?_⟩
    simp only [Act.put, List.setIfInBounds_toArray, List.set_cons_zero, List.set_cons_succ]
    refine held_call (o := ⟨_, _, _, _, _, _⟩) 5 (by kernel_rfl) rfl (by rfl) 102 _ _ rfl #[.int .i64 (c.t), SC.val sn] rfl (run_call Tryz.func102 (by kernel_rfl) (by kernel_rfl)) ?_
    refine (boxProg0.atom c.t _ (notV x.set) _ ht0 ht1 hn hfn).mono ?_
    rintro r v5 ⟨⟨y1, rfl, hy⟩, kb⟩
    replace D := D.trans (kb.mono D.size)
    replace HX := HX.on kb
    replace IZ := IZ.on kb
    replace hn := hn.on kb
    clear kb
    clear hHeld
    obtain ⟨cy, rfl⟩ := hy.bc
    refine ⟨BxC.val cy, rfl, HX, fun hHeld => ?_⟩
    simp only [Act.put, List.setIfInBounds_toArray, List.set_cons_zero, List.set_cons_succ]
    refine wpAnyH_all (rs := [6]) (by kernel_rfl) (by simp) ?_
    intro j hj
    have hj := List.mem_singleton.1 hj
    subst hj
    refine op_storeBx (o := ⟨_, _, _, _, _, _⟩) rfl (by rfl) _ _ rfl rfl rfl (s0 := SC.zero) (s1 := SC.zero) (s2 := SC.zero) (s3 := SC.zero) IZ.bx (fun v6 HR ki => ?_)
    replace D := ki.below _ _ gD D
    clear hHeld
    replace HX : ExIn v6 gb1 c := (ki.other _ nX).trans HX
    replace hy := ki.boxAt IZ.bx hy
    clear ki IZ hn
    have hHeld := HX
    refine ⟨HX, ?_⟩
    simp only [Act.put, List.setIfInBounds_toArray, List.set_cons_zero, List.set_cons_succ]
    refine wpAnyH_done (by kernel_rfl) ?_ _
    clear hHeld
    refine hK4 _ _ ?_
    clear hK4 K4
    refine wp_ret ?_
    rw [atom_with h0 h3 hct] at hy
    simp only [Exit.then]
    exact bodyPost_ret (results_cell_row rfl _ _ gb2 47 _ (0, 0) _ rfl HR Tryz.underlying47 rfl infoBx) rfl ⟨⟨_, rfl, hy⟩, D⟩
end Go.Proofs.YtlfhpocfacaaeaaGreat
/-
  The program's gathered and boxesOf.
-/
set_option linter.unusedSimpArgs false
set_option linter.unusedVariables false
namespace Go.Proofs.YtlfhpocfacaaeaaGreat
open Go.RowKit

/-- What the joining function answers. -/
def JoinsC (fid : Nat) (prod : Bool) : Prop := ∀ (v u : Value) (l m : List BoxV) (w : World), Bxs w v l → Bxs w u m → nilOk v → nilOk u → FitL l → FitL m → l.length ≤ 16 → m.length ≤ 16 →
  Calls Tryz.prog fid #[v, u] w fun r w' => (∃ u' ks B, r = .returned u' ∧ OwnB w' B u' ks ∧ AllBx w' ks (joinL prod l m)) ∧ Below w.heap.size w w'
theorem joins_product : JoinsC 67 true := fun v u l m w h1 h2 _ _ f1 f2 l1 l2 => product_any v u l m w h1 h2 f1 f2 (Nat.le_trans (Nat.mul_le_mul l1 l2) (by omega))
theorem joins_sum : JoinsC 68 false := fun v u l m w h1 h2 n1 n2 _ _ l1 l2 => sum_any v u l m w h1 h2 n1 n2 (by omega)
def BoxesIH (n : Nat) : Prop := ∀ (c : EC) (x : ExV) (neg : Bool) (w : World), ExAt n w c.val x → eachX n x = true → wX n x ≤ 40 → Calls Tryz.prog 35 #[c.val, .bool neg] w fun r w' => BoxesOk w' r (boxesX n x neg) ∧ Below w.heap.size w w'
theorem fold_at {f : ExV → Option (List BoxV)} {prod : Bool} {l : List ExV} {k : Nat} (h : k < l.length) (out : List BoxV) : foldX f prod (l.drop k) out = match f (l.getD k noX) with
    | none => none
    | some ly => if (tidyL (joinL prod out ly)).length ≤ 16 then foldX f prod (l.drop (k + 1)) (tidyL (joinL prod out ly)) else none := by
  rw [drop_getD l k noX h]
  rfl
theorem bxs_own {w : World} {B : Nat} {v : Value} {ks : List BxC} {l : List BoxV} (h : OwnB w B v ks) (ha : AllBx w ks l) (hl : l.length ≤ 1000) : Bxs w v l ∧ nilOk v := ⟨⟨ks, h.row (by rw [ha.1]; omega), ha⟩, h.nilOk⟩
theorem RowsX.at {n : Nat} {w : World} {p : Option Addr} {m c : Nat} {l : List ExV} (h : RowsX n w (.slice p m c) l) (k : Nat) (hk : k < l.length) : ∃ (g off : Nat) (d : EC), p = some ⟨g, off, none⟩ ∧ g < w.heap.size ∧ EcAt w g (off + k * 7) d ∧ ExAt n w d.val (l.getD k noX) := by
  obtain ⟨p', k', e, _, _, _, h⟩ := h
  cases e
  exact h k hk
set_option maxHeartbeats 4000000 in
set_option maxRecDepth 100000 in
theorem gathered_any (n : Nat) (IH : BoxesIH n) (fid : Nat) (hf : ∀ (W : World) (A : Array Value), (callFunc fid A).run Tryz.prog W = .ok (.enter fid A) W) (prod neg : Bool) (HJ : JoinsC fid prod) (sv lv : Value) (subs : List ExV) (l0 : List BoxV) (w : World) (hs : RowsX n w sv subs) (hl : Bxs w lv l0) (hn : nilOk lv) (h1 : l0.length ≤ 1) (hF : Fits 0 l0) (he : ∀ y ∈ subs, eachX n y = true) (hi : ∀ y ∈ subs, i64X n y) (hw : (subs.map (wX n)).sum ≤ 39) :
    Calls Tryz.prog 65 #[lv, .func (.func fid) #[] #[], sv, .bool neg] w fun r w' => BoxesOk w' r (foldX (fun y => boxesX n y neg) prod subs l0) ∧ Below w.heap.size w w' := by
  obtain ⟨q2, c2, rfl, hcap, hcap2, hnone, hel⟩ := hs
  have hs : RowsX n w (.slice q2 subs.length c2) subs := ⟨q2, c2, rfl, hcap, hcap2, hnone, hel⟩
  clear hel
  have D := Below.refl w.heap.size w
  go_enter Tryz.func65, Tryz.ntmps65
  refine wp_seq_k (fun K1 hK1 => ?_)
  refine wp_region_lit ?_
  refine wl_yield (o := ⟨_, _, _, _, _, _⟩) (.slice none 0 0) (yl_assign (by rfl) _ rfl _ rfl) ?_
  simp only [Act.put, List.setIfInBounds_toArray, List.set_cons_zero, List.set_cons_succ]
  refine wl_yield (o := ⟨_, _, _, _, _, _⟩) (.bool false) (yl_assign (by rfl) _ rfl _ rfl) ?_
  simp only [Act.put, List.setIfInBounds_toArray, List.set_cons_zero, List.set_cons_succ]
  refine wpList_nil ?_
  refine hK1 _ _ ?_
  clear hK1 K1
  refine wp_seq_k (fun K2 hK2 => ?_)
  refine wp_seq_k (fun K3 hK3 => ?_)
  refine wp_region_lit ?_
  refine wl_yield (o := ⟨_, _, _, _, _, _⟩) (.slice q2 subs.length c2) (yl_move (by rfl) _ rfl _ rfl) ?_
  simp only [Act.put, List.setIfInBounds_toArray, List.set_cons_zero, List.set_cons_succ]
  refine wl_yield (o := ⟨_, _, _, _, _, _⟩) (.int .i64 (subs.length : Nat)) (yl_lenE (by rfl) _ rfl _ _ _ rfl) ?_
  simp only [Act.put, List.setIfInBounds_toArray, List.set_cons_zero, List.set_cons_succ]
  refine wl_yield (o := ⟨_, _, _, _, _, _⟩) (.int .i64 0) (yl_move (by rfl) _ rfl _ rfl) ?_
  simp only [Act.put, List.setIfInBounds_toArray, List.set_cons_zero, List.set_cons_succ]
  refine wpList_nil ?_
  refine hK3 _ _ ?_
  clear hK3 K3
  refine wp_block ?_
  go_loopw [0, 16] (fun u i wr => ∃ (k : Nat) (lk : List BoxV), i = .int .i64 k ∧ k ≤ subs.length ∧ Bxs wr u lk ∧ nilOk u ∧ lk.length ≤ 16 ∧ Fits ((subs.take k).map (wX n)).sum lk ∧ foldX (fun y => boxesX n y neg) prod (subs.drop k) lk = foldX (fun y => boxesX n y neg) prod subs l0 ∧ Below w.heap.size w wr) (fun _ i _ => subs.length - (intOf i).toNat)
  case atStart => exact ⟨0, l0, rfl, by omega, hl, hn, by omega, hF, rfl, D⟩
  case round =>
    clear D hl
    obtain ⟨k, lk, rfl, hk, hb, hnl, h16, hFk, hfold, D⟩ := hrel
    by_cases hlt : k < subs.length
    · obtain ⟨g, off, d, rfl, hglt, HE, hyv⟩ := (hs.on D).at k hlt
      replace hyv : Xp n wr d (subs.getD k noX) := hyv
      have hmem : subs.getD k noX ∈ subs := getD_mem hlt
      have hsum := sum_take (wX n) subs k hlt
      have hle := sum_take_le (wX n) subs (k + 1)
      have hwy : wX n (subs.getD k noX) ≤ 39 := by omega
      refine wp_seq_k (fun K4 hK4 => ?_)
      refine wp_region_lit ?_
      refine wl_yield (o := ⟨_, _, _, _, _, _⟩) (.bool true) (yl_lssI (by rfl) _ _ _ rfl (((k : Nat) : Int)) (((subs.length : Nat) : Int)) true rfl rfl (decide_eq_true (by omega))) ?_
      simp only [Act.put, List.setIfInBounds_toArray, List.set_cons_zero, List.set_cons_succ]
      refine wpList_nil ?_
      refine hK4 _ _ ?_
      clear hK4 K4
      refine wp_seq_k (fun K5 hK5 => ?_)
      refine wp_cond_true rfl ?_
      refine wp_skip ?_
      refine hK5 _ _ ?_
      clear hK5 K5
      refine wp_seq_k (fun K6 hK6 => ?_)
      refine wp_block ?_
      refine wp_seq_k (fun K7 hK7 => ?_)
      refine wp_region_lit ?_
      refine wl_yield (o := ⟨_, _, _, _, _, _⟩) (.pointer (some ⟨g, off + k * 7, none⟩)) (yl_exAtO (by rfl) _ _ rfl g (off) _ _ (k) rfl rfl (hlt)) ?_
      simp only [Act.put, List.setIfInBounds_toArray, List.set_cons_zero, List.set_cons_succ]
      refine wl_yield (o := ⟨_, _, _, _, _, _⟩) (EC.val d) (yl_ex (by rfl) _ rfl _ _ rfl _ (fun _ h => by subst h; exact HE)) ?_
      simp only [Act.put, List.setIfInBounds_toArray, List.set_cons_zero, List.set_cons_succ]
      refine wl_newEx (o := ⟨_, _, _, _, _, _⟩) (o2 := ⟨_, _, _, _, _, _⟩) (by rfl) rfl _ _ rfl rfl (fun _ => rfl) (fun _ => rfl) (fun v1 gb1 H11 kb => ?_)
      simp only [Act.put, List.setIfInBounds_toArray, List.set_cons_zero, List.set_cons_succ]
      replace D := D.trans (kb.mono D.size)
      replace hb := hb.on kb
      replace hyv := hyv.on kb
      clear kb
      refine wpList_nil ?_
      refine hK7 _ _ ?_
      clear hK7 K7
      refine wp_seq_k (fun K8 hK8 => ?_)
      refine wp_region_lit ?_
      refine wl_yield (o := ⟨_, _, _, _, _, _⟩) (EC.val d) (yl_ex (by rfl) _ rfl _ 0 rfl _ (fun _ h => by subst h; exact ExIn.ec H11)) ?_
      simp only [Act.put, List.setIfInBounds_toArray, List.set_cons_zero, List.set_cons_succ]
      refine wl_yield (o := ⟨_, _, _, _, _, _⟩) (.bool neg) (yl_move (by rfl) _ rfl _ rfl) ?_
      simp only [Act.put, List.setIfInBounds_toArray, List.set_cons_zero, List.set_cons_succ]
      refine wl_call (o := ⟨_, _, _, _, _, _⟩) (by rfl) 35 _ _ rfl #[EC.val d, .bool neg] rfl (run_call Tryz.func35 (by kernel_rfl) (by kernel_rfl)) ?_
      refine (IH d (subs.getD k noX) neg _ hyv (he _ hmem) (by omega)).mono ?_
      rintro r v2 ⟨hr, kb⟩
      replace D := D.trans (kb.mono D.size)
      replace hb := hb.on kb
      replace hyv := hyv.on kb
      replace H11 := H11.on kb
      clear kb
      cases ey : boxesX n (subs.getD k noX) neg
      · rw [ey] at hr
        obtain rfl : r = .returned (.tuple #[.slice none 0 0, .bool false]) := hr
        refine ⟨.tuple #[.slice none 0 0, .bool false], rfl, ?_⟩
        simp only [Act.put, List.setIfInBounds_toArray, List.set_cons_zero, List.set_cons_succ]
        refine wl_yield (o := ⟨_, _, _, _, _, _⟩) (.tuple #[.slice none 0 0, .bool false]) (yl_move (by rfl) _ rfl _ rfl) ?_
        simp only [Act.put, List.setIfInBounds_toArray, List.set_cons_zero, List.set_cons_succ]
        refine wl_yield (o := ⟨_, _, _, _, _, _⟩) (.slice none 0 0) (yl_extract0 (by rfl) _ rfl _ _ rfl) ?_
        simp only [Act.put, List.setIfInBounds_toArray, List.set_cons_zero, List.set_cons_succ]
        refine wl_yield (o := ⟨_, _, _, _, _, _⟩) (.bool false) (yl_extract1 (by rfl) _ rfl _ _ rfl) ?_
        simp only [Act.put, List.setIfInBounds_toArray, List.set_cons_zero, List.set_cons_succ]
        refine wl_yield (o := ⟨_, _, _, _, _, _⟩) (.slice none 0 0) (yl_assign (by rfl) _ rfl _ rfl) ?_
        simp only [Act.put, List.setIfInBounds_toArray, List.set_cons_zero, List.set_cons_succ]
        refine wl_yield (o := ⟨_, _, _, _, _, _⟩) (.bool false) (yl_assign (by rfl) _ rfl _ rfl) ?_
        simp only [Act.put, List.setIfInBounds_toArray, List.set_cons_zero, List.set_cons_succ]
        refine wpList_nil ?_
        refine hK8 _ _ ?_
        clear hK8 K8
        refine wp_seq_k (fun K9 hK9 => ?_)
        refine wp_seq_k (fun K10 hK10 => ?_)
        refine wp_region_lit ?_
        refine wl_yield (o := ⟨_, _, _, _, _, _⟩) (.bool false) (yl_move (by rfl) _ rfl _ rfl) ?_
        simp only [Act.put, List.setIfInBounds_toArray, List.set_cons_zero, List.set_cons_succ]
        refine wl_yield (o := ⟨_, _, _, _, _, _⟩) (.bool true) (yl_not (by rfl) _ _ rfl false rfl) ?_
        simp only [Act.put, List.setIfInBounds_toArray, List.set_cons_zero, List.set_cons_succ]
        refine wpList_nil ?_
        refine hK10 _ _ ?_
        clear hK10 K10
        refine wp_cond_true rfl ?_
        refine wp_seq_k (fun K11 hK11 => ?_)
        refine wp_region_lit ?_
        refine wl_yield (o := ⟨_, _, _, _, _, _⟩) (.slice none 0 0) (yl_assign (by rfl) _ rfl _ rfl) ?_
        simp only [Act.put, List.setIfInBounds_toArray, List.set_cons_zero, List.set_cons_succ]
        refine wl_yield (o := ⟨_, _, _, _, _, _⟩) (.bool false) (yl_assign (by rfl) _ rfl _ rfl) ?_
        simp only [Act.put, List.setIfInBounds_toArray, List.set_cons_zero, List.set_cons_succ]
        refine wpList_nil ?_
        refine hK11 _ _ ?_
        clear hK11 K11
        refine wp_ret ?_
        try simp only [Exit.inBlock, Exit.then]
        refine bodyPost_ret (results_tmp2 rfl _ _ _) rfl ?_
        exact ⟨by rw [← hfold, fold_at hlt, ey]; rfl, D⟩
      · rename_i ly
        rw [ey] at hr
        obtain ⟨u1, rfl, hby, hny⟩ : ∃ u, r = .returned (.tuple #[u, .bool true]) ∧ Bxs _ u ly ∧ nilOk u := hr
        have hRes := boxes_res n _ neg ly (he _ hmem) (hi _ hmem) (by omega) ey
        have hpos := boxes_pos ey
        have hFJ : Fits (((subs.take k).map (wX n)).sum + wX n (subs.getD k noX)) (joinL prod lk ly) := fits_join hFk hRes hpos (by omega)
        have hL16 := boxes_len n _ neg ly ey
        refine ⟨.tuple #[u1, .bool true], rfl, ?_⟩
        simp only [Act.put, List.setIfInBounds_toArray, List.set_cons_zero, List.set_cons_succ]
        refine wl_yield (o := ⟨_, _, _, _, _, _⟩) (.tuple #[u1, .bool true]) (yl_move (by rfl) _ rfl _ rfl) ?_
        simp only [Act.put, List.setIfInBounds_toArray, List.set_cons_zero, List.set_cons_succ]
        refine wl_yield (o := ⟨_, _, _, _, _, _⟩) (u1) (yl_extract0 (by rfl) _ rfl _ _ rfl) ?_
        simp only [Act.put, List.setIfInBounds_toArray, List.set_cons_zero, List.set_cons_succ]
        refine wl_yield (o := ⟨_, _, _, _, _, _⟩) (.bool true) (yl_extract1 (by rfl) _ rfl _ _ rfl) ?_
        simp only [Act.put, List.setIfInBounds_toArray, List.set_cons_zero, List.set_cons_succ]
        refine wl_yield (o := ⟨_, _, _, _, _, _⟩) (u1) (yl_assign (by rfl) _ rfl _ rfl) ?_
        simp only [Act.put, List.setIfInBounds_toArray, List.set_cons_zero, List.set_cons_succ]
        refine wl_yield (o := ⟨_, _, _, _, _, _⟩) (.bool true) (yl_assign (by rfl) _ rfl _ rfl) ?_
        simp only [Act.put, List.setIfInBounds_toArray, List.set_cons_zero, List.set_cons_succ]
        refine wpList_nil ?_
        refine hK8 _ _ ?_
        clear hK8 K8
        refine wp_seq_k (fun K9 hK9 => ?_)
        refine wp_seq_k (fun K10 hK10 => ?_)
        refine wp_region_lit ?_
        refine wl_yield (o := ⟨_, _, _, _, _, _⟩) (.bool true) (yl_move (by rfl) _ rfl _ rfl) ?_
        simp only [Act.put, List.setIfInBounds_toArray, List.set_cons_zero, List.set_cons_succ]
        refine wl_yield (o := ⟨_, _, _, _, _, _⟩) (.bool false) (yl_not (by rfl) _ _ rfl true rfl) ?_
        simp only [Act.put, List.setIfInBounds_toArray, List.set_cons_zero, List.set_cons_succ]
        refine wpList_nil ?_
        refine hK10 _ _ ?_
        clear hK10 K10
        refine wp_cond_false rfl ?_
        refine wp_skip ?_
        refine hK9 _ _ ?_
        clear hK9 K9
        refine wp_seq_k (fun K11 hK11 => ?_)
        refine wp_region_lit ?_
        refine wl_yield (o := ⟨_, _, _, _, _, _⟩) (.func (.func fid) #[] #[]) (yl_move (by rfl) _ rfl _ rfl) ?_
        simp only [Act.put, List.setIfInBounds_toArray, List.set_cons_zero, List.set_cons_succ]
        refine wl_yield (o := ⟨_, _, _, _, _, _⟩) (u0) (yl_move (by rfl) _ rfl _ rfl) ?_
        simp only [Act.put, List.setIfInBounds_toArray, List.set_cons_zero, List.set_cons_succ]
        refine wl_yield (o := ⟨_, _, _, _, _, _⟩) (u1) (yl_move (by rfl) _ rfl _ rfl) ?_
        simp only [Act.put, List.setIfInBounds_toArray, List.set_cons_zero, List.set_cons_succ]
        refine wl_callv (o := ⟨_, _, _, _, _, _⟩) (by rfl) fid _ _ _ rfl #[] rfl #[u0, u1] rfl (hf) ?_
        refine (HJ _ _ lk ly _ hb hby hnl hny (hFk.fitL (by omega)) (hRes.fitL (by omega)) h16 hL16).mono ?_
        rintro r v3 ⟨⟨u2, k2, B2, rfl, hO2, hA2⟩, kb⟩
        replace D := D.trans (kb.mono D.size)
        replace hb := hb.on kb
        replace hyv := hyv.on kb
        replace H11 := H11.on kb
        replace hby := hby.on kb
        clear kb
        have hJL : (joinL prod lk ly).length ≤ 1000 := len_join h16 hL16
        have hb2 := (bxs_own hO2 hA2 hJL).1
        clear hO2 hA2
        refine ⟨u2, rfl, ?_⟩
        simp only [Act.put, List.setIfInBounds_toArray, List.set_cons_zero, List.set_cons_succ]
        refine wl_call (o := ⟨_, _, _, _, _, _⟩) (by rfl) 47 _ _ rfl #[u2] rfl (run_call Tryz.func47 (by kernel_rfl) (by kernel_rfl)) ?_
        refine (tidied_any _ (joinL prod lk ly) _ hb2 (hFJ.fitL (by omega)) hJL).mono ?_
        rintro r v4 ⟨⟨u3, k3, rfl, hO3, hA3⟩, kb⟩
        replace D := D.trans (kb.mono D.size)
        replace hb := hb.on kb
        replace hyv := hyv.on kb
        replace H11 := H11.on kb
        replace hby := hby.on kb
        replace hb2 := hb2.on kb
        clear kb
        rw [tidP_eq (hFJ.fitL (by omega)).good] at hA3
        have hTL : (tidyL (joinL prod lk ly)).length ≤ 1000 := Nat.le_trans (tidy_len _) hJL
        clear hb2
        have hk3 := hA3.1
        obtain ⟨hb2, hn2⟩ := bxs_own hO3 hA3 hTL
        obtain ⟨p3, c3, rfl⟩ := hO3.sl
        clear hO3 hA3
        refine ⟨.slice p3 k3.length c3, rfl, ?_⟩
        simp only [Act.put, List.setIfInBounds_toArray, List.set_cons_zero, List.set_cons_succ]
        refine wl_yield (o := ⟨_, _, _, _, _, _⟩) (.slice p3 k3.length c3) (yl_assign (by rfl) _ rfl _ rfl) ?_
        simp only [Act.put, List.setIfInBounds_toArray, List.set_cons_zero, List.set_cons_succ]
        refine wpList_nil ?_
        refine hK11 _ _ ?_
        clear hK11 K11
        refine wp_seq_k (fun K12 hK12 => ?_)
        refine wp_region_lit ?_
        refine wl_yield (o := ⟨_, _, _, _, _, _⟩) (.slice p3 k3.length c3) (yl_move (by rfl) _ rfl _ rfl) ?_
        simp only [Act.put, List.setIfInBounds_toArray, List.set_cons_zero, List.set_cons_succ]
        refine wl_yield (o := ⟨_, _, _, _, _, _⟩) (.int .i64 (k3.length : Nat)) (yl_lenB (by rfl) _ rfl _ _ _ rfl) ?_
        simp only [Act.put, List.setIfInBounds_toArray, List.set_cons_zero, List.set_cons_succ]
        refine wl_yield (o := ⟨_, _, _, _, _, _⟩) (.bool (decide (16 < k3.length))) (yl_gtrI (by rfl) _ _ _ rfl (((k3.length : Nat) : Int)) (16) (decide (16 < k3.length)) rfl rfl (by rw [decide_eq_decide]; omega)) ?_
        simp only [Act.put, List.setIfInBounds_toArray, List.set_cons_zero, List.set_cons_succ]
        refine wpList_nil ?_
        refine hK12 _ _ ?_
        clear hK12 K12
        refine wp_cond_split (t := (decide (16 < k3.length))) rfl (fun hc => ?_) (fun hc => ?_)
        · have h16' : 16 < k3.length := of_decide_eq_true hc
          refine wp_seq_k (fun K13 hK13 => ?_)
          refine wp_region_lit ?_
          refine wl_yield (o := ⟨_, _, _, _, _, _⟩) (.slice none 0 0) (yl_assign (by rfl) _ rfl _ rfl) ?_
          simp only [Act.put, List.setIfInBounds_toArray, List.set_cons_zero, List.set_cons_succ]
          refine wl_yield (o := ⟨_, _, _, _, _, _⟩) (.bool false) (yl_assign (by rfl) _ rfl _ rfl) ?_
          simp only [Act.put, List.setIfInBounds_toArray, List.set_cons_zero, List.set_cons_succ]
          refine wpList_nil ?_
          refine hK13 _ _ ?_
          clear hK13 K13
          refine wp_ret ?_
          try simp only [Exit.inBlock, Exit.then]
          refine bodyPost_ret (results_tmp2 rfl _ _ _) rfl ?_
          exact ⟨by rw [← hfold, fold_at hlt, ey]; dsimp only; rw [if_neg (by omega)]; rfl, D⟩
        · have h16' : ¬ 16 < k3.length := of_decide_eq_false hc
          refine wp_skip ?_
          refine hK6 _ _ ?_
          clear hK6 K6
          refine wp_region_lit ?_
          refine wl_yield (o := ⟨_, _, _, _, _, _⟩) (.int .i64 (k + 1 : Nat)) (yl_addI (by rfl) _ _ _ rfl (((k : Nat) : Int)) (1) (((k + 1 : Nat) : Int)) rfl rfl (by omega) (by omega) (by omega)) ?_
          simp only [Act.put, List.setIfInBounds_toArray, List.set_cons_zero, List.set_cons_succ]
          refine wl_yield (o := ⟨_, _, _, _, _, _⟩) (.int .i64 (k + 1 : Nat)) (yl_move (by rfl) _ rfl _ rfl) ?_
          simp only [Act.put, List.setIfInBounds_toArray, List.set_cons_zero, List.set_cons_succ]
          refine wpList_nil ?_
          show _ ∧ _
          go_roundw
          case rel => exact ⟨k + 1, tidyL (joinL prod lk ly), rfl, by omega, hb2, hn2, by omega, by rw [sum_take _ _ _ hlt]; exact hFJ.tidy, by rw [← hfold, fold_at hlt, ey]; dsimp only; rw [if_pos (by omega)], D⟩
          case measure => simp [intOf]; omega
    · refine wp_seq_k (fun K4 hK4 => ?_)
      refine wp_region_lit ?_
      refine wl_yield (o := ⟨_, _, _, _, _, _⟩) (.bool false) (yl_lssI (by rfl) _ _ _ rfl (((k : Nat) : Int)) (((subs.length : Nat) : Int)) false rfl rfl (decide_eq_false (by omega))) ?_
      simp only [Act.put, List.setIfInBounds_toArray, List.set_cons_zero, List.set_cons_succ]
      refine wpList_nil ?_
      refine hK4 _ _ ?_
      clear hK4 K4
      refine wp_seq_k (fun K5 hK5 => ?_)
      refine wp_cond_false rfl ?_
      refine wp_exit ?_
      refine hK2 _ _ ?_
      clear hK5 K5 hK2 K2
      refine wp_seq_k (fun K6 hK6 => ?_)
      refine wp_region_lit ?_
      refine wl_yield (o := ⟨_, _, _, _, _, _⟩) (u0) (yl_move (by rfl) _ rfl _ rfl) ?_
      simp only [Act.put, List.setIfInBounds_toArray, List.set_cons_zero, List.set_cons_succ]
      refine wl_yield (o := ⟨_, _, _, _, _, _⟩) (u0) (yl_assign (by rfl) _ rfl _ rfl) ?_
      simp only [Act.put, List.setIfInBounds_toArray, List.set_cons_zero, List.set_cons_succ]
      refine wl_yield (o := ⟨_, _, _, _, _, _⟩) (.bool true) (yl_assign (by rfl) _ rfl _ rfl) ?_
      simp only [Act.put, List.setIfInBounds_toArray, List.set_cons_zero, List.set_cons_succ]
      refine wpList_nil ?_
      refine hK6 _ _ ?_
      clear hK6 K6
      refine wp_ret ?_
      try simp only [Exit.inBlock, Exit.then]
      refine bodyPost_ret (results_tmp2 rfl _ _ _) rfl ?_
      exact ⟨by rw [← hfold, show subs.drop k = [] from List.drop_eq_nil_of_le (by omega)]; exact ⟨_, rfl, hb, hnl⟩, D⟩
end Go.Proofs.YtlfhpocfacaaeaaGreat
/-
  The program's boxesOf and Of.
-/
set_option linter.unusedSimpArgs false
set_option linter.unusedVariables false
namespace Go.Proofs.YtlfhpocfacaaeaaGreat
open Go.RowKit

theorem row_one {w : World} {g : Nat} {c : BxC} (h : BcIn w g c) : BxRow w (.slice (some ⟨g, 0, none⟩) 1 1) [c] :=
  ⟨by simp, _, 1, rfl, fun i hi => ⟨g, 0, rfl, lt_heap h, by
    have e : i = 0 := by simpa using hi
    subst e
    exact h.range⟩⟩
theorem bxs_one {w : World} {g : Nat} {c : BxC} {b : BoxV} (h : BcIn w g c) (hb : BoxAt w c.val b) : Bxs w (.slice (some ⟨g, 0, none⟩) 1 1) [b] :=
  ⟨[c], row_one h, rfl, fun i hi => by
    have e : i = 0 := by simpa using hi
    subst e
    exact hb⟩
theorem bxs_none (w : World) : Bxs w (.slice none 0 0) [] := bxs_nil w
theorem nil_some {g n c : Nat} : nilOk (.slice (some ⟨g, 0, none⟩) n c) := fun _ _ e => by cases e
theorem nil_none : nilOk (.slice none 0 0) := fun _ _ _ => rfl
theorem boxes1 {n : Nat} {x : ExV} {neg : Bool} (h : x.kind = 1) : boxesX (n + 1) x neg = some (tidyL [allBx.put x.attr.toNat (if neg then notV x.set else x.set)]) := by
  show (if x.kind = 1 then _ else _) = _
  rw [if_pos h]
theorem boxes4 {n : Nat} {x : ExV} {neg : Bool} (h : x.kind = 4) : boxesX (n + 1) x neg = boxesX n (x.sub.getD 0 noX) !neg := by
  show (if x.kind = 1 then _ else if x.kind = 4 then _ else _) = _
  rw [if_neg (by omega), if_pos h]
  cases x.sub <;> rfl
theorem boxes23 {n : Nat} {x : ExV} {neg : Bool} (h1 : ¬ x.kind = 1) (h4 : ¬ x.kind = 4) : boxesX (n + 1) x neg = foldX (fun y => boxesX n y neg) (prodX x neg) x.sub (if prodX x neg then [allBx] else []) := by
  show (if x.kind = 1 then _ else if x.kind = 4 then _ else _) = _
  rw [if_neg h1, if_neg h4]
  rfl
set_option maxHeartbeats 4000000 in
set_option maxRecDepth 100000 in
theorem boxesOf_step (n : Nat) (IH : BoxesIH n) (c : EC) (x : ExV) (neg : Bool) (w : World) (hx : ExAt (n + 1) w c.val x) (he : eachX (n + 1) x = true) (hw : wX (n + 1) x ≤ 40) :
    Calls Tryz.prog 35 #[c.val, .bool neg] w fun r w' => BoxesOk w' r (boxesX (n + 1) x neg) ∧ Below w.heap.size w w' := by
  obtain ⟨hnode, hsub⟩ : nodeX x = true ∧ ∀ y ∈ x.sub, eachX n y = true := by
    unfold eachX at he
    rw [Bool.and_eq_true, List.all_eq_true] at he
    exact he
  have hE := hx.for
  have hi := hx.i64
  have hwd : wX (n + 1) x = 1 + (x.sub.map (wX n)).sum := rfl
  have D := Below.refl w.heap.size w
  by_cases k1 : x.kind = 1
  · obtain ⟨hR, _, ha0, ha3, hgood, hn6, hs6⟩ := atom_res (neg := neg) hnode k1 hi.1
    go_enter Tryz.func35, Tryz.ntmps35
    refine wp_seq_k (fun K1 hK1 => ?_)
    refine wp_region_lit ?_
    refine wl_boxEx (o := ⟨_, _, _, _, _, _⟩) (by rfl) _ rfl rfl (fun v1 gb1 HX kb => ?_)
    simp only [Act.put, List.setIfInBounds_toArray, List.set_cons_zero, List.set_cons_succ]
    replace D := D.trans (kb.mono D.size)
    clear kb
    refine wl_yield (o := ⟨_, _, _, _, _, _⟩) (.slice none 0 0) (yl_assign (by rfl) _ rfl _ rfl) ?_
    simp only [Act.put, List.setIfInBounds_toArray, List.set_cons_zero, List.set_cons_succ]
    refine wl_yield (o := ⟨_, _, _, _, _, _⟩) (.bool false) (yl_assign (by rfl) _ rfl _ rfl) ?_
    simp only [Act.put, List.setIfInBounds_toArray, List.set_cons_zero, List.set_cons_succ]
    refine wpList_nil ?_
    refine hK1 _ _ ?_
    clear hK1 K1
    refine wp_seq_k (fun K2 hK2 => ?_)
    refine wp_block ?_
    refine wp_seq_k (fun K3 hK3 => ?_)
    refine wp_region_lit ?_
    refine wl_yield (o := ⟨_, _, _, _, _, _⟩) (.pointer (some ⟨gb1, 0, none⟩)) (yl_exField0 (by rfl) _ rfl _ rfl) ?_
    simp only [Act.put, List.setIfInBounds_toArray, List.set_cons_zero, List.set_cons_succ]
    refine wl_yield (o := ⟨_, _, _, _, _, _⟩) (.int .i64 (c.k)) (yl_intX (by rfl) _ rfl _ 0 rfl _ (fun _ h => by subst h; exact ExIn.c0 HX)) ?_
    simp only [Act.put, List.setIfInBounds_toArray, List.set_cons_zero, List.set_cons_succ]
    refine wl_yield (o := ⟨_, _, _, _, _, _⟩) (.bool true) (yl_eqlI (by rfl) _ _ _ rfl (c.k) (1) true rfl rfl (decide_eq_true (by rw [hE.k]; exact k1))) ?_
    simp only [Act.put, List.setIfInBounds_toArray, List.set_cons_zero, List.set_cons_succ]
    refine wl_yield (o := ⟨_, _, _, _, _, _⟩) (.bool true) (yl_assign (by rfl) _ rfl _ rfl) ?_
    simp only [Act.put, List.setIfInBounds_toArray, List.set_cons_zero, List.set_cons_succ]
    refine wpList_nil ?_
    refine hK3 _ _ ?_
    clear hK3 K3
    refine wp_cond_true rfl ?_
    refine wp_seq_k (fun K4 hK4 => ?_)
    refine wp_region_lit ?_
    refine wl_yield (o := ⟨_, _, _, _, _, _⟩) (EC.val c) (yl_ex (by rfl) _ rfl _ 0 rfl _ (fun _ h => by subst h; exact ExIn.ec HX)) ?_
    simp only [Act.put, List.setIfInBounds_toArray, List.set_cons_zero, List.set_cons_succ]
    refine wl_yield (o := ⟨_, _, _, _, _, _⟩) (.bool neg) (yl_move (by rfl) _ rfl _ rfl) ?_
    simp only [Act.put, List.setIfInBounds_toArray, List.set_cons_zero, List.set_cons_succ]
    refine wl_call (o := ⟨_, _, _, _, _, _⟩) (by rfl) 64 _ _ rfl #[EC.val c, .bool neg] rfl (run_call Tryz.func64 (by kernel_rfl) (by kernel_rfl)) ?_
    refine (atomBox_any c x neg _ (hE.on D) ha0 ha3 hgood hn6 hs6).mono ?_
    rintro r v2 ⟨⟨y1, rfl, hy⟩, kb⟩
    replace D := D.trans (kb.mono D.size)
    replace HX := HX.on kb
    clear kb
    obtain ⟨cy, rfl⟩ := hy.bc
    refine ⟨BxC.val cy, rfl, ?_⟩
    simp only [Act.put, List.setIfInBounds_toArray, List.set_cons_zero, List.set_cons_succ]
    refine wl_rowB1 (o := ⟨_, _, _, _, _, _⟩) (by rfl) _ rfl rfl (fun v3 gb3 hggb3 IO13 kb => ?_)
    simp only [Act.put, List.setIfInBounds_toArray, List.set_cons_zero, List.set_cons_succ]
    replace D := D.trans (kb.mono D.size)
    replace HX := HX.on kb
    replace hy := hy.on kb
    clear kb
    refine wl_call (o := ⟨_, _, _, _, _, _⟩) (by rfl) 47 _ _ rfl #[.slice (some ⟨gb3, 0, none⟩) 1 1] rfl (run_call Tryz.func47 (by kernel_rfl) (by kernel_rfl)) ?_
    refine (tidied_any _ [allBx.put x.attr.toNat (if neg then notV x.set else x.set)] _ (bxs_one IO13 hy) (hR.fitL (by omega)) (by simp)).mono ?_
    rintro r v4 ⟨⟨u3, k3, rfl, hO3, hA3⟩, kb⟩
    replace D := D.trans (kb.mono D.size)
    replace HX := HX.on kb
    replace hy := hy.on kb
    replace IO13 := IO13.on kb
    clear kb
    rw [tidP_eq (hR.fitL (by omega)).good] at hA3
    obtain ⟨hb2, hn2⟩ := bxs_own hO3 hA3 (Nat.le_trans (tidy_len _) (by simp))
    refine ⟨u3, rfl, ?_⟩
    simp only [Act.put, List.setIfInBounds_toArray, List.set_cons_zero, List.set_cons_succ]
    refine wl_yield (o := ⟨_, _, _, _, _, _⟩) (u3) (yl_assign (by rfl) _ rfl _ rfl) ?_
    simp only [Act.put, List.setIfInBounds_toArray, List.set_cons_zero, List.set_cons_succ]
    refine wl_yield (o := ⟨_, _, _, _, _, _⟩) (.bool true) (yl_assign (by rfl) _ rfl _ rfl) ?_
    simp only [Act.put, List.setIfInBounds_toArray, List.set_cons_zero, List.set_cons_succ]
    refine wpList_nil ?_
    refine hK4 _ _ ?_
    clear hK4 K4
    refine wp_ret ?_
    try simp only [Exit.inBlock, Exit.then]
    refine bodyPost_ret (results_tmp2 rfl _ _ _) rfl ?_
    exact ⟨by rw [boxes1 k1]; exact ⟨_, rfl, hb2, hn2⟩, D⟩
  by_cases k4 : x.kind = 4
  · have hlen : x.sub.length = 1 := by
      unfold nodeX at hnode
      rw [if_neg k1, if_pos (by omega), Bool.and_eq_true, decide_eq_true_eq] at hnode
      have := hnode.2 k4
      omega
    have hmem : x.sub.getD 0 noX ∈ x.sub := getD_mem (by omega)
    have hwy := wX_sub (n := n) hmem
    obtain ⟨g, off, d, hp, hglt, HE, hy⟩ := hx.rows.at 0 (by omega)
    have hlt0 : 0 < c.n := by rw [hE.n]; omega
    go_enter Tryz.func35, Tryz.ntmps35
    refine wp_seq_k (fun K1 hK1 => ?_)
    refine wp_region_lit ?_
    refine wl_boxEx (o := ⟨_, _, _, _, _, _⟩) (by rfl) _ rfl rfl (fun v1 gb1 HX kb => ?_)
    simp only [Act.put, List.setIfInBounds_toArray, List.set_cons_zero, List.set_cons_succ]
    replace D := D.trans (kb.mono D.size)
    clear kb
    refine wl_yield (o := ⟨_, _, _, _, _, _⟩) (.slice none 0 0) (yl_assign (by rfl) _ rfl _ rfl) ?_
    simp only [Act.put, List.setIfInBounds_toArray, List.set_cons_zero, List.set_cons_succ]
    refine wl_yield (o := ⟨_, _, _, _, _, _⟩) (.bool false) (yl_assign (by rfl) _ rfl _ rfl) ?_
    simp only [Act.put, List.setIfInBounds_toArray, List.set_cons_zero, List.set_cons_succ]
    refine wpList_nil ?_
    refine hK1 _ _ ?_
    clear hK1 K1
    refine wp_seq_k (fun K2 hK2 => ?_)
    refine wp_block ?_
    refine wp_seq_k (fun K3 hK3 => ?_)
    refine wp_region_lit ?_
    refine wl_yield (o := ⟨_, _, _, _, _, _⟩) (.pointer (some ⟨gb1, 0, none⟩)) (yl_exField0 (by rfl) _ rfl _ rfl) ?_
    simp only [Act.put, List.setIfInBounds_toArray, List.set_cons_zero, List.set_cons_succ]
    refine wl_yield (o := ⟨_, _, _, _, _, _⟩) (.int .i64 (c.k)) (yl_intX (by rfl) _ rfl _ 0 rfl _ (fun _ h => by subst h; exact ExIn.c0 HX)) ?_
    simp only [Act.put, List.setIfInBounds_toArray, List.set_cons_zero, List.set_cons_succ]
    refine wl_yield (o := ⟨_, _, _, _, _, _⟩) (.bool false) (yl_eqlI (by rfl) _ _ _ rfl (c.k) (1) false rfl rfl (decide_eq_false (by rw [hE.k]; exact k1))) ?_
    simp only [Act.put, List.setIfInBounds_toArray, List.set_cons_zero, List.set_cons_succ]
    refine wl_yield (o := ⟨_, _, _, _, _, _⟩) (.bool false) (yl_assign (by rfl) _ rfl _ rfl) ?_
    simp only [Act.put, List.setIfInBounds_toArray, List.set_cons_zero, List.set_cons_succ]
    refine wpList_nil ?_
    refine hK3 _ _ ?_
    clear hK3 K3
    refine wp_cond_false rfl ?_
    refine wp_seq_k (fun K4 hK4 => ?_)
    refine wp_region_lit ?_
    refine wl_yield (o := ⟨_, _, _, _, _, _⟩) (.pointer (some ⟨gb1, 0, none⟩)) (yl_exField0 (by rfl) _ rfl _ rfl) ?_
    simp only [Act.put, List.setIfInBounds_toArray, List.set_cons_zero, List.set_cons_succ]
    refine wl_yield (o := ⟨_, _, _, _, _, _⟩) (.int .i64 (c.k)) (yl_intX (by rfl) _ rfl _ 0 rfl _ (fun _ h => by subst h; exact ExIn.c0 HX)) ?_
    simp only [Act.put, List.setIfInBounds_toArray, List.set_cons_zero, List.set_cons_succ]
    refine wl_yield (o := ⟨_, _, _, _, _, _⟩) (.bool true) (yl_eqlI (by rfl) _ _ _ rfl (c.k) (4) true rfl rfl (decide_eq_true (by rw [hE.k]; exact k4))) ?_
    simp only [Act.put, List.setIfInBounds_toArray, List.set_cons_zero, List.set_cons_succ]
    refine wl_yield (o := ⟨_, _, _, _, _, _⟩) (.bool true) (yl_assign (by rfl) _ rfl _ rfl) ?_
    simp only [Act.put, List.setIfInBounds_toArray, List.set_cons_zero, List.set_cons_succ]
    refine wpList_nil ?_
    refine hK4 _ _ ?_
    clear hK4 K4
    refine wp_cond_true rfl ?_
    refine wp_seq_k (fun K5 hK5 => ?_)
    refine wp_region_lit ?_
    refine wl_yield (o := ⟨_, _, _, _, _, _⟩) (.pointer (some ⟨gb1, 6, none⟩)) (yl_exSub (by rfl) _ rfl _ rfl) ?_
    simp only [Act.put, List.setIfInBounds_toArray, List.set_cons_zero, List.set_cons_succ]
    refine wl_yield (o := ⟨_, _, _, _, _, _⟩) (.slice (some ⟨g, off, none⟩) c.n c.c) (yl_exRow (by rfl) _ rfl _ 6 rfl _ _ _ (fun _ h => by subst h; have := ExIn.c6 HX; rw [hp] at this; exact this)) ?_
    simp only [Act.put, List.setIfInBounds_toArray, List.set_cons_zero, List.set_cons_succ]
    refine wl_yield (o := ⟨_, _, _, _, _, _⟩) (.pointer (some ⟨g, off + 0 * 7, none⟩)) (yl_exAtO (by rfl) _ _ rfl g (off) _ _ (0) rfl rfl (hlt0)) ?_
    simp only [Act.put, List.setIfInBounds_toArray, List.set_cons_zero, List.set_cons_succ]
    refine wl_yield (o := ⟨_, _, _, _, _, _⟩) (EC.val d) (yl_ex (by rfl) _ rfl _ _ rfl _ (fun _ h => by subst h; exact HE.on hglt D)) ?_
    simp only [Act.put, List.setIfInBounds_toArray, List.set_cons_zero, List.set_cons_succ]
    refine wl_yield (o := ⟨_, _, _, _, _, _⟩) (.bool neg) (yl_move (by rfl) _ rfl _ rfl) ?_
    simp only [Act.put, List.setIfInBounds_toArray, List.set_cons_zero, List.set_cons_succ]
    refine wl_yield (o := ⟨_, _, _, _, _, _⟩) (.bool (!neg)) (yl_not (by rfl) _ _ rfl neg rfl) ?_
    simp only [Act.put, List.setIfInBounds_toArray, List.set_cons_zero, List.set_cons_succ]
    refine wl_call (o := ⟨_, _, _, _, _, _⟩) (by rfl) 35 _ _ rfl #[EC.val d, .bool (!neg)] rfl (run_call Tryz.func35 (by kernel_rfl) (by kernel_rfl)) ?_
    refine (IH d (x.sub.getD 0 noX) (!neg) _ (ExAt.on D n hy) (hsub _ hmem) (by omega)).mono ?_
    rintro r v2 ⟨hr, kb⟩
    replace D := D.trans (kb.mono D.size)
    replace HX := HX.on kb
    clear kb
    cases ey : boxesX n (x.sub.getD 0 noX) !neg
    · rw [ey] at hr
      obtain rfl : r = .returned (.tuple #[.slice none 0 0, .bool false]) := hr
      refine ⟨.tuple #[.slice none 0 0, .bool false], rfl, ?_⟩
      simp only [Act.put, List.setIfInBounds_toArray, List.set_cons_zero, List.set_cons_succ]
      refine wl_yield (o := ⟨_, _, _, _, _, _⟩) (.slice none 0 0) (yl_extract0 (by rfl) _ rfl _ _ rfl) ?_
      simp only [Act.put, List.setIfInBounds_toArray, List.set_cons_zero, List.set_cons_succ]
      refine wl_yield (o := ⟨_, _, _, _, _, _⟩) (.bool false) (yl_extract1 (by rfl) _ rfl _ _ rfl) ?_
      simp only [Act.put, List.setIfInBounds_toArray, List.set_cons_zero, List.set_cons_succ]
      refine wl_yield (o := ⟨_, _, _, _, _, _⟩) (.slice none 0 0) (yl_assign (by rfl) _ rfl _ rfl) ?_
      simp only [Act.put, List.setIfInBounds_toArray, List.set_cons_zero, List.set_cons_succ]
      refine wl_yield (o := ⟨_, _, _, _, _, _⟩) (.bool false) (yl_assign (by rfl) _ rfl _ rfl) ?_
      simp only [Act.put, List.setIfInBounds_toArray, List.set_cons_zero, List.set_cons_succ]
      refine wpList_nil ?_
      refine hK5 _ _ ?_
      clear hK5 K5
      refine wp_ret ?_
      try simp only [Exit.inBlock, Exit.then]
      refine bodyPost_ret (results_tmp2 rfl _ _ _) rfl ?_
      exact ⟨by rw [boxes4 k4, ey]; rfl, D⟩
    · rename_i ly
      rw [ey] at hr
      obtain ⟨u1, rfl, hby, hny⟩ : ∃ u, r = .returned (.tuple #[u, .bool true]) ∧ Bxs _ u ly ∧ nilOk u := hr
      refine ⟨.tuple #[u1, .bool true], rfl, ?_⟩
      simp only [Act.put, List.setIfInBounds_toArray, List.set_cons_zero, List.set_cons_succ]
      refine wl_yield (o := ⟨_, _, _, _, _, _⟩) (u1) (yl_extract0 (by rfl) _ rfl _ _ rfl) ?_
      simp only [Act.put, List.setIfInBounds_toArray, List.set_cons_zero, List.set_cons_succ]
      refine wl_yield (o := ⟨_, _, _, _, _, _⟩) (.bool true) (yl_extract1 (by rfl) _ rfl _ _ rfl) ?_
      simp only [Act.put, List.setIfInBounds_toArray, List.set_cons_zero, List.set_cons_succ]
      refine wl_yield (o := ⟨_, _, _, _, _, _⟩) (u1) (yl_assign (by rfl) _ rfl _ rfl) ?_
      simp only [Act.put, List.setIfInBounds_toArray, List.set_cons_zero, List.set_cons_succ]
      refine wl_yield (o := ⟨_, _, _, _, _, _⟩) (.bool true) (yl_assign (by rfl) _ rfl _ rfl) ?_
      simp only [Act.put, List.setIfInBounds_toArray, List.set_cons_zero, List.set_cons_succ]
      refine wpList_nil ?_
      refine hK5 _ _ ?_
      clear hK5 K5
      refine wp_ret ?_
      try simp only [Exit.inBlock, Exit.then]
      refine bodyPost_ret (results_tmp2 rfl _ _ _) rfl ?_
      exact ⟨by rw [boxes4 k4, ey]; exact ⟨_, rfl, hby, hny⟩, D⟩
  have k2 : x.kind = 2 ∨ x.kind = 3 := by
    unfold nodeX at hnode
    rw [if_neg k1] at hnode
    by_cases hq : x.kind = 2 ∨ x.kind = 3 ∨ x.kind = 4
    · omega
    · rw [if_neg hq] at hnode; cases hnode
  rcases k2 with k23 | k23
  · cases neg
    · go_enter Tryz.func35, Tryz.ntmps35
      refine wp_seq_k (fun K1 hK1 => ?_)
      refine wp_region_lit ?_
      refine wl_boxEx (o := ⟨_, _, _, _, _, _⟩) (by rfl) _ rfl rfl (fun v1 gb1 HX kb => ?_)
      simp only [Act.put, List.setIfInBounds_toArray, List.set_cons_zero, List.set_cons_succ]
      replace D := D.trans (kb.mono D.size)
      clear kb
      refine wl_yield (o := ⟨_, _, _, _, _, _⟩) (.slice none 0 0) (yl_assign (by rfl) _ rfl _ rfl) ?_
      simp only [Act.put, List.setIfInBounds_toArray, List.set_cons_zero, List.set_cons_succ]
      refine wl_yield (o := ⟨_, _, _, _, _, _⟩) (.bool false) (yl_assign (by rfl) _ rfl _ rfl) ?_
      simp only [Act.put, List.setIfInBounds_toArray, List.set_cons_zero, List.set_cons_succ]
      refine wpList_nil ?_
      refine hK1 _ _ ?_
      clear hK1 K1
      refine wp_seq_k (fun K2 hK2 => ?_)
      refine wp_block ?_
      refine wp_seq_k (fun K3 hK3 => ?_)
      refine wp_region_lit ?_
      refine wl_yield (o := ⟨_, _, _, _, _, _⟩) (.pointer (some ⟨gb1, 0, none⟩)) (yl_exField0 (by rfl) _ rfl _ rfl) ?_
      simp only [Act.put, List.setIfInBounds_toArray, List.set_cons_zero, List.set_cons_succ]
      refine wl_yield (o := ⟨_, _, _, _, _, _⟩) (.int .i64 (c.k)) (yl_intX (by rfl) _ rfl _ 0 rfl _ (fun _ h => by subst h; exact ExIn.c0 HX)) ?_
      simp only [Act.put, List.setIfInBounds_toArray, List.set_cons_zero, List.set_cons_succ]
      refine wl_yield (o := ⟨_, _, _, _, _, _⟩) (.bool false) (yl_eqlI (by rfl) _ _ _ rfl (c.k) (1) false rfl rfl (decide_eq_false (by rw [hE.k]; exact k1))) ?_
      simp only [Act.put, List.setIfInBounds_toArray, List.set_cons_zero, List.set_cons_succ]
      refine wl_yield (o := ⟨_, _, _, _, _, _⟩) (.bool false) (yl_assign (by rfl) _ rfl _ rfl) ?_
      simp only [Act.put, List.setIfInBounds_toArray, List.set_cons_zero, List.set_cons_succ]
      refine wpList_nil ?_
      refine hK3 _ _ ?_
      clear hK3 K3
      refine wp_cond_false rfl ?_
      refine wp_seq_k (fun K4 hK4 => ?_)
      refine wp_region_lit ?_
      refine wl_yield (o := ⟨_, _, _, _, _, _⟩) (.pointer (some ⟨gb1, 0, none⟩)) (yl_exField0 (by rfl) _ rfl _ rfl) ?_
      simp only [Act.put, List.setIfInBounds_toArray, List.set_cons_zero, List.set_cons_succ]
      refine wl_yield (o := ⟨_, _, _, _, _, _⟩) (.int .i64 (c.k)) (yl_intX (by rfl) _ rfl _ 0 rfl _ (fun _ h => by subst h; exact ExIn.c0 HX)) ?_
      simp only [Act.put, List.setIfInBounds_toArray, List.set_cons_zero, List.set_cons_succ]
      refine wl_yield (o := ⟨_, _, _, _, _, _⟩) (.bool false) (yl_eqlI (by rfl) _ _ _ rfl (c.k) (4) false rfl rfl (decide_eq_false (by rw [hE.k]; exact k4))) ?_
      simp only [Act.put, List.setIfInBounds_toArray, List.set_cons_zero, List.set_cons_succ]
      refine wl_yield (o := ⟨_, _, _, _, _, _⟩) (.bool false) (yl_assign (by rfl) _ rfl _ rfl) ?_
      simp only [Act.put, List.setIfInBounds_toArray, List.set_cons_zero, List.set_cons_succ]
      refine wpList_nil ?_
      refine hK4 _ _ ?_
      clear hK4 K4
      refine wp_cond_false rfl ?_
      refine wp_seq_k (fun K5 hK5 => ?_)
      refine wp_region_lit ?_
      refine wl_yield (o := ⟨_, _, _, _, _, _⟩) (.pointer (some ⟨gb1, 0, none⟩)) (yl_exField0 (by rfl) _ rfl _ rfl) ?_
      simp only [Act.put, List.setIfInBounds_toArray, List.set_cons_zero, List.set_cons_succ]
      refine wl_yield (o := ⟨_, _, _, _, _, _⟩) (.int .i64 (c.k)) (yl_intX (by rfl) _ rfl _ 0 rfl _ (fun _ h => by subst h; exact ExIn.c0 HX)) ?_
      simp only [Act.put, List.setIfInBounds_toArray, List.set_cons_zero, List.set_cons_succ]
      refine wl_yield (o := ⟨_, _, _, _, _, _⟩) (.bool true) (yl_eqlI (by rfl) _ _ _ rfl (c.k) (2) true rfl rfl (decide_eq_true (by rw [hE.k]; exact k23))) ?_
      simp only [Act.put, List.setIfInBounds_toArray, List.set_cons_zero, List.set_cons_succ]
      refine wl_yield (o := ⟨_, _, _, _, _, _⟩) (.bool false) (yl_move (by rfl) _ rfl _ rfl) ?_
      simp only [Act.put, List.setIfInBounds_toArray, List.set_cons_zero, List.set_cons_succ]
      refine wl_yield (o := ⟨_, _, _, _, _, _⟩) (.bool true) (yl_neqB (by rfl) _ _ _ rfl true false rfl rfl) ?_
      simp only [Act.put, List.setIfInBounds_toArray, List.set_cons_zero, List.set_cons_succ]
      refine wl_yield (o := ⟨_, _, _, _, _, _⟩) (.bool true) (yl_assign (by rfl) _ rfl _ rfl) ?_
      simp only [Act.put, List.setIfInBounds_toArray, List.set_cons_zero, List.set_cons_succ]
      refine wpList_nil ?_
      refine hK5 _ _ ?_
      clear hK5 K5
      refine wp_cond_true rfl ?_
      refine wp_seq_k (fun K6 hK6 => ?_)
      refine wp_region_held_drew (S := fun w' => ExIn w' gb1 c) (by kernel_rfl) HX (fun hHeld => ?_)
      have kb : Below v1.heap.size v1 v1.drew := (Below.refl _ v1).drew
      replace D := D.trans (kb.mono D.size)
      replace HX := HX.on kb
      clear kb
      generalize v1.drew = v2 at D hHeld HX ⊢
      refine wpAnyH_take (i := 2) (oi := ⟨_, _, _, _, _, _⟩) (v := .pointer (some ⟨gb1, 6, none⟩)) rfl (by kernel_rfl) (by kernel_rfl) (by kernel_rfl) (fun _ _ _ h => h) (yl_exSub (by rfl) _ rfl _ rfl) (by assumption) ?_
      simp only [Act.put, List.setIfInBounds_toArray, List.set_cons_zero, List.set_cons_succ]
      refine wpAnyH_take (i := 3) (oi := ⟨_, _, _, _, _, _⟩) (v := .slice c.p c.n c.c) rfl (by kernel_rfl) (by kernel_rfl) (by kernel_rfl) (fun _ _ _ h => h) (yl_exRow (by rfl) _ rfl _ 6 rfl _ _ _ (fun _ h => ExIn.c6 h)) (by assumption) ?_
      simp only [Act.put, List.setIfInBounds_toArray, List.set_cons_zero, List.set_cons_succ]
      refine wpAnyH_take (i := 4) (oi := ⟨_, _, _, _, _, _⟩) (v := .bool false) rfl (by kernel_rfl) (by kernel_rfl) (by kernel_rfl) (fun _ _ _ h => h) (yl_move (by rfl) _ rfl _ rfl) (by assumption) ?_
      simp only [Act.put, List.setIfInBounds_toArray, List.set_cons_zero, List.set_cons_succ]
      refine held_call (o := ⟨_, _, _, _, _, _⟩) 0 (by kernel_rfl) rfl (by rfl) 66 _ _ rfl #[] rfl (run_call Tryz.func66 (by kernel_rfl) (by kernel_rfl)) ?_
      refine (boxProg0.all _).mono ?_
      rintro r v3 ⟨⟨y1, rfl, hy⟩, kb⟩
      replace D := D.trans (kb.mono D.size)
      replace HX := HX.on kb
      clear kb
      clear hHeld
      obtain ⟨cy, rfl⟩ := hy.bc
      refine ⟨BxC.val cy, rfl, HX, fun hHeld => ?_⟩
      simp only [Act.put, List.setIfInBounds_toArray, List.set_cons_zero, List.set_cons_succ]
      refine wpAnyH_all (rs := [1]) (by kernel_rfl) (by simp) ?_
      intro j hj
      have hj := List.mem_singleton.1 hj
      subst hj
      refine op_rowB1 (o := ⟨_, _, _, _, _, _⟩) rfl (by rfl) _ rfl rfl (fun v4 gb4 hggb4 HB kb => ?_)
      replace D := D.trans (kb.mono D.size)
      replace HX := HX.on kb
      replace hy := hy.on kb
      clear kb
      clear hHeld
      have hHeld := HX
      refine ⟨HX, ?_⟩
      simp only [Act.put, List.setIfInBounds_toArray, List.set_cons_zero, List.set_cons_succ]
      refine held_call (o := ⟨_, _, _, _, _, _⟩) 5 (by kernel_rfl) rfl (by rfl) 65 _ _ rfl #[.slice (some ⟨gb4, 0, none⟩) 1 1, .func (.func 67) #[] #[], .slice c.p c.n c.c, .bool false] rfl (run_call Tryz.func65 (by kernel_rfl) (by kernel_rfl)) ?_
      refine (gathered_any n IH 67 (run_call Tryz.func67 (by kernel_rfl) (by kernel_rfl)) true false joins_product _ _ x.sub [allBx] _ (hx.rows.on D) (bxs_one HB hy) nil_some (by simp) fits_all hsub (fun y hy => hi.2 y hy) (by omega)).mono ?_
      rintro r v5 ⟨hr, kb⟩
      replace D := D.trans (kb.mono D.size)
      replace HX := HX.on kb
      replace hy := hy.on kb
      replace HB := HB.on kb
      clear kb
      clear hHeld
      cases ey : foldX (fun y => boxesX n y false) true x.sub [allBx]
      · rw [ey] at hr
        obtain rfl : r = .returned (.tuple #[.slice none 0 0, .bool false]) := hr
        refine ⟨.tuple #[.slice none 0 0, .bool false], rfl, HX, fun hHeld => ?_⟩
        simp only [Act.put, List.setIfInBounds_toArray, List.set_cons_zero, List.set_cons_succ]
        refine wpAnyH_take (i := 6) (oi := ⟨_, _, _, _, _, _⟩) (v := .slice none 0 0) rfl (by kernel_rfl) (by kernel_rfl) (by kernel_rfl) (fun _ _ _ h => h) (yl_extract0 (by rfl) _ rfl _ _ rfl) (by assumption) ?_
        simp only [Act.put, List.setIfInBounds_toArray, List.set_cons_zero, List.set_cons_succ]
        refine wpAnyH_take (i := 7) (oi := ⟨_, _, _, _, _, _⟩) (v := .bool false) rfl (by kernel_rfl) (by kernel_rfl) (by kernel_rfl) (fun _ _ _ h => h) (yl_extract1 (by rfl) _ rfl _ _ rfl) (by assumption) ?_
        simp only [Act.put, List.setIfInBounds_toArray, List.set_cons_zero, List.set_cons_succ]
        refine wpAnyH_take (i := 8) (oi := ⟨_, _, _, _, _, _⟩) (v := .slice none 0 0) rfl (by kernel_rfl) (by kernel_rfl) (by kernel_rfl) (fun _ _ _ h => h) (yl_assign (by rfl) _ rfl _ rfl) (by assumption) ?_
        simp only [Act.put, List.setIfInBounds_toArray, List.set_cons_zero, List.set_cons_succ]
        refine wpAnyH_take (i := 9) (oi := ⟨_, _, _, _, _, _⟩) (v := .bool false) rfl (by kernel_rfl) (by kernel_rfl) (by kernel_rfl) (fun _ _ _ h => h) (yl_assign (by rfl) _ rfl _ rfl) (by assumption) ?_
        simp only [Act.put, List.setIfInBounds_toArray, List.set_cons_zero, List.set_cons_succ]
        refine wpAnyH_done (by kernel_rfl) ?_ _
        clear hHeld
        refine hK6 _ _ ?_
        clear hK6 K6
        refine wp_ret ?_
        try simp only [Exit.inBlock, Exit.then]
        refine bodyPost_ret (results_tmp2 rfl _ _ _) rfl ?_
        exact ⟨by rw [boxes23 k1 k4, show prodX x false = true from by unfold prodX; rw [k23]; rfl]; rw [if_pos rfl, ey]; rfl, D⟩
      · rename_i ly
        rw [ey] at hr
        obtain ⟨u1, rfl, hby, hny⟩ : ∃ u, r = .returned (.tuple #[u, .bool true]) ∧ Bxs _ u ly ∧ nilOk u := hr
        refine ⟨.tuple #[u1, .bool true], rfl, HX, fun hHeld => ?_⟩
        simp only [Act.put, List.setIfInBounds_toArray, List.set_cons_zero, List.set_cons_succ]
        refine wpAnyH_take (i := 6) (oi := ⟨_, _, _, _, _, _⟩) (v := u1) rfl (by kernel_rfl) (by kernel_rfl) (by kernel_rfl) (fun _ _ _ h => h) (yl_extract0 (by rfl) _ rfl _ _ rfl) (by assumption) ?_
        simp only [Act.put, List.setIfInBounds_toArray, List.set_cons_zero, List.set_cons_succ]
        refine wpAnyH_take (i := 7) (oi := ⟨_, _, _, _, _, _⟩) (v := .bool true) rfl (by kernel_rfl) (by kernel_rfl) (by kernel_rfl) (fun _ _ _ h => h) (yl_extract1 (by rfl) _ rfl _ _ rfl) (by assumption) ?_
        simp only [Act.put, List.setIfInBounds_toArray, List.set_cons_zero, List.set_cons_succ]
        refine wpAnyH_take (i := 8) (oi := ⟨_, _, _, _, _, _⟩) (v := u1) rfl (by kernel_rfl) (by kernel_rfl) (by kernel_rfl) (fun _ _ _ h => h) (yl_assign (by rfl) _ rfl _ rfl) (by assumption) ?_
        simp only [Act.put, List.setIfInBounds_toArray, List.set_cons_zero, List.set_cons_succ]
        refine wpAnyH_take (i := 9) (oi := ⟨_, _, _, _, _, _⟩) (v := .bool true) rfl (by kernel_rfl) (by kernel_rfl) (by kernel_rfl) (fun _ _ _ h => h) (yl_assign (by rfl) _ rfl _ rfl) (by assumption) ?_
        simp only [Act.put, List.setIfInBounds_toArray, List.set_cons_zero, List.set_cons_succ]
        refine wpAnyH_done (by kernel_rfl) ?_ _
        clear hHeld
        refine hK6 _ _ ?_
        clear hK6 K6
        refine wp_ret ?_
        try simp only [Exit.inBlock, Exit.then]
        refine bodyPost_ret (results_tmp2 rfl _ _ _) rfl ?_
        exact ⟨by rw [boxes23 k1 k4, show prodX x false = true from by unfold prodX; rw [k23]; rfl]; rw [if_pos rfl, ey]; exact ⟨_, rfl, hby, hny⟩, D⟩
    · go_enter Tryz.func35, Tryz.ntmps35
      refine wp_seq_k (fun K1 hK1 => ?_)
      refine wp_region_lit ?_
      refine wl_boxEx (o := ⟨_, _, _, _, _, _⟩) (by rfl) _ rfl rfl (fun v1 gb1 HX kb => ?_)
      simp only [Act.put, List.setIfInBounds_toArray, List.set_cons_zero, List.set_cons_succ]
      replace D := D.trans (kb.mono D.size)
      clear kb
      refine wl_yield (o := ⟨_, _, _, _, _, _⟩) (.slice none 0 0) (yl_assign (by rfl) _ rfl _ rfl) ?_
      simp only [Act.put, List.setIfInBounds_toArray, List.set_cons_zero, List.set_cons_succ]
      refine wl_yield (o := ⟨_, _, _, _, _, _⟩) (.bool false) (yl_assign (by rfl) _ rfl _ rfl) ?_
      simp only [Act.put, List.setIfInBounds_toArray, List.set_cons_zero, List.set_cons_succ]
      refine wpList_nil ?_
      refine hK1 _ _ ?_
      clear hK1 K1
      refine wp_seq_k (fun K2 hK2 => ?_)
      refine wp_block ?_
      refine wp_seq_k (fun K3 hK3 => ?_)
      refine wp_region_lit ?_
      refine wl_yield (o := ⟨_, _, _, _, _, _⟩) (.pointer (some ⟨gb1, 0, none⟩)) (yl_exField0 (by rfl) _ rfl _ rfl) ?_
      simp only [Act.put, List.setIfInBounds_toArray, List.set_cons_zero, List.set_cons_succ]
      refine wl_yield (o := ⟨_, _, _, _, _, _⟩) (.int .i64 (c.k)) (yl_intX (by rfl) _ rfl _ 0 rfl _ (fun _ h => by subst h; exact ExIn.c0 HX)) ?_
      simp only [Act.put, List.setIfInBounds_toArray, List.set_cons_zero, List.set_cons_succ]
      refine wl_yield (o := ⟨_, _, _, _, _, _⟩) (.bool false) (yl_eqlI (by rfl) _ _ _ rfl (c.k) (1) false rfl rfl (decide_eq_false (by rw [hE.k]; exact k1))) ?_
      simp only [Act.put, List.setIfInBounds_toArray, List.set_cons_zero, List.set_cons_succ]
      refine wl_yield (o := ⟨_, _, _, _, _, _⟩) (.bool false) (yl_assign (by rfl) _ rfl _ rfl) ?_
      simp only [Act.put, List.setIfInBounds_toArray, List.set_cons_zero, List.set_cons_succ]
      refine wpList_nil ?_
      refine hK3 _ _ ?_
      clear hK3 K3
      refine wp_cond_false rfl ?_
      refine wp_seq_k (fun K4 hK4 => ?_)
      refine wp_region_lit ?_
      refine wl_yield (o := ⟨_, _, _, _, _, _⟩) (.pointer (some ⟨gb1, 0, none⟩)) (yl_exField0 (by rfl) _ rfl _ rfl) ?_
      simp only [Act.put, List.setIfInBounds_toArray, List.set_cons_zero, List.set_cons_succ]
      refine wl_yield (o := ⟨_, _, _, _, _, _⟩) (.int .i64 (c.k)) (yl_intX (by rfl) _ rfl _ 0 rfl _ (fun _ h => by subst h; exact ExIn.c0 HX)) ?_
      simp only [Act.put, List.setIfInBounds_toArray, List.set_cons_zero, List.set_cons_succ]
      refine wl_yield (o := ⟨_, _, _, _, _, _⟩) (.bool false) (yl_eqlI (by rfl) _ _ _ rfl (c.k) (4) false rfl rfl (decide_eq_false (by rw [hE.k]; exact k4))) ?_
      simp only [Act.put, List.setIfInBounds_toArray, List.set_cons_zero, List.set_cons_succ]
      refine wl_yield (o := ⟨_, _, _, _, _, _⟩) (.bool false) (yl_assign (by rfl) _ rfl _ rfl) ?_
      simp only [Act.put, List.setIfInBounds_toArray, List.set_cons_zero, List.set_cons_succ]
      refine wpList_nil ?_
      refine hK4 _ _ ?_
      clear hK4 K4
      refine wp_cond_false rfl ?_
      refine wp_seq_k (fun K5 hK5 => ?_)
      refine wp_region_lit ?_
      refine wl_yield (o := ⟨_, _, _, _, _, _⟩) (.pointer (some ⟨gb1, 0, none⟩)) (yl_exField0 (by rfl) _ rfl _ rfl) ?_
      simp only [Act.put, List.setIfInBounds_toArray, List.set_cons_zero, List.set_cons_succ]
      refine wl_yield (o := ⟨_, _, _, _, _, _⟩) (.int .i64 (c.k)) (yl_intX (by rfl) _ rfl _ 0 rfl _ (fun _ h => by subst h; exact ExIn.c0 HX)) ?_
      simp only [Act.put, List.setIfInBounds_toArray, List.set_cons_zero, List.set_cons_succ]
      refine wl_yield (o := ⟨_, _, _, _, _, _⟩) (.bool true) (yl_eqlI (by rfl) _ _ _ rfl (c.k) (2) true rfl rfl (decide_eq_true (by rw [hE.k]; exact k23))) ?_
      simp only [Act.put, List.setIfInBounds_toArray, List.set_cons_zero, List.set_cons_succ]
      refine wl_yield (o := ⟨_, _, _, _, _, _⟩) (.bool true) (yl_move (by rfl) _ rfl _ rfl) ?_
      simp only [Act.put, List.setIfInBounds_toArray, List.set_cons_zero, List.set_cons_succ]
      refine wl_yield (o := ⟨_, _, _, _, _, _⟩) (.bool false) (yl_neqB (by rfl) _ _ _ rfl true true rfl rfl) ?_
      simp only [Act.put, List.setIfInBounds_toArray, List.set_cons_zero, List.set_cons_succ]
      refine wl_yield (o := ⟨_, _, _, _, _, _⟩) (.bool false) (yl_assign (by rfl) _ rfl _ rfl) ?_
      simp only [Act.put, List.setIfInBounds_toArray, List.set_cons_zero, List.set_cons_succ]
      refine wpList_nil ?_
      refine hK5 _ _ ?_
      clear hK5 K5
      refine wp_cond_false rfl ?_
      refine wp_skip ?_
      refine hK2 _ _ ?_
      clear hK2 K2
      refine wp_seq_k (fun K6 hK6 => ?_)
      refine wp_region_lit ?_
      refine wl_yield (o := ⟨_, _, _, _, _, _⟩) (.pointer (some ⟨gb1, 6, none⟩)) (yl_exSub (by rfl) _ rfl _ rfl) ?_
      simp only [Act.put, List.setIfInBounds_toArray, List.set_cons_zero, List.set_cons_succ]
      refine wl_yield (o := ⟨_, _, _, _, _, _⟩) (.slice c.p c.n c.c) (yl_exRow (by rfl) _ rfl _ 6 rfl _ _ _ (fun _ h => by subst h; exact ExIn.c6 HX)) ?_
      simp only [Act.put, List.setIfInBounds_toArray, List.set_cons_zero, List.set_cons_succ]
      refine wl_yield (o := ⟨_, _, _, _, _, _⟩) (.bool true) (yl_move (by rfl) _ rfl _ rfl) ?_
      simp only [Act.put, List.setIfInBounds_toArray, List.set_cons_zero, List.set_cons_succ]
      refine wl_call (o := ⟨_, _, _, _, _, _⟩) (by rfl) 65 _ _ rfl #[.slice none 0 0, .func (.func 68) #[] #[], .slice c.p c.n c.c, .bool true] rfl (run_call Tryz.func65 (by kernel_rfl) (by kernel_rfl)) ?_
      refine (gathered_any n IH 68 (run_call Tryz.func68 (by kernel_rfl) (by kernel_rfl)) false true joins_sum _ _ x.sub [] _ (hx.rows.on D) (bxs_none _) nil_none (by simp) fits_nil hsub (fun y hy => hi.2 y hy) (by omega)).mono ?_
      rintro r v2 ⟨hr, kb⟩
      replace D := D.trans (kb.mono D.size)
      replace HX := HX.on kb
      clear kb
      cases ey : foldX (fun y => boxesX n y true) false x.sub []
      · rw [ey] at hr
        obtain rfl : r = .returned (.tuple #[.slice none 0 0, .bool false]) := hr
        refine ⟨.tuple #[.slice none 0 0, .bool false], rfl, ?_⟩
        simp only [Act.put, List.setIfInBounds_toArray, List.set_cons_zero, List.set_cons_succ]
        refine wl_yield (o := ⟨_, _, _, _, _, _⟩) (.slice none 0 0) (yl_extract0 (by rfl) _ rfl _ _ rfl) ?_
        simp only [Act.put, List.setIfInBounds_toArray, List.set_cons_zero, List.set_cons_succ]
        refine wl_yield (o := ⟨_, _, _, _, _, _⟩) (.bool false) (yl_extract1 (by rfl) _ rfl _ _ rfl) ?_
        simp only [Act.put, List.setIfInBounds_toArray, List.set_cons_zero, List.set_cons_succ]
        refine wl_yield (o := ⟨_, _, _, _, _, _⟩) (.slice none 0 0) (yl_assign (by rfl) _ rfl _ rfl) ?_
        simp only [Act.put, List.setIfInBounds_toArray, List.set_cons_zero, List.set_cons_succ]
        refine wl_yield (o := ⟨_, _, _, _, _, _⟩) (.bool false) (yl_assign (by rfl) _ rfl _ rfl) ?_
        simp only [Act.put, List.setIfInBounds_toArray, List.set_cons_zero, List.set_cons_succ]
        refine wpList_nil ?_
        refine hK6 _ _ ?_
        clear hK6 K6
        refine wp_ret ?_
        try simp only [Exit.inBlock, Exit.then]
        refine bodyPost_ret (results_tmp2 rfl _ _ _) rfl ?_
        exact ⟨by rw [boxes23 k1 k4, show prodX x true = false from by unfold prodX; rw [k23]; rfl]; rw [if_neg (by simp), ey]; rfl, D⟩
      · rename_i ly
        rw [ey] at hr
        obtain ⟨u1, rfl, hby, hny⟩ : ∃ u, r = .returned (.tuple #[u, .bool true]) ∧ Bxs _ u ly ∧ nilOk u := hr
        refine ⟨.tuple #[u1, .bool true], rfl, ?_⟩
        simp only [Act.put, List.setIfInBounds_toArray, List.set_cons_zero, List.set_cons_succ]
        refine wl_yield (o := ⟨_, _, _, _, _, _⟩) (u1) (yl_extract0 (by rfl) _ rfl _ _ rfl) ?_
        simp only [Act.put, List.setIfInBounds_toArray, List.set_cons_zero, List.set_cons_succ]
        refine wl_yield (o := ⟨_, _, _, _, _, _⟩) (.bool true) (yl_extract1 (by rfl) _ rfl _ _ rfl) ?_
        simp only [Act.put, List.setIfInBounds_toArray, List.set_cons_zero, List.set_cons_succ]
        refine wl_yield (o := ⟨_, _, _, _, _, _⟩) (u1) (yl_assign (by rfl) _ rfl _ rfl) ?_
        simp only [Act.put, List.setIfInBounds_toArray, List.set_cons_zero, List.set_cons_succ]
        refine wl_yield (o := ⟨_, _, _, _, _, _⟩) (.bool true) (yl_assign (by rfl) _ rfl _ rfl) ?_
        simp only [Act.put, List.setIfInBounds_toArray, List.set_cons_zero, List.set_cons_succ]
        refine wpList_nil ?_
        refine hK6 _ _ ?_
        clear hK6 K6
        refine wp_ret ?_
        try simp only [Exit.inBlock, Exit.then]
        refine bodyPost_ret (results_tmp2 rfl _ _ _) rfl ?_
        exact ⟨by rw [boxes23 k1 k4, show prodX x true = false from by unfold prodX; rw [k23]; rfl]; rw [if_neg (by simp), ey]; exact ⟨_, rfl, hby, hny⟩, D⟩
  · cases neg
    · go_enter Tryz.func35, Tryz.ntmps35
      refine wp_seq_k (fun K1 hK1 => ?_)
      refine wp_region_lit ?_
      refine wl_boxEx (o := ⟨_, _, _, _, _, _⟩) (by rfl) _ rfl rfl (fun v1 gb1 HX kb => ?_)
      simp only [Act.put, List.setIfInBounds_toArray, List.set_cons_zero, List.set_cons_succ]
      replace D := D.trans (kb.mono D.size)
      clear kb
      refine wl_yield (o := ⟨_, _, _, _, _, _⟩) (.slice none 0 0) (yl_assign (by rfl) _ rfl _ rfl) ?_
      simp only [Act.put, List.setIfInBounds_toArray, List.set_cons_zero, List.set_cons_succ]
      refine wl_yield (o := ⟨_, _, _, _, _, _⟩) (.bool false) (yl_assign (by rfl) _ rfl _ rfl) ?_
      simp only [Act.put, List.setIfInBounds_toArray, List.set_cons_zero, List.set_cons_succ]
      refine wpList_nil ?_
      refine hK1 _ _ ?_
      clear hK1 K1
      refine wp_seq_k (fun K2 hK2 => ?_)
      refine wp_block ?_
      refine wp_seq_k (fun K3 hK3 => ?_)
      refine wp_region_lit ?_
      refine wl_yield (o := ⟨_, _, _, _, _, _⟩) (.pointer (some ⟨gb1, 0, none⟩)) (yl_exField0 (by rfl) _ rfl _ rfl) ?_
      simp only [Act.put, List.setIfInBounds_toArray, List.set_cons_zero, List.set_cons_succ]
      refine wl_yield (o := ⟨_, _, _, _, _, _⟩) (.int .i64 (c.k)) (yl_intX (by rfl) _ rfl _ 0 rfl _ (fun _ h => by subst h; exact ExIn.c0 HX)) ?_
      simp only [Act.put, List.setIfInBounds_toArray, List.set_cons_zero, List.set_cons_succ]
      refine wl_yield (o := ⟨_, _, _, _, _, _⟩) (.bool false) (yl_eqlI (by rfl) _ _ _ rfl (c.k) (1) false rfl rfl (decide_eq_false (by rw [hE.k]; exact k1))) ?_
      simp only [Act.put, List.setIfInBounds_toArray, List.set_cons_zero, List.set_cons_succ]
      refine wl_yield (o := ⟨_, _, _, _, _, _⟩) (.bool false) (yl_assign (by rfl) _ rfl _ rfl) ?_
      simp only [Act.put, List.setIfInBounds_toArray, List.set_cons_zero, List.set_cons_succ]
      refine wpList_nil ?_
      refine hK3 _ _ ?_
      clear hK3 K3
      refine wp_cond_false rfl ?_
      refine wp_seq_k (fun K4 hK4 => ?_)
      refine wp_region_lit ?_
      refine wl_yield (o := ⟨_, _, _, _, _, _⟩) (.pointer (some ⟨gb1, 0, none⟩)) (yl_exField0 (by rfl) _ rfl _ rfl) ?_
      simp only [Act.put, List.setIfInBounds_toArray, List.set_cons_zero, List.set_cons_succ]
      refine wl_yield (o := ⟨_, _, _, _, _, _⟩) (.int .i64 (c.k)) (yl_intX (by rfl) _ rfl _ 0 rfl _ (fun _ h => by subst h; exact ExIn.c0 HX)) ?_
      simp only [Act.put, List.setIfInBounds_toArray, List.set_cons_zero, List.set_cons_succ]
      refine wl_yield (o := ⟨_, _, _, _, _, _⟩) (.bool false) (yl_eqlI (by rfl) _ _ _ rfl (c.k) (4) false rfl rfl (decide_eq_false (by rw [hE.k]; exact k4))) ?_
      simp only [Act.put, List.setIfInBounds_toArray, List.set_cons_zero, List.set_cons_succ]
      refine wl_yield (o := ⟨_, _, _, _, _, _⟩) (.bool false) (yl_assign (by rfl) _ rfl _ rfl) ?_
      simp only [Act.put, List.setIfInBounds_toArray, List.set_cons_zero, List.set_cons_succ]
      refine wpList_nil ?_
      refine hK4 _ _ ?_
      clear hK4 K4
      refine wp_cond_false rfl ?_
      refine wp_seq_k (fun K5 hK5 => ?_)
      refine wp_region_lit ?_
      refine wl_yield (o := ⟨_, _, _, _, _, _⟩) (.pointer (some ⟨gb1, 0, none⟩)) (yl_exField0 (by rfl) _ rfl _ rfl) ?_
      simp only [Act.put, List.setIfInBounds_toArray, List.set_cons_zero, List.set_cons_succ]
      refine wl_yield (o := ⟨_, _, _, _, _, _⟩) (.int .i64 (c.k)) (yl_intX (by rfl) _ rfl _ 0 rfl _ (fun _ h => by subst h; exact ExIn.c0 HX)) ?_
      simp only [Act.put, List.setIfInBounds_toArray, List.set_cons_zero, List.set_cons_succ]
      refine wl_yield (o := ⟨_, _, _, _, _, _⟩) (.bool false) (yl_eqlI (by rfl) _ _ _ rfl (c.k) (2) false rfl rfl (decide_eq_false (by rw [hE.k, k23]; omega))) ?_
      simp only [Act.put, List.setIfInBounds_toArray, List.set_cons_zero, List.set_cons_succ]
      refine wl_yield (o := ⟨_, _, _, _, _, _⟩) (.bool false) (yl_move (by rfl) _ rfl _ rfl) ?_
      simp only [Act.put, List.setIfInBounds_toArray, List.set_cons_zero, List.set_cons_succ]
      refine wl_yield (o := ⟨_, _, _, _, _, _⟩) (.bool false) (yl_neqB (by rfl) _ _ _ rfl false false rfl rfl) ?_
      simp only [Act.put, List.setIfInBounds_toArray, List.set_cons_zero, List.set_cons_succ]
      refine wl_yield (o := ⟨_, _, _, _, _, _⟩) (.bool false) (yl_assign (by rfl) _ rfl _ rfl) ?_
      simp only [Act.put, List.setIfInBounds_toArray, List.set_cons_zero, List.set_cons_succ]
      refine wpList_nil ?_
      refine hK5 _ _ ?_
      clear hK5 K5
      refine wp_cond_false rfl ?_
      refine wp_skip ?_
      refine hK2 _ _ ?_
      clear hK2 K2
      refine wp_seq_k (fun K6 hK6 => ?_)
      refine wp_region_lit ?_
      refine wl_yield (o := ⟨_, _, _, _, _, _⟩) (.pointer (some ⟨gb1, 6, none⟩)) (yl_exSub (by rfl) _ rfl _ rfl) ?_
      simp only [Act.put, List.setIfInBounds_toArray, List.set_cons_zero, List.set_cons_succ]
      refine wl_yield (o := ⟨_, _, _, _, _, _⟩) (.slice c.p c.n c.c) (yl_exRow (by rfl) _ rfl _ 6 rfl _ _ _ (fun _ h => by subst h; exact ExIn.c6 HX)) ?_
      simp only [Act.put, List.setIfInBounds_toArray, List.set_cons_zero, List.set_cons_succ]
      refine wl_yield (o := ⟨_, _, _, _, _, _⟩) (.bool false) (yl_move (by rfl) _ rfl _ rfl) ?_
      simp only [Act.put, List.setIfInBounds_toArray, List.set_cons_zero, List.set_cons_succ]
      refine wl_call (o := ⟨_, _, _, _, _, _⟩) (by rfl) 65 _ _ rfl #[.slice none 0 0, .func (.func 68) #[] #[], .slice c.p c.n c.c, .bool false] rfl (run_call Tryz.func65 (by kernel_rfl) (by kernel_rfl)) ?_
      refine (gathered_any n IH 68 (run_call Tryz.func68 (by kernel_rfl) (by kernel_rfl)) false false joins_sum _ _ x.sub [] _ (hx.rows.on D) (bxs_none _) nil_none (by simp) fits_nil hsub (fun y hy => hi.2 y hy) (by omega)).mono ?_
      rintro r v2 ⟨hr, kb⟩
      replace D := D.trans (kb.mono D.size)
      replace HX := HX.on kb
      clear kb
      cases ey : foldX (fun y => boxesX n y false) false x.sub []
      · rw [ey] at hr
        obtain rfl : r = .returned (.tuple #[.slice none 0 0, .bool false]) := hr
        refine ⟨.tuple #[.slice none 0 0, .bool false], rfl, ?_⟩
        simp only [Act.put, List.setIfInBounds_toArray, List.set_cons_zero, List.set_cons_succ]
        refine wl_yield (o := ⟨_, _, _, _, _, _⟩) (.slice none 0 0) (yl_extract0 (by rfl) _ rfl _ _ rfl) ?_
        simp only [Act.put, List.setIfInBounds_toArray, List.set_cons_zero, List.set_cons_succ]
        refine wl_yield (o := ⟨_, _, _, _, _, _⟩) (.bool false) (yl_extract1 (by rfl) _ rfl _ _ rfl) ?_
        simp only [Act.put, List.setIfInBounds_toArray, List.set_cons_zero, List.set_cons_succ]
        refine wl_yield (o := ⟨_, _, _, _, _, _⟩) (.slice none 0 0) (yl_assign (by rfl) _ rfl _ rfl) ?_
        simp only [Act.put, List.setIfInBounds_toArray, List.set_cons_zero, List.set_cons_succ]
        refine wl_yield (o := ⟨_, _, _, _, _, _⟩) (.bool false) (yl_assign (by rfl) _ rfl _ rfl) ?_
        simp only [Act.put, List.setIfInBounds_toArray, List.set_cons_zero, List.set_cons_succ]
        refine wpList_nil ?_
        refine hK6 _ _ ?_
        clear hK6 K6
        refine wp_ret ?_
        try simp only [Exit.inBlock, Exit.then]
        refine bodyPost_ret (results_tmp2 rfl _ _ _) rfl ?_
        exact ⟨by rw [boxes23 k1 k4, show prodX x false = false from by unfold prodX; rw [k23]; rfl]; rw [if_neg (by simp), ey]; rfl, D⟩
      · rename_i ly
        rw [ey] at hr
        obtain ⟨u1, rfl, hby, hny⟩ : ∃ u, r = .returned (.tuple #[u, .bool true]) ∧ Bxs _ u ly ∧ nilOk u := hr
        refine ⟨.tuple #[u1, .bool true], rfl, ?_⟩
        simp only [Act.put, List.setIfInBounds_toArray, List.set_cons_zero, List.set_cons_succ]
        refine wl_yield (o := ⟨_, _, _, _, _, _⟩) (u1) (yl_extract0 (by rfl) _ rfl _ _ rfl) ?_
        simp only [Act.put, List.setIfInBounds_toArray, List.set_cons_zero, List.set_cons_succ]
        refine wl_yield (o := ⟨_, _, _, _, _, _⟩) (.bool true) (yl_extract1 (by rfl) _ rfl _ _ rfl) ?_
        simp only [Act.put, List.setIfInBounds_toArray, List.set_cons_zero, List.set_cons_succ]
        refine wl_yield (o := ⟨_, _, _, _, _, _⟩) (u1) (yl_assign (by rfl) _ rfl _ rfl) ?_
        simp only [Act.put, List.setIfInBounds_toArray, List.set_cons_zero, List.set_cons_succ]
        refine wl_yield (o := ⟨_, _, _, _, _, _⟩) (.bool true) (yl_assign (by rfl) _ rfl _ rfl) ?_
        simp only [Act.put, List.setIfInBounds_toArray, List.set_cons_zero, List.set_cons_succ]
        refine wpList_nil ?_
        refine hK6 _ _ ?_
        clear hK6 K6
        refine wp_ret ?_
        try simp only [Exit.inBlock, Exit.then]
        refine bodyPost_ret (results_tmp2 rfl _ _ _) rfl ?_
        exact ⟨by rw [boxes23 k1 k4, show prodX x false = false from by unfold prodX; rw [k23]; rfl]; rw [if_neg (by simp), ey]; exact ⟨_, rfl, hby, hny⟩, D⟩
    · go_enter Tryz.func35, Tryz.ntmps35
      refine wp_seq_k (fun K1 hK1 => ?_)
      refine wp_region_lit ?_
      refine wl_boxEx (o := ⟨_, _, _, _, _, _⟩) (by rfl) _ rfl rfl (fun v1 gb1 HX kb => ?_)
      simp only [Act.put, List.setIfInBounds_toArray, List.set_cons_zero, List.set_cons_succ]
      replace D := D.trans (kb.mono D.size)
      clear kb
      refine wl_yield (o := ⟨_, _, _, _, _, _⟩) (.slice none 0 0) (yl_assign (by rfl) _ rfl _ rfl) ?_
      simp only [Act.put, List.setIfInBounds_toArray, List.set_cons_zero, List.set_cons_succ]
      refine wl_yield (o := ⟨_, _, _, _, _, _⟩) (.bool false) (yl_assign (by rfl) _ rfl _ rfl) ?_
      simp only [Act.put, List.setIfInBounds_toArray, List.set_cons_zero, List.set_cons_succ]
      refine wpList_nil ?_
      refine hK1 _ _ ?_
      clear hK1 K1
      refine wp_seq_k (fun K2 hK2 => ?_)
      refine wp_block ?_
      refine wp_seq_k (fun K3 hK3 => ?_)
      refine wp_region_lit ?_
      refine wl_yield (o := ⟨_, _, _, _, _, _⟩) (.pointer (some ⟨gb1, 0, none⟩)) (yl_exField0 (by rfl) _ rfl _ rfl) ?_
      simp only [Act.put, List.setIfInBounds_toArray, List.set_cons_zero, List.set_cons_succ]
      refine wl_yield (o := ⟨_, _, _, _, _, _⟩) (.int .i64 (c.k)) (yl_intX (by rfl) _ rfl _ 0 rfl _ (fun _ h => by subst h; exact ExIn.c0 HX)) ?_
      simp only [Act.put, List.setIfInBounds_toArray, List.set_cons_zero, List.set_cons_succ]
      refine wl_yield (o := ⟨_, _, _, _, _, _⟩) (.bool false) (yl_eqlI (by rfl) _ _ _ rfl (c.k) (1) false rfl rfl (decide_eq_false (by rw [hE.k]; exact k1))) ?_
      simp only [Act.put, List.setIfInBounds_toArray, List.set_cons_zero, List.set_cons_succ]
      refine wl_yield (o := ⟨_, _, _, _, _, _⟩) (.bool false) (yl_assign (by rfl) _ rfl _ rfl) ?_
      simp only [Act.put, List.setIfInBounds_toArray, List.set_cons_zero, List.set_cons_succ]
      refine wpList_nil ?_
      refine hK3 _ _ ?_
      clear hK3 K3
      refine wp_cond_false rfl ?_
      refine wp_seq_k (fun K4 hK4 => ?_)
      refine wp_region_lit ?_
      refine wl_yield (o := ⟨_, _, _, _, _, _⟩) (.pointer (some ⟨gb1, 0, none⟩)) (yl_exField0 (by rfl) _ rfl _ rfl) ?_
      simp only [Act.put, List.setIfInBounds_toArray, List.set_cons_zero, List.set_cons_succ]
      refine wl_yield (o := ⟨_, _, _, _, _, _⟩) (.int .i64 (c.k)) (yl_intX (by rfl) _ rfl _ 0 rfl _ (fun _ h => by subst h; exact ExIn.c0 HX)) ?_
      simp only [Act.put, List.setIfInBounds_toArray, List.set_cons_zero, List.set_cons_succ]
      refine wl_yield (o := ⟨_, _, _, _, _, _⟩) (.bool false) (yl_eqlI (by rfl) _ _ _ rfl (c.k) (4) false rfl rfl (decide_eq_false (by rw [hE.k]; exact k4))) ?_
      simp only [Act.put, List.setIfInBounds_toArray, List.set_cons_zero, List.set_cons_succ]
      refine wl_yield (o := ⟨_, _, _, _, _, _⟩) (.bool false) (yl_assign (by rfl) _ rfl _ rfl) ?_
      simp only [Act.put, List.setIfInBounds_toArray, List.set_cons_zero, List.set_cons_succ]
      refine wpList_nil ?_
      refine hK4 _ _ ?_
      clear hK4 K4
      refine wp_cond_false rfl ?_
      refine wp_seq_k (fun K5 hK5 => ?_)
      refine wp_region_lit ?_
      refine wl_yield (o := ⟨_, _, _, _, _, _⟩) (.pointer (some ⟨gb1, 0, none⟩)) (yl_exField0 (by rfl) _ rfl _ rfl) ?_
      simp only [Act.put, List.setIfInBounds_toArray, List.set_cons_zero, List.set_cons_succ]
      refine wl_yield (o := ⟨_, _, _, _, _, _⟩) (.int .i64 (c.k)) (yl_intX (by rfl) _ rfl _ 0 rfl _ (fun _ h => by subst h; exact ExIn.c0 HX)) ?_
      simp only [Act.put, List.setIfInBounds_toArray, List.set_cons_zero, List.set_cons_succ]
      refine wl_yield (o := ⟨_, _, _, _, _, _⟩) (.bool false) (yl_eqlI (by rfl) _ _ _ rfl (c.k) (2) false rfl rfl (decide_eq_false (by rw [hE.k, k23]; omega))) ?_
      simp only [Act.put, List.setIfInBounds_toArray, List.set_cons_zero, List.set_cons_succ]
      refine wl_yield (o := ⟨_, _, _, _, _, _⟩) (.bool true) (yl_move (by rfl) _ rfl _ rfl) ?_
      simp only [Act.put, List.setIfInBounds_toArray, List.set_cons_zero, List.set_cons_succ]
      refine wl_yield (o := ⟨_, _, _, _, _, _⟩) (.bool true) (yl_neqB (by rfl) _ _ _ rfl false true rfl rfl) ?_
      simp only [Act.put, List.setIfInBounds_toArray, List.set_cons_zero, List.set_cons_succ]
      refine wl_yield (o := ⟨_, _, _, _, _, _⟩) (.bool true) (yl_assign (by rfl) _ rfl _ rfl) ?_
      simp only [Act.put, List.setIfInBounds_toArray, List.set_cons_zero, List.set_cons_succ]
      refine wpList_nil ?_
      refine hK5 _ _ ?_
      clear hK5 K5
      refine wp_cond_true rfl ?_
      refine wp_seq_k (fun K6 hK6 => ?_)
      refine wp_region_held_drew (S := fun w' => ExIn w' gb1 c) (by kernel_rfl) HX (fun hHeld => ?_)
      have kb : Below v1.heap.size v1 v1.drew := (Below.refl _ v1).drew
      replace D := D.trans (kb.mono D.size)
      replace HX := HX.on kb
      clear kb
      generalize v1.drew = v2 at D hHeld HX ⊢
      refine wpAnyH_take (i := 2) (oi := ⟨_, _, _, _, _, _⟩) (v := .pointer (some ⟨gb1, 6, none⟩)) rfl (by kernel_rfl) (by kernel_rfl) (by kernel_rfl) (fun _ _ _ h => h) (yl_exSub (by rfl) _ rfl _ rfl) (by assumption) ?_
      simp only [Act.put, List.setIfInBounds_toArray, List.set_cons_zero, List.set_cons_succ]
      refine wpAnyH_take (i := 3) (oi := ⟨_, _, _, _, _, _⟩) (v := .slice c.p c.n c.c) rfl (by kernel_rfl) (by kernel_rfl) (by kernel_rfl) (fun _ _ _ h => h) (yl_exRow (by rfl) _ rfl _ 6 rfl _ _ _ (fun _ h => ExIn.c6 h)) (by assumption) ?_
      simp only [Act.put, List.setIfInBounds_toArray, List.set_cons_zero, List.set_cons_succ]
      refine wpAnyH_take (i := 4) (oi := ⟨_, _, _, _, _, _⟩) (v := .bool true) rfl (by kernel_rfl) (by kernel_rfl) (by kernel_rfl) (fun _ _ _ h => h) (yl_move (by rfl) _ rfl _ rfl) (by assumption) ?_
      simp only [Act.put, List.setIfInBounds_toArray, List.set_cons_zero, List.set_cons_succ]
      refine held_call (o := ⟨_, _, _, _, _, _⟩) 0 (by kernel_rfl) rfl (by rfl) 66 _ _ rfl #[] rfl (run_call Tryz.func66 (by kernel_rfl) (by kernel_rfl)) ?_
      refine (boxProg0.all _).mono ?_
      rintro r v3 ⟨⟨y1, rfl, hy⟩, kb⟩
      replace D := D.trans (kb.mono D.size)
      replace HX := HX.on kb
      clear kb
      clear hHeld
      obtain ⟨cy, rfl⟩ := hy.bc
      refine ⟨BxC.val cy, rfl, HX, fun hHeld => ?_⟩
      simp only [Act.put, List.setIfInBounds_toArray, List.set_cons_zero, List.set_cons_succ]
      refine wpAnyH_all (rs := [1]) (by kernel_rfl) (by simp) ?_
      intro j hj
      have hj := List.mem_singleton.1 hj
      subst hj
      refine op_rowB1 (o := ⟨_, _, _, _, _, _⟩) rfl (by rfl) _ rfl rfl (fun v4 gb4 hggb4 HB kb => ?_)
      replace D := D.trans (kb.mono D.size)
      replace HX := HX.on kb
      replace hy := hy.on kb
      clear kb
      clear hHeld
      have hHeld := HX
      refine ⟨HX, ?_⟩
      simp only [Act.put, List.setIfInBounds_toArray, List.set_cons_zero, List.set_cons_succ]
      refine held_call (o := ⟨_, _, _, _, _, _⟩) 5 (by kernel_rfl) rfl (by rfl) 65 _ _ rfl #[.slice (some ⟨gb4, 0, none⟩) 1 1, .func (.func 67) #[] #[], .slice c.p c.n c.c, .bool true] rfl (run_call Tryz.func65 (by kernel_rfl) (by kernel_rfl)) ?_
      refine (gathered_any n IH 67 (run_call Tryz.func67 (by kernel_rfl) (by kernel_rfl)) true true joins_product _ _ x.sub [allBx] _ (hx.rows.on D) (bxs_one HB hy) nil_some (by simp) fits_all hsub (fun y hy => hi.2 y hy) (by omega)).mono ?_
      rintro r v5 ⟨hr, kb⟩
      replace D := D.trans (kb.mono D.size)
      replace HX := HX.on kb
      replace hy := hy.on kb
      replace HB := HB.on kb
      clear kb
      clear hHeld
      cases ey : foldX (fun y => boxesX n y true) true x.sub [allBx]
      · rw [ey] at hr
        obtain rfl : r = .returned (.tuple #[.slice none 0 0, .bool false]) := hr
        refine ⟨.tuple #[.slice none 0 0, .bool false], rfl, HX, fun hHeld => ?_⟩
        simp only [Act.put, List.setIfInBounds_toArray, List.set_cons_zero, List.set_cons_succ]
        refine wpAnyH_take (i := 6) (oi := ⟨_, _, _, _, _, _⟩) (v := .slice none 0 0) rfl (by kernel_rfl) (by kernel_rfl) (by kernel_rfl) (fun _ _ _ h => h) (yl_extract0 (by rfl) _ rfl _ _ rfl) (by assumption) ?_
        simp only [Act.put, List.setIfInBounds_toArray, List.set_cons_zero, List.set_cons_succ]
        refine wpAnyH_take (i := 7) (oi := ⟨_, _, _, _, _, _⟩) (v := .bool false) rfl (by kernel_rfl) (by kernel_rfl) (by kernel_rfl) (fun _ _ _ h => h) (yl_extract1 (by rfl) _ rfl _ _ rfl) (by assumption) ?_
        simp only [Act.put, List.setIfInBounds_toArray, List.set_cons_zero, List.set_cons_succ]
        refine wpAnyH_take (i := 8) (oi := ⟨_, _, _, _, _, _⟩) (v := .slice none 0 0) rfl (by kernel_rfl) (by kernel_rfl) (by kernel_rfl) (fun _ _ _ h => h) (yl_assign (by rfl) _ rfl _ rfl) (by assumption) ?_
        simp only [Act.put, List.setIfInBounds_toArray, List.set_cons_zero, List.set_cons_succ]
        refine wpAnyH_take (i := 9) (oi := ⟨_, _, _, _, _, _⟩) (v := .bool false) rfl (by kernel_rfl) (by kernel_rfl) (by kernel_rfl) (fun _ _ _ h => h) (yl_assign (by rfl) _ rfl _ rfl) (by assumption) ?_
        simp only [Act.put, List.setIfInBounds_toArray, List.set_cons_zero, List.set_cons_succ]
        refine wpAnyH_done (by kernel_rfl) ?_ _
        clear hHeld
        refine hK6 _ _ ?_
        clear hK6 K6
        refine wp_ret ?_
        try simp only [Exit.inBlock, Exit.then]
        refine bodyPost_ret (results_tmp2 rfl _ _ _) rfl ?_
        exact ⟨by rw [boxes23 k1 k4, show prodX x true = true from by unfold prodX; rw [k23]; rfl]; rw [if_pos rfl, ey]; rfl, D⟩
      · rename_i ly
        rw [ey] at hr
        obtain ⟨u1, rfl, hby, hny⟩ : ∃ u, r = .returned (.tuple #[u, .bool true]) ∧ Bxs _ u ly ∧ nilOk u := hr
        refine ⟨.tuple #[u1, .bool true], rfl, HX, fun hHeld => ?_⟩
        simp only [Act.put, List.setIfInBounds_toArray, List.set_cons_zero, List.set_cons_succ]
        refine wpAnyH_take (i := 6) (oi := ⟨_, _, _, _, _, _⟩) (v := u1) rfl (by kernel_rfl) (by kernel_rfl) (by kernel_rfl) (fun _ _ _ h => h) (yl_extract0 (by rfl) _ rfl _ _ rfl) (by assumption) ?_
        simp only [Act.put, List.setIfInBounds_toArray, List.set_cons_zero, List.set_cons_succ]
        refine wpAnyH_take (i := 7) (oi := ⟨_, _, _, _, _, _⟩) (v := .bool true) rfl (by kernel_rfl) (by kernel_rfl) (by kernel_rfl) (fun _ _ _ h => h) (yl_extract1 (by rfl) _ rfl _ _ rfl) (by assumption) ?_
        simp only [Act.put, List.setIfInBounds_toArray, List.set_cons_zero, List.set_cons_succ]
        refine wpAnyH_take (i := 8) (oi := ⟨_, _, _, _, _, _⟩) (v := u1) rfl (by kernel_rfl) (by kernel_rfl) (by kernel_rfl) (fun _ _ _ h => h) (yl_assign (by rfl) _ rfl _ rfl) (by assumption) ?_
        simp only [Act.put, List.setIfInBounds_toArray, List.set_cons_zero, List.set_cons_succ]
        refine wpAnyH_take (i := 9) (oi := ⟨_, _, _, _, _, _⟩) (v := .bool true) rfl (by kernel_rfl) (by kernel_rfl) (by kernel_rfl) (fun _ _ _ h => h) (yl_assign (by rfl) _ rfl _ rfl) (by assumption) ?_
        simp only [Act.put, List.setIfInBounds_toArray, List.set_cons_zero, List.set_cons_succ]
        refine wpAnyH_done (by kernel_rfl) ?_ _
        clear hHeld
        refine hK6 _ _ ?_
        clear hK6 K6
        refine wp_ret ?_
        try simp only [Exit.inBlock, Exit.then]
        refine bodyPost_ret (results_tmp2 rfl _ _ _) rfl ?_
        exact ⟨by rw [boxes23 k1 k4, show prodX x true = true from by unfold prodX; rw [k23]; rfl]; rw [if_pos rfl, ey]; exact ⟨_, rfl, hby, hny⟩, D⟩
theorem boxesOf_any : ∀ n, BoxesIH n
  | 0 => fun c x neg w hx => by cases hx
  | n + 1 => fun c x neg w hx he hw => boxesOf_step n (boxesOf_any n) c x neg w hx he hw
end Go.Proofs.YtlfhpocfacaaeaaGreat
