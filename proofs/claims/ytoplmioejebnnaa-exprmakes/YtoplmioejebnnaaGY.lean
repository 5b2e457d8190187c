/-
  Steps of regions, of the fifth layer: new blocks and rows of expressions; the contracts of the layer in one form.
-/
import Derived.Test.YtoplmioejebnnaaXP
import Derived.Test.YtoplmioejebnnaaEH
import Derived.Test.YtoplmioejebnnaaXJ
set_option linter.unusedSimpArgs false
set_option linter.unusedVariables false
namespace Go.Proofs.Ytoplmioejebnnaa
open Go.RowKit

/-- An expression as a value. -/
def Xp (n : Nat) (w : World) (c : EC) (x : ExV) : Prop := ExAt n w c.val x
theorem Xp.on {n : Nat} {w w' : World} {c : EC} {x : ExV} (h : Xp n w c x) (hb : Below w.heap.size w w') : Xp n w' c x := ExAt.on hb n h
/-- A set in a block of its own. -/
def StB (w : World) (g : Nat) (s : SC) : Prop := w.heap[g]? = some (stObj s)
theorem StB.on {w w' : World} {g : Nat} {s : SC} (h : StB w g s) (hb : Below w.heap.size w w') : StB w' g s := (hb.block _ (lt_heap h)).trans h
def vaZ : Va := (0, 0, ⟨#[]⟩)
def evZ : EvV := ⟨vaZ, vaZ, vaZ, vaZ⟩
def evFive : EvV := ⟨(1, 5, ⟨#[]⟩), vaZ, vaZ, vaZ⟩
theorem evZ_fit : evFit evZ := ⟨Nat.zero_le _, Nat.zero_le _, Nat.zero_le _, Nat.zero_le _⟩
theorem evFive_fit : evFit evFive := ⟨Nat.zero_le _, Nat.zero_le _, Nat.zero_le _, Nat.zero_le _⟩

section
variable {ops : Array Oper} {Q : Exit → Act → World → Prop} {S : World → Prop} {o : Oper} {a : Act}
set_option maxRecDepth 100000 in
theorem wl_boxEx {rest : List Oper} {w : World} (hw : Region.wanted o (yielded ops a.tmps) = true) (x : Operand) (ho : o.op = .box 28 x) {c : EC} (hx : a.eval x = c.val)
    (h : ∀ W g, ExIn W g c → Below w.heap.size w W → wpList Try.prog ops Q rest (a.put o.dst (.pointer (some ⟨g, 0, none⟩))) W) : wpList Try.prog ops Q (o :: rest) a w := by
  refine wl_run hw (.pointer (some ⟨w.heap.size, 0, none⟩)) (w.alloc (exObj c)) ?_ (h _ _ (heap_new _ _) ((Below.refl _ w).alloc (Nat.le_refl _) _))
  simp only [execOp, ho, hx, EC.val, exObj]
  go_simp
set_option maxRecDepth 100000 in
theorem wl_stBox {rest : List Oper} {w : World} (hw : Region.wanted o (yielded ops a.tmps) = true) (x : Operand) (ho : o.op = .box 25 x) {s : SC} (hx : a.eval x = s.val)
    (h : ∀ W g, StB W g s → Below w.heap.size w W → wpList Try.prog ops Q rest (a.put o.dst (.pointer (some ⟨g, 0, none⟩))) W) : wpList Try.prog ops Q (o :: rest) a w := by
  refine wl_run hw (.pointer (some ⟨w.heap.size, 0, none⟩)) (w.alloc (stObj s)) ?_ (h _ _ (heap_new _ _) ((Below.refl _ w).alloc (Nat.le_refl _) _))
  simp only [execOp, ho, hx, SC.val, stObj]
  go_simp
set_option maxRecDepth 100000 in
theorem wl_evBox {rest : List Oper} {w : World} (hw : Region.wanted o (yielded ops a.tmps) = true) (x : Operand) (ho : o.op = .box 32 x) {e : EvV} (hx : a.eval x = evVal e)
    (h : ∀ W g, EvIn W g e → Below w.heap.size w W → wpList Try.prog ops Q rest (a.put o.dst (.pointer (some ⟨g, 0, none⟩))) W) : wpList Try.prog ops Q (o :: rest) a w := by
  refine wl_run hw (.pointer (some ⟨w.heap.size, 0, none⟩)) (w.alloc (evObj e)) ?_ (h _ _ (heap_new _ _) ((Below.refl _ w).alloc (Nat.le_refl _) _))
  simp only [execOp, ho, hx, evVal, evObj]
  go_simp
set_option maxRecDepth 100000 in
/-- A new block, and an expression stored there. -/
theorem wl_newEx {o2 : Oper} {rest : List Oper} {w : World} (hw : Region.wanted o (yielded ops a.tmps) = true) (ho : o.op = .alloc 28) (x y : Operand) (ho2 : o2.op = .store 28 x y) (hg2 : o2.guard = none)
    (hx : ∀ v, (a.put o.dst v).eval x = v) {c : EC} (hy : ∀ v, (a.put o.dst v).eval y = c.val)
    (h : ∀ W g, ExIn W g c → Below w.heap.size w W → wpList Try.prog ops Q rest ((a.put o.dst (.pointer (some ⟨g, 0, none⟩))).put o2.dst undef) W) : wpList Try.prog ops Q (o :: o2 :: rest) a w := by
  refine wl_run hw (.pointer (some ⟨w.heap.size, 0, none⟩)) (w.alloc (exObj ec0)) ?_ ?_
  · simp only [execOp, ho, exObj, ec0, SC.zero]
    go_simp
  · have hz : ExIn (w.alloc (exObj ec0)) w.heap.size ec0 := heap_new _ _
    have ht : (w.alloc (exObj ec0)).there w.heap.size 0 7 := fun j hj => by
      refine ⟨?_, soft_heap hz _⟩
      rw [hz.ec.range j _ (List.getElem?_eq_getElem (show j < ec0.list.length from hj))]
      rfl
    refine wpList_store_mid hg2 28 x y ho2 w.heap.size 0 c.list.toArray (hx _) (hy _) ht (by rw [infoEx]; rfl) (all_oneCell_toArray c.list_one) ?_
    refine h _ _ ?_ (Below.setCells w.heap.size (Nat.le_refl _) c.list 0 _ ((Below.refl _ w).alloc (Nat.le_refl _) _))
    exact heap_put (heap_put (heap_put (heap_put (heap_put (heap_put (heap_put hz 0 (.int .i64 c.k)) 1 (.int .i64 c.t)) 2 (.bool c.s.a)) 3 (.slice c.s.p c.s.n c.s.c)) 4 (.bool c.s.d)) 5 (.slice c.s.q c.s.m c.s.e)) 6 (.slice c.p c.n c.c)
theorem yl_zeroE (hw : Region.wanted o (yielded ops a.tmps) = true) (ho : o.op = .build 32 #[]) : YieldsIf Try.prog ops S o (evVal evZ) a :=
  Or.inl ⟨hw, fun w _ => by
    simp only [execOp, ho, evVal, evZ, vaZ]
    go_simp⟩
theorem yl_zeroX (hw : Region.wanted o (yielded ops a.tmps) = true) (ho : o.op = .build 28 #[]) : YieldsIf Try.prog ops S o ec0.val a :=
  Or.inl ⟨hw, fun w _ => by
    simp only [execOp, ho, EC.val, ec0, SC.zero]
    go_simp⟩
theorem yl_neqB (hw : Region.wanted o (yielded ops a.tmps) = true) (x y : Operand) (t : TypeId) (ho : o.op = .binOp .neq 4 x y t) (p q : Bool) (hx : a.eval x = .bool p) (hy : a.eval y = .bool q) : YieldsIf Try.prog ops S o (.bool (p != q)) a :=
  Or.inl ⟨hw, fun w hS => by
    simp only [execOp, ho, hx, hy]
    go_simp
    cases p <;> cases q <;> rfl⟩
theorem yl_eqT (hw : Region.wanted o (yielded ops a.tmps) = true) (x y : Operand) (t : TypeId) (ho : o.op = .binOp .eql 3 x y t) (p q : Int) (hpq : p = q) (hx : a.eval x = .int .i64 p) (hy : a.eval y = .int .i64 q) : YieldsIf Try.prog ops S o (.bool true) a := by
  have := yl_eqI (S := S) hw x y t ho p q hx hy
  rwa [show (p == q) = true by rw [hpq]; simp] at this
end

/-! ### What may be gone over -/
theorem count_sub {f : Nat} {x y : ExV} (h : countX (f + 1) x < 100) (hy : y ∈ x.sub) : countX f y < 100 := by
  have hg : ∀ (l : List ExV) (n : Int), l.foldl (fun n y => if n < 100 then n + countX f y else n) n < 100 → 0 ≤ n → y ∈ l → countX f y < 100 := by
    intro l
    induction l with
    | nil => intro n _ _ h; cases h
    | cons z l ih =>
      intro n h h0 hm
      rw [List.foldl_cons] at h
      have hz := countX_pos f z
      have h2 := count_len f l _ h
      by_cases hn : n < 100
      · rw [if_pos hn] at h h2
        rcases List.mem_cons.1 hm with rfl | hm
        · omega
        · exact ih _ h (by omega) hm
      · rw [if_neg hn] at h h2
        omega
  unfold countX at h
  exact hg x.sub 1 (by omega) (by omega) hy
theorem cp_of : ∀ (k f n : Nat) (x : ExV), lowX k x → lowX n x → countX f x < 100 → setsX n x = true → cpX k x
  | 0, _, _, _, h, _, _, _ => by cases h
  | k + 1, 0, _, _, _, _, h, _ => by unfold countX at h; omega
  | k + 1, f + 1, 0, _, _, h, _, _ => by cases h
  | k + 1, f + 1, n + 1, x, hk, hn, hc, hs => by
    unfold setsX at hs
    rw [Bool.and_eq_true, List.all_eq_true] at hs
    have hf := hs.1
    unfold fewB at hf
    simp only [Bool.and_eq_true, decide_eq_true_eq] at hf
    have hc' := hc
    unfold countX at hc'
    have hl := count_len f x.sub 1 (by omega)
    exact ⟨by omega, by omega, by omega, fun y hy => cp_of k f n y (hk y hy) (hn y hy) (count_sub hc hy) (hs.2 y hy)⟩
theorem few_low {n : Nat} {x : ExV} (h : fewX n x = true) : lowX 19 x := by
  unfold fewX at h
  simp only [Bool.and_eq_true, decide_eq_true_eq] at h
  exact deep_low 21 19 x (by omega) (by omega) (by omega) (by omega)
theorem few_cp {n : Nat} {w : World} {c : EC} {x : ExV} (hx : Xp n w c x) (h : fewX n x = true) : Xp 19 w c x ∧ cpX 19 x := by
  have l19 := few_low h
  unfold fewX at h
  simp only [Bool.and_eq_true, decide_eq_true_eq] at h
  exact ⟨ExAt.shrink n 19 hx l19, cp_of 19 21 n x l19 (ExAt.low n hx) h.1.1 h.2⟩
theorem cp_nil (n : Nat) : ∀ y ∈ ([] : List ExV), cpX n y := fun y h => by cases h

/-! ### The contracts in one form -/
theorem c_refFew {n : Nat} {w : World} {c : EC} {x : ExV} (h : Xp n w c x) : Calls Try.prog 10 #[c.val] w fun r w' => r = .returned (.bool (fewX n x)) ∧ Below w.heap.size w w' := refFewX_any n x c.val w h
theorem c_and {n : Nat} {w : World} {v : Value} {l : List ExV} (h : RowsX n w v l) (hl : l.length ≤ 1000) (hcp : ∀ y ∈ l, cpX n y) : Calls Try.prog 19 #[v] w fun r w' => (∃ d : EC, r = .returned d.val ∧ Xp (n + 1) w' d (andX l)) ∧ Below w.heap.size w w' := progAnd_any n v l w h hl hcp
theorem c_or {n : Nat} {w : World} {v : Value} {l : List ExV} (h : RowsX n w v l) (hl : l.length ≤ 1000) (hcp : ∀ y ∈ l, cpX n y) : Calls Try.prog 20 #[v] w fun r w' => (∃ d : EC, r = .returned d.val ∧ Xp (n + 1) w' d (orX l)) ∧ Below w.heap.size w w' := progOr_any n v l w h hl hcp
theorem c_and0 (w : World) : Calls Try.prog 19 #[.slice none 0 0] w fun r w' => (∃ d : EC, r = .returned d.val ∧ Xp 1 w' d (andX [])) ∧ Below w.heap.size w w' := progAnd_any 0 _ [] w (RowsX.nil 0 w) (by simp) (cp_nil 0)
theorem c_or0 (w : World) : Calls Try.prog 20 #[.slice none 0 0] w fun r w' => (∃ d : EC, r = .returned d.val ∧ Xp 1 w' d (orX [])) ∧ Below w.heap.size w w' := progOr_any 0 _ [] w (RowsX.nil 0 w) (by simp) (cp_nil 0)
theorem c_not {n : Nat} {w : World} {c : EC} {x : ExV} (h : Xp n w c x) (hcp : cpX n x) : Calls Try.prog 21 #[c.val] w fun r w' => (∃ d : EC, r = .returned d.val ∧ Xp (n + 1) w' d (notX x)) ∧ Below w.heap.size w w' := progNot_any n c x w h hcp
theorem c_size {n : Nat} {w : World} {c : EC} {x : ExV} (h : Xp n w c x) (hn : n ≤ 1000) : Calls Try.prog 11 #[c.val] w fun r w' => r = .returned (.tuple #[.int .i64 (sizeA x).1, .int .i64 (sizeA x).2]) ∧ Below w.heap.size w w' := progSize_any n c x w h hn
theorem c_right {n : Nat} {w : World} {c : EC} {x : ExV} (h : Xp n w c x) (hn : n ≤ 1000) : Calls Try.prog 15 #[c.val] w fun r w' => r = .returned (.bool (rightX x)) ∧ Below w.heap.size w w' := progRight_any n c x w h hn
theorem c_eval {n : Nat} {w : World} {c : EC} {x : ExV} {e : EvV} (h : Xp n w c x) (hn : n ≤ 1000) (hf : evFit e) : Calls Try.prog 17 #[c.val, evVal e] w fun r w' => r = .returned (.bool (evalX x e)) ∧ Below w.heap.size w w' := progEval_any n c x e w h hn hf
theorem c_refRight {n : Nat} {w : World} {c : EC} {x : ExV} (h : Xp n w c x) : Calls Try.prog 16 #[c.val] w fun r w' => r = .returned (.bool (rightX x)) ∧ Below w.heap.size w w' := refRightX_any n x c w h
theorem c_refEval {n : Nat} {w : World} {c : EC} {x : ExV} {e : EvV} (h : Xp n w c x) (hf : evFit e) : Calls Try.prog 18 #[c.val, evVal e] w fun r w' => r = .returned (.bool (evalX x e)) ∧ Below w.heap.size w w' := refEvalX_any n c x e w h hf
theorem c_refIs {n : Nat} {w : World} {c : EC} {x : ExV} {e : EvV} (h : Xp n w c x) (hf : evFit e) (hr : rightX x = true) : Calls Try.prog 27 #[c.val, evVal e] w fun r w' => r = .returned (.bool (isX 8 x e)) ∧ Below w.heap.size w w' := refIs_right e hf n x c w h hr
theorem c_refCount {n : Nat} {w : World} {c : EC} {x : ExV} (h : Xp n w c x) : Calls Try.prog 12 #[c.val, .int .i64 0] w fun r w' => r = .returned (.int .i64 (countX 21 x)) ∧ Below w.heap.size w w' := refCount_any 21 n x c.val 0 w (by omega) (by omega) h
theorem c_refDeep {n : Nat} {w : World} {c : EC} {x : ExV} (h : Xp n w c x) : Calls Try.prog 13 #[c.val, .int .i64 0] w fun r w' => r = .returned (.int .i64 (deepX 21 x)) ∧ Below w.heap.size w w' := refDeep_any 21 n x c.val 0 w (by omega) (by omega) h
theorem c_refFits {n : Nat} {w : World} {c : EC} {x : ExV} (h : Xp n w c x) : Calls Try.prog 14 #[c.val] w fun r w' => r = .returned (.bool (fitsX x)) ∧ Below w.heap.size w w' := refFits_any n x c.val w h
end Go.Proofs.Ytoplmioejebnnaa
