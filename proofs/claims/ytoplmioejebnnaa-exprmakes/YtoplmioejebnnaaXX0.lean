/-
  Single operations of a region that draws its order and makes memory; new rows of expressions.
-/
import Derived.Test.YtoplmioejebnnaaXV0
import Derived.Test.YtoplmioejebnnaaXW
set_option linter.unusedSimpArgs false
set_option linter.unusedVariables false
namespace Go.Proofs.Ytoplmioejebnnaa
open Go.RowKit

/-! ### Single operations of a region that draws its order -/
section
variable {ops : Array Oper} {Q : Exit → Act → World → Prop} {o : Oper} {a : Act}
theorem wpOp_run {i : Nat} {w : World} {K : Act → World → Prop} (hi : ops[i]? = some o) (hw : Region.wanted o (yielded ops a.tmps) = true) (v : Value) (w' : World) (hr : (execOp a.eval o).run Try.prog w = .ok (.value v) w') (h : K (a.put o.dst v) w') : wpOp Try.prog ops Q i K a w := by
  unfold wpOp
  simp only [hi]
  rw [if_pos hw]
  refine Or.inl ?_
  unfold Oper.wp
  rw [hr]
  exact h
theorem wpOp_yield {i : Nat} {w : World} {K : Act → World → Prop} (hi : ops[i]? = some o) (hw : Region.wanted o (yielded ops a.tmps) = true) (v : Value) (hy : YieldsIf Try.prog ops (fun x => x = w) o v a) (h : K (a.put o.dst v) w) : wpOp Try.prog ops Q i K a w := by
  rcases hy with ⟨_, hv⟩ | ⟨hn, _⟩
  · exact wpOp_run hi hw v w (hv w rfl) h
  · rw [hw] at hn; cases hn
theorem yl_lenEx {S : World → Prop} (hw : Region.wanted o (yielded ops a.tmps) = true) (x : Operand) (ho : o.op = .call { callee := .builtin .len, args := #[x], argTypes := #[26] }) (p : Option Addr) (n c : Nat) (hx : a.eval x = .slice p n c) : YieldsIf Try.prog ops S o (.int .i64 n) a :=
  Or.inl ⟨hw, fun w hS => by
    unfold execOp
    simp only [ho, resolve, invoke, builtin, Sem.run_bind, Sem.run_pure, Result.andThen_ok, List.map_toArray, List.map_cons, List.map_nil, hx]
    go_simp⟩
theorem wpAny_nil {P : Program} {md : Region.Mode} {fuel : Nat} {l : Array Bool} {w : World} (hr : Region.ready md ops l = []) (h : Q .normal a w) : wpAny P md ops Q fuel l a w := by
  cases fuel with
  | zero => exact ⟨hr, h⟩
  | succ n => exact ⟨fun _ => h, fun i hi => by rw [hr] at hi; cases hi⟩
theorem ready_nil {md : Region.Mode} {l : Array Bool} {n : Nat} (hs : l.size = ops.size) (hall : ∀ j, j < n → l.getD j false = true) (hn : ops.size ≤ n := by simp) : Region.ready md ops l = [] := by
  cases hr : Region.ready md ops l with
  | nil => rfl
  | cons i rs =>
    obtain ⟨h1, h2⟩ := ready_lt (md := md) (ops := ops) (l := l) (i := i) (by rw [hr]; simp)
    rw [getD_flip (by omega) true false, hall i (by omega)] at h2
    cases h2
end
theorem unlisted_all {n : Nat} : unlisted (Array.replicate n false) ≤ n := by
  unfold unlisted
  refine Nat.le_trans List.countP_le_length ?_
  simp
def rowObj (ds : List EC) : Obj := Obj.cells (ds.flatMap EC.list).toArray 28
set_option maxHeartbeats 4000000 in
set_option maxRecDepth 100000 in
theorem rn_row1 {o : Oper} {w : World} {x0 : Operand} {c0 : EC} (a : Act) (ho : o.op = .buildSlice 26 1 #[(0, x0)]) (h0 : a.eval x0 = c0.val) : (execOp a.eval o).run Try.prog w = .ok (.value (.slice (some ⟨w.heap.size, 0, none⟩) 1 1)) (w.alloc (rowObj [c0])) := by
  simp only [execOp, ho, List.map_toArray, List.map_cons, List.map_nil, h0, EC.val, rowObj, EC.list, List.flatMap_cons, List.flatMap_nil, List.cons_append, List.nil_append]
  go_simp
set_option maxHeartbeats 4000000 in
set_option maxRecDepth 100000 in
theorem rn_row2 {o : Oper} {w : World} {x0 x1 : Operand} {c0 c1 : EC} (a : Act) (ho : o.op = .buildSlice 26 2 #[(0, x0), (1, x1)]) (h0 : a.eval x0 = c0.val) (h1 : a.eval x1 = c1.val) : (execOp a.eval o).run Try.prog w = .ok (.value (.slice (some ⟨w.heap.size, 0, none⟩) 2 2)) (w.alloc (rowObj [c0, c1])) := by
  simp only [execOp, ho, List.map_toArray, List.map_cons, List.map_nil, h0, h1, EC.val, rowObj, EC.list, List.flatMap_cons, List.flatMap_nil, List.cons_append, List.nil_append]
  go_simp
set_option maxHeartbeats 4000000 in
set_option maxRecDepth 100000 in
theorem rn_row7 {o : Oper} {w : World} {x0 x1 x2 x3 x4 x5 x6 : Operand} {c0 c1 c2 c3 c4 c5 c6 : EC} (a : Act) (ho : o.op = .buildSlice 26 7 #[(0, x0), (1, x1), (2, x2), (3, x3), (4, x4), (5, x5), (6, x6)]) (h0 : a.eval x0 = c0.val) (h1 : a.eval x1 = c1.val) (h2 : a.eval x2 = c2.val) (h3 : a.eval x3 = c3.val) (h4 : a.eval x4 = c4.val) (h5 : a.eval x5 = c5.val) (h6 : a.eval x6 = c6.val) : (execOp a.eval o).run Try.prog w = .ok (.value (.slice (some ⟨w.heap.size, 0, none⟩) 7 7)) (w.alloc (rowObj [c0, c1, c2, c3, c4, c5, c6])) := by
  simp only [execOp, ho, List.map_toArray, List.map_cons, List.map_nil, h0, h1, h2, h3, h4, h5, h6, EC.val, rowObj, EC.list, List.flatMap_cons, List.flatMap_nil, List.cons_append, List.nil_append]
  go_simp
theorem flat_at (ds : List EC) (j r : Nat) (hr : r < 7) : ∀ (i : Nat) (d : EC), ds[i]? = some d → i = j → (ds.flatMap EC.list)[j * 7 + r]? = d.list[r]? := by
  induction ds generalizing j with
  | nil => intro i d h; simp at h
  | cons z ds ih =>
    intro i d h e
    subst e
    rw [List.flatMap_cons]
    cases i with
    | zero =>
      simp at h
      subst h
      rw [List.getElem?_append_left (by rw [EC.list_len]; omega), Nat.zero_mul, Nat.zero_add]
    | succ i =>
      rw [List.getElem?_append_right (by rw [EC.list_len]; omega), EC.list_len, show (i + 1) * 7 + r - 7 = i * 7 + r by omega]
      exact ih i i d (by simpa using h) rfl
theorem rows_new (n : Nat) (w : World) (ds : List (EC × ExV)) (h : ∀ q ∈ ds, ExAt n w q.1.val q.2) (hl : ds.length ≤ 1000 := by simp) : RowsX n (w.alloc (rowObj (ds.map (·.1)))) (.slice (some ⟨w.heap.size, 0, none⟩) ds.length ds.length) (ds.map (·.2)) := by
  have hn := heap_new w (rowObj (ds.map (·.1)))
  refine ⟨_, ds.length, by rw [List.length_map], by simp, by omega, fun e => by simp at e, fun i hi => ?_⟩
  rw [List.length_map] at hi
  refine ⟨w.heap.size, 0, (ds[i]).1, rfl, by simp, EcAt.ofRange fun r v hv => ?_, ?_⟩
  · have hr : r < 7 := (List.getElem?_eq_some_iff.1 hv).1
    unfold rowObj at hn ⊢
    rw [cell_heap hn, Nat.zero_add]
    rw [List.getElem?_toArray, flat_at _ i r hr i (ds[i]).1 (by rw [List.getElem?_map, List.getElem?_eq_getElem hi]; rfl) rfl]
    exact hv
  · have e2 : (ds.map (·.2)).getD i noX = (ds[i]).2 := by
      rw [List.getD_eq_getElem?_getD, List.getElem?_map, List.getElem?_eq_getElem hi]
      rfl
    rw [e2]
    exact ExAt.on ((Below.refl _ w).alloc (Nat.le_refl _) _) n (h _ (List.getElem_mem _))
theorem cp_not {n : Nat} {x : ExV} (h : cpX n x) : cpX (n + 1) (notX x) := cp_many (by simp) (fun y hy => by simp at hy; rw [hy]; exact h)
theorem cp_none {n : Nat} (kind : Int) : cpX n ⟨kind, 0, noSet, []⟩ := by
  cases n with
  | zero => trivial
  | succ n => exact cp_many (by simp) (cp_nil n)
theorem cp_xa {n : Nat} {x : ExV} (h : cpX n x) : ∀ y ∈ [x, andX []], cpX n y := fun y hy => by
  simp only [List.mem_cons, List.not_mem_nil, or_false] at hy
  rcases hy with rfl | rfl
  · exact h
  · exact cp_none 2
theorem cp_ox {n : Nat} {x : ExV} (h : cpX n x) : ∀ y ∈ [orX [], x], cpX n y := fun y hy => by
  simp only [List.mem_cons, List.not_mem_nil, or_false] at hy
  rcases hy with rfl | rfl
  · exact cp_none 3
  · exact h
theorem cp_xx {n : Nat} {x : ExV} (h : cpX n x) : ∀ y ∈ [x, x], cpX n y := fun y hy => by
  simp only [List.mem_cons, List.not_mem_nil, or_false, or_self] at hy
  rw [hy]; exact h
theorem cp_x1 {n : Nat} {x : ExV} (h : cpX n x) : ∀ y ∈ [x], cpX n y := fun y hy => by
  simp only [List.mem_cons, List.not_mem_nil, or_false] at hy
  rw [hy]; exact h
end Go.Proofs.Ytoplmioejebnnaa
