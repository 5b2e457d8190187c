/-
  New blocks of expressions; rows of them that a call owns.
-/
import Derived.Test.YtoplmioejebnnaaXU
set_option linter.unusedSimpArgs false
set_option linter.unusedVariables false
namespace Go.Proofs.Ytoplmioejebnnaa
open Go.RowKit

theorem exIn_put {w : World} {g : Nat} (h : ExIn w g ec0) (c : EC) : ExIn (w.setCells g 0 c.list) g c :=
  heap_put (heap_put (heap_put (heap_put (heap_put (heap_put (heap_put h 0 (.int .i64 c.k)) 1 (.int .i64 c.t)) 2 (.bool c.s.a)) 3 (.slice c.s.p c.s.n c.s.c)) 4 (.bool c.s.d)) 5 (.slice c.s.q c.s.m c.s.e)) 6 (.slice c.p c.n c.c)
theorem exIn_there {w : World} {g : Nat} {c0 : EC} (h : ExIn w g c0) : w.there g 0 7 := fun j hj => by
  refine ⟨?_, soft_heap h _⟩
  rw [h.ec.range j _ (List.getElem?_eq_getElem (show j < c0.list.length from hj))]
  rfl
section
variable {ops : Array Oper} {Q : Exit → Act → World → Prop} {a : Act}
set_option maxRecDepth 100000 in
theorem rn_allocEx {o : Oper} {w : World} (ho : o.op = .alloc 28) : (execOp a.eval o).run Try.prog w = .ok (.value (.pointer (some ⟨w.heap.size, 0, none⟩))) (w.alloc (exObj ec0)) := by
  simp only [execOp, ho, exObj, ec0, SC.zero]
  go_simp
/-- Two new blocks, and two expressions stored there. -/
theorem wl_newEx2 {o1 o2 o3 o4 : Oper} {rest : List Oper} {w : World} (hw1 : Region.wanted o1 (yielded ops a.tmps) = true) (ho1 : o1.op = .alloc 28) (hw2 : ∀ v, Region.wanted o2 (yielded ops (a.put o1.dst v).tmps) = true) (ho2 : o2.op = .alloc 28) (x1 y1 x2 y2 : Operand)
    (ho3 : o3.op = .store 28 x1 y1) (hg3 : o3.guard = none) (ho4 : o4.op = .store 28 x2 y2) (hg4 : o4.guard = none) {c1 c2 : EC}
    (hx1 : ∀ v1 v2, ((a.put o1.dst v1).put o2.dst v2).eval x1 = v1) (hy1 : ∀ v1 v2, ((a.put o1.dst v1).put o2.dst v2).eval y1 = c1.val)
    (hx2 : ∀ v1 v2, (((a.put o1.dst v1).put o2.dst v2).put o3.dst undef).eval x2 = v2) (hy2 : ∀ v1 v2, (((a.put o1.dst v1).put o2.dst v2).put o3.dst undef).eval y2 = c2.val)
    (h : ∀ W g1 g2, ExIn W g1 c1 → ExIn W g2 c2 → Below w.heap.size w W → wpList Try.prog ops Q rest ((((a.put o1.dst (.pointer (some ⟨g1, 0, none⟩))).put o2.dst (.pointer (some ⟨g2, 0, none⟩))).put o3.dst undef).put o4.dst undef) W) : wpList Try.prog ops Q (o1 :: o2 :: o3 :: o4 :: rest) a w := by
  refine wl_run hw1 _ _ (rn_allocEx ho1) ?_
  refine wl_run (hw2 _) _ _ (rn_allocEx ho2) ?_
  have b2 := ((Below.refl _ w).alloc (Nat.le_refl _) (exObj ec0)).alloc (by simp) (exObj ec0)
  have i1 : ExIn ((w.alloc (exObj ec0)).alloc (exObj ec0)) w.heap.size ec0 := (Pair.new w (exObj ec0) (exObj ec0)).e1
  have i2 : ExIn ((w.alloc (exObj ec0)).alloc (exObj ec0)) (w.heap.size + 1) ec0 := (Pair.new w (exObj ec0) (exObj ec0)).e2
  rw [show (w.alloc (exObj ec0)).heap.size = w.heap.size + 1 by simp]
  refine wpList_store_mid hg3 28 x1 y1 ho3 w.heap.size 0 c1.list.toArray (hx1 _ _) (hy1 _ _) (exIn_there i1) (by rw [infoEx]; rfl) (all_oneCell_toArray c1.list_one) ?_
  have j1 := exIn_put i1 c1
  have j2 : ExIn (((w.alloc (exObj ec0)).alloc (exObj ec0)).setCells w.heap.size 0 c1.list) (w.heap.size + 1) ec0 := (World.heap_setCells_other _ w.heap.size 0 c1.list (lt_heap i2) (by omega)).trans i2
  refine wpList_store_mid hg4 28 x2 y2 ho4 (w.heap.size + 1) 0 c2.list.toArray (hx2 _ _) (hy2 _ _) (exIn_there j2) (by rw [infoEx]; rfl) (all_oneCell_toArray c2.list_one) ?_
  refine h _ _ _ ?_ (exIn_put j2 c2) (Below.setCells (w.heap.size + 1) (by omega) c2.list 0 _ (Below.setCells w.heap.size (Nat.le_refl _) c1.list 0 _ b2))
  exact (World.heap_setCells_other _ (w.heap.size + 1) 0 c2.list (lt_heap j1) (by omega)).trans j1
end
theorem exCells_congr (es fs : Nat → EC) : ∀ n, (∀ j, j < n → es j = fs j) → exCells es n = exCells fs n
  | 0, _ => rfl
  | n + 1, h => by rw [exCells_succ, exCells_succ, exCells_congr es fs n (fun j hj => h j (by omega)), h n (by omega)]
theorem rows_own {w : World} {B : Nat} {v : Value} {fs : Nat → EC} {n : Nat} {l : List ExV} (ho : w.ownsRow B 28 7 v l.length (exCells fs l.length)) (hx : ∀ j, j < l.length → ExAt n w (fs j).val (l.getD j noX)) : RowsX n w v l := by
  obtain ⟨p, k, rfl, h1, h2, h3⟩ := ownsRow_form ho
  refine ⟨p, k, rfl, h1, by unfold maxLen at h2; omega, h3, fun i hi => ?_⟩
  cases p with
  | none => have := (h3 rfl).1; omega
  | some a =>
    obtain ⟨b, cur, rfl, hb1, hc⟩ := ownsRow_at ho
    refine ⟨b, 0, fs i, rfl, lt_heap hc, EcAt.ofRange fun r v hv => ?_, hx i hi⟩
    have hr : r < 7 := (List.getElem?_eq_some_iff.1 hv).1
    rw [Nat.zero_add]
    exact ownsRow_cell ho _ _ ((exCells_at fs i r hr l.length hi).trans hv)
theorem cp_many {n : Nat} {kind : Int} {l : List ExV} (hl : l.length ≤ 1000) (h : ∀ y ∈ l, cpX n y) : cpX (n + 1) ⟨kind, 0, noSet, l⟩ := ⟨by simp [noSet], by simp [noSet], hl, h⟩
end Go.Proofs.Ytoplmioejebnnaa
