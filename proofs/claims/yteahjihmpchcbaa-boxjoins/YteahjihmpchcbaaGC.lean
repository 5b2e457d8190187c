/-
  Steps of a region that keeps its order, of the fourth layer: new blocks, stores, rows.
-/
import Derived.Test.YteahjihmpchcbaaGB
import Derived.Test.YteahjihmpchcbaaBM
set_option linter.unusedSimpArgs false
set_option linter.unusedVariables false
namespace Go.Proofs.Yteahjihmpchcbaa
open Go.RowKit

/-- The block holds just this set. -/
def StIn (w : World) (g : Nat) (s : SC) : Prop := w.heap[g]? = some (.cells #[.bool s.a, .slice s.p s.n s.c, .bool s.d, .slice s.q s.m s.e] 25 (0, 0))
theorem StIn.on {w w' : World} {g : Nat} {s : SC} (h : StIn w g s) (hb : Below w.heap.size w w') : StIn w' g s := (hb.block _ (lt_heap h)).trans h
theorem StIn.cells {w : World} {g : Nat} {s : SC} (h : StIn w g s) : w.cell? ⟨g, 0, none⟩ = some (.bool s.a) ∧ w.cell? ⟨g, 1, none⟩ = some (.slice s.p s.n s.c) ∧ w.cell? ⟨g, 2, none⟩ = some (.bool s.d) ∧ w.cell? ⟨g, 3, none⟩ = some (.slice s.q s.m s.e) := setCells h
section
variable {ops : Array Oper} {Q : Exit → Act → World → Prop} {o : Oper} {a : Act}
set_option maxHeartbeats 4000000 in
set_option maxRecDepth 100000 in
theorem rn_boxBx {w : World} (x : Operand) (ho : o.op = .box 27 x) {s0 s1 s2 s3 : SC} (hx : a.eval x = bxVal s0 s1 s2 s3) : (execOp a.eval o).run Try.prog w = .ok (.value (.pointer (some ⟨w.heap.size, 0, none⟩))) (w.alloc (.cells #[.bool s0.a, .slice s0.p s0.n s0.c, .bool s0.d, .slice s0.q s0.m s0.e, .bool s1.a, .slice s1.p s1.n s1.c, .bool s1.d, .slice s1.q s1.m s1.e, .bool s2.a, .slice s2.p s2.n s2.c, .bool s2.d, .slice s2.q s2.m s2.e, .bool s3.a, .slice s3.p s3.n s3.c, .bool s3.d, .slice s3.q s3.m s3.e] 27)) := by
  simp only [execOp, ho, hx, bxVal]
  go_simp
set_option maxHeartbeats 4000000 in
set_option maxRecDepth 100000 in
theorem rn_boxSt {w : World} (x : Operand) (ho : o.op = .box 25 x) {s : SC} (hx : a.eval x = s.val) : (execOp a.eval o).run Try.prog w = .ok (.value (.pointer (some ⟨w.heap.size, 0, none⟩))) (w.alloc (.cells #[.bool s.a, .slice s.p s.n s.c, .bool s.d, .slice s.q s.m s.e] 25)) := by
  simp only [execOp, ho, hx, SC.val]
  go_simp
set_option maxHeartbeats 4000000 in
set_option maxRecDepth 100000 in
theorem rn_boxEv {w : World} (x : Operand) (ho : o.op = .box 31 x) {e : EvV} (hx : a.eval x = evVal e) : (execOp a.eval o).run Try.prog w = .ok (.value (.pointer (some ⟨w.heap.size, 0, none⟩))) (w.alloc (.cells #[.int .i64 e.v0.1, .int .i64 e.v0.2.1, .string e.v0.2.2, .int .i64 e.v1.1, .int .i64 e.v1.2.1, .string e.v1.2.2, .int .i64 e.v2.1, .int .i64 e.v2.2.1, .string e.v2.2.2, .int .i64 e.v3.1, .int .i64 e.v3.2.1, .string e.v3.2.2] 31)) := by
  simp only [execOp, ho, hx, evVal]
  go_simp
theorem wl_boxBx {rest : List Oper} {w : World} (hw : Region.wanted o (yielded ops a.tmps) = true) (x : Operand) (ho : o.op = .box 27 x) {s0 s1 s2 s3 : SC} (hx : a.eval x = bxVal s0 s1 s2 s3)
    (h : ∀ W g, BxIn W g s0 s1 s2 s3 → Below w.heap.size w W → wpList Try.prog ops Q rest (a.put o.dst (.pointer (some ⟨g, 0, none⟩))) W) : wpList Try.prog ops Q (o :: rest) a w :=
  wl_run hw _ _ (rn_boxBx x ho hx) (h _ _ (heap_new _ _) ((Below.refl _ w).alloc (Nat.le_refl _) _))
theorem wl_boxSt {rest : List Oper} {w : World} (hw : Region.wanted o (yielded ops a.tmps) = true) (x : Operand) (ho : o.op = .box 25 x) {s : SC} (hx : a.eval x = s.val)
    (h : ∀ W g, StIn W g s → Below w.heap.size w W → wpList Try.prog ops Q rest (a.put o.dst (.pointer (some ⟨g, 0, none⟩))) W) : wpList Try.prog ops Q (o :: rest) a w :=
  wl_run hw _ _ (rn_boxSt x ho hx) (h _ _ (heap_new _ _) ((Below.refl _ w).alloc (Nat.le_refl _) _))
theorem wl_boxEv {rest : List Oper} {w : World} (hw : Region.wanted o (yielded ops a.tmps) = true) (x : Operand) (ho : o.op = .box 31 x) {e : EvV} (hx : a.eval x = evVal e)
    (h : ∀ W g, EvIn W g e → Below w.heap.size w W → wpList Try.prog ops Q rest (a.put o.dst (.pointer (some ⟨g, 0, none⟩))) W) : wpList Try.prog ops Q (o :: rest) a w :=
  wl_run hw _ _ (rn_boxEv x ho hx) (h _ _ (heap_new _ _) ((Below.refl _ w).alloc (Nat.le_refl _) _))
set_option maxHeartbeats 4000000 in
set_option maxRecDepth 100000 in
theorem rn_allocBx {w : World} (ho : o.op = .alloc 27) : (execOp a.eval o).run Try.prog w = .ok (.value (.pointer (some ⟨w.heap.size, 0, none⟩))) (w.alloc (.cells #[.bool false, .slice none 0 0, .bool false, .slice none 0 0, .bool false, .slice none 0 0, .bool false, .slice none 0 0, .bool false, .slice none 0 0, .bool false, .slice none 0 0, .bool false, .slice none 0 0, .bool false, .slice none 0 0] 27)) := by
  simp only [execOp, ho]
  go_simp
set_option maxHeartbeats 4000000 in
set_option maxRecDepth 100000 in
theorem rn_storeBx {w : World} (x y : Operand) (ho : o.op = .store 27 x y) {q : Nat} {s0 s1 s2 s3 x0 x1 x2 x3 : SC} (hx : a.eval x = .pointer (some ⟨q, 0, none⟩)) (hy : a.eval y = bxVal x0 x1 x2 x3) (hq : BxIn w q s0 s1 s2 s3) :
    (execOp a.eval o).run Try.prog w = .ok .skip (((((((((((((((((w).setCell ⟨q, 0, none⟩ (.bool x0.a)).setCell ⟨q, 1, none⟩ (.slice x0.p x0.n x0.c)).setCell ⟨q, 2, none⟩ (.bool x0.d)).setCell ⟨q, 3, none⟩ (.slice x0.q x0.m x0.e)).setCell ⟨q, 4, none⟩ (.bool x1.a)).setCell ⟨q, 5, none⟩ (.slice x1.p x1.n x1.c)).setCell ⟨q, 6, none⟩ (.bool x1.d)).setCell ⟨q, 7, none⟩ (.slice x1.q x1.m x1.e)).setCell ⟨q, 8, none⟩ (.bool x2.a)).setCell ⟨q, 9, none⟩ (.slice x2.p x2.n x2.c)).setCell ⟨q, 10, none⟩ (.bool x2.d)).setCell ⟨q, 11, none⟩ (.slice x2.q x2.m x2.e)).setCell ⟨q, 12, none⟩ (.bool x3.a)).setCell ⟨q, 13, none⟩ (.slice x3.p x3.n x3.c)).setCell ⟨q, 14, none⟩ (.bool x3.d)).setCell ⟨q, 15, none⟩ (.slice x3.q x3.m x3.e)) := by
  obtain ⟨c0, c1, c2, c3, c4, c5, c6, c7, c8, c9, c10, c11, c12, c13, c14, c15⟩ := hq.cells
  have z0 := hq.soft 0
  have z1 := hq.soft 1
  have z2 := hq.soft 2
  have z3 := hq.soft 3
  have z4 := hq.soft 4
  have z5 := hq.soft 5
  have z6 := hq.soft 6
  have z7 := hq.soft 7
  have z8 := hq.soft 8
  have z9 := hq.soft 9
  have z10 := hq.soft 10
  have z11 := hq.soft 11
  have z12 := hq.soft 12
  have z13 := hq.soft 13
  have z14 := hq.soft 14
  have z15 := hq.soft 15
  simp only [execOp, ho, hx, hy, bxVal]
  go_simp
/-- A new block, and a box stored there. -/
theorem wl_newBx {o2 : Oper} {rest : List Oper} {w : World} (hw : Region.wanted o (yielded ops a.tmps) = true) (ho : o.op = .alloc 27) (x y : Operand) (ho2 : o2.op = .store 27 x y)
    (hx : ∀ v, (a.put o.dst v).eval x = v) {x0 x1 x2 x3 : SC} (hy : ∀ v, (a.put o.dst v).eval y = bxVal x0 x1 x2 x3) (hw2 : ∀ v, Region.wanted o2 (yielded ops (a.put o.dst v).tmps) = true)
    (h : ∀ W g, BxIn W g x0 x1 x2 x3 → Below w.heap.size w W → wpList Try.prog ops Q rest ((a.put o.dst (.pointer (some ⟨g, 0, none⟩))).put o2.dst undef) W) : wpList Try.prog ops Q (o :: o2 :: rest) a w := by
  refine wl_run hw _ _ (rn_allocBx ho) ?_
  have hz := zero_in w w.heap.size rfl
  obtain ⟨q1, q2⟩ := put_whole x0 x1 x2 x3 hz
  exact wl_skip (hw2 _) _ (rn_storeBx x y ho2 (hx _) (hy _) hz) (h _ _ q1 (q2.below _ _ (Nat.le_refl _) ((Below.refl _ w).alloc (Nat.le_refl _) _)))
set_option maxHeartbeats 4000000 in
set_option maxRecDepth 100000 in
theorem rn_rowSt1 {w : World} (x : Operand) (ho : o.op = .buildSlice 42 1 #[(0, x)]) {s : SC} (hx : a.eval x = s.val) : (execOp a.eval o).run Try.prog w = .ok (.value (.slice (some ⟨w.heap.size, 0, none⟩) 1 1)) (w.alloc (.cells #[.bool s.a, .slice s.p s.n s.c, .bool s.d, .slice s.q s.m s.e] 25)) := by
  simp only [execOp, ho, List.map_toArray, List.map_cons, List.map_nil, hx, SC.val]
  go_simp
theorem set_row {w : World} {s : SC} {A : SetV} (h : SetAt w s.val A) : SetsAt (w.alloc (.cells #[.bool s.a, .slice s.p s.n s.c, .bool s.d, .slice s.q s.m s.e] 25)) (.slice (some ⟨w.heap.size, 0, none⟩) 1 1) [A] := by
  obtain ⟨x, y, z, t⟩ := h.scForm
  have := sets_one (vi := .slice s.p s.n s.c) (vs := .slice s.q s.m s.e) (A := A) (w := w) (by rw [← x, ← z]; exact h) _ rfl
  rw [x, z]
  exact this
theorem wl_rowSt1 {rest : List Oper} {w : World} (hw : Region.wanted o (yielded ops a.tmps) = true) (x : Operand) (ho : o.op = .buildSlice 42 1 #[(0, x)]) {s : SC} (hx : a.eval x = s.val) {A : SetV} (hA : SetAt w s.val A)
    (h : ∀ W v, SetsAt W v [A] → Below w.heap.size w W → wpList Try.prog ops Q rest (a.put o.dst v) W) : wpList Try.prog ops Q (o :: rest) a w :=
  wl_run hw _ _ (rn_rowSt1 x ho hx) (h _ _ (set_row hA) ((Below.refl _ w).alloc (Nat.le_refl _) _))
set_option maxHeartbeats 4000000 in
set_option maxRecDepth 100000 in
theorem rn_rowBx1 {w : World} (xa : Operand) (ho : o.op = .buildSlice 34 1 #[(0, xa)]) {a0 a1 a2 a3 : SC} (ha : a.eval xa = bxVal a0 a1 a2 a3) : (execOp a.eval o).run Try.prog w = .ok (.value (.slice (some ⟨w.heap.size, 0, none⟩) 1 1)) (w.alloc (.cells #[.bool a0.a, .slice a0.p a0.n a0.c, .bool a0.d, .slice a0.q a0.m a0.e, .bool a1.a, .slice a1.p a1.n a1.c, .bool a1.d, .slice a1.q a1.m a1.e, .bool a2.a, .slice a2.p a2.n a2.c, .bool a2.d, .slice a2.q a2.m a2.e, .bool a3.a, .slice a3.p a3.n a3.c, .bool a3.d, .slice a3.q a3.m a3.e] 27)) := by
  simp only [execOp, ho, List.map_toArray, List.map_cons, List.map_nil, ha, bxVal]
  go_simp
theorem wl_rowBx1 {rest : List Oper} {w : World} (hw : Region.wanted o (yielded ops a.tmps) = true) (xa : Operand) (ho : o.op = .buildSlice 34 1 #[(0, xa)]) {a0 a1 a2 a3 : SC} (ha : a.eval xa = bxVal a0 a1 a2 a3) {A : BoxV} (ba : BoxAt w (bxVal a0 a1 a2 a3) A)
    (h : ∀ W v, BoxesAt W v [A] → Below w.heap.size w W → wpList Try.prog ops Q rest (a.put o.dst v) W) : wpList Try.prog ops Q (o :: rest) a w :=
  wl_run hw _ _ (rn_rowBx1 xa ho ha) (h _ _ (boxes_one ba _ rfl) ((Below.refl _ w).alloc (Nat.le_refl _) _))
set_option maxHeartbeats 4000000 in
set_option maxRecDepth 100000 in
theorem rn_rowBx2 {w : World} (xa xb : Operand) (ho : o.op = .buildSlice 34 2 #[(0, xa), (1, xb)]) {a0 a1 a2 a3 b0 b1 b2 b3 : SC} (ha : a.eval xa = bxVal a0 a1 a2 a3) (hb : a.eval xb = bxVal b0 b1 b2 b3) : (execOp a.eval o).run Try.prog w = .ok (.value (.slice (some ⟨w.heap.size, 0, none⟩) 2 2)) (w.alloc (.cells #[.bool a0.a, .slice a0.p a0.n a0.c, .bool a0.d, .slice a0.q a0.m a0.e, .bool a1.a, .slice a1.p a1.n a1.c, .bool a1.d, .slice a1.q a1.m a1.e, .bool a2.a, .slice a2.p a2.n a2.c, .bool a2.d, .slice a2.q a2.m a2.e, .bool a3.a, .slice a3.p a3.n a3.c, .bool a3.d, .slice a3.q a3.m a3.e, .bool b0.a, .slice b0.p b0.n b0.c, .bool b0.d, .slice b0.q b0.m b0.e, .bool b1.a, .slice b1.p b1.n b1.c, .bool b1.d, .slice b1.q b1.m b1.e, .bool b2.a, .slice b2.p b2.n b2.c, .bool b2.d, .slice b2.q b2.m b2.e, .bool b3.a, .slice b3.p b3.n b3.c, .bool b3.d, .slice b3.q b3.m b3.e] 27)) := by
  simp only [execOp, ho, List.map_toArray, List.map_cons, List.map_nil, ha, hb, bxVal]
  go_simp
theorem wl_rowBx2 {rest : List Oper} {w : World} (hw : Region.wanted o (yielded ops a.tmps) = true) (xa xb : Operand) (ho : o.op = .buildSlice 34 2 #[(0, xa), (1, xb)]) {a0 a1 a2 a3 b0 b1 b2 b3 : SC} (ha : a.eval xa = bxVal a0 a1 a2 a3) (hb : a.eval xb = bxVal b0 b1 b2 b3) {A B : BoxV} (ba : BoxAt w (bxVal a0 a1 a2 a3) A) (bb : BoxAt w (bxVal b0 b1 b2 b3) B)
    (h : ∀ W v, BoxesAt W v [A, B] → Below w.heap.size w W → wpList Try.prog ops Q rest (a.put o.dst v) W) : wpList Try.prog ops Q (o :: rest) a w :=
  wl_run hw _ _ (rn_rowBx2 xa xb ho ha hb) (h _ _ (boxes_two ba bb _ rfl) ((Below.refl _ w).alloc (Nat.le_refl _) _))
set_option maxHeartbeats 4000000 in
set_option maxRecDepth 100000 in
theorem rn_rowBx3 {w : World} (xa xb xc : Operand) (ho : o.op = .buildSlice 34 3 #[(0, xa), (1, xb), (2, xc)]) {a0 a1 a2 a3 b0 b1 b2 b3 c0 c1 c2 c3 : SC} (ha : a.eval xa = bxVal a0 a1 a2 a3) (hb : a.eval xb = bxVal b0 b1 b2 b3) (hc : a.eval xc = bxVal c0 c1 c2 c3) : (execOp a.eval o).run Try.prog w = .ok (.value (.slice (some ⟨w.heap.size, 0, none⟩) 3 3)) (w.alloc (.cells #[.bool a0.a, .slice a0.p a0.n a0.c, .bool a0.d, .slice a0.q a0.m a0.e, .bool a1.a, .slice a1.p a1.n a1.c, .bool a1.d, .slice a1.q a1.m a1.e, .bool a2.a, .slice a2.p a2.n a2.c, .bool a2.d, .slice a2.q a2.m a2.e, .bool a3.a, .slice a3.p a3.n a3.c, .bool a3.d, .slice a3.q a3.m a3.e, .bool b0.a, .slice b0.p b0.n b0.c, .bool b0.d, .slice b0.q b0.m b0.e, .bool b1.a, .slice b1.p b1.n b1.c, .bool b1.d, .slice b1.q b1.m b1.e, .bool b2.a, .slice b2.p b2.n b2.c, .bool b2.d, .slice b2.q b2.m b2.e, .bool b3.a, .slice b3.p b3.n b3.c, .bool b3.d, .slice b3.q b3.m b3.e, .bool c0.a, .slice c0.p c0.n c0.c, .bool c0.d, .slice c0.q c0.m c0.e, .bool c1.a, .slice c1.p c1.n c1.c, .bool c1.d, .slice c1.q c1.m c1.e, .bool c2.a, .slice c2.p c2.n c2.c, .bool c2.d, .slice c2.q c2.m c2.e, .bool c3.a, .slice c3.p c3.n c3.c, .bool c3.d, .slice c3.q c3.m c3.e] 27)) := by
  simp only [execOp, ho, List.map_toArray, List.map_cons, List.map_nil, ha, hb, hc, bxVal]
  go_simp
theorem wl_rowBx3 {rest : List Oper} {w : World} (hw : Region.wanted o (yielded ops a.tmps) = true) (xa xb xc : Operand) (ho : o.op = .buildSlice 34 3 #[(0, xa), (1, xb), (2, xc)]) {a0 a1 a2 a3 b0 b1 b2 b3 c0 c1 c2 c3 : SC} (ha : a.eval xa = bxVal a0 a1 a2 a3) (hb : a.eval xb = bxVal b0 b1 b2 b3) (hc : a.eval xc = bxVal c0 c1 c2 c3) {A B C : BoxV} (ba : BoxAt w (bxVal a0 a1 a2 a3) A) (bb : BoxAt w (bxVal b0 b1 b2 b3) B) (bc : BoxAt w (bxVal c0 c1 c2 c3) C)
    (h : ∀ W v, BoxesAt W v [A, B, C] → Below w.heap.size w W → wpList Try.prog ops Q rest (a.put o.dst v) W) : wpList Try.prog ops Q (o :: rest) a w :=
  wl_run hw _ _ (rn_rowBx3 xa xb xc ho ha hb hc) (h _ _ (boxes_three ba bb bc _ rfl) ((Below.refl _ w).alloc (Nat.le_refl _) _))

end
end Go.Proofs.Yteahjihmpchcbaa
