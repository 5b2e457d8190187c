/-
  The program's copiedSet: a set in new memory.
-/
import Derived.Test.YtoplmioejebnnaaXK
import Derived.Deep.CutRange
set_option linter.unusedSimpArgs false
set_option linter.unusedVariables false
namespace Go.Proofs.Ytoplmioejebnnaa
open Go.RowKit

theorem setAt_ints {w : World} {s : SC} {S : SetV} (h : SetAt w s.val S) : RngsAt w (.slice s.p s.n s.c) S.ints := by
  obtain ⟨vi, vs, e, hI, hS⟩ := h
  unfold SC.val at e
  simp at e
  obtain ⟨e1, e2, e3, e4⟩ := e
  rw [e2]; exact hI
theorem setAt_strs {w : World} {s : SC} {S : SetV} (h : SetAt w s.val S) : StrsAt w (.slice s.q s.m s.e) S.strs := by
  obtain ⟨vi, vs, e, hI, hS⟩ := h
  unfold SC.val at e
  simp at e
  obtain ⟨e1, e2, e3, e4⟩ := e
  rw [e4]; exact hS
theorem setAt_mk {w : World} {s : SC} {S : SetV} (h : SetAt w s.val S) {w' : World} {p q : Option Addr} {n c m e : Nat} (hr : RngsAt w' (.slice p n c) S.ints) (hs : StrsAt w' (.slice q m e) S.strs) : SetAt w' (SC.mk s.a p n c s.d q m e).val S := by
  obtain ⟨vi, vs, ee, hI, hS⟩ := h
  unfold SC.val at ee
  simp at ee
  obtain ⟨e1, e2, e3, e4⟩ := ee
  refine ⟨_, _, ?_, hr, hs⟩
  unfold SC.val
  rw [← e1, ← e3]
def stObj (s : SC) : Obj := Obj.cells #[.bool s.a, .slice s.p s.n s.c, .bool s.d, .slice s.q s.m s.e] 25
theorem stCells {w : World} {g : Nat} {t : TypeId} {x0 x1 x2 x3 : Value} (h : w.heap[g]? = some (.cells #[x0, x1, x2, x3] t (0, 0))) : w.cell? ⟨g, 0, none⟩ = some x0 ∧ w.cell? ⟨g, 1, none⟩ = some x1 ∧ w.cell? ⟨g, 2, none⟩ = some x2 ∧ w.cell? ⟨g, 3, none⟩ = some x3 :=
  ⟨cell_heap h 0, cell_heap h 1, cell_heap h 2, cell_heap h 3⟩
theorem infoSet4 : (Try.prog.info? 25).map (·.size) = some 4 := by kernel_rfl
/-- Two blocks of a call's own, the first ones. -/
structure Pair (w W : World) (o1 o2 : Obj) : Prop where
  e1 : W.heap[w.heap.size]? = some o1
  e2 : W.heap[w.heap.size + 1]? = some o2
  b : Below w.heap.size w W
theorem Pair.new (w : World) (o1 o2 : Obj) : Pair w ((w.alloc o1).alloc o2) o1 o2 := by
  refine ⟨(Below.heap_alloc (w.alloc o1) o2 w.heap.size (by simp)).trans (heap_new w _), ?_, ((Below.refl _ w).alloc (Nat.le_refl _) _).alloc (by simp) _⟩
  have := heap_new (w.alloc o1) o2
  rw [World.size_alloc] at this
  exact this
theorem Pair.on {w W W' : World} {o1 o2 : Obj} (h : Pair w W o1 o2) (hb : Below W.heap.size W W') : Pair w W' o1 o2 := ⟨(hb.block _ (lt_heap h.e1)).trans h.e1, (hb.block _ (lt_heap h.e2)).trans h.e2, h.b.trans (hb.mono h.b.size)⟩
theorem Pair.put1 {w W : World} {cs : Array Value} {t : TypeId} {o2 : Obj} (h : Pair w W (.cells cs t (0, 0)) o2) (i : Nat) (v : Value) : Pair w (W.setCell ⟨w.heap.size, i, none⟩ v) (.cells (cs.setIfInBounds i v) t (0, 0)) o2 :=
  ⟨heap_setCell (i := i) v h.e1, (Below.heap_setCell _ _ _ _ (by simp)).trans h.e2, h.b.setCell (p := ⟨w.heap.size, i, none⟩) (Nat.le_refl _) v⟩
theorem Pair.put2 {w W : World} {cs : Array Value} {t : TypeId} {o1 : Obj} (h : Pair w W o1 (.cells cs t (0, 0))) (i : Nat) (v : Value) : Pair w (W.setCell ⟨w.heap.size + 1, i, none⟩ v) o1 (.cells (cs.setIfInBounds i v) t (0, 0)) :=
  ⟨(Below.heap_setCell _ _ _ _ (by simp)).trans h.e1, heap_setCell (i := i) v h.e2, h.b.setCell (p := ⟨w.heap.size + 1, i, none⟩) (by simp) v⟩
theorem Pair.size {w W : World} {o1 o2 : Obj} (h : Pair w W o1 o2) : w.heap.size + 1 < W.heap.size := lt_heap h.e2

set_option maxHeartbeats 4000000 in
set_option maxRecDepth 100000 in
theorem copiedSet_any (s : SC) (S : SetV) (w : World) (hv : SetAt w s.val S) (h1 : S.ints.length * 16 ≤ 140737488355328) (h2 : S.strs.length * 16 ≤ 140737488355328) :
    Calls Try.prog 41 #[s.val] w fun r w' => (∃ y : SC, r = .returned y.val ∧ ∀ w'', Kept w.heap.size w' w'' → SetAt w'' y.val S) ∧ Below w.heap.size w w' := by
  have HV := hide hv
  have H1 := hide h1
  have H2 := hide h2
  have T0 := hide (Pair.new w (stObj s) (stObj SC.zero))
  clear hv h1 h2
  unfold stObj SC.zero at T0
  unfold SC.val
  go_enter Try.func41, Try.ntmps41
  go_wp2_with fail
  generalize (w.alloc (Obj.cells #[.bool s.a, .slice s.p s.n s.c, .bool s.d, .slice s.q s.m s.e] 25)).alloc (Obj.cells #[.bool false, .slice none 0 0, .bool false, .slice none 0 0] 25) = W0 at T0 ⊢
  refine (cloneR_new _ S.ints W0 (setAt_ints (HV.out.on T0.out.b)) H1.out).mono ?_
  rintro r w1 ⟨⟨p, n, c, rfl, hR⟩, b1⟩
  have T1 := hide (T0.out.on b1)
  have HR := hide hR
  have K1 := hide T0.out.size
  have K0 := hide b1.size
  obtain ⟨c0, c1, c2, c3⟩ := stCells T1.out.e1
  have z1 := soft_heap T1.out.e1 1
  have T2 := hide (T1.out.put1 1 (.slice p n c))
  clear hR b1 T0
  go_wp2_with fail
  refine (cloneS_new _ S.strs _ (setAt_strs (HV.out.on T2.out.b)) H2.out).mono ?_
  rintro r w2 ⟨⟨q, m, e, rfl, hS⟩, b2⟩
  have T3 := hide (T2.out.on b2)
  have K2 := hide (Kept.trans (Kept.setCell w1 w.heap.size 1 (.slice p n c) (m := W0.heap.size) (by have := K1.out; omega)) (Kept.ofBelow b2))
  have L2 := hide (show W0.heap.size ≤ (w1.setCell ⟨w.heap.size, 1, none⟩ (.slice p n c)).heap.size by have := K0.out; simp; omega)
  have HS := hide hS
  have e1 : w2.heap[w.heap.size]? = some (.cells #[.bool s.a, .slice p n c, .bool s.d, .slice s.q s.m s.e] 25 (0, 0)) := T3.out.e1
  obtain ⟨d0, d1, d2, d3⟩ := stCells e1
  have y3 := soft_heap e1 3
  have T4 : Hid (Pair w (w2.setCell ⟨w.heap.size, 3, none⟩ (.slice q m e)) (.cells #[.bool s.a, .slice p n c, .bool s.d, .slice q m e] 25 (0, 0)) (.cells #[.bool false, .slice none 0 0, .bool false, .slice none 0 0] 25 (0, 0))) := hide (T3.out.put1 3 (.slice q m e))
  have K3 := hide (Kept.setCell w2 w.heap.size 3 (.slice q m e) (m := W0.heap.size) (by have := K1.out; omega))
  clear hS b2 T2 c0 c1 c2 c3 z1 e1 T3 T1
  go_upto_region 3 with fail
  generalize w2.setCell ⟨w.heap.size, 3, none⟩ (.slice q m e) = w3 at T4 K3 ⊢
  clear d0 d1 d2 d3 y3
  obtain ⟨c0, c1, c2, c3⟩ := stCells T4.out.e1
  obtain ⟨d0, d1, d2, d3⟩ := stCells T4.out.e2
  have z0 := soft_heap T4.out.e2 0
  have z1 := soft_heap T4.out.e2 1
  have z2 := soft_heap T4.out.e2 2
  have z3 := soft_heap T4.out.e2 3
  have T5 : Hid (Pair w ((((w3.setCell ⟨w.heap.size + 1, 0, none⟩ (.bool s.a)).setCell ⟨w.heap.size + 1, 1, none⟩ (.slice p n c)).setCell ⟨w.heap.size + 1, 2, none⟩ (.bool s.d)).setCell ⟨w.heap.size + 1, 3, none⟩ (.slice q m e)) (.cells #[.bool s.a, .slice p n c, .bool s.d, .slice q m e] 25 (0, 0)) (.cells #[.bool s.a, .slice p n c, .bool s.d, .slice q m e] 25 (0, 0))) := hide ((((T4.out.put2 0 (.bool s.a)).put2 1 (.slice p n c)).put2 2 (.bool s.d)).put2 3 (.slice q m e))
  have K4 := hide ((((Kept.setCell w3 (w.heap.size + 1) 0 (.bool s.a) (m := W0.heap.size) K1.out).trans (Kept.setCell _ (w.heap.size + 1) 1 (.slice p n c) K1.out)).trans (Kept.setCell _ (w.heap.size + 1) 2 (.bool s.d) K1.out)).trans (Kept.setCell _ (w.heap.size + 1) 3 (.slice q m e) K1.out))
  go_wp2
  refine bodyPost_ret (results_cell_row rfl _ _ (w.heap.size + 1) 25 _ (0, 0) _ rfl T5.out.e2 Try.underlying25 rfl infoSet4) rfl ⟨⟨⟨s.a, p, n, c, s.d, q, m, e⟩, rfl, fun w'' hk => ?_⟩, T5.out.b⟩
  have hk' := hk.mono (m' := W0.heap.size) (by have := K1.out; omega)
  have k3 := (K3.out.trans K4.out).trans hk'
  exact setAt_mk HV.out (HR.out w'' (K2.out.trans k3)) (HS.out w'' (k3.mono L2.out))
end Go.Proofs.Ytoplmioejebnnaa
