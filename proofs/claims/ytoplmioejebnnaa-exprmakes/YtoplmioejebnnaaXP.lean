/-
  The program's Atom, And, Or, Not.
-/
import Derived.Test.YtoplmioejebnnaaXO
set_option linter.unusedSimpArgs false
set_option linter.unusedVariables false
namespace Go.Proofs.Ytoplmioejebnnaa
open Go.RowKit

theorem heap_put {w : World} {g : Nat} {cs : Array Value} {t : TypeId} (h : w.heap[g]? = some (.cells cs t (0, 0))) (i : Nat) (v : Value) : (w.setCell ⟨g, i, none⟩ v).heap[g]? = some (.cells (cs.setIfInBounds i v) t (0, 0)) := heap_setCell (i := i) v h
theorem rows_ex {n : Nat} {w : World} {v : Value} {l : List ExV} (kind : Int) (k0 : -9223372036854775808 ≤ kind) (k1 : kind ≤ 9223372036854775807) (h : RowsX n w v l) : ∃ p c, v = .slice p l.length c ∧ ExAt (n + 1) w (EC.val ⟨kind, 0, SC.zero, p, l.length, c⟩) ⟨kind, 0, noSet, l⟩ := by
  obtain ⟨p, c, e, h1, h2, h3, h4⟩ := h
  exact ⟨p, c, e, ⟨kind, 0, SC.zero, p, l.length, c⟩, rfl, ⟨rfl, rfl, rfl, k0, k1, by simp, by simp, noSet_at w, h1, h2, h3⟩, h4⟩
set_option maxHeartbeats 4000000 in
set_option maxRecDepth 100000 in
theorem progAnd_new (n : Nat) (v : Value) (l : List ExV) (w0 w : World) (hv : RowsY n w0 w v l) (hb0 : Below w0.heap.size w0 w) (hl : l.length ≤ 1000) (hcp : ∀ y ∈ l, cpX n y) :
    Calls Try.prog 19 #[v] w fun r w' => (∃ d : EC, r = .returned d.val ∧ ∀ w'', Kept w.heap.size w' w'' → Below w0.heap.size w0 w'' → ExAt (n + 1) w'' d.val (andX l)) ∧ Below w.heap.size w w' := by
  have HB0 : Hid (∀ W, Below w.heap.size w W → Below w0.heap.size w0 W) := hide (fun W h => hb0.trans (h.mono hb0.size))
  have b0 := (Below.refl _ w).alloc (Nat.le_refl _) (Obj.cells #[.int .i64 0, .int .i64 0, .bool false, .slice none 0 0, .bool false, .slice none 0 0, .slice none 0 0] 28)
  have X := hide (copiedList_any n v l w0 (w.alloc (Obj.cells #[.int .i64 0, .int .i64 0, .bool false, .slice none 0 0, .bool false, .slice none 0 0, .slice none 0 0] 28)) (hv.grow b0) (HB0.out _ b0) hl hcp)
  have E0 := hide (heap_new w (Obj.cells #[.int .i64 0, .int .i64 0, .bool false, .slice none 0 0, .bool false, .slice none 0 0, .slice none 0 0] 28))
  have S0 := hide (show (w.alloc (Obj.cells #[.int .i64 0, .int .i64 0, .bool false, .slice none 0 0, .bool false, .slice none 0 0, .slice none 0 0] 28)).heap.size = w.heap.size + 1 by simp)
  have B0 := hide b0
  obtain ⟨p, cc, rfl, _⟩ := hv
  clear b0 hl hcp hb0
  go_enter Try.func19, Try.ntmps19
  go_wp2_with fail
  generalize w.alloc (Obj.cells #[.int .i64 0, .int .i64 0, .bool false, .slice none 0 0, .bool false, .slice none 0 0, .slice none 0 0] 28) = W0 at X E0 S0 B0 ⊢
  refine (unhide X).mono ?_
  rintro r w1 ⟨⟨u, rfl, hR⟩, b1⟩
  have D1 := hide (B0.out.trans (b1.mono B0.out.size))
  have E1 := hide ((b1.block _ (by have := S0.out; omega)).trans E0.out)
  have LT : Hid (w.heap.size < W0.heap.size) := hide (by have := S0.out; omega)
  have GE : Hid (w.heap.size ≤ w.heap.size) := hide (Nat.le_refl _)
  clear X b1 E0 S0 B0
  obtain ⟨q, kk, len, rfl, hlen⟩ : ∃ q kk len, u = .slice q len kk ∧ len = l.length := by
    obtain ⟨q, kk, e, _⟩ := hR w1 (Kept.refl _ _) (HB0.out _ D1.out)
    exact ⟨q, kk, _, e, rfl⟩
  have HR := hide hR
  have HLEN := hide hlen
  clear hR hlen
  obtain ⟨d0, d1, d2, d3, d4, d5, d6⟩ := ecCells1 E1.out
  have z0 := soft_heap E1.out 0
  have z1 := soft_heap E1.out 1
  have z2 := soft_heap E1.out 2
  have z3 := soft_heap E1.out 3
  have z4 := soft_heap E1.out 4
  have z5 := soft_heap E1.out 5
  have z6 := soft_heap E1.out 6
  have E2 : Hid ((((((((w1.setCell ⟨w.heap.size, 0, none⟩ (.int .i64 2)).setCell ⟨w.heap.size, 1, none⟩ (.int .i64 0)).setCell ⟨w.heap.size, 2, none⟩ (.bool false)).setCell ⟨w.heap.size, 3, none⟩ (.slice none 0 0)).setCell ⟨w.heap.size, 4, none⟩ (.bool false)).setCell ⟨w.heap.size, 5, none⟩ (.slice none 0 0)).setCell ⟨w.heap.size, 6, none⟩ (.slice q len kk)).heap[w.heap.size]? = some (.cells #[.int .i64 2, .int .i64 0, .bool false, .slice none 0 0, .bool false, .slice none 0 0, .slice q len kk] 28 (0, 0))) := hide (heap_put (heap_put (heap_put (heap_put (heap_put (heap_put (heap_put E1.out 0 (.int .i64 2)) 1 (.int .i64 0)) 2 (.bool false)) 3 (.slice none 0 0)) 4 (.bool false)) 5 (.slice none 0 0)) 6 (.slice q len kk))
  have K2 := hide (((((((Kept.setCell w1 (w.heap.size) 0 (.int .i64 2) (m := W0.heap.size) LT.out).trans (Kept.setCell _ (w.heap.size) 1 (.int .i64 0) LT.out)).trans (Kept.setCell _ (w.heap.size) 2 (.bool false) LT.out)).trans (Kept.setCell _ (w.heap.size) 3 (.slice none 0 0) LT.out)).trans (Kept.setCell _ (w.heap.size) 4 (.bool false) LT.out)).trans (Kept.setCell _ (w.heap.size) 5 (.slice none 0 0) LT.out)).trans (Kept.setCell _ (w.heap.size) 6 (.slice q len kk) LT.out))
  have D2 := hide (((((((D1.out.setCell (p := ⟨w.heap.size, 0, none⟩) GE.out (.int .i64 2)).setCell (p := ⟨w.heap.size, 1, none⟩) GE.out (.int .i64 0)).setCell (p := ⟨w.heap.size, 2, none⟩) GE.out (.bool false)).setCell (p := ⟨w.heap.size, 3, none⟩) GE.out (.slice none 0 0)).setCell (p := ⟨w.heap.size, 4, none⟩) GE.out (.bool false)).setCell (p := ⟨w.heap.size, 5, none⟩) GE.out (.slice none 0 0)).setCell (p := ⟨w.heap.size, 6, none⟩) GE.out (.slice q len kk))
  clear D1 E1
  go_wp2
  refine bodyPost_ret (results_cell_row rfl _ _ (w.heap.size) 28 _ (0, 0) _ rfl E2.out Try.underlying28 rfl infoEx) rfl ⟨⟨⟨2, 0, SC.zero, q, len, kk⟩, rfl, fun w'' hk hB => ?_⟩, D2.out⟩
  obtain ⟨q', c', e', hX⟩ := rows_ex 2 (by omega) (by omega) (HR.out w'' (K2.out.trans (hk.mono (by have := LT.out; omega))) hB)
  injection e' with e1 e2 e3
  subst e1 e3
  rw [← HLEN.out] at hX
  exact hX
theorem progAnd_any (n : Nat) (v : Value) (l : List ExV) (w : World) (hv : RowsX n w v l) (hl : l.length ≤ 1000) (hcp : ∀ y ∈ l, cpX n y) :
    Calls Try.prog 19 #[v] w fun r w' => (∃ d : EC, r = .returned d.val ∧ ExAt (n + 1) w' d.val (andX l)) ∧ Below w.heap.size w w' := by
  refine (progAnd_new n v l w w (hv.y (Below.refl _ _)) (Below.refl _ _) hl hcp).mono ?_
  rintro r w' ⟨⟨d, rfl, h⟩, hb⟩
  exact ⟨⟨d, rfl, h w' (Kept.refl _ _) hb⟩, hb⟩
set_option maxHeartbeats 4000000 in
set_option maxRecDepth 100000 in
theorem progOr_new (n : Nat) (v : Value) (l : List ExV) (w0 w : World) (hv : RowsY n w0 w v l) (hb0 : Below w0.heap.size w0 w) (hl : l.length ≤ 1000) (hcp : ∀ y ∈ l, cpX n y) :
    Calls Try.prog 20 #[v] w fun r w' => (∃ d : EC, r = .returned d.val ∧ ∀ w'', Kept w.heap.size w' w'' → Below w0.heap.size w0 w'' → ExAt (n + 1) w'' d.val (orX l)) ∧ Below w.heap.size w w' := by
  have HB0 : Hid (∀ W, Below w.heap.size w W → Below w0.heap.size w0 W) := hide (fun W h => hb0.trans (h.mono hb0.size))
  have b0 := (Below.refl _ w).alloc (Nat.le_refl _) (Obj.cells #[.int .i64 0, .int .i64 0, .bool false, .slice none 0 0, .bool false, .slice none 0 0, .slice none 0 0] 28)
  have X := hide (copiedList_any n v l w0 (w.alloc (Obj.cells #[.int .i64 0, .int .i64 0, .bool false, .slice none 0 0, .bool false, .slice none 0 0, .slice none 0 0] 28)) (hv.grow b0) (HB0.out _ b0) hl hcp)
  have E0 := hide (heap_new w (Obj.cells #[.int .i64 0, .int .i64 0, .bool false, .slice none 0 0, .bool false, .slice none 0 0, .slice none 0 0] 28))
  have S0 := hide (show (w.alloc (Obj.cells #[.int .i64 0, .int .i64 0, .bool false, .slice none 0 0, .bool false, .slice none 0 0, .slice none 0 0] 28)).heap.size = w.heap.size + 1 by simp)
  have B0 := hide b0
  obtain ⟨p, cc, rfl, _⟩ := hv
  clear b0 hl hcp hb0
  go_enter Try.func20, Try.ntmps20
  go_wp2_with fail
  generalize w.alloc (Obj.cells #[.int .i64 0, .int .i64 0, .bool false, .slice none 0 0, .bool false, .slice none 0 0, .slice none 0 0] 28) = W0 at X E0 S0 B0 ⊢
  refine (unhide X).mono ?_
  rintro r w1 ⟨⟨u, rfl, hR⟩, b1⟩
  have D1 := hide (B0.out.trans (b1.mono B0.out.size))
  have E1 := hide ((b1.block _ (by have := S0.out; omega)).trans E0.out)
  have LT : Hid (w.heap.size < W0.heap.size) := hide (by have := S0.out; omega)
  have GE : Hid (w.heap.size ≤ w.heap.size) := hide (Nat.le_refl _)
  clear X b1 E0 S0 B0
  obtain ⟨q, kk, len, rfl, hlen⟩ : ∃ q kk len, u = .slice q len kk ∧ len = l.length := by
    obtain ⟨q, kk, e, _⟩ := hR w1 (Kept.refl _ _) (HB0.out _ D1.out)
    exact ⟨q, kk, _, e, rfl⟩
  have HR := hide hR
  have HLEN := hide hlen
  clear hR hlen
  obtain ⟨d0, d1, d2, d3, d4, d5, d6⟩ := ecCells1 E1.out
  have z0 := soft_heap E1.out 0
  have z1 := soft_heap E1.out 1
  have z2 := soft_heap E1.out 2
  have z3 := soft_heap E1.out 3
  have z4 := soft_heap E1.out 4
  have z5 := soft_heap E1.out 5
  have z6 := soft_heap E1.out 6
  have E2 : Hid ((((((((w1.setCell ⟨w.heap.size, 0, none⟩ (.int .i64 3)).setCell ⟨w.heap.size, 1, none⟩ (.int .i64 0)).setCell ⟨w.heap.size, 2, none⟩ (.bool false)).setCell ⟨w.heap.size, 3, none⟩ (.slice none 0 0)).setCell ⟨w.heap.size, 4, none⟩ (.bool false)).setCell ⟨w.heap.size, 5, none⟩ (.slice none 0 0)).setCell ⟨w.heap.size, 6, none⟩ (.slice q len kk)).heap[w.heap.size]? = some (.cells #[.int .i64 3, .int .i64 0, .bool false, .slice none 0 0, .bool false, .slice none 0 0, .slice q len kk] 28 (0, 0))) := hide (heap_put (heap_put (heap_put (heap_put (heap_put (heap_put (heap_put E1.out 0 (.int .i64 3)) 1 (.int .i64 0)) 2 (.bool false)) 3 (.slice none 0 0)) 4 (.bool false)) 5 (.slice none 0 0)) 6 (.slice q len kk))
  have K2 := hide (((((((Kept.setCell w1 (w.heap.size) 0 (.int .i64 3) (m := W0.heap.size) LT.out).trans (Kept.setCell _ (w.heap.size) 1 (.int .i64 0) LT.out)).trans (Kept.setCell _ (w.heap.size) 2 (.bool false) LT.out)).trans (Kept.setCell _ (w.heap.size) 3 (.slice none 0 0) LT.out)).trans (Kept.setCell _ (w.heap.size) 4 (.bool false) LT.out)).trans (Kept.setCell _ (w.heap.size) 5 (.slice none 0 0) LT.out)).trans (Kept.setCell _ (w.heap.size) 6 (.slice q len kk) LT.out))
  have D2 := hide (((((((D1.out.setCell (p := ⟨w.heap.size, 0, none⟩) GE.out (.int .i64 3)).setCell (p := ⟨w.heap.size, 1, none⟩) GE.out (.int .i64 0)).setCell (p := ⟨w.heap.size, 2, none⟩) GE.out (.bool false)).setCell (p := ⟨w.heap.size, 3, none⟩) GE.out (.slice none 0 0)).setCell (p := ⟨w.heap.size, 4, none⟩) GE.out (.bool false)).setCell (p := ⟨w.heap.size, 5, none⟩) GE.out (.slice none 0 0)).setCell (p := ⟨w.heap.size, 6, none⟩) GE.out (.slice q len kk))
  clear D1 E1
  go_wp2
  refine bodyPost_ret (results_cell_row rfl _ _ (w.heap.size) 28 _ (0, 0) _ rfl E2.out Try.underlying28 rfl infoEx) rfl ⟨⟨⟨3, 0, SC.zero, q, len, kk⟩, rfl, fun w'' hk hB => ?_⟩, D2.out⟩
  obtain ⟨q', c', e', hX⟩ := rows_ex 3 (by omega) (by omega) (HR.out w'' (K2.out.trans (hk.mono (by have := LT.out; omega))) hB)
  injection e' with e1 e2 e3
  subst e1 e3
  rw [← HLEN.out] at hX
  exact hX
theorem progOr_any (n : Nat) (v : Value) (l : List ExV) (w : World) (hv : RowsX n w v l) (hl : l.length ≤ 1000) (hcp : ∀ y ∈ l, cpX n y) :
    Calls Try.prog 20 #[v] w fun r w' => (∃ d : EC, r = .returned d.val ∧ ExAt (n + 1) w' d.val (orX l)) ∧ Below w.heap.size w w' := by
  refine (progOr_new n v l w w (hv.y (Below.refl _ _)) (Below.refl _ _) hl hcp).mono ?_
  rintro r w' ⟨⟨d, rfl, h⟩, hb⟩
  exact ⟨⟨d, rfl, h w' (Kept.refl _ _) hb⟩, hb⟩
set_option maxHeartbeats 4000000 in
set_option maxRecDepth 100000 in
theorem progNot_new (n : Nat) (c : EC) (x : ExV) (w0 w : World) (hx : ExAt n w0 c.val x) (hb0 : Below w0.heap.size w0 w) (hcp : cpX n x) :
    Calls Try.prog 21 #[c.val] w fun r w' => (∃ d : EC, r = .returned d.val ∧ ∀ w'', Kept w.heap.size w' w'' → Below w0.heap.size w0 w'' → ExAt (n + 1) w'' d.val (notX x)) ∧ Below w.heap.size w w' := by
  have HB0 : Hid (∀ W, Below w.heap.size w W → Below w0.heap.size w0 W) := hide (fun W h => hb0.trans (h.mono hb0.size))
  obtain ⟨l, hlx⟩ : ∃ l, l = [x] := ⟨_, rfl⟩
  have T0 := Pair.new w (exObj c) (exObj ec0)
  have b2 := (Below.refl _ ((w.alloc (exObj c)).alloc (exObj ec0))).alloc (Nat.le_refl _) (exObj c)
  have T2 := T0.on b2
  have hv : RowsY n w0 (((w.alloc (exObj c)).alloc (exObj ec0)).alloc (exObj c)) (.slice (some ⟨w.heap.size + 1 + 1, 0, none⟩) 1 1) l := by
    subst hlx
    refine ⟨_, 1, rfl, fun e => by simp at e, fun i hi => ?_⟩
    have hi0 : i = 0 := by simpa using hi
    subst hi0
    have hn := heap_new ((w.alloc (exObj c)).alloc (exObj ec0)) (exObj c)
    simp only [World.size_alloc] at hn
    refine ⟨w.heap.size + 1 + 1, 0, c, rfl, ?_, hx⟩
    obtain ⟨c0, c1, c2, c3, c4, c5, c6⟩ := ecCells1 hn
    exact ⟨c0, c1, c2, c3, c4, c5, c6⟩
  have X := hide (copiedList_any n _ l w0 _ hv (HB0.out _ T2.b) (by subst hlx; simp) (fun y hy => by subst hlx; simp at hy; subst hy; exact hcp))
  have HLX := hide hlx
  rw [show notX x = ⟨4, 0, noSet, l⟩ by rw [HLX.out]; rfl]
  have TT := hide T2
  clear hx hcp T0 b2 T2 hlx hv hb0
  unfold exObj ec0 SC.zero at X TT
  unfold EC.val
  go_enter Try.func21, Try.ntmps21
  go_wp2_with fail
  generalize ((w.alloc (Obj.cells #[.int .i64 c.k, .int .i64 c.t, .bool c.s.a, .slice c.s.p c.s.n c.s.c, .bool c.s.d, .slice c.s.q c.s.m c.s.e, .slice c.p c.n c.c] 28)).alloc (Obj.cells #[.int .i64 0, .int .i64 0, .bool false, .slice none 0 0, .bool false, .slice none 0 0, .slice none 0 0] 28)).alloc (Obj.cells #[.int .i64 c.k, .int .i64 c.t, .bool c.s.a, .slice c.s.p c.s.n c.s.c, .bool c.s.d, .slice c.s.q c.s.m c.s.e, .slice c.p c.n c.c] 28) = W0 at X TT ⊢
  refine (unhide X).mono ?_
  rintro r w1 ⟨⟨u, rfl, hR⟩, b1⟩
  have TD := hide (TT.out.on b1)
  have LT : Hid (w.heap.size + 1 < W0.heap.size) := hide TT.out.size
  have GE : Hid (w.heap.size ≤ w.heap.size + 1) := hide (by omega)
  have D1 := hide TD.out.b
  have E1 := hide TD.out.e2
  clear X b1 TT TD HLX
  obtain ⟨q, kk, len, rfl, hlen⟩ : ∃ q kk len, u = .slice q len kk ∧ len = l.length := by
    obtain ⟨q, kk, e, _⟩ := hR w1 (Kept.refl _ _) (HB0.out _ D1.out)
    exact ⟨q, kk, _, e, rfl⟩
  have HR := hide hR
  have HLEN := hide hlen
  clear hR hlen
  obtain ⟨d0, d1, d2, d3, d4, d5, d6⟩ := ecCells1 E1.out
  have z0 := soft_heap E1.out 0
  have z1 := soft_heap E1.out 1
  have z2 := soft_heap E1.out 2
  have z3 := soft_heap E1.out 3
  have z4 := soft_heap E1.out 4
  have z5 := soft_heap E1.out 5
  have z6 := soft_heap E1.out 6
  have E2 : Hid ((((((((w1.setCell ⟨w.heap.size + 1, 0, none⟩ (.int .i64 4)).setCell ⟨w.heap.size + 1, 1, none⟩ (.int .i64 0)).setCell ⟨w.heap.size + 1, 2, none⟩ (.bool false)).setCell ⟨w.heap.size + 1, 3, none⟩ (.slice none 0 0)).setCell ⟨w.heap.size + 1, 4, none⟩ (.bool false)).setCell ⟨w.heap.size + 1, 5, none⟩ (.slice none 0 0)).setCell ⟨w.heap.size + 1, 6, none⟩ (.slice q len kk)).heap[w.heap.size + 1]? = some (.cells #[.int .i64 4, .int .i64 0, .bool false, .slice none 0 0, .bool false, .slice none 0 0, .slice q len kk] 28 (0, 0))) := hide (heap_put (heap_put (heap_put (heap_put (heap_put (heap_put (heap_put E1.out 0 (.int .i64 4)) 1 (.int .i64 0)) 2 (.bool false)) 3 (.slice none 0 0)) 4 (.bool false)) 5 (.slice none 0 0)) 6 (.slice q len kk))
  have K2 := hide (((((((Kept.setCell w1 (w.heap.size + 1) 0 (.int .i64 4) (m := W0.heap.size) LT.out).trans (Kept.setCell _ (w.heap.size + 1) 1 (.int .i64 0) LT.out)).trans (Kept.setCell _ (w.heap.size + 1) 2 (.bool false) LT.out)).trans (Kept.setCell _ (w.heap.size + 1) 3 (.slice none 0 0) LT.out)).trans (Kept.setCell _ (w.heap.size + 1) 4 (.bool false) LT.out)).trans (Kept.setCell _ (w.heap.size + 1) 5 (.slice none 0 0) LT.out)).trans (Kept.setCell _ (w.heap.size + 1) 6 (.slice q len kk) LT.out))
  have D2 := hide (((((((D1.out.setCell (p := ⟨w.heap.size + 1, 0, none⟩) GE.out (.int .i64 4)).setCell (p := ⟨w.heap.size + 1, 1, none⟩) GE.out (.int .i64 0)).setCell (p := ⟨w.heap.size + 1, 2, none⟩) GE.out (.bool false)).setCell (p := ⟨w.heap.size + 1, 3, none⟩) GE.out (.slice none 0 0)).setCell (p := ⟨w.heap.size + 1, 4, none⟩) GE.out (.bool false)).setCell (p := ⟨w.heap.size + 1, 5, none⟩) GE.out (.slice none 0 0)).setCell (p := ⟨w.heap.size + 1, 6, none⟩) GE.out (.slice q len kk))
  clear D1 E1
  go_wp2
  refine bodyPost_ret (results_cell_row rfl _ _ (w.heap.size + 1) 28 _ (0, 0) _ rfl E2.out Try.underlying28 rfl infoEx) rfl ⟨⟨⟨4, 0, SC.zero, q, len, kk⟩, rfl, fun w'' hk hB => ?_⟩, D2.out⟩
  obtain ⟨q', c', e', hX⟩ := rows_ex 4 (by omega) (by omega) (HR.out w'' (K2.out.trans (hk.mono (by have := LT.out; omega))) hB)
  injection e' with e1 e2 e3
  subst e1 e3
  rw [← HLEN.out] at hX
  exact hX
theorem progNot_any (n : Nat) (c : EC) (x : ExV) (w : World) (hx : ExAt n w c.val x) (hcp : cpX n x) :
    Calls Try.prog 21 #[c.val] w fun r w' => (∃ d : EC, r = .returned d.val ∧ ExAt (n + 1) w' d.val (notX x)) ∧ Below w.heap.size w w' := by
  refine (progNot_new n c x w w hx (Below.refl _ _) hcp).mono ?_
  rintro r w' ⟨⟨d, rfl, h⟩, hb⟩
  exact ⟨⟨d, rfl, h w' (Kept.refl _ _) hb⟩, hb⟩
set_option maxHeartbeats 4000000 in
set_option maxRecDepth 100000 in
theorem progAtom_any (attr : Int) (a0 : -9223372036854775808 ≤ attr) (a1 : attr ≤ 9223372036854775807) (s : SC) (S : SetV) (w : World) (hv : SetAt w s.val S) (h1 : S.ints.length * 16 ≤ 140737488355328) (h2 : S.strs.length * 16 ≤ 140737488355328) :
    Calls Try.prog 26 #[.int .i64 attr, s.val] w fun r w' => (∃ d : EC, r = .returned d.val ∧ ExAt 1 w' d.val (atomX attr S)) ∧ Below w.heap.size w w' := by
  have T0 := Pair.new w (stObj s) (exObj ec0)
  have X := hide (copiedSet_any s S _ (hv.on T0.b) h1 h2)
  have TT := hide T0
  clear hv h1 h2 T0
  unfold stObj exObj ec0 SC.zero at X TT
  unfold SC.val at X ⊢
  go_enter Try.func26, Try.ntmps26
  go_wp2_with fail
  generalize (w.alloc (Obj.cells #[.bool s.a, .slice s.p s.n s.c, .bool s.d, .slice s.q s.m s.e] 25)).alloc (Obj.cells #[.int .i64 0, .int .i64 0, .bool false, .slice none 0 0, .bool false, .slice none 0 0, .slice none 0 0] 28) = W0 at X TT ⊢
  refine (unhide X).mono ?_
  rintro r w1 ⟨⟨y, rfl, hY⟩, b1⟩
  have TD := hide (TT.out.on b1)
  have LT : Hid (w.heap.size + 1 < W0.heap.size) := hide TT.out.size
  have E1 := hide TD.out.e2
  have HY := hide hY
  clear X b1 TT hY
  obtain ⟨d0, d1, d2, d3, d4, d5, d6⟩ := ecCells1 E1.out
  have z0 := soft_heap E1.out 0
  have z1 := soft_heap E1.out 1
  have z2 := soft_heap E1.out 2
  have z3 := soft_heap E1.out 3
  have z4 := soft_heap E1.out 4
  have z5 := soft_heap E1.out 5
  have z6 := soft_heap E1.out 6
  have E2 : Hid ((((((((w1.setCell ⟨w.heap.size + 1, 0, none⟩ (.int .i64 1)).setCell ⟨w.heap.size + 1, 1, none⟩ (.int .i64 attr)).setCell ⟨w.heap.size + 1, 2, none⟩ (.bool y.a)).setCell ⟨w.heap.size + 1, 3, none⟩ (.slice y.p y.n y.c)).setCell ⟨w.heap.size + 1, 4, none⟩ (.bool y.d)).setCell ⟨w.heap.size + 1, 5, none⟩ (.slice y.q y.m y.e)).setCell ⟨w.heap.size + 1, 6, none⟩ (.slice none 0 0)).heap[w.heap.size + 1]? = some (.cells #[.int .i64 1, .int .i64 attr, .bool y.a, .slice y.p y.n y.c, .bool y.d, .slice y.q y.m y.e, .slice none 0 0] 28 (0, 0))) := hide (heap_put (heap_put (heap_put (heap_put (heap_put (heap_put (heap_put E1.out 0 (.int .i64 1)) 1 (.int .i64 attr)) 2 (.bool y.a)) 3 (.slice y.p y.n y.c)) 4 (.bool y.d)) 5 (.slice y.q y.m y.e)) 6 (.slice none 0 0))
  have K2 := hide (((((((Kept.setCell w1 (w.heap.size + 1) 0 (.int .i64 1) (m := W0.heap.size) LT.out).trans (Kept.setCell _ (w.heap.size + 1) 1 (.int .i64 attr) LT.out)).trans (Kept.setCell _ (w.heap.size + 1) 2 (.bool y.a) LT.out)).trans (Kept.setCell _ (w.heap.size + 1) 3 (.slice y.p y.n y.c) LT.out)).trans (Kept.setCell _ (w.heap.size + 1) 4 (.bool y.d) LT.out)).trans (Kept.setCell _ (w.heap.size + 1) 5 (.slice y.q y.m y.e) LT.out)).trans (Kept.setCell _ (w.heap.size + 1) 6 (.slice none 0 0) LT.out))
  have D2 := hide (((((((TD.out.b.setCell (p := ⟨w.heap.size + 1, 0, none⟩) (by simp) (.int .i64 1)).setCell (p := ⟨w.heap.size + 1, 1, none⟩) (by simp) (.int .i64 attr)).setCell (p := ⟨w.heap.size + 1, 2, none⟩) (by simp) (.bool y.a)).setCell (p := ⟨w.heap.size + 1, 3, none⟩) (by simp) (.slice y.p y.n y.c)).setCell (p := ⟨w.heap.size + 1, 4, none⟩) (by simp) (.bool y.d)).setCell (p := ⟨w.heap.size + 1, 5, none⟩) (by simp) (.slice y.q y.m y.e)).setCell (p := ⟨w.heap.size + 1, 6, none⟩) (by simp) (.slice none 0 0))
  clear E1 TD
  go_wp2
  exact bodyPost_ret (results_cell_row rfl _ _ (w.heap.size + 1) 28 _ (0, 0) _ rfl E2.out Try.underlying28 rfl infoEx) rfl ⟨⟨⟨1, attr, y, none, 0, 0⟩, rfl, ⟨1, attr, y, none, 0, 0⟩, rfl, ⟨rfl, rfl, rfl, by simp, by simp, a0, a1, HY.out _ K2.out, Nat.le_refl _, by simp, fun _ => ⟨rfl, rfl⟩⟩, fun i hi => by simp [atomX] at hi⟩, D2.out⟩
end Go.Proofs.Ytoplmioejebnnaa
