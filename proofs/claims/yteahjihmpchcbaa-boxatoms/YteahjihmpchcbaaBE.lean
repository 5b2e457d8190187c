/-
  A box's block: the form of its cells, and what a store of a set, or of a whole box, changes there.
-/
import Derived.Test.YteahjihmpchcbaaBD
set_option linter.unusedSimpArgs false
set_option linter.unusedVariables false
namespace Go.Proofs.Yteahjihmpchcbaa
open Go.RowKit

/-- The cells of a set: their form. -/
structure SC where
  a : Bool
  p : Option Addr
  n : Nat
  c : Nat
  d : Bool
  q : Option Addr
  m : Nat
  e : Nat
def SC.val (s : SC) : Value := .agg #[.bool s.a, .slice s.p s.n s.c, .bool s.d, .slice s.q s.m s.e]
def SC.zero : SC := ⟨false, none, 0, 0, false, none, 0, 0⟩
theorem SetAt.sc {w : World} {v : Value} {S : SetV} (h : SetAt w v S) : ∃ s : SC, v = s.val := by
  obtain ⟨vi, vs, rfl, hI, hS⟩ := h
  obtain ⟨ai, ci, rfl⟩ := hI.form
  obtain ⟨aq, cq, rfl⟩ := hS.form
  exact ⟨⟨_, _, _, _, _, _, _, _⟩, rfl⟩
theorem SetAt.scForm {w : World} {s : SC} {S : SetV} (h : SetAt w s.val S) : s.a = S.absent ∧ s.n = S.ints.length ∧ s.d = S.co ∧ s.m = S.strs.length := by
  obtain ⟨vi, vs, e, hI, hS⟩ := h
  obtain ⟨ai, ci, rfl⟩ := hI.form
  obtain ⟨aq, cq, rfl⟩ := hS.form
  unfold SC.val at e
  simp at e
  obtain ⟨e1, ⟨e2, e3, e4⟩, e5, e6, e7, e8⟩ := e
  exact ⟨e1, e3, e5, e7⟩
def bxVal (s0 s1 s2 s3 : SC) : Value := .agg #[.bool s0.a, .slice s0.p s0.n s0.c, .bool s0.d, .slice s0.q s0.m s0.e, .bool s1.a, .slice s1.p s1.n s1.c, .bool s1.d, .slice s1.q s1.m s1.e, .bool s2.a, .slice s2.p s2.n s2.c, .bool s2.d, .slice s2.q s2.m s2.e, .bool s3.a, .slice s3.p s3.n s3.c, .bool s3.d, .slice s3.q s3.m s3.e]
theorem BoxAt.scs {w : World} {v : Value} {b : BoxV} (h : BoxAt w v b) : ∃ s0 s1 s2 s3 : SC, v = bxVal s0 s1 s2 s3 ∧ SetAt w s0.val b.s0 ∧ SetAt w s1.val b.s1 ∧ SetAt w s2.val b.s2 ∧ SetAt w s3.val b.s3 := by
  obtain ⟨pi0, ps0, pi1, ps1, pi2, ps2, pi3, ps3, ci0, cs0, ci1, cs1, ci2, cs2, ci3, cs3, rfl, h0, h1, h2, h3⟩ := h
  exact ⟨⟨_, _, _, _, _, _, _, _⟩, ⟨_, _, _, _, _, _, _, _⟩, ⟨_, _, _, _, _, _, _, _⟩, ⟨_, _, _, _, _, _, _, _⟩, rfl, h0, h1, h2, h3⟩
theorem boxAt_of {w : World} {s0 s1 s2 s3 : SC} {b : BoxV} (h0 : SetAt w s0.val b.s0) (h1 : SetAt w s1.val b.s1) (h2 : SetAt w s2.val b.s2) (h3 : SetAt w s3.val b.s3) : BoxAt w (bxVal s0 s1 s2 s3) b := by
  obtain ⟨a0, p0, n0, c0, d0, q0, m0, e0⟩ := s0
  obtain ⟨a1, p1, n1, c1, d1, q1, m1, e1⟩ := s1
  obtain ⟨a2, p2, n2, c2, d2, q2, m2, e2⟩ := s2
  obtain ⟨a3, p3, n3, c3, d3, q3, m3, e3⟩ := s3
  obtain ⟨x0, y0, z0, t0⟩ := h0.scForm
  obtain ⟨x1, y1, z1, t1⟩ := h1.scForm
  obtain ⟨x2, y2, z2, t2⟩ := h2.scForm
  obtain ⟨x3, y3, z3, t3⟩ := h3.scForm
  dsimp only at x0 y0 z0 t0 x1 y1 z1 t1 x2 y2 z2 t2 x3 y3 z3 t3
  subst x0 y0 z0 t0 x1 y1 z1 t1 x2 y2 z2 t2 x3 y3 z3 t3
  exact ⟨p0, q0, p1, q1, p2, q2, p3, q3, c0, e0, c1, e1, c2, e2, c3, e3, rfl, h0, h1, h2, h3⟩

/-! ### Sets aside of a written block -/
theorem RngsAt.besides {w w' : World} {v : Value} {l : List Rg} {p : Nat} {cs : Array Value} {t : TypeId} {fz : Nat × Nat} (h : RngsAt w v l) (hp : w.heap[p]? = some (.cells cs t fz)) (hn : ∀ (j : Nat) k n, cs[j]? ≠ some (Value.int k n)) (hs : w.heap.size ≤ w'.heap.size) (hk : ∀ k, k ≠ p → w'.heap[k]? = w.heap[k]?) : RngsAt w' v l := by
  obtain ⟨h1, h2, a, cap, hv, h⟩ := h
  refine ⟨h1, h2, a, cap, hv, fun i hi => ?_⟩
  obtain ⟨b, off, ha, hlt, c0, c1⟩ := h i hi
  have hb : b ≠ p := by
    rintro rfl
    rw [cell_heap hp] at c0
    exact hn _ _ _ c0
  have hc : ∀ o, w'.cell? ⟨b, o, none⟩ = w.cell? ⟨b, o, none⟩ := fun o => by unfold World.cell?; simp only [hk b hb]
  exact ⟨b, off, ha, Nat.lt_of_lt_of_le hlt hs, (hc _).trans c0, (hc _).trans c1⟩
theorem StrsAt.besides {w w' : World} {v : Value} {l : List ByteArray} {p : Nat} {cs : Array Value} {t : TypeId} {fz : Nat × Nat} (h : StrsAt w v l) (hp : w.heap[p]? = some (.cells cs t fz)) (hn : ∀ (j : Nat) s, cs[j]? ≠ some (Value.string s)) (hs : w.heap.size ≤ w'.heap.size) (hk : ∀ k, k ≠ p → w'.heap[k]? = w.heap[k]?) : StrsAt w' v l := by
  obtain ⟨h1, h2, a, cap, hv, h⟩ := h
  refine ⟨h1, h2, a, cap, hv, fun i hi => ?_⟩
  obtain ⟨b, off, ha, hlt, c0⟩ := h i hi
  have hb : b ≠ p := by
    rintro rfl
    rw [cell_heap hp] at c0
    exact hn _ _ c0
  have hc : ∀ o, w'.cell? ⟨b, o, none⟩ = w.cell? ⟨b, o, none⟩ := fun o => by unfold World.cell?; simp only [hk b hb]
  exact ⟨b, off, ha, Nat.lt_of_lt_of_le hlt hs, (hc _).trans c0⟩
/-- The block holds just this box. -/
def BxIn (w : World) (q : Nat) (s0 s1 s2 s3 : SC) : Prop := w.heap[q]? = some (.cells #[.bool s0.a, .slice s0.p s0.n s0.c, .bool s0.d, .slice s0.q s0.m s0.e, .bool s1.a, .slice s1.p s1.n s1.c, .bool s1.d, .slice s1.q s1.m s1.e, .bool s2.a, .slice s2.p s2.n s2.c, .bool s2.d, .slice s2.q s2.m s2.e, .bool s3.a, .slice s3.p s3.n s3.c, .bool s3.d, .slice s3.q s3.m s3.e] 27 (0, 0))
theorem BxIn.on {w w' : World} {q : Nat} {s0 s1 s2 s3 : SC} (h : BxIn w q s0 s1 s2 s3) (hb : Below w.heap.size w w') : BxIn w' q s0 s1 s2 s3 := (hb.block _ (lt_heap h)).trans h
theorem BxIn.cells {w : World} {q : Nat} {s0 s1 s2 s3 : SC} (h : BxIn w q s0 s1 s2 s3) : w.cell? ⟨q, 0, none⟩ = some (.bool s0.a) ∧ w.cell? ⟨q, 1, none⟩ = some (.slice s0.p s0.n s0.c) ∧ w.cell? ⟨q, 2, none⟩ = some (.bool s0.d) ∧ w.cell? ⟨q, 3, none⟩ = some (.slice s0.q s0.m s0.e) ∧ w.cell? ⟨q, 4, none⟩ = some (.bool s1.a) ∧ w.cell? ⟨q, 5, none⟩ = some (.slice s1.p s1.n s1.c) ∧ w.cell? ⟨q, 6, none⟩ = some (.bool s1.d) ∧ w.cell? ⟨q, 7, none⟩ = some (.slice s1.q s1.m s1.e) ∧ w.cell? ⟨q, 8, none⟩ = some (.bool s2.a) ∧ w.cell? ⟨q, 9, none⟩ = some (.slice s2.p s2.n s2.c) ∧ w.cell? ⟨q, 10, none⟩ = some (.bool s2.d) ∧ w.cell? ⟨q, 11, none⟩ = some (.slice s2.q s2.m s2.e) ∧ w.cell? ⟨q, 12, none⟩ = some (.bool s3.a) ∧ w.cell? ⟨q, 13, none⟩ = some (.slice s3.p s3.n s3.c) ∧ w.cell? ⟨q, 14, none⟩ = some (.bool s3.d) ∧ w.cell? ⟨q, 15, none⟩ = some (.slice s3.q s3.m s3.e) := bxCells h
theorem BxIn.soft {w : World} {q : Nat} {s0 s1 s2 s3 : SC} (h : BxIn w q s0 s1 s2 s3) (i : Nat) : w.frozen? ⟨q, i, none⟩ = false := frozen_heap h i
theorem SetAt.besides {w w' : World} {v : Value} {S : SetV} {q : Nat} {s0 s1 s2 s3 : SC} (h : SetAt w v S) (hp : BxIn w q s0 s1 s2 s3) (hs : w.heap.size ≤ w'.heap.size) (hk : ∀ k, k ≠ q → w'.heap[k]? = w.heap[k]?) : SetAt w' v S := by
  obtain ⟨vi, vs, hv, h1, h2⟩ := h
  refine ⟨vi, vs, hv, h1.besides hp ?_ hs hk, h2.besides hp ?_ hs hk⟩
  · intro j k n
    match j with
    | 0 => simp
    | 1 => simp
    | 2 => simp
    | 3 => simp
    | 4 => simp
    | 5 => simp
    | 6 => simp
    | 7 => simp
    | 8 => simp
    | 9 => simp
    | 10 => simp
    | 11 => simp
    | 12 => simp
    | 13 => simp
    | 14 => simp
    | 15 => simp
    | j + 16 => simp
  · intro j k
    match j with
    | 0 => simp
    | 1 => simp
    | 2 => simp
    | 3 => simp
    | 4 => simp
    | 5 => simp
    | 6 => simp
    | 7 => simp
    | 8 => simp
    | 9 => simp
    | 10 => simp
    | 11 => simp
    | 12 => simp
    | 13 => simp
    | 14 => simp
    | 15 => simp
    | j + 16 => simp
/-- What changes in one block alone. -/
structure In1 (w W : World) (q : Nat) : Prop where
  size : W.heap.size = w.heap.size
  other : ∀ k, k ≠ q → W.heap[k]? = w.heap[k]?
  below : ∀ (B : Nat) (w0 : World), B ≤ q → Below B w0 w → Below B w0 W
theorem In1.set {w W : World} {q : Nat} {s0 s1 s2 s3 : SC} (h : In1 w W q) (hp : BxIn w q s0 s1 s2 s3) {v : Value} {S : SetV} (hs : SetAt w v S) : SetAt W v S := hs.besides hp (Nat.le_of_eq h.size.symm) h.other
theorem In1.box {w W : World} {q p : Nat} (h : In1 w W q) {s0 s1 s2 s3 : SC} (hp : BxIn w p s0 s1 s2 s3) (hne : p ≠ q) : BxIn W p s0 s1 s2 s3 := (h.other p hne).trans hp
theorem in1_setCell (w : World) (q i : Nat) (v : Value) : In1 w (w.setCell ⟨q, i, none⟩ v) q := by
  refine ⟨by simp [World.setCell], fun k hk => ?_, fun B w0 hB hb => hb.setCell (p := ⟨q, i, none⟩) hB _⟩
  have hk' : q ≠ k := fun e => hk e.symm
  simp [World.setCell, Array.getElem?_modify, hk']
theorem In1.trans {w W V : World} {q : Nat} (h : In1 w W q) (h' : In1 W V q) : In1 w V q :=
  ⟨h'.size.trans h.size, fun k hk => (h'.other k hk).trans (h.other k hk), fun B w0 hB hb => h'.below B w0 hB (h.below B w0 hB hb)⟩
theorem put_bx0 {w : World} {q : Nat} {s0 s1 s2 s3 : SC} (x : SC) (h : BxIn w q s0 s1 s2 s3) :
    BxIn (((((w).setCell ⟨q, 0, none⟩ (.bool x.a)).setCell ⟨q, 1, none⟩ (.slice x.p x.n x.c)).setCell ⟨q, 2, none⟩ (.bool x.d)).setCell ⟨q, 3, none⟩ (.slice x.q x.m x.e)) q x s1 s2 s3 ∧ In1 w (((((w).setCell ⟨q, 0, none⟩ (.bool x.a)).setCell ⟨q, 1, none⟩ (.slice x.p x.n x.c)).setCell ⟨q, 2, none⟩ (.bool x.d)).setCell ⟨q, 3, none⟩ (.slice x.q x.m x.e)) q := by
  refine ⟨?_, (((in1_setCell _ _ _ _).trans (in1_setCell _ _ _ _)).trans (in1_setCell _ _ _ _)).trans (in1_setCell _ _ _ _)⟩
  · unfold BxIn at h
    have h0 := heap_setCell (i := 0) (.bool x.a) h
    have h1 := heap_setCell (i := 1) (.slice x.p x.n x.c) h0
    have h2 := heap_setCell (i := 2) (.bool x.d) h1
    have h3 := heap_setCell (i := 3) (.slice x.q x.m x.e) h2
    exact h3
theorem put_bx1 {w : World} {q : Nat} {s0 s1 s2 s3 : SC} (x : SC) (h : BxIn w q s0 s1 s2 s3) :
    BxIn (((((w).setCell ⟨q, 4, none⟩ (.bool x.a)).setCell ⟨q, 5, none⟩ (.slice x.p x.n x.c)).setCell ⟨q, 6, none⟩ (.bool x.d)).setCell ⟨q, 7, none⟩ (.slice x.q x.m x.e)) q s0 x s2 s3 ∧ In1 w (((((w).setCell ⟨q, 4, none⟩ (.bool x.a)).setCell ⟨q, 5, none⟩ (.slice x.p x.n x.c)).setCell ⟨q, 6, none⟩ (.bool x.d)).setCell ⟨q, 7, none⟩ (.slice x.q x.m x.e)) q := by
  refine ⟨?_, (((in1_setCell _ _ _ _).trans (in1_setCell _ _ _ _)).trans (in1_setCell _ _ _ _)).trans (in1_setCell _ _ _ _)⟩
  · unfold BxIn at h
    have h0 := heap_setCell (i := 4) (.bool x.a) h
    have h1 := heap_setCell (i := 5) (.slice x.p x.n x.c) h0
    have h2 := heap_setCell (i := 6) (.bool x.d) h1
    have h3 := heap_setCell (i := 7) (.slice x.q x.m x.e) h2
    exact h3
theorem put_bx2 {w : World} {q : Nat} {s0 s1 s2 s3 : SC} (x : SC) (h : BxIn w q s0 s1 s2 s3) :
    BxIn (((((w).setCell ⟨q, 8, none⟩ (.bool x.a)).setCell ⟨q, 9, none⟩ (.slice x.p x.n x.c)).setCell ⟨q, 10, none⟩ (.bool x.d)).setCell ⟨q, 11, none⟩ (.slice x.q x.m x.e)) q s0 s1 x s3 ∧ In1 w (((((w).setCell ⟨q, 8, none⟩ (.bool x.a)).setCell ⟨q, 9, none⟩ (.slice x.p x.n x.c)).setCell ⟨q, 10, none⟩ (.bool x.d)).setCell ⟨q, 11, none⟩ (.slice x.q x.m x.e)) q := by
  refine ⟨?_, (((in1_setCell _ _ _ _).trans (in1_setCell _ _ _ _)).trans (in1_setCell _ _ _ _)).trans (in1_setCell _ _ _ _)⟩
  · unfold BxIn at h
    have h0 := heap_setCell (i := 8) (.bool x.a) h
    have h1 := heap_setCell (i := 9) (.slice x.p x.n x.c) h0
    have h2 := heap_setCell (i := 10) (.bool x.d) h1
    have h3 := heap_setCell (i := 11) (.slice x.q x.m x.e) h2
    exact h3
theorem put_bx3 {w : World} {q : Nat} {s0 s1 s2 s3 : SC} (x : SC) (h : BxIn w q s0 s1 s2 s3) :
    BxIn (((((w).setCell ⟨q, 12, none⟩ (.bool x.a)).setCell ⟨q, 13, none⟩ (.slice x.p x.n x.c)).setCell ⟨q, 14, none⟩ (.bool x.d)).setCell ⟨q, 15, none⟩ (.slice x.q x.m x.e)) q s0 s1 s2 x ∧ In1 w (((((w).setCell ⟨q, 12, none⟩ (.bool x.a)).setCell ⟨q, 13, none⟩ (.slice x.p x.n x.c)).setCell ⟨q, 14, none⟩ (.bool x.d)).setCell ⟨q, 15, none⟩ (.slice x.q x.m x.e)) q := by
  refine ⟨?_, (((in1_setCell _ _ _ _).trans (in1_setCell _ _ _ _)).trans (in1_setCell _ _ _ _)).trans (in1_setCell _ _ _ _)⟩
  · unfold BxIn at h
    have h0 := heap_setCell (i := 12) (.bool x.a) h
    have h1 := heap_setCell (i := 13) (.slice x.p x.n x.c) h0
    have h2 := heap_setCell (i := 14) (.bool x.d) h1
    have h3 := heap_setCell (i := 15) (.slice x.q x.m x.e) h2
    exact h3
theorem put_whole {w : World} {q : Nat} {s0 s1 s2 s3 : SC} (x0 x1 x2 x3 : SC) (h : BxIn w q s0 s1 s2 s3) :
    BxIn (((((((((((((((((w).setCell ⟨q, 0, none⟩ (.bool x0.a)).setCell ⟨q, 1, none⟩ (.slice x0.p x0.n x0.c)).setCell ⟨q, 2, none⟩ (.bool x0.d)).setCell ⟨q, 3, none⟩ (.slice x0.q x0.m x0.e)).setCell ⟨q, 4, none⟩ (.bool x1.a)).setCell ⟨q, 5, none⟩ (.slice x1.p x1.n x1.c)).setCell ⟨q, 6, none⟩ (.bool x1.d)).setCell ⟨q, 7, none⟩ (.slice x1.q x1.m x1.e)).setCell ⟨q, 8, none⟩ (.bool x2.a)).setCell ⟨q, 9, none⟩ (.slice x2.p x2.n x2.c)).setCell ⟨q, 10, none⟩ (.bool x2.d)).setCell ⟨q, 11, none⟩ (.slice x2.q x2.m x2.e)).setCell ⟨q, 12, none⟩ (.bool x3.a)).setCell ⟨q, 13, none⟩ (.slice x3.p x3.n x3.c)).setCell ⟨q, 14, none⟩ (.bool x3.d)).setCell ⟨q, 15, none⟩ (.slice x3.q x3.m x3.e)) q x0 x1 x2 x3 ∧ In1 w (((((((((((((((((w).setCell ⟨q, 0, none⟩ (.bool x0.a)).setCell ⟨q, 1, none⟩ (.slice x0.p x0.n x0.c)).setCell ⟨q, 2, none⟩ (.bool x0.d)).setCell ⟨q, 3, none⟩ (.slice x0.q x0.m x0.e)).setCell ⟨q, 4, none⟩ (.bool x1.a)).setCell ⟨q, 5, none⟩ (.slice x1.p x1.n x1.c)).setCell ⟨q, 6, none⟩ (.bool x1.d)).setCell ⟨q, 7, none⟩ (.slice x1.q x1.m x1.e)).setCell ⟨q, 8, none⟩ (.bool x2.a)).setCell ⟨q, 9, none⟩ (.slice x2.p x2.n x2.c)).setCell ⟨q, 10, none⟩ (.bool x2.d)).setCell ⟨q, 11, none⟩ (.slice x2.q x2.m x2.e)).setCell ⟨q, 12, none⟩ (.bool x3.a)).setCell ⟨q, 13, none⟩ (.slice x3.p x3.n x3.c)).setCell ⟨q, 14, none⟩ (.bool x3.d)).setCell ⟨q, 15, none⟩ (.slice x3.q x3.m x3.e)) q := by
  obtain ⟨a0, b0⟩ := put_bx0 x0 h
  obtain ⟨a1, b1⟩ := put_bx1 x1 a0
  obtain ⟨a2, b2⟩ := put_bx2 x2 a1
  obtain ⟨a3, b3⟩ := put_bx3 x3 a2
  exact ⟨a3, ((b0.trans b1).trans b2).trans b3⟩
theorem infoBx : (Try.prog.info? 27).map (·.size) = some 16 := by kernel_rfl
theorem zero_in (w : World) (k : Nat) (hk : k = w.heap.size) : BxIn (w.alloc (.cells #[.bool false, .slice none 0 0, .bool false, .slice none 0 0, .bool false, .slice none 0 0, .bool false, .slice none 0 0, .bool false, .slice none 0 0, .bool false, .slice none 0 0, .bool false, .slice none 0 0, .bool false, .slice none 0 0] 27)) k SC.zero SC.zero SC.zero SC.zero := heap_at hk
theorem new_in (w : World) (s0 s1 s2 s3 : SC) (k : Nat) (hk : k = w.heap.size) : BxIn (w.alloc (.cells #[.bool s0.a, .slice s0.p s0.n s0.c, .bool s0.d, .slice s0.q s0.m s0.e, .bool s1.a, .slice s1.p s1.n s1.c, .bool s1.d, .slice s1.q s1.m s1.e, .bool s2.a, .slice s2.p s2.n s2.c, .bool s2.d, .slice s2.q s2.m s2.e, .bool s3.a, .slice s3.p s3.n s3.c, .bool s3.d, .slice s3.q s3.m s3.e] 27)) k s0 s1 s2 s3 := heap_at hk
end Go.Proofs.Yteahjihmpchcbaa
