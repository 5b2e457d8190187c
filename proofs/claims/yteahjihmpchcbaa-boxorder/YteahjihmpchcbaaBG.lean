/-
  The program's box: And.
-/
import Derived.Test.YteahjihmpchcbaaBF
import Derived.Test.YteahjihmpchcbaaGB
set_option linter.unusedSimpArgs false
set_option linter.unusedVariables false
namespace Go.Proofs.Yteahjihmpchcbaa
open Go.RowKit

/-- Three blocks of the call's own. -/
structure Tri (w0 w : World) (o1 o2 o3 : Obj) : Prop where
  e1 : w.heap[w0.heap.size]? = some o1
  e2 : w.heap[w0.heap.size + 1]? = some o2
  e3 : w.heap[w0.heap.size + 1 + 1]? = some o3
  b : Below w0.heap.size w0 w
theorem Tri.on {w0 w w' : World} {o1 o2 o3 : Obj} (h : Tri w0 w o1 o2 o3) (hb : Below w.heap.size w w') : Tri w0 w' o1 o2 o3 :=
  ⟨(hb.block _ (lt_heap h.e1)).trans h.e1, (hb.block _ (lt_heap h.e2)).trans h.e2, (hb.block _ (lt_heap h.e3)).trans h.e3, h.b.trans (hb.mono h.b.size)⟩
theorem Tri.start (w : World) (o1 o2 o3 : Obj) : Tri w (((w.alloc o1).alloc o2).alloc o3) o1 o2 o3 := by
  have T := Two.start w o1 o2
  have s1 : (w.alloc o1).heap.size = w.heap.size + 1 := by show (w.heap.push _).size = _; simp
  have s2 : ((w.alloc o1).alloc o2).heap.size = w.heap.size + 1 + 1 := by show ((w.alloc o1).heap.push _).size = _; rw [Array.size_push, s1]
  have T' := T.al o3
  exact ⟨T'.e1, T'.e2, by rw [← s2]; exact heap_new _ _, T'.b⟩
theorem Tri.al {w0 w : World} {o1 o2 o3 : Obj} (h : Tri w0 w o1 o2 o3) (x : Obj) : Tri w0 (w.alloc x) o1 o2 o3 := h.on ((Below.refl _ w).alloc (Nat.le_refl _) x)
/-- Four blocks of a call's: both boxes, and two that are written. -/
structure Quad (w0 w : World) (a0 a1 a2 a3 b0 b1 b2 b3 s0 s1 s2 s3 : SC) : Prop where
  ea : BxIn w (w0.heap.size) a0 a1 a2 a3
  eb : BxIn w (w0.heap.size + 1) b0 b1 b2 b3
  ez : BxIn w (w0.heap.size + 1 + 1) SC.zero SC.zero SC.zero SC.zero
  es : BxIn w (w0.heap.size + 1 + 1 + 1) s0 s1 s2 s3
  b : Below w0.heap.size w0 w
theorem Quad.on {w0 w w' : World} {a0 a1 a2 a3 b0 b1 b2 b3 s0 s1 s2 s3 : SC} (h : Quad w0 w a0 a1 a2 a3 b0 b1 b2 b3 s0 s1 s2 s3) (hb : Below w.heap.size w w') : Quad w0 w' a0 a1 a2 a3 b0 b1 b2 b3 s0 s1 s2 s3 :=
  ⟨h.ea.on hb, h.eb.on hb, h.ez.on hb, h.es.on hb, h.b.trans (hb.mono h.b.size)⟩
theorem Quad.start (w : World) (a0 a1 a2 a3 b0 b1 b2 b3 : SC) : Quad w ((((w.alloc (.cells #[.bool a0.a, .slice a0.p a0.n a0.c, .bool a0.d, .slice a0.q a0.m a0.e, .bool a1.a, .slice a1.p a1.n a1.c, .bool a1.d, .slice a1.q a1.m a1.e, .bool a2.a, .slice a2.p a2.n a2.c, .bool a2.d, .slice a2.q a2.m a2.e, .bool a3.a, .slice a3.p a3.n a3.c, .bool a3.d, .slice a3.q a3.m a3.e] 27)).alloc (.cells #[.bool b0.a, .slice b0.p b0.n b0.c, .bool b0.d, .slice b0.q b0.m b0.e, .bool b1.a, .slice b1.p b1.n b1.c, .bool b1.d, .slice b1.q b1.m b1.e, .bool b2.a, .slice b2.p b2.n b2.c, .bool b2.d, .slice b2.q b2.m b2.e, .bool b3.a, .slice b3.p b3.n b3.c, .bool b3.d, .slice b3.q b3.m b3.e] 27)).alloc (.cells #[.bool false, .slice none 0 0, .bool false, .slice none 0 0, .bool false, .slice none 0 0, .bool false, .slice none 0 0, .bool false, .slice none 0 0, .bool false, .slice none 0 0, .bool false, .slice none 0 0, .bool false, .slice none 0 0] 27)).alloc (.cells #[.bool false, .slice none 0 0, .bool false, .slice none 0 0, .bool false, .slice none 0 0, .bool false, .slice none 0 0, .bool false, .slice none 0 0, .bool false, .slice none 0 0, .bool false, .slice none 0 0, .bool false, .slice none 0 0] 27)) a0 a1 a2 a3 b0 b1 b2 b3 SC.zero SC.zero SC.zero SC.zero := by
  have T := Tri.start w (.cells #[.bool a0.a, .slice a0.p a0.n a0.c, .bool a0.d, .slice a0.q a0.m a0.e, .bool a1.a, .slice a1.p a1.n a1.c, .bool a1.d, .slice a1.q a1.m a1.e, .bool a2.a, .slice a2.p a2.n a2.c, .bool a2.d, .slice a2.q a2.m a2.e, .bool a3.a, .slice a3.p a3.n a3.c, .bool a3.d, .slice a3.q a3.m a3.e] 27) (.cells #[.bool b0.a, .slice b0.p b0.n b0.c, .bool b0.d, .slice b0.q b0.m b0.e, .bool b1.a, .slice b1.p b1.n b1.c, .bool b1.d, .slice b1.q b1.m b1.e, .bool b2.a, .slice b2.p b2.n b2.c, .bool b2.d, .slice b2.q b2.m b2.e, .bool b3.a, .slice b3.p b3.n b3.c, .bool b3.d, .slice b3.q b3.m b3.e] 27) (.cells #[.bool false, .slice none 0 0, .bool false, .slice none 0 0, .bool false, .slice none 0 0, .bool false, .slice none 0 0, .bool false, .slice none 0 0, .bool false, .slice none 0 0, .bool false, .slice none 0 0, .bool false, .slice none 0 0] 27)
  have s1 : (w.alloc (.cells #[.bool a0.a, .slice a0.p a0.n a0.c, .bool a0.d, .slice a0.q a0.m a0.e, .bool a1.a, .slice a1.p a1.n a1.c, .bool a1.d, .slice a1.q a1.m a1.e, .bool a2.a, .slice a2.p a2.n a2.c, .bool a2.d, .slice a2.q a2.m a2.e, .bool a3.a, .slice a3.p a3.n a3.c, .bool a3.d, .slice a3.q a3.m a3.e] 27)).heap.size = w.heap.size + 1 := by show (w.heap.push _).size = _; simp
  have s2 : ((w.alloc (.cells #[.bool a0.a, .slice a0.p a0.n a0.c, .bool a0.d, .slice a0.q a0.m a0.e, .bool a1.a, .slice a1.p a1.n a1.c, .bool a1.d, .slice a1.q a1.m a1.e, .bool a2.a, .slice a2.p a2.n a2.c, .bool a2.d, .slice a2.q a2.m a2.e, .bool a3.a, .slice a3.p a3.n a3.c, .bool a3.d, .slice a3.q a3.m a3.e] 27)).alloc (.cells #[.bool b0.a, .slice b0.p b0.n b0.c, .bool b0.d, .slice b0.q b0.m b0.e, .bool b1.a, .slice b1.p b1.n b1.c, .bool b1.d, .slice b1.q b1.m b1.e, .bool b2.a, .slice b2.p b2.n b2.c, .bool b2.d, .slice b2.q b2.m b2.e, .bool b3.a, .slice b3.p b3.n b3.c, .bool b3.d, .slice b3.q b3.m b3.e] 27)).heap.size = w.heap.size + 1 + 1 := by show ((w.alloc (.cells #[.bool a0.a, .slice a0.p a0.n a0.c, .bool a0.d, .slice a0.q a0.m a0.e, .bool a1.a, .slice a1.p a1.n a1.c, .bool a1.d, .slice a1.q a1.m a1.e, .bool a2.a, .slice a2.p a2.n a2.c, .bool a2.d, .slice a2.q a2.m a2.e, .bool a3.a, .slice a3.p a3.n a3.c, .bool a3.d, .slice a3.q a3.m a3.e] 27)).heap.push _).size = _; rw [Array.size_push, s1]
  have s3 : (((w.alloc (.cells #[.bool a0.a, .slice a0.p a0.n a0.c, .bool a0.d, .slice a0.q a0.m a0.e, .bool a1.a, .slice a1.p a1.n a1.c, .bool a1.d, .slice a1.q a1.m a1.e, .bool a2.a, .slice a2.p a2.n a2.c, .bool a2.d, .slice a2.q a2.m a2.e, .bool a3.a, .slice a3.p a3.n a3.c, .bool a3.d, .slice a3.q a3.m a3.e] 27)).alloc (.cells #[.bool b0.a, .slice b0.p b0.n b0.c, .bool b0.d, .slice b0.q b0.m b0.e, .bool b1.a, .slice b1.p b1.n b1.c, .bool b1.d, .slice b1.q b1.m b1.e, .bool b2.a, .slice b2.p b2.n b2.c, .bool b2.d, .slice b2.q b2.m b2.e, .bool b3.a, .slice b3.p b3.n b3.c, .bool b3.d, .slice b3.q b3.m b3.e] 27)).alloc (.cells #[.bool false, .slice none 0 0, .bool false, .slice none 0 0, .bool false, .slice none 0 0, .bool false, .slice none 0 0, .bool false, .slice none 0 0, .bool false, .slice none 0 0, .bool false, .slice none 0 0, .bool false, .slice none 0 0] 27)).heap.size = w.heap.size + 1 + 1 + 1 := by show (((w.alloc (.cells #[.bool a0.a, .slice a0.p a0.n a0.c, .bool a0.d, .slice a0.q a0.m a0.e, .bool a1.a, .slice a1.p a1.n a1.c, .bool a1.d, .slice a1.q a1.m a1.e, .bool a2.a, .slice a2.p a2.n a2.c, .bool a2.d, .slice a2.q a2.m a2.e, .bool a3.a, .slice a3.p a3.n a3.c, .bool a3.d, .slice a3.q a3.m a3.e] 27)).alloc (.cells #[.bool b0.a, .slice b0.p b0.n b0.c, .bool b0.d, .slice b0.q b0.m b0.e, .bool b1.a, .slice b1.p b1.n b1.c, .bool b1.d, .slice b1.q b1.m b1.e, .bool b2.a, .slice b2.p b2.n b2.c, .bool b2.d, .slice b2.q b2.m b2.e, .bool b3.a, .slice b3.p b3.n b3.c, .bool b3.d, .slice b3.q b3.m b3.e] 27)).heap.push _).size = _; rw [Array.size_push, s2]
  have T' := T.al (.cells #[.bool false, .slice none 0 0, .bool false, .slice none 0 0, .bool false, .slice none 0 0, .bool false, .slice none 0 0, .bool false, .slice none 0 0, .bool false, .slice none 0 0, .bool false, .slice none 0 0, .bool false, .slice none 0 0] 27)
  exact ⟨T'.e1, T'.e2, T'.e3, by rw [← s3]; exact heap_new _ _, T'.b⟩
theorem Quad.put {w0 w W : World} {a0 a1 a2 a3 b0 b1 b2 b3 s0 s1 s2 s3 x0 x1 x2 x3 : SC} (h : Quad w0 w a0 a1 a2 a3 b0 b1 b2 b3 s0 s1 s2 s3) (hi : In1 w W (w0.heap.size + 1 + 1 + 1)) (hx : BxIn W (w0.heap.size + 1 + 1 + 1) x0 x1 x2 x3) : Quad w0 W a0 a1 a2 a3 b0 b1 b2 b3 x0 x1 x2 x3 :=
  ⟨hi.box h.ea (by omega), hi.box h.eb (by omega), hi.box h.ez (by omega), hx, hi.below _ _ (by omega) h.b⟩
theorem BxIn.at0 {w : World} {q : Nat} {s0 s1 s2 s3 : SC} (h : BxIn w q s0 s1 s2 s3) : w.cell? ⟨q, 0, none⟩ = some (.bool s0.a) ∧ w.cell? ⟨q, 1, none⟩ = some (.slice s0.p s0.n s0.c) ∧ w.cell? ⟨q, 2, none⟩ = some (.bool s0.d) ∧ w.cell? ⟨q, 3, none⟩ = some (.slice s0.q s0.m s0.e) := ⟨cell_heap h 0, cell_heap h 1, cell_heap h 2, cell_heap h 3⟩
theorem BxIn.at1 {w : World} {q : Nat} {s0 s1 s2 s3 : SC} (h : BxIn w q s0 s1 s2 s3) : w.cell? ⟨q, 4, none⟩ = some (.bool s1.a) ∧ w.cell? ⟨q, 5, none⟩ = some (.slice s1.p s1.n s1.c) ∧ w.cell? ⟨q, 6, none⟩ = some (.bool s1.d) ∧ w.cell? ⟨q, 7, none⟩ = some (.slice s1.q s1.m s1.e) := ⟨cell_heap h 4, cell_heap h 5, cell_heap h 6, cell_heap h 7⟩
theorem BxIn.at2 {w : World} {q : Nat} {s0 s1 s2 s3 : SC} (h : BxIn w q s0 s1 s2 s3) : w.cell? ⟨q, 8, none⟩ = some (.bool s2.a) ∧ w.cell? ⟨q, 9, none⟩ = some (.slice s2.p s2.n s2.c) ∧ w.cell? ⟨q, 10, none⟩ = some (.bool s2.d) ∧ w.cell? ⟨q, 11, none⟩ = some (.slice s2.q s2.m s2.e) := ⟨cell_heap h 8, cell_heap h 9, cell_heap h 10, cell_heap h 11⟩
theorem BxIn.at3 {w : World} {q : Nat} {s0 s1 s2 s3 : SC} (h : BxIn w q s0 s1 s2 s3) : w.cell? ⟨q, 12, none⟩ = some (.bool s3.a) ∧ w.cell? ⟨q, 13, none⟩ = some (.slice s3.p s3.n s3.c) ∧ w.cell? ⟨q, 14, none⟩ = some (.bool s3.d) ∧ w.cell? ⟨q, 15, none⟩ = some (.slice s3.q s3.m s3.e) := ⟨cell_heap h 12, cell_heap h 13, cell_heap h 14, cell_heap h 15⟩
set_option maxHeartbeats 8000000 in
set_option maxRecDepth 100000 in
theorem boxAnd_any (P : SetProg) (v u : Value) (a b : BoxV) (w : World) (hv : BoxAt w v a) (hu : BoxAt w u b) (fa : FitBx a) (fb : FitBx b) :
    Calls Try.prog 10 #[v, u] w fun r w' => (∃ y, r = .returned y ∧ BoxAt w' y (andBx a b)) ∧ Below w.heap.size w w' := by
  obtain ⟨a0, a1, a2, a3, rfl, ha0, ha1, ha2, ha3⟩ := hv.scs
  obtain ⟨b0, b1, b2, b3, rfl, hb0, hb1, hb2, hb3⟩ := hu.scs
  have Q0 := hide (Quad.start w a0 a1 a2 a3 b0 b1 b2 b3)
  have C0 := fun (W : World) (hb : Below w.heap.size w W) => hide (P.and _ _ a.s0 b.s0 W (ha0.on hb) (hb0.on hb) (fa.fit 0 (by omega)) (fb.fit 0 (by omega)))
  have C1 := fun (W : World) (hb : Below w.heap.size w W) => hide (P.and _ _ a.s1 b.s1 W (ha1.on hb) (hb1.on hb) (fa.fit 1 (by omega)) (fb.fit 1 (by omega)))
  have C2 := fun (W : World) (hb : Below w.heap.size w W) => hide (P.and _ _ a.s2 b.s2 W (ha2.on hb) (hb2.on hb) (fa.fit 2 (by omega)) (fb.fit 2 (by omega)))
  have C3 := fun (W : World) (hb : Below w.heap.size w W) => hide (P.and _ _ a.s3 b.s3 W (ha3.on hb) (hb3.on hb) (fa.fit 3 (by omega)) (fb.fit 3 (by omega)))
  clear hv hu fa fb ha0 ha1 ha2 ha3 hb0 hb1 hb2 hb3
  unfold bxVal
  go_enter Try.func10, Try.ntmps10
  go_wp2
  go_loopw [7] (fun i wr => ∃ k : Int, i = .int .i64 k ∧ ∃ s0 s1 s2 s3 : SC, Hid (Quad w wr a0 a1 a2 a3 b0 b1 b2 b3 s0 s1 s2 s3) ∧ (k = 0 ∨ (k = 1 ∧ Hid (SetAt wr s0.val (andV a.s0 b.s0))) ∨ (k = 2 ∧ Hid (SetAt wr s0.val (andV a.s0 b.s0) ∧ SetAt wr s1.val (andV a.s1 b.s1))) ∨ (k = 3 ∧ Hid (SetAt wr s0.val (andV a.s0 b.s0) ∧ SetAt wr s1.val (andV a.s1 b.s1) ∧ SetAt wr s2.val (andV a.s2 b.s2))) ∨ (k = 4 ∧ Hid (SetAt wr s0.val (andV a.s0 b.s0) ∧ SetAt wr s1.val (andV a.s1 b.s1) ∧ SetAt wr s2.val (andV a.s2 b.s2) ∧ SetAt wr s3.val (andV a.s3 b.s3))))) (fun i _ => 4 - (intOf i).toNat)
  case atStart => exact ⟨0, rfl, SC.zero, SC.zero, SC.zero, SC.zero, Q0, Or.inl rfl⟩
  case round =>
    clear Q0
    obtain ⟨k, rfl, s0, s1, s2, s3, HQ, hk⟩ := hrel
    rcases hk with rfl | ⟨rfl, HP⟩ | ⟨rfl, HP⟩ | ⟨rfl, HP⟩ | ⟨rfl, HP⟩
    · go_wp2
      refine wp_region_held_drew (S := fun w' => BxIn w' (w.heap.size) a0 a1 a2 a3 ∧ BxIn w' (w.heap.size + 1) b0 b1 b2 b3) (by kernel_rfl) ⟨HQ.out.ea, HQ.out.eb⟩ (fun hHeld => ?_)
      refine wpAnyH_take (i := 0) (oi := ⟨_, _, _, _, _, _⟩) (v := .int .i64 0) rfl (by kernel_rfl) (by kernel_rfl) (by kernel_rfl) (fun _ _ _ h => h) (yl_move (by rfl) _ rfl _ rfl) (by assumption) ?_
      simp only [Act.put, List.setIfInBounds_toArray, List.set_cons_zero, List.set_cons_succ]
      refine wpAnyH_take (i := 1) (oi := ⟨_, _, _, _, _, _⟩) (v := .int .i64 0) rfl (by kernel_rfl) (by kernel_rfl) (by kernel_rfl) (fun _ _ _ h => h) (yl_move (by rfl) _ rfl _ rfl) (by assumption) ?_
      simp only [Act.put, List.setIfInBounds_toArray, List.set_cons_zero, List.set_cons_succ]
      refine wpAnyH_take (i := 2) (oi := ⟨_, _, _, _, _, _⟩) (v := .pointer (some ⟨w.heap.size, 0, none⟩)) rfl (by kernel_rfl) (by kernel_rfl) (by kernel_rfl) (fun _ _ _ h => h) (yl_atBox (by rfl) _ _ rfl _ 0 rfl rfl (by omega)) (by assumption) ?_
      simp only [Act.put, List.setIfInBounds_toArray, List.set_cons_zero, List.set_cons_succ]
      refine wpAnyH_take (i := 3) (oi := ⟨_, _, _, _, _, _⟩) (v := .agg #[.bool a0.a, .slice a0.p a0.n a0.c, .bool a0.d, .slice a0.q a0.m a0.e]) rfl (by kernel_rfl) (by kernel_rfl) (by kernel_rfl) (fun _ _ _ h => h) (yl_set (by rfl) _ rfl _ 0 rfl _ _ _ _ (fun w' h => BxIn.at0 h.1)) (by assumption) ?_
      simp only [Act.put, List.setIfInBounds_toArray, List.set_cons_zero, List.set_cons_succ]
      refine wpAnyH_take (i := 4) (oi := ⟨_, _, _, _, _, _⟩) (v := .int .i64 0) rfl (by kernel_rfl) (by kernel_rfl) (by kernel_rfl) (fun _ _ _ h => h) (yl_move (by rfl) _ rfl _ rfl) (by assumption) ?_
      simp only [Act.put, List.setIfInBounds_toArray, List.set_cons_zero, List.set_cons_succ]
      refine wpAnyH_take (i := 5) (oi := ⟨_, _, _, _, _, _⟩) (v := .pointer (some ⟨w.heap.size + 1, 0, none⟩)) rfl (by kernel_rfl) (by kernel_rfl) (by kernel_rfl) (fun _ _ _ h => h) (yl_atBox (by rfl) _ _ rfl _ 0 rfl rfl (by omega)) (by assumption) ?_
      simp only [Act.put, List.setIfInBounds_toArray, List.set_cons_zero, List.set_cons_succ]
      refine wpAnyH_take (i := 6) (oi := ⟨_, _, _, _, _, _⟩) (v := .agg #[.bool b0.a, .slice b0.p b0.n b0.c, .bool b0.d, .slice b0.q b0.m b0.e]) rfl (by kernel_rfl) (by kernel_rfl) (by kernel_rfl) (fun _ _ _ h => h) (yl_set (by rfl) _ rfl _ 0 rfl _ _ _ _ (fun w' h => BxIn.at0 h.2)) (by assumption) ?_
      simp only [Act.put, List.setIfInBounds_toArray, List.set_cons_zero, List.set_cons_succ]
      -- call 1 of 1
      refine held_call (o := ⟨_, _, _, _, _, _⟩) 7 (by kernel_rfl) rfl (by rfl) 24 _ _ rfl #[.agg #[.bool a0.a, .slice a0.p a0.n a0.c, .bool a0.d, .slice a0.q a0.m a0.e], .agg #[.bool b0.a, .slice b0.p b0.n b0.c, .bool b0.d, .slice b0.q b0.m b0.e]] rfl (run_call Try.func24 (by kernel_rfl) (by kernel_rfl)) ?_
      refine (unhide (C0 wr.drew HQ.out.b.drew)).mono ?_
      rintro r w2 ⟨⟨u2, rfl, hu⟩, b'⟩
      have bw : Below wr.heap.size wr w2 := ⟨b'.os, b'.tape, b'.output, b'.size, b'.block⟩
      obtain ⟨x, rfl⟩ := hu.sc
      have Q2 := HQ.out.on bw
      refine ⟨.agg #[.bool x.a, .slice x.p x.n x.c, .bool x.d, .slice x.q x.m x.e], rfl, ⟨Q2.ea, Q2.eb⟩, fun hHeld => ?_⟩
      simp only [Act.put, List.setIfInBounds_toArray, List.set_cons_zero, List.set_cons_succ]
      refine wpAnyH_take (i := 8) (oi := ⟨_, _, _, _, _, _⟩) (v := .pointer (some ⟨w.heap.size + 1 + 1 + 1, 0, none⟩)) rfl (by kernel_rfl) (by kernel_rfl) (by kernel_rfl) (fun _ _ _ h => h) (yl_atBox (by rfl) _ _ rfl _ 0 rfl rfl (by omega)) (by assumption) ?_
      simp only [Act.put, List.setIfInBounds_toArray, List.set_cons_zero, List.set_cons_succ]
      obtain ⟨c0, c1, c2, c3⟩ := Q2.es.at0
      have z0 := Q2.es.soft 0
      have z1 := Q2.es.soft 1
      have z2 := Q2.es.soft 2
      have z3 := Q2.es.soft 3
      obtain ⟨q1, q2⟩ := put_bx0 x Q2.es
      have Q3 := Q2.put q2 q1
      have QS : Hid (SetAt (((((w2).setCell ⟨w.heap.size + 1 + 1 + 1, 0, none⟩ (.bool x.a)).setCell ⟨w.heap.size + 1 + 1 + 1, 1, none⟩ (.slice x.p x.n x.c)).setCell ⟨w.heap.size + 1 + 1 + 1, 2, none⟩ (.bool x.d)).setCell ⟨w.heap.size + 1 + 1 + 1, 3, none⟩ (.slice x.q x.m x.e)) x.val (andV a.s0 b.s0)) := hide (q2.set Q2.es hu)
      have HQ3 := hide Q3
      clear C0 C1 C2 C3
      refine wpAnyH_ready (rs := [9]) (by kernel_rfl) (by simp) ?_
      refine AllReadyH.cons rfl (fun K hK => ?_) AllReadyH.nil
      go_simp
      refine hK.out _ _ ⟨Q3.ea, Q3.eb⟩ (fun hHeld => ?_)
      clear hK K
      refine wpAnyH_done (by kernel_rfl) ?_ _
      clear hHeld Q2 Q3 q1 q2
      go_wp2
      exact ⟨⟨1, rfl, x, s1, s2, s3, HQ3, Or.inr (Or.inl ⟨rfl, hide QS.out⟩)⟩, by simp [intOf]⟩
    · go_wp2
      refine wp_region_held_drew (S := fun w' => BxIn w' (w.heap.size) a0 a1 a2 a3 ∧ BxIn w' (w.heap.size + 1) b0 b1 b2 b3) (by kernel_rfl) ⟨HQ.out.ea, HQ.out.eb⟩ (fun hHeld => ?_)
      refine wpAnyH_take (i := 0) (oi := ⟨_, _, _, _, _, _⟩) (v := .int .i64 1) rfl (by kernel_rfl) (by kernel_rfl) (by kernel_rfl) (fun _ _ _ h => h) (yl_move (by rfl) _ rfl _ rfl) (by assumption) ?_
      simp only [Act.put, List.setIfInBounds_toArray, List.set_cons_zero, List.set_cons_succ]
      refine wpAnyH_take (i := 1) (oi := ⟨_, _, _, _, _, _⟩) (v := .int .i64 1) rfl (by kernel_rfl) (by kernel_rfl) (by kernel_rfl) (fun _ _ _ h => h) (yl_move (by rfl) _ rfl _ rfl) (by assumption) ?_
      simp only [Act.put, List.setIfInBounds_toArray, List.set_cons_zero, List.set_cons_succ]
      refine wpAnyH_take (i := 2) (oi := ⟨_, _, _, _, _, _⟩) (v := .pointer (some ⟨w.heap.size, 4, none⟩)) rfl (by kernel_rfl) (by kernel_rfl) (by kernel_rfl) (fun _ _ _ h => h) (yl_atBox (by rfl) _ _ rfl _ 1 rfl rfl (by omega)) (by assumption) ?_
      simp only [Act.put, List.setIfInBounds_toArray, List.set_cons_zero, List.set_cons_succ]
      refine wpAnyH_take (i := 3) (oi := ⟨_, _, _, _, _, _⟩) (v := .agg #[.bool a1.a, .slice a1.p a1.n a1.c, .bool a1.d, .slice a1.q a1.m a1.e]) rfl (by kernel_rfl) (by kernel_rfl) (by kernel_rfl) (fun _ _ _ h => h) (yl_set (by rfl) _ rfl _ 4 rfl _ _ _ _ (fun w' h => BxIn.at1 h.1)) (by assumption) ?_
      simp only [Act.put, List.setIfInBounds_toArray, List.set_cons_zero, List.set_cons_succ]
      refine wpAnyH_take (i := 4) (oi := ⟨_, _, _, _, _, _⟩) (v := .int .i64 1) rfl (by kernel_rfl) (by kernel_rfl) (by kernel_rfl) (fun _ _ _ h => h) (yl_move (by rfl) _ rfl _ rfl) (by assumption) ?_
      simp only [Act.put, List.setIfInBounds_toArray, List.set_cons_zero, List.set_cons_succ]
      refine wpAnyH_take (i := 5) (oi := ⟨_, _, _, _, _, _⟩) (v := .pointer (some ⟨w.heap.size + 1, 4, none⟩)) rfl (by kernel_rfl) (by kernel_rfl) (by kernel_rfl) (fun _ _ _ h => h) (yl_atBox (by rfl) _ _ rfl _ 1 rfl rfl (by omega)) (by assumption) ?_
      simp only [Act.put, List.setIfInBounds_toArray, List.set_cons_zero, List.set_cons_succ]
      refine wpAnyH_take (i := 6) (oi := ⟨_, _, _, _, _, _⟩) (v := .agg #[.bool b1.a, .slice b1.p b1.n b1.c, .bool b1.d, .slice b1.q b1.m b1.e]) rfl (by kernel_rfl) (by kernel_rfl) (by kernel_rfl) (fun _ _ _ h => h) (yl_set (by rfl) _ rfl _ 4 rfl _ _ _ _ (fun w' h => BxIn.at1 h.2)) (by assumption) ?_
      simp only [Act.put, List.setIfInBounds_toArray, List.set_cons_zero, List.set_cons_succ]
      -- call 1 of 1
      refine held_call (o := ⟨_, _, _, _, _, _⟩) 7 (by kernel_rfl) rfl (by rfl) 24 _ _ rfl #[.agg #[.bool a1.a, .slice a1.p a1.n a1.c, .bool a1.d, .slice a1.q a1.m a1.e], .agg #[.bool b1.a, .slice b1.p b1.n b1.c, .bool b1.d, .slice b1.q b1.m b1.e]] rfl (run_call Try.func24 (by kernel_rfl) (by kernel_rfl)) ?_
      refine (unhide (C1 wr.drew HQ.out.b.drew)).mono ?_
      rintro r w2 ⟨⟨u2, rfl, hu⟩, b'⟩
      have bw : Below wr.heap.size wr w2 := ⟨b'.os, b'.tape, b'.output, b'.size, b'.block⟩
      obtain ⟨x, rfl⟩ := hu.sc
      have Q2 := HQ.out.on bw
      refine ⟨.agg #[.bool x.a, .slice x.p x.n x.c, .bool x.d, .slice x.q x.m x.e], rfl, ⟨Q2.ea, Q2.eb⟩, fun hHeld => ?_⟩
      simp only [Act.put, List.setIfInBounds_toArray, List.set_cons_zero, List.set_cons_succ]
      refine wpAnyH_take (i := 8) (oi := ⟨_, _, _, _, _, _⟩) (v := .pointer (some ⟨w.heap.size + 1 + 1 + 1, 4, none⟩)) rfl (by kernel_rfl) (by kernel_rfl) (by kernel_rfl) (fun _ _ _ h => h) (yl_atBox (by rfl) _ _ rfl _ 1 rfl rfl (by omega)) (by assumption) ?_
      simp only [Act.put, List.setIfInBounds_toArray, List.set_cons_zero, List.set_cons_succ]
      obtain ⟨c0, c1, c2, c3⟩ := Q2.es.at1
      have z0 := Q2.es.soft 4
      have z1 := Q2.es.soft 5
      have z2 := Q2.es.soft 6
      have z3 := Q2.es.soft 7
      obtain ⟨q1, q2⟩ := put_bx1 x Q2.es
      have Q3 := Q2.put q2 q1
      have QS : Hid (SetAt (((((w2).setCell ⟨w.heap.size + 1 + 1 + 1, 4, none⟩ (.bool x.a)).setCell ⟨w.heap.size + 1 + 1 + 1, 5, none⟩ (.slice x.p x.n x.c)).setCell ⟨w.heap.size + 1 + 1 + 1, 6, none⟩ (.bool x.d)).setCell ⟨w.heap.size + 1 + 1 + 1, 7, none⟩ (.slice x.q x.m x.e)) s0.val (andV a.s0 b.s0) ∧ SetAt (((((w2).setCell ⟨w.heap.size + 1 + 1 + 1, 4, none⟩ (.bool x.a)).setCell ⟨w.heap.size + 1 + 1 + 1, 5, none⟩ (.slice x.p x.n x.c)).setCell ⟨w.heap.size + 1 + 1 + 1, 6, none⟩ (.bool x.d)).setCell ⟨w.heap.size + 1 + 1 + 1, 7, none⟩ (.slice x.q x.m x.e)) x.val (andV a.s1 b.s1)) := hide ⟨q2.set Q2.es (HP.out.on bw), q2.set Q2.es hu⟩
      have HQ3 := hide Q3
      clear C0 C1 C2 C3
      refine wpAnyH_ready (rs := [9]) (by kernel_rfl) (by simp) ?_
      refine AllReadyH.cons rfl (fun K hK => ?_) AllReadyH.nil
      go_simp
      refine hK.out _ _ ⟨Q3.ea, Q3.eb⟩ (fun hHeld => ?_)
      clear hK K
      refine wpAnyH_done (by kernel_rfl) ?_ _
      clear hHeld Q2 Q3 q1 q2
      go_wp2
      exact ⟨⟨2, rfl, s0, x, s2, s3, HQ3, Or.inr (Or.inr (Or.inl ⟨rfl, hide QS.out⟩))⟩, by simp [intOf]⟩
    · go_wp2
      refine wp_region_held_drew (S := fun w' => BxIn w' (w.heap.size) a0 a1 a2 a3 ∧ BxIn w' (w.heap.size + 1) b0 b1 b2 b3) (by kernel_rfl) ⟨HQ.out.ea, HQ.out.eb⟩ (fun hHeld => ?_)
      refine wpAnyH_take (i := 0) (oi := ⟨_, _, _, _, _, _⟩) (v := .int .i64 2) rfl (by kernel_rfl) (by kernel_rfl) (by kernel_rfl) (fun _ _ _ h => h) (yl_move (by rfl) _ rfl _ rfl) (by assumption) ?_
      simp only [Act.put, List.setIfInBounds_toArray, List.set_cons_zero, List.set_cons_succ]
      refine wpAnyH_take (i := 1) (oi := ⟨_, _, _, _, _, _⟩) (v := .int .i64 2) rfl (by kernel_rfl) (by kernel_rfl) (by kernel_rfl) (fun _ _ _ h => h) (yl_move (by rfl) _ rfl _ rfl) (by assumption) ?_
      simp only [Act.put, List.setIfInBounds_toArray, List.set_cons_zero, List.set_cons_succ]
      refine wpAnyH_take (i := 2) (oi := ⟨_, _, _, _, _, _⟩) (v := .pointer (some ⟨w.heap.size, 8, none⟩)) rfl (by kernel_rfl) (by kernel_rfl) (by kernel_rfl) (fun _ _ _ h => h) (yl_atBox (by rfl) _ _ rfl _ 2 rfl rfl (by omega)) (by assumption) ?_
      simp only [Act.put, List.setIfInBounds_toArray, List.set_cons_zero, List.set_cons_succ]
      refine wpAnyH_take (i := 3) (oi := ⟨_, _, _, _, _, _⟩) (v := .agg #[.bool a2.a, .slice a2.p a2.n a2.c, .bool a2.d, .slice a2.q a2.m a2.e]) rfl (by kernel_rfl) (by kernel_rfl) (by kernel_rfl) (fun _ _ _ h => h) (yl_set (by rfl) _ rfl _ 8 rfl _ _ _ _ (fun w' h => BxIn.at2 h.1)) (by assumption) ?_
      simp only [Act.put, List.setIfInBounds_toArray, List.set_cons_zero, List.set_cons_succ]
      refine wpAnyH_take (i := 4) (oi := ⟨_, _, _, _, _, _⟩) (v := .int .i64 2) rfl (by kernel_rfl) (by kernel_rfl) (by kernel_rfl) (fun _ _ _ h => h) (yl_move (by rfl) _ rfl _ rfl) (by assumption) ?_
      simp only [Act.put, List.setIfInBounds_toArray, List.set_cons_zero, List.set_cons_succ]
      refine wpAnyH_take (i := 5) (oi := ⟨_, _, _, _, _, _⟩) (v := .pointer (some ⟨w.heap.size + 1, 8, none⟩)) rfl (by kernel_rfl) (by kernel_rfl) (by kernel_rfl) (fun _ _ _ h => h) (yl_atBox (by rfl) _ _ rfl _ 2 rfl rfl (by omega)) (by assumption) ?_
      simp only [Act.put, List.setIfInBounds_toArray, List.set_cons_zero, List.set_cons_succ]
      refine wpAnyH_take (i := 6) (oi := ⟨_, _, _, _, _, _⟩) (v := .agg #[.bool b2.a, .slice b2.p b2.n b2.c, .bool b2.d, .slice b2.q b2.m b2.e]) rfl (by kernel_rfl) (by kernel_rfl) (by kernel_rfl) (fun _ _ _ h => h) (yl_set (by rfl) _ rfl _ 8 rfl _ _ _ _ (fun w' h => BxIn.at2 h.2)) (by assumption) ?_
      simp only [Act.put, List.setIfInBounds_toArray, List.set_cons_zero, List.set_cons_succ]
      -- call 1 of 1
      refine held_call (o := ⟨_, _, _, _, _, _⟩) 7 (by kernel_rfl) rfl (by rfl) 24 _ _ rfl #[.agg #[.bool a2.a, .slice a2.p a2.n a2.c, .bool a2.d, .slice a2.q a2.m a2.e], .agg #[.bool b2.a, .slice b2.p b2.n b2.c, .bool b2.d, .slice b2.q b2.m b2.e]] rfl (run_call Try.func24 (by kernel_rfl) (by kernel_rfl)) ?_
      refine (unhide (C2 wr.drew HQ.out.b.drew)).mono ?_
      rintro r w2 ⟨⟨u2, rfl, hu⟩, b'⟩
      have bw : Below wr.heap.size wr w2 := ⟨b'.os, b'.tape, b'.output, b'.size, b'.block⟩
      obtain ⟨x, rfl⟩ := hu.sc
      have Q2 := HQ.out.on bw
      refine ⟨.agg #[.bool x.a, .slice x.p x.n x.c, .bool x.d, .slice x.q x.m x.e], rfl, ⟨Q2.ea, Q2.eb⟩, fun hHeld => ?_⟩
      simp only [Act.put, List.setIfInBounds_toArray, List.set_cons_zero, List.set_cons_succ]
      refine wpAnyH_take (i := 8) (oi := ⟨_, _, _, _, _, _⟩) (v := .pointer (some ⟨w.heap.size + 1 + 1 + 1, 8, none⟩)) rfl (by kernel_rfl) (by kernel_rfl) (by kernel_rfl) (fun _ _ _ h => h) (yl_atBox (by rfl) _ _ rfl _ 2 rfl rfl (by omega)) (by assumption) ?_
      simp only [Act.put, List.setIfInBounds_toArray, List.set_cons_zero, List.set_cons_succ]
      obtain ⟨c0, c1, c2, c3⟩ := Q2.es.at2
      have z0 := Q2.es.soft 8
      have z1 := Q2.es.soft 9
      have z2 := Q2.es.soft 10
      have z3 := Q2.es.soft 11
      obtain ⟨q1, q2⟩ := put_bx2 x Q2.es
      have Q3 := Q2.put q2 q1
      have QS : Hid (SetAt (((((w2).setCell ⟨w.heap.size + 1 + 1 + 1, 8, none⟩ (.bool x.a)).setCell ⟨w.heap.size + 1 + 1 + 1, 9, none⟩ (.slice x.p x.n x.c)).setCell ⟨w.heap.size + 1 + 1 + 1, 10, none⟩ (.bool x.d)).setCell ⟨w.heap.size + 1 + 1 + 1, 11, none⟩ (.slice x.q x.m x.e)) s0.val (andV a.s0 b.s0) ∧ SetAt (((((w2).setCell ⟨w.heap.size + 1 + 1 + 1, 8, none⟩ (.bool x.a)).setCell ⟨w.heap.size + 1 + 1 + 1, 9, none⟩ (.slice x.p x.n x.c)).setCell ⟨w.heap.size + 1 + 1 + 1, 10, none⟩ (.bool x.d)).setCell ⟨w.heap.size + 1 + 1 + 1, 11, none⟩ (.slice x.q x.m x.e)) s1.val (andV a.s1 b.s1) ∧ SetAt (((((w2).setCell ⟨w.heap.size + 1 + 1 + 1, 8, none⟩ (.bool x.a)).setCell ⟨w.heap.size + 1 + 1 + 1, 9, none⟩ (.slice x.p x.n x.c)).setCell ⟨w.heap.size + 1 + 1 + 1, 10, none⟩ (.bool x.d)).setCell ⟨w.heap.size + 1 + 1 + 1, 11, none⟩ (.slice x.q x.m x.e)) x.val (andV a.s2 b.s2)) := hide ⟨q2.set Q2.es (HP.out.1.on bw), q2.set Q2.es (HP.out.2.on bw), q2.set Q2.es hu⟩
      have HQ3 := hide Q3
      clear C0 C1 C2 C3
      refine wpAnyH_ready (rs := [9]) (by kernel_rfl) (by simp) ?_
      refine AllReadyH.cons rfl (fun K hK => ?_) AllReadyH.nil
      go_simp
      refine hK.out _ _ ⟨Q3.ea, Q3.eb⟩ (fun hHeld => ?_)
      clear hK K
      refine wpAnyH_done (by kernel_rfl) ?_ _
      clear hHeld Q2 Q3 q1 q2
      go_wp2
      exact ⟨⟨3, rfl, s0, s1, x, s3, HQ3, Or.inr (Or.inr (Or.inr (Or.inl ⟨rfl, hide QS.out⟩)))⟩, by simp [intOf]⟩
    · go_wp2
      refine wp_region_held_drew (S := fun w' => BxIn w' (w.heap.size) a0 a1 a2 a3 ∧ BxIn w' (w.heap.size + 1) b0 b1 b2 b3) (by kernel_rfl) ⟨HQ.out.ea, HQ.out.eb⟩ (fun hHeld => ?_)
      refine wpAnyH_take (i := 0) (oi := ⟨_, _, _, _, _, _⟩) (v := .int .i64 3) rfl (by kernel_rfl) (by kernel_rfl) (by kernel_rfl) (fun _ _ _ h => h) (yl_move (by rfl) _ rfl _ rfl) (by assumption) ?_
      simp only [Act.put, List.setIfInBounds_toArray, List.set_cons_zero, List.set_cons_succ]
      refine wpAnyH_take (i := 1) (oi := ⟨_, _, _, _, _, _⟩) (v := .int .i64 3) rfl (by kernel_rfl) (by kernel_rfl) (by kernel_rfl) (fun _ _ _ h => h) (yl_move (by rfl) _ rfl _ rfl) (by assumption) ?_
      simp only [Act.put, List.setIfInBounds_toArray, List.set_cons_zero, List.set_cons_succ]
      refine wpAnyH_take (i := 2) (oi := ⟨_, _, _, _, _, _⟩) (v := .pointer (some ⟨w.heap.size, 12, none⟩)) rfl (by kernel_rfl) (by kernel_rfl) (by kernel_rfl) (fun _ _ _ h => h) (yl_atBox (by rfl) _ _ rfl _ 3 rfl rfl (by omega)) (by assumption) ?_
      simp only [Act.put, List.setIfInBounds_toArray, List.set_cons_zero, List.set_cons_succ]
      refine wpAnyH_take (i := 3) (oi := ⟨_, _, _, _, _, _⟩) (v := .agg #[.bool a3.a, .slice a3.p a3.n a3.c, .bool a3.d, .slice a3.q a3.m a3.e]) rfl (by kernel_rfl) (by kernel_rfl) (by kernel_rfl) (fun _ _ _ h => h) (yl_set (by rfl) _ rfl _ 12 rfl _ _ _ _ (fun w' h => BxIn.at3 h.1)) (by assumption) ?_
      simp only [Act.put, List.setIfInBounds_toArray, List.set_cons_zero, List.set_cons_succ]
      refine wpAnyH_take (i := 4) (oi := ⟨_, _, _, _, _, _⟩) (v := .int .i64 3) rfl (by kernel_rfl) (by kernel_rfl) (by kernel_rfl) (fun _ _ _ h => h) (yl_move (by rfl) _ rfl _ rfl) (by assumption) ?_
      simp only [Act.put, List.setIfInBounds_toArray, List.set_cons_zero, List.set_cons_succ]
      refine wpAnyH_take (i := 5) (oi := ⟨_, _, _, _, _, _⟩) (v := .pointer (some ⟨w.heap.size + 1, 12, none⟩)) rfl (by kernel_rfl) (by kernel_rfl) (by kernel_rfl) (fun _ _ _ h => h) (yl_atBox (by rfl) _ _ rfl _ 3 rfl rfl (by omega)) (by assumption) ?_
      simp only [Act.put, List.setIfInBounds_toArray, List.set_cons_zero, List.set_cons_succ]
      refine wpAnyH_take (i := 6) (oi := ⟨_, _, _, _, _, _⟩) (v := .agg #[.bool b3.a, .slice b3.p b3.n b3.c, .bool b3.d, .slice b3.q b3.m b3.e]) rfl (by kernel_rfl) (by kernel_rfl) (by kernel_rfl) (fun _ _ _ h => h) (yl_set (by rfl) _ rfl _ 12 rfl _ _ _ _ (fun w' h => BxIn.at3 h.2)) (by assumption) ?_
      simp only [Act.put, List.setIfInBounds_toArray, List.set_cons_zero, List.set_cons_succ]
      -- call 1 of 1
      refine held_call (o := ⟨_, _, _, _, _, _⟩) 7 (by kernel_rfl) rfl (by rfl) 24 _ _ rfl #[.agg #[.bool a3.a, .slice a3.p a3.n a3.c, .bool a3.d, .slice a3.q a3.m a3.e], .agg #[.bool b3.a, .slice b3.p b3.n b3.c, .bool b3.d, .slice b3.q b3.m b3.e]] rfl (run_call Try.func24 (by kernel_rfl) (by kernel_rfl)) ?_
      refine (unhide (C3 wr.drew HQ.out.b.drew)).mono ?_
      rintro r w2 ⟨⟨u2, rfl, hu⟩, b'⟩
      have bw : Below wr.heap.size wr w2 := ⟨b'.os, b'.tape, b'.output, b'.size, b'.block⟩
      obtain ⟨x, rfl⟩ := hu.sc
      have Q2 := HQ.out.on bw
      refine ⟨.agg #[.bool x.a, .slice x.p x.n x.c, .bool x.d, .slice x.q x.m x.e], rfl, ⟨Q2.ea, Q2.eb⟩, fun hHeld => ?_⟩
      simp only [Act.put, List.setIfInBounds_toArray, List.set_cons_zero, List.set_cons_succ]
      refine wpAnyH_take (i := 8) (oi := ⟨_, _, _, _, _, _⟩) (v := .pointer (some ⟨w.heap.size + 1 + 1 + 1, 12, none⟩)) rfl (by kernel_rfl) (by kernel_rfl) (by kernel_rfl) (fun _ _ _ h => h) (yl_atBox (by rfl) _ _ rfl _ 3 rfl rfl (by omega)) (by assumption) ?_
      simp only [Act.put, List.setIfInBounds_toArray, List.set_cons_zero, List.set_cons_succ]
      obtain ⟨c0, c1, c2, c3⟩ := Q2.es.at3
      have z0 := Q2.es.soft 12
      have z1 := Q2.es.soft 13
      have z2 := Q2.es.soft 14
      have z3 := Q2.es.soft 15
      obtain ⟨q1, q2⟩ := put_bx3 x Q2.es
      have Q3 := Q2.put q2 q1
      have QS : Hid (SetAt (((((w2).setCell ⟨w.heap.size + 1 + 1 + 1, 12, none⟩ (.bool x.a)).setCell ⟨w.heap.size + 1 + 1 + 1, 13, none⟩ (.slice x.p x.n x.c)).setCell ⟨w.heap.size + 1 + 1 + 1, 14, none⟩ (.bool x.d)).setCell ⟨w.heap.size + 1 + 1 + 1, 15, none⟩ (.slice x.q x.m x.e)) s0.val (andV a.s0 b.s0) ∧ SetAt (((((w2).setCell ⟨w.heap.size + 1 + 1 + 1, 12, none⟩ (.bool x.a)).setCell ⟨w.heap.size + 1 + 1 + 1, 13, none⟩ (.slice x.p x.n x.c)).setCell ⟨w.heap.size + 1 + 1 + 1, 14, none⟩ (.bool x.d)).setCell ⟨w.heap.size + 1 + 1 + 1, 15, none⟩ (.slice x.q x.m x.e)) s1.val (andV a.s1 b.s1) ∧ SetAt (((((w2).setCell ⟨w.heap.size + 1 + 1 + 1, 12, none⟩ (.bool x.a)).setCell ⟨w.heap.size + 1 + 1 + 1, 13, none⟩ (.slice x.p x.n x.c)).setCell ⟨w.heap.size + 1 + 1 + 1, 14, none⟩ (.bool x.d)).setCell ⟨w.heap.size + 1 + 1 + 1, 15, none⟩ (.slice x.q x.m x.e)) s2.val (andV a.s2 b.s2) ∧ SetAt (((((w2).setCell ⟨w.heap.size + 1 + 1 + 1, 12, none⟩ (.bool x.a)).setCell ⟨w.heap.size + 1 + 1 + 1, 13, none⟩ (.slice x.p x.n x.c)).setCell ⟨w.heap.size + 1 + 1 + 1, 14, none⟩ (.bool x.d)).setCell ⟨w.heap.size + 1 + 1 + 1, 15, none⟩ (.slice x.q x.m x.e)) x.val (andV a.s3 b.s3)) := hide ⟨q2.set Q2.es (HP.out.1.on bw), q2.set Q2.es (HP.out.2.1.on bw), q2.set Q2.es (HP.out.2.2.on bw), q2.set Q2.es hu⟩
      have HQ3 := hide Q3
      clear C0 C1 C2 C3
      refine wpAnyH_ready (rs := [9]) (by kernel_rfl) (by simp) ?_
      refine AllReadyH.cons rfl (fun K hK => ?_) AllReadyH.nil
      go_simp
      refine hK.out _ _ ⟨Q3.ea, Q3.eb⟩ (fun hHeld => ?_)
      clear hK K
      refine wpAnyH_done (by kernel_rfl) ?_ _
      clear hHeld Q2 Q3 q1 q2
      go_wp2
      exact ⟨⟨4, rfl, s0, s1, s2, x, HQ3, Or.inr (Or.inr (Or.inr (Or.inr (⟨rfl, hide QS.out⟩))))⟩, by simp [intOf]⟩
    · obtain ⟨c0, c1, c2, c3, c4, c5, c6, c7, c8, c9, c10, c11, c12, c13, c14, c15⟩ := HQ.out.es.cells
      obtain ⟨d0, d1, d2, d3, d4, d5, d6, d7, d8, d9, d10, d11, d12, d13, d14, d15⟩ := HQ.out.ez.cells
      have z0 := HQ.out.ez.soft 0
      have z1 := HQ.out.ez.soft 1
      have z2 := HQ.out.ez.soft 2
      have z3 := HQ.out.ez.soft 3
      have z4 := HQ.out.ez.soft 4
      have z5 := HQ.out.ez.soft 5
      have z6 := HQ.out.ez.soft 6
      have z7 := HQ.out.ez.soft 7
      have z8 := HQ.out.ez.soft 8
      have z9 := HQ.out.ez.soft 9
      have z10 := HQ.out.ez.soft 10
      have z11 := HQ.out.ez.soft 11
      have z12 := HQ.out.ez.soft 12
      have z13 := HQ.out.ez.soft 13
      have z14 := HQ.out.ez.soft 14
      have z15 := HQ.out.ez.soft 15
      obtain ⟨q1, q2⟩ := put_whole s0 s1 s2 s3 HQ.out.ez
      have HZ := hide q1
      have HR : Hid (BoxAt (((((((((((((((((wr).setCell ⟨w.heap.size + 1 + 1, 0, none⟩ (.bool s0.a)).setCell ⟨w.heap.size + 1 + 1, 1, none⟩ (.slice s0.p s0.n s0.c)).setCell ⟨w.heap.size + 1 + 1, 2, none⟩ (.bool s0.d)).setCell ⟨w.heap.size + 1 + 1, 3, none⟩ (.slice s0.q s0.m s0.e)).setCell ⟨w.heap.size + 1 + 1, 4, none⟩ (.bool s1.a)).setCell ⟨w.heap.size + 1 + 1, 5, none⟩ (.slice s1.p s1.n s1.c)).setCell ⟨w.heap.size + 1 + 1, 6, none⟩ (.bool s1.d)).setCell ⟨w.heap.size + 1 + 1, 7, none⟩ (.slice s1.q s1.m s1.e)).setCell ⟨w.heap.size + 1 + 1, 8, none⟩ (.bool s2.a)).setCell ⟨w.heap.size + 1 + 1, 9, none⟩ (.slice s2.p s2.n s2.c)).setCell ⟨w.heap.size + 1 + 1, 10, none⟩ (.bool s2.d)).setCell ⟨w.heap.size + 1 + 1, 11, none⟩ (.slice s2.q s2.m s2.e)).setCell ⟨w.heap.size + 1 + 1, 12, none⟩ (.bool s3.a)).setCell ⟨w.heap.size + 1 + 1, 13, none⟩ (.slice s3.p s3.n s3.c)).setCell ⟨w.heap.size + 1 + 1, 14, none⟩ (.bool s3.d)).setCell ⟨w.heap.size + 1 + 1, 15, none⟩ (.slice s3.q s3.m s3.e)) (bxVal s0 s1 s2 s3) (andBx a b)) := hide (boxAt_of (q2.set HQ.out.ez HP.out.1) (q2.set HQ.out.ez HP.out.2.1) (q2.set HQ.out.ez HP.out.2.2.1) (q2.set HQ.out.ez HP.out.2.2.2))
      have HW := hide (q2.below _ _ (by omega) HQ.out.b)
      clear q1 q2 C0 C1 C2 C3 HQ HP
      go_wp2
      exact bodyPost_ret (results_cell_row rfl _ _ (w.heap.size + 1 + 1) 27 _ (0, 0) _ rfl HZ.out Try.underlying27 rfl infoBx) rfl ⟨⟨_, rfl, HR.out⟩, HW.out⟩
end Go.Proofs.Yteahjihmpchcbaa
