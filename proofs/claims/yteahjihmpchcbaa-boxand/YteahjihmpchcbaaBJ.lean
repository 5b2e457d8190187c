/-
  The program's box: copied, With, Atom; all its promises.
-/
import Derived.Test.YteahjihmpchcbaaBI
import Derived.Test.YteahjihmpchcbaaTM
set_option linter.unusedSimpArgs false
set_option linter.unusedVariables false
namespace Go.Proofs.Yteahjihmpchcbaa
open Go.RowKit

theorem SetAt.newInts {w : World} {s : SC} {S : SetV} (h : SetAt w s.val S) {p : Option Addr} {n c : Nat} (hr : RngsAt w (.slice p n c) S.ints) : SetAt w (SC.mk s.a p n c s.d s.q s.m s.e).val S := by
  obtain ⟨vi, vs, e, hI, hS⟩ := h
  unfold SC.val at e
  simp at e
  obtain ⟨e1, e2, e3, e4⟩ := e
  subst e4
  refine ⟨_, _, ?_, hr, hS⟩
  unfold SC.val
  rw [← e1, ← e3]
theorem SetAt.newStrs {w : World} {s : SC} {S : SetV} (h : SetAt w s.val S) {p : Option Addr} {n c : Nat} (hr : StrsAt w (.slice p n c) S.strs) : SetAt w (SC.mk s.a s.p s.n s.c s.d p n c).val S := by
  obtain ⟨vi, vs, e, hI, hS⟩ := h
  unfold SC.val at e
  simp at e
  obtain ⟨e1, e2, e3, e4⟩ := e
  subst e2
  refine ⟨_, _, ?_, hI, hr⟩
  unfold SC.val
  rw [← e1, ← e3]
theorem SetAt.getInts {w : World} {s : SC} {S : SetV} (h : SetAt w s.val S) : RngsAt w (.slice s.p s.n s.c) S.ints := by
  obtain ⟨vi, vs, e, hI, hS⟩ := h
  unfold SC.val at e
  simp at e
  obtain ⟨e1, e2, e3, e4⟩ := e
  rw [e2]; exact hI
theorem SetAt.getStrs {w : World} {s : SC} {S : SetV} (h : SetAt w s.val S) : StrsAt w (.slice s.q s.m s.e) S.strs := by
  obtain ⟨vi, vs, e, hI, hS⟩ := h
  unfold SC.val at e
  simp at e
  obtain ⟨e1, e2, e3, e4⟩ := e
  rw [e4]; exact hS
theorem put_ints0 {w : World} {q : Nat} {s0 s1 s2 s3 : SC} (p n c) (h : BxIn w q s0 s1 s2 s3) : BxIn (w.setCell ⟨q, 1, none⟩ (.slice p n c)) q ⟨s0.a, p, n, c, s0.d, s0.q, s0.m, s0.e⟩ s1 s2 s3 ∧ In1 w (w.setCell ⟨q, 1, none⟩ (.slice p n c)) q := ⟨heap_setCell (i := 1) (.slice p n c) h, in1_setCell _ _ _ _⟩
theorem put_strs0 {w : World} {q : Nat} {s0 s1 s2 s3 : SC} (p n c) (h : BxIn w q s0 s1 s2 s3) : BxIn (w.setCell ⟨q, 3, none⟩ (.slice p n c)) q ⟨s0.a, s0.p, s0.n, s0.c, s0.d, p, n, c⟩ s1 s2 s3 ∧ In1 w (w.setCell ⟨q, 3, none⟩ (.slice p n c)) q := ⟨heap_setCell (i := 3) (.slice p n c) h, in1_setCell _ _ _ _⟩
theorem put_ints1 {w : World} {q : Nat} {s0 s1 s2 s3 : SC} (p n c) (h : BxIn w q s0 s1 s2 s3) : BxIn (w.setCell ⟨q, 5, none⟩ (.slice p n c)) q s0 ⟨s1.a, p, n, c, s1.d, s1.q, s1.m, s1.e⟩ s2 s3 ∧ In1 w (w.setCell ⟨q, 5, none⟩ (.slice p n c)) q := ⟨heap_setCell (i := 5) (.slice p n c) h, in1_setCell _ _ _ _⟩
theorem put_strs1 {w : World} {q : Nat} {s0 s1 s2 s3 : SC} (p n c) (h : BxIn w q s0 s1 s2 s3) : BxIn (w.setCell ⟨q, 7, none⟩ (.slice p n c)) q s0 ⟨s1.a, s1.p, s1.n, s1.c, s1.d, p, n, c⟩ s2 s3 ∧ In1 w (w.setCell ⟨q, 7, none⟩ (.slice p n c)) q := ⟨heap_setCell (i := 7) (.slice p n c) h, in1_setCell _ _ _ _⟩
theorem put_ints2 {w : World} {q : Nat} {s0 s1 s2 s3 : SC} (p n c) (h : BxIn w q s0 s1 s2 s3) : BxIn (w.setCell ⟨q, 9, none⟩ (.slice p n c)) q s0 s1 ⟨s2.a, p, n, c, s2.d, s2.q, s2.m, s2.e⟩ s3 ∧ In1 w (w.setCell ⟨q, 9, none⟩ (.slice p n c)) q := ⟨heap_setCell (i := 9) (.slice p n c) h, in1_setCell _ _ _ _⟩
theorem put_strs2 {w : World} {q : Nat} {s0 s1 s2 s3 : SC} (p n c) (h : BxIn w q s0 s1 s2 s3) : BxIn (w.setCell ⟨q, 11, none⟩ (.slice p n c)) q s0 s1 ⟨s2.a, s2.p, s2.n, s2.c, s2.d, p, n, c⟩ s3 ∧ In1 w (w.setCell ⟨q, 11, none⟩ (.slice p n c)) q := ⟨heap_setCell (i := 11) (.slice p n c) h, in1_setCell _ _ _ _⟩
theorem put_ints3 {w : World} {q : Nat} {s0 s1 s2 s3 : SC} (p n c) (h : BxIn w q s0 s1 s2 s3) : BxIn (w.setCell ⟨q, 13, none⟩ (.slice p n c)) q s0 s1 s2 ⟨s3.a, p, n, c, s3.d, s3.q, s3.m, s3.e⟩ ∧ In1 w (w.setCell ⟨q, 13, none⟩ (.slice p n c)) q := ⟨heap_setCell (i := 13) (.slice p n c) h, in1_setCell _ _ _ _⟩
theorem put_strs3 {w : World} {q : Nat} {s0 s1 s2 s3 : SC} (p n c) (h : BxIn w q s0 s1 s2 s3) : BxIn (w.setCell ⟨q, 15, none⟩ (.slice p n c)) q s0 s1 s2 ⟨s3.a, s3.p, s3.n, s3.c, s3.d, p, n, c⟩ ∧ In1 w (w.setCell ⟨q, 15, none⟩ (.slice p n c)) q := ⟨heap_setCell (i := 15) (.slice p n c) h, in1_setCell _ _ _ _⟩
/-- Four sets at once. -/
def Sets4 (w : World) (s0 s1 s2 s3 : SC) (b : BoxV) : Prop := SetAt w s0.val b.s0 ∧ SetAt w s1.val b.s1 ∧ SetAt w s2.val b.s2 ∧ SetAt w s3.val b.s3
theorem Sets4.on {w w' : World} {s0 s1 s2 s3 : SC} {b : BoxV} (h : Sets4 w s0 s1 s2 s3 b) (hb : Below w.heap.size w w') : Sets4 w' s0 s1 s2 s3 b := ⟨h.1.on hb, h.2.1.on hb, h.2.2.1.on hb, h.2.2.2.on hb⟩
theorem In1.sets {w W : World} {q : Nat} {x0 x1 x2 x3 : SC} (h : In1 w W q) (hp : BxIn w q x0 x1 x2 x3) {s0 s1 s2 s3 : SC} {b : BoxV} (hs : Sets4 w s0 s1 s2 s3 b) : Sets4 W s0 s1 s2 s3 b := ⟨h.set hp hs.1, h.set hp hs.2.1, h.set hp hs.2.2.1, h.set hp hs.2.2.2⟩
theorem Sets4.box {w : World} {s0 s1 s2 s3 : SC} {b : BoxV} (h : Sets4 w s0 s1 s2 s3 b) : BoxAt w (bxVal s0 s1 s2 s3) b := boxAt_of h.1 h.2.1 h.2.2.1 h.2.2.2
theorem Fit.i64 {S : SetV} (h : Fit S) : inI64 S.ints := h.good.i

set_option maxHeartbeats 8000000 in
set_option maxRecDepth 100000 in
theorem copied_any (v : Value) (b : BoxV) (w : World) (hv : BoxAt w v b) (fb : ∀ i, i < 4 → Fit (b.get i)) :
    Calls Try.prog 27 #[v] w fun r w' => (∃ y, r = .returned y ∧ BoxAt w' y b) ∧ Below w.heap.size w w' := by
  obtain ⟨s0, s1, s2, s3, rfl, h0, h1, h2, h3⟩ := hv.scs
  have fi0 : Hid (inI64 b.s0.ints ∧ b.s0.ints.length ≤ 1000 ∧ (∀ s ∈ b.s0.strs, s.size ≤ 9223372036854775807) ∧ b.s0.strs.length ≤ 1000) := hide ⟨(fb 0 (by omega)).i64, (fb 0 (by omega)).ni, right_size (fb 0 (by omega)).good.rs, (fb 0 (by omega)).ns⟩
  have fi1 : Hid (inI64 b.s1.ints ∧ b.s1.ints.length ≤ 1000 ∧ (∀ s ∈ b.s1.strs, s.size ≤ 9223372036854775807) ∧ b.s1.strs.length ≤ 1000) := hide ⟨(fb 1 (by omega)).i64, (fb 1 (by omega)).ni, right_size (fb 1 (by omega)).good.rs, (fb 1 (by omega)).ns⟩
  have fi2 : Hid (inI64 b.s2.ints ∧ b.s2.ints.length ≤ 1000 ∧ (∀ s ∈ b.s2.strs, s.size ≤ 9223372036854775807) ∧ b.s2.strs.length ≤ 1000) := hide ⟨(fb 2 (by omega)).i64, (fb 2 (by omega)).ni, right_size (fb 2 (by omega)).good.rs, (fb 2 (by omega)).ns⟩
  have fi3 : Hid (inI64 b.s3.ints ∧ b.s3.ints.length ≤ 1000 ∧ (∀ s ∈ b.s3.strs, s.size ≤ 9223372036854775807) ∧ b.s3.strs.length ≤ 1000) := hide ⟨(fb 3 (by omega)).i64, (fb 3 (by omega)).ni, right_size (fb 3 (by omega)).good.rs, (fb 3 (by omega)).ns⟩
  have T0 := Two.start w (Obj.cells #[.bool s0.a, .slice s0.p s0.n s0.c, .bool s0.d, .slice s0.q s0.m s0.e, .bool s1.a, .slice s1.p s1.n s1.c, .bool s1.d, .slice s1.q s1.m s1.e, .bool s2.a, .slice s2.p s2.n s2.c, .bool s2.d, .slice s2.q s2.m s2.e, .bool s3.a, .slice s3.p s3.n s3.c, .bool s3.d, .slice s3.q s3.m s3.e] 27) (Obj.cells #[.bool false, .slice none 0 0, .bool false, .slice none 0 0, .bool false, .slice none 0 0, .bool false, .slice none 0 0, .bool false, .slice none 0 0, .bool false, .slice none 0 0, .bool false, .slice none 0 0, .bool false, .slice none 0 0] 27)
  have S0 := hide (show Sets4 _ s0 s1 s2 s3 b from ⟨h0.on T0.b, h1.on T0.b, h2.on T0.b, h3.on T0.b⟩)
  have I0 := hide (show BxIn _ w.heap.size s0 s1 s2 s3 from T0.e1)
  have Z0 := hide (show BxIn _ (w.heap.size + 1) SC.zero SC.zero SC.zero SC.zero from T0.e2)
  have B0 := hide T0.b
  clear hv fb h0 h1 h2 h3 T0
  unfold bxVal
  go_enter Try.func27, Try.ntmps27
  go_wp2
  go_loopw [4] (fun i wr => ∃ k : Int, i = .int .i64 k ∧ (k = 0 ∨ k = 1 ∨ k = 2 ∨ k = 3 ∨ k = 4) ∧ ∃ s0 s1 s2 s3 : SC, Hid (BxIn wr w.heap.size s0 s1 s2 s3) ∧ Hid (BxIn wr (w.heap.size + 1) SC.zero SC.zero SC.zero SC.zero) ∧ Hid (Below w.heap.size w wr) ∧ Hid (Sets4 wr s0 s1 s2 s3 b)) (fun i _ => 4 - (intOf i).toNat)
  case atStart => exact ⟨0, rfl, Or.inl rfl, s0, s1, s2, s3, I0, Z0, B0, S0⟩
  case round =>
    clear I0 Z0 B0 S0
    obtain ⟨k, rfl, hk, s0, s1, s2, s3, HI, HZ, HB, HS⟩ := hrel
    rcases hk with rfl | rfl | rfl | rfl | rfl
    · have X := hide (cloneR_any _ b.s0.ints wr HS.out.1.getInts (by have := fi0.out.2.1; omega))
      obtain ⟨c0, c1, c2, c3⟩ := HI.out.at0
      go_wp2_with fail
      refine (unhide X).mono ?_
      rintro r w2 ⟨⟨u2, rfl, o2⟩, b2⟩
      obtain ⟨p1, n1, r1, rfl⟩ := o2.frm
      have R2 := o2.rngs fi0.out.1 (by have := fi0.out.2.1; omega)
      have I2 := HI.out.on b2
      have S2 := HS.out.on b2
      have S2' : Sets4 w2 ⟨s0.a, p1, n1, r1, s0.d, s0.q, s0.m, s0.e⟩ s1 s2 s3 b := ⟨S2.1.newInts R2, S2.2.1, S2.2.2.1, S2.2.2.2⟩
      obtain ⟨q1, q2⟩ := put_ints0 p1 n1 r1 I2
      have I3 := hide q1
      have Z3 := hide (q2.box (HZ.out.on b2) (by omega))
      have B3 := hide (q2.below _ _ (Nat.le_refl _) (HB.out.trans (b2.mono HB.out.size)))
      have S3 := hide (q2.sets I2 S2')
      obtain ⟨e0, e1, e2, e3⟩ := I2.at0
      have z1 := I2.soft 1
      have Y := hide (clone_any _ b.s0.strs _ S3.out.1.getStrs (by have := fi0.out.2.2.2; omega))
      clear X c0 c1 c2 c3 I2 S2 S2' q1 q2 R2 o2 b2 HI HZ HB HS
      dsimp only at Y
      go_wp2_with fail
      refine (unhide Y).mono ?_
      rintro r w4 ⟨⟨u4, rfl, o4⟩, b4⟩
      obtain ⟨p3, n3, r3, rfl⟩ := o4.frm
      have R4 := o4.strs fi0.out.2.2.1 (by have := fi0.out.2.2.2; omega)
      have I4 := I3.out.on b4
      have S4 := S3.out.on b4
      have S4' : Sets4 w4 ⟨s0.a, p1, n1, r1, s0.d, p3, n3, r3⟩ s1 s2 s3 b := ⟨S4.1.newStrs R4, S4.2.1, S4.2.2.1, S4.2.2.2⟩
      obtain ⟨q1, q2⟩ := put_strs0 p3 n3 r3 I4
      have I5 := hide q1
      have Z5 := hide (q2.box (Z3.out.on b4) (by omega))
      have B5 := hide (q2.below _ _ (Nat.le_refl _) (B3.out.trans (b4.mono B3.out.size)))
      have S5 := hide (q2.sets I4 S4')
      obtain ⟨f0, f1, f2, f3⟩ := I4.at0
      dsimp only at f0 f1 f2 f3
      have z3 := I4.soft 3
      clear Y e0 e1 e2 e3 I3 Z3 B3 S3 I4 S4 S4' q1 q2 R4 o4 b4 z1
      go_wp2
      exact ⟨⟨1, rfl, by simp, ⟨s0.a, p1, n1, r1, s0.d, p3, n3, r3⟩, s1, s2, s3, I5, Z5, B5, S5⟩, by simp [intOf]⟩
    · have X := hide (cloneR_any _ b.s1.ints wr HS.out.2.1.getInts (by have := fi1.out.2.1; omega))
      obtain ⟨c0, c1, c2, c3⟩ := HI.out.at1
      go_wp2_with fail
      refine (unhide X).mono ?_
      rintro r w2 ⟨⟨u2, rfl, o2⟩, b2⟩
      obtain ⟨p1, n1, r1, rfl⟩ := o2.frm
      have R2 := o2.rngs fi1.out.1 (by have := fi1.out.2.1; omega)
      have I2 := HI.out.on b2
      have S2 := HS.out.on b2
      have S2' : Sets4 w2 s0 ⟨s1.a, p1, n1, r1, s1.d, s1.q, s1.m, s1.e⟩ s2 s3 b := ⟨S2.1, S2.2.1.newInts R2, S2.2.2.1, S2.2.2.2⟩
      obtain ⟨q1, q2⟩ := put_ints1 p1 n1 r1 I2
      have I3 := hide q1
      have Z3 := hide (q2.box (HZ.out.on b2) (by omega))
      have B3 := hide (q2.below _ _ (Nat.le_refl _) (HB.out.trans (b2.mono HB.out.size)))
      have S3 := hide (q2.sets I2 S2')
      obtain ⟨e0, e1, e2, e3⟩ := I2.at1
      have z1 := I2.soft 5
      have Y := hide (clone_any _ b.s1.strs _ S3.out.2.1.getStrs (by have := fi1.out.2.2.2; omega))
      clear X c0 c1 c2 c3 I2 S2 S2' q1 q2 R2 o2 b2 HI HZ HB HS
      dsimp only at Y
      go_wp2_with fail
      refine (unhide Y).mono ?_
      rintro r w4 ⟨⟨u4, rfl, o4⟩, b4⟩
      obtain ⟨p3, n3, r3, rfl⟩ := o4.frm
      have R4 := o4.strs fi1.out.2.2.1 (by have := fi1.out.2.2.2; omega)
      have I4 := I3.out.on b4
      have S4 := S3.out.on b4
      have S4' : Sets4 w4 s0 ⟨s1.a, p1, n1, r1, s1.d, p3, n3, r3⟩ s2 s3 b := ⟨S4.1, S4.2.1.newStrs R4, S4.2.2.1, S4.2.2.2⟩
      obtain ⟨q1, q2⟩ := put_strs1 p3 n3 r3 I4
      have I5 := hide q1
      have Z5 := hide (q2.box (Z3.out.on b4) (by omega))
      have B5 := hide (q2.below _ _ (Nat.le_refl _) (B3.out.trans (b4.mono B3.out.size)))
      have S5 := hide (q2.sets I4 S4')
      obtain ⟨f0, f1, f2, f3⟩ := I4.at1
      dsimp only at f0 f1 f2 f3
      have z3 := I4.soft 7
      clear Y e0 e1 e2 e3 I3 Z3 B3 S3 I4 S4 S4' q1 q2 R4 o4 b4 z1
      go_wp2
      exact ⟨⟨2, rfl, by simp, s0, ⟨s1.a, p1, n1, r1, s1.d, p3, n3, r3⟩, s2, s3, I5, Z5, B5, S5⟩, by simp [intOf]⟩
    · have X := hide (cloneR_any _ b.s2.ints wr HS.out.2.2.1.getInts (by have := fi2.out.2.1; omega))
      obtain ⟨c0, c1, c2, c3⟩ := HI.out.at2
      go_wp2_with fail
      refine (unhide X).mono ?_
      rintro r w2 ⟨⟨u2, rfl, o2⟩, b2⟩
      obtain ⟨p1, n1, r1, rfl⟩ := o2.frm
      have R2 := o2.rngs fi2.out.1 (by have := fi2.out.2.1; omega)
      have I2 := HI.out.on b2
      have S2 := HS.out.on b2
      have S2' : Sets4 w2 s0 s1 ⟨s2.a, p1, n1, r1, s2.d, s2.q, s2.m, s2.e⟩ s3 b := ⟨S2.1, S2.2.1, S2.2.2.1.newInts R2, S2.2.2.2⟩
      obtain ⟨q1, q2⟩ := put_ints2 p1 n1 r1 I2
      have I3 := hide q1
      have Z3 := hide (q2.box (HZ.out.on b2) (by omega))
      have B3 := hide (q2.below _ _ (Nat.le_refl _) (HB.out.trans (b2.mono HB.out.size)))
      have S3 := hide (q2.sets I2 S2')
      obtain ⟨e0, e1, e2, e3⟩ := I2.at2
      have z1 := I2.soft 9
      have Y := hide (clone_any _ b.s2.strs _ S3.out.2.2.1.getStrs (by have := fi2.out.2.2.2; omega))
      clear X c0 c1 c2 c3 I2 S2 S2' q1 q2 R2 o2 b2 HI HZ HB HS
      dsimp only at Y
      go_wp2_with fail
      refine (unhide Y).mono ?_
      rintro r w4 ⟨⟨u4, rfl, o4⟩, b4⟩
      obtain ⟨p3, n3, r3, rfl⟩ := o4.frm
      have R4 := o4.strs fi2.out.2.2.1 (by have := fi2.out.2.2.2; omega)
      have I4 := I3.out.on b4
      have S4 := S3.out.on b4
      have S4' : Sets4 w4 s0 s1 ⟨s2.a, p1, n1, r1, s2.d, p3, n3, r3⟩ s3 b := ⟨S4.1, S4.2.1, S4.2.2.1.newStrs R4, S4.2.2.2⟩
      obtain ⟨q1, q2⟩ := put_strs2 p3 n3 r3 I4
      have I5 := hide q1
      have Z5 := hide (q2.box (Z3.out.on b4) (by omega))
      have B5 := hide (q2.below _ _ (Nat.le_refl _) (B3.out.trans (b4.mono B3.out.size)))
      have S5 := hide (q2.sets I4 S4')
      obtain ⟨f0, f1, f2, f3⟩ := I4.at2
      dsimp only at f0 f1 f2 f3
      have z3 := I4.soft 11
      clear Y e0 e1 e2 e3 I3 Z3 B3 S3 I4 S4 S4' q1 q2 R4 o4 b4 z1
      go_wp2
      exact ⟨⟨3, rfl, by simp, s0, s1, ⟨s2.a, p1, n1, r1, s2.d, p3, n3, r3⟩, s3, I5, Z5, B5, S5⟩, by simp [intOf]⟩
    · have X := hide (cloneR_any _ b.s3.ints wr HS.out.2.2.2.getInts (by have := fi3.out.2.1; omega))
      obtain ⟨c0, c1, c2, c3⟩ := HI.out.at3
      go_wp2_with fail
      refine (unhide X).mono ?_
      rintro r w2 ⟨⟨u2, rfl, o2⟩, b2⟩
      obtain ⟨p1, n1, r1, rfl⟩ := o2.frm
      have R2 := o2.rngs fi3.out.1 (by have := fi3.out.2.1; omega)
      have I2 := HI.out.on b2
      have S2 := HS.out.on b2
      have S2' : Sets4 w2 s0 s1 s2 ⟨s3.a, p1, n1, r1, s3.d, s3.q, s3.m, s3.e⟩ b := ⟨S2.1, S2.2.1, S2.2.2.1, S2.2.2.2.newInts R2⟩
      obtain ⟨q1, q2⟩ := put_ints3 p1 n1 r1 I2
      have I3 := hide q1
      have Z3 := hide (q2.box (HZ.out.on b2) (by omega))
      have B3 := hide (q2.below _ _ (Nat.le_refl _) (HB.out.trans (b2.mono HB.out.size)))
      have S3 := hide (q2.sets I2 S2')
      obtain ⟨e0, e1, e2, e3⟩ := I2.at3
      have z1 := I2.soft 13
      have Y := hide (clone_any _ b.s3.strs _ S3.out.2.2.2.getStrs (by have := fi3.out.2.2.2; omega))
      clear X c0 c1 c2 c3 I2 S2 S2' q1 q2 R2 o2 b2 HI HZ HB HS
      dsimp only at Y
      go_wp2_with fail
      refine (unhide Y).mono ?_
      rintro r w4 ⟨⟨u4, rfl, o4⟩, b4⟩
      obtain ⟨p3, n3, r3, rfl⟩ := o4.frm
      have R4 := o4.strs fi3.out.2.2.1 (by have := fi3.out.2.2.2; omega)
      have I4 := I3.out.on b4
      have S4 := S3.out.on b4
      have S4' : Sets4 w4 s0 s1 s2 ⟨s3.a, p1, n1, r1, s3.d, p3, n3, r3⟩ b := ⟨S4.1, S4.2.1, S4.2.2.1, S4.2.2.2.newStrs R4⟩
      obtain ⟨q1, q2⟩ := put_strs3 p3 n3 r3 I4
      have I5 := hide q1
      have Z5 := hide (q2.box (Z3.out.on b4) (by omega))
      have B5 := hide (q2.below _ _ (Nat.le_refl _) (B3.out.trans (b4.mono B3.out.size)))
      have S5 := hide (q2.sets I4 S4')
      obtain ⟨f0, f1, f2, f3⟩ := I4.at3
      dsimp only at f0 f1 f2 f3
      have z3 := I4.soft 15
      clear Y e0 e1 e2 e3 I3 Z3 B3 S3 I4 S4 S4' q1 q2 R4 o4 b4 z1
      go_wp2
      exact ⟨⟨4, rfl, by simp, s0, s1, s2, ⟨s3.a, p1, n1, r1, s3.d, p3, n3, r3⟩, I5, Z5, B5, S5⟩, by simp [intOf]⟩
    · obtain ⟨c0, c1, c2, c3, c4, c5, c6, c7, c8, c9, c10, c11, c12, c13, c14, c15⟩ := HI.out.cells
      obtain ⟨d0, d1, d2, d3, d4, d5, d6, d7, d8, d9, d10, d11, d12, d13, d14, d15⟩ := HZ.out.cells
      have z0 := HZ.out.soft 0
      have z1 := HZ.out.soft 1
      have z2 := HZ.out.soft 2
      have z3 := HZ.out.soft 3
      have z4 := HZ.out.soft 4
      have z5 := HZ.out.soft 5
      have z6 := HZ.out.soft 6
      have z7 := HZ.out.soft 7
      have z8 := HZ.out.soft 8
      have z9 := HZ.out.soft 9
      have z10 := HZ.out.soft 10
      have z11 := HZ.out.soft 11
      have z12 := HZ.out.soft 12
      have z13 := HZ.out.soft 13
      have z14 := HZ.out.soft 14
      have z15 := HZ.out.soft 15
      obtain ⟨q1, q2⟩ := put_whole s0 s1 s2 s3 HZ.out
      have HQ := hide q1
      have HR := hide (q2.sets HZ.out HS.out).box
      have HW := hide (q2.below _ _ (by omega) HB.out)
      clear q1 q2
      go_wp2
      exact bodyPost_ret (results_cell_row rfl _ _ (w.heap.size + 1) 27 _ (0, 0) _ rfl HQ.out Try.underlying27 rfl infoBx) rfl ⟨⟨_, rfl, HR.out⟩, HW.out⟩


end Go.Proofs.Yteahjihmpchcbaa
