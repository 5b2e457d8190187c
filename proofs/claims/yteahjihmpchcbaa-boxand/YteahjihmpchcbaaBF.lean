/-
  The program's box: All, And.
-/
import Derived.Test.YteahjihmpchcbaaBE
set_option linter.unusedSimpArgs false
set_option linter.unusedVariables false
namespace Go.Proofs.Yteahjihmpchcbaa
open Go.RowKit

theorem FitBx.fit {b : BoxV} (h : FitBx b) (i : Nat) (hi : i < 4) : Fit (b.get i) := ⟨h.good.g i hi, Nat.le_trans (h.ni i hi) (by omega), Nat.le_trans (h.ns i hi) (by omega)⟩
/-- Two new blocks of zero boxes. -/
theorem two_zero (w : World) : BxIn ((w.alloc (.cells #[.bool false, .slice none 0 0, .bool false, .slice none 0 0, .bool false, .slice none 0 0, .bool false, .slice none 0 0, .bool false, .slice none 0 0, .bool false, .slice none 0 0, .bool false, .slice none 0 0, .bool false, .slice none 0 0] 27)).alloc (.cells #[.bool false, .slice none 0 0, .bool false, .slice none 0 0, .bool false, .slice none 0 0, .bool false, .slice none 0 0, .bool false, .slice none 0 0, .bool false, .slice none 0 0, .bool false, .slice none 0 0, .bool false, .slice none 0 0] 27)) w.heap.size SC.zero SC.zero SC.zero SC.zero ∧ BxIn ((w.alloc (.cells #[.bool false, .slice none 0 0, .bool false, .slice none 0 0, .bool false, .slice none 0 0, .bool false, .slice none 0 0, .bool false, .slice none 0 0, .bool false, .slice none 0 0, .bool false, .slice none 0 0, .bool false, .slice none 0 0] 27)).alloc (.cells #[.bool false, .slice none 0 0, .bool false, .slice none 0 0, .bool false, .slice none 0 0, .bool false, .slice none 0 0, .bool false, .slice none 0 0, .bool false, .slice none 0 0, .bool false, .slice none 0 0, .bool false, .slice none 0 0] 27)) (w.heap.size + 1) SC.zero SC.zero SC.zero SC.zero ∧ Below w.heap.size w ((w.alloc (.cells #[.bool false, .slice none 0 0, .bool false, .slice none 0 0, .bool false, .slice none 0 0, .bool false, .slice none 0 0, .bool false, .slice none 0 0, .bool false, .slice none 0 0, .bool false, .slice none 0 0, .bool false, .slice none 0 0] 27)).alloc (.cells #[.bool false, .slice none 0 0, .bool false, .slice none 0 0, .bool false, .slice none 0 0, .bool false, .slice none 0 0, .bool false, .slice none 0 0, .bool false, .slice none 0 0, .bool false, .slice none 0 0, .bool false, .slice none 0 0] 27)) := by
  have T := Two.start w (.cells #[.bool false, .slice none 0 0, .bool false, .slice none 0 0, .bool false, .slice none 0 0, .bool false, .slice none 0 0, .bool false, .slice none 0 0, .bool false, .slice none 0 0, .bool false, .slice none 0 0, .bool false, .slice none 0 0] 27) (.cells #[.bool false, .slice none 0 0, .bool false, .slice none 0 0, .bool false, .slice none 0 0, .bool false, .slice none 0 0, .bool false, .slice none 0 0, .bool false, .slice none 0 0, .bool false, .slice none 0 0, .bool false, .slice none 0 0] 27)
  exact ⟨T.e1, T.e2, T.b⟩

set_option maxHeartbeats 4000000 in
set_option maxRecDepth 100000 in
theorem boxAll_any (P : SetProg) (w : World) : Calls Try.prog 19 #[] w fun r w' => (∃ u, r = .returned u ∧ BoxAt w' u allBx) ∧ Below w.heap.size w w' := by
  have AL := fun (W : World) => hide (P.all W)
  obtain ⟨t1, t2, t3⟩ := two_zero w
  have T1 := hide t1
  have T2 := hide t2
  have T3 := hide t3
  clear t1 t2 t3
  go_enter Try.func19, Try.ntmps19
  go_wp2
  go_loopw [3] (fun i wr => ∃ k : Int, i = .int .i64 k ∧ ∃ s0 s1 s2 s3 : SC, Hid (BxIn wr (w.heap.size + 1) s0 s1 s2 s3) ∧ Hid (BxIn wr w.heap.size SC.zero SC.zero SC.zero SC.zero) ∧ Hid (Below w.heap.size w wr) ∧ (k = 0 ∨ (k = 1 ∧ Hid (SetAt wr s0.val allV)) ∨ (k = 2 ∧ Hid (SetAt wr s0.val allV ∧ SetAt wr s1.val allV)) ∨ (k = 3 ∧ Hid (SetAt wr s0.val allV ∧ SetAt wr s1.val allV ∧ SetAt wr s2.val allV)) ∨ (k = 4 ∧ Hid (SetAt wr s0.val allV ∧ SetAt wr s1.val allV ∧ SetAt wr s2.val allV ∧ SetAt wr s3.val allV)))) (fun i _ => 4 - (intOf i).toNat)
  case atStart => exact ⟨0, rfl, SC.zero, SC.zero, SC.zero, SC.zero, T2, T1, T3, Or.inl rfl⟩
  case round =>
    clear T1 T2 T3
    obtain ⟨k, rfl, s0, s1, s2, s3, HI, HZ, HB, hk⟩ := hrel
    rcases hk with rfl | ⟨rfl, HP⟩ | ⟨rfl, HP⟩ | ⟨rfl, HP⟩ | ⟨rfl, HP⟩
    · have X := AL wr
      go_wp2_with fail
      refine (unhide X).mono ?_
      rintro r w2 ⟨⟨u, rfl, hu⟩, b2⟩
      obtain ⟨x, rfl⟩ := hu.sc
      have I2 := HI.out.on b2
      obtain ⟨c0, c1, c2, c3, c4, c5, c6, c7, c8, c9, c10, c11, c12, c13, c14, c15⟩ := I2.cells
      have z0 := I2.soft 0
      have z1 := I2.soft 1
      have z2 := I2.soft 2
      have z3 := I2.soft 3
      obtain ⟨q1, q2⟩ := put_bx0 x I2
      have Q1 := hide q1
      have QZ := hide (q2.box (HZ.out.on b2) (by omega))
      have QB := hide (q2.below _ _ (by omega) (HB.out.trans (b2.mono HB.out.size)))
      have QS : Hid (SetAt (((((w2).setCell ⟨w.heap.size + 1, 0, none⟩ (.bool x.a)).setCell ⟨w.heap.size + 1, 1, none⟩ (.slice x.p x.n x.c)).setCell ⟨w.heap.size + 1, 2, none⟩ (.bool x.d)).setCell ⟨w.heap.size + 1, 3, none⟩ (.slice x.q x.m x.e)) x.val allV) := hide (q2.set I2 hu)
      clear q1 q2 X AL I2 hu b2
      unfold SC.val
      go_wp2
      exact ⟨⟨1, rfl, x, s1, s2, s3, Q1, QZ, QB, Or.inr (Or.inl ⟨rfl, hide QS.out⟩)⟩, by simp [intOf]⟩
    · have X := AL wr
      go_wp2_with fail
      refine (unhide X).mono ?_
      rintro r w2 ⟨⟨u, rfl, hu⟩, b2⟩
      obtain ⟨x, rfl⟩ := hu.sc
      have I2 := HI.out.on b2
      obtain ⟨c0, c1, c2, c3, c4, c5, c6, c7, c8, c9, c10, c11, c12, c13, c14, c15⟩ := I2.cells
      have z4 := I2.soft 4
      have z5 := I2.soft 5
      have z6 := I2.soft 6
      have z7 := I2.soft 7
      obtain ⟨q1, q2⟩ := put_bx1 x I2
      have Q1 := hide q1
      have QZ := hide (q2.box (HZ.out.on b2) (by omega))
      have QB := hide (q2.below _ _ (by omega) (HB.out.trans (b2.mono HB.out.size)))
      have QS : Hid (SetAt (((((w2).setCell ⟨w.heap.size + 1, 4, none⟩ (.bool x.a)).setCell ⟨w.heap.size + 1, 5, none⟩ (.slice x.p x.n x.c)).setCell ⟨w.heap.size + 1, 6, none⟩ (.bool x.d)).setCell ⟨w.heap.size + 1, 7, none⟩ (.slice x.q x.m x.e)) s0.val allV ∧ SetAt (((((w2).setCell ⟨w.heap.size + 1, 4, none⟩ (.bool x.a)).setCell ⟨w.heap.size + 1, 5, none⟩ (.slice x.p x.n x.c)).setCell ⟨w.heap.size + 1, 6, none⟩ (.bool x.d)).setCell ⟨w.heap.size + 1, 7, none⟩ (.slice x.q x.m x.e)) x.val allV) := hide (⟨q2.set I2 (HP.out.on b2), q2.set I2 hu⟩)
      clear q1 q2 X AL I2 hu b2
      unfold SC.val
      go_wp2
      exact ⟨⟨2, rfl, s0, x, s2, s3, Q1, QZ, QB, Or.inr (Or.inr (Or.inl ⟨rfl, hide QS.out⟩))⟩, by simp [intOf]⟩
    · have X := AL wr
      go_wp2_with fail
      refine (unhide X).mono ?_
      rintro r w2 ⟨⟨u, rfl, hu⟩, b2⟩
      obtain ⟨x, rfl⟩ := hu.sc
      have I2 := HI.out.on b2
      obtain ⟨c0, c1, c2, c3, c4, c5, c6, c7, c8, c9, c10, c11, c12, c13, c14, c15⟩ := I2.cells
      have z8 := I2.soft 8
      have z9 := I2.soft 9
      have z10 := I2.soft 10
      have z11 := I2.soft 11
      obtain ⟨q1, q2⟩ := put_bx2 x I2
      have Q1 := hide q1
      have QZ := hide (q2.box (HZ.out.on b2) (by omega))
      have QB := hide (q2.below _ _ (by omega) (HB.out.trans (b2.mono HB.out.size)))
      have QS : Hid (SetAt (((((w2).setCell ⟨w.heap.size + 1, 8, none⟩ (.bool x.a)).setCell ⟨w.heap.size + 1, 9, none⟩ (.slice x.p x.n x.c)).setCell ⟨w.heap.size + 1, 10, none⟩ (.bool x.d)).setCell ⟨w.heap.size + 1, 11, none⟩ (.slice x.q x.m x.e)) s0.val allV ∧ SetAt (((((w2).setCell ⟨w.heap.size + 1, 8, none⟩ (.bool x.a)).setCell ⟨w.heap.size + 1, 9, none⟩ (.slice x.p x.n x.c)).setCell ⟨w.heap.size + 1, 10, none⟩ (.bool x.d)).setCell ⟨w.heap.size + 1, 11, none⟩ (.slice x.q x.m x.e)) s1.val allV ∧ SetAt (((((w2).setCell ⟨w.heap.size + 1, 8, none⟩ (.bool x.a)).setCell ⟨w.heap.size + 1, 9, none⟩ (.slice x.p x.n x.c)).setCell ⟨w.heap.size + 1, 10, none⟩ (.bool x.d)).setCell ⟨w.heap.size + 1, 11, none⟩ (.slice x.q x.m x.e)) x.val allV) := hide (⟨q2.set I2 (HP.out.1.on b2), q2.set I2 (HP.out.2.on b2), q2.set I2 hu⟩)
      clear q1 q2 X AL I2 hu b2
      unfold SC.val
      go_wp2
      exact ⟨⟨3, rfl, s0, s1, x, s3, Q1, QZ, QB, Or.inr (Or.inr (Or.inr (Or.inl ⟨rfl, hide QS.out⟩)))⟩, by simp [intOf]⟩
    · have X := AL wr
      go_wp2_with fail
      refine (unhide X).mono ?_
      rintro r w2 ⟨⟨u, rfl, hu⟩, b2⟩
      obtain ⟨x, rfl⟩ := hu.sc
      have I2 := HI.out.on b2
      obtain ⟨c0, c1, c2, c3, c4, c5, c6, c7, c8, c9, c10, c11, c12, c13, c14, c15⟩ := I2.cells
      have z12 := I2.soft 12
      have z13 := I2.soft 13
      have z14 := I2.soft 14
      have z15 := I2.soft 15
      obtain ⟨q1, q2⟩ := put_bx3 x I2
      have Q1 := hide q1
      have QZ := hide (q2.box (HZ.out.on b2) (by omega))
      have QB := hide (q2.below _ _ (by omega) (HB.out.trans (b2.mono HB.out.size)))
      have QS : Hid (SetAt (((((w2).setCell ⟨w.heap.size + 1, 12, none⟩ (.bool x.a)).setCell ⟨w.heap.size + 1, 13, none⟩ (.slice x.p x.n x.c)).setCell ⟨w.heap.size + 1, 14, none⟩ (.bool x.d)).setCell ⟨w.heap.size + 1, 15, none⟩ (.slice x.q x.m x.e)) s0.val allV ∧ SetAt (((((w2).setCell ⟨w.heap.size + 1, 12, none⟩ (.bool x.a)).setCell ⟨w.heap.size + 1, 13, none⟩ (.slice x.p x.n x.c)).setCell ⟨w.heap.size + 1, 14, none⟩ (.bool x.d)).setCell ⟨w.heap.size + 1, 15, none⟩ (.slice x.q x.m x.e)) s1.val allV ∧ SetAt (((((w2).setCell ⟨w.heap.size + 1, 12, none⟩ (.bool x.a)).setCell ⟨w.heap.size + 1, 13, none⟩ (.slice x.p x.n x.c)).setCell ⟨w.heap.size + 1, 14, none⟩ (.bool x.d)).setCell ⟨w.heap.size + 1, 15, none⟩ (.slice x.q x.m x.e)) s2.val allV ∧ SetAt (((((w2).setCell ⟨w.heap.size + 1, 12, none⟩ (.bool x.a)).setCell ⟨w.heap.size + 1, 13, none⟩ (.slice x.p x.n x.c)).setCell ⟨w.heap.size + 1, 14, none⟩ (.bool x.d)).setCell ⟨w.heap.size + 1, 15, none⟩ (.slice x.q x.m x.e)) x.val allV) := hide (⟨q2.set I2 (HP.out.1.on b2), q2.set I2 (HP.out.2.1.on b2), q2.set I2 (HP.out.2.2.on b2), q2.set I2 hu⟩)
      clear q1 q2 X AL I2 hu b2
      unfold SC.val
      go_wp2
      exact ⟨⟨4, rfl, s0, s1, s2, x, Q1, QZ, QB, Or.inr (Or.inr (Or.inr (Or.inr (⟨rfl, hide QS.out⟩))))⟩, by simp [intOf]⟩
    · obtain ⟨c0, c1, c2, c3, c4, c5, c6, c7, c8, c9, c10, c11, c12, c13, c14, c15⟩ := HI.out.cells
      obtain ⟨d0, d1, d2, d3, d4, d5, d6, d7, d8, d9, d10, d11, d12, d13, d14, d15⟩ := HZ.out.cells
      have z0 := HZ.out.soft 0
      have z1 := HZ.out.soft 1
      have z2 := HZ.out.soft 2
      have z3 := HZ.out.soft 3
      have z4 := HZ.out.soft 4
      have z5 := HZ.out.soft 5
      have z6 := HZ.out.soft 6
      have z7 := HZ.out.soft 7
      have z8 := HZ.out.soft 8
      have z9 := HZ.out.soft 9
      have z10 := HZ.out.soft 10
      have z11 := HZ.out.soft 11
      have z12 := HZ.out.soft 12
      have z13 := HZ.out.soft 13
      have z14 := HZ.out.soft 14
      have z15 := HZ.out.soft 15
      obtain ⟨q1, q2⟩ := put_whole s0 s1 s2 s3 HZ.out
      have HQ := hide q1
      have HR : Hid (BoxAt (((((((((((((((((wr).setCell ⟨w.heap.size, 0, none⟩ (.bool s0.a)).setCell ⟨w.heap.size, 1, none⟩ (.slice s0.p s0.n s0.c)).setCell ⟨w.heap.size, 2, none⟩ (.bool s0.d)).setCell ⟨w.heap.size, 3, none⟩ (.slice s0.q s0.m s0.e)).setCell ⟨w.heap.size, 4, none⟩ (.bool s1.a)).setCell ⟨w.heap.size, 5, none⟩ (.slice s1.p s1.n s1.c)).setCell ⟨w.heap.size, 6, none⟩ (.bool s1.d)).setCell ⟨w.heap.size, 7, none⟩ (.slice s1.q s1.m s1.e)).setCell ⟨w.heap.size, 8, none⟩ (.bool s2.a)).setCell ⟨w.heap.size, 9, none⟩ (.slice s2.p s2.n s2.c)).setCell ⟨w.heap.size, 10, none⟩ (.bool s2.d)).setCell ⟨w.heap.size, 11, none⟩ (.slice s2.q s2.m s2.e)).setCell ⟨w.heap.size, 12, none⟩ (.bool s3.a)).setCell ⟨w.heap.size, 13, none⟩ (.slice s3.p s3.n s3.c)).setCell ⟨w.heap.size, 14, none⟩ (.bool s3.d)).setCell ⟨w.heap.size, 15, none⟩ (.slice s3.q s3.m s3.e)) (bxVal s0 s1 s2 s3) allBx) := hide (boxAt_of (q2.set HZ.out HP.out.1) (q2.set HZ.out HP.out.2.1) (q2.set HZ.out HP.out.2.2.1) (q2.set HZ.out HP.out.2.2.2))
      have HW := hide (q2.below _ _ (Nat.le_refl _) HB.out)
      clear q1 q2 AL
      go_wp2
      exact bodyPost_ret (results_cell_row rfl _ _ w.heap.size 27 _ (0, 0) _ rfl HQ.out Try.underlying27 rfl infoBx) rfl ⟨⟨_, rfl, HR.out⟩, HW.out⟩
end Go.Proofs.Yteahjihmpchcbaa
