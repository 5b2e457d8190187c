/-
  The program's box: With.
-/
import Derived.Test.YteahjihmpchcbaaBJ
set_option linter.unusedSimpArgs false
set_option linter.unusedVariables false
namespace Go.Proofs.Yteahjihmpchcbaa
open Go.RowKit

theorem fit_put {b : BoxV} (fb : FitBx b) {s : SetV} (fs : Fit s) : ∀ (i : Nat) (hi : i < 4) (j : Nat), j < 4 → Fit ((b.put i s).get j) := fun i hi j hj => by
  rw [BoxV.get_put _ _ _ _ hi hj]
  split
  · exact fs
  · exact fb.fit j hj
set_option maxHeartbeats 8000000 in
set_option maxRecDepth 100000 in
theorem with_low (v : Value) (b : BoxV) (u : Value) (s : SetV) (w : World) (x : Int) (x0 : -9223372036854775808 ≤ x) (hx : x < 0) (hv : BoxAt w v b) (fb : FitBx b) (hu : SetAt w u s) (fs : Fit s) :
    Calls Try.prog 15 #[v, .int .i64 x, u] w fun r w' => (∃ y, r = .returned y ∧ BoxAt w' y (b)) ∧ Below w.heap.size w w' := by
  obtain ⟨s0, s1, s2, s3, rfl, h0, h1, h2, h3⟩ := hv.scs
  obtain ⟨t, rfl⟩ := hu.sc
  have T0 := Tri.start w (Obj.cells #[.bool s0.a, .slice s0.p s0.n s0.c, .bool s0.d, .slice s0.q s0.m s0.e, .bool s1.a, .slice s1.p s1.n s1.c, .bool s1.d, .slice s1.q s1.m s1.e, .bool s2.a, .slice s2.p s2.n s2.c, .bool s2.d, .slice s2.q s2.m s2.e, .bool s3.a, .slice s3.p s3.n s3.c, .bool s3.d, .slice s3.q s3.m s3.e] 27) (Obj.cells #[.bool t.a, .slice t.p t.n t.c, .bool t.d, .slice t.q t.m t.e] 25) (Obj.cells #[.bool false, .slice none 0 0, .bool false, .slice none 0 0, .bool false, .slice none 0 0, .bool false, .slice none 0 0, .bool false, .slice none 0 0, .bool false, .slice none 0 0, .bool false, .slice none 0 0, .bool false, .slice none 0 0] 27)
  have S0 := hide (show Sets4 _ s0 s1 s2 s3 b from ⟨h0.on T0.b, h1.on T0.b, h2.on T0.b, h3.on T0.b⟩)
  have HT0 := hide (hu.on T0.b)
  have I0 := hide (show BxIn _ w.heap.size s0 s1 s2 s3 from T0.e1)
  have N0 := hide T0.e2
  have Z0 := hide (show BxIn _ (w.heap.size + 1 + 1) SC.zero SC.zero SC.zero SC.zero from T0.e3)
  have B0 := hide T0.b
  have HS : Hid (Sets4 w s0 s1 s2 s3 b) := hide ⟨h0, h1, h2, h3⟩
  have HU := hide hu
  have FB := hide (fun i hi => fb.fit i hi)
  have FP := hide (fit_put fb fs)
  clear hv fb hu fs h0 h1 h2 h3 T0
  unfold bxVal SC.val
  have hx' : (decide (0 ≤ x)) = false := by simp; omega
  go_enter Try.func15, Try.ntmps15
  have X := hide (copied_any _ b _ ((Sets4.box S0.out)) FB.out)
  unfold bxVal at X
  obtain ⟨c0, c1, c2, c3, c4, c5, c6, c7, c8, c9, c10, c11, c12, c13, c14, c15⟩ := I0.out.cells
  go_wp2_with fail
  refine (unhide X).mono ?_
  rintro r w2 ⟨⟨u2, rfl, h2⟩, b2⟩
  have Z2 := Z0.out.on b2
  have B2 := B0.out.trans (b2.mono B0.out.size)
  clear c0 c1 c2 c3 c4 c5 c6 c7 c8 c9 c10 c11 c12 c13 c14 c15
  obtain ⟨x0, x1, x2, x3, rfl, g0, g1, g2, g3⟩ := h2.scs
  obtain ⟨d0, d1, d2, d3, d4, d5, d6, d7, d8, d9, d10, d11, d12, d13, d14, d15⟩ := Z2.cells
  have y0 := Z2.soft 0
  have y1 := Z2.soft 1
  have y2 := Z2.soft 2
  have y3 := Z2.soft 3
  have y4 := Z2.soft 4
  have y5 := Z2.soft 5
  have y6 := Z2.soft 6
  have y7 := Z2.soft 7
  have y8 := Z2.soft 8
  have y9 := Z2.soft 9
  have y10 := Z2.soft 10
  have y11 := Z2.soft 11
  have y12 := Z2.soft 12
  have y13 := Z2.soft 13
  have y14 := Z2.soft 14
  have y15 := Z2.soft 15
  obtain ⟨q1, q2⟩ := put_whole x0 x1 x2 x3 Z2
  have HQ := hide q1
  have HR := hide (Sets4.box ⟨q2.set Z2 g0, q2.set Z2 g1, q2.set Z2 g2, q2.set Z2 g3⟩)
  have HW := hide (q2.below _ _ (by omega) B2)
  clear q1 q2 X g0 g1 g2 g3 h2 b2 B2 Z2 I0 N0 Z0 B0 S0 HT0 HS HU FB FP
  unfold bxVal
  go_wp2
  exact bodyPost_ret (results_cell_row rfl _ _ (w.heap.size + 1 + 1) 27 _ (0, 0) _ rfl HQ.out Try.underlying27 rfl infoBx) rfl ⟨⟨_, rfl, HR.out⟩, HW.out⟩
set_option maxHeartbeats 8000000 in
set_option maxRecDepth 100000 in
theorem with_high (v : Value) (b : BoxV) (u : Value) (s : SetV) (w : World) (x : Int) (x1 : x ≤ 9223372036854775807) (hx : 3 < x) (hv : BoxAt w v b) (fb : FitBx b) (hu : SetAt w u s) (fs : Fit s) :
    Calls Try.prog 15 #[v, .int .i64 x, u] w fun r w' => (∃ y, r = .returned y ∧ BoxAt w' y (b)) ∧ Below w.heap.size w w' := by
  obtain ⟨s0, s1, s2, s3, rfl, h0, h1, h2, h3⟩ := hv.scs
  obtain ⟨t, rfl⟩ := hu.sc
  have T0 := Tri.start w (Obj.cells #[.bool s0.a, .slice s0.p s0.n s0.c, .bool s0.d, .slice s0.q s0.m s0.e, .bool s1.a, .slice s1.p s1.n s1.c, .bool s1.d, .slice s1.q s1.m s1.e, .bool s2.a, .slice s2.p s2.n s2.c, .bool s2.d, .slice s2.q s2.m s2.e, .bool s3.a, .slice s3.p s3.n s3.c, .bool s3.d, .slice s3.q s3.m s3.e] 27) (Obj.cells #[.bool t.a, .slice t.p t.n t.c, .bool t.d, .slice t.q t.m t.e] 25) (Obj.cells #[.bool false, .slice none 0 0, .bool false, .slice none 0 0, .bool false, .slice none 0 0, .bool false, .slice none 0 0, .bool false, .slice none 0 0, .bool false, .slice none 0 0, .bool false, .slice none 0 0, .bool false, .slice none 0 0] 27)
  have S0 := hide (show Sets4 _ s0 s1 s2 s3 b from ⟨h0.on T0.b, h1.on T0.b, h2.on T0.b, h3.on T0.b⟩)
  have HT0 := hide (hu.on T0.b)
  have I0 := hide (show BxIn _ w.heap.size s0 s1 s2 s3 from T0.e1)
  have N0 := hide T0.e2
  have Z0 := hide (show BxIn _ (w.heap.size + 1 + 1) SC.zero SC.zero SC.zero SC.zero from T0.e3)
  have B0 := hide T0.b
  have HS : Hid (Sets4 w s0 s1 s2 s3 b) := hide ⟨h0, h1, h2, h3⟩
  have HU := hide hu
  have FB := hide (fun i hi => fb.fit i hi)
  have FP := hide (fit_put fb fs)
  clear hv fb hu fs h0 h1 h2 h3 T0
  unfold bxVal SC.val
  have hx' : (decide (0 ≤ x)) = true := by simp; omega
  have hx2 : (decide (x < 4)) = false := by simp; omega
  go_enter Try.func15, Try.ntmps15
  have X := hide (copied_any _ b _ ((Sets4.box S0.out)) FB.out)
  unfold bxVal at X
  obtain ⟨c0, c1, c2, c3, c4, c5, c6, c7, c8, c9, c10, c11, c12, c13, c14, c15⟩ := I0.out.cells
  go_wp2_with fail
  refine (unhide X).mono ?_
  rintro r w2 ⟨⟨u2, rfl, h2⟩, b2⟩
  have Z2 := Z0.out.on b2
  have B2 := B0.out.trans (b2.mono B0.out.size)
  clear c0 c1 c2 c3 c4 c5 c6 c7 c8 c9 c10 c11 c12 c13 c14 c15
  obtain ⟨x0, x1, x2, x3, rfl, g0, g1, g2, g3⟩ := h2.scs
  obtain ⟨d0, d1, d2, d3, d4, d5, d6, d7, d8, d9, d10, d11, d12, d13, d14, d15⟩ := Z2.cells
  have y0 := Z2.soft 0
  have y1 := Z2.soft 1
  have y2 := Z2.soft 2
  have y3 := Z2.soft 3
  have y4 := Z2.soft 4
  have y5 := Z2.soft 5
  have y6 := Z2.soft 6
  have y7 := Z2.soft 7
  have y8 := Z2.soft 8
  have y9 := Z2.soft 9
  have y10 := Z2.soft 10
  have y11 := Z2.soft 11
  have y12 := Z2.soft 12
  have y13 := Z2.soft 13
  have y14 := Z2.soft 14
  have y15 := Z2.soft 15
  obtain ⟨q1, q2⟩ := put_whole x0 x1 x2 x3 Z2
  have HQ := hide q1
  have HR := hide (Sets4.box ⟨q2.set Z2 g0, q2.set Z2 g1, q2.set Z2 g2, q2.set Z2 g3⟩)
  have HW := hide (q2.below _ _ (by omega) B2)
  clear q1 q2 X g0 g1 g2 g3 h2 b2 B2 Z2 I0 N0 Z0 B0 S0 HT0 HS HU FB FP
  unfold bxVal
  go_wp2
  exact bodyPost_ret (results_cell_row rfl _ _ (w.heap.size + 1 + 1) 27 _ (0, 0) _ rfl HQ.out Try.underlying27 rfl infoBx) rfl ⟨⟨_, rfl, HR.out⟩, HW.out⟩
set_option maxHeartbeats 8000000 in
set_option maxRecDepth 100000 in
theorem with_in0 (v : Value) (b : BoxV) (u : Value) (s : SetV) (w : World) (hv : BoxAt w v b) (fb : FitBx b) (hu : SetAt w u s) (fs : Fit s) :
    Calls Try.prog 15 #[v, .int .i64 0, u] w fun r w' => (∃ y, r = .returned y ∧ BoxAt w' y (b.put 0 s)) ∧ Below w.heap.size w w' := by
  obtain ⟨s0, s1, s2, s3, rfl, h0, h1, h2, h3⟩ := hv.scs
  obtain ⟨t, rfl⟩ := hu.sc
  have T0 := Tri.start w (Obj.cells #[.bool s0.a, .slice s0.p s0.n s0.c, .bool s0.d, .slice s0.q s0.m s0.e, .bool s1.a, .slice s1.p s1.n s1.c, .bool s1.d, .slice s1.q s1.m s1.e, .bool s2.a, .slice s2.p s2.n s2.c, .bool s2.d, .slice s2.q s2.m s2.e, .bool s3.a, .slice s3.p s3.n s3.c, .bool s3.d, .slice s3.q s3.m s3.e] 27) (Obj.cells #[.bool t.a, .slice t.p t.n t.c, .bool t.d, .slice t.q t.m t.e] 25) (Obj.cells #[.bool false, .slice none 0 0, .bool false, .slice none 0 0, .bool false, .slice none 0 0, .bool false, .slice none 0 0, .bool false, .slice none 0 0, .bool false, .slice none 0 0, .bool false, .slice none 0 0, .bool false, .slice none 0 0] 27)
  have S0 := hide (show Sets4 _ s0 s1 s2 s3 b from ⟨h0.on T0.b, h1.on T0.b, h2.on T0.b, h3.on T0.b⟩)
  have HT0 := hide (hu.on T0.b)
  have I0 := hide (show BxIn _ w.heap.size s0 s1 s2 s3 from T0.e1)
  have N0 := hide T0.e2
  have Z0 := hide (show BxIn _ (w.heap.size + 1 + 1) SC.zero SC.zero SC.zero SC.zero from T0.e3)
  have B0 := hide T0.b
  have HS : Hid (Sets4 w s0 s1 s2 s3 b) := hide ⟨h0, h1, h2, h3⟩
  have HU := hide hu
  have FB := hide (fun i hi => fb.fit i hi)
  have FP := hide (fit_put fb fs)
  clear hv fb hu fs h0 h1 h2 h3 T0
  unfold bxVal SC.val
  go_enter Try.func15, Try.ntmps15
  have T1 := Tri.start w (Obj.cells #[.bool t.a, .slice t.p t.n t.c, .bool t.d, .slice t.q t.m t.e, .bool s1.a, .slice s1.p s1.n s1.c, .bool s1.d, .slice s1.q s1.m s1.e, .bool s2.a, .slice s2.p s2.n s2.c, .bool s2.d, .slice s2.q s2.m s2.e, .bool s3.a, .slice s3.p s3.n s3.c, .bool s3.d, .slice s3.q s3.m s3.e] 27) (Obj.cells #[.bool t.a, .slice t.p t.n t.c, .bool t.d, .slice t.q t.m t.e] 25) (Obj.cells #[.bool false, .slice none 0 0, .bool false, .slice none 0 0, .bool false, .slice none 0 0, .bool false, .slice none 0 0, .bool false, .slice none 0 0, .bool false, .slice none 0 0, .bool false, .slice none 0 0, .bool false, .slice none 0 0] 27)
  have S1 : Sets4 _ t s1 s2 s3 (b.put 0 s) := ⟨HU.out.on T1.b, HS.out.2.1.on T1.b, HS.out.2.2.1.on T1.b, HS.out.2.2.2.on T1.b⟩
  have Z1 := hide (show BxIn _ (w.heap.size + 1 + 1) SC.zero SC.zero SC.zero SC.zero from T1.e3)
  have B1 := hide T1.b
  have X := hide (copied_any _ (b.put 0 s) _ (Sets4.box S1) (FP.out 0 (by omega)))
  unfold bxVal at X
  obtain ⟨c0, c1, c2, c3, c4, c5, c6, c7, c8, c9, c10, c11, c12, c13, c14, c15⟩ := I0.out.cells
  obtain ⟨e0, e1, e2, e3⟩ := setCells N0.out
  have z0 := I0.out.soft 0
  have z1 := I0.out.soft 1
  have z2 := I0.out.soft 2
  have z3 := I0.out.soft 3
  clear T1 S1
  go_wp2_with fail
  refine (unhide X).mono ?_
  rintro r w2 ⟨⟨u2, rfl, h2⟩, b2⟩
  have Z2 := Z1.out.on b2
  have B2 := B1.out.trans (b2.mono B1.out.size)
  clear c0 c1 c2 c3 c4 c5 c6 c7 c8 c9 c10 c11 c12 c13 c14 c15 e0 e1 e2 e3 z0 z1 z2 z3
  obtain ⟨x0, x1, x2, x3, rfl, g0, g1, g2, g3⟩ := h2.scs
  obtain ⟨d0, d1, d2, d3, d4, d5, d6, d7, d8, d9, d10, d11, d12, d13, d14, d15⟩ := Z2.cells
  have y0 := Z2.soft 0
  have y1 := Z2.soft 1
  have y2 := Z2.soft 2
  have y3 := Z2.soft 3
  have y4 := Z2.soft 4
  have y5 := Z2.soft 5
  have y6 := Z2.soft 6
  have y7 := Z2.soft 7
  have y8 := Z2.soft 8
  have y9 := Z2.soft 9
  have y10 := Z2.soft 10
  have y11 := Z2.soft 11
  have y12 := Z2.soft 12
  have y13 := Z2.soft 13
  have y14 := Z2.soft 14
  have y15 := Z2.soft 15
  obtain ⟨q1, q2⟩ := put_whole x0 x1 x2 x3 Z2
  have HQ := hide q1
  have HR := hide (Sets4.box ⟨q2.set Z2 g0, q2.set Z2 g1, q2.set Z2 g2, q2.set Z2 g3⟩)
  have HW := hide (q2.below _ _ (by omega) B2)
  clear q1 q2 X g0 g1 g2 g3 h2 b2 B2 Z2 I0 N0 Z0 B0 S0 HT0 HS HU FB FP
  unfold bxVal
  go_wp2
  exact bodyPost_ret (results_cell_row rfl _ _ (w.heap.size + 1 + 1) 27 _ (0, 0) _ rfl HQ.out Try.underlying27 rfl infoBx) rfl ⟨⟨_, rfl, HR.out⟩, HW.out⟩
set_option maxHeartbeats 8000000 in
set_option maxRecDepth 100000 in
theorem with_in1 (v : Value) (b : BoxV) (u : Value) (s : SetV) (w : World) (hv : BoxAt w v b) (fb : FitBx b) (hu : SetAt w u s) (fs : Fit s) :
    Calls Try.prog 15 #[v, .int .i64 1, u] w fun r w' => (∃ y, r = .returned y ∧ BoxAt w' y (b.put 1 s)) ∧ Below w.heap.size w w' := by
  obtain ⟨s0, s1, s2, s3, rfl, h0, h1, h2, h3⟩ := hv.scs
  obtain ⟨t, rfl⟩ := hu.sc
  have T0 := Tri.start w (Obj.cells #[.bool s0.a, .slice s0.p s0.n s0.c, .bool s0.d, .slice s0.q s0.m s0.e, .bool s1.a, .slice s1.p s1.n s1.c, .bool s1.d, .slice s1.q s1.m s1.e, .bool s2.a, .slice s2.p s2.n s2.c, .bool s2.d, .slice s2.q s2.m s2.e, .bool s3.a, .slice s3.p s3.n s3.c, .bool s3.d, .slice s3.q s3.m s3.e] 27) (Obj.cells #[.bool t.a, .slice t.p t.n t.c, .bool t.d, .slice t.q t.m t.e] 25) (Obj.cells #[.bool false, .slice none 0 0, .bool false, .slice none 0 0, .bool false, .slice none 0 0, .bool false, .slice none 0 0, .bool false, .slice none 0 0, .bool false, .slice none 0 0, .bool false, .slice none 0 0, .bool false, .slice none 0 0] 27)
  have S0 := hide (show Sets4 _ s0 s1 s2 s3 b from ⟨h0.on T0.b, h1.on T0.b, h2.on T0.b, h3.on T0.b⟩)
  have HT0 := hide (hu.on T0.b)
  have I0 := hide (show BxIn _ w.heap.size s0 s1 s2 s3 from T0.e1)
  have N0 := hide T0.e2
  have Z0 := hide (show BxIn _ (w.heap.size + 1 + 1) SC.zero SC.zero SC.zero SC.zero from T0.e3)
  have B0 := hide T0.b
  have HS : Hid (Sets4 w s0 s1 s2 s3 b) := hide ⟨h0, h1, h2, h3⟩
  have HU := hide hu
  have FB := hide (fun i hi => fb.fit i hi)
  have FP := hide (fit_put fb fs)
  clear hv fb hu fs h0 h1 h2 h3 T0
  unfold bxVal SC.val
  go_enter Try.func15, Try.ntmps15
  have T1 := Tri.start w (Obj.cells #[.bool s0.a, .slice s0.p s0.n s0.c, .bool s0.d, .slice s0.q s0.m s0.e, .bool t.a, .slice t.p t.n t.c, .bool t.d, .slice t.q t.m t.e, .bool s2.a, .slice s2.p s2.n s2.c, .bool s2.d, .slice s2.q s2.m s2.e, .bool s3.a, .slice s3.p s3.n s3.c, .bool s3.d, .slice s3.q s3.m s3.e] 27) (Obj.cells #[.bool t.a, .slice t.p t.n t.c, .bool t.d, .slice t.q t.m t.e] 25) (Obj.cells #[.bool false, .slice none 0 0, .bool false, .slice none 0 0, .bool false, .slice none 0 0, .bool false, .slice none 0 0, .bool false, .slice none 0 0, .bool false, .slice none 0 0, .bool false, .slice none 0 0, .bool false, .slice none 0 0] 27)
  have S1 : Sets4 _ s0 t s2 s3 (b.put 1 s) := ⟨HS.out.1.on T1.b, HU.out.on T1.b, HS.out.2.2.1.on T1.b, HS.out.2.2.2.on T1.b⟩
  have Z1 := hide (show BxIn _ (w.heap.size + 1 + 1) SC.zero SC.zero SC.zero SC.zero from T1.e3)
  have B1 := hide T1.b
  have X := hide (copied_any _ (b.put 1 s) _ (Sets4.box S1) (FP.out 1 (by omega)))
  unfold bxVal at X
  obtain ⟨c0, c1, c2, c3, c4, c5, c6, c7, c8, c9, c10, c11, c12, c13, c14, c15⟩ := I0.out.cells
  obtain ⟨e0, e1, e2, e3⟩ := setCells N0.out
  have z0 := I0.out.soft 4
  have z1 := I0.out.soft 5
  have z2 := I0.out.soft 6
  have z3 := I0.out.soft 7
  clear T1 S1
  go_wp2_with fail
  refine (unhide X).mono ?_
  rintro r w2 ⟨⟨u2, rfl, h2⟩, b2⟩
  have Z2 := Z1.out.on b2
  have B2 := B1.out.trans (b2.mono B1.out.size)
  clear c0 c1 c2 c3 c4 c5 c6 c7 c8 c9 c10 c11 c12 c13 c14 c15 e0 e1 e2 e3 z0 z1 z2 z3
  obtain ⟨x0, x1, x2, x3, rfl, g0, g1, g2, g3⟩ := h2.scs
  obtain ⟨d0, d1, d2, d3, d4, d5, d6, d7, d8, d9, d10, d11, d12, d13, d14, d15⟩ := Z2.cells
  have y0 := Z2.soft 0
  have y1 := Z2.soft 1
  have y2 := Z2.soft 2
  have y3 := Z2.soft 3
  have y4 := Z2.soft 4
  have y5 := Z2.soft 5
  have y6 := Z2.soft 6
  have y7 := Z2.soft 7
  have y8 := Z2.soft 8
  have y9 := Z2.soft 9
  have y10 := Z2.soft 10
  have y11 := Z2.soft 11
  have y12 := Z2.soft 12
  have y13 := Z2.soft 13
  have y14 := Z2.soft 14
  have y15 := Z2.soft 15
  obtain ⟨q1, q2⟩ := put_whole x0 x1 x2 x3 Z2
  have HQ := hide q1
  have HR := hide (Sets4.box ⟨q2.set Z2 g0, q2.set Z2 g1, q2.set Z2 g2, q2.set Z2 g3⟩)
  have HW := hide (q2.below _ _ (by omega) B2)
  clear q1 q2 X g0 g1 g2 g3 h2 b2 B2 Z2 I0 N0 Z0 B0 S0 HT0 HS HU FB FP
  unfold bxVal
  go_wp2
  exact bodyPost_ret (results_cell_row rfl _ _ (w.heap.size + 1 + 1) 27 _ (0, 0) _ rfl HQ.out Try.underlying27 rfl infoBx) rfl ⟨⟨_, rfl, HR.out⟩, HW.out⟩
set_option maxHeartbeats 8000000 in
set_option maxRecDepth 100000 in
theorem with_in2 (v : Value) (b : BoxV) (u : Value) (s : SetV) (w : World) (hv : BoxAt w v b) (fb : FitBx b) (hu : SetAt w u s) (fs : Fit s) :
    Calls Try.prog 15 #[v, .int .i64 2, u] w fun r w' => (∃ y, r = .returned y ∧ BoxAt w' y (b.put 2 s)) ∧ Below w.heap.size w w' := by
  obtain ⟨s0, s1, s2, s3, rfl, h0, h1, h2, h3⟩ := hv.scs
  obtain ⟨t, rfl⟩ := hu.sc
  have T0 := Tri.start w (Obj.cells #[.bool s0.a, .slice s0.p s0.n s0.c, .bool s0.d, .slice s0.q s0.m s0.e, .bool s1.a, .slice s1.p s1.n s1.c, .bool s1.d, .slice s1.q s1.m s1.e, .bool s2.a, .slice s2.p s2.n s2.c, .bool s2.d, .slice s2.q s2.m s2.e, .bool s3.a, .slice s3.p s3.n s3.c, .bool s3.d, .slice s3.q s3.m s3.e] 27) (Obj.cells #[.bool t.a, .slice t.p t.n t.c, .bool t.d, .slice t.q t.m t.e] 25) (Obj.cells #[.bool false, .slice none 0 0, .bool false, .slice none 0 0, .bool false, .slice none 0 0, .bool false, .slice none 0 0, .bool false, .slice none 0 0, .bool false, .slice none 0 0, .bool false, .slice none 0 0, .bool false, .slice none 0 0] 27)
  have S0 := hide (show Sets4 _ s0 s1 s2 s3 b from ⟨h0.on T0.b, h1.on T0.b, h2.on T0.b, h3.on T0.b⟩)
  have HT0 := hide (hu.on T0.b)
  have I0 := hide (show BxIn _ w.heap.size s0 s1 s2 s3 from T0.e1)
  have N0 := hide T0.e2
  have Z0 := hide (show BxIn _ (w.heap.size + 1 + 1) SC.zero SC.zero SC.zero SC.zero from T0.e3)
  have B0 := hide T0.b
  have HS : Hid (Sets4 w s0 s1 s2 s3 b) := hide ⟨h0, h1, h2, h3⟩
  have HU := hide hu
  have FB := hide (fun i hi => fb.fit i hi)
  have FP := hide (fit_put fb fs)
  clear hv fb hu fs h0 h1 h2 h3 T0
  unfold bxVal SC.val
  go_enter Try.func15, Try.ntmps15
  have T1 := Tri.start w (Obj.cells #[.bool s0.a, .slice s0.p s0.n s0.c, .bool s0.d, .slice s0.q s0.m s0.e, .bool s1.a, .slice s1.p s1.n s1.c, .bool s1.d, .slice s1.q s1.m s1.e, .bool t.a, .slice t.p t.n t.c, .bool t.d, .slice t.q t.m t.e, .bool s3.a, .slice s3.p s3.n s3.c, .bool s3.d, .slice s3.q s3.m s3.e] 27) (Obj.cells #[.bool t.a, .slice t.p t.n t.c, .bool t.d, .slice t.q t.m t.e] 25) (Obj.cells #[.bool false, .slice none 0 0, .bool false, .slice none 0 0, .bool false, .slice none 0 0, .bool false, .slice none 0 0, .bool false, .slice none 0 0, .bool false, .slice none 0 0, .bool false, .slice none 0 0, .bool false, .slice none 0 0] 27)
  have S1 : Sets4 _ s0 s1 t s3 (b.put 2 s) := ⟨HS.out.1.on T1.b, HS.out.2.1.on T1.b, HU.out.on T1.b, HS.out.2.2.2.on T1.b⟩
  have Z1 := hide (show BxIn _ (w.heap.size + 1 + 1) SC.zero SC.zero SC.zero SC.zero from T1.e3)
  have B1 := hide T1.b
  have X := hide (copied_any _ (b.put 2 s) _ (Sets4.box S1) (FP.out 2 (by omega)))
  unfold bxVal at X
  obtain ⟨c0, c1, c2, c3, c4, c5, c6, c7, c8, c9, c10, c11, c12, c13, c14, c15⟩ := I0.out.cells
  obtain ⟨e0, e1, e2, e3⟩ := setCells N0.out
  have z0 := I0.out.soft 8
  have z1 := I0.out.soft 9
  have z2 := I0.out.soft 10
  have z3 := I0.out.soft 11
  clear T1 S1
  go_wp2_with fail
  refine (unhide X).mono ?_
  rintro r w2 ⟨⟨u2, rfl, h2⟩, b2⟩
  have Z2 := Z1.out.on b2
  have B2 := B1.out.trans (b2.mono B1.out.size)
  clear c0 c1 c2 c3 c4 c5 c6 c7 c8 c9 c10 c11 c12 c13 c14 c15 e0 e1 e2 e3 z0 z1 z2 z3
  obtain ⟨x0, x1, x2, x3, rfl, g0, g1, g2, g3⟩ := h2.scs
  obtain ⟨d0, d1, d2, d3, d4, d5, d6, d7, d8, d9, d10, d11, d12, d13, d14, d15⟩ := Z2.cells
  have y0 := Z2.soft 0
  have y1 := Z2.soft 1
  have y2 := Z2.soft 2
  have y3 := Z2.soft 3
  have y4 := Z2.soft 4
  have y5 := Z2.soft 5
  have y6 := Z2.soft 6
  have y7 := Z2.soft 7
  have y8 := Z2.soft 8
  have y9 := Z2.soft 9
  have y10 := Z2.soft 10
  have y11 := Z2.soft 11
  have y12 := Z2.soft 12
  have y13 := Z2.soft 13
  have y14 := Z2.soft 14
  have y15 := Z2.soft 15
  obtain ⟨q1, q2⟩ := put_whole x0 x1 x2 x3 Z2
  have HQ := hide q1
  have HR := hide (Sets4.box ⟨q2.set Z2 g0, q2.set Z2 g1, q2.set Z2 g2, q2.set Z2 g3⟩)
  have HW := hide (q2.below _ _ (by omega) B2)
  clear q1 q2 X g0 g1 g2 g3 h2 b2 B2 Z2 I0 N0 Z0 B0 S0 HT0 HS HU FB FP
  unfold bxVal
  go_wp2
  exact bodyPost_ret (results_cell_row rfl _ _ (w.heap.size + 1 + 1) 27 _ (0, 0) _ rfl HQ.out Try.underlying27 rfl infoBx) rfl ⟨⟨_, rfl, HR.out⟩, HW.out⟩
set_option maxHeartbeats 8000000 in
set_option maxRecDepth 100000 in
theorem with_in3 (v : Value) (b : BoxV) (u : Value) (s : SetV) (w : World) (hv : BoxAt w v b) (fb : FitBx b) (hu : SetAt w u s) (fs : Fit s) :
    Calls Try.prog 15 #[v, .int .i64 3, u] w fun r w' => (∃ y, r = .returned y ∧ BoxAt w' y (b.put 3 s)) ∧ Below w.heap.size w w' := by
  obtain ⟨s0, s1, s2, s3, rfl, h0, h1, h2, h3⟩ := hv.scs
  obtain ⟨t, rfl⟩ := hu.sc
  have T0 := Tri.start w (Obj.cells #[.bool s0.a, .slice s0.p s0.n s0.c, .bool s0.d, .slice s0.q s0.m s0.e, .bool s1.a, .slice s1.p s1.n s1.c, .bool s1.d, .slice s1.q s1.m s1.e, .bool s2.a, .slice s2.p s2.n s2.c, .bool s2.d, .slice s2.q s2.m s2.e, .bool s3.a, .slice s3.p s3.n s3.c, .bool s3.d, .slice s3.q s3.m s3.e] 27) (Obj.cells #[.bool t.a, .slice t.p t.n t.c, .bool t.d, .slice t.q t.m t.e] 25) (Obj.cells #[.bool false, .slice none 0 0, .bool false, .slice none 0 0, .bool false, .slice none 0 0, .bool false, .slice none 0 0, .bool false, .slice none 0 0, .bool false, .slice none 0 0, .bool false, .slice none 0 0, .bool false, .slice none 0 0] 27)
  have S0 := hide (show Sets4 _ s0 s1 s2 s3 b from ⟨h0.on T0.b, h1.on T0.b, h2.on T0.b, h3.on T0.b⟩)
  have HT0 := hide (hu.on T0.b)
  have I0 := hide (show BxIn _ w.heap.size s0 s1 s2 s3 from T0.e1)
  have N0 := hide T0.e2
  have Z0 := hide (show BxIn _ (w.heap.size + 1 + 1) SC.zero SC.zero SC.zero SC.zero from T0.e3)
  have B0 := hide T0.b
  have HS : Hid (Sets4 w s0 s1 s2 s3 b) := hide ⟨h0, h1, h2, h3⟩
  have HU := hide hu
  have FB := hide (fun i hi => fb.fit i hi)
  have FP := hide (fit_put fb fs)
  clear hv fb hu fs h0 h1 h2 h3 T0
  unfold bxVal SC.val
  go_enter Try.func15, Try.ntmps15
  have T1 := Tri.start w (Obj.cells #[.bool s0.a, .slice s0.p s0.n s0.c, .bool s0.d, .slice s0.q s0.m s0.e, .bool s1.a, .slice s1.p s1.n s1.c, .bool s1.d, .slice s1.q s1.m s1.e, .bool s2.a, .slice s2.p s2.n s2.c, .bool s2.d, .slice s2.q s2.m s2.e, .bool t.a, .slice t.p t.n t.c, .bool t.d, .slice t.q t.m t.e] 27) (Obj.cells #[.bool t.a, .slice t.p t.n t.c, .bool t.d, .slice t.q t.m t.e] 25) (Obj.cells #[.bool false, .slice none 0 0, .bool false, .slice none 0 0, .bool false, .slice none 0 0, .bool false, .slice none 0 0, .bool false, .slice none 0 0, .bool false, .slice none 0 0, .bool false, .slice none 0 0, .bool false, .slice none 0 0] 27)
  have S1 : Sets4 _ s0 s1 s2 t (b.put 3 s) := ⟨HS.out.1.on T1.b, HS.out.2.1.on T1.b, HS.out.2.2.1.on T1.b, HU.out.on T1.b⟩
  have Z1 := hide (show BxIn _ (w.heap.size + 1 + 1) SC.zero SC.zero SC.zero SC.zero from T1.e3)
  have B1 := hide T1.b
  have X := hide (copied_any _ (b.put 3 s) _ (Sets4.box S1) (FP.out 3 (by omega)))
  unfold bxVal at X
  obtain ⟨c0, c1, c2, c3, c4, c5, c6, c7, c8, c9, c10, c11, c12, c13, c14, c15⟩ := I0.out.cells
  obtain ⟨e0, e1, e2, e3⟩ := setCells N0.out
  have z0 := I0.out.soft 12
  have z1 := I0.out.soft 13
  have z2 := I0.out.soft 14
  have z3 := I0.out.soft 15
  clear T1 S1
  go_wp2_with fail
  refine (unhide X).mono ?_
  rintro r w2 ⟨⟨u2, rfl, h2⟩, b2⟩
  have Z2 := Z1.out.on b2
  have B2 := B1.out.trans (b2.mono B1.out.size)
  clear c0 c1 c2 c3 c4 c5 c6 c7 c8 c9 c10 c11 c12 c13 c14 c15 e0 e1 e2 e3 z0 z1 z2 z3
  obtain ⟨x0, x1, x2, x3, rfl, g0, g1, g2, g3⟩ := h2.scs
  obtain ⟨d0, d1, d2, d3, d4, d5, d6, d7, d8, d9, d10, d11, d12, d13, d14, d15⟩ := Z2.cells
  have y0 := Z2.soft 0
  have y1 := Z2.soft 1
  have y2 := Z2.soft 2
  have y3 := Z2.soft 3
  have y4 := Z2.soft 4
  have y5 := Z2.soft 5
  have y6 := Z2.soft 6
  have y7 := Z2.soft 7
  have y8 := Z2.soft 8
  have y9 := Z2.soft 9
  have y10 := Z2.soft 10
  have y11 := Z2.soft 11
  have y12 := Z2.soft 12
  have y13 := Z2.soft 13
  have y14 := Z2.soft 14
  have y15 := Z2.soft 15
  obtain ⟨q1, q2⟩ := put_whole x0 x1 x2 x3 Z2
  have HQ := hide q1
  have HR := hide (Sets4.box ⟨q2.set Z2 g0, q2.set Z2 g1, q2.set Z2 g2, q2.set Z2 g3⟩)
  have HW := hide (q2.below _ _ (by omega) B2)
  clear q1 q2 X g0 g1 g2 g3 h2 b2 B2 Z2 I0 N0 Z0 B0 S0 HT0 HS HU FB FP
  unfold bxVal
  go_wp2
  exact bodyPost_ret (results_cell_row rfl _ _ (w.heap.size + 1 + 1) 27 _ (0, 0) _ rfl HQ.out Try.underlying27 rfl infoBx) rfl ⟨⟨_, rfl, HR.out⟩, HW.out⟩
theorem boxWith_any (v : Value) (b : BoxV) (x : Int) (u : Value) (s : SetV) (w : World) (x0 : -9223372036854775808 ≤ x) (x1 : x ≤ 9223372036854775807) (hv : BoxAt w v b) (fb : FitBx b) (hu : SetAt w u s) (fs : Fit s) :
    Calls Try.prog 15 #[v, .int .i64 x, u] w fun r w' => (∃ y, r = .returned y ∧ BoxAt w' y (withBx b x s)) ∧ Below w.heap.size w w' := by
  rcases (by omega : x < 0 ∨ x = 0 ∨ x = 1 ∨ x = 2 ∨ x = 3 ∨ 3 < x) with hx | rfl | rfl | rfl | rfl | hx
  · rw [show withBx b x s = b from by unfold withBx; rw [if_neg (by omega)]]
    exact with_low v b u s w x x0 hx hv fb hu fs
  · exact with_in0 v b u s w hv fb hu fs
  · exact with_in1 v b u s w hv fb hu fs
  · exact with_in2 v b u s w hv fb hu fs
  · exact with_in3 v b u s w hv fb hu fs
  · rw [show withBx b x s = b from by unfold withBx; rw [if_neg (by omega)]]
    exact with_high v b u s w x x1 hx hv fb hu fs
end Go.Proofs.Yteahjihmpchcbaa
