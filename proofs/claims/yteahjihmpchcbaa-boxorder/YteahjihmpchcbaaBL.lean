/-
  The program's box: Atom; all its promises.
-/
import Derived.Test.YteahjihmpchcbaaBK
set_option linter.unusedSimpArgs false
set_option linter.unusedVariables false
namespace Go.Proofs.Yteahjihmpchcbaa
open Go.RowKit

theorem allFit : FitBx allBx := ⟨all_good, fun i _ => by rw [allBx_get]; simp [allV], fun i _ => by rw [allBx_get]; simp [allV]⟩

set_option maxHeartbeats 8000000 in
set_option maxRecDepth 100000 in
theorem boxAtom_any (P : SetProg) (x : Int) (u : Value) (s : SetV) (w : World) (x0 : -9223372036854775808 ≤ x) (x1 : x ≤ 9223372036854775807) (hu : SetAt w u s) (fs : Fit s) :
    Calls Try.prog 18 #[.int .i64 x, u] w fun r w' => (∃ y, r = .returned y ∧ BoxAt w' y (withBx allBx x s)) ∧ Below w.heap.size w w' := by
  have CA := fun (W : World) => hide (boxAll_any P W)
  have CW := fun (W : World) (v : Value) (hv : BoxAt W v allBx) (hu : SetAt W u s) => hide (boxWith_any v allBx x u s W x0 x1 hv allFit hu fs)
  obtain ⟨t, rfl⟩ := hu.sc
  have T0 := Two.start w (Obj.cells #[.bool t.a, .slice t.p t.n t.c, .bool t.d, .slice t.q t.m t.e] 25) (Obj.cells #[.bool false, .slice none 0 0, .bool false, .slice none 0 0, .bool false, .slice none 0 0, .bool false, .slice none 0 0, .bool false, .slice none 0 0, .bool false, .slice none 0 0, .bool false, .slice none 0 0, .bool false, .slice none 0 0] 27)
  unfold SC.val at *
  go_enter Try.func18, Try.ntmps18
  go_wp2
  generalize hW : (w.alloc (Obj.cells #[.bool t.a, .slice t.p t.n t.c, .bool t.d, .slice t.q t.m t.e] 25)).alloc (Obj.cells #[.bool false, .slice none 0 0, .bool false, .slice none 0 0, .bool false, .slice none 0 0, .bool false, .slice none 0 0, .bool false, .slice none 0 0, .bool false, .slice none 0 0, .bool false, .slice none 0 0, .bool false, .slice none 0 0] 27) = W0 at T0 ⊢
  clear hW
  refine wp_region_held_drew (S := fun w' => w'.heap[w.heap.size]? = some (Obj.cells #[.bool t.a, .slice t.p t.n t.c, .bool t.d, .slice t.q t.m t.e] 25 (0, 0))) (by kernel_rfl) T0.e1 (fun hHeld => ?_)
  refine wpAnyH_take (i := 1) (oi := ⟨_, _, _, _, _, _⟩) (v := .int .i64 x) rfl (by kernel_rfl) (by kernel_rfl) (by kernel_rfl) (fun _ _ _ h => h) (yl_move (by rfl) _ rfl _ rfl) (by assumption) ?_
  simp only [Act.put, List.setIfInBounds_toArray, List.set_cons_zero, List.set_cons_succ]
  refine wpAnyH_take (i := 2) (oi := ⟨_, _, _, _, _, _⟩) (v := .agg #[.bool t.a, .slice t.p t.n t.c, .bool t.d, .slice t.q t.m t.e]) rfl (by kernel_rfl) (by kernel_rfl) (by kernel_rfl) (fun _ _ _ h => h) (yl_set (by rfl) _ rfl _ 0 rfl _ _ _ _ (fun w' h => setCells h)) (by assumption) ?_
  simp only [Act.put, List.setIfInBounds_toArray, List.set_cons_zero, List.set_cons_succ]
  -- call 1 of 2
  refine held_call (o := ⟨_, _, _, _, _, _⟩) 0 (by kernel_rfl) rfl (by rfl) 19 _ _ rfl #[] rfl (run_call Try.func19 (by kernel_rfl) (by kernel_rfl)) ?_
  refine (unhide (CA W0.drew)).mono ?_
  rintro r w1 ⟨⟨u1, rfl, h1⟩, b'⟩
  have bw : Below W0.heap.size W0 w1 := ⟨b'.os, b'.tape, b'.output, b'.size, b'.block⟩
  have T1 := T0.on bw
  obtain ⟨s0, s1, s2, s3, rfl, -⟩ := h1.scs
  refine ⟨.agg #[.bool s0.a, .slice s0.p s0.n s0.c, .bool s0.d, .slice s0.q s0.m s0.e, .bool s1.a, .slice s1.p s1.n s1.c, .bool s1.d, .slice s1.q s1.m s1.e, .bool s2.a, .slice s2.p s2.n s2.c, .bool s2.d, .slice s2.q s2.m s2.e, .bool s3.a, .slice s3.p s3.n s3.c, .bool s3.d, .slice s3.q s3.m s3.e], rfl, T1.e1, fun hHeld => ?_⟩
  simp only [Act.put, List.setIfInBounds_toArray, List.set_cons_zero, List.set_cons_succ]
  -- call 2 of 2
  refine held_call (o := ⟨_, _, _, _, _, _⟩) 3 (by kernel_rfl) rfl (by rfl) 15 _ _ rfl #[.agg #[.bool s0.a, .slice s0.p s0.n s0.c, .bool s0.d, .slice s0.q s0.m s0.e, .bool s1.a, .slice s1.p s1.n s1.c, .bool s1.d, .slice s1.q s1.m s1.e, .bool s2.a, .slice s2.p s2.n s2.c, .bool s2.d, .slice s2.q s2.m s2.e, .bool s3.a, .slice s3.p s3.n s3.c, .bool s3.d, .slice s3.q s3.m s3.e], .int .i64 x, .agg #[.bool t.a, .slice t.p t.n t.c, .bool t.d, .slice t.q t.m t.e]] rfl (run_call Try.func15 (by kernel_rfl) (by kernel_rfl)) ?_
  refine (unhide (CW w1 _ h1 (hu.on T1.b))).mono ?_
  rintro r w2 ⟨⟨u2, rfl, h2⟩, b2⟩
  have T2 := T1.on b2
  have Z2 : BxIn w2 (w.heap.size + 1) SC.zero SC.zero SC.zero SC.zero := T2.e2
  obtain ⟨x0, x1, x2, x3, rfl, g0, g1, g2, g3⟩ := h2.scs
  refine ⟨.agg #[.bool x0.a, .slice x0.p x0.n x0.c, .bool x0.d, .slice x0.q x0.m x0.e, .bool x1.a, .slice x1.p x1.n x1.c, .bool x1.d, .slice x1.q x1.m x1.e, .bool x2.a, .slice x2.p x2.n x2.c, .bool x2.d, .slice x2.q x2.m x2.e, .bool x3.a, .slice x3.p x3.n x3.c, .bool x3.d, .slice x3.q x3.m x3.e], rfl, T2.e1, fun hHeld => ?_⟩
  simp only [Act.put, List.setIfInBounds_toArray, List.set_cons_zero, List.set_cons_succ]
  obtain ⟨d0, d1, d2, d3, d4, d5, d6, d7, d8, d9, d10, d11, d12, d13, d14, d15⟩ := Z2.cells
  have y0 := Z2.soft 0
  have y1 := Z2.soft 1
  have y2 := Z2.soft 2
  have y3 := Z2.soft 3
  have y4 := Z2.soft 4
  have y5 := Z2.soft 5
  have y6 := Z2.soft 6
  have y7 := Z2.soft 7
  have y8 := Z2.soft 8
  have y9 := Z2.soft 9
  have y10 := Z2.soft 10
  have y11 := Z2.soft 11
  have y12 := Z2.soft 12
  have y13 := Z2.soft 13
  have y14 := Z2.soft 14
  have y15 := Z2.soft 15
  obtain ⟨q1, q2⟩ := put_whole x0 x1 x2 x3 Z2
  have HQ := hide q1
  have HR := hide (Sets4.box ⟨q2.set Z2 g0, q2.set Z2 g1, q2.set Z2 g2, q2.set Z2 g3⟩)
  have HW := hide (q2.below _ _ (by omega) T2.b)
  have E1 := (q2.other w.heap.size (by omega)).trans T2.e1
  refine wpAnyH_ready (rs := [4]) (by kernel_rfl) (by simp) ?_
  refine AllReadyH.cons rfl (fun K hK => ?_) AllReadyH.nil
  clear CA CW hHeld
  go_simp
  refine hK.out _ _ E1 (fun hHeld => ?_)
  clear hK K
  refine wpAnyH_done (by kernel_rfl) ?_ _
  go_wp2
  exact bodyPost_ret (results_cell_row rfl _ _ (w.heap.size + 1) 27 _ (0, 0) _ rfl HQ.out Try.underlying27 rfl infoBx) rfl ⟨⟨_, rfl, HR.out⟩, HW.out⟩

theorem boxProg (P : SetProg) : BoxProg := {
  all := boxAll_any P
  atom := fun x v s w x0 x1 h f => boxAtom_any P x v s w x0 x1 h f
  with_ := fun v b x u s w x0 x1 h f hs fs => boxWith_any v b x u s w x0 x1 h f hs fs
  and := fun v u a b w h h' f f' => boxAnd_any P v u a b w h h' f f'
  in_ := fun v u a b w h h' f f' => boxIn_any P v u a b w h h' f f'
  empty := fun v b w h f => boxEmpty_any P v b w h f
  same := fun v u a b w h h' f f' => boxSame_any P v u a b w h h' f f'
  differ := fun v u a b w h h' f f' => boxDiffer_any P v u a b w h h' f f'
  has := fun v b e w h f ef ee => boxHas_any P v b e w h f ef ee }
theorem boxProg0 : BoxProg := boxProg setProg
end Go.Proofs.Yteahjihmpchcbaa
