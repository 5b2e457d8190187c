/-
  The program's box: Differ, Same; slices.Clone of ranges.
-/
import Derived.Test.YteahjihmpchcbaaBH
import Derived.Test.YteahjihmpchcbaaTL
set_option linter.unusedSimpArgs false
set_option linter.unusedVariables false
namespace Go.Proofs.Yteahjihmpchcbaa
open Go.RowKit

set_option maxHeartbeats 1000000 in
set_option maxRecDepth 100000 in
theorem cloneR_any (v : Value) (l : List Rg) (w : World) (hv : RngsAt w v l) (hl : l.length ≤ 100000) :
    Calls Try.prog 40 #[v] w fun r w' => (∃ x, r = .returned x ∧ OwnR w' w.heap.size x l) ∧ Below w.heap.size w w' := by
  have HV := hide hv
  obtain ⟨a, cap, rfl⟩ := hv.form
  have hr := hv.room
  cases a with
  | none =>
    obtain ⟨e1, e2⟩ := hr.2 rfl
    subst e2
    have hm : l = [] := List.length_eq_zero_iff.1 e1
    subst hm
    clear hv hr HV e1
    simp only [List.length_nil]
    have QN := fun (W : World) => Lib.run_eql_slice_nil W _ _ none 0 0 0 0 Try.underlying22
    simp only [Option.isNone_none] at QN
    go_enter Try.func40, Try.ntmps40
    go_wp2
    go_ret
    exact ⟨⟨_, rfl, ownR_none _ _⟩, Below.refl _ _⟩
  | some ad =>
    have b0 := (Below.refl _ w).alloc (Nat.le_refl _) (Obj.cells #[] 55)
    have B0 := hide b0
    have VA := hide (HV.out.on b0)
    have HO := hide (ownR_empty w)
    have LE : Hid (([] : List Rg).length + l.length ≤ 1000000) := hide (by simp; omega)
    have szW : w.heap.size ≤ (w.alloc (Obj.cells #[] 55)).heap.size := b0.size
    have QN := fun (W : World) => Lib.run_eql_slice_nil W _ _ (some ad) l.length cap 0 0 Try.underlying22
    simp only [Option.isNone_some] at QN
    clear hv hr HV b0 hl
    go_enter Try.func40, Try.ntmps40
    go_wp2_with (at_builtin; refine wpList_appRow _ rfl _ _ rfl _ _ _ _ l rfl HO.out rfl VA.out (rngs_nil VA.out) LE.out szW ?_; intro v8 w8 hO8 hb8; have O8 := hide hO8; have B8 := hide (B0.out.trans hb8); clear hO8 hb8)
    go_ret
    rw [List.nil_append] at O8
    exact ⟨⟨_, rfl, O8.out⟩, B8.out⟩

def difStep (k : Int) (q : Bool) (s : Int × Int) : Int × Int := if q then s else (s.1 + 1, if s.1 = 0 then k else s.2)
theorem dif_all (q0 q1 q2 q3 : Bool) : difStep 3 q3 (difStep 2 q2 (difStep 1 q1 (difStep 0 q0 (0, -1)))) = (dif1 q0 + dif1 q1 + dif1 q2 + dif1 q3, if q0 then (if q1 then (if q2 then (if q3 then -1 else 3) else 2) else 1) else 0) := by
  cases q0 <;> cases q1 <;> cases q2 <;> cases q3 <;> decide
theorem same_dif (a b : BoxV) : sameBx a b = ((differBx a b).1 == 0) := by
  unfold sameBx differBx all4
  dsimp only
  cases sameB (a.get 0) (b.get 0) <;> cases sameB (a.get 1) (b.get 1) <;> cases sameB (a.get 2) (b.get 2) <;> cases sameB (a.get 3) (b.get 3) <;> rfl
theorem dif_true (k : Int) (s : Int × Int) : difStep k true s = s := rfl
theorem dif_zero (k y : Int) : difStep k false (0, y) = (1, k) := rfl
theorem dif_more (k x y : Int) (h : ¬ x = 0) : difStep k false (x, y) = (x + 1, y) := by simp [difStep, h]
set_option maxHeartbeats 4000000 in
set_option maxRecDepth 100000 in
theorem boxDiffer_any (P : SetProg) (v u : Value) (a b : BoxV) (w : World) (hv : BoxAt w v a) (hu : BoxAt w u b) (fa : FitBx a) (fb : FitBx b) :
    Calls Try.prog 17 #[v, u] w fun r w' => r = .returned (.tuple #[.int .i64 (differBx a b).1, .int .i64 (differBx a b).2]) ∧ Below w.heap.size w w' := by
  obtain ⟨a0, a1, a2, a3, rfl, ha0, ha1, ha2, ha3⟩ := hv.scs
  obtain ⟨b0, b1, b2, b3, rfl, hb0, hb1, hb2, hb3⟩ := hu.scs
  have I0 := fun (W : World) (hb : Below w.heap.size w W) => hide (P.same _ _ a.s0 b.s0 W (ha0.on hb) (hb0.on hb) (fa.fit 0 (by omega)) (fb.fit 0 (by omega)))
  have I1 := fun (W : World) (hb : Below w.heap.size w W) => hide (P.same _ _ a.s1 b.s1 W (ha1.on hb) (hb1.on hb) (fa.fit 1 (by omega)) (fb.fit 1 (by omega)))
  have I2 := fun (W : World) (hb : Below w.heap.size w W) => hide (P.same _ _ a.s2 b.s2 W (ha2.on hb) (hb2.on hb) (fa.fit 2 (by omega)) (fb.fit 2 (by omega)))
  have I3 := fun (W : World) (hb : Below w.heap.size w W) => hide (P.same _ _ a.s3 b.s3 W (ha3.on hb) (hb3.on hb) (fa.fit 3 (by omega)) (fb.fit 3 (by omega)))
  have HR : Hid (differBx a b = (dif1 (sameB a.s0 b.s0) + dif1 (sameB a.s1 b.s1) + dif1 (sameB a.s2 b.s2) + dif1 (sameB a.s3 b.s3), if sameB a.s0 b.s0 then (if sameB a.s1 b.s1 then (if sameB a.s2 b.s2 then (if sameB a.s3 b.s3 then -1 else 3) else 2) else 1) else 0)) := hide rfl
  generalize differBx a b = R at HR ⊢
  generalize sameB a.s0 b.s0 = q0 at HR I0
  generalize sameB a.s1 b.s1 = q1 at HR I1
  generalize sameB a.s2 b.s2 = q2 at HR I2
  generalize sameB a.s3 b.s3 = q3 at HR I3
  have HD : Hid (R = difStep 3 q3 (difStep 2 q2 (difStep 1 q1 (difStep 0 q0 (0, -1))))) := hide (by rw [HR.out, dif_all])
  have T0 := hide (Two.start w (Obj.cells #[.bool a0.a, .slice a0.p a0.n a0.c, .bool a0.d, .slice a0.q a0.m a0.e, .bool a1.a, .slice a1.p a1.n a1.c, .bool a1.d, .slice a1.q a1.m a1.e, .bool a2.a, .slice a2.p a2.n a2.c, .bool a2.d, .slice a2.q a2.m a2.e, .bool a3.a, .slice a3.p a3.n a3.c, .bool a3.d, .slice a3.q a3.m a3.e] 27) (Obj.cells #[.bool b0.a, .slice b0.p b0.n b0.c, .bool b0.d, .slice b0.q b0.m b0.e, .bool b1.a, .slice b1.p b1.n b1.c, .bool b1.d, .slice b1.q b1.m b1.e, .bool b2.a, .slice b2.p b2.n b2.c, .bool b2.d, .slice b2.q b2.m b2.e, .bool b3.a, .slice b3.p b3.n b3.c, .bool b3.d, .slice b3.q b3.m b3.e] 27))
  clear hv hu fa fb ha0 ha1 ha2 ha3 hb0 hb1 hb2 hb3 HR
  unfold bxVal
  go_enter Try.func17, Try.ntmps17
  go_wp2
  go_loopw [4, 5, 7] (fun n m i wr => ∃ (k x y : Int), i = .int .i64 k ∧ n = .int .i64 x ∧ m = .int .i64 y ∧ 0 ≤ x ∧ x ≤ k ∧ ((k = 0 ∧ Hid ((x, y) = (0, -1))) ∨ (k = 1 ∧ Hid ((x, y) = difStep 0 q0 (0, -1))) ∨ (k = 2 ∧ Hid ((x, y) = difStep 1 q1 (difStep 0 q0 (0, -1)))) ∨ (k = 3 ∧ Hid ((x, y) = difStep 2 q2 (difStep 1 q1 (difStep 0 q0 (0, -1))))) ∨ (k = 4 ∧ Hid ((x, y) = difStep 3 q3 (difStep 2 q2 (difStep 1 q1 (difStep 0 q0 (0, -1))))))) ∧ Hid (Two w wr (Obj.cells #[.bool a0.a, .slice a0.p a0.n a0.c, .bool a0.d, .slice a0.q a0.m a0.e, .bool a1.a, .slice a1.p a1.n a1.c, .bool a1.d, .slice a1.q a1.m a1.e, .bool a2.a, .slice a2.p a2.n a2.c, .bool a2.d, .slice a2.q a2.m a2.e, .bool a3.a, .slice a3.p a3.n a3.c, .bool a3.d, .slice a3.q a3.m a3.e] 27) (Obj.cells #[.bool b0.a, .slice b0.p b0.n b0.c, .bool b0.d, .slice b0.q b0.m b0.e, .bool b1.a, .slice b1.p b1.n b1.c, .bool b1.d, .slice b1.q b1.m b1.e, .bool b2.a, .slice b2.p b2.n b2.c, .bool b2.d, .slice b2.q b2.m b2.e, .bool b3.a, .slice b3.p b3.n b3.c, .bool b3.d, .slice b3.q b3.m b3.e] 27))) (fun _ _ i _ => 4 - (intOf i).toNat)
  case atStart => exact ⟨0, 0, -1, rfl, rfl, rfl, by omega, by omega, Or.inl ⟨rfl, hide rfl⟩, T0⟩
  case round =>
    clear T0
    obtain ⟨k, x, y, rfl, rfl, rfl, hx0, hx1, hk, HT⟩ := hrel
    rcases hk with ⟨rfl, HP⟩ | ⟨rfl, HP⟩ | ⟨rfl, HP⟩ | ⟨rfl, HP⟩ | ⟨rfl, HP⟩
    · go_wp2
      refine wp_region_held_drew (S := fun w' => BxIn w' (w.heap.size) a0 a1 a2 a3 ∧ BxIn w' (w.heap.size + 1) b0 b1 b2 b3) (by kernel_rfl) ⟨HT.out.e1, HT.out.e2⟩ (fun hHeld => ?_)
      refine wpAnyH_take (i := 0) (oi := ⟨_, _, _, _, _, _⟩) (v := .int .i64 0) rfl (by kernel_rfl) (by kernel_rfl) (by kernel_rfl) (fun _ _ _ h => h) (yl_move (by rfl) _ rfl _ rfl) (by assumption) ?_
      simp only [Act.put, List.setIfInBounds_toArray, List.set_cons_zero, List.set_cons_succ]
      refine wpAnyH_take (i := 1) (oi := ⟨_, _, _, _, _, _⟩) (v := .pointer (some ⟨w.heap.size, 0, none⟩)) rfl (by kernel_rfl) (by kernel_rfl) (by kernel_rfl) (fun _ _ _ h => h) (yl_atBox (by rfl) _ _ rfl _ 0 rfl rfl (by omega)) (by assumption) ?_
      simp only [Act.put, List.setIfInBounds_toArray, List.set_cons_zero, List.set_cons_succ]
      refine wpAnyH_take (i := 2) (oi := ⟨_, _, _, _, _, _⟩) (v := .agg #[.bool a0.a, .slice a0.p a0.n a0.c, .bool a0.d, .slice a0.q a0.m a0.e]) rfl (by kernel_rfl) (by kernel_rfl) (by kernel_rfl) (fun _ _ _ h => h) (yl_set (by rfl) _ rfl _ 0 rfl _ _ _ _ (fun w' h => BxIn.at0 h.1)) (by assumption) ?_
      simp only [Act.put, List.setIfInBounds_toArray, List.set_cons_zero, List.set_cons_succ]
      refine wpAnyH_take (i := 3) (oi := ⟨_, _, _, _, _, _⟩) (v := .int .i64 0) rfl (by kernel_rfl) (by kernel_rfl) (by kernel_rfl) (fun _ _ _ h => h) (yl_move (by rfl) _ rfl _ rfl) (by assumption) ?_
      simp only [Act.put, List.setIfInBounds_toArray, List.set_cons_zero, List.set_cons_succ]
      refine wpAnyH_take (i := 4) (oi := ⟨_, _, _, _, _, _⟩) (v := .pointer (some ⟨w.heap.size + 1, 0, none⟩)) rfl (by kernel_rfl) (by kernel_rfl) (by kernel_rfl) (fun _ _ _ h => h) (yl_atBox (by rfl) _ _ rfl _ 0 rfl rfl (by omega)) (by assumption) ?_
      simp only [Act.put, List.setIfInBounds_toArray, List.set_cons_zero, List.set_cons_succ]
      refine wpAnyH_take (i := 5) (oi := ⟨_, _, _, _, _, _⟩) (v := .agg #[.bool b0.a, .slice b0.p b0.n b0.c, .bool b0.d, .slice b0.q b0.m b0.e]) rfl (by kernel_rfl) (by kernel_rfl) (by kernel_rfl) (fun _ _ _ h => h) (yl_set (by rfl) _ rfl _ 0 rfl _ _ _ _ (fun w' h => BxIn.at0 h.2)) (by assumption) ?_
      simp only [Act.put, List.setIfInBounds_toArray, List.set_cons_zero, List.set_cons_succ]
      -- call 1 of 1
      refine held_call (o := ⟨_, _, _, _, _, _⟩) 6 (by kernel_rfl) rfl (by rfl) 31 _ _ rfl #[.agg #[.bool a0.a, .slice a0.p a0.n a0.c, .bool a0.d, .slice a0.q a0.m a0.e], .agg #[.bool b0.a, .slice b0.p b0.n b0.c, .bool b0.d, .slice b0.q b0.m b0.e]] rfl (run_call Try.func31 (by kernel_rfl) (by kernel_rfl)) ?_
      refine (unhide (I0 wr.drew HT.out.b.drew)).mono ?_
      rintro r w2 ⟨rfl, b'⟩
      have bw : Below wr.heap.size wr w2 := ⟨b'.os, b'.tape, b'.output, b'.size, b'.block⟩
      have HT2 := hide (HT.out.on bw)
      refine ⟨.bool q0, rfl, ⟨HT2.out.e1, HT2.out.e2⟩, fun hHeld => ?_⟩
      simp only [Act.put, List.setIfInBounds_toArray, List.set_cons_zero, List.set_cons_succ]
      refine wpAnyH_done (by kernel_rfl) ?_ _
      clear hHeld HT I0 I1 I2 I3 b' bw
      cases hr : q0
      · by_cases hx : x = 0
        · subst hx
          go_wp2
          exact ⟨⟨1, 1, 0, rfl, rfl, rfl, by omega, by omega, Or.inr (Or.inl ⟨rfl, hide (by rw [hr, ← HP.out, dif_zero])⟩), HT2⟩, by simp [intOf]⟩
        · exact absurd hx1 (by omega)
      · go_wp2
        exact ⟨⟨1, x, y, rfl, rfl, rfl, by omega, by omega, Or.inr (Or.inl ⟨rfl, hide (by rw [hr, ← HP.out, dif_true])⟩), HT2⟩, by simp [intOf]⟩
    · go_wp2
      refine wp_region_held_drew (S := fun w' => BxIn w' (w.heap.size) a0 a1 a2 a3 ∧ BxIn w' (w.heap.size + 1) b0 b1 b2 b3) (by kernel_rfl) ⟨HT.out.e1, HT.out.e2⟩ (fun hHeld => ?_)
      refine wpAnyH_take (i := 0) (oi := ⟨_, _, _, _, _, _⟩) (v := .int .i64 1) rfl (by kernel_rfl) (by kernel_rfl) (by kernel_rfl) (fun _ _ _ h => h) (yl_move (by rfl) _ rfl _ rfl) (by assumption) ?_
      simp only [Act.put, List.setIfInBounds_toArray, List.set_cons_zero, List.set_cons_succ]
      refine wpAnyH_take (i := 1) (oi := ⟨_, _, _, _, _, _⟩) (v := .pointer (some ⟨w.heap.size, 4, none⟩)) rfl (by kernel_rfl) (by kernel_rfl) (by kernel_rfl) (fun _ _ _ h => h) (yl_atBox (by rfl) _ _ rfl _ 1 rfl rfl (by omega)) (by assumption) ?_
      simp only [Act.put, List.setIfInBounds_toArray, List.set_cons_zero, List.set_cons_succ]
      refine wpAnyH_take (i := 2) (oi := ⟨_, _, _, _, _, _⟩) (v := .agg #[.bool a1.a, .slice a1.p a1.n a1.c, .bool a1.d, .slice a1.q a1.m a1.e]) rfl (by kernel_rfl) (by kernel_rfl) (by kernel_rfl) (fun _ _ _ h => h) (yl_set (by rfl) _ rfl _ 4 rfl _ _ _ _ (fun w' h => BxIn.at1 h.1)) (by assumption) ?_
      simp only [Act.put, List.setIfInBounds_toArray, List.set_cons_zero, List.set_cons_succ]
      refine wpAnyH_take (i := 3) (oi := ⟨_, _, _, _, _, _⟩) (v := .int .i64 1) rfl (by kernel_rfl) (by kernel_rfl) (by kernel_rfl) (fun _ _ _ h => h) (yl_move (by rfl) _ rfl _ rfl) (by assumption) ?_
      simp only [Act.put, List.setIfInBounds_toArray, List.set_cons_zero, List.set_cons_succ]
      refine wpAnyH_take (i := 4) (oi := ⟨_, _, _, _, _, _⟩) (v := .pointer (some ⟨w.heap.size + 1, 4, none⟩)) rfl (by kernel_rfl) (by kernel_rfl) (by kernel_rfl) (fun _ _ _ h => h) (yl_atBox (by rfl) _ _ rfl _ 1 rfl rfl (by omega)) (by assumption) ?_
      simp only [Act.put, List.setIfInBounds_toArray, List.set_cons_zero, List.set_cons_succ]
      refine wpAnyH_take (i := 5) (oi := ⟨_, _, _, _, _, _⟩) (v := .agg #[.bool b1.a, .slice b1.p b1.n b1.c, .bool b1.d, .slice b1.q b1.m b1.e]) rfl (by kernel_rfl) (by kernel_rfl) (by kernel_rfl) (fun _ _ _ h => h) (yl_set (by rfl) _ rfl _ 4 rfl _ _ _ _ (fun w' h => BxIn.at1 h.2)) (by assumption) ?_
      simp only [Act.put, List.setIfInBounds_toArray, List.set_cons_zero, List.set_cons_succ]
      -- call 1 of 1
      refine held_call (o := ⟨_, _, _, _, _, _⟩) 6 (by kernel_rfl) rfl (by rfl) 31 _ _ rfl #[.agg #[.bool a1.a, .slice a1.p a1.n a1.c, .bool a1.d, .slice a1.q a1.m a1.e], .agg #[.bool b1.a, .slice b1.p b1.n b1.c, .bool b1.d, .slice b1.q b1.m b1.e]] rfl (run_call Try.func31 (by kernel_rfl) (by kernel_rfl)) ?_
      refine (unhide (I1 wr.drew HT.out.b.drew)).mono ?_
      rintro r w2 ⟨rfl, b'⟩
      have bw : Below wr.heap.size wr w2 := ⟨b'.os, b'.tape, b'.output, b'.size, b'.block⟩
      have HT2 := hide (HT.out.on bw)
      refine ⟨.bool q1, rfl, ⟨HT2.out.e1, HT2.out.e2⟩, fun hHeld => ?_⟩
      simp only [Act.put, List.setIfInBounds_toArray, List.set_cons_zero, List.set_cons_succ]
      refine wpAnyH_done (by kernel_rfl) ?_ _
      clear hHeld HT I0 I1 I2 I3 b' bw
      cases hr : q1
      · by_cases hx : x = 0
        · subst hx
          go_wp2
          exact ⟨⟨2, 1, 1, rfl, rfl, rfl, by omega, by omega, Or.inr (Or.inr (Or.inl ⟨rfl, hide (by rw [hr, ← HP.out, dif_zero])⟩)), HT2⟩, by simp [intOf]⟩
        · have hx' : (x == 0) = false := by simp [hx]
          go_wp2
          exact ⟨⟨2, x + 1, y, rfl, rfl, rfl, by omega, by omega, Or.inr (Or.inr (Or.inl ⟨rfl, hide (by rw [hr, ← HP.out, dif_more _ _ _ hx])⟩)), HT2⟩, by simp [intOf]⟩
      · go_wp2
        exact ⟨⟨2, x, y, rfl, rfl, rfl, by omega, by omega, Or.inr (Or.inr (Or.inl ⟨rfl, hide (by rw [hr, ← HP.out, dif_true])⟩)), HT2⟩, by simp [intOf]⟩
    · go_wp2
      refine wp_region_held_drew (S := fun w' => BxIn w' (w.heap.size) a0 a1 a2 a3 ∧ BxIn w' (w.heap.size + 1) b0 b1 b2 b3) (by kernel_rfl) ⟨HT.out.e1, HT.out.e2⟩ (fun hHeld => ?_)
      refine wpAnyH_take (i := 0) (oi := ⟨_, _, _, _, _, _⟩) (v := .int .i64 2) rfl (by kernel_rfl) (by kernel_rfl) (by kernel_rfl) (fun _ _ _ h => h) (yl_move (by rfl) _ rfl _ rfl) (by assumption) ?_
      simp only [Act.put, List.setIfInBounds_toArray, List.set_cons_zero, List.set_cons_succ]
      refine wpAnyH_take (i := 1) (oi := ⟨_, _, _, _, _, _⟩) (v := .pointer (some ⟨w.heap.size, 8, none⟩)) rfl (by kernel_rfl) (by kernel_rfl) (by kernel_rfl) (fun _ _ _ h => h) (yl_atBox (by rfl) _ _ rfl _ 2 rfl rfl (by omega)) (by assumption) ?_
      simp only [Act.put, List.setIfInBounds_toArray, List.set_cons_zero, List.set_cons_succ]
      refine wpAnyH_take (i := 2) (oi := ⟨_, _, _, _, _, _⟩) (v := .agg #[.bool a2.a, .slice a2.p a2.n a2.c, .bool a2.d, .slice a2.q a2.m a2.e]) rfl (by kernel_rfl) (by kernel_rfl) (by kernel_rfl) (fun _ _ _ h => h) (yl_set (by rfl) _ rfl _ 8 rfl _ _ _ _ (fun w' h => BxIn.at2 h.1)) (by assumption) ?_
      simp only [Act.put, List.setIfInBounds_toArray, List.set_cons_zero, List.set_cons_succ]
      refine wpAnyH_take (i := 3) (oi := ⟨_, _, _, _, _, _⟩) (v := .int .i64 2) rfl (by kernel_rfl) (by kernel_rfl) (by kernel_rfl) (fun _ _ _ h => h) (yl_move (by rfl) _ rfl _ rfl) (by assumption) ?_
      simp only [Act.put, List.setIfInBounds_toArray, List.set_cons_zero, List.set_cons_succ]
      refine wpAnyH_take (i := 4) (oi := ⟨_, _, _, _, _, _⟩) (v := .pointer (some ⟨w.heap.size + 1, 8, none⟩)) rfl (by kernel_rfl) (by kernel_rfl) (by kernel_rfl) (fun _ _ _ h => h) (yl_atBox (by rfl) _ _ rfl _ 2 rfl rfl (by omega)) (by assumption) ?_
      simp only [Act.put, List.setIfInBounds_toArray, List.set_cons_zero, List.set_cons_succ]
      refine wpAnyH_take (i := 5) (oi := ⟨_, _, _, _, _, _⟩) (v := .agg #[.bool b2.a, .slice b2.p b2.n b2.c, .bool b2.d, .slice b2.q b2.m b2.e]) rfl (by kernel_rfl) (by kernel_rfl) (by kernel_rfl) (fun _ _ _ h => h) (yl_set (by rfl) _ rfl _ 8 rfl _ _ _ _ (fun w' h => BxIn.at2 h.2)) (by assumption) ?_
      simp only [Act.put, List.setIfInBounds_toArray, List.set_cons_zero, List.set_cons_succ]
      -- call 1 of 1
      refine held_call (o := ⟨_, _, _, _, _, _⟩) 6 (by kernel_rfl) rfl (by rfl) 31 _ _ rfl #[.agg #[.bool a2.a, .slice a2.p a2.n a2.c, .bool a2.d, .slice a2.q a2.m a2.e], .agg #[.bool b2.a, .slice b2.p b2.n b2.c, .bool b2.d, .slice b2.q b2.m b2.e]] rfl (run_call Try.func31 (by kernel_rfl) (by kernel_rfl)) ?_
      refine (unhide (I2 wr.drew HT.out.b.drew)).mono ?_
      rintro r w2 ⟨rfl, b'⟩
      have bw : Below wr.heap.size wr w2 := ⟨b'.os, b'.tape, b'.output, b'.size, b'.block⟩
      have HT2 := hide (HT.out.on bw)
      refine ⟨.bool q2, rfl, ⟨HT2.out.e1, HT2.out.e2⟩, fun hHeld => ?_⟩
      simp only [Act.put, List.setIfInBounds_toArray, List.set_cons_zero, List.set_cons_succ]
      refine wpAnyH_done (by kernel_rfl) ?_ _
      clear hHeld HT I0 I1 I2 I3 b' bw
      cases hr : q2
      · by_cases hx : x = 0
        · subst hx
          go_wp2
          exact ⟨⟨3, 1, 2, rfl, rfl, rfl, by omega, by omega, Or.inr (Or.inr (Or.inr (Or.inl ⟨rfl, hide (by rw [hr, ← HP.out, dif_zero])⟩))), HT2⟩, by simp [intOf]⟩
        · have hx' : (x == 0) = false := by simp [hx]
          go_wp2
          exact ⟨⟨3, x + 1, y, rfl, rfl, rfl, by omega, by omega, Or.inr (Or.inr (Or.inr (Or.inl ⟨rfl, hide (by rw [hr, ← HP.out, dif_more _ _ _ hx])⟩))), HT2⟩, by simp [intOf]⟩
      · go_wp2
        exact ⟨⟨3, x, y, rfl, rfl, rfl, by omega, by omega, Or.inr (Or.inr (Or.inr (Or.inl ⟨rfl, hide (by rw [hr, ← HP.out, dif_true])⟩))), HT2⟩, by simp [intOf]⟩
    · go_wp2
      refine wp_region_held_drew (S := fun w' => BxIn w' (w.heap.size) a0 a1 a2 a3 ∧ BxIn w' (w.heap.size + 1) b0 b1 b2 b3) (by kernel_rfl) ⟨HT.out.e1, HT.out.e2⟩ (fun hHeld => ?_)
      refine wpAnyH_take (i := 0) (oi := ⟨_, _, _, _, _, _⟩) (v := .int .i64 3) rfl (by kernel_rfl) (by kernel_rfl) (by kernel_rfl) (fun _ _ _ h => h) (yl_move (by rfl) _ rfl _ rfl) (by assumption) ?_
      simp only [Act.put, List.setIfInBounds_toArray, List.set_cons_zero, List.set_cons_succ]
      refine wpAnyH_take (i := 1) (oi := ⟨_, _, _, _, _, _⟩) (v := .pointer (some ⟨w.heap.size, 12, none⟩)) rfl (by kernel_rfl) (by kernel_rfl) (by kernel_rfl) (fun _ _ _ h => h) (yl_atBox (by rfl) _ _ rfl _ 3 rfl rfl (by omega)) (by assumption) ?_
      simp only [Act.put, List.setIfInBounds_toArray, List.set_cons_zero, List.set_cons_succ]
      refine wpAnyH_take (i := 2) (oi := ⟨_, _, _, _, _, _⟩) (v := .agg #[.bool a3.a, .slice a3.p a3.n a3.c, .bool a3.d, .slice a3.q a3.m a3.e]) rfl (by kernel_rfl) (by kernel_rfl) (by kernel_rfl) (fun _ _ _ h => h) (yl_set (by rfl) _ rfl _ 12 rfl _ _ _ _ (fun w' h => BxIn.at3 h.1)) (by assumption) ?_
      simp only [Act.put, List.setIfInBounds_toArray, List.set_cons_zero, List.set_cons_succ]
      refine wpAnyH_take (i := 3) (oi := ⟨_, _, _, _, _, _⟩) (v := .int .i64 3) rfl (by kernel_rfl) (by kernel_rfl) (by kernel_rfl) (fun _ _ _ h => h) (yl_move (by rfl) _ rfl _ rfl) (by assumption) ?_
      simp only [Act.put, List.setIfInBounds_toArray, List.set_cons_zero, List.set_cons_succ]
      refine wpAnyH_take (i := 4) (oi := ⟨_, _, _, _, _, _⟩) (v := .pointer (some ⟨w.heap.size + 1, 12, none⟩)) rfl (by kernel_rfl) (by kernel_rfl) (by kernel_rfl) (fun _ _ _ h => h) (yl_atBox (by rfl) _ _ rfl _ 3 rfl rfl (by omega)) (by assumption) ?_
      simp only [Act.put, List.setIfInBounds_toArray, List.set_cons_zero, List.set_cons_succ]
      refine wpAnyH_take (i := 5) (oi := ⟨_, _, _, _, _, _⟩) (v := .agg #[.bool b3.a, .slice b3.p b3.n b3.c, .bool b3.d, .slice b3.q b3.m b3.e]) rfl (by kernel_rfl) (by kernel_rfl) (by kernel_rfl) (fun _ _ _ h => h) (yl_set (by rfl) _ rfl _ 12 rfl _ _ _ _ (fun w' h => BxIn.at3 h.2)) (by assumption) ?_
      simp only [Act.put, List.setIfInBounds_toArray, List.set_cons_zero, List.set_cons_succ]
      -- call 1 of 1
      refine held_call (o := ⟨_, _, _, _, _, _⟩) 6 (by kernel_rfl) rfl (by rfl) 31 _ _ rfl #[.agg #[.bool a3.a, .slice a3.p a3.n a3.c, .bool a3.d, .slice a3.q a3.m a3.e], .agg #[.bool b3.a, .slice b3.p b3.n b3.c, .bool b3.d, .slice b3.q b3.m b3.e]] rfl (run_call Try.func31 (by kernel_rfl) (by kernel_rfl)) ?_
      refine (unhide (I3 wr.drew HT.out.b.drew)).mono ?_
      rintro r w2 ⟨rfl, b'⟩
      have bw : Below wr.heap.size wr w2 := ⟨b'.os, b'.tape, b'.output, b'.size, b'.block⟩
      have HT2 := hide (HT.out.on bw)
      refine ⟨.bool q3, rfl, ⟨HT2.out.e1, HT2.out.e2⟩, fun hHeld => ?_⟩
      simp only [Act.put, List.setIfInBounds_toArray, List.set_cons_zero, List.set_cons_succ]
      refine wpAnyH_done (by kernel_rfl) ?_ _
      clear hHeld HT I0 I1 I2 I3 b' bw
      cases hr : q3
      · by_cases hx : x = 0
        · subst hx
          go_wp2
          exact ⟨⟨4, 1, 3, rfl, rfl, rfl, by omega, by omega, Or.inr (Or.inr (Or.inr (Or.inr (⟨rfl, hide (by rw [hr, ← HP.out, dif_zero])⟩)))), HT2⟩, by simp [intOf]⟩
        · have hx' : (x == 0) = false := by simp [hx]
          go_wp2
          exact ⟨⟨4, x + 1, y, rfl, rfl, rfl, by omega, by omega, Or.inr (Or.inr (Or.inr (Or.inr (⟨rfl, hide (by rw [hr, ← HP.out, dif_more _ _ _ hx])⟩)))), HT2⟩, by simp [intOf]⟩
      · go_wp2
        exact ⟨⟨4, x, y, rfl, rfl, rfl, by omega, by omega, Or.inr (Or.inr (Or.inr (Or.inr (⟨rfl, hide (by rw [hr, ← HP.out, dif_true])⟩)))), HT2⟩, by simp [intOf]⟩
    · have HF := hide (HD.out.trans HP.out.symm)
      go_wp2
      go_ret2
      exact ⟨by rw [HF.out]; rfl, HT.out.b⟩

set_option maxHeartbeats 4000000 in
set_option maxRecDepth 100000 in
theorem boxSame_any (P : SetProg) (v u : Value) (a b : BoxV) (w : World) (hv : BoxAt w v a) (hu : BoxAt w u b) (fa : FitBx a) (fb : FitBx b) :
    Calls Try.prog 20 #[v, u] w fun r w' => r = .returned (.bool (sameBx a b)) ∧ Below w.heap.size w w' := by
  have HR := hide (same_dif a b)
  have CD := fun (W : World) (hb : Below w.heap.size w W) => hide (boxDiffer_any P v u a b W (hv.on hb) (hu.on hb) fa fb)
  obtain ⟨a0, a1, a2, a3, rfl, ha0, ha1, ha2, ha3⟩ := hv.scs
  obtain ⟨b0, b1, b2, b3, rfl, hb0, hb1, hb2, hb3⟩ := hu.scs
  have T0 := Two.start w (Obj.cells #[.bool a0.a, .slice a0.p a0.n a0.c, .bool a0.d, .slice a0.q a0.m a0.e, .bool a1.a, .slice a1.p a1.n a1.c, .bool a1.d, .slice a1.q a1.m a1.e, .bool a2.a, .slice a2.p a2.n a2.c, .bool a2.d, .slice a2.q a2.m a2.e, .bool a3.a, .slice a3.p a3.n a3.c, .bool a3.d, .slice a3.q a3.m a3.e] 27) (Obj.cells #[.bool b0.a, .slice b0.p b0.n b0.c, .bool b0.d, .slice b0.q b0.m b0.e, .bool b1.a, .slice b1.p b1.n b1.c, .bool b1.d, .slice b1.q b1.m b1.e, .bool b2.a, .slice b2.p b2.n b2.c, .bool b2.d, .slice b2.q b2.m b2.e, .bool b3.a, .slice b3.p b3.n b3.c, .bool b3.d, .slice b3.q b3.m b3.e] 27)
  have X := CD _ T0.b
  have HT := hide T0
  clear hv hu fa fb ha0 ha1 ha2 ha3 hb0 hb1 hb2 hb3 T0 CD
  generalize (differBx a b).1 = n at HR X
  generalize (differBx a b).2 = m at X
  unfold bxVal at *
  obtain ⟨c0, c1, c2, c3, c4, c5, c6, c7, c8, c9, c10, c11, c12, c13, c14, c15⟩ := bxCells HT.out.e1
  obtain ⟨d0, d1, d2, d3, d4, d5, d6, d7, d8, d9, d10, d11, d12, d13, d14, d15⟩ := bxCells HT.out.e2
  go_enter Try.func20, Try.ntmps20
  go_wp2_with fail
  refine (unhide X).mono ?_
  rintro r w2 ⟨rfl, b2⟩
  have HT2 := hide (HT.out.on b2)
  clear X b2 HT c0 c1 c2 c3 c4 c5 c6 c7 c8 c9 c10 c11 c12 c13 c14 c15 d0 d1 d2 d3 d4 d5 d6 d7 d8 d9 d10 d11 d12 d13 d14 d15
  go_wp2
  go_ret
  exact ⟨ret_bool HR.out.symm, HT2.out.b⟩
end Go.Proofs.Yteahjihmpchcbaa
