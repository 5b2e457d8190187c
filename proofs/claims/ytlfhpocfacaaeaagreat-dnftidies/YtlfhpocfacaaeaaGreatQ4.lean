/-
  The program's box: Differ, Same; slices.Clone of ranges.
-/
import Derived.Test.YtlfhpocfacaaeaaGreatQ3
import Derived.Test.YtlfhpocfacaaeaaGreatQ2
import Derived.Deep.CutRange
import Derived.Test.YtlfhpocfacaaeaaGreatQ1
import Derived.Lib.MinMax
import Derived.Lib.QuietBelow
set_option linter.unusedSimpArgs false
set_option linter.unusedVariables false
namespace Go.Proofs.YtlfhpocfacaaeaaGreat
open Go.RowKit

set_option maxHeartbeats 1000000 in
set_option maxRecDepth 100000 in
theorem cloneR_any (v : Value) (l : List Rg) (w : World) (hv : RngsAt w v l) (hl : l.length ≤ 100000) :
    Calls Tryz.prog 85 #[v] w fun r w' => (∃ x, r = .returned x ∧ OwnR w' w.heap.size x l) ∧ Below w.heap.size w w' := by
  have HV := hide hv
  obtain ⟨a, cap, rfl⟩ := hv.form
  have hr := hv.room
  cases a with
  | none =>
    obtain ⟨e1, e2⟩ := hr.2 rfl
    subst e2
    have hm : l = [] := List.length_eq_zero_iff.1 e1
    subst hm
    clear hv hr HV e1
    simp only [List.length_nil]
    have QN := fun (W : World) => Lib.run_eql_slice_nil W _ _ none 0 0 0 0 Tryz.underlying22
    simp only [Option.isNone_none] at QN
    go_enter Tryz.func85, Tryz.ntmps85
    go_wp2
    go_ret
    exact ⟨⟨_, rfl, ownR_none _ _⟩, Below.refl _ _⟩
  | some ad =>
    have b0 := (Below.refl _ w).alloc (Nat.le_refl _) (Obj.cells #[] 72)
    have B0 := hide b0
    have VA := hide (HV.out.on b0)
    have HO := hide (ownR_empty w)
    have LE : Hid (([] : List Rg).length + l.length ≤ 1000000) := hide (by simp; omega)
    have szW : w.heap.size ≤ (w.alloc (Obj.cells #[] 72)).heap.size := b0.size
    have QN := fun (W : World) => Lib.run_eql_slice_nil W _ _ (some ad) l.length cap 0 0 Tryz.underlying22
    simp only [Option.isNone_some] at QN
    clear hv hr HV b0 hl
    go_enter Tryz.func85, Tryz.ntmps85
    go_wp2_with (at_builtin; refine wpList_appRow _ rfl _ _ rfl _ _ _ _ l rfl HO.out rfl VA.out (rngs_nil VA.out) LE.out szW ?_; intro v8 w8 hO8 hb8; have O8 := hide hO8; have B8 := hide (B0.out.trans hb8); clear hO8 hb8)
    go_ret
    rw [List.nil_append] at O8
    exact ⟨⟨_, rfl, O8.out⟩, B8.out⟩

def difStep (k : Int) (q : Bool) (s : Int × Int) : Int × Int := if q then s else (s.1 + 1, if s.1 = 0 then k else s.2)
theorem dif_all (q0 q1 q2 q3 : Bool) : difStep 3 q3 (difStep 2 q2 (difStep 1 q1 (difStep 0 q0 (0, -1)))) = (dif1 q0 + dif1 q1 + dif1 q2 + dif1 q3, if q0 then (if q1 then (if q2 then (if q3 then -1 else 3) else 2) else 1) else 0) := by
  cases q0 <;> cases q1 <;> cases q2 <;> cases q3 <;> decide
theorem same_dif (a b : BoxV) : sameBx a b = ((differBx a b).1 == 0) := by
  unfold sameBx differBx all4
  dsimp only
  cases sameB (a.get 0) (b.get 0) <;> cases sameB (a.get 1) (b.get 1) <;> cases sameB (a.get 2) (b.get 2) <;> cases sameB (a.get 3) (b.get 3) <;> rfl
theorem dif_true (k : Int) (s : Int × Int) : difStep k true s = s := rfl
theorem dif_zero (k y : Int) : difStep k false (0, y) = (1, k) := rfl
theorem dif_more (k x y : Int) (h : ¬ x = 0) : difStep k false (x, y) = (x + 1, y) := by simp [difStep, h]
set_option maxHeartbeats 4000000 in
set_option maxRecDepth 100000 in
theorem boxDiffer_any (P : SetProg) (v u : Value) (a b : BoxV) (w : World) (hv : BoxAt w v a) (hu : BoxAt w u b) (fa : FitBx a) (fb : FitBx b) :
    Calls Tryz.prog 91 #[v, u] w fun r w' => r = .returned (.tuple #[.int .i64 (differBx a b).1, .int .i64 (differBx a b).2]) ∧ Below w.heap.size w w' := by
  obtain ⟨a0, a1, a2, a3, rfl, ha0, ha1, ha2, ha3⟩ := hv.scs
  obtain ⟨b0, b1, b2, b3, rfl, hb0, hb1, hb2, hb3⟩ := hu.scs
  have I0 := fun (W : World) (hb : Below w.heap.size w W) => hide (P.same _ _ a.s0 b.s0 W (ha0.on hb) (hb0.on hb) (fa.fit 0 (by omega)) (fb.fit 0 (by omega)))
  have I1 := fun (W : World) (hb : Below w.heap.size w W) => hide (P.same _ _ a.s1 b.s1 W (ha1.on hb) (hb1.on hb) (fa.fit 1 (by omega)) (fb.fit 1 (by omega)))
  have I2 := fun (W : World) (hb : Below w.heap.size w W) => hide (P.same _ _ a.s2 b.s2 W (ha2.on hb) (hb2.on hb) (fa.fit 2 (by omega)) (fb.fit 2 (by omega)))
  have I3 := fun (W : World) (hb : Below w.heap.size w W) => hide (P.same _ _ a.s3 b.s3 W (ha3.on hb) (hb3.on hb) (fa.fit 3 (by omega)) (fb.fit 3 (by omega)))
  have HR : Hid (differBx a b = (dif1 (sameB a.s0 b.s0) + dif1 (sameB a.s1 b.s1) + dif1 (sameB a.s2 b.s2) + dif1 (sameB a.s3 b.s3), if sameB a.s0 b.s0 then (if sameB a.s1 b.s1 then (if sameB a.s2 b.s2 then (if sameB a.s3 b.s3 then -1 else 3) else 2) else 1) else 0)) := hide rfl
  generalize differBx a b = R at HR ⊢
  generalize sameB a.s0 b.s0 = q0 at HR I0
  generalize sameB a.s1 b.s1 = q1 at HR I1
  generalize sameB a.s2 b.s2 = q2 at HR I2
  generalize sameB a.s3 b.s3 = q3 at HR I3
  have HD : Hid (R = difStep 3 q3 (difStep 2 q2 (difStep 1 q1 (difStep 0 q0 (0, -1))))) := hide (by rw [HR.out, dif_all])
  have T0 := hide (Two.start w (Obj.cells #[.bool a0.a, .slice a0.p a0.n a0.c, .bool a0.d, .slice a0.q a0.m a0.e, .bool a1.a, .slice a1.p a1.n a1.c, .bool a1.d, .slice a1.q a1.m a1.e, .bool a2.a, .slice a2.p a2.n a2.c, .bool a2.d, .slice a2.q a2.m a2.e, .bool a3.a, .slice a3.p a3.n a3.c, .bool a3.d, .slice a3.q a3.m a3.e] 47) (Obj.cells #[.bool b0.a, .slice b0.p b0.n b0.c, .bool b0.d, .slice b0.q b0.m b0.e, .bool b1.a, .slice b1.p b1.n b1.c, .bool b1.d, .slice b1.q b1.m b1.e, .bool b2.a, .slice b2.p b2.n b2.c, .bool b2.d, .slice b2.q b2.m b2.e, .bool b3.a, .slice b3.p b3.n b3.c, .bool b3.d, .slice b3.q b3.m b3.e] 47))
  clear hv hu fa fb ha0 ha1 ha2 ha3 hb0 hb1 hb2 hb3 HR
  unfold bxVal
  go_enter Tryz.func91, Tryz.ntmps91
  go_wp2
  go_loopw [4, 5, 7] (fun n m i wr => ∃ (k x y : Int), i = .int .i64 k ∧ n = .int .i64 x ∧ m = .int .i64 y ∧ 0 ≤ x ∧ x ≤ k ∧ ((k = 0 ∧ Hid ((x, y) = (0, -1))) ∨ (k = 1 ∧ Hid ((x, y) = difStep 0 q0 (0, -1))) ∨ (k = 2 ∧ Hid ((x, y) = difStep 1 q1 (difStep 0 q0 (0, -1)))) ∨ (k = 3 ∧ Hid ((x, y) = difStep 2 q2 (difStep 1 q1 (difStep 0 q0 (0, -1))))) ∨ (k = 4 ∧ Hid ((x, y) = difStep 3 q3 (difStep 2 q2 (difStep 1 q1 (difStep 0 q0 (0, -1))))))) ∧ Hid (Two w wr (Obj.cells #[.bool a0.a, .slice a0.p a0.n a0.c, .bool a0.d, .slice a0.q a0.m a0.e, .bool a1.a, .slice a1.p a1.n a1.c, .bool a1.d, .slice a1.q a1.m a1.e, .bool a2.a, .slice a2.p a2.n a2.c, .bool a2.d, .slice a2.q a2.m a2.e, .bool a3.a, .slice a3.p a3.n a3.c, .bool a3.d, .slice a3.q a3.m a3.e] 47) (Obj.cells #[.bool b0.a, .slice b0.p b0.n b0.c, .bool b0.d, .slice b0.q b0.m b0.e, .bool b1.a, .slice b1.p b1.n b1.c, .bool b1.d, .slice b1.q b1.m b1.e, .bool b2.a, .slice b2.p b2.n b2.c, .bool b2.d, .slice b2.q b2.m b2.e, .bool b3.a, .slice b3.p b3.n b3.c, .bool b3.d, .slice b3.q b3.m b3.e] 47))) (fun _ _ i _ => 4 - (intOf i).toNat)
  case atStart => exact ⟨0, 0, -1, rfl, rfl, rfl, by omega, by omega, Or.inl ⟨rfl, hide rfl⟩, T0⟩
  case round =>
    clear T0
    obtain ⟨k, x, y, rfl, rfl, rfl, hx0, hx1, hk, HT⟩ := hrel
    rcases hk with ⟨rfl, HP⟩ | ⟨rfl, HP⟩ | ⟨rfl, HP⟩ | ⟨rfl, HP⟩ | ⟨rfl, HP⟩
    · go_wp2
      refine wp_region_held_drew (S := fun w' => BxIn w' (w.heap.size) a0 a1 a2 a3 ∧ BxIn w' (w.heap.size + 1) b0 b1 b2 b3) (by kernel_rfl) ⟨HT.out.e1, HT.out.e2⟩ (fun hHeld => ?_)
      refine wpAnyH_take (i := 0) (oi := ⟨_, _, _, _, _, _⟩) (v := .int .i64 0) rfl (by kernel_rfl) (by kernel_rfl) (by kernel_rfl) (fun _ _ _ h => h) (yl_move (by rfl) _ rfl _ rfl) (by assumption) ?_
      simp only [Act.put, List.setIfInBounds_toArray, List.set_cons_zero, List.set_cons_succ]
      refine wpAnyH_take (i := 1) (oi := ⟨_, _, _, _, _, _⟩) (v := .pointer (some ⟨w.heap.size, 0, none⟩)) rfl (by kernel_rfl) (by kernel_rfl) (by kernel_rfl) (fun _ _ _ h => h) (yl_atBox (by rfl) _ _ rfl _ 0 rfl rfl (by omega)) (by assumption) ?_
      simp only [Act.put, List.setIfInBounds_toArray, List.set_cons_zero, List.set_cons_succ]
      refine wpAnyH_take (i := 2) (oi := ⟨_, _, _, _, _, _⟩) (v := .agg #[.bool a0.a, .slice a0.p a0.n a0.c, .bool a0.d, .slice a0.q a0.m a0.e]) rfl (by kernel_rfl) (by kernel_rfl) (by kernel_rfl) (fun _ _ _ h => h) (yl_set (by rfl) _ rfl _ 0 rfl _ _ _ _ (fun w' h => BxIn.at0 h.1)) (by assumption) ?_
      simp only [Act.put, List.setIfInBounds_toArray, List.set_cons_zero, List.set_cons_succ]
      refine wpAnyH_take (i := 3) (oi := ⟨_, _, _, _, _, _⟩) (v := .int .i64 0) rfl (by kernel_rfl) (by kernel_rfl) (by kernel_rfl) (fun _ _ _ h => h) (yl_move (by rfl) _ rfl _ rfl) (by assumption) ?_
      simp only [Act.put, List.setIfInBounds_toArray, List.set_cons_zero, List.set_cons_succ]
      refine wpAnyH_take (i := 4) (oi := ⟨_, _, _, _, _, _⟩) (v := .pointer (some ⟨w.heap.size + 1, 0, none⟩)) rfl (by kernel_rfl) (by kernel_rfl) (by kernel_rfl) (fun _ _ _ h => h) (yl_atBox (by rfl) _ _ rfl _ 0 rfl rfl (by omega)) (by assumption) ?_
      simp only [Act.put, List.setIfInBounds_toArray, List.set_cons_zero, List.set_cons_succ]
      refine wpAnyH_take (i := 5) (oi := ⟨_, _, _, _, _, _⟩) (v := .agg #[.bool b0.a, .slice b0.p b0.n b0.c, .bool b0.d, .slice b0.q b0.m b0.e]) rfl (by kernel_rfl) (by kernel_rfl) (by kernel_rfl) (fun _ _ _ h => h) (yl_set (by rfl) _ rfl _ 0 rfl _ _ _ _ (fun w' h => BxIn.at0 h.2)) (by assumption) ?_
      simp only [Act.put, List.setIfInBounds_toArray, List.set_cons_zero, List.set_cons_succ]
      -- call 1 of 1
      refine held_call (o := ⟨_, _, _, _, _, _⟩) 6 (by kernel_rfl) rfl (by rfl) 120 _ _ rfl #[.agg #[.bool a0.a, .slice a0.p a0.n a0.c, .bool a0.d, .slice a0.q a0.m a0.e], .agg #[.bool b0.a, .slice b0.p b0.n b0.c, .bool b0.d, .slice b0.q b0.m b0.e]] rfl (run_call Tryz.func120 (by kernel_rfl) (by kernel_rfl)) ?_
      refine (unhide (I0 wr.drew HT.out.b.drew)).mono ?_
      rintro r w2 ⟨rfl, b'⟩
      have bw : Below wr.heap.size wr w2 := ⟨b'.os, b'.tape, b'.output, b'.size, b'.block⟩
      have HT2 := hide (HT.out.on bw)
      refine ⟨.bool q0, rfl, ⟨HT2.out.e1, HT2.out.e2⟩, fun hHeld => ?_⟩
      simp only [Act.put, List.setIfInBounds_toArray, List.set_cons_zero, List.set_cons_succ]
      refine wpAnyH_done (by kernel_rfl) ?_ _
      clear hHeld HT I0 I1 I2 I3 b' bw
      cases hr : q0
      · by_cases hx : x = 0
        · subst hx
          go_wp2
          exact ⟨⟨1, 1, 0, rfl, rfl, rfl, by omega, by omega, Or.inr (Or.inl ⟨rfl, hide (by rw [hr, ← HP.out, dif_zero])⟩), HT2⟩, by simp [intOf]⟩
        · exact absurd hx1 (by omega)
      · go_wp2
        exact ⟨⟨1, x, y, rfl, rfl, rfl, by omega, by omega, Or.inr (Or.inl ⟨rfl, hide (by rw [hr, ← HP.out, dif_true])⟩), HT2⟩, by simp [intOf]⟩
    · go_wp2
      refine wp_region_held_drew (S := fun w' => BxIn w' (w.heap.size) a0 a1 a2 a3 ∧ BxIn w' (w.heap.size + 1) b0 b1 b2 b3) (by kernel_rfl) ⟨HT.out.e1, HT.out.e2⟩ (fun hHeld => ?_)
      refine wpAnyH_take (i := 0) (oi := ⟨_, _, _, _, _, _⟩) (v := .int .i64 1) rfl (by kernel_rfl) (by kernel_rfl) (by kernel_rfl) (fun _ _ _ h => h) (yl_move (by rfl) _ rfl _ rfl) (by assumption) ?_
      simp only [Act.put, List.setIfInBounds_toArray, List.set_cons_zero, List.set_cons_succ]
      refine wpAnyH_take (i := 1) (oi := ⟨_, _, _, _, _, _⟩) (v := .pointer (some ⟨w.heap.size, 4, none⟩)) rfl (by kernel_rfl) (by kernel_rfl) (by kernel_rfl) (fun _ _ _ h => h) (yl_atBox (by rfl) _ _ rfl _ 1 rfl rfl (by omega)) (by assumption) ?_
      simp only [Act.put, List.setIfInBounds_toArray, List.set_cons_zero, List.set_cons_succ]
      refine wpAnyH_take (i := 2) (oi := ⟨_, _, _, _, _, _⟩) (v := .agg #[.bool a1.a, .slice a1.p a1.n a1.c, .bool a1.d, .slice a1.q a1.m a1.e]) rfl (by kernel_rfl) (by kernel_rfl) (by kernel_rfl) (fun _ _ _ h => h) (yl_set (by rfl) _ rfl _ 4 rfl _ _ _ _ (fun w' h => BxIn.at1 h.1)) (by assumption) ?_
      simp only [Act.put, List.setIfInBounds_toArray, List.set_cons_zero, List.set_cons_succ]
      refine wpAnyH_take (i := 3) (oi := ⟨_, _, _, _, _, _⟩) (v := .int .i64 1) rfl (by kernel_rfl) (by kernel_rfl) (by kernel_rfl) (fun _ _ _ h => h) (yl_move (by rfl) _ rfl _ rfl) (by assumption) ?_
      simp only [Act.put, List.setIfInBounds_toArray, List.set_cons_zero, List.set_cons_succ]
      refine wpAnyH_take (i := 4) (oi := ⟨_, _, _, _, _, _⟩) (v := .pointer (some ⟨w.heap.size + 1, 4, none⟩)) rfl (by kernel_rfl) (by kernel_rfl) (by kernel_rfl) (fun _ _ _ h => h) (yl_atBox (by rfl) _ _ rfl _ 1 rfl rfl (by omega)) (by assumption) ?_
      simp only [Act.put, List.setIfInBounds_toArray, List.set_cons_zero, List.set_cons_succ]
      refine wpAnyH_take (i := 5) (oi := ⟨_, _, _, _, _, _⟩) (v := .agg #[.bool b1.a, .slice b1.p b1.n b1.c, .bool b1.d, .slice b1.q b1.m b1.e]) rfl (by kernel_rfl) (by kernel_rfl) (by kernel_rfl) (fun _ _ _ h => h) (yl_set (by rfl) _ rfl _ 4 rfl _ _ _ _ (fun w' h => BxIn.at1 h.2)) (by assumption) ?_
      simp only [Act.put, List.setIfInBounds_toArray, List.set_cons_zero, List.set_cons_succ]
      -- call 1 of 1
      refine held_call (o := ⟨_, _, _, _, _, _⟩) 6 (by kernel_rfl) rfl (by rfl) 120 _ _ rfl #[.agg #[.bool a1.a, .slice a1.p a1.n a1.c, .bool a1.d, .slice a1.q a1.m a1.e], .agg #[.bool b1.a, .slice b1.p b1.n b1.c, .bool b1.d, .slice b1.q b1.m b1.e]] rfl (run_call Tryz.func120 (by kernel_rfl) (by kernel_rfl)) ?_
      refine (unhide (I1 wr.drew HT.out.b.drew)).mono ?_
      rintro r w2 ⟨rfl, b'⟩
      have bw : Below wr.heap.size wr w2 := ⟨b'.os, b'.tape, b'.output, b'.size, b'.block⟩
      have HT2 := hide (HT.out.on bw)
      refine ⟨.bool q1, rfl, ⟨HT2.out.e1, HT2.out.e2⟩, fun hHeld => ?_⟩
      simp only [Act.put, List.setIfInBounds_toArray, List.set_cons_zero, List.set_cons_succ]
      refine wpAnyH_done (by kernel_rfl) ?_ _
      clear hHeld HT I0 I1 I2 I3 b' bw
      cases hr : q1
      · by_cases hx : x = 0
        · subst hx
          go_wp2
          exact ⟨⟨2, 1, 1, rfl, rfl, rfl, by omega, by omega, Or.inr (Or.inr (Or.inl ⟨rfl, hide (by rw [hr, ← HP.out, dif_zero])⟩)), HT2⟩, by simp [intOf]⟩
        · have hx' : (x == 0) = false := by simp [hx]
          go_wp2
          exact ⟨⟨2, x + 1, y, rfl, rfl, rfl, by omega, by omega, Or.inr (Or.inr (Or.inl ⟨rfl, hide (by rw [hr, ← HP.out, dif_more _ _ _ hx])⟩)), HT2⟩, by simp [intOf]⟩
      · go_wp2
        exact ⟨⟨2, x, y, rfl, rfl, rfl, by omega, by omega, Or.inr (Or.inr (Or.inl ⟨rfl, hide (by rw [hr, ← HP.out, dif_true])⟩)), HT2⟩, by simp [intOf]⟩
    · go_wp2
      refine wp_region_held_drew (S := fun w' => BxIn w' (w.heap.size) a0 a1 a2 a3 ∧ BxIn w' (w.heap.size + 1) b0 b1 b2 b3) (by kernel_rfl) ⟨HT.out.e1, HT.out.e2⟩ (fun hHeld => ?_)
      refine wpAnyH_take (i := 0) (oi := ⟨_, _, _, _, _, _⟩) (v := .int .i64 2) rfl (by kernel_rfl) (by kernel_rfl) (by kernel_rfl) (fun _ _ _ h => h) (yl_move (by rfl) _ rfl _ rfl) (by assumption) ?_
      simp only [Act.put, List.setIfInBounds_toArray, List.set_cons_zero, List.set_cons_succ]
      refine wpAnyH_take (i := 1) (oi := ⟨_, _, _, _, _, _⟩) (v := .pointer (some ⟨w.heap.size, 8, none⟩)) rfl (by kernel_rfl) (by kernel_rfl) (by kernel_rfl) (fun _ _ _ h => h) (yl_atBox (by rfl) _ _ rfl _ 2 rfl rfl (by omega)) (by assumption) ?_
      simp only [Act.put, List.setIfInBounds_toArray, List.set_cons_zero, List.set_cons_succ]
      refine wpAnyH_take (i := 2) (oi := ⟨_, _, _, _, _, _⟩) (v := .agg #[.bool a2.a, .slice a2.p a2.n a2.c, .bool a2.d, .slice a2.q a2.m a2.e]) rfl (by kernel_rfl) (by kernel_rfl) (by kernel_rfl) (fun _ _ _ h => h) (yl_set (by rfl) _ rfl _ 8 rfl _ _ _ _ (fun w' h => BxIn.at2 h.1)) (by assumption) ?_
      simp only [Act.put, List.setIfInBounds_toArray, List.set_cons_zero, List.set_cons_succ]
      refine wpAnyH_take (i := 3) (oi := ⟨_, _, _, _, _, _⟩) (v := .int .i64 2) rfl (by kernel_rfl) (by kernel_rfl) (by kernel_rfl) (fun _ _ _ h => h) (yl_move (by rfl) _ rfl _ rfl) (by assumption) ?_
      simp only [Act.put, List.setIfInBounds_toArray, List.set_cons_zero, List.set_cons_succ]
      refine wpAnyH_take (i := 4) (oi := ⟨_, _, _, _, _, _⟩) (v := .pointer (some ⟨w.heap.size + 1, 8, none⟩)) rfl (by kernel_rfl) (by kernel_rfl) (by kernel_rfl) (fun _ _ _ h => h) (yl_atBox (by rfl) _ _ rfl _ 2 rfl rfl (by omega)) (by assumption) ?_
      simp only [Act.put, List.setIfInBounds_toArray, List.set_cons_zero, List.set_cons_succ]
      refine wpAnyH_take (i := 5) (oi := ⟨_, _, _, _, _, _⟩) (v := .agg #[.bool b2.a, .slice b2.p b2.n b2.c, .bool b2.d, .slice b2.q b2.m b2.e]) rfl (by kernel_rfl) (by kernel_rfl) (by kernel_rfl) (fun _ _ _ h => h) (yl_set (by rfl) _ rfl _ 8 rfl _ _ _ _ (fun w' h => BxIn.at2 h.2)) (by assumption) ?_
      simp only [Act.put, List.setIfInBounds_toArray, List.set_cons_zero, List.set_cons_succ]
      -- call 1 of 1
      refine held_call (o := ⟨_, _, _, _, _, _⟩) 6 (by kernel_rfl) rfl (by rfl) 120 _ _ rfl #[.agg #[.bool a2.a, .slice a2.p a2.n a2.c, .bool a2.d, .slice a2.q a2.m a2.e], .agg #[.bool b2.a, .slice b2.p b2.n b2.c, .bool b2.d, .slice b2.q b2.m b2.e]] rfl (run_call Tryz.func120 (by kernel_rfl) (by kernel_rfl)) ?_
      refine (unhide (I2 wr.drew HT.out.b.drew)).mono ?_
      rintro r w2 ⟨rfl, b'⟩
      have bw : Below wr.heap.size wr w2 := ⟨b'.os, b'.tape, b'.output, b'.size, b'.block⟩
      have HT2 := hide (HT.out.on bw)
      refine ⟨.bool q2, rfl, ⟨HT2.out.e1, HT2.out.e2⟩, fun hHeld => ?_⟩
      simp only [Act.put, List.setIfInBounds_toArray, List.set_cons_zero, List.set_cons_succ]
      refine wpAnyH_done (by kernel_rfl) ?_ _
      clear hHeld HT I0 I1 I2 I3 b' bw
      cases hr : q2
      · by_cases hx : x = 0
        · subst hx
          go_wp2
          exact ⟨⟨3, 1, 2, rfl, rfl, rfl, by omega, by omega, Or.inr (Or.inr (Or.inr (Or.inl ⟨rfl, hide (by rw [hr, ← HP.out, dif_zero])⟩))), HT2⟩, by simp [intOf]⟩
        · have hx' : (x == 0) = false := by simp [hx]
          go_wp2
          exact ⟨⟨3, x + 1, y, rfl, rfl, rfl, by omega, by omega, Or.inr (Or.inr (Or.inr (Or.inl ⟨rfl, hide (by rw [hr, ← HP.out, dif_more _ _ _ hx])⟩))), HT2⟩, by simp [intOf]⟩
      · go_wp2
        exact ⟨⟨3, x, y, rfl, rfl, rfl, by omega, by omega, Or.inr (Or.inr (Or.inr (Or.inl ⟨rfl, hide (by rw [hr, ← HP.out, dif_true])⟩))), HT2⟩, by simp [intOf]⟩
    · go_wp2
      refine wp_region_held_drew (S := fun w' => BxIn w' (w.heap.size) a0 a1 a2 a3 ∧ BxIn w' (w.heap.size + 1) b0 b1 b2 b3) (by kernel_rfl) ⟨HT.out.e1, HT.out.e2⟩ (fun hHeld => ?_)
      refine wpAnyH_take (i := 0) (oi := ⟨_, _, _, _, _, _⟩) (v := .int .i64 3) rfl (by kernel_rfl) (by kernel_rfl) (by kernel_rfl) (fun _ _ _ h => h) (yl_move (by rfl) _ rfl _ rfl) (by assumption) ?_
      simp only [Act.put, List.setIfInBounds_toArray, List.set_cons_zero, List.set_cons_succ]
      refine wpAnyH_take (i := 1) (oi := ⟨_, _, _, _, _, _⟩) (v := .pointer (some ⟨w.heap.size, 12, none⟩)) rfl (by kernel_rfl) (by kernel_rfl) (by kernel_rfl) (fun _ _ _ h => h) (yl_atBox (by rfl) _ _ rfl _ 3 rfl rfl (by omega)) (by assumption) ?_
      simp only [Act.put, List.setIfInBounds_toArray, List.set_cons_zero, List.set_cons_succ]
      refine wpAnyH_take (i := 2) (oi := ⟨_, _, _, _, _, _⟩) (v := .agg #[.bool a3.a, .slice a3.p a3.n a3.c, .bool a3.d, .slice a3.q a3.m a3.e]) rfl (by kernel_rfl) (by kernel_rfl) (by kernel_rfl) (fun _ _ _ h => h) (yl_set (by rfl) _ rfl _ 12 rfl _ _ _ _ (fun w' h => BxIn.at3 h.1)) (by assumption) ?_
      simp only [Act.put, List.setIfInBounds_toArray, List.set_cons_zero, List.set_cons_succ]
      refine wpAnyH_take (i := 3) (oi := ⟨_, _, _, _, _, _⟩) (v := .int .i64 3) rfl (by kernel_rfl) (by kernel_rfl) (by kernel_rfl) (fun _ _ _ h => h) (yl_move (by rfl) _ rfl _ rfl) (by assumption) ?_
      simp only [Act.put, List.setIfInBounds_toArray, List.set_cons_zero, List.set_cons_succ]
      refine wpAnyH_take (i := 4) (oi := ⟨_, _, _, _, _, _⟩) (v := .pointer (some ⟨w.heap.size + 1, 12, none⟩)) rfl (by kernel_rfl) (by kernel_rfl) (by kernel_rfl) (fun _ _ _ h => h) (yl_atBox (by rfl) _ _ rfl _ 3 rfl rfl (by omega)) (by assumption) ?_
      simp only [Act.put, List.setIfInBounds_toArray, List.set_cons_zero, List.set_cons_succ]
      refine wpAnyH_take (i := 5) (oi := ⟨_, _, _, _, _, _⟩) (v := .agg #[.bool b3.a, .slice b3.p b3.n b3.c, .bool b3.d, .slice b3.q b3.m b3.e]) rfl (by kernel_rfl) (by kernel_rfl) (by kernel_rfl) (fun _ _ _ h => h) (yl_set (by rfl) _ rfl _ 12 rfl _ _ _ _ (fun w' h => BxIn.at3 h.2)) (by assumption) ?_
      simp only [Act.put, List.setIfInBounds_toArray, List.set_cons_zero, List.set_cons_succ]
      -- call 1 of 1
      refine held_call (o := ⟨_, _, _, _, _, _⟩) 6 (by kernel_rfl) rfl (by rfl) 120 _ _ rfl #[.agg #[.bool a3.a, .slice a3.p a3.n a3.c, .bool a3.d, .slice a3.q a3.m a3.e], .agg #[.bool b3.a, .slice b3.p b3.n b3.c, .bool b3.d, .slice b3.q b3.m b3.e]] rfl (run_call Tryz.func120 (by kernel_rfl) (by kernel_rfl)) ?_
      refine (unhide (I3 wr.drew HT.out.b.drew)).mono ?_
      rintro r w2 ⟨rfl, b'⟩
      have bw : Below wr.heap.size wr w2 := ⟨b'.os, b'.tape, b'.output, b'.size, b'.block⟩
      have HT2 := hide (HT.out.on bw)
      refine ⟨.bool q3, rfl, ⟨HT2.out.e1, HT2.out.e2⟩, fun hHeld => ?_⟩
      simp only [Act.put, List.setIfInBounds_toArray, List.set_cons_zero, List.set_cons_succ]
      refine wpAnyH_done (by kernel_rfl) ?_ _
      clear hHeld HT I0 I1 I2 I3 b' bw
      cases hr : q3
      · by_cases hx : x = 0
        · subst hx
          go_wp2
          exact ⟨⟨4, 1, 3, rfl, rfl, rfl, by omega, by omega, Or.inr (Or.inr (Or.inr (Or.inr (⟨rfl, hide (by rw [hr, ← HP.out, dif_zero])⟩)))), HT2⟩, by simp [intOf]⟩
        · have hx' : (x == 0) = false := by simp [hx]
          go_wp2
          exact ⟨⟨4, x + 1, y, rfl, rfl, rfl, by omega, by omega, Or.inr (Or.inr (Or.inr (Or.inr (⟨rfl, hide (by rw [hr, ← HP.out, dif_more _ _ _ hx])⟩)))), HT2⟩, by simp [intOf]⟩
      · go_wp2
        exact ⟨⟨4, x, y, rfl, rfl, rfl, by omega, by omega, Or.inr (Or.inr (Or.inr (Or.inr (⟨rfl, hide (by rw [hr, ← HP.out, dif_true])⟩)))), HT2⟩, by simp [intOf]⟩
    · have HF := hide (HD.out.trans HP.out.symm)
      go_wp2
      go_ret2
      exact ⟨by rw [HF.out]; rfl, HT.out.b⟩

set_option maxHeartbeats 4000000 in
set_option maxRecDepth 100000 in
theorem boxSame_any (P : SetProg) (v u : Value) (a b : BoxV) (w : World) (hv : BoxAt w v a) (hu : BoxAt w u b) (fa : FitBx a) (fb : FitBx b) :
    Calls Tryz.prog 55 #[v, u] w fun r w' => r = .returned (.bool (sameBx a b)) ∧ Below w.heap.size w w' := by
  have HR := hide (same_dif a b)
  have CD := fun (W : World) (hb : Below w.heap.size w W) => hide (boxDiffer_any P v u a b W (hv.on hb) (hu.on hb) fa fb)
  obtain ⟨a0, a1, a2, a3, rfl, ha0, ha1, ha2, ha3⟩ := hv.scs
  obtain ⟨b0, b1, b2, b3, rfl, hb0, hb1, hb2, hb3⟩ := hu.scs
  have T0 := Two.start w (Obj.cells #[.bool a0.a, .slice a0.p a0.n a0.c, .bool a0.d, .slice a0.q a0.m a0.e, .bool a1.a, .slice a1.p a1.n a1.c, .bool a1.d, .slice a1.q a1.m a1.e, .bool a2.a, .slice a2.p a2.n a2.c, .bool a2.d, .slice a2.q a2.m a2.e, .bool a3.a, .slice a3.p a3.n a3.c, .bool a3.d, .slice a3.q a3.m a3.e] 47) (Obj.cells #[.bool b0.a, .slice b0.p b0.n b0.c, .bool b0.d, .slice b0.q b0.m b0.e, .bool b1.a, .slice b1.p b1.n b1.c, .bool b1.d, .slice b1.q b1.m b1.e, .bool b2.a, .slice b2.p b2.n b2.c, .bool b2.d, .slice b2.q b2.m b2.e, .bool b3.a, .slice b3.p b3.n b3.c, .bool b3.d, .slice b3.q b3.m b3.e] 47)
  have X := CD _ T0.b
  have HT := hide T0
  clear hv hu fa fb ha0 ha1 ha2 ha3 hb0 hb1 hb2 hb3 T0 CD
  generalize (differBx a b).1 = n at HR X
  generalize (differBx a b).2 = m at X
  unfold bxVal at *
  obtain ⟨c0, c1, c2, c3, c4, c5, c6, c7, c8, c9, c10, c11, c12, c13, c14, c15⟩ := bxCells HT.out.e1
  obtain ⟨d0, d1, d2, d3, d4, d5, d6, d7, d8, d9, d10, d11, d12, d13, d14, d15⟩ := bxCells HT.out.e2
  go_enter Tryz.func55, Tryz.ntmps55
  go_wp2_with fail
  refine (unhide X).mono ?_
  rintro r w2 ⟨rfl, b2⟩
  have HT2 := hide (HT.out.on b2)
  clear X b2 HT c0 c1 c2 c3 c4 c5 c6 c7 c8 c9 c10 c11 c12 c13 c14 c15 d0 d1 d2 d3 d4 d5 d6 d7 d8 d9 d10 d11 d12 d13 d14 d15
  go_wp2
  go_ret
  exact ⟨ret_bool HR.out.symm, HT2.out.b⟩
end Go.Proofs.YtlfhpocfacaaeaaGreat
/-
  The program's set: Or, And, In.
-/
set_option linter.unusedSimpArgs false
set_option linter.unusedVariables false
namespace Go.Proofs.YtlfhpocfacaaeaaGreat
open Go.RowKit

/-- Not more than the program's own calls ask. -/
structure Fit2 (S : SetV) : Prop where
  good : Good S
  ni : S.ints.length ≤ 2000
  ns : S.strs.length ≤ 2000
theorem Fit.two {S : SetV} (h : Fit S) : Fit2 S := ⟨h.good, Nat.le_trans h.ni (by omega), Nat.le_trans h.ns (by omega)⟩
/-- Trio boxes of the call's own. -/
structure Trio (w0 w : World) (o1 o2 o3 : Obj) : Prop where
  e1 : w.heap[w0.heap.size]? = some o1
  e2 : w.heap[w0.heap.size + 1]? = some o2
  e3 : w.heap[w0.heap.size + 1 + 1]? = some o3
  b : Below w0.heap.size w0 w
theorem Trio.on {w0 w w' : World} {o1 o2 o3 : Obj} (h : Trio w0 w o1 o2 o3) (hb : Below w.heap.size w w') : Trio w0 w' o1 o2 o3 :=
  ⟨(hb.block _ (lt_heap h.e1)).trans h.e1, (hb.block _ (lt_heap h.e2)).trans h.e2, (hb.block _ (lt_heap h.e3)).trans h.e3, h.b.trans (hb.mono h.b.size)⟩
theorem Trio.start (w : World) (o1 o2 o3 : Obj) : Trio w (((w.alloc o1).alloc o2).alloc o3) o1 o2 o3 := by
  have T := Two.start w o1 o2
  have s1 : (w.alloc o1).heap.size = w.heap.size + 1 := by show (w.heap.push _).size = _; simp
  have s2 : ((w.alloc o1).alloc o2).heap.size = w.heap.size + 1 + 1 := by show ((w.alloc o1).heap.push _).size = _; rw [Array.size_push, s1]
  have T' := T.al o3
  exact ⟨T'.e1, T'.e2, by rw [← s2]; exact heap_new _ _, T'.b⟩
theorem Trio.al {w0 w : World} {o1 o2 o3 : Obj} (h : Trio w0 w o1 o2 o3) (x : Obj) : Trio w0 (w.alloc x) o1 o2 o3 := h.on ((Below.refl _ w).alloc (Nat.le_refl _) x)
theorem put4_cell {w : World} {p k o : Nat} {x0 x1 x2 x3 : Value} (h : ¬ (p = k)) : ((((w.setCell ⟨p, 0, none⟩ x0).setCell ⟨p, 1, none⟩ x1).setCell ⟨p, 2, none⟩ x2).setCell ⟨p, 3, none⟩ x3).cell? ⟨k, o, none⟩ = w.cell? ⟨k, o, none⟩ := by
  rw [World.cell?_setCell_far _ _ _ _ h, World.cell?_setCell_far _ _ _ _ h, World.cell?_setCell_far _ _ _ _ h, World.cell?_setCell_far _ _ _ _ h]
theorem andR_out {A B : SetV} {o : List Rg} (hA : Good A) (hB : Good B) (h : CommonOut A.ints B.ints o) : o = (andV A B).ints := by
  refine rightR_ext64 _ _ h.1 (andV_good hA hB).ri h.2.1 (andV_good hA hB).i (fun n n0 n1 => ?_)
  have hh := andV_has hA hB (1, n, noS) n0 n1
  rw [has_num, has_num, has_num] at hh
  rw [h.2.2.2 n, ← inInts_iff, ← inInts_iff, ← inInts_iff, hh, Bool.and_eq_true]

set_option maxHeartbeats 4000000 in
set_option maxRecDepth 100000 in
theorem and_raw (v u : Value) (sa : Bool) (si : List Rg) (sc : Bool) (ss : List ByteArray) (ta : Bool) (ti : List Rg) (tc : Bool) (ts : List ByteArray) (w : World) (hv : SetAt w v ⟨sa, si, sc, ss⟩) (hu : SetAt w u ⟨ta, ti, tc, ts⟩) (fA : Fit2 ⟨sa, si, sc, ss⟩) (fB : Fit2 ⟨ta, ti, tc, ts⟩) :
    Calls Tryz.prog 124 #[v, u] w fun r w' => (∃ x, r = .returned x ∧ SetAt w' x (andV ⟨sa, si, sc, ss⟩ ⟨ta, ti, tc, ts⟩)) ∧ Below w.heap.size w w' := by
  have HA := hide fA.good
  have HB := hide fB.good
  have HAI := hide fA.ni
  have HAS := hide fA.ns
  have HBI := hide fB.ni
  have HBS := hide fB.ns
  clear fA fB
  obtain ⟨vi, vs, rfl, hI, hS⟩ := hv
  obtain ⟨ui, us, rfl, hJ, hT⟩ := hu
  dsimp only at HAI HAS HBI HBS hI hS hJ hT
  obtain ⟨ai, ci, rfl⟩ := hI.form
  obtain ⟨aq, cq, rfl⟩ := hS.form
  obtain ⟨bi, di, rfl⟩ := hJ.form
  obtain ⟨bq, dq, rfl⟩ := hT.form
  have T0 := Trio.start w (.cells #[.bool sa, .slice ai si.length ci, .bool sc, .slice aq ss.length cq] 25) (.cells #[.bool ta, .slice bi ti.length di, .bool tc, .slice bq ts.length dq] 25) (.cells #[.bool false, .slice none 0 0, .bool false, .slice none 0 0] 25)
  have OS := hide (orStrings_any _ _ (notV ⟨sa, si, sc, ss⟩) (notV ⟨ta, ti, tc, ts⟩) _ (hS.on T0.b) (hT.on T0.b) HA.out.rs HB.out.rs (by have := HAS.out; have := HBS.out; unfold notV; dsimp only; omega))
  dsimp only [notV] at OS
  have I0 := hide (hI.on T0.b)
  have J0 := hide (hJ.on T0.b)
  have HSI := hide hI.1
  have HTI := hide hJ.1
  clear hI hJ hS hT
  obtain ⟨c0, c1, c2, c3⟩ := setCells T0.e1
  obtain ⟨d0, d1, d2, d3⟩ := setCells T0.e2
  have CM := fun (W : World) (h1 : RngsAt W (.slice ai si.length ci) si) (h2 : RngsAt W (.slice bi ti.length di) ti) => hide (commonRanges_any _ _ si ti W h1 h2 HA.out.ri HB.out.ri (by have := HAI.out; have := HBI.out; omega))
  go_enter Tryz.func124, Tryz.ntmps124
  go_wp2_with fail
  refine (unhide OS).mono ?_
  rintro r w1 ⟨⟨x1, rfl, o1⟩, b1⟩
  obtain ⟨p1, n1, k1, rfl⟩ := o1.frm
  have T1 := hide (T0.on b1)
  have I1 := hide (I0.out.on b1)
  have J1 := hide (J0.out.on b1)
  have O1 := hide o1
  have HLT := hide (lt_heap T0.e3)
  have HL1 := hide b1.size
  clear T0 b1 I0 J0 o1 OS c0 c1 c2 c3 d0 d1 d2 d3
  generalize hw0 : (((w.alloc (Obj.cells #[.bool sa, .slice ai si.length ci, .bool sc, .slice aq ss.length cq] 25)).alloc (Obj.cells #[.bool ta, .slice bi ti.length di, .bool tc, .slice bq ts.length dq] 25)).alloc (Obj.cells #[.bool false, .slice none 0 0, .bool false, .slice none 0 0] 25)) = w0 at HLT HL1 O1
  clear hw0
  obtain ⟨c0, c1, c2, c3⟩ := setCells T1.out.e1
  obtain ⟨d0, d1, d2, d3⟩ := setCells T1.out.e2
  have ne1 : ¬ (w.heap.size = w.heap.size + 1 + 1) := by omega
  have ne2 : ¬ (w.heap.size + 1 + 1 = w.heap.size) := by omega
  have ne3 : ¬ (w.heap.size + 1 + 1 = w.heap.size + 1) := by omega
  have PH1 := True.intro
  go_wp2
  cases sa
  · refine wp_region_held_drew (S := (fun w' => (w'.cell? ⟨w.heap.size, 0, none⟩ = some (.bool false) ∧ w'.cell? ⟨w.heap.size, 1, none⟩ = some (.slice ai si.length ci)) ∧ w'.cell? ⟨w.heap.size + 1, 0, none⟩ = some (.bool ta) ∧ w'.cell? ⟨w.heap.size + 1, 1, none⟩ = some (.slice bi ti.length di))) (by kernel_rfl) ⟨⟨c0, c1⟩, d0, d1⟩ (fun hHeld => ?_)
    refine wpAnyH_take (i := 0) (v := .pointer (some ⟨w.heap.size, 0, none⟩)) rfl (by kernel_rfl) (by kernel_rfl) (by kernel_rfl) (fun _ _ _ h => h) (Or.inl ⟨by rfl, ?_⟩) (by assumption) ?_
    · intro w' hSw; (try dsimp only at hSw); go_simp; done
    simp only [Act.put, List.setIfInBounds_toArray, List.set_cons_zero, List.set_cons_succ]
    refine wpAnyH_take (i := 1) (v := .bool false) rfl (by kernel_rfl) (by kernel_rfl) (by kernel_rfl) (fun _ _ _ h => h) (Or.inl ⟨by rfl, ?_⟩) (by assumption) ?_
    · intro w' hSw; (try dsimp only at hSw); go_simp; done
    simp only [Act.put, List.setIfInBounds_toArray, List.set_cons_zero, List.set_cons_succ]
    refine wpAnyH_take (i := 2) (v := .bool false) rfl (by kernel_rfl) (by kernel_rfl) (by kernel_rfl) (fun _ _ _ h => h) (Or.inl ⟨by rfl, ?_⟩) (by assumption) ?_
    · intro w' hSw; (try dsimp only at hSw); go_simp; done
    simp only [Act.put, List.setIfInBounds_toArray, List.set_cons_zero, List.set_cons_succ]
    refine wpAnyH_take (i := 3) (v := undef) rfl (by kernel_rfl) (by kernel_rfl) (by kernel_rfl) (fun _ _ _ h => h) (Or.inr ⟨by rfl, rfl⟩) (by assumption) ?_
    simp only [Act.put, List.setIfInBounds_toArray, List.set_cons_zero, List.set_cons_succ]
    refine wpAnyH_take (i := 4) (v := undef) rfl (by kernel_rfl) (by kernel_rfl) (by kernel_rfl) (fun _ _ _ h => h) (Or.inr ⟨by rfl, rfl⟩) (by assumption) ?_
    simp only [Act.put, List.setIfInBounds_toArray, List.set_cons_zero, List.set_cons_succ]
    refine wpAnyH_take (i := 5) (v := .bool false) rfl (by kernel_rfl) (by kernel_rfl) (by kernel_rfl) (fun _ _ _ h => h) (Or.inl ⟨by rfl, ?_⟩) (by assumption) ?_
    · intro w' hSw; (try dsimp only at hSw); go_simp; done
    simp only [Act.put, List.setIfInBounds_toArray, List.set_cons_zero, List.set_cons_succ]
    refine wpAnyH_take (i := 6) (v := .pointer (some ⟨w.heap.size, 1, none⟩)) rfl (by kernel_rfl) (by kernel_rfl) (by kernel_rfl) (fun _ _ _ h => h) (Or.inl ⟨by rfl, ?_⟩) (by assumption) ?_
    · intro w' hSw; (try dsimp only at hSw); go_simp; done
    simp only [Act.put, List.setIfInBounds_toArray, List.set_cons_zero, List.set_cons_succ]
    refine wpAnyH_take (i := 7) (v := .slice ai si.length ci) rfl (by kernel_rfl) (by kernel_rfl) (by kernel_rfl) (fun _ _ _ h => h) (Or.inl ⟨by rfl, ?_⟩) (by assumption) ?_
    · intro w' hSw; (try dsimp only at hSw); go_simp; done
    simp only [Act.put, List.setIfInBounds_toArray, List.set_cons_zero, List.set_cons_succ]
    refine wpAnyH_take (i := 8) (v := .pointer (some ⟨w.heap.size + 1, 1, none⟩)) rfl (by kernel_rfl) (by kernel_rfl) (by kernel_rfl) (fun _ _ _ h => h) (Or.inl ⟨by rfl, ?_⟩) (by assumption) ?_
    · intro w' hSw; (try dsimp only at hSw); go_simp; done
    simp only [Act.put, List.setIfInBounds_toArray, List.set_cons_zero, List.set_cons_succ]
    refine wpAnyH_take (i := 9) (v := .slice bi ti.length di) rfl (by kernel_rfl) (by kernel_rfl) (by kernel_rfl) (fun _ _ _ h => h) (Or.inl ⟨by rfl, ?_⟩) (by assumption) ?_
    · intro w' hSw; (try dsimp only at hSw); go_simp; done
    simp only [Act.put, List.setIfInBounds_toArray, List.set_cons_zero, List.set_cons_succ]
    refine wpAnyH_take (i := 11) (v := .bool (!sc || !tc)) rfl (by kernel_rfl) (by kernel_rfl) (by kernel_rfl) (fun _ _ _ h => h) (Or.inl ⟨by rfl, ?_⟩) (by assumption) ?_
    · intro w' hSw; (try dsimp only at hSw); go_simp; done
    simp only [Act.put, List.setIfInBounds_toArray, List.set_cons_zero, List.set_cons_succ]
    refine wpAnyH_take (i := 12) (v := .bool (!(!sc || !tc))) rfl (by kernel_rfl) (by kernel_rfl) (by kernel_rfl) (fun _ _ _ h => h) (Or.inl ⟨by rfl, ?_⟩) (by assumption) ?_
    · intro w' hSw; (try dsimp only at hSw); go_simp; done
    simp only [Act.put, List.setIfInBounds_toArray, List.set_cons_zero, List.set_cons_succ]
    refine wpAnyH_take (i := 13) (v := .slice p1 n1 k1) rfl (by kernel_rfl) (by kernel_rfl) (by kernel_rfl) (fun _ _ _ h => h) (Or.inl ⟨by rfl, ?_⟩) (by assumption) ?_
    · intro w' hSw; (try dsimp only at hSw); go_simp; done
    simp only [Act.put, List.setIfInBounds_toArray, List.set_cons_zero, List.set_cons_succ]
    refine wpAnyH_ready (rs := [10]) (by kernel_rfl) (by simp) ?_
    refine AllReadyH.cons rfl (fun K hK => ?_) AllReadyH.nil
    go_simp
    refine (unhide (CM _ ?_ ?_)).mono ?_; exact I1.out; exact J1.out; rintro r w3 ⟨⟨x3, o3, rfl, ho3, oo3⟩, b'⟩; obtain ⟨p3, n3, k3, rfl⟩ := oo3.frm; have b : Below w1.heap.size w1 w3 := ⟨b'.os, b'.tape, b'.output, b'.size, b'.block⟩; have T3 := hide (T1.out.on b); have O3 := hide oo3; have H3 := hide ho3; have N3 := hide (O1.out.on b); obtain ⟨e0, e1, e2, e3⟩ := setCells T3.out.e1; obtain ⟨f0, f1, f2, f3⟩ := setCells T3.out.e2; obtain ⟨g0, g1, g2, g3⟩ := setCells T3.out.e3; have z0 := frozen_heap T3.out.e3 0; have z1 := frozen_heap T3.out.e3 1; have z2 := frozen_heap T3.out.e3 2; have z3 := frozen_heap T3.out.e3 3; clear b b' oo3 ho3 T1 O1 I1 J1 CM c0 c1 c2 c3 d0 d1 d2 d3
    refine hK.out _ _ ⟨⟨e0, e1⟩, f0, f1⟩ (fun hHeld => ?_)
    clear hK K
    refine wpAnyH_take (i := 14) (v := .agg #[.bool false, .slice p3 n3 k3, .bool (!(!sc || !tc)), .slice p1 n1 k1]) rfl (by kernel_rfl) (by kernel_rfl) (by kernel_rfl) (fun _ _ _ h => h) (Or.inl ⟨by rfl, ?_⟩) (by assumption) ?_
    · intro w' hSw; (try dsimp only at hSw); go_simp; done
    simp only [Act.put, List.setIfInBounds_toArray, List.set_cons_zero, List.set_cons_succ]
    refine wpAnyH_ready (rs := [15]) (by kernel_rfl) (by simp) ?_
    refine AllReadyH.cons rfl (fun K hK => ?_) AllReadyH.nil
    go_simp
    refine hK.out _ _ ⟨⟨(put4_cell ne2).trans e0, (put4_cell ne2).trans e1⟩, (put4_cell ne3).trans f0, (put4_cell ne3).trans f1⟩ (fun hHeld => ?_)
    clear hK K
    refine wpAnyH_done (by kernel_rfl) ?_ _
    have hsz := T3.out.b.size
    have E3 := andR_out HA.out HB.out H3.out
    subst E3
    have MS := made_set (andV ⟨false, si, sc, ss⟩ ⟨ta, ti, tc, ts⟩) (p := w.heap.size + 1 + 1) T3.out.e3 (by omega) T3.out.b O3.out N3.out (Nat.lt_of_lt_of_le HLT.out HL1.out) HLT.out (andV_good HA.out HB.out) (by have := (andV_len HA.out HB.out).1; have := HAI.out; have := HBI.out; dsimp only at *; omega) (by have := (andV_len HA.out HB.out).2; have := HAS.out; have := HBS.out; dsimp only at *; omega)
    have hab : (andV ⟨false, si, sc, ss⟩ ⟨ta, ti, tc, ts⟩).absent = false := by cases ta <;> rfl
    have hco : (andV ⟨false, si, sc, ss⟩ ⟨ta, ti, tc, ts⟩).co = (sc && tc) := by cases sc <;> cases tc <;> rfl
    rw [hab, hco] at MS
    obtain ⟨m1, m2, m3⟩ := MS
    go_wp2
    exact bodyPost_ret (results_cell_row rfl _ _ (w.heap.size + 1 + 1) 25 _ (0, 0) _ rfl m1 Tryz.underlying25 rfl infoSet) rfl ⟨⟨_, rfl, m2⟩, m3⟩
  · go_region_held3 (fun w' => (w'.cell? ⟨w.heap.size, 0, none⟩ = some (.bool true) ∧ w'.cell? ⟨w.heap.size, 1, none⟩ = some (.slice ai si.length ci)) ∧ w'.cell? ⟨w.heap.size + 1, 0, none⟩ = some (.bool ta) ∧ w'.cell? ⟨w.heap.size + 1, 1, none⟩ = some (.slice bi ti.length di)) (first | go_keep | (dsimp only; refine ⟨⟨?_, ?_⟩, ?_, ?_⟩ <;> first | assumption | go_keep))
    ((first
      | (go_at_call 135; have pz := PH1; clear pz PH1; refine (unhide (CM _ ?_ ?_)).mono ?_; exact I1.out; exact J1.out; rintro r w3 ⟨⟨x3, o3, rfl, ho3, oo3⟩, b'⟩; obtain ⟨p3, n3, k3, rfl⟩ := oo3.frm; have b : Below w1.heap.size w1 w3 := ⟨b'.os, b'.tape, b'.output, b'.size, b'.block⟩; have T3 := hide (T1.out.on b); have O3 := hide oo3; have H3 := hide ho3; have N3 := hide (O1.out.on b); obtain ⟨e0, e1, e2, e3⟩ := setCells T3.out.e1; obtain ⟨f0, f1, f2, f3⟩ := setCells T3.out.e2; obtain ⟨g0, g1, g2, g3⟩ := setCells T3.out.e3; have z0 := frozen_heap T3.out.e3 0; have z1 := frozen_heap T3.out.e3 1; have z2 := frozen_heap T3.out.e3 2; have z3 := frozen_heap T3.out.e3 3; have PH3 := True.intro; clear b b' oo3 ho3 T1 O1 I1 J1 CM c0 c1 c2 c3 d0 d1 d2 d3)))
    have hsz := T3.out.b.size
    have E3 := andR_out HA.out HB.out H3.out
    subst E3
    have MS := made_set (andV ⟨true, si, sc, ss⟩ ⟨ta, ti, tc, ts⟩) (p := w.heap.size + 1 + 1) T3.out.e3 (by omega) T3.out.b O3.out N3.out (Nat.lt_of_lt_of_le HLT.out HL1.out) HLT.out (andV_good HA.out HB.out) (by have := (andV_len HA.out HB.out).1; have := HAI.out; have := HBI.out; dsimp only at *; omega) (by have := (andV_len HA.out HB.out).2; have := HAS.out; have := HBS.out; dsimp only at *; omega)
    have hab : (andV ⟨true, si, sc, ss⟩ ⟨ta, ti, tc, ts⟩).absent = ta := by cases ta <;> rfl
    have hco : (andV ⟨true, si, sc, ss⟩ ⟨ta, ti, tc, ts⟩).co = (sc && tc) := by cases sc <;> cases tc <;> rfl
    rw [hab, hco] at MS
    obtain ⟨m1, m2, m3⟩ := MS
    go_wp2
    exact bodyPost_ret (results_cell_row rfl _ _ (w.heap.size + 1 + 1) 25 _ (0, 0) _ rfl m1 Tryz.underlying25 rfl infoSet) rfl ⟨⟨_, rfl, m2⟩, m3⟩
theorem and_any (v u : Value) (A B : SetV) (w : World) (hv : SetAt w v A) (hu : SetAt w u B) (fA : Fit2 A) (fB : Fit2 B) :
    Calls Tryz.prog 124 #[v, u] w fun r w' => (∃ x, r = .returned x ∧ SetAt w' x (andV A B)) ∧ Below w.heap.size w w' := and_raw v u A.absent A.ints A.co A.strs B.absent B.ints B.co B.strs w hv hu fA fB
theorem in_empty {A B : SetV} (hA : Good A) (hB : Good B) (lA : A.strs.length ≤ 1000) (lB : B.strs.length ≤ 1000) : emptyB (andV A (notV B)) = inB A B := by
  have gN := notV_good hB
  have gX := andV_good hA gN
  have xl := (andV_len hA gN).2
  have nl := (notV_len B hB).2
  apply bool_of_iff
  rw [inB_iff hA hB (by omega)]
  have he : emptyB (andV A (notV B)) = true ↔ andV A (notV B) = noSet := by
    rw [← sameB_iff]
    generalize andV A (notV B) = X
    obtain ⟨xa, xi, xc, xs⟩ := X
    cases xa <;> cases xi <;> cases xc <;> cases xs <;> simp [emptyB, sameB, noSet, rngEqB, strEqB]
  rw [he]
  constructor
  · intro h p b0 b1 hp
    have h1 := andV_has hA gN p b0 b1
    have h2 := notV_has hB p b0 b1
    rw [h, hp, h2, has_right hp] at h1
    cases hb : hasP B p
    · rw [hb] at h1
      have h3 : hasP noSet p = false := by
        have := andV_has noSet_good noSet_good p b0 b1
        cases hn : hasP noSet p
        · rfl
        · exfalso
          have hr := has_right hn
          rcases rightV_cases hr with e | ⟨n, e⟩ | ⟨s, hs, e⟩
          · rw [e, has_abs] at hn; exact absurd hn (by simp [noSet])
          · rw [e, has_num] at hn; exact absurd hn (by simp [noSet, inIntsB])
          · rw [e, has_str _ hs] at hn; exact absurd hn (by simp [noSet, inStrsB])
      rw [h3] at h1
      exact absurd h1 (by simp)
    · rfl
  · intro h
    refine good_ext gX noSet_good (by simp [noSet]; omega) (fun p b0 b1 => ?_)
    have h1 := andV_has hA gN p b0 b1
    have h2 := notV_has hB p b0 b1
    have h3 : hasP noSet p = false := by
      cases hn : hasP noSet p
      · rfl
      · exfalso
        have hr := has_right hn
        rcases rightV_cases hr with e | ⟨n, e⟩ | ⟨s, hs, e⟩
        · rw [e, has_abs] at hn; exact absurd hn (by simp [noSet])
        · rw [e, has_num] at hn; exact absurd hn (by simp [noSet, inIntsB])
        · rw [e, has_str _ hs] at hn; exact absurd hn (by simp [noSet, inStrsB])
    rw [h1, h2, h3]
    cases ha : hasP A p
    · rfl
    · rw [h p b0 b1 ha]; simp

set_option maxHeartbeats 4000000 in
set_option maxRecDepth 100000 in
theorem in_any (v u : Value) (A B : SetV) (w : World) (hv : SetAt w v A) (hu : SetAt w u B) (fA : Fit A) (fB : Fit B) :
    Calls Tryz.prog 128 #[v, u] w fun r w' => r = .returned (.bool (inB A B)) ∧ Below w.heap.size w w' := by
  have HE := hide (in_empty fA.good fB.good fA.ns fB.ns)
  have nl := notV_len B fB.good
  have al := andV_len fA.good (notV_good fB.good)
  have a1 := fA.ni
  have a2 := fA.ns
  have b1 := fB.ni
  have b2 := fB.ns
  have NB := fun (W : World) (x : Value) (h : SetAt W x B) => hide (not_any x B W h fB)
  have AB := fun (W : World) (x y : Value) (h1 : SetAt W x A) (h2 : SetAt W y (notV B)) => hide (and_any x y A (notV B) W h1 h2 fA.two ⟨notV_good fB.good, by omega, by omega⟩)
  have EB := fun (W : World) (x : Value) (h : SetAt W x (andV A (notV B))) => hide (empty_any x _ W h)
  clear nl al a1 a2 b1 b2 fA fB
  obtain ⟨vi, vs, rfl, hI, hS⟩ := hv
  obtain ⟨ui, us, rfl, hJ, hT⟩ := hu
  obtain ⟨ai, ci, rfl⟩ := hI.form
  obtain ⟨aq, cq, rfl⟩ := hS.form
  obtain ⟨bi, di, rfl⟩ := hJ.form
  obtain ⟨bq, dq, rfl⟩ := hT.form
  have T0 := Two.start w (.cells #[.bool A.absent, .slice ai A.ints.length ci, .bool A.co, .slice aq A.strs.length cq] 25) (.cells #[.bool B.absent, .slice bi B.ints.length di, .bool B.co, .slice bq B.strs.length dq] 25)
  have V0 : Hid (SetAt _ (.agg #[.bool A.absent, .slice ai A.ints.length ci, .bool A.co, .slice aq A.strs.length cq]) A) := hide ⟨_, _, rfl, hI.on T0.b, hS.on T0.b⟩
  have U0 : Hid (SetAt _ (.agg #[.bool B.absent, .slice bi B.ints.length di, .bool B.co, .slice bq B.strs.length dq]) B) := hide ⟨_, _, rfl, hJ.on T0.b, hT.on T0.b⟩
  clear hI hJ hS hT
  obtain ⟨c0, c1, c2, c3⟩ := setCells T0.e1
  obtain ⟨d0, d1, d2, d3⟩ := setCells T0.e2
  have T1 := hide T0
  clear T0
  go_enter Tryz.func128, Tryz.ntmps128
  go_wp2
  generalize ((w.alloc (Obj.cells #[.bool A.absent, .slice ai A.ints.length ci, .bool A.co, .slice aq A.strs.length cq] 25)).alloc (Obj.cells #[.bool B.absent, .slice bi B.ints.length di, .bool B.co, .slice bq B.strs.length dq] 25)) = w1 at T1 V0 U0 c0 c1 c2 c3 d0 d1 d2 d3 ⊢
  have PH1 := True.intro
  go_region_held3 (fun w' => ((w'.cell? ⟨w.heap.size, 0, none⟩ = some (.bool A.absent) ∧ w'.cell? ⟨w.heap.size, 1, none⟩ = some (.slice ai A.ints.length ci)) ∧ w'.cell? ⟨w.heap.size, 2, none⟩ = some (.bool A.co) ∧ w'.cell? ⟨w.heap.size, 3, none⟩ = some (.slice aq A.strs.length cq)) ∧ (w'.cell? ⟨w.heap.size + 1, 0, none⟩ = some (.bool B.absent) ∧ w'.cell? ⟨w.heap.size + 1, 1, none⟩ = some (.slice bi B.ints.length di)) ∧ w'.cell? ⟨w.heap.size + 1, 2, none⟩ = some (.bool B.co) ∧ w'.cell? ⟨w.heap.size + 1, 3, none⟩ = some (.slice bq B.strs.length dq)) (first | go_keep | (refine ⟨⟨⟨?_, ?_⟩, ?_, ?_⟩, ⟨?_, ?_⟩, ?_, ?_⟩ <;> assumption))
    ((first
      | (go_at_call 103; have pz := PH1; clear pz PH1; refine (unhide (NB _ _ ?_)).mono ?_; exact U0.out; rintro r w2 ⟨⟨x2, rfl, s2⟩, b'⟩; have b : Below w1.heap.size w1 w2 := ⟨b'.os, b'.tape, b'.output, b'.size, b'.block⟩; have T2 := hide (T1.out.on b); have V2 := hide (V0.out.on b); have S2 := hide s2; obtain ⟨e0, e1, e2, e3⟩ := setCells T2.out.e1; obtain ⟨f0, f1, f2, f3⟩ := setCells T2.out.e2; have PH2 := True.intro; clear b b' s2 T1 V0 U0)
      | (go_at_call 124; have pz := PH2; clear pz PH2; refine (unhide (AB _ _ _ ?_ ?_)).mono ?_; exact V2.out; exact S2.out; rintro r w3 ⟨⟨x3, rfl, s3⟩, b'⟩; have b : Below w2.heap.size w2 w3 := ⟨b'.os, b'.tape, b'.output, b'.size, b'.block⟩; have T3 := hide (T2.out.on b); have S3 := hide s3; obtain ⟨e0, e1, e2, e3⟩ := setCells T3.out.e1; obtain ⟨f0, f1, f2, f3⟩ := setCells T3.out.e2; have PH3 := True.intro; clear b b' s3 T2 V2 S2)
      | (go_at_call 112; have pz := PH3; clear pz PH3; refine (unhide (EB _ _ ?_)).mono ?_; exact S3.out; rintro r w4 ⟨rfl, b'⟩; have b : Below w3.heap.size w3 w4 := ⟨b'.os, b'.tape, b'.output, b'.size, b'.block⟩; have T4 := hide (T3.out.on b); obtain ⟨e0, e1, e2, e3⟩ := setCells T4.out.e1; obtain ⟨f0, f1, f2, f3⟩ := setCells T4.out.e2; have PH4 := True.intro; clear b b' T3 S3)))
  go_wp2
  go_ret
  exact ⟨ret_bool HE.out, T4.out.b⟩

/-- The program's set keeps its promises. -/
theorem setProg : SetProg := {
  all := all_any,
  not := not_any,
  and := fun v u A B w hv hu fA fB => and_any v u A B w hv hu fA.two fB.two,
  in_ := in_any,
  empty := fun v S w hv _ => empty_any v S w hv,
  same := fun v u A B w hv hu _ _ => same_any v u A B w hv hu,
  has := fun v S k n s w hv hf _ _ hs => has_any v S k n s w hv hf hs }
end Go.Proofs.YtlfhpocfacaaeaaGreat
/-
  The program's box: copied, With, Atom; all its promises.
-/
set_option linter.unusedSimpArgs false
set_option linter.unusedVariables false
namespace Go.Proofs.YtlfhpocfacaaeaaGreat
open Go.RowKit

theorem SetAt.newInts {w : World} {s : SC} {S : SetV} (h : SetAt w s.val S) {p : Option Addr} {n c : Nat} (hr : RngsAt w (.slice p n c) S.ints) : SetAt w (SC.mk s.a p n c s.d s.q s.m s.e).val S := by
  obtain ⟨vi, vs, e, hI, hS⟩ := h
  unfold SC.val at e
  simp at e
  obtain ⟨e1, e2, e3, e4⟩ := e
  subst e4
  refine ⟨_, _, ?_, hr, hS⟩
  unfold SC.val
  rw [← e1, ← e3]
theorem SetAt.newStrs {w : World} {s : SC} {S : SetV} (h : SetAt w s.val S) {p : Option Addr} {n c : Nat} (hr : StrsAt w (.slice p n c) S.strs) : SetAt w (SC.mk s.a s.p s.n s.c s.d p n c).val S := by
  obtain ⟨vi, vs, e, hI, hS⟩ := h
  unfold SC.val at e
  simp at e
  obtain ⟨e1, e2, e3, e4⟩ := e
  subst e2
  refine ⟨_, _, ?_, hI, hr⟩
  unfold SC.val
  rw [← e1, ← e3]
theorem SetAt.getInts {w : World} {s : SC} {S : SetV} (h : SetAt w s.val S) : RngsAt w (.slice s.p s.n s.c) S.ints := by
  obtain ⟨vi, vs, e, hI, hS⟩ := h
  unfold SC.val at e
  simp at e
  obtain ⟨e1, e2, e3, e4⟩ := e
  rw [e2]; exact hI
theorem SetAt.getStrs {w : World} {s : SC} {S : SetV} (h : SetAt w s.val S) : StrsAt w (.slice s.q s.m s.e) S.strs := by
  obtain ⟨vi, vs, e, hI, hS⟩ := h
  unfold SC.val at e
  simp at e
  obtain ⟨e1, e2, e3, e4⟩ := e
  rw [e4]; exact hS
theorem put_ints0 {w : World} {q : Nat} {s0 s1 s2 s3 : SC} (p n c) (h : BxIn w q s0 s1 s2 s3) : BxIn (w.setCell ⟨q, 1, none⟩ (.slice p n c)) q ⟨s0.a, p, n, c, s0.d, s0.q, s0.m, s0.e⟩ s1 s2 s3 ∧ In1 w (w.setCell ⟨q, 1, none⟩ (.slice p n c)) q := ⟨heap_setCell (i := 1) (.slice p n c) h, in1_setCell _ _ _ _⟩
theorem put_strs0 {w : World} {q : Nat} {s0 s1 s2 s3 : SC} (p n c) (h : BxIn w q s0 s1 s2 s3) : BxIn (w.setCell ⟨q, 3, none⟩ (.slice p n c)) q ⟨s0.a, s0.p, s0.n, s0.c, s0.d, p, n, c⟩ s1 s2 s3 ∧ In1 w (w.setCell ⟨q, 3, none⟩ (.slice p n c)) q := ⟨heap_setCell (i := 3) (.slice p n c) h, in1_setCell _ _ _ _⟩
theorem put_ints1 {w : World} {q : Nat} {s0 s1 s2 s3 : SC} (p n c) (h : BxIn w q s0 s1 s2 s3) : BxIn (w.setCell ⟨q, 5, none⟩ (.slice p n c)) q s0 ⟨s1.a, p, n, c, s1.d, s1.q, s1.m, s1.e⟩ s2 s3 ∧ In1 w (w.setCell ⟨q, 5, none⟩ (.slice p n c)) q := ⟨heap_setCell (i := 5) (.slice p n c) h, in1_setCell _ _ _ _⟩
theorem put_strs1 {w : World} {q : Nat} {s0 s1 s2 s3 : SC} (p n c) (h : BxIn w q s0 s1 s2 s3) : BxIn (w.setCell ⟨q, 7, none⟩ (.slice p n c)) q s0 ⟨s1.a, s1.p, s1.n, s1.c, s1.d, p, n, c⟩ s2 s3 ∧ In1 w (w.setCell ⟨q, 7, none⟩ (.slice p n c)) q := ⟨heap_setCell (i := 7) (.slice p n c) h, in1_setCell _ _ _ _⟩
theorem put_ints2 {w : World} {q : Nat} {s0 s1 s2 s3 : SC} (p n c) (h : BxIn w q s0 s1 s2 s3) : BxIn (w.setCell ⟨q, 9, none⟩ (.slice p n c)) q s0 s1 ⟨s2.a, p, n, c, s2.d, s2.q, s2.m, s2.e⟩ s3 ∧ In1 w (w.setCell ⟨q, 9, none⟩ (.slice p n c)) q := ⟨heap_setCell (i := 9) (.slice p n c) h, in1_setCell _ _ _ _⟩
theorem put_strs2 {w : World} {q : Nat} {s0 s1 s2 s3 : SC} (p n c) (h : BxIn w q s0 s1 s2 s3) : BxIn (w.setCell ⟨q, 11, none⟩ (.slice p n c)) q s0 s1 ⟨s2.a, s2.p, s2.n, s2.c, s2.d, p, n, c⟩ s3 ∧ In1 w (w.setCell ⟨q, 11, none⟩ (.slice p n c)) q := ⟨heap_setCell (i := 11) (.slice p n c) h, in1_setCell _ _ _ _⟩
theorem put_ints3 {w : World} {q : Nat} {s0 s1 s2 s3 : SC} (p n c) (h : BxIn w q s0 s1 s2 s3) : BxIn (w.setCell ⟨q, 13, none⟩ (.slice p n c)) q s0 s1 s2 ⟨s3.a, p, n, c, s3.d, s3.q, s3.m, s3.e⟩ ∧ In1 w (w.setCell ⟨q, 13, none⟩ (.slice p n c)) q := ⟨heap_setCell (i := 13) (.slice p n c) h, in1_setCell _ _ _ _⟩
theorem put_strs3 {w : World} {q : Nat} {s0 s1 s2 s3 : SC} (p n c) (h : BxIn w q s0 s1 s2 s3) : BxIn (w.setCell ⟨q, 15, none⟩ (.slice p n c)) q s0 s1 s2 ⟨s3.a, s3.p, s3.n, s3.c, s3.d, p, n, c⟩ ∧ In1 w (w.setCell ⟨q, 15, none⟩ (.slice p n c)) q := ⟨heap_setCell (i := 15) (.slice p n c) h, in1_setCell _ _ _ _⟩
/-- Four sets at once. -/
def Sets4 (w : World) (s0 s1 s2 s3 : SC) (b : BoxV) : Prop := SetAt w s0.val b.s0 ∧ SetAt w s1.val b.s1 ∧ SetAt w s2.val b.s2 ∧ SetAt w s3.val b.s3
theorem Sets4.on {w w' : World} {s0 s1 s2 s3 : SC} {b : BoxV} (h : Sets4 w s0 s1 s2 s3 b) (hb : Below w.heap.size w w') : Sets4 w' s0 s1 s2 s3 b := ⟨h.1.on hb, h.2.1.on hb, h.2.2.1.on hb, h.2.2.2.on hb⟩
theorem In1.sets {w W : World} {q : Nat} {x0 x1 x2 x3 : SC} (h : In1 w W q) (hp : BxIn w q x0 x1 x2 x3) {s0 s1 s2 s3 : SC} {b : BoxV} (hs : Sets4 w s0 s1 s2 s3 b) : Sets4 W s0 s1 s2 s3 b := ⟨h.set hp hs.1, h.set hp hs.2.1, h.set hp hs.2.2.1, h.set hp hs.2.2.2⟩
theorem Sets4.box {w : World} {s0 s1 s2 s3 : SC} {b : BoxV} (h : Sets4 w s0 s1 s2 s3 b) : BoxAt w (bxVal s0 s1 s2 s3) b := boxAt_of h.1 h.2.1 h.2.2.1 h.2.2.2
theorem Fit.i64 {S : SetV} (h : Fit S) : inI64 S.ints := h.good.i

set_option maxHeartbeats 8000000 in
set_option maxRecDepth 100000 in
theorem boxCopied_any (v : Value) (b : BoxV) (w : World) (hv : BoxAt w v b) (fb : ∀ i, i < 4 → Fit (b.get i)) :
    Calls Tryz.prog 133 #[v] w fun r w' => (∃ y, r = .returned y ∧ BoxAt w' y b) ∧ Below w.heap.size w w' := by
  obtain ⟨s0, s1, s2, s3, rfl, h0, h1, h2, h3⟩ := hv.scs
  have fi0 : Hid (inI64 b.s0.ints ∧ b.s0.ints.length ≤ 1000 ∧ (∀ s ∈ b.s0.strs, s.size ≤ 9223372036854775807) ∧ b.s0.strs.length ≤ 1000) := hide ⟨(fb 0 (by omega)).i64, (fb 0 (by omega)).ni, right_size (fb 0 (by omega)).good.rs, (fb 0 (by omega)).ns⟩
  have fi1 : Hid (inI64 b.s1.ints ∧ b.s1.ints.length ≤ 1000 ∧ (∀ s ∈ b.s1.strs, s.size ≤ 9223372036854775807) ∧ b.s1.strs.length ≤ 1000) := hide ⟨(fb 1 (by omega)).i64, (fb 1 (by omega)).ni, right_size (fb 1 (by omega)).good.rs, (fb 1 (by omega)).ns⟩
  have fi2 : Hid (inI64 b.s2.ints ∧ b.s2.ints.length ≤ 1000 ∧ (∀ s ∈ b.s2.strs, s.size ≤ 9223372036854775807) ∧ b.s2.strs.length ≤ 1000) := hide ⟨(fb 2 (by omega)).i64, (fb 2 (by omega)).ni, right_size (fb 2 (by omega)).good.rs, (fb 2 (by omega)).ns⟩
  have fi3 : Hid (inI64 b.s3.ints ∧ b.s3.ints.length ≤ 1000 ∧ (∀ s ∈ b.s3.strs, s.size ≤ 9223372036854775807) ∧ b.s3.strs.length ≤ 1000) := hide ⟨(fb 3 (by omega)).i64, (fb 3 (by omega)).ni, right_size (fb 3 (by omega)).good.rs, (fb 3 (by omega)).ns⟩
  have T0 := Two.start w (Obj.cells #[.bool s0.a, .slice s0.p s0.n s0.c, .bool s0.d, .slice s0.q s0.m s0.e, .bool s1.a, .slice s1.p s1.n s1.c, .bool s1.d, .slice s1.q s1.m s1.e, .bool s2.a, .slice s2.p s2.n s2.c, .bool s2.d, .slice s2.q s2.m s2.e, .bool s3.a, .slice s3.p s3.n s3.c, .bool s3.d, .slice s3.q s3.m s3.e] 47) (Obj.cells #[.bool false, .slice none 0 0, .bool false, .slice none 0 0, .bool false, .slice none 0 0, .bool false, .slice none 0 0, .bool false, .slice none 0 0, .bool false, .slice none 0 0, .bool false, .slice none 0 0, .bool false, .slice none 0 0] 47)
  have S0 := hide (show Sets4 _ s0 s1 s2 s3 b from ⟨h0.on T0.b, h1.on T0.b, h2.on T0.b, h3.on T0.b⟩)
  have I0 := hide (show BxIn _ w.heap.size s0 s1 s2 s3 from T0.e1)
  have Z0 := hide (show BxIn _ (w.heap.size + 1) SC.zero SC.zero SC.zero SC.zero from T0.e2)
  have B0 := hide T0.b
  clear hv fb h0 h1 h2 h3 T0
  unfold bxVal
  go_enter Tryz.func133, Tryz.ntmps133
  go_wp2
  go_loopw [4] (fun i wr => ∃ k : Int, i = .int .i64 k ∧ (k = 0 ∨ k = 1 ∨ k = 2 ∨ k = 3 ∨ k = 4) ∧ ∃ s0 s1 s2 s3 : SC, Hid (BxIn wr w.heap.size s0 s1 s2 s3) ∧ Hid (BxIn wr (w.heap.size + 1) SC.zero SC.zero SC.zero SC.zero) ∧ Hid (Below w.heap.size w wr) ∧ Hid (Sets4 wr s0 s1 s2 s3 b)) (fun i _ => 4 - (intOf i).toNat)
  case atStart => exact ⟨0, rfl, Or.inl rfl, s0, s1, s2, s3, I0, Z0, B0, S0⟩
  case round =>
    clear I0 Z0 B0 S0
    obtain ⟨k, rfl, hk, s0, s1, s2, s3, HI, HZ, HB, HS⟩ := hrel
    rcases hk with rfl | rfl | rfl | rfl | rfl
    · have X := hide (cloneR_any _ b.s0.ints wr HS.out.1.getInts (by have := fi0.out.2.1; omega))
      obtain ⟨c0, c1, c2, c3⟩ := HI.out.at0
      go_wp2_with fail
      refine (unhide X).mono ?_
      rintro r w2 ⟨⟨u2, rfl, o2⟩, b2⟩
      obtain ⟨p1, n1, r1, rfl⟩ := o2.frm
      have R2 := o2.rngs fi0.out.1 (by have := fi0.out.2.1; omega)
      have I2 := HI.out.on b2
      have S2 := HS.out.on b2
      have S2' : Sets4 w2 ⟨s0.a, p1, n1, r1, s0.d, s0.q, s0.m, s0.e⟩ s1 s2 s3 b := ⟨S2.1.newInts R2, S2.2.1, S2.2.2.1, S2.2.2.2⟩
      obtain ⟨q1, q2⟩ := put_ints0 p1 n1 r1 I2
      have I3 := hide q1
      have Z3 := hide (q2.box (HZ.out.on b2) (by omega))
      have B3 := hide (q2.below _ _ (Nat.le_refl _) (HB.out.trans (b2.mono HB.out.size)))
      have S3 := hide (q2.sets I2 S2')
      obtain ⟨e0, e1, e2, e3⟩ := I2.at0
      have z1 := I2.soft 1
      have Y := hide (clone_any _ b.s0.strs _ S3.out.1.getStrs (by have := fi0.out.2.2.2; omega))
      clear X c0 c1 c2 c3 I2 S2 S2' q1 q2 R2 o2 b2 HI HZ HB HS
      dsimp only at Y
      go_wp2_with fail
      refine (unhide Y).mono ?_
      rintro r w4 ⟨⟨u4, rfl, o4⟩, b4⟩
      obtain ⟨p3, n3, r3, rfl⟩ := o4.frm
      have R4 := o4.strs fi0.out.2.2.1 (by have := fi0.out.2.2.2; omega)
      have I4 := I3.out.on b4
      have S4 := S3.out.on b4
      have S4' : Sets4 w4 ⟨s0.a, p1, n1, r1, s0.d, p3, n3, r3⟩ s1 s2 s3 b := ⟨S4.1.newStrs R4, S4.2.1, S4.2.2.1, S4.2.2.2⟩
      obtain ⟨q1, q2⟩ := put_strs0 p3 n3 r3 I4
      have I5 := hide q1
      have Z5 := hide (q2.box (Z3.out.on b4) (by omega))
      have B5 := hide (q2.below _ _ (Nat.le_refl _) (B3.out.trans (b4.mono B3.out.size)))
      have S5 := hide (q2.sets I4 S4')
      obtain ⟨f0, f1, f2, f3⟩ := I4.at0
      dsimp only at f0 f1 f2 f3
      have z3 := I4.soft 3
      clear Y e0 e1 e2 e3 I3 Z3 B3 S3 I4 S4 S4' q1 q2 R4 o4 b4 z1
      go_wp2
      exact ⟨⟨1, rfl, by simp, ⟨s0.a, p1, n1, r1, s0.d, p3, n3, r3⟩, s1, s2, s3, I5, Z5, B5, S5⟩, by simp [intOf]⟩
    · have X := hide (cloneR_any _ b.s1.ints wr HS.out.2.1.getInts (by have := fi1.out.2.1; omega))
      obtain ⟨c0, c1, c2, c3⟩ := HI.out.at1
      go_wp2_with fail
      refine (unhide X).mono ?_
      rintro r w2 ⟨⟨u2, rfl, o2⟩, b2⟩
      obtain ⟨p1, n1, r1, rfl⟩ := o2.frm
      have R2 := o2.rngs fi1.out.1 (by have := fi1.out.2.1; omega)
      have I2 := HI.out.on b2
      have S2 := HS.out.on b2
      have S2' : Sets4 w2 s0 ⟨s1.a, p1, n1, r1, s1.d, s1.q, s1.m, s1.e⟩ s2 s3 b := ⟨S2.1, S2.2.1.newInts R2, S2.2.2.1, S2.2.2.2⟩
      obtain ⟨q1, q2⟩ := put_ints1 p1 n1 r1 I2
      have I3 := hide q1
      have Z3 := hide (q2.box (HZ.out.on b2) (by omega))
      have B3 := hide (q2.below _ _ (Nat.le_refl _) (HB.out.trans (b2.mono HB.out.size)))
      have S3 := hide (q2.sets I2 S2')
      obtain ⟨e0, e1, e2, e3⟩ := I2.at1
      have z1 := I2.soft 5
      have Y := hide (clone_any _ b.s1.strs _ S3.out.2.1.getStrs (by have := fi1.out.2.2.2; omega))
      clear X c0 c1 c2 c3 I2 S2 S2' q1 q2 R2 o2 b2 HI HZ HB HS
      dsimp only at Y
      go_wp2_with fail
      refine (unhide Y).mono ?_
      rintro r w4 ⟨⟨u4, rfl, o4⟩, b4⟩
      obtain ⟨p3, n3, r3, rfl⟩ := o4.frm
      have R4 := o4.strs fi1.out.2.2.1 (by have := fi1.out.2.2.2; omega)
      have I4 := I3.out.on b4
      have S4 := S3.out.on b4
      have S4' : Sets4 w4 s0 ⟨s1.a, p1, n1, r1, s1.d, p3, n3, r3⟩ s2 s3 b := ⟨S4.1, S4.2.1.newStrs R4, S4.2.2.1, S4.2.2.2⟩
      obtain ⟨q1, q2⟩ := put_strs1 p3 n3 r3 I4
      have I5 := hide q1
      have Z5 := hide (q2.box (Z3.out.on b4) (by omega))
      have B5 := hide (q2.below _ _ (Nat.le_refl _) (B3.out.trans (b4.mono B3.out.size)))
      have S5 := hide (q2.sets I4 S4')
      obtain ⟨f0, f1, f2, f3⟩ := I4.at1
      dsimp only at f0 f1 f2 f3
      have z3 := I4.soft 7
      clear Y e0 e1 e2 e3 I3 Z3 B3 S3 I4 S4 S4' q1 q2 R4 o4 b4 z1
      go_wp2
      exact ⟨⟨2, rfl, by simp, s0, ⟨s1.a, p1, n1, r1, s1.d, p3, n3, r3⟩, s2, s3, I5, Z5, B5, S5⟩, by simp [intOf]⟩
    · have X := hide (cloneR_any _ b.s2.ints wr HS.out.2.2.1.getInts (by have := fi2.out.2.1; omega))
      obtain ⟨c0, c1, c2, c3⟩ := HI.out.at2
      go_wp2_with fail
      refine (unhide X).mono ?_
      rintro r w2 ⟨⟨u2, rfl, o2⟩, b2⟩
      obtain ⟨p1, n1, r1, rfl⟩ := o2.frm
      have R2 := o2.rngs fi2.out.1 (by have := fi2.out.2.1; omega)
      have I2 := HI.out.on b2
      have S2 := HS.out.on b2
      have S2' : Sets4 w2 s0 s1 ⟨s2.a, p1, n1, r1, s2.d, s2.q, s2.m, s2.e⟩ s3 b := ⟨S2.1, S2.2.1, S2.2.2.1.newInts R2, S2.2.2.2⟩
      obtain ⟨q1, q2⟩ := put_ints2 p1 n1 r1 I2
      have I3 := hide q1
      have Z3 := hide (q2.box (HZ.out.on b2) (by omega))
      have B3 := hide (q2.below _ _ (Nat.le_refl _) (HB.out.trans (b2.mono HB.out.size)))
      have S3 := hide (q2.sets I2 S2')
      obtain ⟨e0, e1, e2, e3⟩ := I2.at2
      have z1 := I2.soft 9
      have Y := hide (clone_any _ b.s2.strs _ S3.out.2.2.1.getStrs (by have := fi2.out.2.2.2; omega))
      clear X c0 c1 c2 c3 I2 S2 S2' q1 q2 R2 o2 b2 HI HZ HB HS
      dsimp only at Y
      go_wp2_with fail
      refine (unhide Y).mono ?_
      rintro r w4 ⟨⟨u4, rfl, o4⟩, b4⟩
      obtain ⟨p3, n3, r3, rfl⟩ := o4.frm
      have R4 := o4.strs fi2.out.2.2.1 (by have := fi2.out.2.2.2; omega)
      have I4 := I3.out.on b4
      have S4 := S3.out.on b4
      have S4' : Sets4 w4 s0 s1 ⟨s2.a, p1, n1, r1, s2.d, p3, n3, r3⟩ s3 b := ⟨S4.1, S4.2.1, S4.2.2.1.newStrs R4, S4.2.2.2⟩
      obtain ⟨q1, q2⟩ := put_strs2 p3 n3 r3 I4
      have I5 := hide q1
      have Z5 := hide (q2.box (Z3.out.on b4) (by omega))
      have B5 := hide (q2.below _ _ (Nat.le_refl _) (B3.out.trans (b4.mono B3.out.size)))
      have S5 := hide (q2.sets I4 S4')
      obtain ⟨f0, f1, f2, f3⟩ := I4.at2
      dsimp only at f0 f1 f2 f3
      have z3 := I4.soft 11
      clear Y e0 e1 e2 e3 I3 Z3 B3 S3 I4 S4 S4' q1 q2 R4 o4 b4 z1
      go_wp2
      exact ⟨⟨3, rfl, by simp, s0, s1, ⟨s2.a, p1, n1, r1, s2.d, p3, n3, r3⟩, s3, I5, Z5, B5, S5⟩, by simp [intOf]⟩
    · have X := hide (cloneR_any _ b.s3.ints wr HS.out.2.2.2.getInts (by have := fi3.out.2.1; omega))
      obtain ⟨c0, c1, c2, c3⟩ := HI.out.at3
      go_wp2_with fail
      refine (unhide X).mono ?_
      rintro r w2 ⟨⟨u2, rfl, o2⟩, b2⟩
      obtain ⟨p1, n1, r1, rfl⟩ := o2.frm
      have R2 := o2.rngs fi3.out.1 (by have := fi3.out.2.1; omega)
      have I2 := HI.out.on b2
      have S2 := HS.out.on b2
      have S2' : Sets4 w2 s0 s1 s2 ⟨s3.a, p1, n1, r1, s3.d, s3.q, s3.m, s3.e⟩ b := ⟨S2.1, S2.2.1, S2.2.2.1, S2.2.2.2.newInts R2⟩
      obtain ⟨q1, q2⟩ := put_ints3 p1 n1 r1 I2
      have I3 := hide q1
      have Z3 := hide (q2.box (HZ.out.on b2) (by omega))
      have B3 := hide (q2.below _ _ (Nat.le_refl _) (HB.out.trans (b2.mono HB.out.size)))
      have S3 := hide (q2.sets I2 S2')
      obtain ⟨e0, e1, e2, e3⟩ := I2.at3
      have z1 := I2.soft 13
      have Y := hide (clone_any _ b.s3.strs _ S3.out.2.2.2.getStrs (by have := fi3.out.2.2.2; omega))
      clear X c0 c1 c2 c3 I2 S2 S2' q1 q2 R2 o2 b2 HI HZ HB HS
      dsimp only at Y
      go_wp2_with fail
      refine (unhide Y).mono ?_
      rintro r w4 ⟨⟨u4, rfl, o4⟩, b4⟩
      obtain ⟨p3, n3, r3, rfl⟩ := o4.frm
      have R4 := o4.strs fi3.out.2.2.1 (by have := fi3.out.2.2.2; omega)
      have I4 := I3.out.on b4
      have S4 := S3.out.on b4
      have S4' : Sets4 w4 s0 s1 s2 ⟨s3.a, p1, n1, r1, s3.d, p3, n3, r3⟩ b := ⟨S4.1, S4.2.1, S4.2.2.1, S4.2.2.2.newStrs R4⟩
      obtain ⟨q1, q2⟩ := put_strs3 p3 n3 r3 I4
      have I5 := hide q1
      have Z5 := hide (q2.box (Z3.out.on b4) (by omega))
      have B5 := hide (q2.below _ _ (Nat.le_refl _) (B3.out.trans (b4.mono B3.out.size)))
      have S5 := hide (q2.sets I4 S4')
      obtain ⟨f0, f1, f2, f3⟩ := I4.at3
      dsimp only at f0 f1 f2 f3
      have z3 := I4.soft 15
      clear Y e0 e1 e2 e3 I3 Z3 B3 S3 I4 S4 S4' q1 q2 R4 o4 b4 z1
      go_wp2
      exact ⟨⟨4, rfl, by simp, s0, s1, s2, ⟨s3.a, p1, n1, r1, s3.d, p3, n3, r3⟩, I5, Z5, B5, S5⟩, by simp [intOf]⟩
    · obtain ⟨c0, c1, c2, c3, c4, c5, c6, c7, c8, c9, c10, c11, c12, c13, c14, c15⟩ := HI.out.cells
      obtain ⟨d0, d1, d2, d3, d4, d5, d6, d7, d8, d9, d10, d11, d12, d13, d14, d15⟩ := HZ.out.cells
      have z0 := HZ.out.soft 0
      have z1 := HZ.out.soft 1
      have z2 := HZ.out.soft 2
      have z3 := HZ.out.soft 3
      have z4 := HZ.out.soft 4
      have z5 := HZ.out.soft 5
      have z6 := HZ.out.soft 6
      have z7 := HZ.out.soft 7
      have z8 := HZ.out.soft 8
      have z9 := HZ.out.soft 9
      have z10 := HZ.out.soft 10
      have z11 := HZ.out.soft 11
      have z12 := HZ.out.soft 12
      have z13 := HZ.out.soft 13
      have z14 := HZ.out.soft 14
      have z15 := HZ.out.soft 15
      obtain ⟨q1, q2⟩ := put_whole s0 s1 s2 s3 HZ.out
      have HQ := hide q1
      have HR := hide (q2.sets HZ.out HS.out).box
      have HW := hide (q2.below _ _ (by omega) HB.out)
      clear q1 q2
      go_wp2
      exact bodyPost_ret (results_cell_row rfl _ _ (w.heap.size + 1) 47 _ (0, 0) _ rfl HQ.out Tryz.underlying47 rfl infoBx) rfl ⟨⟨_, rfl, HR.out⟩, HW.out⟩


end Go.Proofs.YtlfhpocfacaaeaaGreat
/-
  The program's box: With.
-/
set_option linter.unusedSimpArgs false
set_option linter.unusedVariables false
namespace Go.Proofs.YtlfhpocfacaaeaaGreat
open Go.RowKit

theorem fit_put {b : BoxV} (fb : FitBx b) {s : SetV} (fs : Fit s) : ∀ (i : Nat) (hi : i < 4) (j : Nat), j < 4 → Fit ((b.put i s).get j) := fun i hi j hj => by
  rw [BoxV.get_put _ _ _ _ hi hj]
  split
  · exact fs
  · exact fb.fit j hj
set_option maxHeartbeats 8000000 in
set_option maxRecDepth 100000 in
theorem with_low (v : Value) (b : BoxV) (u : Value) (s : SetV) (w : World) (x : Int) (x0 : -9223372036854775808 ≤ x) (hx : x < 0) (hv : BoxAt w v b) (fb : FitBx b) (hu : SetAt w u s) (fs : Fit s) :
    Calls Tryz.prog 122 #[v, .int .i64 x, u] w fun r w' => (∃ y, r = .returned y ∧ BoxAt w' y (b)) ∧ Below w.heap.size w w' := by
  obtain ⟨s0, s1, s2, s3, rfl, h0, h1, h2, h3⟩ := hv.scs
  obtain ⟨t, rfl⟩ := hu.sc
  have T0 := Tri.start w (Obj.cells #[.bool s0.a, .slice s0.p s0.n s0.c, .bool s0.d, .slice s0.q s0.m s0.e, .bool s1.a, .slice s1.p s1.n s1.c, .bool s1.d, .slice s1.q s1.m s1.e, .bool s2.a, .slice s2.p s2.n s2.c, .bool s2.d, .slice s2.q s2.m s2.e, .bool s3.a, .slice s3.p s3.n s3.c, .bool s3.d, .slice s3.q s3.m s3.e] 47) (Obj.cells #[.bool t.a, .slice t.p t.n t.c, .bool t.d, .slice t.q t.m t.e] 25) (Obj.cells #[.bool false, .slice none 0 0, .bool false, .slice none 0 0, .bool false, .slice none 0 0, .bool false, .slice none 0 0, .bool false, .slice none 0 0, .bool false, .slice none 0 0, .bool false, .slice none 0 0, .bool false, .slice none 0 0] 47)
  have S0 := hide (show Sets4 _ s0 s1 s2 s3 b from ⟨h0.on T0.b, h1.on T0.b, h2.on T0.b, h3.on T0.b⟩)
  have HT0 := hide (hu.on T0.b)
  have I0 := hide (show BxIn _ w.heap.size s0 s1 s2 s3 from T0.e1)
  have N0 := hide T0.e2
  have Z0 := hide (show BxIn _ (w.heap.size + 1 + 1) SC.zero SC.zero SC.zero SC.zero from T0.e3)
  have B0 := hide T0.b
  have HS : Hid (Sets4 w s0 s1 s2 s3 b) := hide ⟨h0, h1, h2, h3⟩
  have HU := hide hu
  have FB := hide (fun i hi => fb.fit i hi)
  have FP := hide (fit_put fb fs)
  clear hv fb hu fs h0 h1 h2 h3 T0
  unfold bxVal SC.val
  have hx' : (decide (0 ≤ x)) = false := by simp; omega
  go_enter Tryz.func122, Tryz.ntmps122
  have X := hide (boxCopied_any _ b _ ((Sets4.box S0.out)) FB.out)
  unfold bxVal at X
  obtain ⟨c0, c1, c2, c3, c4, c5, c6, c7, c8, c9, c10, c11, c12, c13, c14, c15⟩ := I0.out.cells
  go_wp2_with fail
  refine (unhide X).mono ?_
  rintro r w2 ⟨⟨u2, rfl, h2⟩, b2⟩
  have Z2 := Z0.out.on b2
  have B2 := B0.out.trans (b2.mono B0.out.size)
  clear c0 c1 c2 c3 c4 c5 c6 c7 c8 c9 c10 c11 c12 c13 c14 c15
  obtain ⟨x0, x1, x2, x3, rfl, g0, g1, g2, g3⟩ := h2.scs
  obtain ⟨d0, d1, d2, d3, d4, d5, d6, d7, d8, d9, d10, d11, d12, d13, d14, d15⟩ := Z2.cells
  have y0 := Z2.soft 0
  have y1 := Z2.soft 1
  have y2 := Z2.soft 2
  have y3 := Z2.soft 3
  have y4 := Z2.soft 4
  have y5 := Z2.soft 5
  have y6 := Z2.soft 6
  have y7 := Z2.soft 7
  have y8 := Z2.soft 8
  have y9 := Z2.soft 9
  have y10 := Z2.soft 10
  have y11 := Z2.soft 11
  have y12 := Z2.soft 12
  have y13 := Z2.soft 13
  have y14 := Z2.soft 14
  have y15 := Z2.soft 15
  obtain ⟨q1, q2⟩ := put_whole x0 x1 x2 x3 Z2
  have HQ := hide q1
  have HR := hide (Sets4.box ⟨q2.set Z2 g0, q2.set Z2 g1, q2.set Z2 g2, q2.set Z2 g3⟩)
  have HW := hide (q2.below _ _ (by omega) B2)
  clear q1 q2 X g0 g1 g2 g3 h2 b2 B2 Z2 I0 N0 Z0 B0 S0 HT0 HS HU FB FP
  unfold bxVal
  go_wp2
  exact bodyPost_ret (results_cell_row rfl _ _ (w.heap.size + 1 + 1) 47 _ (0, 0) _ rfl HQ.out Tryz.underlying47 rfl infoBx) rfl ⟨⟨_, rfl, HR.out⟩, HW.out⟩
set_option maxHeartbeats 8000000 in
set_option maxRecDepth 100000 in
theorem with_high (v : Value) (b : BoxV) (u : Value) (s : SetV) (w : World) (x : Int) (x1 : x ≤ 9223372036854775807) (hx : 3 < x) (hv : BoxAt w v b) (fb : FitBx b) (hu : SetAt w u s) (fs : Fit s) :
    Calls Tryz.prog 122 #[v, .int .i64 x, u] w fun r w' => (∃ y, r = .returned y ∧ BoxAt w' y (b)) ∧ Below w.heap.size w w' := by
  obtain ⟨s0, s1, s2, s3, rfl, h0, h1, h2, h3⟩ := hv.scs
  obtain ⟨t, rfl⟩ := hu.sc
  have T0 := Tri.start w (Obj.cells #[.bool s0.a, .slice s0.p s0.n s0.c, .bool s0.d, .slice s0.q s0.m s0.e, .bool s1.a, .slice s1.p s1.n s1.c, .bool s1.d, .slice s1.q s1.m s1.e, .bool s2.a, .slice s2.p s2.n s2.c, .bool s2.d, .slice s2.q s2.m s2.e, .bool s3.a, .slice s3.p s3.n s3.c, .bool s3.d, .slice s3.q s3.m s3.e] 47) (Obj.cells #[.bool t.a, .slice t.p t.n t.c, .bool t.d, .slice t.q t.m t.e] 25) (Obj.cells #[.bool false, .slice none 0 0, .bool false, .slice none 0 0, .bool false, .slice none 0 0, .bool false, .slice none 0 0, .bool false, .slice none 0 0, .bool false, .slice none 0 0, .bool false, .slice none 0 0, .bool false, .slice none 0 0] 47)
  have S0 := hide (show Sets4 _ s0 s1 s2 s3 b from ⟨h0.on T0.b, h1.on T0.b, h2.on T0.b, h3.on T0.b⟩)
  have HT0 := hide (hu.on T0.b)
  have I0 := hide (show BxIn _ w.heap.size s0 s1 s2 s3 from T0.e1)
  have N0 := hide T0.e2
  have Z0 := hide (show BxIn _ (w.heap.size + 1 + 1) SC.zero SC.zero SC.zero SC.zero from T0.e3)
  have B0 := hide T0.b
  have HS : Hid (Sets4 w s0 s1 s2 s3 b) := hide ⟨h0, h1, h2, h3⟩
  have HU := hide hu
  have FB := hide (fun i hi => fb.fit i hi)
  have FP := hide (fit_put fb fs)
  clear hv fb hu fs h0 h1 h2 h3 T0
  unfold bxVal SC.val
  have hx' : (decide (0 ≤ x)) = true := by simp; omega
  have hx2 : (decide (x < 4)) = false := by simp; omega
  go_enter Tryz.func122, Tryz.ntmps122
  have X := hide (boxCopied_any _ b _ ((Sets4.box S0.out)) FB.out)
  unfold bxVal at X
  obtain ⟨c0, c1, c2, c3, c4, c5, c6, c7, c8, c9, c10, c11, c12, c13, c14, c15⟩ := I0.out.cells
  go_wp2_with fail
  refine (unhide X).mono ?_
  rintro r w2 ⟨⟨u2, rfl, h2⟩, b2⟩
  have Z2 := Z0.out.on b2
  have B2 := B0.out.trans (b2.mono B0.out.size)
  clear c0 c1 c2 c3 c4 c5 c6 c7 c8 c9 c10 c11 c12 c13 c14 c15
  obtain ⟨x0, x1, x2, x3, rfl, g0, g1, g2, g3⟩ := h2.scs
  obtain ⟨d0, d1, d2, d3, d4, d5, d6, d7, d8, d9, d10, d11, d12, d13, d14, d15⟩ := Z2.cells
  have y0 := Z2.soft 0
  have y1 := Z2.soft 1
  have y2 := Z2.soft 2
  have y3 := Z2.soft 3
  have y4 := Z2.soft 4
  have y5 := Z2.soft 5
  have y6 := Z2.soft 6
  have y7 := Z2.soft 7
  have y8 := Z2.soft 8
  have y9 := Z2.soft 9
  have y10 := Z2.soft 10
  have y11 := Z2.soft 11
  have y12 := Z2.soft 12
  have y13 := Z2.soft 13
  have y14 := Z2.soft 14
  have y15 := Z2.soft 15
  obtain ⟨q1, q2⟩ := put_whole x0 x1 x2 x3 Z2
  have HQ := hide q1
  have HR := hide (Sets4.box ⟨q2.set Z2 g0, q2.set Z2 g1, q2.set Z2 g2, q2.set Z2 g3⟩)
  have HW := hide (q2.below _ _ (by omega) B2)
  clear q1 q2 X g0 g1 g2 g3 h2 b2 B2 Z2 I0 N0 Z0 B0 S0 HT0 HS HU FB FP
  unfold bxVal
  go_wp2
  exact bodyPost_ret (results_cell_row rfl _ _ (w.heap.size + 1 + 1) 47 _ (0, 0) _ rfl HQ.out Tryz.underlying47 rfl infoBx) rfl ⟨⟨_, rfl, HR.out⟩, HW.out⟩
set_option maxHeartbeats 8000000 in
set_option maxRecDepth 100000 in
theorem with_in0 (v : Value) (b : BoxV) (u : Value) (s : SetV) (w : World) (hv : BoxAt w v b) (fb : FitBx b) (hu : SetAt w u s) (fs : Fit s) :
    Calls Tryz.prog 122 #[v, .int .i64 0, u] w fun r w' => (∃ y, r = .returned y ∧ BoxAt w' y (b.put 0 s)) ∧ Below w.heap.size w w' := by
  obtain ⟨s0, s1, s2, s3, rfl, h0, h1, h2, h3⟩ := hv.scs
  obtain ⟨t, rfl⟩ := hu.sc
  have T0 := Tri.start w (Obj.cells #[.bool s0.a, .slice s0.p s0.n s0.c, .bool s0.d, .slice s0.q s0.m s0.e, .bool s1.a, .slice s1.p s1.n s1.c, .bool s1.d, .slice s1.q s1.m s1.e, .bool s2.a, .slice s2.p s2.n s2.c, .bool s2.d, .slice s2.q s2.m s2.e, .bool s3.a, .slice s3.p s3.n s3.c, .bool s3.d, .slice s3.q s3.m s3.e] 47) (Obj.cells #[.bool t.a, .slice t.p t.n t.c, .bool t.d, .slice t.q t.m t.e] 25) (Obj.cells #[.bool false, .slice none 0 0, .bool false, .slice none 0 0, .bool false, .slice none 0 0, .bool false, .slice none 0 0, .bool false, .slice none 0 0, .bool false, .slice none 0 0, .bool false, .slice none 0 0, .bool false, .slice none 0 0] 47)
  have S0 := hide (show Sets4 _ s0 s1 s2 s3 b from ⟨h0.on T0.b, h1.on T0.b, h2.on T0.b, h3.on T0.b⟩)
  have HT0 := hide (hu.on T0.b)
  have I0 := hide (show BxIn _ w.heap.size s0 s1 s2 s3 from T0.e1)
  have N0 := hide T0.e2
  have Z0 := hide (show BxIn _ (w.heap.size + 1 + 1) SC.zero SC.zero SC.zero SC.zero from T0.e3)
  have B0 := hide T0.b
  have HS : Hid (Sets4 w s0 s1 s2 s3 b) := hide ⟨h0, h1, h2, h3⟩
  have HU := hide hu
  have FB := hide (fun i hi => fb.fit i hi)
  have FP := hide (fit_put fb fs)
  clear hv fb hu fs h0 h1 h2 h3 T0
  unfold bxVal SC.val
  go_enter Tryz.func122, Tryz.ntmps122
  have T1 := Tri.start w (Obj.cells #[.bool t.a, .slice t.p t.n t.c, .bool t.d, .slice t.q t.m t.e, .bool s1.a, .slice s1.p s1.n s1.c, .bool s1.d, .slice s1.q s1.m s1.e, .bool s2.a, .slice s2.p s2.n s2.c, .bool s2.d, .slice s2.q s2.m s2.e, .bool s3.a, .slice s3.p s3.n s3.c, .bool s3.d, .slice s3.q s3.m s3.e] 47) (Obj.cells #[.bool t.a, .slice t.p t.n t.c, .bool t.d, .slice t.q t.m t.e] 25) (Obj.cells #[.bool false, .slice none 0 0, .bool false, .slice none 0 0, .bool false, .slice none 0 0, .bool false, .slice none 0 0, .bool false, .slice none 0 0, .bool false, .slice none 0 0, .bool false, .slice none 0 0, .bool false, .slice none 0 0] 47)
  have S1 : Sets4 _ t s1 s2 s3 (b.put 0 s) := ⟨HU.out.on T1.b, HS.out.2.1.on T1.b, HS.out.2.2.1.on T1.b, HS.out.2.2.2.on T1.b⟩
  have Z1 := hide (show BxIn _ (w.heap.size + 1 + 1) SC.zero SC.zero SC.zero SC.zero from T1.e3)
  have B1 := hide T1.b
  have X := hide (boxCopied_any _ (b.put 0 s) _ (Sets4.box S1) (FP.out 0 (by omega)))
  unfold bxVal at X
  obtain ⟨c0, c1, c2, c3, c4, c5, c6, c7, c8, c9, c10, c11, c12, c13, c14, c15⟩ := I0.out.cells
  obtain ⟨e0, e1, e2, e3⟩ := setCells N0.out
  have z0 := I0.out.soft 0
  have z1 := I0.out.soft 1
  have z2 := I0.out.soft 2
  have z3 := I0.out.soft 3
  clear T1 S1
  go_wp2_with fail
  refine (unhide X).mono ?_
  rintro r w2 ⟨⟨u2, rfl, h2⟩, b2⟩
  have Z2 := Z1.out.on b2
  have B2 := B1.out.trans (b2.mono B1.out.size)
  clear c0 c1 c2 c3 c4 c5 c6 c7 c8 c9 c10 c11 c12 c13 c14 c15 e0 e1 e2 e3 z0 z1 z2 z3
  obtain ⟨x0, x1, x2, x3, rfl, g0, g1, g2, g3⟩ := h2.scs
  obtain ⟨d0, d1, d2, d3, d4, d5, d6, d7, d8, d9, d10, d11, d12, d13, d14, d15⟩ := Z2.cells
  have y0 := Z2.soft 0
  have y1 := Z2.soft 1
  have y2 := Z2.soft 2
  have y3 := Z2.soft 3
  have y4 := Z2.soft 4
  have y5 := Z2.soft 5
  have y6 := Z2.soft 6
  have y7 := Z2.soft 7
  have y8 := Z2.soft 8
  have y9 := Z2.soft 9
  have y10 := Z2.soft 10
  have y11 := Z2.soft 11
  have y12 := Z2.soft 12
  have y13 := Z2.soft 13
  have y14 := Z2.soft 14
  have y15 := Z2.soft 15
  obtain ⟨q1, q2⟩ := put_whole x0 x1 x2 x3 Z2
  have HQ := hide q1
  have HR := hide (Sets4.box ⟨q2.set Z2 g0, q2.set Z2 g1, q2.set Z2 g2, q2.set Z2 g3⟩)
  have HW := hide (q2.below _ _ (by omega) B2)
  clear q1 q2 X g0 g1 g2 g3 h2 b2 B2 Z2 I0 N0 Z0 B0 S0 HT0 HS HU FB FP
  unfold bxVal
  go_wp2
  exact bodyPost_ret (results_cell_row rfl _ _ (w.heap.size + 1 + 1) 47 _ (0, 0) _ rfl HQ.out Tryz.underlying47 rfl infoBx) rfl ⟨⟨_, rfl, HR.out⟩, HW.out⟩
set_option maxHeartbeats 8000000 in
set_option maxRecDepth 100000 in
theorem with_in1 (v : Value) (b : BoxV) (u : Value) (s : SetV) (w : World) (hv : BoxAt w v b) (fb : FitBx b) (hu : SetAt w u s) (fs : Fit s) :
    Calls Tryz.prog 122 #[v, .int .i64 1, u] w fun r w' => (∃ y, r = .returned y ∧ BoxAt w' y (b.put 1 s)) ∧ Below w.heap.size w w' := by
  obtain ⟨s0, s1, s2, s3, rfl, h0, h1, h2, h3⟩ := hv.scs
  obtain ⟨t, rfl⟩ := hu.sc
  have T0 := Tri.start w (Obj.cells #[.bool s0.a, .slice s0.p s0.n s0.c, .bool s0.d, .slice s0.q s0.m s0.e, .bool s1.a, .slice s1.p s1.n s1.c, .bool s1.d, .slice s1.q s1.m s1.e, .bool s2.a, .slice s2.p s2.n s2.c, .bool s2.d, .slice s2.q s2.m s2.e, .bool s3.a, .slice s3.p s3.n s3.c, .bool s3.d, .slice s3.q s3.m s3.e] 47) (Obj.cells #[.bool t.a, .slice t.p t.n t.c, .bool t.d, .slice t.q t.m t.e] 25) (Obj.cells #[.bool false, .slice none 0 0, .bool false, .slice none 0 0, .bool false, .slice none 0 0, .bool false, .slice none 0 0, .bool false, .slice none 0 0, .bool false, .slice none 0 0, .bool false, .slice none 0 0, .bool false, .slice none 0 0] 47)
  have S0 := hide (show Sets4 _ s0 s1 s2 s3 b from ⟨h0.on T0.b, h1.on T0.b, h2.on T0.b, h3.on T0.b⟩)
  have HT0 := hide (hu.on T0.b)
  have I0 := hide (show BxIn _ w.heap.size s0 s1 s2 s3 from T0.e1)
  have N0 := hide T0.e2
  have Z0 := hide (show BxIn _ (w.heap.size + 1 + 1) SC.zero SC.zero SC.zero SC.zero from T0.e3)
  have B0 := hide T0.b
  have HS : Hid (Sets4 w s0 s1 s2 s3 b) := hide ⟨h0, h1, h2, h3⟩
  have HU := hide hu
  have FB := hide (fun i hi => fb.fit i hi)
  have FP := hide (fit_put fb fs)
  clear hv fb hu fs h0 h1 h2 h3 T0
  unfold bxVal SC.val
  go_enter Tryz.func122, Tryz.ntmps122
  have T1 := Tri.start w (Obj.cells #[.bool s0.a, .slice s0.p s0.n s0.c, .bool s0.d, .slice s0.q s0.m s0.e, .bool t.a, .slice t.p t.n t.c, .bool t.d, .slice t.q t.m t.e, .bool s2.a, .slice s2.p s2.n s2.c, .bool s2.d, .slice s2.q s2.m s2.e, .bool s3.a, .slice s3.p s3.n s3.c, .bool s3.d, .slice s3.q s3.m s3.e] 47) (Obj.cells #[.bool t.a, .slice t.p t.n t.c, .bool t.d, .slice t.q t.m t.e] 25) (Obj.cells #[.bool false, .slice none 0 0, .bool false, .slice none 0 0, .bool false, .slice none 0 0, .bool false, .slice none 0 0, .bool false, .slice none 0 0, .bool false, .slice none 0 0, .bool false, .slice none 0 0, .bool false, .slice none 0 0] 47)
  have S1 : Sets4 _ s0 t s2 s3 (b.put 1 s) := ⟨HS.out.1.on T1.b, HU.out.on T1.b, HS.out.2.2.1.on T1.b, HS.out.2.2.2.on T1.b⟩
  have Z1 := hide (show BxIn _ (w.heap.size + 1 + 1) SC.zero SC.zero SC.zero SC.zero from T1.e3)
  have B1 := hide T1.b
  have X := hide (boxCopied_any _ (b.put 1 s) _ (Sets4.box S1) (FP.out 1 (by omega)))
  unfold bxVal at X
  obtain ⟨c0, c1, c2, c3, c4, c5, c6, c7, c8, c9, c10, c11, c12, c13, c14, c15⟩ := I0.out.cells
  obtain ⟨e0, e1, e2, e3⟩ := setCells N0.out
  have z0 := I0.out.soft 4
  have z1 := I0.out.soft 5
  have z2 := I0.out.soft 6
  have z3 := I0.out.soft 7
  clear T1 S1
  go_wp2_with fail
  refine (unhide X).mono ?_
  rintro r w2 ⟨⟨u2, rfl, h2⟩, b2⟩
  have Z2 := Z1.out.on b2
  have B2 := B1.out.trans (b2.mono B1.out.size)
  clear c0 c1 c2 c3 c4 c5 c6 c7 c8 c9 c10 c11 c12 c13 c14 c15 e0 e1 e2 e3 z0 z1 z2 z3
  obtain ⟨x0, x1, x2, x3, rfl, g0, g1, g2, g3⟩ := h2.scs
  obtain ⟨d0, d1, d2, d3, d4, d5, d6, d7, d8, d9, d10, d11, d12, d13, d14, d15⟩ := Z2.cells
  have y0 := Z2.soft 0
  have y1 := Z2.soft 1
  have y2 := Z2.soft 2
  have y3 := Z2.soft 3
  have y4 := Z2.soft 4
  have y5 := Z2.soft 5
  have y6 := Z2.soft 6
  have y7 := Z2.soft 7
  have y8 := Z2.soft 8
  have y9 := Z2.soft 9
  have y10 := Z2.soft 10
  have y11 := Z2.soft 11
  have y12 := Z2.soft 12
  have y13 := Z2.soft 13
  have y14 := Z2.soft 14
  have y15 := Z2.soft 15
  obtain ⟨q1, q2⟩ := put_whole x0 x1 x2 x3 Z2
  have HQ := hide q1
  have HR := hide (Sets4.box ⟨q2.set Z2 g0, q2.set Z2 g1, q2.set Z2 g2, q2.set Z2 g3⟩)
  have HW := hide (q2.below _ _ (by omega) B2)
  clear q1 q2 X g0 g1 g2 g3 h2 b2 B2 Z2 I0 N0 Z0 B0 S0 HT0 HS HU FB FP
  unfold bxVal
  go_wp2
  exact bodyPost_ret (results_cell_row rfl _ _ (w.heap.size + 1 + 1) 47 _ (0, 0) _ rfl HQ.out Tryz.underlying47 rfl infoBx) rfl ⟨⟨_, rfl, HR.out⟩, HW.out⟩
set_option maxHeartbeats 8000000 in
set_option maxRecDepth 100000 in
theorem with_in2 (v : Value) (b : BoxV) (u : Value) (s : SetV) (w : World) (hv : BoxAt w v b) (fb : FitBx b) (hu : SetAt w u s) (fs : Fit s) :
    Calls Tryz.prog 122 #[v, .int .i64 2, u] w fun r w' => (∃ y, r = .returned y ∧ BoxAt w' y (b.put 2 s)) ∧ Below w.heap.size w w' := by
  obtain ⟨s0, s1, s2, s3, rfl, h0, h1, h2, h3⟩ := hv.scs
  obtain ⟨t, rfl⟩ := hu.sc
  have T0 := Tri.start w (Obj.cells #[.bool s0.a, .slice s0.p s0.n s0.c, .bool s0.d, .slice s0.q s0.m s0.e, .bool s1.a, .slice s1.p s1.n s1.c, .bool s1.d, .slice s1.q s1.m s1.e, .bool s2.a, .slice s2.p s2.n s2.c, .bool s2.d, .slice s2.q s2.m s2.e, .bool s3.a, .slice s3.p s3.n s3.c, .bool s3.d, .slice s3.q s3.m s3.e] 47) (Obj.cells #[.bool t.a, .slice t.p t.n t.c, .bool t.d, .slice t.q t.m t.e] 25) (Obj.cells #[.bool false, .slice none 0 0, .bool false, .slice none 0 0, .bool false, .slice none 0 0, .bool false, .slice none 0 0, .bool false, .slice none 0 0, .bool false, .slice none 0 0, .bool false, .slice none 0 0, .bool false, .slice none 0 0] 47)
  have S0 := hide (show Sets4 _ s0 s1 s2 s3 b from ⟨h0.on T0.b, h1.on T0.b, h2.on T0.b, h3.on T0.b⟩)
  have HT0 := hide (hu.on T0.b)
  have I0 := hide (show BxIn _ w.heap.size s0 s1 s2 s3 from T0.e1)
  have N0 := hide T0.e2
  have Z0 := hide (show BxIn _ (w.heap.size + 1 + 1) SC.zero SC.zero SC.zero SC.zero from T0.e3)
  have B0 := hide T0.b
  have HS : Hid (Sets4 w s0 s1 s2 s3 b) := hide ⟨h0, h1, h2, h3⟩
  have HU := hide hu
  have FB := hide (fun i hi => fb.fit i hi)
  have FP := hide (fit_put fb fs)
  clear hv fb hu fs h0 h1 h2 h3 T0
  unfold bxVal SC.val
  go_enter Tryz.func122, Tryz.ntmps122
  have T1 := Tri.start w (Obj.cells #[.bool s0.a, .slice s0.p s0.n s0.c, .bool s0.d, .slice s0.q s0.m s0.e, .bool s1.a, .slice s1.p s1.n s1.c, .bool s1.d, .slice s1.q s1.m s1.e, .bool t.a, .slice t.p t.n t.c, .bool t.d, .slice t.q t.m t.e, .bool s3.a, .slice s3.p s3.n s3.c, .bool s3.d, .slice s3.q s3.m s3.e] 47) (Obj.cells #[.bool t.a, .slice t.p t.n t.c, .bool t.d, .slice t.q t.m t.e] 25) (Obj.cells #[.bool false, .slice none 0 0, .bool false, .slice none 0 0, .bool false, .slice none 0 0, .bool false, .slice none 0 0, .bool false, .slice none 0 0, .bool false, .slice none 0 0, .bool false, .slice none 0 0, .bool false, .slice none 0 0] 47)
  have S1 : Sets4 _ s0 s1 t s3 (b.put 2 s) := ⟨HS.out.1.on T1.b, HS.out.2.1.on T1.b, HU.out.on T1.b, HS.out.2.2.2.on T1.b⟩
  have Z1 := hide (show BxIn _ (w.heap.size + 1 + 1) SC.zero SC.zero SC.zero SC.zero from T1.e3)
  have B1 := hide T1.b
  have X := hide (boxCopied_any _ (b.put 2 s) _ (Sets4.box S1) (FP.out 2 (by omega)))
  unfold bxVal at X
  obtain ⟨c0, c1, c2, c3, c4, c5, c6, c7, c8, c9, c10, c11, c12, c13, c14, c15⟩ := I0.out.cells
  obtain ⟨e0, e1, e2, e3⟩ := setCells N0.out
  have z0 := I0.out.soft 8
  have z1 := I0.out.soft 9
  have z2 := I0.out.soft 10
  have z3 := I0.out.soft 11
  clear T1 S1
  go_wp2_with fail
  refine (unhide X).mono ?_
  rintro r w2 ⟨⟨u2, rfl, h2⟩, b2⟩
  have Z2 := Z1.out.on b2
  have B2 := B1.out.trans (b2.mono B1.out.size)
  clear c0 c1 c2 c3 c4 c5 c6 c7 c8 c9 c10 c11 c12 c13 c14 c15 e0 e1 e2 e3 z0 z1 z2 z3
  obtain ⟨x0, x1, x2, x3, rfl, g0, g1, g2, g3⟩ := h2.scs
  obtain ⟨d0, d1, d2, d3, d4, d5, d6, d7, d8, d9, d10, d11, d12, d13, d14, d15⟩ := Z2.cells
  have y0 := Z2.soft 0
  have y1 := Z2.soft 1
  have y2 := Z2.soft 2
  have y3 := Z2.soft 3
  have y4 := Z2.soft 4
  have y5 := Z2.soft 5
  have y6 := Z2.soft 6
  have y7 := Z2.soft 7
  have y8 := Z2.soft 8
  have y9 := Z2.soft 9
  have y10 := Z2.soft 10
  have y11 := Z2.soft 11
  have y12 := Z2.soft 12
  have y13 := Z2.soft 13
  have y14 := Z2.soft 14
  have y15 := Z2.soft 15
  obtain ⟨q1, q2⟩ := put_whole x0 x1 x2 x3 Z2
  have HQ := hide q1
  have HR := hide (Sets4.box ⟨q2.set Z2 g0, q2.set Z2 g1, q2.set Z2 g2, q2.set Z2 g3⟩)
  have HW := hide (q2.below _ _ (by omega) B2)
  clear q1 q2 X g0 g1 g2 g3 h2 b2 B2 Z2 I0 N0 Z0 B0 S0 HT0 HS HU FB FP
  unfold bxVal
  go_wp2
  exact bodyPost_ret (results_cell_row rfl _ _ (w.heap.size + 1 + 1) 47 _ (0, 0) _ rfl HQ.out Tryz.underlying47 rfl infoBx) rfl ⟨⟨_, rfl, HR.out⟩, HW.out⟩
set_option maxHeartbeats 8000000 in
set_option maxRecDepth 100000 in
theorem with_in3 (v : Value) (b : BoxV) (u : Value) (s : SetV) (w : World) (hv : BoxAt w v b) (fb : FitBx b) (hu : SetAt w u s) (fs : Fit s) :
    Calls Tryz.prog 122 #[v, .int .i64 3, u] w fun r w' => (∃ y, r = .returned y ∧ BoxAt w' y (b.put 3 s)) ∧ Below w.heap.size w w' := by
  obtain ⟨s0, s1, s2, s3, rfl, h0, h1, h2, h3⟩ := hv.scs
  obtain ⟨t, rfl⟩ := hu.sc
  have T0 := Tri.start w (Obj.cells #[.bool s0.a, .slice s0.p s0.n s0.c, .bool s0.d, .slice s0.q s0.m s0.e, .bool s1.a, .slice s1.p s1.n s1.c, .bool s1.d, .slice s1.q s1.m s1.e, .bool s2.a, .slice s2.p s2.n s2.c, .bool s2.d, .slice s2.q s2.m s2.e, .bool s3.a, .slice s3.p s3.n s3.c, .bool s3.d, .slice s3.q s3.m s3.e] 47) (Obj.cells #[.bool t.a, .slice t.p t.n t.c, .bool t.d, .slice t.q t.m t.e] 25) (Obj.cells #[.bool false, .slice none 0 0, .bool false, .slice none 0 0, .bool false, .slice none 0 0, .bool false, .slice none 0 0, .bool false, .slice none 0 0, .bool false, .slice none 0 0, .bool false, .slice none 0 0, .bool false, .slice none 0 0] 47)
  have S0 := hide (show Sets4 _ s0 s1 s2 s3 b from ⟨h0.on T0.b, h1.on T0.b, h2.on T0.b, h3.on T0.b⟩)
  have HT0 := hide (hu.on T0.b)
  have I0 := hide (show BxIn _ w.heap.size s0 s1 s2 s3 from T0.e1)
  have N0 := hide T0.e2
  have Z0 := hide (show BxIn _ (w.heap.size + 1 + 1) SC.zero SC.zero SC.zero SC.zero from T0.e3)
  have B0 := hide T0.b
  have HS : Hid (Sets4 w s0 s1 s2 s3 b) := hide ⟨h0, h1, h2, h3⟩
  have HU := hide hu
  have FB := hide (fun i hi => fb.fit i hi)
  have FP := hide (fit_put fb fs)
  clear hv fb hu fs h0 h1 h2 h3 T0
  unfold bxVal SC.val
  go_enter Tryz.func122, Tryz.ntmps122
  have T1 := Tri.start w (Obj.cells #[.bool s0.a, .slice s0.p s0.n s0.c, .bool s0.d, .slice s0.q s0.m s0.e, .bool s1.a, .slice s1.p s1.n s1.c, .bool s1.d, .slice s1.q s1.m s1.e, .bool s2.a, .slice s2.p s2.n s2.c, .bool s2.d, .slice s2.q s2.m s2.e, .bool t.a, .slice t.p t.n t.c, .bool t.d, .slice t.q t.m t.e] 47) (Obj.cells #[.bool t.a, .slice t.p t.n t.c, .bool t.d, .slice t.q t.m t.e] 25) (Obj.cells #[.bool false, .slice none 0 0, .bool false, .slice none 0 0, .bool false, .slice none 0 0, .bool false, .slice none 0 0, .bool false, .slice none 0 0, .bool false, .slice none 0 0, .bool false, .slice none 0 0, .bool false, .slice none 0 0] 47)
  have S1 : Sets4 _ s0 s1 s2 t (b.put 3 s) := ⟨HS.out.1.on T1.b, HS.out.2.1.on T1.b, HS.out.2.2.1.on T1.b, HU.out.on T1.b⟩
  have Z1 := hide (show BxIn _ (w.heap.size + 1 + 1) SC.zero SC.zero SC.zero SC.zero from T1.e3)
  have B1 := hide T1.b
  have X := hide (boxCopied_any _ (b.put 3 s) _ (Sets4.box S1) (FP.out 3 (by omega)))
  unfold bxVal at X
  obtain ⟨c0, c1, c2, c3, c4, c5, c6, c7, c8, c9, c10, c11, c12, c13, c14, c15⟩ := I0.out.cells
  obtain ⟨e0, e1, e2, e3⟩ := setCells N0.out
  have z0 := I0.out.soft 12
  have z1 := I0.out.soft 13
  have z2 := I0.out.soft 14
  have z3 := I0.out.soft 15
  clear T1 S1
  go_wp2_with fail
  refine (unhide X).mono ?_
  rintro r w2 ⟨⟨u2, rfl, h2⟩, b2⟩
  have Z2 := Z1.out.on b2
  have B2 := B1.out.trans (b2.mono B1.out.size)
  clear c0 c1 c2 c3 c4 c5 c6 c7 c8 c9 c10 c11 c12 c13 c14 c15 e0 e1 e2 e3 z0 z1 z2 z3
  obtain ⟨x0, x1, x2, x3, rfl, g0, g1, g2, g3⟩ := h2.scs
  obtain ⟨d0, d1, d2, d3, d4, d5, d6, d7, d8, d9, d10, d11, d12, d13, d14, d15⟩ := Z2.cells
  have y0 := Z2.soft 0
  have y1 := Z2.soft 1
  have y2 := Z2.soft 2
  have y3 := Z2.soft 3
  have y4 := Z2.soft 4
  have y5 := Z2.soft 5
  have y6 := Z2.soft 6
  have y7 := Z2.soft 7
  have y8 := Z2.soft 8
  have y9 := Z2.soft 9
  have y10 := Z2.soft 10
  have y11 := Z2.soft 11
  have y12 := Z2.soft 12
  have y13 := Z2.soft 13
  have y14 := Z2.soft 14
  have y15 := Z2.soft 15
  obtain ⟨q1, q2⟩ := put_whole x0 x1 x2 x3 Z2
  have HQ := hide q1
  have HR := hide (Sets4.box ⟨q2.set Z2 g0, q2.set Z2 g1, q2.set Z2 g2, q2.set Z2 g3⟩)
  have HW := hide (q2.below _ _ (by omega) B2)
  clear q1 q2 X g0 g1 g2 g3 h2 b2 B2 Z2 I0 N0 Z0 B0 S0 HT0 HS HU FB FP
  unfold bxVal
  go_wp2
  exact bodyPost_ret (results_cell_row rfl _ _ (w.heap.size + 1 + 1) 47 _ (0, 0) _ rfl HQ.out Tryz.underlying47 rfl infoBx) rfl ⟨⟨_, rfl, HR.out⟩, HW.out⟩
theorem boxWith_any (v : Value) (b : BoxV) (x : Int) (u : Value) (s : SetV) (w : World) (x0 : -9223372036854775808 ≤ x) (x1 : x ≤ 9223372036854775807) (hv : BoxAt w v b) (fb : FitBx b) (hu : SetAt w u s) (fs : Fit s) :
    Calls Tryz.prog 122 #[v, .int .i64 x, u] w fun r w' => (∃ y, r = .returned y ∧ BoxAt w' y (withBx b x s)) ∧ Below w.heap.size w w' := by
  rcases (by omega : x < 0 ∨ x = 0 ∨ x = 1 ∨ x = 2 ∨ x = 3 ∨ 3 < x) with hx | rfl | rfl | rfl | rfl | hx
  · rw [show withBx b x s = b from by unfold withBx; rw [if_neg (by omega)]]
    exact with_low v b u s w x x0 hx hv fb hu fs
  · exact with_in0 v b u s w hv fb hu fs
  · exact with_in1 v b u s w hv fb hu fs
  · exact with_in2 v b u s w hv fb hu fs
  · exact with_in3 v b u s w hv fb hu fs
  · rw [show withBx b x s = b from by unfold withBx; rw [if_neg (by omega)]]
    exact with_high v b u s w x x1 hx hv fb hu fs
end Go.Proofs.YtlfhpocfacaaeaaGreat
/-
  The program's box: Atom; all its promises.
-/
set_option linter.unusedSimpArgs false
set_option linter.unusedVariables false
namespace Go.Proofs.YtlfhpocfacaaeaaGreat
open Go.RowKit

theorem allFit : FitBx allBx := ⟨all_good, fun i _ => by rw [allBx_get]; simp [allV], fun i _ => by rw [allBx_get]; simp [allV]⟩

set_option maxHeartbeats 8000000 in
set_option maxRecDepth 100000 in
theorem boxAtom_any (P : SetProg) (x : Int) (u : Value) (s : SetV) (w : World) (x0 : -9223372036854775808 ≤ x) (x1 : x ≤ 9223372036854775807) (hu : SetAt w u s) (fs : Fit s) :
    Calls Tryz.prog 102 #[.int .i64 x, u] w fun r w' => (∃ y, r = .returned y ∧ BoxAt w' y (withBx allBx x s)) ∧ Below w.heap.size w w' := by
  have CA := fun (W : World) => hide (boxAll_any P W)
  have CW := fun (W : World) (v : Value) (hv : BoxAt W v allBx) (hu : SetAt W u s) => hide (boxWith_any v allBx x u s W x0 x1 hv allFit hu fs)
  obtain ⟨t, rfl⟩ := hu.sc
  have T0 := Two.start w (Obj.cells #[.bool t.a, .slice t.p t.n t.c, .bool t.d, .slice t.q t.m t.e] 25) (Obj.cells #[.bool false, .slice none 0 0, .bool false, .slice none 0 0, .bool false, .slice none 0 0, .bool false, .slice none 0 0, .bool false, .slice none 0 0, .bool false, .slice none 0 0, .bool false, .slice none 0 0, .bool false, .slice none 0 0] 47)
  unfold SC.val at *
  go_enter Tryz.func102, Tryz.ntmps102
  go_wp2
  generalize hW : (w.alloc (Obj.cells #[.bool t.a, .slice t.p t.n t.c, .bool t.d, .slice t.q t.m t.e] 25)).alloc (Obj.cells #[.bool false, .slice none 0 0, .bool false, .slice none 0 0, .bool false, .slice none 0 0, .bool false, .slice none 0 0, .bool false, .slice none 0 0, .bool false, .slice none 0 0, .bool false, .slice none 0 0, .bool false, .slice none 0 0] 47) = W0 at T0 ⊢
  clear hW
  refine wp_region_held_drew (S := fun w' => w'.heap[w.heap.size]? = some (Obj.cells #[.bool t.a, .slice t.p t.n t.c, .bool t.d, .slice t.q t.m t.e] 25 (0, 0))) (by kernel_rfl) T0.e1 (fun hHeld => ?_)
  refine wpAnyH_take (i := 1) (oi := ⟨_, _, _, _, _, _⟩) (v := .int .i64 x) rfl (by kernel_rfl) (by kernel_rfl) (by kernel_rfl) (fun _ _ _ h => h) (yl_move (by rfl) _ rfl _ rfl) (by assumption) ?_
  simp only [Act.put, List.setIfInBounds_toArray, List.set_cons_zero, List.set_cons_succ]
  refine wpAnyH_take (i := 2) (oi := ⟨_, _, _, _, _, _⟩) (v := .agg #[.bool t.a, .slice t.p t.n t.c, .bool t.d, .slice t.q t.m t.e]) rfl (by kernel_rfl) (by kernel_rfl) (by kernel_rfl) (fun _ _ _ h => h) (yl_set (by rfl) _ rfl _ 0 rfl _ _ _ _ (fun w' h => setCells h)) (by assumption) ?_
  simp only [Act.put, List.setIfInBounds_toArray, List.set_cons_zero, List.set_cons_succ]
  -- call 1 of 2
  refine held_call (o := ⟨_, _, _, _, _, _⟩) 0 (by kernel_rfl) rfl (by rfl) 66 _ _ rfl #[] rfl (run_call Tryz.func66 (by kernel_rfl) (by kernel_rfl)) ?_
  refine (unhide (CA W0.drew)).mono ?_
  rintro r w1 ⟨⟨u1, rfl, h1⟩, b'⟩
  have bw : Below W0.heap.size W0 w1 := ⟨b'.os, b'.tape, b'.output, b'.size, b'.block⟩
  have T1 := T0.on bw
  obtain ⟨s0, s1, s2, s3, rfl, -⟩ := h1.scs
  refine ⟨.agg #[.bool s0.a, .slice s0.p s0.n s0.c, .bool s0.d, .slice s0.q s0.m s0.e, .bool s1.a, .slice s1.p s1.n s1.c, .bool s1.d, .slice s1.q s1.m s1.e, .bool s2.a, .slice s2.p s2.n s2.c, .bool s2.d, .slice s2.q s2.m s2.e, .bool s3.a, .slice s3.p s3.n s3.c, .bool s3.d, .slice s3.q s3.m s3.e], rfl, T1.e1, fun hHeld => ?_⟩
  simp only [Act.put, List.setIfInBounds_toArray, List.set_cons_zero, List.set_cons_succ]
  -- call 2 of 2
  refine held_call (o := ⟨_, _, _, _, _, _⟩) 3 (by kernel_rfl) rfl (by rfl) 122 _ _ rfl #[.agg #[.bool s0.a, .slice s0.p s0.n s0.c, .bool s0.d, .slice s0.q s0.m s0.e, .bool s1.a, .slice s1.p s1.n s1.c, .bool s1.d, .slice s1.q s1.m s1.e, .bool s2.a, .slice s2.p s2.n s2.c, .bool s2.d, .slice s2.q s2.m s2.e, .bool s3.a, .slice s3.p s3.n s3.c, .bool s3.d, .slice s3.q s3.m s3.e], .int .i64 x, .agg #[.bool t.a, .slice t.p t.n t.c, .bool t.d, .slice t.q t.m t.e]] rfl (run_call Tryz.func122 (by kernel_rfl) (by kernel_rfl)) ?_
  refine (unhide (CW w1 _ h1 (hu.on T1.b))).mono ?_
  rintro r w2 ⟨⟨u2, rfl, h2⟩, b2⟩
  have T2 := T1.on b2
  have Z2 : BxIn w2 (w.heap.size + 1) SC.zero SC.zero SC.zero SC.zero := T2.e2
  obtain ⟨x0, x1, x2, x3, rfl, g0, g1, g2, g3⟩ := h2.scs
  refine ⟨.agg #[.bool x0.a, .slice x0.p x0.n x0.c, .bool x0.d, .slice x0.q x0.m x0.e, .bool x1.a, .slice x1.p x1.n x1.c, .bool x1.d, .slice x1.q x1.m x1.e, .bool x2.a, .slice x2.p x2.n x2.c, .bool x2.d, .slice x2.q x2.m x2.e, .bool x3.a, .slice x3.p x3.n x3.c, .bool x3.d, .slice x3.q x3.m x3.e], rfl, T2.e1, fun hHeld => ?_⟩
  simp only [Act.put, List.setIfInBounds_toArray, List.set_cons_zero, List.set_cons_succ]
  obtain ⟨d0, d1, d2, d3, d4, d5, d6, d7, d8, d9, d10, d11, d12, d13, d14, d15⟩ := Z2.cells
  have y0 := Z2.soft 0
  have y1 := Z2.soft 1
  have y2 := Z2.soft 2
  have y3 := Z2.soft 3
  have y4 := Z2.soft 4
  have y5 := Z2.soft 5
  have y6 := Z2.soft 6
  have y7 := Z2.soft 7
  have y8 := Z2.soft 8
  have y9 := Z2.soft 9
  have y10 := Z2.soft 10
  have y11 := Z2.soft 11
  have y12 := Z2.soft 12
  have y13 := Z2.soft 13
  have y14 := Z2.soft 14
  have y15 := Z2.soft 15
  obtain ⟨q1, q2⟩ := put_whole x0 x1 x2 x3 Z2
  have HQ := hide q1
  have HR := hide (Sets4.box ⟨q2.set Z2 g0, q2.set Z2 g1, q2.set Z2 g2, q2.set Z2 g3⟩)
  have HW := hide (q2.below _ _ (by omega) T2.b)
  have E1 := (q2.other w.heap.size (by omega)).trans T2.e1
  refine wpAnyH_ready (rs := [4]) (by kernel_rfl) (by simp) ?_
  refine AllReadyH.cons rfl (fun K hK => ?_) AllReadyH.nil
  clear CA CW hHeld
  go_simp
  refine hK.out _ _ E1 (fun hHeld => ?_)
  clear hK K
  refine wpAnyH_done (by kernel_rfl) ?_ _
  go_wp2
  exact bodyPost_ret (results_cell_row rfl _ _ (w.heap.size + 1) 47 _ (0, 0) _ rfl HQ.out Tryz.underlying47 rfl infoBx) rfl ⟨⟨_, rfl, HR.out⟩, HW.out⟩

theorem boxProg (P : SetProg) : BoxProg := {
  all := boxAll_any P
  atom := fun x v s w x0 x1 h f => boxAtom_any P x v s w x0 x1 h f
  with_ := fun v b x u s w x0 x1 h f hs fs => boxWith_any v b x u s w x0 x1 h f hs fs
  and := fun v u a b w h h' f f' => boxAnd_any P v u a b w h h' f f'
  in_ := fun v u a b w h h' f f' => boxIn_any P v u a b w h h' f f'
  empty := fun v b w h f => boxEmpty_any P v b w h f
  same := fun v u a b w h h' f f' => boxSame_any P v u a b w h h' f f'
  differ := fun v u a b w h h' f f' => boxDiffer_any P v u a b w h h' f f'
  has := fun v b e w h f ef ee => boxHas_any P v b e w h f ef ee }
theorem boxProg0 : BoxProg := boxProg setProg
end Go.Proofs.YtlfhpocfacaaeaaGreat
/-
  The program's copied: an expression in new memory.
-/
set_option linter.unusedSimpArgs false
set_option linter.unusedVariables false
namespace Go.Proofs.YtlfhpocfacaaeaaGreat
open Go.RowKit

/-- What may be copied: no row is longer than memory has room for. -/
def cpX : Nat → ExV → Prop
  | 0, _ => True
  | n + 1, x => x.set.ints.length ≤ 1000 ∧ x.set.strs.length ≤ 1000 ∧ x.sub.length ≤ 1000 ∧ ∀ y ∈ x.sub, cpX n y
def exCells (es : Nat → EC) (n : Nat) : List Value := (List.range n).flatMap fun i => (es i).list
theorem exCells_succ (es : Nat → EC) (n : Nat) : exCells es (n + 1) = exCells es n ++ (es n).list := by
  unfold exCells
  rw [List.range_succ, List.flatMap_append]
  simp
theorem exCells_len (es : Nat → EC) : ∀ n, (exCells es n).length = n * 7
  | 0 => rfl
  | n + 1 => by rw [exCells_succ, List.length_append, exCells_len es n, EC.list_len]; omega
theorem exCells_at (es : Nat → EC) (j r : Nat) (hr : r < 7) : ∀ n, j < n → (exCells es n)[j * 7 + r]? = (es j).list[r]?
  | n + 1, h => by
    rw [exCells_succ]
    by_cases e : j = n
    · subst e
      rw [List.getElem?_append_right (by rw [exCells_len]; omega), exCells_len]
      congr 1
      omega
    · rw [List.getElem?_append_left (by rw [exCells_len]; omega)]
      exact exCells_at es j r hr n (by omega)
theorem exCells_one (es : Nat → EC) (n : Nat) : ∀ u ∈ exCells es n, u.oneCell' = true := by
  intro u hu
  obtain ⟨i, _, hi⟩ := List.mem_flatMap.1 hu
  exact (es i).list_one u hi
/-- slices.Clone of a row of expressions. -/
theorem cloneX_new (p : Option Addr) (n c : Nat) (es : Nat → EC) (w : World) (hn : n ≤ 1000) (hp : p = none → n = 0 ∧ c = 0) (hel : ∀ j, j < n → ∃ g off, p = some ⟨g, off, none⟩ ∧ EcAt w g (off + j * 7) (es j)) :
    Calls Tryz.prog 92 #[.slice p n c] w fun r w' => (∃ q k, r = .returned (.slice q n k) ∧ n ≤ k ∧ k ≤ 9223372036854775807 ∧ (q = none → n = 0 ∧ k = 0) ∧ (0 < n → ∃ b, q = some ⟨b, 0, none⟩ ∧ w.heap.size ≤ b ∧ b < w'.heap.size ∧ RowX w' b n es)) ∧ Below w.heap.size w w' := by
  cases p with
  | none =>
    obtain ⟨rfl, rfl⟩ := hp rfl
    refine (cloneX_nil w).mono ?_
    rintro r w' ⟨rfl, rfl⟩
    exact ⟨⟨none, 0, rfl, by omega, by omega, fun _ => ⟨rfl, rfl⟩, fun h => by omega⟩, Below.refl _ _⟩
  | some ad =>
    refine (cloneX_some ad n c (exCells es n) w (exCells_len es n) ?_ (exCells_one es n) (by omega)).mono ?_
    · intro j u hj
      have hjl : j < n * 7 := by
        have := (List.getElem?_eq_some_iff.1 hj).1
        rwa [exCells_len] at this
      obtain ⟨g, off, e, hat⟩ := hel (j / 7) (by omega)
      simp at e
      subst e
      have hr := exCells_at es (j / 7) (j % 7) (by omega) n (by omega)
      rw [show j / 7 * 7 + j % 7 = j by omega, hj] at hr
      have := hat.range (j % 7) u hr.symm
      rw [Go.WideShapes.add_plain]
      rwa [show off + j / 7 * 7 + j % 7 = off + j by omega] at this
    · rintro r w' ⟨⟨v, rfl, ho⟩, hb⟩
      obtain ⟨q, k, rfl, h1, h2, h3⟩ := ownsRow_form ho
      refine ⟨⟨q, k, rfl, h1, by unfold maxLen at h2; omega, h3, fun hpos => ?_⟩, hb⟩
      cases q with
      | none => exact absurd (h3 rfl).1 (by omega)
      | some a =>
        obtain ⟨b, cur, rfl, hb1, hc⟩ := ownsRow_at ho
        refine ⟨b, rfl, hb1, lt_heap hc, fun j hj => EcAt.ofRange fun r v hv => ?_, soft_heap hc⟩
        have hr : r < 7 := (List.getElem?_eq_some_iff.1 hv).1
        exact ownsRow_cell ho _ _ ((exCells_at es j r hr n hj).trans hv)
end Go.Proofs.YtlfhpocfacaaeaaGreat
/-
  The program's copied, walked.
-/
set_option linter.unusedSimpArgs false
set_option linter.unusedVariables false
namespace Go.Proofs.YtlfhpocfacaaeaaGreat
open Go.RowKit

set_option maxHeartbeats 8000000 in
set_option maxRecDepth 100000 in
theorem copied_any : ∀ (n : Nat) (x : ExV) (c : EC) (w : World), ExAt n w c.val x → cpX n x →
    Calls Tryz.prog 94 #[c.val] w fun r w' => (∃ d : EC, r = .returned d.val ∧ ∀ w'', Kept w.heap.size w' w'' → ExAt n w'' d.val x) ∧ Below w.heap.size w w' := by
  intro n
  induction n with
  | zero => intro x c w h; cases h
  | succ n ih =>
    intro x c w hx hcp
    obtain ⟨c', hv, hc, hs⟩ := id hx
    obtain rfl := ec_inj hv
    have : Inhabited EC := ⟨ec0⟩
    obtain ⟨es, hes⟩ := Go.Deep.choose_lt (p := fun i d => (∃ g off, c.p = some ⟨g, off, none⟩ ∧ g < w.heap.size ∧ EcAt w g (off + i * 7) d) ∧ ExAt n w d.val (x.sub.getD i noX)) (fun i hi => by
      obtain ⟨g, off, d, hp, hg, hd, hy⟩ := hs i hi
      exact ⟨d, ⟨g, off, hp, hg, hd⟩, hy⟩)
    have HC := hide hc
    have HES := hide hes
    have HN := hide hc.n
    have HCP := hide hcp
    have IH := hide ih
    have T0 := hide (Pair.new w (exObj c) (exObj ec0))
    have nle : c.n ≤ 1000 := by rw [hc.n]; exact hcp.2.2.1
    clear hx hv hc hs hes hcp ih
    unfold exObj ec0 SC.zero at T0
    unfold EC.val
    go_enter Tryz.func94, Tryz.ntmps94
    go_wp2_with fail
    generalize (w.alloc (Obj.cells #[.int .i64 c.k, .int .i64 c.t, .bool c.s.a, .slice c.s.p c.s.n c.s.c, .bool c.s.d, .slice c.s.q c.s.m c.s.e, .slice c.p c.n c.c] 28)).alloc (Obj.cells #[.int .i64 0, .int .i64 0, .bool false, .slice none 0 0, .bool false, .slice none 0 0, .slice none 0 0] 28) = W0 at T0 ⊢
    refine (copiedSet_any c.s x.set W0 (HC.out.s.on T0.out.b) (by have := HCP.out.1; omega) (by have := HCP.out.2.1; omega)).mono ?_
    rintro r w1 ⟨⟨y, rfl, hY⟩, b1⟩
    have T1 := hide (T0.out.on b1)
    have HY := hide hY
    have K1 := hide T0.out.size
    have K0 := hide b1.size
    obtain ⟨c0, c1, c2, c3, c4, c5, c6⟩ := ecCells1 T1.out.e1
    have z2 := soft_heap T1.out.e1 2
    have z3 := soft_heap T1.out.e1 3
    have z4 := soft_heap T1.out.e1 4
    have z5 := soft_heap T1.out.e1 5
    have T2 : Hid (Pair w ((((w1.setCell ⟨w.heap.size, 2, none⟩ (.bool y.a)).setCell ⟨w.heap.size, 3, none⟩ (.slice y.p y.n y.c)).setCell ⟨w.heap.size, 4, none⟩ (.bool y.d)).setCell ⟨w.heap.size, 5, none⟩ (.slice y.q y.m y.e)) (.cells #[.int .i64 c.k, .int .i64 c.t, .bool y.a, .slice y.p y.n y.c, .bool y.d, .slice y.q y.m y.e, .slice c.p c.n c.c] 28 (0, 0)) (.cells #[.int .i64 0, .int .i64 0, .bool false, .slice none 0 0, .bool false, .slice none 0 0, .slice none 0 0] 28 (0, 0))) := hide ((((T1.out.put1 2 (.bool y.a)).put1 3 (.slice y.p y.n y.c)).put1 4 (.bool y.d)).put1 5 (.slice y.q y.m y.e))
    have K2 := hide ((((Kept.setCell w1 w.heap.size 2 (.bool y.a) (m := W0.heap.size) (by have := K1.out; omega)).trans (Kept.setCell _ w.heap.size 3 (.slice y.p y.n y.c) (by have := K1.out; omega))).trans (Kept.setCell _ w.heap.size 4 (.bool y.d) (by have := K1.out; omega))).trans (Kept.setCell _ w.heap.size 5 (.slice y.q y.m y.e) (by have := K1.out; omega)))
    have L2 := hide (show w1.heap.size = ((((w1.setCell ⟨w.heap.size, 2, none⟩ (.bool y.a)).setCell ⟨w.heap.size, 3, none⟩ (.slice y.p y.n y.c)).setCell ⟨w.heap.size, 4, none⟩ (.bool y.d)).setCell ⟨w.heap.size, 5, none⟩ (.slice y.q y.m y.e)).heap.size by simp)
    clear hY b1 T0
    unfold SC.val
    go_upto_region 2 with fail
    generalize (((w1.setCell ⟨w.heap.size, 2, none⟩ (.bool y.a)).setCell ⟨w.heap.size, 3, none⟩ (.slice y.p y.n y.c)).setCell ⟨w.heap.size, 4, none⟩ (.bool y.d)).setCell ⟨w.heap.size, 5, none⟩ (.slice y.q y.m y.e) = w2 at T2 K2 L2 ⊢
    clear c0 c1 c2 c3 c4 c5 c6 z2 z3 z4 z5 T1
    obtain ⟨c0, c1, c2, c3, c4, c5, c6⟩ := ecCells1 T2.out.e1
    go_wp2_with fail
    refine (cloneX_new c.p c.n c.c es w2 nle HC.out.none (fun j hj => ?_)).mono ?_
    · obtain ⟨⟨g, off, hp, hg, hd⟩, _⟩ := HES.out j (by rw [← HN.out]; exact hj)
      exact ⟨g, off, hp, hd.on hg T2.out.b⟩
    rintro r w3 ⟨⟨p, k, rfl, hk1, hk2, hk3, hrow⟩, b3⟩
    have T3 := hide (T2.out.on b3)
    have e1 : w3.heap[w.heap.size]? = some (.cells #[.int .i64 c.k, .int .i64 c.t, .bool y.a, .slice y.p y.n y.c, .bool y.d, .slice y.q y.m y.e, .slice c.p c.n c.c] 28 (0, 0)) := T3.out.e1
    clear c0 c1 c2 c3 c4 c5 c6
    obtain ⟨c0, c1, c2, c3, c4, c5, c6⟩ := ecCells1 e1
    have z6 := soft_heap e1 6
    have T4 : Hid (Pair w (w3.setCell ⟨w.heap.size, 6, none⟩ (.slice p c.n k)) (.cells #[.int .i64 c.k, .int .i64 c.t, .bool y.a, .slice y.p y.n y.c, .bool y.d, .slice y.q y.m y.e, .slice (p) c.n k] 28 (0, 0)) (.cells #[.int .i64 0, .int .i64 0, .bool false, .slice none 0 0, .bool false, .slice none 0 0, .slice none 0 0] 28 (0, 0))) := hide (T3.out.put1 6 (.slice p c.n k))
    have KW := hide ((K2.out.trans (Kept.ofBelow b3)).trans (Kept.setCell w3 w.heap.size 6 (.slice p c.n k) (m := W0.heap.size) (by have := K1.out; omega)))
    have HROW : Hid (0 < c.n → ∃ b, p = some ⟨b, 0, none⟩ ∧ w1.heap.size ≤ b ∧ b < (w3.setCell ⟨w.heap.size, 6, none⟩ (.slice p c.n k)).heap.size ∧ RowX (w3.setCell ⟨w.heap.size, 6, none⟩ (.slice p c.n k)) b c.n es) := hide (fun h => by
      obtain ⟨b, e, hb1, hb2, hb3⟩ := hrow h
      refine ⟨b, e, by rw [L2.out]; exact hb1, by simpa using hb2, hb3.ofBlock (Below.heap_setCell _ _ _ b (fun e => ?_))⟩
      have := T2.out.size
      dsimp only at e
      omega)
    have HK3 := hide hk3
    clear hrow b3 T2 T3 e1 hk3 L2 K2
    go_upto_region 3 with fail
    generalize w3.setCell ⟨w.heap.size, 6, none⟩ (.slice p c.n k) = w4 at T4 KW HROW ⊢
    clear c0 c1 c2 c3 c4 c5 c6 z6
    obtain ⟨c0, c1, c2, c3, c4, c5, c6⟩ := ecCells1 T4.out.e1
    rcases Nat.eq_zero_or_pos c.n with hz | hpos
    · have HZ := hide hz
      clear hz
      go_wp2
      go_loopw [16] (fun i wr => ∃ j : Nat, i = .int .i64 j ∧ wr = w4) (fun i _ => 0)
      case atStart => exact ⟨0, rfl, rfl⟩
      case round =>
        obtain ⟨j, rfl, rfl⟩ := hrel
        have hlt : ¬ j < c.n := by have := HZ.out; omega
        have hge : decide ((j : Int) < (c.n : Int)) = false := by simp; omega
        clear c0 c1 c2 c3 c4 c5 c6
        obtain ⟨c0, c1, c2, c3, c4, c5, c6⟩ := ecCells1 T4.out.e1
        obtain ⟨d0, d1, d2, d3, d4, d5, d6⟩ := ecCells1 T4.out.e2
        have z0 := soft_heap T4.out.e2 0
        have z1 := soft_heap T4.out.e2 1
        have z2 := soft_heap T4.out.e2 2
        have z3 := soft_heap T4.out.e2 3
        have z4 := soft_heap T4.out.e2 4
        have z5 := soft_heap T4.out.e2 5
        have z6 := soft_heap T4.out.e2 6
        have T5 : Hid (Pair w (((((((wr.setCell ⟨w.heap.size + 1, 0, none⟩ (.int .i64 c.k)).setCell ⟨w.heap.size + 1, 1, none⟩ (.int .i64 c.t)).setCell ⟨w.heap.size + 1, 2, none⟩ (.bool y.a)).setCell ⟨w.heap.size + 1, 3, none⟩ (.slice y.p y.n y.c)).setCell ⟨w.heap.size + 1, 4, none⟩ (.bool y.d)).setCell ⟨w.heap.size + 1, 5, none⟩ (.slice y.q y.m y.e)).setCell ⟨w.heap.size + 1, 6, none⟩ (.slice (p) c.n k)) (.cells #[.int .i64 c.k, .int .i64 c.t, .bool y.a, .slice y.p y.n y.c, .bool y.d, .slice y.q y.m y.e, .slice (p) c.n k] 28 (0, 0)) (.cells #[.int .i64 c.k, .int .i64 c.t, .bool y.a, .slice y.p y.n y.c, .bool y.d, .slice y.q y.m y.e, .slice (p) c.n k] 28 (0, 0))) := hide (((((((T4.out.put2 0 (.int .i64 c.k)).put2 1 (.int .i64 c.t)).put2 2 (.bool y.a)).put2 3 (.slice y.p y.n y.c)).put2 4 (.bool y.d)).put2 5 (.slice y.q y.m y.e)).put2 6 (.slice (p) c.n k))
        have K5 := hide (((((((Kept.setCell wr (w.heap.size + 1) 0 (.int .i64 c.k) (m := W0.heap.size) K1.out).trans (Kept.setCell _ (w.heap.size + 1) 1 (.int .i64 c.t) K1.out)).trans (Kept.setCell _ (w.heap.size + 1) 2 (.bool y.a) K1.out)).trans (Kept.setCell _ (w.heap.size + 1) 3 (.slice y.p y.n y.c) K1.out)).trans (Kept.setCell _ (w.heap.size + 1) 4 (.bool y.d) K1.out)).trans (Kept.setCell _ (w.heap.size + 1) 5 (.slice y.q y.m y.e) K1.out)).trans (Kept.setCell _ (w.heap.size + 1) 6 (.slice (p) c.n k) K1.out))
        go_wp2
        refine bodyPost_ret (results_cell_row rfl _ _ (w.heap.size + 1) 28 _ (0, 0) _ rfl T5.out.e2 Tryz.underlying28 rfl infoEx) rfl ⟨⟨⟨c.k, c.t, y, p, c.n, k⟩, rfl, fun w'' hk => ?_⟩, T5.out.b⟩
        have hk' := K5.out.trans (hk.mono (m' := W0.heap.size) (by have := K1.out; omega))
        refine ⟨⟨c.k, c.t, y, p, c.n, k⟩, rfl, ⟨HC.out.k, HC.out.t, HC.out.n, HC.out.k0, HC.out.k1, HC.out.t0, HC.out.t1, HY.out w'' (KW.out.trans hk'), hk1, hk2, HK3.out⟩, fun i hi => ?_⟩
        have := HZ.out
        have h2 := HN.out
        omega
    · obtain ⟨b, rfl, hb1, hb2, hb3⟩ := HROW.out hpos
      have HB1 := hide hb1
      have R4 : Hid (b < w4.heap.size ∧ RowX w4 b c.n es) := hide ⟨hb2, hb3⟩
      clear HROW hb1 hb2 hb3
      go_wp2
      go_loopw [16] (fun i wr => ∃ (j : Nat) (fs : Nat → EC), i = .int .i64 j ∧ j ≤ c.n ∧ Hid (Pair w wr (.cells #[.int .i64 c.k, .int .i64 c.t, .bool y.a, .slice y.p y.n y.c, .bool y.d, .slice y.q y.m y.e, .slice (some ⟨b, 0, none⟩) c.n k] 28 (0, 0)) (.cells #[.int .i64 0, .int .i64 0, .bool false, .slice none 0 0, .bool false, .slice none 0 0, .slice none 0 0] 28 (0, 0))) ∧ Hid (Kept W0.heap.size w1 wr) ∧ Hid (b < wr.heap.size ∧ RowX wr b c.n fs) ∧ Hid (∀ m, m < j → ∀ w'', Kept (b + 1) wr w'' → ExAt n w'' (fs m).val (x.sub.getD m noX)) ∧ Hid (∀ m, j ≤ m → m < c.n → fs m = es m)) (fun i _ => c.n - (intOf i).toNat)
      case atStart => exact ⟨0, es, rfl, by omega, T4, KW, R4, hide (fun m h => by omega), hide (fun _ _ _ => rfl)⟩
      case round =>
        clear c0 c1 c2 c3 c4 c5 c6 T4 KW R4
        obtain ⟨j, fs, rfl, hj, T4, KW, R4, HD, HO⟩ := hrel
        by_cases hlt : j < c.n
        · obtain ⟨d0, d1, d2, d3, d4, d5, d6⟩ := R4.out.2.els j hlt
          have HEX : Hid (ExAt n w (fs j).val (x.sub.getD j noX)) := hide (by
            rw [HO.out j (Nat.le_refl _) hlt]
            exact (HES.out j (by rw [← HN.out]; exact hlt)).2)
          have HCJ : Hid (cpX n (x.sub.getD j noX)) := hide (HCP.out.2.2.2 _ (getD_mem (by rw [← HN.out]; exact hlt)))
          obtain ⟨d, hd⟩ : ∃ d, d = fs j := ⟨_, rfl⟩
          rw [← hd] at d0 d1 d2 d3 d4 d5 d6 HEX
          clear hd
          have bA := (Below.refl _ wr).alloc (Nat.le_refl _) (exObj d)
          have TA := hide (T4.out.on bA)
          have XA := hide (show ExIn (wr.alloc (exObj d)) wr.heap.size d from heap_new wr _)
          have RA := hide (R4.out.2.ofBlock (bA.block b R4.out.1))
          have sA := hide (show (wr.alloc (exObj d)).heap.size = wr.heap.size + 1 by simp)
          have BA := hide bA
          clear bA
          unfold exObj at TA XA RA sA BA
          go_upto_region 6 with fail
          generalize wr.alloc (Obj.cells #[.int .i64 d.k, .int .i64 d.t, .bool d.s.a, .slice d.s.p d.s.n d.s.c, .bool d.s.d, .slice d.s.q d.s.m d.s.e, .slice d.p d.n d.c] 28) = wa at TA XA RA sA BA ⊢
          clear d0 d1 d2 d3 d4 d5 d6
          obtain ⟨c0, c1, c2, c3, c4, c5, c6⟩ := ecCells1 TA.out.e1
          refine wp_region_held_drew (S := fun w' => w'.cell? ⟨w.heap.size, 6, none⟩ = some (.slice (some ⟨b, 0, none⟩) c.n k) ∧ ExIn w' wr.heap.size d) (by kernel_rfl) ⟨c6, XA.out⟩ (fun hHeld => ?_)
          have BD := hide (show Below wa.heap.size wa wa.drew from (Below.refl _ wa).drew)
          generalize wa.drew = wd at BD hHeld ⊢
          refine wpAnyH_take (i := 0) (oi := ⟨_, _, _, _, _, _⟩) (v := .pointer (some ⟨w.heap.size, 6, none⟩)) rfl (by kernel_rfl) (by kernel_rfl) (by kernel_rfl) (fun _ _ _ h => h) (yl_exSub (by rfl) _ rfl _ rfl) (by assumption) ?_
          simp only [Act.put, List.setIfInBounds_toArray, List.set_cons_zero, List.set_cons_succ]
          refine wpAnyH_take (i := 1) (oi := ⟨_, _, _, _, _, _⟩) (v := .slice (some ⟨b, 0, none⟩) c.n k) rfl (by kernel_rfl) (by kernel_rfl) (by kernel_rfl) (fun _ _ _ h => h) (yl_exRow (by rfl) _ rfl _ 6 rfl _ _ _ (fun _ h => h.1)) (by assumption) ?_
          simp only [Act.put, List.setIfInBounds_toArray, List.set_cons_zero, List.set_cons_succ]
          refine wpAnyH_take (i := 2) (oi := ⟨_, _, _, _, _, _⟩) (v := .int .i64 j) rfl (by kernel_rfl) (by kernel_rfl) (by kernel_rfl) (fun _ _ _ h => h) (yl_move (by rfl) _ rfl _ rfl) (by assumption) ?_
          simp only [Act.put, List.setIfInBounds_toArray, List.set_cons_zero, List.set_cons_succ]
          refine wpAnyH_take (i := 3) (oi := ⟨_, _, _, _, _, _⟩) (v := d.val) rfl (by kernel_rfl) (by kernel_rfl) (by kernel_rfl) (fun _ _ _ h => h) (yl_ex (by rfl) _ rfl _ 0 rfl d (fun _ h => h.2.ec)) (by assumption) ?_
          simp only [Act.put, List.setIfInBounds_toArray, List.set_cons_zero, List.set_cons_succ]
          refine held_call (o := ⟨_, _, _, _, _, _⟩) 4 (by kernel_rfl) rfl (by rfl) 94 _ _ rfl #[d.val] rfl (run_call Tryz.func94 (by kernel_rfl) (by kernel_rfl)) ?_
          have TD := hide (TA.out.on BD.out)
          refine (IH.out (x.sub.getD j noX) d wd (ExAt.on TD.out.b _ HEX.out) HCJ.out).mono ?_
          rintro r w5 ⟨⟨d', rfl, hN⟩, b5⟩
          have s5 : wr.heap.size + 1 ≤ wd.heap.size := by have h1 := BD.out.size; have h2 := sA.out; omega
          refine ⟨d'.val, rfl, ⟨(b5.cell (p := ⟨w.heap.size, 6, none⟩) (by have := TD.out.size; dsimp only; omega)).trans hHeld.1, hHeld.2.on b5⟩, fun hHeld => ?_⟩
          simp only [Act.put, List.setIfInBounds_toArray, List.set_cons_zero, List.set_cons_succ]
          have T5 := hide (TD.out.on b5)
          have bw : b < wd.heap.size := by have h1 := R4.out.1; omega
          have R5 := RA.out.ofBlock (BD.out.block b (by have h1 := R4.out.1; have h2 := sA.out; omega))
          replace R5 := R5.ofBlock (b5.block b bw)
          refine wpAnyH_take (i := 5) (oi := ⟨_, _, _, _, _, _⟩) (v := .pointer (some ⟨b, j * 7, none⟩)) rfl (by kernel_rfl) (by kernel_rfl) (by kernel_rfl) (fun _ _ _ h => h) (yl_exAt (by rfl) _ _ rfl b c.n k j rfl rfl hlt) (by assumption) ?_
          simp only [Act.put, List.setIfInBounds_toArray, List.set_cons_zero, List.set_cons_succ]
          refine wpAnyH_all (rs := [6]) (by kernel_rfl) (by simp) ?_
          intro jj hj'
          have hj' := List.mem_singleton.1 hj'
          subst hj'
          refine op_storeEx (o := ⟨_, _, _, _, _, _⟩) rfl (by rfl) _ _ rfl b (j * 7) d' rfl rfl (R5.there j hlt) ?_
          have R6 := R5.put j hlt d'
          have h0 := HB1.out
          have hK0 := K0.out
          have hK1 := K1.out
          have b6 := Below.setCells (B := w.heap.size) (w0 := w) b (by omega) d'.list (j * 7) w5 T5.out.b
          have T6 : Hid (Pair w (w5.setCells b (j * 7) d'.list) _ _) := hide ⟨(World.heap_setCells_other w5 b (j * 7) d'.list (by have := T5.out.size; omega) (by omega)).trans T5.out.e1, (World.heap_setCells_other w5 b (j * 7) d'.list T5.out.size (by omega)).trans T5.out.e2, b6⟩
          have k5 : Kept W0.heap.size wr w5 := ((Kept.ofBelow BA.out).trans (Kept.ofBelow BD.out)).trans (Kept.ofBelow b5)
          have kb6 : Kept (b + 1) w5 (w5.setCells b (j * 7) d'.list) := Kept.setCells w5 (j * 7) d'.list (by omega)
          have KW6 : Hid (Kept W0.heap.size w1 (w5.setCells b (j * 7) d'.list)) := hide ⟨by rw [size_setCells]; exact Nat.le_trans KW.out.size k5.size, fun g hg hs => by
            rw [World.heap_setCells_other w5 b (j * 7) d'.list (Nat.lt_of_lt_of_le hs (Nat.le_trans KW.out.size k5.size)) (by omega), k5.block g hg (Nat.lt_of_lt_of_le hs KW.out.size)]
            exact KW.out.block g hg hs⟩
          have HD6 : Hid (∀ m, m < j + 1 → ∀ w'', Kept (b + 1) (w5.setCells b (j * 7) d'.list) w'' → ExAt n w'' ((fun i => if i = j then d' else fs i) m).val (x.sub.getD m noX)) := hide (fun m hm w'' hk => by
            have hk2 := kb6.trans hk
            by_cases e : m = j
            · subst e
              simp only [if_pos]
              exact hN w'' (hk2.mono (by have := R4.out.1; omega))
            · simp only [if_neg e]
              exact HD.out m (by omega) w'' ((k5.mono (by omega)).trans hk2))
          have HO6 : Hid (∀ m, j + 1 ≤ m → m < c.n → (fun i => if i = j then d' else fs i) m = es m) := hide (fun m hm hl => by
            dsimp only
            rw [if_neg (by omega)]
            exact HO.out m (by omega) hl)
          have s6 : b < (w5.setCells b (j * 7) d'.list).heap.size := by rw [size_setCells]; have := b5.size; omega
          have R7 := hide (And.intro s6 R6)
          have hS6 : (w5.setCells b (j * 7) d'.list).cell? ⟨w.heap.size, 6, none⟩ = some (.slice (some ⟨b, 0, none⟩) c.n k) ∧ ExIn (w5.setCells b (j * 7) d'.list) wr.heap.size d := ⟨(ecCells1 T6.out.e1).2.2.2.2.2.2, (World.heap_setCells_other w5 b (j * 7) d'.list (lt_heap hHeld.2) (by have h1 := R4.out.1; omega)).trans hHeld.2⟩
          refine ⟨hS6, ?_⟩
          simp only [Act.put, List.setIfInBounds_toArray, List.set_cons_zero, List.set_cons_succ]
          refine wpAnyH_done (by kernel_rfl) ?_ _
          clear hHeld hS6 R6 R5 b6 k5 kb6 s6 bw s5 h0 hK0 hK1 TD T5 b5 hN BD TA XA RA sA BA c0 c1 c2 c3 c4 c5 c6 HEX HCJ HD HO R4 KW T4
          generalize w5.setCells b (j * 7) d'.list = w6 at T6 KW6 HD6 R7 ⊢
          go_wp2
          exact ⟨⟨j + 1, _, by go_num, by omega, T6, KW6, R7, HD6, HO6⟩, by simp [intOf]; omega⟩
        · have hge : decide ((j : Int) < (c.n : Int)) = false := by simp; omega
          obtain ⟨c0, c1, c2, c3, c4, c5, c6⟩ := ecCells1 T4.out.e1
          obtain ⟨d0, d1, d2, d3, d4, d5, d6⟩ := ecCells1 T4.out.e2
          have z0 := soft_heap T4.out.e2 0
          have z1 := soft_heap T4.out.e2 1
          have z2 := soft_heap T4.out.e2 2
          have z3 := soft_heap T4.out.e2 3
          have z4 := soft_heap T4.out.e2 4
          have z5 := soft_heap T4.out.e2 5
          have z6 := soft_heap T4.out.e2 6
          have T5 : Hid (Pair w (((((((wr.setCell ⟨w.heap.size + 1, 0, none⟩ (.int .i64 c.k)).setCell ⟨w.heap.size + 1, 1, none⟩ (.int .i64 c.t)).setCell ⟨w.heap.size + 1, 2, none⟩ (.bool y.a)).setCell ⟨w.heap.size + 1, 3, none⟩ (.slice y.p y.n y.c)).setCell ⟨w.heap.size + 1, 4, none⟩ (.bool y.d)).setCell ⟨w.heap.size + 1, 5, none⟩ (.slice y.q y.m y.e)).setCell ⟨w.heap.size + 1, 6, none⟩ (.slice (some ⟨b, 0, none⟩) c.n k)) (.cells #[.int .i64 c.k, .int .i64 c.t, .bool y.a, .slice y.p y.n y.c, .bool y.d, .slice y.q y.m y.e, .slice (some ⟨b, 0, none⟩) c.n k] 28 (0, 0)) (.cells #[.int .i64 c.k, .int .i64 c.t, .bool y.a, .slice y.p y.n y.c, .bool y.d, .slice y.q y.m y.e, .slice (some ⟨b, 0, none⟩) c.n k] 28 (0, 0))) := hide (((((((T4.out.put2 0 (.int .i64 c.k)).put2 1 (.int .i64 c.t)).put2 2 (.bool y.a)).put2 3 (.slice y.p y.n y.c)).put2 4 (.bool y.d)).put2 5 (.slice y.q y.m y.e)).put2 6 (.slice (some ⟨b, 0, none⟩) c.n k))
          have K5 := hide (((((((Kept.setCell wr (w.heap.size + 1) 0 (.int .i64 c.k) (m := W0.heap.size) K1.out).trans (Kept.setCell _ (w.heap.size + 1) 1 (.int .i64 c.t) K1.out)).trans (Kept.setCell _ (w.heap.size + 1) 2 (.bool y.a) K1.out)).trans (Kept.setCell _ (w.heap.size + 1) 3 (.slice y.p y.n y.c) K1.out)).trans (Kept.setCell _ (w.heap.size + 1) 4 (.bool y.d) K1.out)).trans (Kept.setCell _ (w.heap.size + 1) 5 (.slice y.q y.m y.e) K1.out)).trans (Kept.setCell _ (w.heap.size + 1) 6 (.slice (some ⟨b, 0, none⟩) c.n k) K1.out))
          go_wp2
          refine bodyPost_ret (results_cell_row rfl _ _ (w.heap.size + 1) 28 _ (0, 0) _ rfl T5.out.e2 Tryz.underlying28 rfl infoEx) rfl ⟨⟨⟨c.k, c.t, y, some ⟨b, 0, none⟩, c.n, k⟩, rfl, fun w'' hk => ?_⟩, T5.out.b⟩
          have hk' := K5.out.trans (hk.mono (m' := W0.heap.size) (by have := K1.out; omega))
          refine ⟨⟨c.k, c.t, y, some ⟨b, 0, none⟩, c.n, k⟩, rfl, ⟨HC.out.k, HC.out.t, HC.out.n, HC.out.k0, HC.out.k1, HC.out.t0, HC.out.t1, HY.out w'' (KW.out.trans hk'), hk1, hk2, HK3.out⟩, fun i hi => ?_⟩
          have hi' : i < c.n := by rw [HN.out]; exact hi
          have kb : b < w''.heap.size := by have h1 := hk'.size; have h2 := R4.out.1; omega
          have blk : w''.heap[b]? = wr.heap[b]? := hk'.block b (by have h1 := HB1.out; have h2 := K0.out; omega) R4.out.1
          refine ⟨b, 0, fs i, rfl, kb, ?_, HD.out i (by omega) w'' (hk'.mono (by have h1 := HB1.out; have h2 := K0.out; omega))⟩
          rw [Nat.zero_add]
          exact (R4.out.2.els i hi').ofBlock blk
end Go.Proofs.YtlfhpocfacaaeaaGreat
/-
  The program's roomLeft and copiedList.
-/
set_option linter.unusedSimpArgs false
set_option linter.unusedVariables false
namespace Go.Proofs.YtlfhpocfacaaeaaGreat
open Go.RowKit

/-- The value is a row of just these expressions. -/
def RowsX (n : Nat) (w : World) (v : Value) (l : List ExV) : Prop :=
  ∃ (p : Option Addr) (k : Nat), v = .slice p l.length k ∧ l.length ≤ k ∧ k ≤ 9223372036854775807 ∧ (p = none → l.length = 0 ∧ k = 0) ∧
    ∀ i, i < l.length → ∃ (g off : Nat) (d : EC), p = some ⟨g, off, none⟩ ∧ g < w.heap.size ∧ EcAt w g (off + i * 7) d ∧ ExAt n w d.val (l.getD i noX)
theorem RowsX.on {n : Nat} {w w' : World} {v : Value} {l : List ExV} (h : RowsX n w v l) (hb : Below w.heap.size w w') : RowsX n w' v l := by
  obtain ⟨p, k, e, h1, h2, h3, h4⟩ := h
  refine ⟨p, k, e, h1, h2, h3, fun i hi => ?_⟩
  obtain ⟨g, off, d, hp, hg, hd, hx⟩ := h4 i hi
  exact ⟨g, off, d, hp, Nat.lt_of_lt_of_le hg hb.size, hd.on hg hb, ExAt.on hb n hx⟩
theorem RowsX.nil (n : Nat) (w : World) : RowsX n w (.slice none 0 0) [] := ⟨none, 0, rfl, by simp, by omega, fun _ => ⟨rfl, rfl⟩, fun i h => by simp at h⟩

set_option maxHeartbeats 4000000 in
set_option maxRecDepth 100000 in
theorem roomLeft_any : ∀ (n : Nat) (x : ExV) (c : EC) (w : World) (z : Int), ExAt n w c.val x → cpX n x → 0 ≤ z → z ≤ 1024 →
    Calls Tryz.prog 93 #[.int .i64 z, .slice c.p c.n c.c] w fun r w' => (∃ y : Int, r = .returned (.int .i64 y) ∧ -1000 ≤ y ∧ y ≤ 1024) ∧ Below w.heap.size w w' := by
  intro n
  induction n with
  | zero => intro x c w z h; cases h
  | succ n ih =>
    intro x c w z hx hcp z0 z1
    obtain ⟨c', hv, hc, hs⟩ := id hx
    obtain rfl := ec_inj hv
    have HX := hide hx
    have HI := hide ih
    have HN := hide hc.n
    have HCP := hide hcp
    have nle : c.n ≤ 1000 := by rw [hc.n]; exact hcp.2.2.1
    clear hx hv hc hs hcp ih
    go_enter Tryz.func93, Tryz.ntmps93
    go_wp2
    go_loopw [0, 12] (fun a i wr => ∃ (k : Nat) (y : Int), a = .int .i64 y ∧ i = .int .i64 k ∧ k ≤ c.n ∧ -1000 ≤ y ∧ y ≤ 1024 ∧ Hid (Below w.heap.size w wr)) (fun _ i _ => c.n - (intOf i).toNat)
    case atStart => exact ⟨0, z - c.n, rfl, rfl, by omega, by omega, by omega, hide (Below.refl _ _)⟩
    case round =>
      obtain ⟨k, y, rfl, rfl, hk, y0, y1, HB⟩ := hrel
      by_cases hlt : k < c.n
      · by_cases hy : y < 0
        · have dy : decide (y < 0) = true := decide_eq_true hy
          go_wp2
          go_ret
          exact ⟨⟨y, rfl, y0, y1⟩, HB.out⟩
        · have dy : decide (y < 0) = false := decide_eq_false hy
          have hk' : k < x.sub.length := by rw [← HN.out]; exact hlt
          obtain ⟨g, off, d, hp, hg, hd, hyy⟩ := (ExAt.on HB.out _ HX.out).part k hk'
          have X := hide (HI.out _ d wr y hyy (HCP.out.2.2.2 _ (getD_mem hk')) (by omega) y1)
          have d6 := hd.c6
          clear hyy HX HI hd
          rw [hp]
          go_wp2_with fail
          refine (unhide X).mono ?_
          rintro r w2 ⟨⟨y', rfl, q0, q1⟩, b2⟩
          have HB2 := hide (HB.out.trans (b2.mono HB.out.size))
          clear X b2 HB d6
          go_wp2
          exact ⟨⟨k + 1, y', rfl, by go_num, by omega, q0, q1, HB2⟩, by simp [intOf]; omega⟩
      · have hge : decide ((k : Int) < (c.n : Int)) = false := by simp; omega
        go_wp2
        go_ret
        exact ⟨⟨y, rfl, y0, y1⟩, HB.out⟩

/-- A row whose cells lie in the second world, and what they are is told in the first one. -/
def RowsY (n : Nat) (w0 w : World) (v : Value) (l : List ExV) : Prop :=
  ∃ (p : Option Addr) (k : Nat), v = .slice p l.length k ∧ (p = none → l.length = 0 ∧ k = 0) ∧
    ∀ i, i < l.length → ∃ (g off : Nat) (d : EC), p = some ⟨g, off, none⟩ ∧ EcAt w g (off + i * 7) d ∧ ExAt n w0 d.val (l.getD i noX)
theorem RowsX.y {n : Nat} {w w' : World} {v : Value} {l : List ExV} (h : RowsX n w v l) (hb : Below w.heap.size w w') : RowsY n w w' v l := by
  obtain ⟨p, k, e, h1, h2, h3, h4⟩ := h
  refine ⟨p, k, e, h3, fun i hi => ?_⟩
  obtain ⟨g, off, d, hp, hg, hd, hx⟩ := h4 i hi
  exact ⟨g, off, d, hp, hd.on hg hb, hx⟩
theorem RowsY.grow {n : Nat} {w0 w w' : World} {v : Value} {l : List ExV} (h : RowsY n w0 w v l) (hb : Below w.heap.size w w') : RowsY n w0 w' v l := by
  obtain ⟨p, k, e, h3, h4⟩ := h
  refine ⟨p, k, e, h3, fun i hi => ?_⟩
  obtain ⟨g, off, d, hp, hd, hx⟩ := h4 i hi
  exact ⟨g, off, d, hp, hd.on (lt_cell (a := ⟨g, _, none⟩) hd.c0) hb, hx⟩

set_option maxHeartbeats 8000000 in
set_option maxRecDepth 100000 in
theorem copiedList_any (n : Nat) (v : Value) (l : List ExV) (w0 w : World) (hv : RowsY n w0 w v l) (hb0 : Below w0.heap.size w0 w) (hl : l.length ≤ 1000) (hcp : ∀ y ∈ l, cpX n y) :
    Calls Tryz.prog 56 #[v] w fun r w' => (∃ u, r = .returned u ∧ ∀ w'', Kept w.heap.size w' w'' → Below w0.heap.size w0 w'' → RowsX n w'' u l) ∧ Below w.heap.size w w' := by
  have HB0 : Hid (∀ W, Below w.heap.size w W → Below w0.heap.size w0 W) := hide (fun W h => hb0.trans (h.mono hb0.size))
  obtain ⟨p, cc, rfl, h3, h4⟩ := hv
  have : Inhabited EC := ⟨ec0⟩
  obtain ⟨es, hes⟩ := Go.Deep.choose_lt (p := fun i d => (∃ g off, p = some ⟨g, off, none⟩ ∧ EcAt w g (off + i * 7) d) ∧ ExAt n w0 d.val (l.getD i noX)) (fun i hi => by
    obtain ⟨g, off, d, hp, hd, hy⟩ := h4 i hi
    exact ⟨d, ⟨g, off, hp, hd⟩, hy⟩)
  have HES := hide hes
  have HCP := hide hcp
  obtain ⟨N, hN⟩ : ∃ N, N = l.length := ⟨_, rfl⟩
  have X := hide (cloneX_new p N cc es w (by omega) (by rw [hN]; exact h3) (fun j hj => by
    obtain ⟨⟨g, off, hp, hd⟩, _⟩ := hes j (by omega)
    exact ⟨g, off, hp, hd⟩))
  rw [← hN] at hl ⊢
  have HN := hide hN
  clear h3 h4 hes hcp hN hb0
  go_enter Tryz.func56, Tryz.ntmps56
  go_wp2_with fail
  refine (unhide X).mono ?_
  rintro r w3 ⟨⟨q, k, rfl, hk1, hk2, hk3, hrow⟩, b3⟩
  have B3 := hide b3
  have HK3 := hide hk3
  have HROW := hide hrow
  clear X b3 hk3 hrow
  rcases Nat.eq_zero_or_pos N with hz | hpos
  · have HZ := hide hz
    clear hz HROW
    go_wp2
    go_loopw [10] (fun i wr => ∃ j : Nat, i = .int .i64 j ∧ wr = w3) (fun i _ => 0)
    case atStart => exact ⟨0, rfl, rfl⟩
    case round =>
      obtain ⟨j, rfl, rfl⟩ := hrel
      have hlt : ¬ j < N := by have := HZ.out; omega
      have hge : decide ((j : Int) < (N : Int)) = false := by simp; omega
      go_wp2
      go_ret
      refine ⟨⟨.slice q N k, rfl, fun w'' hkk hBB => ⟨q, k, by rw [← HN.out], by rw [← HN.out]; exact hk1, hk2, by rw [← HN.out]; exact HK3.out, fun i hi => ?_⟩⟩, B3.out⟩
      have h1 := HZ.out
      have h2 := HN.out
      omega
  · obtain ⟨b, rfl, hb1, hb2, hb3⟩ := HROW.out hpos
    have HB1 := hide hb1
    have R3 : Hid (b < w3.heap.size ∧ RowX w3 b N es) := hide ⟨hb2, hb3⟩
    clear HROW hb1 hb2 hb3
    go_wp2
    go_loopw [10] (fun i wr => ∃ (j : Nat) (fs : Nat → EC), i = .int .i64 j ∧ j ≤ N ∧ Hid (Below w.heap.size w wr) ∧ Hid (b < wr.heap.size ∧ RowX wr b N fs) ∧ Hid (∀ m, m < j → ∀ w'', Kept (b + 1) wr w'' → Below w0.heap.size w0 w'' → ExAt n w'' (fs m).val (l.getD m noX)) ∧ Hid (∀ m, j ≤ m → m < N → fs m = es m)) (fun i _ => N - (intOf i).toNat)
    case atStart => exact ⟨0, es, rfl, by omega, B3, R3, hide (fun m h => by omega), hide (fun _ _ _ => rfl)⟩
    case round =>
      clear B3 R3
      obtain ⟨j, fs, rfl, hj, B4, R4, HD, HO⟩ := hrel
      by_cases hlt : j < N
      · obtain ⟨d0, d1, d2, d3, d4, d5, d6⟩ := R4.out.2.els j hlt
        have HEX : Hid (ExAt n w0 (fs j).val (l.getD j noX)) := hide (by
          rw [HO.out j (Nat.le_refl _) hlt]
          exact (HES.out j (by rw [← HN.out]; exact hlt)).2)
        have HCJ : Hid (cpX n (l.getD j noX)) := hide (HCP.out _ (getD_mem (by rw [← HN.out]; exact hlt)))
        obtain ⟨d, hd⟩ : ∃ d, d = fs j := ⟨_, rfl⟩
        rw [← hd] at d0 d1 d2 d3 d4 d5 d6 HEX
        have HDD := hide hd
        clear hd
        have bA := (Below.refl _ wr).alloc (Nat.le_refl _) (exObj d)
        have DA := hide (B4.out.trans (bA.mono B4.out.size))
        have XA := hide (show ExIn (wr.alloc (exObj d)) wr.heap.size d from heap_new wr _)
        have RA := hide (R4.out.2.ofBlock (bA.block b R4.out.1))
        have sA := hide (show (wr.alloc (exObj d)).heap.size = wr.heap.size + 1 by simp)
        have BA := hide bA
        clear bA
        unfold exObj at DA XA RA sA BA
        go_upto_region 5 with fail
        generalize wr.alloc (Obj.cells #[.int .i64 d.k, .int .i64 d.t, .bool d.s.a, .slice d.s.p d.s.n d.s.c, .bool d.s.d, .slice d.s.q d.s.m d.s.e, .slice d.p d.n d.c] 28) = wa at DA XA RA sA BA ⊢
        clear d0 d1 d2 d3 d4 d5 d6
        obtain ⟨c0, c1, c2, c3, c4, c5, c6⟩ := ecCells1 XA.out
        go_wp2_with fail
        refine (roomLeft_any n (l.getD j noX) d wa 1024 (ExAt.on (HB0.out _ DA.out) _ HEX.out) HCJ.out (by omega) (by omega)).mono ?_
        rintro r wd ⟨⟨y, rfl, y0, y1⟩, bD⟩
        have BD := hide bD
        have TD := hide (DA.out.trans (bD.mono DA.out.size))
        have XD := hide (XA.out.on bD)
        have sD : wr.heap.size + 1 ≤ wd.heap.size := by have h1 := bD.size; have h2 := sA.out; omega
        have RD := hide (RA.out.ofBlock (bD.block b (by have h1 := R4.out.1; have h2 := sA.out; omega)))
        have kd : Hid (Kept (b + 1) wr wd) := hide ((Kept.ofBelow BA.out).trans (Kept.ofBelow bD))
        clear bD c0 c1 c2 c3 c4 c5 c6 DA RA BA BD
        by_cases hy : 0 ≤ y
        · have dy : decide (0 ≤ y) = true := decide_eq_true hy
          go_upto_region 6 with fail
          refine wp_region_lit ?_
          refine wl_yield (o := ⟨_, _, _, _, _, _⟩) (.slice (some ⟨b, 0, none⟩) N k) (yl_move (by rfl) _ rfl _ rfl) ?_
          simp only [Act.put, List.setIfInBounds_toArray, List.set_cons_zero, List.set_cons_succ]
          refine wl_yield (o := ⟨_, _, _, _, _, _⟩) (.int .i64 j) (yl_move (by rfl) _ rfl _ rfl) ?_
          simp only [Act.put, List.setIfInBounds_toArray, List.set_cons_zero, List.set_cons_succ]
          refine wl_yield (o := ⟨_, _, _, _, _, _⟩) d.val (yl_ex (by rfl) _ rfl _ 0 rfl d (fun _ h => by subst h; exact XD.out.ec)) ?_
          simp only [Act.put, List.setIfInBounds_toArray, List.set_cons_zero, List.set_cons_succ]
          refine wl_call (o := ⟨_, _, _, _, _, _⟩) (by rfl) 94 _ _ rfl #[d.val] rfl (run_call Tryz.func94 (by kernel_rfl) (by kernel_rfl)) ?_
          refine (copied_any n (l.getD j noX) d wd (ExAt.on (HB0.out _ TD.out) _ HEX.out) HCJ.out).mono ?_
          rintro r w5 ⟨⟨d', rfl, hN⟩, b5⟩
          refine ⟨d'.val, rfl, ?_⟩
          simp only [Act.put, List.setIfInBounds_toArray, List.set_cons_zero, List.set_cons_succ]
          refine wl_yield (o := ⟨_, _, _, _, _, _⟩) (.pointer (some ⟨b, j * 7, none⟩)) (yl_exAt (by rfl) _ _ rfl b N k j rfl rfl hlt) ?_
          simp only [Act.put, List.setIfInBounds_toArray, List.set_cons_zero, List.set_cons_succ]
          have T5 := hide (TD.out.trans (b5.mono TD.out.size))
          have bw : b < wd.heap.size := by have h1 := R4.out.1; omega
          have R5 := RD.out.ofBlock (b5.block b bw)
          refine wpList_store_mid (op := ⟨_, _, _, _, _, _⟩) rfl 28 _ _ rfl b (j * 7) d'.list.toArray rfl rfl (R5.there j hlt) (by rw [infoEx]; rfl) (all_oneCell_toArray d'.list_one) ?_
          simp only [Act.put, List.setIfInBounds_toArray, List.set_cons_zero, List.set_cons_succ]
          refine wpList_nil ?_
          have R6 := R5.put j hlt d'
          have h0 := HB1.out
          have T6 := hide (Below.setCells (B := w.heap.size) (w0 := w) b h0 d'.list (j * 7) w5 T5.out)
          have kb6 : Kept (b + 1) w5 (w5.setCells b (j * 7) d'.list) := Kept.setCells w5 (j * 7) d'.list (by omega)
          have k5 : Kept (b + 1) wr w5 := kd.out.trans (Kept.ofBelow b5)
          have HD6 : Hid (∀ m, m < j + 1 → ∀ w'', Kept (b + 1) (w5.setCells b (j * 7) d'.list) w'' → Below w0.heap.size w0 w'' → ExAt n w'' ((fun i => if i = j then d' else fs i) m).val (l.getD m noX)) := hide (fun m hm w'' hk hB => by
            have hk2 := kb6.trans hk
            by_cases e : m = j
            · subst e
              simp only [if_pos]
              exact hN w'' (hk2.mono (by have := R4.out.1; omega))
            · simp only [if_neg e]
              exact HD.out m (by omega) w'' (k5.trans hk2) hB)
          have HO6 : Hid (∀ m, j + 1 ≤ m → m < N → (fun i => if i = j then d' else fs i) m = es m) := hide (fun m hm hl => by
            dsimp only
            rw [if_neg (by omega)]
            exact HO.out m (by omega) hl)
          have s6 : b < (w5.setCells b (j * 7) d'.list).heap.size := by rw [size_setCells]; have := b5.size; omega
          have R7 := hide (And.intro s6 R6)
          clear R6 R5 k5 kb6 s6 bw sD h0 TD T5 b5 hN RD kd XA XD sA HEX HCJ HD HO R4 B4 HDD
          generalize w5.setCells b (j * 7) d'.list = w6 at T6 HD6 R7 ⊢
          go_wp2
          exact ⟨⟨j + 1, _, by go_num, by omega, T6, R7, HD6, HO6⟩, by simp [intOf]; omega⟩
        · have dy : decide (0 ≤ y) = false := decide_eq_false hy
          have HD6 : Hid (∀ m, m < j + 1 → ∀ w'', Kept (b + 1) wd w'' → Below w0.heap.size w0 w'' → ExAt n w'' (fs m).val (l.getD m noX)) := hide (fun m hm w'' hk hB => by
            by_cases e : m = j
            · subst e
              rw [← HDD.out]
              exact ExAt.on hB _ HEX.out
            · exact HD.out m (by omega) w'' (kd.out.trans hk) hB)
          have HO6 : Hid (∀ m, j + 1 ≤ m → m < N → fs m = es m) := hide (fun m hm hl => HO.out m (by omega) hl)
          have R7 : Hid (b < wd.heap.size ∧ RowX wd b N fs) := hide ⟨by have h1 := R4.out.1; omega, RD.out⟩
          clear RD kd XA XD sA HEX HCJ HD HO R4 B4 HDD sD
          go_wp2
          exact ⟨⟨j + 1, fs, by go_num, by omega, TD, R7, HD6, HO6⟩, by simp [intOf]; omega⟩
      · have hge : decide ((j : Int) < (N : Int)) = false := by simp; omega
        go_wp2
        go_ret
        refine ⟨⟨.slice (some ⟨b, 0, none⟩) N k, rfl, fun w'' hkk hBB => ⟨some ⟨b, 0, none⟩, k, by rw [← HN.out], by rw [← HN.out]; exact hk1, hk2, by rw [← HN.out]; exact HK3.out, fun i hi => ?_⟩⟩, B4.out⟩
        have hi' : i < N := by rw [HN.out]; exact hi
        refine ⟨b, 0, fs i, rfl, Nat.lt_of_lt_of_le R4.out.1 hkk.size, ?_, HD.out i (by omega) w'' (hkk.mono (by have := HB1.out; omega)) hBB⟩
        rw [Nat.zero_add]
        exact (R4.out.2.els i hi').ofBlock (hkk.block b HB1.out R4.out.1)
end Go.Proofs.YtlfhpocfacaaeaaGreat
/-
  The program's Atom, And, Or, Not.
-/
set_option linter.unusedSimpArgs false
set_option linter.unusedVariables false
namespace Go.Proofs.YtlfhpocfacaaeaaGreat
open Go.RowKit

theorem heap_put {w : World} {g : Nat} {cs : Array Value} {t : TypeId} (h : w.heap[g]? = some (.cells cs t (0, 0))) (i : Nat) (v : Value) : (w.setCell ⟨g, i, none⟩ v).heap[g]? = some (.cells (cs.setIfInBounds i v) t (0, 0)) := heap_setCell (i := i) v h
theorem rows_ex {n : Nat} {w : World} {v : Value} {l : List ExV} (kind : Int) (k0 : -9223372036854775808 ≤ kind) (k1 : kind ≤ 9223372036854775807) (h : RowsX n w v l) : ∃ p c, v = .slice p l.length c ∧ ExAt (n + 1) w (EC.val ⟨kind, 0, SC.zero, p, l.length, c⟩) ⟨kind, 0, noSet, l⟩ := by
  obtain ⟨p, c, e, h1, h2, h3, h4⟩ := h
  exact ⟨p, c, e, ⟨kind, 0, SC.zero, p, l.length, c⟩, rfl, ⟨rfl, rfl, rfl, k0, k1, by simp, by simp, noSet_at w, h1, h2, h3⟩, h4⟩
set_option maxHeartbeats 4000000 in
set_option maxRecDepth 100000 in
theorem progAnd_new (n : Nat) (v : Value) (l : List ExV) (w0 w : World) (hv : RowsY n w0 w v l) (hb0 : Below w0.heap.size w0 w) (hl : l.length ≤ 1000) (hcp : ∀ y ∈ l, cpX n y) :
    Calls Tryz.prog 27 #[v] w fun r w' => (∃ d : EC, r = .returned d.val ∧ ∀ w'', Kept w.heap.size w' w'' → Below w0.heap.size w0 w'' → ExAt (n + 1) w'' d.val (andX l)) ∧ Below w.heap.size w w' := by
  have HB0 : Hid (∀ W, Below w.heap.size w W → Below w0.heap.size w0 W) := hide (fun W h => hb0.trans (h.mono hb0.size))
  have b0 := (Below.refl _ w).alloc (Nat.le_refl _) (Obj.cells #[.int .i64 0, .int .i64 0, .bool false, .slice none 0 0, .bool false, .slice none 0 0, .slice none 0 0] 28)
  have X := hide (copiedList_any n v l w0 (w.alloc (Obj.cells #[.int .i64 0, .int .i64 0, .bool false, .slice none 0 0, .bool false, .slice none 0 0, .slice none 0 0] 28)) (hv.grow b0) (HB0.out _ b0) hl hcp)
  have E0 := hide (heap_new w (Obj.cells #[.int .i64 0, .int .i64 0, .bool false, .slice none 0 0, .bool false, .slice none 0 0, .slice none 0 0] 28))
  have S0 := hide (show (w.alloc (Obj.cells #[.int .i64 0, .int .i64 0, .bool false, .slice none 0 0, .bool false, .slice none 0 0, .slice none 0 0] 28)).heap.size = w.heap.size + 1 by simp)
  have B0 := hide b0
  obtain ⟨p, cc, rfl, _⟩ := hv
  clear b0 hl hcp hb0
  go_enter Tryz.func27, Tryz.ntmps27
  go_wp2_with fail
  generalize w.alloc (Obj.cells #[.int .i64 0, .int .i64 0, .bool false, .slice none 0 0, .bool false, .slice none 0 0, .slice none 0 0] 28) = W0 at X E0 S0 B0 ⊢
  refine (unhide X).mono ?_
  rintro r w1 ⟨⟨u, rfl, hR⟩, b1⟩
  have D1 := hide (B0.out.trans (b1.mono B0.out.size))
  have E1 := hide ((b1.block _ (by have := S0.out; omega)).trans E0.out)
  have LT : Hid (w.heap.size < W0.heap.size) := hide (by have := S0.out; omega)
  have GE : Hid (w.heap.size ≤ w.heap.size) := hide (Nat.le_refl _)
  clear X b1 E0 S0 B0
  obtain ⟨q, kk, len, rfl, hlen⟩ : ∃ q kk len, u = .slice q len kk ∧ len = l.length := by
    obtain ⟨q, kk, e, _⟩ := hR w1 (Kept.refl _ _) (HB0.out _ D1.out)
    exact ⟨q, kk, _, e, rfl⟩
  have HR := hide hR
  have HLEN := hide hlen
  clear hR hlen
  obtain ⟨d0, d1, d2, d3, d4, d5, d6⟩ := ecCells1 E1.out
  have z0 := soft_heap E1.out 0
  have z1 := soft_heap E1.out 1
  have z2 := soft_heap E1.out 2
  have z3 := soft_heap E1.out 3
  have z4 := soft_heap E1.out 4
  have z5 := soft_heap E1.out 5
  have z6 := soft_heap E1.out 6
  have E2 : Hid ((((((((w1.setCell ⟨w.heap.size, 0, none⟩ (.int .i64 2)).setCell ⟨w.heap.size, 1, none⟩ (.int .i64 0)).setCell ⟨w.heap.size, 2, none⟩ (.bool false)).setCell ⟨w.heap.size, 3, none⟩ (.slice none 0 0)).setCell ⟨w.heap.size, 4, none⟩ (.bool false)).setCell ⟨w.heap.size, 5, none⟩ (.slice none 0 0)).setCell ⟨w.heap.size, 6, none⟩ (.slice q len kk)).heap[w.heap.size]? = some (.cells #[.int .i64 2, .int .i64 0, .bool false, .slice none 0 0, .bool false, .slice none 0 0, .slice q len kk] 28 (0, 0))) := hide (heap_put (heap_put (heap_put (heap_put (heap_put (heap_put (heap_put E1.out 0 (.int .i64 2)) 1 (.int .i64 0)) 2 (.bool false)) 3 (.slice none 0 0)) 4 (.bool false)) 5 (.slice none 0 0)) 6 (.slice q len kk))
  have K2 := hide (((((((Kept.setCell w1 (w.heap.size) 0 (.int .i64 2) (m := W0.heap.size) LT.out).trans (Kept.setCell _ (w.heap.size) 1 (.int .i64 0) LT.out)).trans (Kept.setCell _ (w.heap.size) 2 (.bool false) LT.out)).trans (Kept.setCell _ (w.heap.size) 3 (.slice none 0 0) LT.out)).trans (Kept.setCell _ (w.heap.size) 4 (.bool false) LT.out)).trans (Kept.setCell _ (w.heap.size) 5 (.slice none 0 0) LT.out)).trans (Kept.setCell _ (w.heap.size) 6 (.slice q len kk) LT.out))
  have D2 := hide (((((((D1.out.setCell (p := ⟨w.heap.size, 0, none⟩) GE.out (.int .i64 2)).setCell (p := ⟨w.heap.size, 1, none⟩) GE.out (.int .i64 0)).setCell (p := ⟨w.heap.size, 2, none⟩) GE.out (.bool false)).setCell (p := ⟨w.heap.size, 3, none⟩) GE.out (.slice none 0 0)).setCell (p := ⟨w.heap.size, 4, none⟩) GE.out (.bool false)).setCell (p := ⟨w.heap.size, 5, none⟩) GE.out (.slice none 0 0)).setCell (p := ⟨w.heap.size, 6, none⟩) GE.out (.slice q len kk))
  clear D1 E1
  go_wp2
  refine bodyPost_ret (results_cell_row rfl _ _ (w.heap.size) 28 _ (0, 0) _ rfl E2.out Tryz.underlying28 rfl infoEx) rfl ⟨⟨⟨2, 0, SC.zero, q, len, kk⟩, rfl, fun w'' hk hB => ?_⟩, D2.out⟩
  obtain ⟨q', c', e', hX⟩ := rows_ex 2 (by omega) (by omega) (HR.out w'' (K2.out.trans (hk.mono (by have := LT.out; omega))) hB)
  injection e' with e1 e2 e3
  subst e1 e3
  rw [← HLEN.out] at hX
  exact hX
theorem progAnd_any (n : Nat) (v : Value) (l : List ExV) (w : World) (hv : RowsX n w v l) (hl : l.length ≤ 1000) (hcp : ∀ y ∈ l, cpX n y) :
    Calls Tryz.prog 27 #[v] w fun r w' => (∃ d : EC, r = .returned d.val ∧ ExAt (n + 1) w' d.val (andX l)) ∧ Below w.heap.size w w' := by
  refine (progAnd_new n v l w w (hv.y (Below.refl _ _)) (Below.refl _ _) hl hcp).mono ?_
  rintro r w' ⟨⟨d, rfl, h⟩, hb⟩
  exact ⟨⟨d, rfl, h w' (Kept.refl _ _) hb⟩, hb⟩
set_option maxHeartbeats 4000000 in
set_option maxRecDepth 100000 in
theorem progOr_new (n : Nat) (v : Value) (l : List ExV) (w0 w : World) (hv : RowsY n w0 w v l) (hb0 : Below w0.heap.size w0 w) (hl : l.length ≤ 1000) (hcp : ∀ y ∈ l, cpX n y) :
    Calls Tryz.prog 28 #[v] w fun r w' => (∃ d : EC, r = .returned d.val ∧ ∀ w'', Kept w.heap.size w' w'' → Below w0.heap.size w0 w'' → ExAt (n + 1) w'' d.val (orX l)) ∧ Below w.heap.size w w' := by
  have HB0 : Hid (∀ W, Below w.heap.size w W → Below w0.heap.size w0 W) := hide (fun W h => hb0.trans (h.mono hb0.size))
  have b0 := (Below.refl _ w).alloc (Nat.le_refl _) (Obj.cells #[.int .i64 0, .int .i64 0, .bool false, .slice none 0 0, .bool false, .slice none 0 0, .slice none 0 0] 28)
  have X := hide (copiedList_any n v l w0 (w.alloc (Obj.cells #[.int .i64 0, .int .i64 0, .bool false, .slice none 0 0, .bool false, .slice none 0 0, .slice none 0 0] 28)) (hv.grow b0) (HB0.out _ b0) hl hcp)
  have E0 := hide (heap_new w (Obj.cells #[.int .i64 0, .int .i64 0, .bool false, .slice none 0 0, .bool false, .slice none 0 0, .slice none 0 0] 28))
  have S0 := hide (show (w.alloc (Obj.cells #[.int .i64 0, .int .i64 0, .bool false, .slice none 0 0, .bool false, .slice none 0 0, .slice none 0 0] 28)).heap.size = w.heap.size + 1 by simp)
  have B0 := hide b0
  obtain ⟨p, cc, rfl, _⟩ := hv
  clear b0 hl hcp hb0
  go_enter Tryz.func28, Tryz.ntmps28
  go_wp2_with fail
  generalize w.alloc (Obj.cells #[.int .i64 0, .int .i64 0, .bool false, .slice none 0 0, .bool false, .slice none 0 0, .slice none 0 0] 28) = W0 at X E0 S0 B0 ⊢
  refine (unhide X).mono ?_
  rintro r w1 ⟨⟨u, rfl, hR⟩, b1⟩
  have D1 := hide (B0.out.trans (b1.mono B0.out.size))
  have E1 := hide ((b1.block _ (by have := S0.out; omega)).trans E0.out)
  have LT : Hid (w.heap.size < W0.heap.size) := hide (by have := S0.out; omega)
  have GE : Hid (w.heap.size ≤ w.heap.size) := hide (Nat.le_refl _)
  clear X b1 E0 S0 B0
  obtain ⟨q, kk, len, rfl, hlen⟩ : ∃ q kk len, u = .slice q len kk ∧ len = l.length := by
    obtain ⟨q, kk, e, _⟩ := hR w1 (Kept.refl _ _) (HB0.out _ D1.out)
    exact ⟨q, kk, _, e, rfl⟩
  have HR := hide hR
  have HLEN := hide hlen
  clear hR hlen
  obtain ⟨d0, d1, d2, d3, d4, d5, d6⟩ := ecCells1 E1.out
  have z0 := soft_heap E1.out 0
  have z1 := soft_heap E1.out 1
  have z2 := soft_heap E1.out 2
  have z3 := soft_heap E1.out 3
  have z4 := soft_heap E1.out 4
  have z5 := soft_heap E1.out 5
  have z6 := soft_heap E1.out 6
  have E2 : Hid ((((((((w1.setCell ⟨w.heap.size, 0, none⟩ (.int .i64 3)).setCell ⟨w.heap.size, 1, none⟩ (.int .i64 0)).setCell ⟨w.heap.size, 2, none⟩ (.bool false)).setCell ⟨w.heap.size, 3, none⟩ (.slice none 0 0)).setCell ⟨w.heap.size, 4, none⟩ (.bool false)).setCell ⟨w.heap.size, 5, none⟩ (.slice none 0 0)).setCell ⟨w.heap.size, 6, none⟩ (.slice q len kk)).heap[w.heap.size]? = some (.cells #[.int .i64 3, .int .i64 0, .bool false, .slice none 0 0, .bool false, .slice none 0 0, .slice q len kk] 28 (0, 0))) := hide (heap_put (heap_put (heap_put (heap_put (heap_put (heap_put (heap_put E1.out 0 (.int .i64 3)) 1 (.int .i64 0)) 2 (.bool false)) 3 (.slice none 0 0)) 4 (.bool false)) 5 (.slice none 0 0)) 6 (.slice q len kk))
  have K2 := hide (((((((Kept.setCell w1 (w.heap.size) 0 (.int .i64 3) (m := W0.heap.size) LT.out).trans (Kept.setCell _ (w.heap.size) 1 (.int .i64 0) LT.out)).trans (Kept.setCell _ (w.heap.size) 2 (.bool false) LT.out)).trans (Kept.setCell _ (w.heap.size) 3 (.slice none 0 0) LT.out)).trans (Kept.setCell _ (w.heap.size) 4 (.bool false) LT.out)).trans (Kept.setCell _ (w.heap.size) 5 (.slice none 0 0) LT.out)).trans (Kept.setCell _ (w.heap.size) 6 (.slice q len kk) LT.out))
  have D2 := hide (((((((D1.out.setCell (p := ⟨w.heap.size, 0, none⟩) GE.out (.int .i64 3)).setCell (p := ⟨w.heap.size, 1, none⟩) GE.out (.int .i64 0)).setCell (p := ⟨w.heap.size, 2, none⟩) GE.out (.bool false)).setCell (p := ⟨w.heap.size, 3, none⟩) GE.out (.slice none 0 0)).setCell (p := ⟨w.heap.size, 4, none⟩) GE.out (.bool false)).setCell (p := ⟨w.heap.size, 5, none⟩) GE.out (.slice none 0 0)).setCell (p := ⟨w.heap.size, 6, none⟩) GE.out (.slice q len kk))
  clear D1 E1
  go_wp2
  refine bodyPost_ret (results_cell_row rfl _ _ (w.heap.size) 28 _ (0, 0) _ rfl E2.out Tryz.underlying28 rfl infoEx) rfl ⟨⟨⟨3, 0, SC.zero, q, len, kk⟩, rfl, fun w'' hk hB => ?_⟩, D2.out⟩
  obtain ⟨q', c', e', hX⟩ := rows_ex 3 (by omega) (by omega) (HR.out w'' (K2.out.trans (hk.mono (by have := LT.out; omega))) hB)
  injection e' with e1 e2 e3
  subst e1 e3
  rw [← HLEN.out] at hX
  exact hX
theorem progOr_any (n : Nat) (v : Value) (l : List ExV) (w : World) (hv : RowsX n w v l) (hl : l.length ≤ 1000) (hcp : ∀ y ∈ l, cpX n y) :
    Calls Tryz.prog 28 #[v] w fun r w' => (∃ d : EC, r = .returned d.val ∧ ExAt (n + 1) w' d.val (orX l)) ∧ Below w.heap.size w w' := by
  refine (progOr_new n v l w w (hv.y (Below.refl _ _)) (Below.refl _ _) hl hcp).mono ?_
  rintro r w' ⟨⟨d, rfl, h⟩, hb⟩
  exact ⟨⟨d, rfl, h w' (Kept.refl _ _) hb⟩, hb⟩
set_option maxHeartbeats 4000000 in
set_option maxRecDepth 100000 in
theorem progNot_new (n : Nat) (c : EC) (x : ExV) (w0 w : World) (hx : ExAt n w0 c.val x) (hb0 : Below w0.heap.size w0 w) (hcp : cpX n x) :
    Calls Tryz.prog 25 #[c.val] w fun r w' => (∃ d : EC, r = .returned d.val ∧ ∀ w'', Kept w.heap.size w' w'' → Below w0.heap.size w0 w'' → ExAt (n + 1) w'' d.val (notX x)) ∧ Below w.heap.size w w' := by
  have HB0 : Hid (∀ W, Below w.heap.size w W → Below w0.heap.size w0 W) := hide (fun W h => hb0.trans (h.mono hb0.size))
  obtain ⟨l, hlx⟩ : ∃ l, l = [x] := ⟨_, rfl⟩
  have T0 := Pair.new w (exObj c) (exObj ec0)
  have b2 := (Below.refl _ ((w.alloc (exObj c)).alloc (exObj ec0))).alloc (Nat.le_refl _) (exObj c)
  have T2 := T0.on b2
  have hv : RowsY n w0 (((w.alloc (exObj c)).alloc (exObj ec0)).alloc (exObj c)) (.slice (some ⟨w.heap.size + 1 + 1, 0, none⟩) 1 1) l := by
    subst hlx
    refine ⟨_, 1, rfl, fun e => by simp at e, fun i hi => ?_⟩
    have hi0 : i = 0 := by simpa using hi
    subst hi0
    have hn := heap_new ((w.alloc (exObj c)).alloc (exObj ec0)) (exObj c)
    simp only [World.size_alloc] at hn
    refine ⟨w.heap.size + 1 + 1, 0, c, rfl, ?_, hx⟩
    obtain ⟨c0, c1, c2, c3, c4, c5, c6⟩ := ecCells1 hn
    exact ⟨c0, c1, c2, c3, c4, c5, c6⟩
  have X := hide (copiedList_any n _ l w0 _ hv (HB0.out _ T2.b) (by subst hlx; simp) (fun y hy => by subst hlx; simp at hy; subst hy; exact hcp))
  have HLX := hide hlx
  rw [show notX x = ⟨4, 0, noSet, l⟩ by rw [HLX.out]; rfl]
  have TT := hide T2
  clear hx hcp T0 b2 T2 hlx hv hb0
  unfold exObj ec0 SC.zero at X TT
  unfold EC.val
  go_enter Tryz.func25, Tryz.ntmps25
  go_wp2_with fail
  generalize ((w.alloc (Obj.cells #[.int .i64 c.k, .int .i64 c.t, .bool c.s.a, .slice c.s.p c.s.n c.s.c, .bool c.s.d, .slice c.s.q c.s.m c.s.e, .slice c.p c.n c.c] 28)).alloc (Obj.cells #[.int .i64 0, .int .i64 0, .bool false, .slice none 0 0, .bool false, .slice none 0 0, .slice none 0 0] 28)).alloc (Obj.cells #[.int .i64 c.k, .int .i64 c.t, .bool c.s.a, .slice c.s.p c.s.n c.s.c, .bool c.s.d, .slice c.s.q c.s.m c.s.e, .slice c.p c.n c.c] 28) = W0 at X TT ⊢
  refine (unhide X).mono ?_
  rintro r w1 ⟨⟨u, rfl, hR⟩, b1⟩
  have TD := hide (TT.out.on b1)
  have LT : Hid (w.heap.size + 1 < W0.heap.size) := hide TT.out.size
  have GE : Hid (w.heap.size ≤ w.heap.size + 1) := hide (by omega)
  have D1 := hide TD.out.b
  have E1 := hide TD.out.e2
  clear X b1 TT TD HLX
  obtain ⟨q, kk, len, rfl, hlen⟩ : ∃ q kk len, u = .slice q len kk ∧ len = l.length := by
    obtain ⟨q, kk, e, _⟩ := hR w1 (Kept.refl _ _) (HB0.out _ D1.out)
    exact ⟨q, kk, _, e, rfl⟩
  have HR := hide hR
  have HLEN := hide hlen
  clear hR hlen
  obtain ⟨d0, d1, d2, d3, d4, d5, d6⟩ := ecCells1 E1.out
  have z0 := soft_heap E1.out 0
  have z1 := soft_heap E1.out 1
  have z2 := soft_heap E1.out 2
  have z3 := soft_heap E1.out 3
  have z4 := soft_heap E1.out 4
  have z5 := soft_heap E1.out 5
  have z6 := soft_heap E1.out 6
  have E2 : Hid ((((((((w1.setCell ⟨w.heap.size + 1, 0, none⟩ (.int .i64 4)).setCell ⟨w.heap.size + 1, 1, none⟩ (.int .i64 0)).setCell ⟨w.heap.size + 1, 2, none⟩ (.bool false)).setCell ⟨w.heap.size + 1, 3, none⟩ (.slice none 0 0)).setCell ⟨w.heap.size + 1, 4, none⟩ (.bool false)).setCell ⟨w.heap.size + 1, 5, none⟩ (.slice none 0 0)).setCell ⟨w.heap.size + 1, 6, none⟩ (.slice q len kk)).heap[w.heap.size + 1]? = some (.cells #[.int .i64 4, .int .i64 0, .bool false, .slice none 0 0, .bool false, .slice none 0 0, .slice q len kk] 28 (0, 0))) := hide (heap_put (heap_put (heap_put (heap_put (heap_put (heap_put (heap_put E1.out 0 (.int .i64 4)) 1 (.int .i64 0)) 2 (.bool false)) 3 (.slice none 0 0)) 4 (.bool false)) 5 (.slice none 0 0)) 6 (.slice q len kk))
  have K2 := hide (((((((Kept.setCell w1 (w.heap.size + 1) 0 (.int .i64 4) (m := W0.heap.size) LT.out).trans (Kept.setCell _ (w.heap.size + 1) 1 (.int .i64 0) LT.out)).trans (Kept.setCell _ (w.heap.size + 1) 2 (.bool false) LT.out)).trans (Kept.setCell _ (w.heap.size + 1) 3 (.slice none 0 0) LT.out)).trans (Kept.setCell _ (w.heap.size + 1) 4 (.bool false) LT.out)).trans (Kept.setCell _ (w.heap.size + 1) 5 (.slice none 0 0) LT.out)).trans (Kept.setCell _ (w.heap.size + 1) 6 (.slice q len kk) LT.out))
  have D2 := hide (((((((D1.out.setCell (p := ⟨w.heap.size + 1, 0, none⟩) GE.out (.int .i64 4)).setCell (p := ⟨w.heap.size + 1, 1, none⟩) GE.out (.int .i64 0)).setCell (p := ⟨w.heap.size + 1, 2, none⟩) GE.out (.bool false)).setCell (p := ⟨w.heap.size + 1, 3, none⟩) GE.out (.slice none 0 0)).setCell (p := ⟨w.heap.size + 1, 4, none⟩) GE.out (.bool false)).setCell (p := ⟨w.heap.size + 1, 5, none⟩) GE.out (.slice none 0 0)).setCell (p := ⟨w.heap.size + 1, 6, none⟩) GE.out (.slice q len kk))
  clear D1 E1
  go_wp2
  refine bodyPost_ret (results_cell_row rfl _ _ (w.heap.size + 1) 28 _ (0, 0) _ rfl E2.out Tryz.underlying28 rfl infoEx) rfl ⟨⟨⟨4, 0, SC.zero, q, len, kk⟩, rfl, fun w'' hk hB => ?_⟩, D2.out⟩
  obtain ⟨q', c', e', hX⟩ := rows_ex 4 (by omega) (by omega) (HR.out w'' (K2.out.trans (hk.mono (by have := LT.out; omega))) hB)
  injection e' with e1 e2 e3
  subst e1 e3
  rw [← HLEN.out] at hX
  exact hX
theorem progNot_any (n : Nat) (c : EC) (x : ExV) (w : World) (hx : ExAt n w c.val x) (hcp : cpX n x) :
    Calls Tryz.prog 25 #[c.val] w fun r w' => (∃ d : EC, r = .returned d.val ∧ ExAt (n + 1) w' d.val (notX x)) ∧ Below w.heap.size w w' := by
  refine (progNot_new n c x w w hx (Below.refl _ _) hcp).mono ?_
  rintro r w' ⟨⟨d, rfl, h⟩, hb⟩
  exact ⟨⟨d, rfl, h w' (Kept.refl _ _) hb⟩, hb⟩
set_option maxHeartbeats 4000000 in
set_option maxRecDepth 100000 in
theorem progAtom_any (attr : Int) (a0 : -9223372036854775808 ≤ attr) (a1 : attr ≤ 9223372036854775807) (s : SC) (S : SetV) (w : World) (hv : SetAt w s.val S) (h1 : S.ints.length * 16 ≤ 140737488355328) (h2 : S.strs.length * 16 ≤ 140737488355328) :
    Calls Tryz.prog 29 #[.int .i64 attr, s.val] w fun r w' => (∃ d : EC, r = .returned d.val ∧ ExAt 1 w' d.val (atomX attr S)) ∧ Below w.heap.size w w' := by
  have T0 := Pair.new w (stObj s) (exObj ec0)
  have X := hide (copiedSet_any s S _ (hv.on T0.b) h1 h2)
  have TT := hide T0
  clear hv h1 h2 T0
  unfold stObj exObj ec0 SC.zero at X TT
  unfold SC.val at X ⊢
  go_enter Tryz.func29, Tryz.ntmps29
  go_wp2_with fail
  generalize (w.alloc (Obj.cells #[.bool s.a, .slice s.p s.n s.c, .bool s.d, .slice s.q s.m s.e] 25)).alloc (Obj.cells #[.int .i64 0, .int .i64 0, .bool false, .slice none 0 0, .bool false, .slice none 0 0, .slice none 0 0] 28) = W0 at X TT ⊢
  refine (unhide X).mono ?_
  rintro r w1 ⟨⟨y, rfl, hY⟩, b1⟩
  have TD := hide (TT.out.on b1)
  have LT : Hid (w.heap.size + 1 < W0.heap.size) := hide TT.out.size
  have E1 := hide TD.out.e2
  have HY := hide hY
  clear X b1 TT hY
  obtain ⟨d0, d1, d2, d3, d4, d5, d6⟩ := ecCells1 E1.out
  have z0 := soft_heap E1.out 0
  have z1 := soft_heap E1.out 1
  have z2 := soft_heap E1.out 2
  have z3 := soft_heap E1.out 3
  have z4 := soft_heap E1.out 4
  have z5 := soft_heap E1.out 5
  have z6 := soft_heap E1.out 6
  have E2 : Hid ((((((((w1.setCell ⟨w.heap.size + 1, 0, none⟩ (.int .i64 1)).setCell ⟨w.heap.size + 1, 1, none⟩ (.int .i64 attr)).setCell ⟨w.heap.size + 1, 2, none⟩ (.bool y.a)).setCell ⟨w.heap.size + 1, 3, none⟩ (.slice y.p y.n y.c)).setCell ⟨w.heap.size + 1, 4, none⟩ (.bool y.d)).setCell ⟨w.heap.size + 1, 5, none⟩ (.slice y.q y.m y.e)).setCell ⟨w.heap.size + 1, 6, none⟩ (.slice none 0 0)).heap[w.heap.size + 1]? = some (.cells #[.int .i64 1, .int .i64 attr, .bool y.a, .slice y.p y.n y.c, .bool y.d, .slice y.q y.m y.e, .slice none 0 0] 28 (0, 0))) := hide (heap_put (heap_put (heap_put (heap_put (heap_put (heap_put (heap_put E1.out 0 (.int .i64 1)) 1 (.int .i64 attr)) 2 (.bool y.a)) 3 (.slice y.p y.n y.c)) 4 (.bool y.d)) 5 (.slice y.q y.m y.e)) 6 (.slice none 0 0))
  have K2 := hide (((((((Kept.setCell w1 (w.heap.size + 1) 0 (.int .i64 1) (m := W0.heap.size) LT.out).trans (Kept.setCell _ (w.heap.size + 1) 1 (.int .i64 attr) LT.out)).trans (Kept.setCell _ (w.heap.size + 1) 2 (.bool y.a) LT.out)).trans (Kept.setCell _ (w.heap.size + 1) 3 (.slice y.p y.n y.c) LT.out)).trans (Kept.setCell _ (w.heap.size + 1) 4 (.bool y.d) LT.out)).trans (Kept.setCell _ (w.heap.size + 1) 5 (.slice y.q y.m y.e) LT.out)).trans (Kept.setCell _ (w.heap.size + 1) 6 (.slice none 0 0) LT.out))
  have D2 := hide (((((((TD.out.b.setCell (p := ⟨w.heap.size + 1, 0, none⟩) (by simp) (.int .i64 1)).setCell (p := ⟨w.heap.size + 1, 1, none⟩) (by simp) (.int .i64 attr)).setCell (p := ⟨w.heap.size + 1, 2, none⟩) (by simp) (.bool y.a)).setCell (p := ⟨w.heap.size + 1, 3, none⟩) (by simp) (.slice y.p y.n y.c)).setCell (p := ⟨w.heap.size + 1, 4, none⟩) (by simp) (.bool y.d)).setCell (p := ⟨w.heap.size + 1, 5, none⟩) (by simp) (.slice y.q y.m y.e)).setCell (p := ⟨w.heap.size + 1, 6, none⟩) (by simp) (.slice none 0 0))
  clear E1 TD
  go_wp2
  exact bodyPost_ret (results_cell_row rfl _ _ (w.heap.size + 1) 28 _ (0, 0) _ rfl E2.out Tryz.underlying28 rfl infoEx) rfl ⟨⟨⟨1, attr, y, none, 0, 0⟩, rfl, ⟨1, attr, y, none, 0, 0⟩, rfl, ⟨rfl, rfl, rfl, by simp, by simp, a0, a1, HY.out _ K2.out, Nat.le_refl _, by simp, fun _ => ⟨rfl, rfl⟩⟩, fun i hi => by simp [atomX] at hi⟩, D2.out⟩
end Go.Proofs.YtlfhpocfacaaeaaGreat
/-
  The fifth reference's Count and Deep, walked.
-/
set_option linter.unusedSimpArgs false
set_option linter.unusedVariables false
namespace Go.Proofs.YtlfhpocfacaaeaaGreat
open Go.RowKit

def cntF (f : Nat) (n : Int) (y : ExV) : Int := if n < 100 then n + countX f y else n
theorem cnt_stop (f : Nat) : ∀ (l : List ExV) (n : Int), 100 ≤ n → l.foldl (cntF f) n = n
  | [], _, _ => rfl
  | y :: l, n, h => by
    rw [List.foldl_cons, show cntF f n y = n from by unfold cntF; rw [if_neg (by omega)]]
    exact cnt_stop f l n h
theorem countX_le : ∀ (f : Nat) (x : ExV), countX f x ≤ 100
  | 0, _ => by unfold countX; omega
  | f + 1, x => by unfold countX; omega
theorem countX_step (f : Nat) (x : ExV) : countX (f + 1) x = min (x.sub.foldl (cntF f) 1) 100 := rfl
theorem drop_getX (l : List ExV) (k : Nat) (h : k < l.length) : l.drop k = l.getD k noX :: l.drop (k + 1) := by
  rw [List.drop_eq_getElem_cons h, List.getD_eq_getElem?_getD, List.getElem?_eq_getElem h]
  rfl
theorem ecCells {w : World} {g : Nat} {t : TypeId} {x0 x1 x2 x3 x4 x5 x6 : Value} (h : w.heap[g]? = some (.cells #[x0, x1, x2, x3, x4, x5, x6] t (0, 0))) : w.cell? ⟨g, 0, none⟩ = some x0 ∧ w.cell? ⟨g, 1, none⟩ = some x1 ∧ w.cell? ⟨g, 2, none⟩ = some x2 ∧ w.cell? ⟨g, 3, none⟩ = some x3 ∧ w.cell? ⟨g, 4, none⟩ = some x4 ∧ w.cell? ⟨g, 5, none⟩ = some x5 ∧ w.cell? ⟨g, 6, none⟩ = some x6 :=
  ⟨cell_heap h 0, cell_heap h 1, cell_heap h 2, cell_heap h 3, cell_heap h 4, cell_heap h 5, cell_heap h 6⟩

set_option maxHeartbeats 4000000 in
set_option maxRecDepth 100000 in
theorem refCount_any : ∀ (f : Nat) (n : Nat) (x : ExV) (v : Value) (D : Int) (w : World), f ≤ 21 → D = 21 - (f : Int) → ExAt n w v x →
    Calls Tryz.prog 31 #[v, .int .i64 D] w fun r w' => r = .returned (.int .i64 (countX f x)) ∧ Below w.heap.size w w' := by
  intro f
  induction f with
  | zero =>
    intro n x v D w hf hD hx
    obtain ⟨c, rfl, hc⟩ := hx.ec
    have hD' : D = 21 := by omega
    subst hD'
    have B0 := hide ((Below.refl _ w).alloc (Nat.le_refl _) (Obj.cells #[.int .i64 c.k, .int .i64 c.t, .bool c.s.a, .slice c.s.p c.s.n c.s.c, .bool c.s.d, .slice c.s.q c.s.m c.s.e, .slice c.p c.n c.c] 28))
    clear hx hc hD
    unfold EC.val
    go_enter Tryz.func31, Tryz.ntmps31
    go_wp2
    go_ret
    exact ⟨rfl, B0.out⟩
  | succ f ih =>
    intro n x v D w hf hD hx
    obtain ⟨m, rfl⟩ : ∃ m, n = m + 1 := by
      cases n with
      | zero => cases hx
      | succ m => exact ⟨m, rfl⟩
    obtain ⟨c, rfl, hc⟩ := hx.ec
    have hD0 : 0 ≤ D := by omega
    have hD1 : D ≤ 20 := by omega
    have HX := hide hx
    have HD := hide (show D + 1 = 21 - (f : Int) by omega)
    have IH := fun (y : ExV) (u : Value) (W : World) (h : ExAt m W u y) => hide (ih m y u (D + 1) W (by omega) HD.out h)
    have HN := hide hc.n
    have big := hc.big
    have room := hc.room
    have B0 := hide ((Below.refl _ w).alloc (Nat.le_refl _) (Obj.cells #[.int .i64 c.k, .int .i64 c.t, .bool c.s.a, .slice c.s.p c.s.n c.s.c, .bool c.s.d, .slice c.s.q c.s.m c.s.e, .slice c.p c.n c.c] 28))
    have E0 := hide (heap_new w (Obj.cells #[.int .i64 c.k, .int .i64 c.t, .bool c.s.a, .slice c.s.p c.s.n c.s.c, .bool c.s.d, .slice c.s.q c.s.m c.s.e, .slice c.p c.n c.c] 28))
    have HC := hide (countX_step f x)
    generalize countX (f + 1) x = R at HC ⊢
    clear hx hc ih hD hf
    unfold EC.val at *
    go_enter Tryz.func31, Tryz.ntmps31
    go_wp2
    go_loopw [5, 6] (fun a i wr => ∃ (k : Nat) (N : Int), a = .int .i64 N ∧ i = .int .i64 k ∧ k ≤ c.n ∧ 1 ≤ N ∧ N ≤ 200 ∧ Hid ((x.sub.drop k).foldl (cntF f) N = x.sub.foldl (cntF f) 1) ∧ Hid (Below w.heap.size w wr) ∧ Hid (wr.heap[w.heap.size]? = some (Obj.cells #[.int .i64 c.k, .int .i64 c.t, .bool c.s.a, .slice c.s.p c.s.n c.s.c, .bool c.s.d, .slice c.s.q c.s.m c.s.e, .slice c.p c.n c.c] 28 (0, 0)))) (fun _ i _ => c.n - (intOf i).toNat)
    case atStart => exact ⟨0, 1, rfl, rfl, by omega, by omega, by omega, hide rfl, B0, E0⟩
    case round =>
      clear B0 E0
      obtain ⟨k, N, rfl, rfl, hk, hN0, hN1, HF, HB, HE⟩ := hrel
      obtain ⟨c0, c1, c2, c3, c4, c5, c6⟩ := ecCells HE.out
      by_cases hlt : k < c.n
      · by_cases hN : N < 100
        · have hk' : k < x.sub.length := by rw [← HN.out]; exact hlt
          obtain ⟨g, off, d, hp, hg, hd, hy⟩ := (ExAt.on HB.out _ HX.out).part k hk'
          have F1 := HF.out
          rw [drop_getX _ _ hk', List.foldl_cons, show cntF f N (x.sub.getD k noX) = N + countX f (x.sub.getD k noX) from by unfold cntF; rw [if_pos hN]] at F1
          have HF1 := hide F1
          have X := IH _ _ _ hy
          have q0 := countX_pos f (x.sub.getD k noX)
          have q1 := countX_le f (x.sub.getD k noX)
          generalize countX f (x.sub.getD k noX) = q at *
          clear F1 HF hy IH HX
          obtain ⟨d0, d1, d2, d3, d4, d5, d6⟩ := hd
          unfold EC.val at X
          rw [hp] at c6 HE ⊢
          go_wp2_with fail
          refine (unhide X).mono ?_
          rintro r w2 ⟨rfl, b2⟩
          have HB2 := hide (HB.out.trans (b2.mono HB.out.size))
          have HE2 := hide ((b2.block _ (lt_heap HE.out)).trans HE.out)
          clear X b2 HB HE c0 c1 c2 c3 c4 c5 c6 d0 d1 d2 d3 d4 d5 d6
          go_wp2
          refine ⟨⟨k + 1, N + q, rfl, by go_num, by omega, by omega, by omega, HF1, HB2, HE2⟩, by simp [intOf]; omega⟩
        · have hN' : ¬ N < 100 := hN
          have E : Hid (R = min N 100) := hide (by rw [HC.out, ← HF.out, cnt_stop f _ N (by omega)])
          have hd' : decide (N < 100) = false := by simp; omega
          go_wp2
          go_ret
          exact ⟨ret_int E.out.symm, HB.out⟩
      · have E : Hid (R = min N 100) := hide (by
          rw [HC.out, ← HF.out, List.drop_eq_nil_of_le (by have := HN.out; omega)]; rfl)
        have hge : decide ((k : Int) < (c.n : Int)) = false := by simp; omega
        go_wp2
        go_ret
        exact ⟨ret_int E.out.symm, HB.out⟩
def maxF (f : Nat) (n : Int) (y : ExV) : Int := max n (deepX f y)
theorem deepX_le : ∀ (f : Nat) (x : ExV), deepX f x ≤ 20
  | 0, _ => by unfold deepX; omega
  | f + 1, x => by unfold deepX; omega
theorem deepX_step (f : Nat) (x : ExV) : deepX (f + 1) x = min ((x.sub.take 100).foldl (maxF f) 0 + 1) 20 := rfl
theorem take_getD (l : List ExV) (k : Nat) (h : k < 100) : (l.take 100).getD k noX = l.getD k noX := by
  rw [List.getD_eq_getElem?_getD, List.getD_eq_getElem?_getD, List.getElem?_take, if_pos h]
set_option maxHeartbeats 4000000 in
set_option maxRecDepth 100000 in
theorem refDeep_any : ∀ (f : Nat) (n : Nat) (x : ExV) (v : Value) (D : Int) (w : World), f ≤ 21 → D = 21 - (f : Int) → ExAt n w v x →
    Calls Tryz.prog 32 #[v, .int .i64 D] w fun r w' => r = .returned (.int .i64 (deepX f x)) ∧ Below w.heap.size w w' := by
  intro f
  induction f with
  | zero =>
    intro n x v D w hf hD hx
    obtain ⟨c, rfl, hc⟩ := hx.ec
    have hD' : D = 21 := by omega
    subst hD'
    have B0 := hide ((Below.refl _ w).alloc (Nat.le_refl _) (Obj.cells #[.int .i64 c.k, .int .i64 c.t, .bool c.s.a, .slice c.s.p c.s.n c.s.c, .bool c.s.d, .slice c.s.q c.s.m c.s.e, .slice c.p c.n c.c] 28))
    clear hx hc hD
    unfold EC.val
    go_enter Tryz.func32, Tryz.ntmps32
    go_wp2
    go_ret
    exact ⟨rfl, B0.out⟩
  | succ f ih =>
    intro n x v D w hf hD hx
    obtain ⟨m, rfl⟩ : ∃ m, n = m + 1 := by
      cases n with
      | zero => cases hx
      | succ m => exact ⟨m, rfl⟩
    obtain ⟨c, rfl, hc⟩ := hx.ec
    have hD0 : 0 ≤ D := by omega
    have hD1 : D ≤ 20 := by omega
    have HX := hide hx
    have HD := hide (show D + 1 = 21 - (f : Int) by omega)
    have IH := fun (y : ExV) (u : Value) (W : World) (h : ExAt m W u y) => hide (ih m y u (D + 1) W (by omega) HD.out h)
    have HN := hide hc.n
    have big := hc.big
    have room := hc.room
    have B0 := hide ((Below.refl _ w).alloc (Nat.le_refl _) (Obj.cells #[.int .i64 c.k, .int .i64 c.t, .bool c.s.a, .slice c.s.p c.s.n c.s.c, .bool c.s.d, .slice c.s.q c.s.m c.s.e, .slice c.p c.n c.c] 28))
    have E0 := hide (heap_new w (Obj.cells #[.int .i64 c.k, .int .i64 c.t, .bool c.s.a, .slice c.s.p c.s.n c.s.c, .bool c.s.d, .slice c.s.q c.s.m c.s.e, .slice c.p c.n c.c] 28))
    have HC := hide (deepX_step f x)
    generalize deepX (f + 1) x = R at HC ⊢
    clear hx hc ih hD hf
    unfold EC.val at *
    go_enter Tryz.func32, Tryz.ntmps32
    go_wp2
    go_loopw [5, 6] (fun a i wr => ∃ (k : Nat) (N : Int), a = .int .i64 N ∧ i = .int .i64 k ∧ k ≤ c.n ∧ 0 ≤ N ∧ N ≤ 20 ∧ Hid (((x.sub.take 100).drop k).foldl (maxF f) N = (x.sub.take 100).foldl (maxF f) 0) ∧ Hid (Below w.heap.size w wr) ∧ Hid (wr.heap[w.heap.size]? = some (Obj.cells #[.int .i64 c.k, .int .i64 c.t, .bool c.s.a, .slice c.s.p c.s.n c.s.c, .bool c.s.d, .slice c.s.q c.s.m c.s.e, .slice c.p c.n c.c] 28 (0, 0)))) (fun _ i _ => c.n - (intOf i).toNat)
    case atStart => exact ⟨0, 0, rfl, rfl, by omega, by omega, by omega, hide rfl, B0, E0⟩
    case round =>
      clear B0 E0
      obtain ⟨k, N, rfl, rfl, hk, hN0, hN1, HF, HB, HE⟩ := hrel
      obtain ⟨c0, c1, c2, c3, c4, c5, c6⟩ := ecCells HE.out
      by_cases hlt : k < c.n
      · by_cases hN : (k : Int) < 100
        · have hk' : k < x.sub.length := by rw [← HN.out]; exact hlt
          obtain ⟨g, off, d, hp, hg, hd, hy⟩ := (ExAt.on HB.out _ HX.out).part k hk'
          have F1 := HF.out
          rw [drop_getX _ _ (by rw [List.length_take]; omega), List.foldl_cons, take_getD _ _ (by omega), show maxF f N (x.sub.getD k noX) = max N (deepX f (x.sub.getD k noX)) from rfl] at F1
          have HF1 := hide F1
          have X := IH _ _ _ hy
          have q0 := deepX_pos f (x.sub.getD k noX)
          have q1 := deepX_le f (x.sub.getD k noX)
          generalize deepX f (x.sub.getD k noX) = q at *
          clear F1 HF hy IH HX
          obtain ⟨d0, d1, d2, d3, d4, d5, d6⟩ := hd
          unfold EC.val at X
          rw [hp] at c6 HE ⊢
          go_wp2_with fail
          refine (unhide X).mono ?_
          rintro r w2 ⟨rfl, b2⟩
          have HB2 := hide (HB.out.trans (b2.mono HB.out.size))
          have HE2 := hide ((b2.block _ (lt_heap HE.out)).trans HE.out)
          clear X b2 HB HE c0 c1 c2 c3 c4 c5 c6 d0 d1 d2 d3 d4 d5 d6
          go_wp2
          refine ⟨⟨k + 1, max N q, rfl, by go_num, by omega, by omega, by omega, HF1, HB2, HE2⟩, by simp [intOf]; omega⟩
        · have E : Hid (R = min (N + 1) 20) := hide (by
            rw [HC.out, ← HF.out, List.drop_eq_nil_of_le (by rw [List.length_take]; omega)]; rfl)
          have hd' : decide ((k : Int) < 100) = false := by simp; omega
          go_wp2
          go_ret
          exact ⟨ret_int E.out.symm, HB.out⟩
      · have E : Hid (R = min (N + 1) 20) := hide (by
          rw [HC.out, ← HF.out, List.drop_eq_nil_of_le (by rw [List.length_take]; have := HN.out; omega)]; rfl)
        have hge : decide ((k : Int) < (c.n : Int)) = false := by simp; omega
        go_wp2
        go_ret
        exact ⟨ret_int E.out.symm, HB.out⟩
end Go.Proofs.YtlfhpocfacaaeaaGreat
/-
  The fifth reference's sets, Few and Fits, walked.
-/
set_option linter.unusedSimpArgs false
set_option linter.unusedVariables false
namespace Go.Proofs.YtlfhpocfacaaeaaGreat
open Go.RowKit

def setsX : Nat → ExV → Bool
  | 0, _ => true
  | n + 1, x => fewB x.set && x.sub.all (setsX n)
def fewX (n : Nat) (x : ExV) : Bool := (decide (countX 21 x < 100) && decide (deepX 21 x < 20)) && setsX n x
theorem set_rowE {w : World} {s : SC} {A : SetV} (h : SetAt w s.val A) (n : Nat) (hn : n = w.heap.size) : SetsAt (w.alloc (.cells #[.bool s.a, .slice s.p s.n s.c, .bool s.d, .slice s.q s.m s.e] 25)) (.slice (some ⟨n, 0, none⟩) 1 1) [A] := by
  subst hn
  obtain ⟨x, y, z, t⟩ := h.scForm
  have := sets_one (vi := .slice s.p s.n s.c) (vs := .slice s.q s.m s.e) (A := A) (w := w) (by rw [← x, ← z]; exact h) _ rfl
  rw [x, z]
  exact this
theorem allX_step (n : Nat) (l : List ExV) (k : Nat) (h : k < l.length) : (l.drop k).all (setsX n) = (setsX n (l.getD k noX) && (l.drop (k + 1)).all (setsX n)) := by
  rw [drop_getX l k h, List.all_cons]

set_option maxHeartbeats 4000000 in
set_option maxRecDepth 100000 in
theorem refSets_any : ∀ (n : Nat) (x : ExV) (v : Value) (w : World), ExAt n w v x →
    Calls Tryz.prog 33 #[v] w fun r w' => r = .returned (.bool (setsX n x)) ∧ Below w.heap.size w w' := by
  intro n
  induction n with
  | zero => intro x v w h; cases h
  | succ n ih =>
    intro x v w hx
    obtain ⟨c, rfl, hc⟩ := hx.ec
    have HX := hide hx
    have IH := fun (y : ExV) (u : Value) (W : World) (h : ExAt n W u y) => hide (ih y u W h)
    have HN := hide hc.n
    have big := hc.big
    have room := hc.room
    have b0 := (Below.refl _ w).alloc (Nat.le_refl _) (Obj.cells #[.int .i64 c.k, .int .i64 c.t, .bool c.s.a, .slice c.s.p c.s.n c.s.c, .bool c.s.d, .slice c.s.q c.s.m c.s.e, .slice c.p c.n c.c] 28)
    have FW := hide (refFew_any _ _ _ (set_rowE (hc.s.on b0) (w.heap.size + 1) (by simp)))
    have b1 := b0.alloc b0.size (Obj.cells #[.bool c.s.a, .slice c.s.p c.s.n c.s.c, .bool c.s.d, .slice c.s.q c.s.m c.s.e] 25)
    have E1 := hide (((Below.refl _ _).alloc (Nat.le_refl _) (Obj.cells #[.bool c.s.a, .slice c.s.p c.s.n c.s.c, .bool c.s.d, .slice c.s.q c.s.m c.s.e] 25)).block _ (lt_heap (heap_new w (Obj.cells #[.int .i64 c.k, .int .i64 c.t, .bool c.s.a, .slice c.s.p c.s.n c.s.c, .bool c.s.d, .slice c.s.q c.s.m c.s.e, .slice c.p c.n c.c] 28)) ) |>.trans (heap_new w (Obj.cells #[.int .i64 c.k, .int .i64 c.t, .bool c.s.a, .slice c.s.p c.s.n c.s.c, .bool c.s.d, .slice c.s.q c.s.m c.s.e, .slice c.p c.n c.c] 28)))
    have B1 := hide b1
    have HC : Hid (setsX (n + 1) x = (fewB x.set && x.sub.all (setsX n))) := hide rfl
    rw [show ([x.set] : List SetV).all fewB = fewB x.set by simp] at FW
    generalize setsX (n + 1) x = R at HC ⊢
    generalize fewB x.set = q at HC FW
    clear hx hc ih b0 b1
    unfold EC.val at *
    go_enter Tryz.func33, Tryz.ntmps33
    go_wp2_with fail
    refine (unhide FW).mono ?_
    rintro r w2 ⟨rfl, rfl⟩
    cases q
    · have E : Hid (R = false) := hide (by rw [HC.out, Bool.false_and])
      clear FW
      go_wp2
      go_ret
      exact ⟨ret_bool E.out.symm, B1.out⟩
    · have HC1 := hide (HC.out.trans (Bool.true_and _))
      clear FW HC
      generalize (w.alloc (Obj.cells #[.int .i64 c.k, .int .i64 c.t, .bool c.s.a, .slice c.s.p c.s.n c.s.c, .bool c.s.d, .slice c.s.q c.s.m c.s.e, .slice c.p c.n c.c] 28)).alloc (Obj.cells #[.bool c.s.a, .slice c.s.p c.s.n c.s.c, .bool c.s.d, .slice c.s.q c.s.m c.s.e] 25) = w1 at E1 B1 ⊢
      go_wp2
      go_loopw [3] (fun i wr => ∃ k : Nat, i = .int .i64 k ∧ k ≤ c.n ∧ Hid ((x.sub.drop k).all (setsX n) = x.sub.all (setsX n)) ∧ Hid (Below w.heap.size w wr) ∧ Hid (wr.heap[w.heap.size]? = some (Obj.cells #[.int .i64 c.k, .int .i64 c.t, .bool c.s.a, .slice c.s.p c.s.n c.s.c, .bool c.s.d, .slice c.s.q c.s.m c.s.e, .slice c.p c.n c.c] 28 (0, 0)))) (fun i _ => c.n - (intOf i).toNat)
      case atStart => exact ⟨0, rfl, by omega, hide rfl, B1, E1⟩
      case round =>
        clear B1 E1
        obtain ⟨k, rfl, hk, HF, HB, HE⟩ := hrel
        obtain ⟨c0, c1, c2, c3, c4, c5, c6⟩ := ecCells HE.out
        by_cases hlt : k < c.n
        · have hk' : k < x.sub.length := by rw [← HN.out]; exact hlt
          obtain ⟨g, off, d, hp, hg, hd, hy⟩ := (ExAt.on HB.out _ HX.out).part k hk'
          have F1 := HF.out
          rw [allX_step n _ k hk'] at F1
          have HF1 := hide F1
          have X := IH _ _ _ hy
          generalize setsX n (x.sub.getD k noX) = q at *
          clear F1 HF hy IH HX
          obtain ⟨d0, d1, d2, d3, d4, d5, d6⟩ := hd
          unfold EC.val at X
          rw [hp] at c6 HE ⊢
          go_wp2_with fail
          refine (unhide X).mono ?_
          rintro r w2 ⟨rfl, b2⟩
          have HB2 := hide (HB.out.trans (b2.mono HB.out.size))
          have HE2 := hide ((b2.block _ (lt_heap HE.out)).trans HE.out)
          clear X b2 HB HE c0 c1 c2 c3 c4 c5 c6 d0 d1 d2 d3 d4 d5 d6
          cases q
          · have E : Hid (R = false) := hide (by rw [HC1.out, ← HF1.out, Bool.false_and])
            go_wp2
            go_ret
            exact ⟨ret_bool E.out.symm, HB2.out⟩
          · have HF2 := hide ((Bool.true_and _).symm.trans HF1.out)
            go_wp2
            exact ⟨⟨k + 1, by go_num, by omega, HF2, HB2, HE2⟩, by simp [intOf]; omega⟩
        · have E : Hid (R = true) := hide (by
            rw [HC1.out, ← HF.out, List.drop_eq_nil_of_le (by have := HN.out; omega)]; rfl)
          have hge : decide ((k : Int) < (c.n : Int)) = false := by simp; omega
          go_wp2
          go_ret
          exact ⟨ret_bool E.out.symm, HB.out⟩

set_option maxHeartbeats 4000000 in
set_option maxRecDepth 100000 in
theorem refFewX_any (n : Nat) (x : ExV) (v : Value) (w : World) (hx : ExAt n w v x) :
    Calls Tryz.prog 11 #[v] w fun r w' => r = .returned (.bool (fewX n x)) ∧ Below w.heap.size w w' := by
  have CC := fun (W : World) (hb : Below w.heap.size w W) => hide (refCount_any 21 n x v 0 W (by omega) (by omega) (ExAt.on hb _ hx))
  have CD := fun (W : World) (hb : Below w.heap.size w W) => hide (refDeep_any 21 n x v 0 W (by omega) (by omega) (ExAt.on hb _ hx))
  have CS := fun (W : World) (hb : Below w.heap.size w W) => hide (refSets_any n x v W (ExAt.on hb _ hx))
  have HC : Hid (fewX n x = ((decide (countX 21 x < 100) && decide (deepX 21 x < 20)) && setsX n x)) := hide rfl
  generalize fewX n x = R at HC ⊢
  generalize countX 21 x = p at HC CC
  generalize deepX 21 x = q at HC CD
  generalize setsX n x = s at HC CS
  obtain ⟨c, rfl, hc⟩ := hx.ec
  have b0 := (Below.refl _ w).alloc (Nat.le_refl _) (Obj.cells #[.int .i64 c.k, .int .i64 c.t, .bool c.s.a, .slice c.s.p c.s.n c.s.c, .bool c.s.d, .slice c.s.q c.s.m c.s.e, .slice c.p c.n c.c] 28)
  have E0 := heap_new w (Obj.cells #[.int .i64 c.k, .int .i64 c.t, .bool c.s.a, .slice c.s.p c.s.n c.s.c, .bool c.s.d, .slice c.s.q c.s.m c.s.e, .slice c.p c.n c.c] 28)
  have HB0 := hide b0
  have HE0 := hide E0
  have X := CC _ b0
  clear hx hc b0 E0
  unfold EC.val at *
  go_enter Tryz.func11, Tryz.ntmps11
  go_wp2_with fail
  refine (unhide X).mono ?_
  rintro r w1 ⟨rfl, b1⟩
  have HB1 := hide (HB0.out.trans (b1.mono HB0.out.size))
  have HE1 := hide ((b1.block _ (lt_heap HE0.out)).trans HE0.out)
  clear X b1 HB0 HE0 CC
  by_cases hp : p < 100
  · have hp' : decide (100 ≤ p) = false := by simp; omega
    obtain ⟨c0, c1, c2, c3, c4, c5, c6⟩ := ecCells HE1.out
    have Y := CD _ HB1.out
    go_wp2_with fail
    refine (unhide Y).mono ?_
    rintro r w2 ⟨rfl, b2⟩
    have HB2 := hide (HB1.out.trans (b2.mono HB1.out.size))
    have HE2 := hide ((b2.block _ (lt_heap HE1.out)).trans HE1.out)
    clear Y b2 HB1 HE1 CD c0 c1 c2 c3 c4 c5 c6
    by_cases hq : q < 20
    · have hq' : decide (20 ≤ q) = false := by simp; omega
      obtain ⟨c0, c1, c2, c3, c4, c5, c6⟩ := ecCells HE2.out
      have Z := CS _ HB2.out
      have E : Hid (R = s) := hide (by rw [HC.out, decide_eq_true hp, decide_eq_true hq]; rfl)
      go_wp2_with fail
      refine (unhide Z).mono ?_
      rintro r w3 ⟨rfl, b3⟩
      have HB3 := hide (HB2.out.trans (b3.mono HB2.out.size))
      clear Z b3
      go_wp2
      go_ret
      exact ⟨ret_bool E.out.symm, HB3.out⟩
    · have hq' : decide (20 ≤ q) = true := by simp; omega
      have E : Hid (R = false) := hide (by rw [HC.out, decide_eq_false hq, Bool.and_false, Bool.false_and])
      go_wp2
      go_ret
      exact ⟨ret_bool E.out.symm, HB2.out⟩
  · have hp' : decide (100 ≤ p) = true := by simp; omega
    have E : Hid (R = false) := hide (by rw [HC.out, decide_eq_false hp, Bool.false_and, Bool.false_and])
    go_wp2
    go_ret
    exact ⟨ret_bool E.out.symm, HB1.out⟩

set_option maxHeartbeats 4000000 in
set_option maxRecDepth 100000 in
theorem refFits_any (n : Nat) (x : ExV) (v : Value) (w : World) (hx : ExAt n w v x) :
    Calls Tryz.prog 69 #[v] w fun r w' => r = .returned (.bool (fitsX x)) ∧ Below w.heap.size w w' := by
  have CC := fun (W : World) (hb : Below w.heap.size w W) => hide (refCount_any 21 n x v 0 W (by omega) (by omega) (ExAt.on hb _ hx))
  have CD := fun (W : World) (hb : Below w.heap.size w W) => hide (refDeep_any 21 n x v 0 W (by omega) (by omega) (ExAt.on hb _ hx))
  have HC : Hid (fitsX x = (decide (countX 21 x ≤ 40) && decide (deepX 21 x ≤ 8))) := hide rfl
  generalize fitsX x = R at HC ⊢
  generalize countX 21 x = p at HC CC
  generalize deepX 21 x = q at HC CD
  obtain ⟨c, rfl, hc⟩ := hx.ec
  have b0 := (Below.refl _ w).alloc (Nat.le_refl _) (Obj.cells #[.int .i64 c.k, .int .i64 c.t, .bool c.s.a, .slice c.s.p c.s.n c.s.c, .bool c.s.d, .slice c.s.q c.s.m c.s.e, .slice c.p c.n c.c] 28)
  have E0 := heap_new w (Obj.cells #[.int .i64 c.k, .int .i64 c.t, .bool c.s.a, .slice c.s.p c.s.n c.s.c, .bool c.s.d, .slice c.s.q c.s.m c.s.e, .slice c.p c.n c.c] 28)
  have HB0 := hide b0
  have HE0 := hide E0
  have X := CC _ b0
  clear hx hc b0 E0
  unfold EC.val at *
  go_enter Tryz.func69, Tryz.ntmps69
  go_wp2_with fail
  refine (unhide X).mono ?_
  rintro r w1 ⟨rfl, b1⟩
  have HB1 := hide (HB0.out.trans (b1.mono HB0.out.size))
  have HE1 := hide ((b1.block _ (lt_heap HE0.out)).trans HE0.out)
  clear X b1 HB0 HE0 CC
  by_cases hp : p ≤ 40
  · have hp' : decide (p ≤ 40) = true := by simp; omega
    obtain ⟨c0, c1, c2, c3, c4, c5, c6⟩ := ecCells HE1.out
    have Y := CD _ HB1.out
    have E : Hid (R = decide (q ≤ 8)) := hide (by rw [HC.out, decide_eq_true hp]; rfl)
    go_wp2_with fail
    refine (unhide Y).mono ?_
    rintro r w2 ⟨rfl, b2⟩
    have HB2 := hide (HB1.out.trans (b2.mono HB1.out.size))
    clear Y b2
    go_wp2
    go_ret
    exact ⟨ret_bool E.out.symm, HB2.out⟩
  · have hp' : decide (p ≤ 40) = false := by simp; omega
    have E : Hid (R = false) := hide (by rw [HC.out, decide_eq_false hp, Bool.false_and])
    go_wp2
    go_ret
    exact ⟨ret_bool E.out.symm, HB1.out⟩
end Go.Proofs.YtlfhpocfacaaeaaGreat
/-
  The walk of the third reference's Same.
-/
set_option linter.unusedSimpArgs false
set_option linter.unusedVariables false
namespace Go.Proofs.YtlfhpocfacaaeaaGreat
open Go.RowKit

set_option maxHeartbeats 4000000 in
set_option maxRecDepth 100000 in
theorem refSame_any (v u : Value) (A B : SetV) (w : World) (hv : SetAt w v A) (hu : SetAt w u B) :
    Calls Tryz.prog 74 #[v, u] w fun r w' => r = .returned (.bool (sameB A B)) ∧ Below w.heap.size w w' := by
  obtain ⟨vi, vs, rfl, hI, hS⟩ := hv
  obtain ⟨ui, us, rfl, hJ, hT⟩ := hu
  obtain ⟨ai, ci, rfl⟩ := hI.form
  obtain ⟨aq, cq, rfl⟩ := hS.form
  obtain ⟨bi, di, rfl⟩ := hJ.form
  obtain ⟨bq, dq, rfl⟩ := hT.form
  obtain ⟨sa, si, sc, ss⟩ := A
  obtain ⟨ta, ti, tc, ts⟩ := B
  dsimp only at *
  have HI := hide hI
  have HS := hide hS
  have HJ := hide hJ
  have HT := hide hT
  have nIle := hI.2.1
  have nSle := hS.2.1
  have nJle := hJ.2.1
  have nTle := hT.2.1
  clear hI hS hJ hT
  unfold sameB
  dsimp only
  have lI := rngEqB_len si ti
  have lS := strEqB_len ss ts
  obtain ⟨nI, hnI⟩ : ∃ n : Nat, n = si.length := ⟨_, rfl⟩
  obtain ⟨nS, hnS⟩ : ∃ n : Nat, n = ss.length := ⟨_, rfl⟩
  obtain ⟨nJ, hnJ⟩ : ∃ n : Nat, n = ti.length := ⟨_, rfl⟩
  obtain ⟨nT, hnT⟩ : ∃ n : Nat, n = ts.length := ⟨_, rfl⟩
  rw [← hnI] at nIle lI ⊢
  rw [← hnS] at nSle lS ⊢
  rw [← hnJ] at nJle lI ⊢
  rw [← hnT] at nTle lS ⊢
  have HnI := hide hnI
  have HnS := hide hnS
  have HnJ := hide hnJ
  have HnT := hide hnT
  have LI := hide lI
  have LS := hide lS
  clear hnI hnS hnJ hnT lI lS
  have ba := fun (o1 o2 : Obj) => hide (two_boxes w o1 o2)
  have hta : ta = sa ∨ ta = !sa := by cases ta <;> cases sa <;> simp
  rcases hta with rfl | rfl
  · have htc : tc = sc ∨ tc = !sc := by cases tc <;> cases sc <;> simp
    rcases htc with rfl | rfl
    · by_cases eI : nI = nJ
      · by_cases eS : nS = nT
        · subst eI
          subst eS
          have b1 : ((nI : Int) != (nI : Int)) = false := by simp
          have b2 : ((nS : Int) != (nS : Int)) = false := by simp
          go_enter Tryz.func74, Tryz.ntmps74
          go_wp2
          obtain ⟨e1, e2, e3⟩ := (ba (.cells #[.bool ta, .slice ai nI ci, .bool tc, .slice aq nS cq] 25) (.cells #[.bool ta, .slice bi nI di, .bool tc, .slice bq nS dq] 25)).out
          have E1 := hide e1
          have E2 := hide e2
          have E3 := hide e3
          clear e1 e2 e3 ba
          go_loopw [5] (fun i wr => ∃ k : Nat, i = .int .i64 k ∧ k ≤ nI ∧ Hid (rngEqB (si.drop k) (ti.drop k) = rngEqB si ti) ∧ Hid (wr.heap[w.heap.size]? = some (.cells #[.bool ta, .slice ai nI ci, .bool tc, .slice aq nS cq] 25 (0, 0))) ∧ Hid (wr.heap[w.heap.size + 1]? = some (.cells #[.bool ta, .slice bi nI di, .bool tc, .slice bq nS dq] 25 (0, 0))) ∧ Hid (Below w.heap.size w wr)) (fun i _ => nI - (intOf i).toNat)
          case atStart => exact ⟨0, rfl, by omega, hide rfl, E1, E2, E3⟩
          case round =>
            clear E1 E2 E3
            obtain ⟨k, rfl, hk, HG, H1, H2, HB⟩ := hrel
            have c1 := cell_heap H1.out 1
            have c3 := cell_heap H1.out 3
            have d1 := cell_heap H2.out 1
            have d3 := cell_heap H2.out 3
            simp only [List.getElem?_toArray, List.getElem?_cons_zero, List.getElem?_cons_succ] at c1 c3 d1 d3
            by_cases hlt : k < nI
            · have hk1 : k < si.length := by rw [← HnI.out]; exact hlt
              have hk2 : k < ti.length := by rw [← HnJ.out]; exact hlt
              obtain ⟨b, off, rfl, hb, x0, x1⟩ := (HI.out.on HB.out).at.2 k hk1
              obtain ⟨b', off', rfl, hb', y0, y1⟩ := (HJ.out.on HB.out).at.2 k hk2
              have G0 := HG.out
              rw [drop_getD si k (0, 0) hk1, drop_getD ti k (0, 0) hk2] at G0
              generalize si.getD k (0, 0) = r at *
              generalize ti.getD k (0, 0) = q at *
              simp only [rngEqB] at G0
              have G1 := hide G0
              clear G0 HG
              cases f1 : (r.1 == q.1)
              · have G2 : Hid (rngEqB si ti = false) := hide (by rw [← G1.out, f1]; rfl)
                clear G1
                go_wp2
                go_quiet (fail)
                go_wp2
                go_ret
                exact ⟨ret_bool (by rw [G2.out]; simp), below_drewN HB.out _⟩
              · cases f2 : (r.2 == q.2)
                · have G2 : Hid (rngEqB si ti = false) := hide (by rw [← G1.out, f1, f2]; rfl)
                  clear G1
                  go_wp2
                  go_quiet (fail)
                  go_wp2
                  go_ret
                  exact ⟨ret_bool (by rw [G2.out]; simp), below_drewN HB.out _⟩
                · have G2 : Hid (rngEqB (si.drop (k + 1)) (ti.drop (k + 1)) = rngEqB si ti) := hide (by rw [← G1.out, f1, f2]; rfl)
                  clear G1
                  go_wp2
                  go_quiet (fail)
                  go_wp2
                  exact ⟨⟨k + 1, by go_num, by omega, G2, H1, H2, hide (below_drewN HB.out _)⟩, by simp [intOf]; omega⟩
            · have hge : (nI : Int) ≤ (k : Int) := by omega
              have G2 : Hid (rngEqB si ti = true) := hide (by
                rw [← HG.out, List.drop_eq_nil_of_le (by have := HnI.out; omega), List.drop_eq_nil_of_le (by have := HnJ.out; omega)]; rfl)
              clear HG
              go_wp2
              go_loopw [6] (fun i wr => ∃ k : Nat, i = .int .i64 k ∧ k ≤ nS ∧ Hid (strEqB (ss.drop k) (ts.drop k) = strEqB ss ts) ∧ Hid (wr.heap[w.heap.size]? = some (.cells #[.bool ta, .slice ai nI ci, .bool tc, .slice aq nS cq] 25 (0, 0))) ∧ Hid (wr.heap[w.heap.size + 1]? = some (.cells #[.bool ta, .slice bi nI di, .bool tc, .slice bq nS dq] 25 (0, 0))) ∧ Hid (Below w.heap.size w wr)) (fun i _ => nS - (intOf i).toNat)
              case atStart => exact ⟨0, rfl, by omega, hide rfl, H1, H2, HB⟩
              case round =>
                clear H1 H2 HB c1 c3 d1 d3 hge hlt hk
                obtain ⟨j, rfl, hj, HG, H1, H2, HB⟩ := hrel
                have c1 := cell_heap H1.out 1
                have c3 := cell_heap H1.out 3
                have d1 := cell_heap H2.out 1
                have d3 := cell_heap H2.out 3
                simp only [List.getElem?_toArray, List.getElem?_cons_zero, List.getElem?_cons_succ] at c1 c3 d1 d3
                by_cases hlt : j < nS
                · have hj1 : j < ss.length := by rw [← HnS.out]; exact hlt
                  have hj2 : j < ts.length := by rw [← HnT.out]; exact hlt
                  obtain ⟨b, off, rfl, hb, x0⟩ := (HS.out.on HB.out).at.2 j hj1
                  obtain ⟨b', off', rfl, hb', y0⟩ := (HT.out.on HB.out).at.2 j hj2
                  have G0 := HG.out
                  rw [drop_getD ss j ⟨#[]⟩ hj1, drop_getD ts j ⟨#[]⟩ hj2] at G0
                  generalize ss.getD j ⟨#[]⟩ = r at *
                  generalize ts.getD j ⟨#[]⟩ = q at *
                  simp only [strEqB] at G0
                  have G1 := hide G0
                  clear G0 HG
                  cases f1 : (r.toList == q.toList)
                  · have G3 : Hid (strEqB ss ts = false) := hide (by rw [← G1.out, f1]; rfl)
                    clear G1
                    go_wp2
                    go_quiet (fail)
                    go_wp2
                    go_ret
                    exact ⟨ret_bool (by rw [G3.out]; simp), below_drewN HB.out _⟩
                  · have G3 : Hid (strEqB (ss.drop (j + 1)) (ts.drop (j + 1)) = strEqB ss ts) := hide (by rw [← G1.out, f1]; rfl)
                    clear G1
                    go_wp2
                    go_quiet (fail)
                    go_wp2
                    exact ⟨⟨j + 1, by go_num, by omega, G3, H1, H2, hide (below_drewN HB.out _)⟩, by simp [intOf]; omega⟩
                · have hge : (nS : Int) ≤ (j : Int) := by omega
                  have G3 : Hid (strEqB ss ts = true) := hide (by
                    rw [← HG.out, List.drop_eq_nil_of_le (by have := HnS.out; omega), List.drop_eq_nil_of_le (by have := HnT.out; omega)]; rfl)
                  clear HG
                  go_wp2
                  go_ret
                  exact ⟨ret_bool (by rw [G2.out, G3.out]; simp), HB.out⟩
        · have b2 : ((nS : Int) != (nT : Int)) = true := by rw [bne_iff_ne]; omega
          have G := hide (LS.out eS)
          subst eI
          go_enter Tryz.func74, Tryz.ntmps74
          go_wp2
          go_ret
          exact ⟨ret_bool (by rw [G.out]; simp), (ba _ _).out.2.2⟩
      · have b1 : ((nI : Int) != (nJ : Int)) = true := by rw [bne_iff_ne]; omega
        have G := hide (LI.out eI)
        go_enter Tryz.func74, Tryz.ntmps74
        go_wp2
        go_ret
        exact ⟨ret_bool (by rw [G.out]; simp), (ba _ _).out.2.2⟩
    · go_enter Tryz.func74, Tryz.ntmps74
      go_wp2
      go_ret
      exact ⟨ret_bool (by cases sc <;> simp), (ba _ _).out.2.2⟩
  · go_enter Tryz.func74, Tryz.ntmps74
    go_wp2
    go_ret
    exact ⟨ret_bool (by cases sa <;> simp), (ba _ _).out.2.2⟩
end Go.Proofs.YtlfhpocfacaaeaaGreat
/-
  The fifth reference's each and Right, walked; the third one's Small.
-/
set_option linter.unusedSimpArgs false
set_option linter.unusedVariables false
namespace Go.Proofs.YtlfhpocfacaaeaaGreat
open Go.RowKit

set_option maxHeartbeats 4000000 in
set_option maxRecDepth 100000 in
theorem refSmall_any (v : Value) (S : SetV) (w : World) (hv : SetAt w v S) :
    Calls Tryz.prog 79 #[v] w fun r w' => r = .returned (.bool (smallB S)) ∧ Below w.heap.size w w' := by
  obtain ⟨vi, vs, rfl, hI, hS⟩ := hv
  obtain ⟨ai, ci, rfl⟩ := hI.form
  obtain ⟨aq, cq, rfl⟩ := hS.form
  have B0 := fun (o : Obj) => hide ((Below.refl _ w).alloc (Nat.le_refl _) o)
  have n1 := hI.2.1
  have n2 := hS.2.1
  unfold smallB
  clear hI hS
  generalize S.ints.length = a at *
  generalize S.strs.length = b at *
  by_cases h1 : a ≤ 6
  · have e1 : decide ((a : Int) ≤ 6) = true := decide_eq_true (by omega)
    have e1' : decide (a ≤ 6) = true := decide_eq_true h1
    go_enter Tryz.func79, Tryz.ntmps79
    go_wp2
    go_ret
    exact ⟨ret_bool (by rw [e1', Bool.true_and]; exact decide_eq_decide.2 (by omega)), (B0 _).out⟩
  · have e1 : decide ((a : Int) ≤ 6) = false := decide_eq_false (by omega)
    have e1' : decide (a ≤ 6) = false := decide_eq_false h1
    go_enter Tryz.func79, Tryz.ntmps79
    go_wp2
    go_ret
    exact ⟨ret_bool (by rw [e1', Bool.false_and]), (B0 _).out⟩

theorem eachL_step (n : Nat) (l : List ExV) (k : Nat) (h : k < l.length) : (l.drop k).all (eachX n) = (eachX n (l.getD k noX) && (l.drop (k + 1)).all (eachX n)) := by
  rw [drop_getX l k h, List.all_cons]

structure XAt1 (w W : World) (c : EC) : Prop where
  x : W.heap[w.heap.size]? = some (Obj.cells #[.int .i64 c.k, .int .i64 c.t, .bool c.s.a, .slice c.s.p c.s.n c.s.c, .bool c.s.d, .slice c.s.q c.s.m c.s.e, .slice c.p c.n c.c] 28 (0, 0))
  b : Below w.heap.size w W
theorem XAt1.new (w : World) (c : EC) : XAt1 w (w.alloc (Obj.cells #[.int .i64 c.k, .int .i64 c.t, .bool c.s.a, .slice c.s.p c.s.n c.s.c, .bool c.s.d, .slice c.s.q c.s.m c.s.e, .slice c.p c.n c.c] 28)) c := ⟨heap_new w _, (Below.refl _ w).alloc (Nat.le_refl _) _⟩
theorem XAt1.on {w W W' : World} {c : EC} (h : XAt1 w W c) (hb : Below W.heap.size W W') : XAt1 w W' c := ⟨(hb.block _ (lt_heap h.x)).trans h.x, h.b.trans (hb.mono h.b.size)⟩
theorem nodeX_1 {x : ExV} (hk : x.kind = 1) : nodeX x = (decide (0 ≤ x.attr ∧ x.attr ≤ 3 ∧ x.sub.length = 0) && (rightSet x.set && smallB x.set)) := by unfold nodeX; rw [if_pos hk]
theorem nodeX_2 {x : ExV} (hk : x.kind = 2 ∨ x.kind = 3 ∨ x.kind = 4) : nodeX x = ((decide (x.attr = 0) && sameB x.set noSet) && decide (x.kind = 4 → x.sub.length = 1)) := by unfold nodeX; rw [if_neg (by omega), if_pos hk]
theorem nodeX_3 {x : ExV} (h1 : ¬ x.kind = 1) (hk : ¬ (x.kind = 2 ∨ x.kind = 3 ∨ x.kind = 4)) : nodeX x = false := by unfold nodeX; rw [if_neg h1, if_neg hk]

set_option maxHeartbeats 8000000 in
set_option maxRecDepth 100000 in
theorem refEach_atom (n : Nat) (x : ExV) (c : EC) (w : World) (hx : ExAt (n + 1) w c.val x) (hk : x.kind = 1) :
    Calls Tryz.prog 70 #[c.val] w fun r w' => r = .returned (.bool (eachX (n + 1) x)) ∧ Below w.heap.size w w' := by
  obtain ⟨c', hv, hc, _⟩ := id hx
  obtain rfl := ec_inj hv
  have ek : (c.k == 1) = true := by rw [hc.k, hk]; rfl
  have HC : Hid (eachX (n + 1) x = ((decide (0 ≤ x.attr ∧ x.attr ≤ 3 ∧ x.sub.length = 0) && (rightSet x.set && smallB x.set)) && x.sub.all (eachX n))) := hide (by rw [← nodeX_1 hk]; rfl)
  rw [← hc.t, ← hc.n] at HC
  have HN := hide hc.n
  have HT := hide (XAt1.new w c)
  have RS := fun (W : World) (hb : Below w.heap.size w W) => hide (refRightSet_any _ _ W (hc.s.on hb))
  have RM := fun (W : World) (hb : Below w.heap.size w W) => hide (refSmall_any _ _ W (hc.s.on hb))
  have big := hc.big
  have room := hc.room
  generalize eachX (n + 1) x = R at HC ⊢
  clear hx hv hc hk
  unfold SC.val at RS RM
  unfold EC.val
  by_cases a0 : c.t < 0
  · have d0 : decide (c.t < 0) = true := decide_eq_true a0
    have E : Hid (R = false) := hide (by rw [HC.out, decide_eq_false (by omega)]; rfl)
    clear HC RS RM
    go_enter Tryz.func70, Tryz.ntmps70
    go_wp2
    go_ret
    exact ⟨ret_bool E.out.symm, HT.out.b⟩
  · have d0 : decide (c.t < 0) = false := decide_eq_false a0
    by_cases a3 : 3 < c.t
    · have d3 : decide (3 < c.t) = true := decide_eq_true a3
      have E : Hid (R = false) := hide (by rw [HC.out, decide_eq_false (by omega)]; rfl)
      clear HC RS RM
      go_enter Tryz.func70, Tryz.ntmps70
      go_wp2
      go_ret
      exact ⟨ret_bool E.out.symm, HT.out.b⟩
    · have d3 : decide (3 < c.t) = false := decide_eq_false a3
      by_cases hl : c.n = 0
      · have dl : decide ((0 : Int) < (c.n : Int)) = false := decide_eq_false (by omega)
        have E0 : Hid (R = (rightSet x.set && smallB x.set)) := hide (by
          have : x.sub = [] := List.length_eq_zero_iff.1 (by rw [← HN.out]; exact hl)
          rw [HC.out, decide_eq_true ⟨by omega, by omega, hl⟩, this]
          simp)
        rw [hl] at HT ⊢
        have C6 : Hid (∀ W : World, W.cell? ⟨w.heap.size, 6, none⟩ = some (.slice c.p c.n c.c) → W.cell? ⟨w.heap.size, 6, none⟩ = some (.slice c.p 0 c.c)) := hide (fun W h => by rw [h, hl])
        clear HC hl dl
        generalize rightSet x.set = q1 at RS E0
        generalize smallB x.set = q2 at RM E0
        go_enter Tryz.func70, Tryz.ntmps70
        go_wp2_with fail
        refine (unhide (RS _ HT.out.b)).mono ?_
        rintro r w1 ⟨rfl, b1⟩
        have HT1 := hide (HT.out.on b1)
        obtain ⟨c0, c1, c2, c3, c4, c5, c6⟩ := ecCells HT1.out.x
        replace c6 := C6.out _ c6
        clear RS b1 HT
        cases q1
        · have E : Hid (R = false) := hide E0.out
          clear E0 RM C6
          go_wp2
          go_ret
          exact ⟨ret_bool E.out.symm, HT1.out.b⟩
        · have E1 : Hid (R = q2) := hide E0.out
          clear E0
          go_wp2_with fail
          refine (unhide (RM _ HT1.out.b)).mono ?_
          rintro r w2 ⟨rfl, b2⟩
          have HT2 := hide (HT1.out.on b2)
          clear RM b2 HT1 c0 c1 c2 c3 c4 c5 c6
          obtain ⟨c0, c1, c2, c3, c4, c5, c6⟩ := ecCells HT2.out.x
          replace c6 := C6.out _ c6
          cases q2
          · go_wp2
            go_ret
            exact ⟨ret_bool E1.out.symm, HT2.out.b⟩
          · go_wp2
            go_loopw [3] (fun i wr => i = .int .i64 0 ∧ wr = w2) (fun i _ => 0)
            case atStart => exact ⟨rfl, rfl⟩
            case round =>
              obtain ⟨rfl, rfl⟩ := hrel
              go_wp2
              go_ret
              exact ⟨ret_bool E1.out.symm, HT2.out.b⟩
      · have dl : decide ((0 : Int) < (c.n : Int)) = true := decide_eq_true (by omega)
        have E : Hid (R = false) := hide (by rw [HC.out, decide_eq_false (by omega)]; rfl)
        clear HC RS RM
        go_enter Tryz.func70, Tryz.ntmps70
        go_wp2
        go_ret
        exact ⟨ret_bool E.out.symm, HT.out.b⟩
set_option maxHeartbeats 8000000 in
set_option maxRecDepth 100000 in
theorem refEach_none (n : Nat) (x : ExV) (c : EC) (w : World) (hx : ExAt (n + 1) w c.val x) (h1 : ¬ x.kind = 1) (hk : ¬ (x.kind = 2 ∨ x.kind = 3 ∨ x.kind = 4)) :
    Calls Tryz.prog 70 #[c.val] w fun r w' => r = .returned (.bool (eachX (n + 1) x)) ∧ Below w.heap.size w w' := by
  obtain ⟨c', hv, hc, _⟩ := id hx
  obtain rfl := ec_inj hv
  have e1 : (c.k == 1) = false := by rw [hc.k]; simpa using h1
  have e2 : (c.k == 2) = false := by rw [hc.k]; simp; omega
  have e3 : (c.k == 3) = false := by rw [hc.k]; simp; omega
  have e4 : (c.k == 4) = false := by rw [hc.k]; simp; omega
  have E : Hid (eachX (n + 1) x = false) := hide (by show (nodeX x && _) = false; rw [nodeX_3 h1 hk]; rfl)
  have HT := hide (XAt1.new w c)
  generalize eachX (n + 1) x = R at E ⊢
  clear hx hv hc h1 hk
  unfold EC.val
  go_enter Tryz.func70, Tryz.ntmps70
  go_wp2
  go_ret
  exact ⟨ret_bool E.out.symm, HT.out.b⟩
set_option maxHeartbeats 8000000 in
set_option maxRecDepth 100000 in
theorem refEach_many (n : Nat) (x : ExV) (c : EC) (w : World) (hx : ExAt (n + 1) w c.val x) (hk : x.kind = 2 ∨ x.kind = 3 ∨ x.kind = 4)
    (IH : ∀ (y : ExV) (d : EC) (W : World), ExAt n W d.val y → Calls Tryz.prog 70 #[d.val] W fun r W' => r = .returned (.bool (eachX n y)) ∧ Below W.heap.size W W') :
    Calls Tryz.prog 70 #[c.val] w fun r w' => r = .returned (.bool (eachX (n + 1) x)) ∧ Below w.heap.size w w' := by
  obtain ⟨c', hv, hc, _⟩ := id hx
  obtain rfl := ec_inj hv
  have HC : Hid (eachX (n + 1) x = (((decide (x.attr = 0) && sameB x.set noSet) && decide (x.kind = 4 → x.sub.length = 1)) && x.sub.all (eachX n))) := hide (by rw [← nodeX_2 hk]; rfl)
  rw [← hc.t, ← hc.n, ← hc.k] at HC
  rw [← hc.k] at hk
  have HX := hide hx
  have HI := hide IH
  have HN := hide hc.n
  have HT := hide (XAt1.new w c)
  have RS := fun (W : World) (hb : Below w.heap.size w W) => hide (refSame_any _ _ _ _ W (hc.s.on hb) (noSet_at W))
  have big := hc.big
  have room := hc.room
  generalize eachX (n + 1) x = R at HC ⊢
  have e1 : (c.k == 1) = false := by simp; omega
  have hks : ((c.k == 2) = true ∧ (c.k == 4) = false) ∨ ((c.k == 2) = false ∧ (c.k == 3) = true ∧ (c.k == 4) = false) ∨ ((c.k == 2) = false ∧ (c.k == 3) = false ∧ (c.k == 4) = true) := by
    rcases hk with h | h | h
    · left; simp [h]
    · right; left; simp [h]
    · right; right; simp [h]
  clear hx hv hc IH
  unfold SC.val at RS
  unfold EC.val
  by_cases a0 : c.t = 0
  · have d0 : (c.t != 0) = false := by simp [a0]
    generalize sameB x.set noSet = q at RS HC
    cases q
    · have E : Hid (R = false) := hide (by rw [HC.out, Bool.and_false, Bool.false_and, Bool.false_and])
      clear HC a0 hk HX HI
      rcases hks with ⟨e2, e4⟩ | ⟨e2, e3, e4⟩ | ⟨e2, e3, e4⟩
      all_goals
        go_enter Tryz.func70, Tryz.ntmps70
        go_wp2_with fail
        refine (unhide (RS _ HT.out.b)).mono ?_
        rintro r w1 ⟨rfl, b1⟩
        have HT1 := hide (HT.out.on b1)
        clear RS b1 HT
        go_wp2
        go_ret
        exact ⟨ret_bool E.out.symm, HT1.out.b⟩
    · by_cases hq : c.k = 4 → c.n = 1
      · have E1 : Hid (R = x.sub.all (eachX n)) := hide (by rw [HC.out, decide_eq_true hq, decide_eq_true a0]; rfl)
        have dn : (c.k == 4) = true → ((c.n : Int) != 1) = false := fun h => by
          have := hq (by simpa using h)
          simp [this]
        have DN := hide dn
        clear HC a0 hk hq dn
        rcases hks with ⟨e2, e4⟩ | ⟨e2, e3, e4⟩ | ⟨e2, e3, e4⟩
        all_goals
          go_enter Tryz.func70, Tryz.ntmps70
          go_wp2_with fail
          refine (unhide (RS _ HT.out.b)).mono ?_
          rintro r w1 ⟨rfl, b1⟩
          have HT1 := hide (HT.out.on b1)
          obtain ⟨c0, c1, c2, c3, c4, c5, c6⟩ := ecCells HT1.out.x
          clear RS b1 HT
          first
            | (have dn := DN.out e4; clear DN)
            | clear DN
          go_wp2
          go_loopw [3] (fun i wr => ∃ k : Nat, i = .int .i64 k ∧ k ≤ c.n ∧ Hid ((x.sub.drop k).all (eachX n) = x.sub.all (eachX n)) ∧ Hid (XAt1 w wr c)) (fun i _ => c.n - (intOf i).toNat)
          case atStart => exact ⟨0, rfl, by omega, hide rfl, HT1⟩
          case round =>
            clear c0 c1 c2 c3 c4 c5 c6 HT1
            obtain ⟨k, rfl, hk, HF, HT⟩ := hrel
            obtain ⟨c0, c1, c2, c3, c4, c5, c6⟩ := ecCells HT.out.x
            by_cases hlt : k < c.n
            · have hk' : k < x.sub.length := by rw [← HN.out]; exact hlt
              obtain ⟨g, off, d, hp, hg, hd, hy⟩ := (ExAt.on HT.out.b _ HX.out).part k hk'
              have F1 := HF.out
              rw [eachL_step n _ _ hk'] at F1
              have HF1 := hide F1
              have X := hide (HI.out _ _ _ hy)
              generalize eachX n (x.sub.getD k noX) = q at *
              clear F1 HF hy HI HX
              obtain ⟨d0, d1, d2, d3, d4, d5, d6⟩ := hd
              unfold EC.val at X
              rw [hp] at c6
              clear hp
              go_wp2_with fail
              refine (unhide X).mono ?_
              rintro r w2 ⟨rfl, b2⟩
              have HT2 := hide (HT.out.on b2)
              clear X b2 HT c0 c1 c2 c3 c4 c5 c6 d0 d1 d2 d3 d4 d5 d6
              cases q
              · have E : Hid (R = false) := hide (by rw [E1.out, ← HF1.out, Bool.false_and])
                go_wp2
                go_ret
                exact ⟨ret_bool E.out.symm, HT2.out.b⟩
              · have HF2 := hide ((Bool.true_and _).symm.trans HF1.out)
                go_wp2
                exact ⟨⟨k + 1, by go_num, by omega, HF2, HT2⟩, by simp [intOf]; omega⟩
            · have E : Hid (R = true) := hide (by
                rw [E1.out, ← HF.out, List.drop_eq_nil_of_le (by have := HN.out; omega)]; rfl)
              have hge : decide ((k : Int) < (c.n : Int)) = false := by simp; omega
              clear HX HI
              go_wp2
              go_ret
              exact ⟨ret_bool E.out.symm, HT.out.b⟩
      · have hq' : c.k = 4 ∧ ¬ c.n = 1 := by
          rcases Decidable.em (c.k = 4) with h | h
          · exact ⟨h, fun h1 => hq fun _ => h1⟩
          · exact absurd (fun h1 => absurd h1 h) hq
        have E : Hid (R = false) := hide (by rw [HC.out, decide_eq_false hq, Bool.and_false, Bool.false_and])
        have dn : ((c.n : Int) != 1) = true := by simp; omega
        have e2 : (c.k == 2) = false := by simp; omega
        have e3 : (c.k == 3) = false := by simp; omega
        have e4 : (c.k == 4) = true := by simp; omega
        clear HC a0 hk hq hq' hks HX HI
        go_enter Tryz.func70, Tryz.ntmps70
        go_wp2_with fail
        refine (unhide (RS _ HT.out.b)).mono ?_
        rintro r w1 ⟨rfl, b1⟩
        have HT1 := hide (HT.out.on b1)
        obtain ⟨c0, c1, c2, c3, c4, c5, c6⟩ := ecCells HT1.out.x
        clear RS b1 HT
        go_wp2
        go_ret
        exact ⟨ret_bool E.out.symm, HT1.out.b⟩
  · have d0 : (c.t != 0) = true := by simp [a0]
    have E : Hid (R = false) := hide (by rw [HC.out, decide_eq_false a0, Bool.false_and, Bool.false_and, Bool.false_and])
    clear HC a0 hk HX HI RS
    rcases hks with ⟨e2, e4⟩ | ⟨e2, e3, e4⟩ | ⟨e2, e3, e4⟩
    all_goals
      go_enter Tryz.func70, Tryz.ntmps70
      go_wp2
      go_ret
      exact ⟨ret_bool E.out.symm, HT.out.b⟩
theorem refEach_any : ∀ (n : Nat) (x : ExV) (c : EC) (w : World), ExAt n w c.val x →
    Calls Tryz.prog 70 #[c.val] w fun r w' => r = .returned (.bool (eachX n x)) ∧ Below w.heap.size w w' := by
  intro n
  induction n with
  | zero => intro x c w h; cases h
  | succ n ih =>
    intro x c w hx
    by_cases k1 : x.kind = 1
    · exact refEach_atom n x c w hx k1
    · by_cases k2 : x.kind = 2 ∨ x.kind = 3 ∨ x.kind = 4
      · exact refEach_many n x c w hx k2 ih
      · exact refEach_none n x c w hx k1 k2

set_option maxHeartbeats 8000000 in
set_option maxRecDepth 100000 in
theorem refRightX_any (n : Nat) (x : ExV) (c : EC) (w : World) (hx : ExAt n w c.val x) :
    Calls Tryz.prog 36 #[c.val] w fun r w' => r = .returned (.bool (rightX x)) ∧ Below w.heap.size w w' := by
  have HT := hide (XAt1.new w c)
  have X := hide (refFits_any n x c.val _ (ExAt.on HT.out.b _ hx))
  have Y := fun (W : World) (hb : Below w.heap.size w W) => hide (refEach_any n x c W (ExAt.on hb _ hx))
  have EQ : Hid (rightX x = (fitsX x && eachX n x)) := hide (by
    unfold rightX
    cases hf : fitsX x
    · rfl
    · rw [eachX_any (ExAt.low n hx) (fits_low hf)])
  generalize rightX x = R at EQ ⊢
  generalize eachX n x = q at EQ Y
  generalize fitsX x = p at EQ X
  clear hx
  unfold EC.val at *
  cases p
  · have E : Hid (R = false) := hide EQ.out
    go_enter Tryz.func36, Tryz.ntmps36
    go_wp2_with fail
    refine (unhide X).mono ?_
    rintro r w1 ⟨rfl, b1⟩
    have HT1 := hide (HT.out.on b1)
    clear X Y b1 HT
    go_wp2
    go_ret
    exact ⟨ret_bool E.out.symm, HT1.out.b⟩
  · have E : Hid (R = q) := hide EQ.out
    go_enter Tryz.func36, Tryz.ntmps36
    go_wp2_with fail
    refine (unhide X).mono ?_
    rintro r w1 ⟨rfl, b1⟩
    have HT1 := hide (HT.out.on b1)
    obtain ⟨c0, c1, c2, c3, c4, c5, c6⟩ := ecCells HT1.out.x
    clear X b1 HT
    go_wp2_with fail
    refine (unhide (Y _ HT1.out.b)).mono ?_
    rintro r w2 ⟨rfl, b2⟩
    have HT2 := hide (HT1.out.on b2)
    clear Y b2 HT1 c0 c1 c2 c3 c4 c5 c6
    go_wp2
    go_ret
    exact ⟨ret_bool E.out.symm, HT2.out.b⟩
end Go.Proofs.YtlfhpocfacaaeaaGreat
/-
  The fifth reference's Is and Eval, walked.
-/
set_option linter.unusedSimpArgs false
set_option linter.unusedVariables false
namespace Go.Proofs.YtlfhpocfacaaeaaGreat
open Go.RowKit

set_option maxHeartbeats 8000000 in
set_option maxRecDepth 100000 in
theorem refIs_atom (n : Nat) (x : ExV) (c : EC) (e : EvV) (w : World) (hx : ExAt (n + 1) w c.val x) (hn : nodeX x = true) (hk : x.kind = 1) (hf : evFit e) :
    Calls Tryz.prog 43 #[c.val, evVal e] w fun r w' => r = .returned (.bool (isX (n + 1) x e)) ∧ Below w.heap.size w w' := by
  obtain ⟨c', hv, hc, _⟩ := id hx
  obtain rfl := ec_inj hv
  obtain ⟨a0, a3, fs⟩ := node_atom hn hk hc
  have ec : (c.k == 1) = true := by rw [hc.k, hk]; rfl
  have R := fun (i : Nat) (hi : i < 4) (W : World) (hb : Below w.heap.size w W) => hide (refHas_any _ x.set (e.get i).1 (e.get i).2.1 (e.get i).2.2 W (hc.s.on hb) (evFit_get hf i hi))
  have EQ : Hid (isX (n + 1) x e = hasP x.set (e.get x.attr.toNat)) := hide (by rw [isX_step, if_pos hk])
  have HT := hide (XeAt.new w c e)
  have HTT := hide hc.t
  have b0 : 0 ≤ c.t := by rw [hc.t]; exact a0
  have b3 : c.t ≤ 3 := by rw [hc.t]; exact a3
  clear hx hv hc hn hk hf fs a0 a3
  unfold exObj evObj at HT
  unfold SC.val at R
  unfold EC.val evVal
  go_enter Tryz.func43, Tryz.ntmps43
  go_wp2
  generalize (w.alloc (Obj.cells #[.int .i64 c.k, .int .i64 c.t, .bool c.s.a, .slice c.s.p c.s.n c.s.c, .bool c.s.d, .slice c.s.q c.s.m c.s.e, .slice c.p c.n c.c] 28)).alloc (Obj.cells #[.int .i64 e.v0.1, .int .i64 e.v0.2.1, .string e.v0.2.2, .int .i64 e.v1.1, .int .i64 e.v1.2.1, .string e.v1.2.2, .int .i64 e.v2.1, .int .i64 e.v2.2.1, .string e.v2.2.2, .int .i64 e.v3.1, .int .i64 e.v3.2.1, .string e.v3.2.2] 42) = wr at HT ⊢
  obtain ⟨c0, c1, c2, c3, c4, c5, c6⟩ := ecCells1 HT.out.x
  obtain ⟨d0, d1, d2, d3, d4, d5, d6, d7, d8, d9, d10, d11⟩ := evCells HT.out.e
  have hcase : c.t = 0 ∨ c.t = 1 ∨ c.t = 2 ∨ c.t = 3 := by omega
  rcases hcase with h | h | h | h
  · have X := fun (d : Nat) (os : Array Obj) => hide (Calls.regrown_of (R 0 (by omega) (Sort.grow (redrawn wr d) os) (HT.out.b.trans ((below_regrown wr d os).mono HT.out.b.size))).out)
    rw [h] at c1
    have q1 := cell_regrown c1
    have q2 := cell_regrown c2
    have q3 := cell_regrown c3
    have q4 := cell_regrown c4
    have q5 := cell_regrown c5
    have p0 := cell_regrown d0
    have p1 := cell_regrown d1
    have p2 := cell_regrown d2
    have EQ2 : Hid (isX (n + 1) x e = hasP x.set (e.get 0)) := hide (by rw [EQ.out, ← HTT.out, h]; rfl)
    clear R c0 c1 c2 c3 c4 c5 c6 d0 d1 d2 d3 d4 d5 d6 d7 d8 d9 d10 d11 EQ HTT
    refine wp_region_quiet_below mixed (by kernel_rfl) ?_
    repeat (first | go_big_quiet_step (exact unhide (X _ _)) | quiet_step (exact unhide (X _ _)))
    refine wpQuiet_nil ?_
    intro _ hw'
    obtain ⟨⟨dq, osq⟩, hw''⟩ := hw'
    subst hw''
    have HT2 := hide (HT.out.on (below_regrown wr dq osq))
    clear X p0 p1 p2 q1 q2 q3 q4 q5
    dsimp only
    generalize Sort.grow (redrawn wr dq) osq = w2 at HT2 ⊢
    go_wp2
    go_ret
    exact ⟨ret_bool EQ2.out.symm, HT2.out.b⟩
  · have X := fun (d : Nat) (os : Array Obj) => hide (Calls.regrown_of (R 1 (by omega) (Sort.grow (redrawn wr d) os) (HT.out.b.trans ((below_regrown wr d os).mono HT.out.b.size))).out)
    rw [h] at c1
    have q1 := cell_regrown c1
    have q2 := cell_regrown c2
    have q3 := cell_regrown c3
    have q4 := cell_regrown c4
    have q5 := cell_regrown c5
    have p0 := cell_regrown d3
    have p1 := cell_regrown d4
    have p2 := cell_regrown d5
    have EQ2 : Hid (isX (n + 1) x e = hasP x.set (e.get 1)) := hide (by rw [EQ.out, ← HTT.out, h]; rfl)
    clear R c0 c1 c2 c3 c4 c5 c6 d0 d1 d2 d3 d4 d5 d6 d7 d8 d9 d10 d11 EQ HTT
    refine wp_region_quiet_below mixed (by kernel_rfl) ?_
    repeat (first | go_big_quiet_step (exact unhide (X _ _)) | quiet_step (exact unhide (X _ _)))
    refine wpQuiet_nil ?_
    intro _ hw'
    obtain ⟨⟨dq, osq⟩, hw''⟩ := hw'
    subst hw''
    have HT2 := hide (HT.out.on (below_regrown wr dq osq))
    clear X p0 p1 p2 q1 q2 q3 q4 q5
    dsimp only
    generalize Sort.grow (redrawn wr dq) osq = w2 at HT2 ⊢
    go_wp2
    go_ret
    exact ⟨ret_bool EQ2.out.symm, HT2.out.b⟩
  · have X := fun (d : Nat) (os : Array Obj) => hide (Calls.regrown_of (R 2 (by omega) (Sort.grow (redrawn wr d) os) (HT.out.b.trans ((below_regrown wr d os).mono HT.out.b.size))).out)
    rw [h] at c1
    have q1 := cell_regrown c1
    have q2 := cell_regrown c2
    have q3 := cell_regrown c3
    have q4 := cell_regrown c4
    have q5 := cell_regrown c5
    have p0 := cell_regrown d6
    have p1 := cell_regrown d7
    have p2 := cell_regrown d8
    have EQ2 : Hid (isX (n + 1) x e = hasP x.set (e.get 2)) := hide (by rw [EQ.out, ← HTT.out, h]; rfl)
    clear R c0 c1 c2 c3 c4 c5 c6 d0 d1 d2 d3 d4 d5 d6 d7 d8 d9 d10 d11 EQ HTT
    refine wp_region_quiet_below mixed (by kernel_rfl) ?_
    repeat (first | go_big_quiet_step (exact unhide (X _ _)) | quiet_step (exact unhide (X _ _)))
    refine wpQuiet_nil ?_
    intro _ hw'
    obtain ⟨⟨dq, osq⟩, hw''⟩ := hw'
    subst hw''
    have HT2 := hide (HT.out.on (below_regrown wr dq osq))
    clear X p0 p1 p2 q1 q2 q3 q4 q5
    dsimp only
    generalize Sort.grow (redrawn wr dq) osq = w2 at HT2 ⊢
    go_wp2
    go_ret
    exact ⟨ret_bool EQ2.out.symm, HT2.out.b⟩
  · have X := fun (d : Nat) (os : Array Obj) => hide (Calls.regrown_of (R 3 (by omega) (Sort.grow (redrawn wr d) os) (HT.out.b.trans ((below_regrown wr d os).mono HT.out.b.size))).out)
    rw [h] at c1
    have q1 := cell_regrown c1
    have q2 := cell_regrown c2
    have q3 := cell_regrown c3
    have q4 := cell_regrown c4
    have q5 := cell_regrown c5
    have p0 := cell_regrown d9
    have p1 := cell_regrown d10
    have p2 := cell_regrown d11
    have EQ2 : Hid (isX (n + 1) x e = hasP x.set (e.get 3)) := hide (by rw [EQ.out, ← HTT.out, h]; rfl)
    clear R c0 c1 c2 c3 c4 c5 c6 d0 d1 d2 d3 d4 d5 d6 d7 d8 d9 d10 d11 EQ HTT
    refine wp_region_quiet_below mixed (by kernel_rfl) ?_
    repeat (first | go_big_quiet_step (exact unhide (X _ _)) | quiet_step (exact unhide (X _ _)))
    refine wpQuiet_nil ?_
    intro _ hw'
    obtain ⟨⟨dq, osq⟩, hw''⟩ := hw'
    subst hw''
    have HT2 := hide (HT.out.on (below_regrown wr dq osq))
    clear X p0 p1 p2 q1 q2 q3 q4 q5
    dsimp only
    generalize Sort.grow (redrawn wr dq) osq = w2 at HT2 ⊢
    go_wp2
    go_ret
    exact ⟨ret_bool EQ2.out.symm, HT2.out.b⟩
theorem allIs_step (n : Nat) (e : EvV) (l : List ExV) (k : Nat) (h : k < l.length) : ((l.drop k).all fun y => isX n y e) = (isX n (l.getD k noX) e && (l.drop (k + 1)).all fun y => isX n y e) := by
  rw [drop_getX l k h, List.all_cons]
set_option maxHeartbeats 8000000 in
set_option maxRecDepth 100000 in
theorem refIs_and (n : Nat) (x : ExV) (c : EC) (e : EvV) (w : World) (hx : ExAt (n + 1) w c.val x) (hk : x.kind = 2)
    (IH : ∀ y ∈ x.sub, ∀ (d : EC) (W : World), ExAt n W d.val y → Calls Tryz.prog 43 #[d.val, evVal e] W fun r W' => r = .returned (.bool (isX n y e)) ∧ Below W.heap.size W W') :
    Calls Tryz.prog 43 #[c.val, evVal e] w fun r w' => r = .returned (.bool (isX (n + 1) x e)) ∧ Below w.heap.size w w' := by
  obtain ⟨c', hv, hc, _⟩ := id hx
  obtain rfl := ec_inj hv
  have e1 : (c.k == 1) = false := by rw [hc.k, hk]; rfl
  have e2 : (c.k == 2) = true := by rw [hc.k, hk]; rfl
  have e3 : (c.k == 3) = false := by rw [hc.k, hk]; rfl
  have HT := hide (XeAt.new w c e)
  have EQ : Hid (isX (n + 1) x e = x.sub.all fun y => isX n y e) := hide (by rw [isX_step, if_neg (by omega), if_pos hk])
  have HX := hide hx
  have HI := hide IH
  have HN := hide hc.n
  have big := hc.big
  have room := hc.room
  generalize isX (n + 1) x e = R at EQ ⊢
  clear hx hv hc hk IH
  unfold exObj evObj at HT
  unfold EC.val evVal
  go_enter Tryz.func43, Tryz.ntmps43
  go_wp2
  generalize (w.alloc (Obj.cells #[.int .i64 c.k, .int .i64 c.t, .bool c.s.a, .slice c.s.p c.s.n c.s.c, .bool c.s.d, .slice c.s.q c.s.m c.s.e, .slice c.p c.n c.c] 28)).alloc (Obj.cells #[.int .i64 e.v0.1, .int .i64 e.v0.2.1, .string e.v0.2.2, .int .i64 e.v1.1, .int .i64 e.v1.2.1, .string e.v1.2.2, .int .i64 e.v2.1, .int .i64 e.v2.2.1, .string e.v2.2.2, .int .i64 e.v3.1, .int .i64 e.v3.2.1, .string e.v3.2.2] 42) = w0 at HT ⊢
  go_loopw [5] (fun i wr => ∃ k : Nat, i = .int .i64 k ∧ k ≤ c.n ∧ Hid (((x.sub.drop k).all fun y => isX n y e) = x.sub.all fun y => isX n y e) ∧ Hid (XeAt w wr c e)) (fun i _ => c.n - (intOf i).toNat)
  case atStart => exact ⟨0, rfl, by omega, hide rfl, HT⟩
  case round =>
    clear HT
    obtain ⟨k, rfl, hk, HF, HT⟩ := hrel
    obtain ⟨c0, c1, c2, c3, c4, c5, c6⟩ := ecCells1 HT.out.x
    by_cases hlt : k < c.n
    · have hk' : k < x.sub.length := by rw [← HN.out]; exact hlt
      obtain ⟨g, off, d, hp, hg, hd, hy⟩ := HX.out.part k hk'
      have F1 := HF.out
      rw [allIs_step n e _ _ hk'] at F1
      have HF1 := hide F1
      have X := fun (dd : Nat) (os : Array Obj) => hide (Calls.regrown_of (HI.out _ (getD_mem hk') d (Sort.grow (redrawn wr dd) os) (ExAt.on (HT.out.b.trans ((below_regrown wr dd os).mono HT.out.b.size)) _ hy)))
      generalize isX n (x.sub.getD k noX) e = q at *
      obtain ⟨f0, f1, f2, f3, f4, f5, f6⟩ := hd.on hg HT.out.b
      obtain ⟨d0, d1, d2, d3, d4, d5, d6, d7, d8, d9, d10, d11⟩ := evCells HT.out.e
      clear F1 HF hy HI HX hd
      unfold EC.val evVal at X
      have q6 := c6
      rw [hp] at q6
      replace q6 := cell_regrown q6
      have r0 := cell_regrown d0
      have r1 := cell_regrown d1
      have r2 := cell_regrown d2
      have r3 := cell_regrown d3
      have r4 := cell_regrown d4
      have r5 := cell_regrown d5
      have r6 := cell_regrown d6
      have r7 := cell_regrown d7
      have r8 := cell_regrown d8
      have r9 := cell_regrown d9
      have r10 := cell_regrown d10
      have r11 := cell_regrown d11
      have s0 := cell_regrown f0
      have s1 := cell_regrown f1
      have s2 := cell_regrown f2
      have s3 := cell_regrown f3
      have s4 := cell_regrown f4
      have s5 := cell_regrown f5
      have s6 := cell_regrown f6
      clear hp hg
      clear c0 c1 c2 c3 c4 c5 d0 d1 d2 d3 d4 d5 d6 d7 d8 d9 d10 d11 f0 f1 f2 f3 f4 f5 f6
      go_wp2
      clear c6
      refine wp_region_quiet_below mixed (by kernel_rfl) ?_
      repeat (first | go_big_quiet_step (exact unhide (X _ _)) | quiet_step (exact unhide (X _ _)))
      refine wpQuiet_nil ?_
      intro _ hw'
      obtain ⟨⟨dq, osq⟩, hw''⟩ := hw'
      subst hw''
      have HT2 := hide (HT.out.on (below_regrown wr dq osq))
      clear X q6 r0 r1 r2 r3 r4 r5 r6 r7 r8 r9 r10 r11 s0 s1 s2 s3 s4 s5 s6
      dsimp only
      generalize Sort.grow (redrawn wr dq) osq = w2 at HT2 ⊢
      cases q
      · have E : Hid (R = false) := hide (by rw [EQ.out, ← HF1.out, Bool.false_and])
        go_wp2
        go_ret
        exact ⟨ret_bool E.out.symm, HT2.out.b⟩
      · have HF2 := hide ((Bool.true_and _).symm.trans HF1.out)
        go_wp2
        exact ⟨⟨k + 1, by go_num, by omega, HF2, HT2⟩, by simp [intOf]; omega⟩
    · have E : Hid (R = true) := hide (by
        rw [EQ.out, ← HF.out, List.drop_eq_nil_of_le (by have := HN.out; omega)]; rfl)
      have hge : decide ((k : Int) < (c.n : Int)) = false := by simp; omega
      clear HX HI
      go_wp2
      go_ret
      exact ⟨ret_bool E.out.symm, HT.out.b⟩
theorem anyIs_step (n : Nat) (e : EvV) (l : List ExV) (k : Nat) (h : k < l.length) : ((l.drop k).any fun y => isX n y e) = (isX n (l.getD k noX) e || (l.drop (k + 1)).any fun y => isX n y e) := by
  rw [drop_getX l k h, List.any_cons]
set_option maxHeartbeats 8000000 in
set_option maxRecDepth 100000 in
theorem refIs_or (n : Nat) (x : ExV) (c : EC) (e : EvV) (w : World) (hx : ExAt (n + 1) w c.val x) (hk : x.kind = 3)
    (IH : ∀ y ∈ x.sub, ∀ (d : EC) (W : World), ExAt n W d.val y → Calls Tryz.prog 43 #[d.val, evVal e] W fun r W' => r = .returned (.bool (isX n y e)) ∧ Below W.heap.size W W') :
    Calls Tryz.prog 43 #[c.val, evVal e] w fun r w' => r = .returned (.bool (isX (n + 1) x e)) ∧ Below w.heap.size w w' := by
  obtain ⟨c', hv, hc, _⟩ := id hx
  obtain rfl := ec_inj hv
  have e1 : (c.k == 1) = false := by rw [hc.k, hk]; rfl
  have e2 : (c.k == 2) = false := by rw [hc.k, hk]; rfl
  have e3 : (c.k == 3) = true := by rw [hc.k, hk]; rfl
  have HT := hide (XeAt.new w c e)
  have EQ : Hid (isX (n + 1) x e = x.sub.any fun y => isX n y e) := hide (by rw [isX_step, if_neg (by omega), if_neg (by omega), if_pos hk])
  have HX := hide hx
  have HI := hide IH
  have HN := hide hc.n
  have big := hc.big
  have room := hc.room
  generalize isX (n + 1) x e = R at EQ ⊢
  clear hx hv hc hk IH
  unfold exObj evObj at HT
  unfold EC.val evVal
  go_enter Tryz.func43, Tryz.ntmps43
  go_wp2
  generalize (w.alloc (Obj.cells #[.int .i64 c.k, .int .i64 c.t, .bool c.s.a, .slice c.s.p c.s.n c.s.c, .bool c.s.d, .slice c.s.q c.s.m c.s.e, .slice c.p c.n c.c] 28)).alloc (Obj.cells #[.int .i64 e.v0.1, .int .i64 e.v0.2.1, .string e.v0.2.2, .int .i64 e.v1.1, .int .i64 e.v1.2.1, .string e.v1.2.2, .int .i64 e.v2.1, .int .i64 e.v2.2.1, .string e.v2.2.2, .int .i64 e.v3.1, .int .i64 e.v3.2.1, .string e.v3.2.2] 42) = w0 at HT ⊢
  go_loopw [6] (fun i wr => ∃ k : Nat, i = .int .i64 k ∧ k ≤ c.n ∧ Hid (((x.sub.drop k).any fun y => isX n y e) = x.sub.any fun y => isX n y e) ∧ Hid (XeAt w wr c e)) (fun i _ => c.n - (intOf i).toNat)
  case atStart => exact ⟨0, rfl, by omega, hide rfl, HT⟩
  case round =>
    clear HT
    obtain ⟨k, rfl, hk, HF, HT⟩ := hrel
    obtain ⟨c0, c1, c2, c3, c4, c5, c6⟩ := ecCells1 HT.out.x
    by_cases hlt : k < c.n
    · have hk' : k < x.sub.length := by rw [← HN.out]; exact hlt
      obtain ⟨g, off, d, hp, hg, hd, hy⟩ := HX.out.part k hk'
      have F1 := HF.out
      rw [anyIs_step n e _ _ hk'] at F1
      have HF1 := hide F1
      have X := fun (dd : Nat) (os : Array Obj) => hide (Calls.regrown_of (HI.out _ (getD_mem hk') d (Sort.grow (redrawn wr dd) os) (ExAt.on (HT.out.b.trans ((below_regrown wr dd os).mono HT.out.b.size)) _ hy)))
      generalize isX n (x.sub.getD k noX) e = q at *
      obtain ⟨f0, f1, f2, f3, f4, f5, f6⟩ := hd.on hg HT.out.b
      obtain ⟨d0, d1, d2, d3, d4, d5, d6, d7, d8, d9, d10, d11⟩ := evCells HT.out.e
      clear F1 HF hy HI HX hd
      unfold EC.val evVal at X
      have q6 := c6
      rw [hp] at q6
      replace q6 := cell_regrown q6
      have r0 := cell_regrown d0
      have r1 := cell_regrown d1
      have r2 := cell_regrown d2
      have r3 := cell_regrown d3
      have r4 := cell_regrown d4
      have r5 := cell_regrown d5
      have r6 := cell_regrown d6
      have r7 := cell_regrown d7
      have r8 := cell_regrown d8
      have r9 := cell_regrown d9
      have r10 := cell_regrown d10
      have r11 := cell_regrown d11
      have s0 := cell_regrown f0
      have s1 := cell_regrown f1
      have s2 := cell_regrown f2
      have s3 := cell_regrown f3
      have s4 := cell_regrown f4
      have s5 := cell_regrown f5
      have s6 := cell_regrown f6
      clear hp hg
      clear c0 c1 c2 c3 c4 c5 d0 d1 d2 d3 d4 d5 d6 d7 d8 d9 d10 d11 f0 f1 f2 f3 f4 f5 f6
      go_wp2
      clear c6
      refine wp_region_quiet_below mixed (by kernel_rfl) ?_
      repeat (first | go_big_quiet_step (exact unhide (X _ _)) | quiet_step (exact unhide (X _ _)))
      refine wpQuiet_nil ?_
      intro _ hw'
      obtain ⟨⟨dq, osq⟩, hw''⟩ := hw'
      subst hw''
      have HT2 := hide (HT.out.on (below_regrown wr dq osq))
      clear X q6 r0 r1 r2 r3 r4 r5 r6 r7 r8 r9 r10 r11 s0 s1 s2 s3 s4 s5 s6
      dsimp only
      generalize Sort.grow (redrawn wr dq) osq = w2 at HT2 ⊢
      cases q
      · have HF2 := hide ((Bool.false_or _).symm.trans HF1.out)
        go_wp2
        exact ⟨⟨k + 1, by go_num, by omega, HF2, HT2⟩, by simp [intOf]; omega⟩
      · have E : Hid (R = true) := hide (by rw [EQ.out, ← HF1.out, Bool.true_or])
        go_wp2
        go_ret
        exact ⟨ret_bool E.out.symm, HT2.out.b⟩
    · have E : Hid (R = false) := hide (by
        rw [EQ.out, ← HF.out, List.drop_eq_nil_of_le (by have := HN.out; omega)]; rfl)
      have hge : decide ((k : Int) < (c.n : Int)) = false := by simp; omega
      clear HX HI
      go_wp2
      go_ret
      exact ⟨ret_bool E.out.symm, HT.out.b⟩
set_option maxHeartbeats 8000000 in
set_option maxRecDepth 100000 in
theorem refIs_not (n : Nat) (x : ExV) (c : EC) (e : EvV) (w : World) (hx : ExAt (n + 1) w c.val x) (k1 : ¬ x.kind = 1) (k2 : ¬ x.kind = 2) (k3 : ¬ x.kind = 3) (h1 : x.sub.length = 1)
    (IH : ∀ y ∈ x.sub, ∀ (d : EC) (W : World), ExAt n W d.val y → Calls Tryz.prog 43 #[d.val, evVal e] W fun r W' => r = .returned (.bool (isX n y e)) ∧ Below W.heap.size W W') :
    Calls Tryz.prog 43 #[c.val, evVal e] w fun r w' => r = .returned (.bool (isX (n + 1) x e)) ∧ Below w.heap.size w w' := by
  obtain ⟨c', hv, hc, _⟩ := id hx
  obtain rfl := ec_inj hv
  have e1 : (c.k == 1) = false := by rw [hc.k]; simpa using k1
  have e2 : (c.k == 2) = false := by rw [hc.k]; simpa using k2
  have e3 : (c.k == 3) = false := by rw [hc.k]; simpa using k3
  have hn : Hid (c.n = 1) := hide (by rw [hc.n, h1])
  have HT := hide (XeAt.new w c e)
  have hl : 0 < x.sub.length := by omega
  obtain ⟨g, off, d, hp, hg, hd, hy⟩ := hx.part 0 hl
  have R := fun (W : World) (hb : Below w.heap.size w W) => hide (IH _ (getD_mem hl) d W (ExAt.on hb _ hy))
  have EQ : Hid (isX (n + 1) x e = !isX n (x.sub.getD 0 noX) e) := hide (by
    rw [isX_step, if_neg k1, if_neg k2, if_neg k3]
    match hs : x.sub, hl with
    | y :: l, _ => rfl)
  generalize isX n (x.sub.getD 0 noX) e = q at R EQ
  have room := hc.room
  have big := hc.big
  clear hx hv hc IH k1 k2 k3 h1 hy hl
  unfold exObj evObj at HT
  unfold EC.val evVal at R ⊢
  have HC := hide hp
  clear hp
  go_enter Tryz.func43, Tryz.ntmps43
  go_wp2
  generalize (w.alloc (Obj.cells #[.int .i64 c.k, .int .i64 c.t, .bool c.s.a, .slice c.s.p c.s.n c.s.c, .bool c.s.d, .slice c.s.q c.s.m c.s.e, .slice c.p c.n c.c] 28)).alloc (Obj.cells #[.int .i64 e.v0.1, .int .i64 e.v0.2.1, .string e.v0.2.2, .int .i64 e.v1.1, .int .i64 e.v1.2.1, .string e.v1.2.2, .int .i64 e.v2.1, .int .i64 e.v2.2.1, .string e.v2.2.2, .int .i64 e.v3.1, .int .i64 e.v3.2.1, .string e.v3.2.2] 42) = wr at HT ⊢
  obtain ⟨c0, c1, c2, c3, c4, c5, c6⟩ := ecCells1 HT.out.x
  obtain ⟨d0, d1, d2, d3, d4, d5, d6, d7, d8, d9, d10, d11⟩ := evCells HT.out.e
  obtain ⟨f0, f1, f2, f3, f4, f5, f6⟩ := hd.on hg HT.out.b
  have X := fun (d : Nat) (os : Array Obj) => hide (Calls.regrown_of (R (Sort.grow (redrawn wr d) os) (HT.out.b.trans ((below_regrown wr d os).mono HT.out.b.size))).out)
  rw [HC.out, hn.out] at c6
  simp only [Nat.zero_mul, Nat.add_zero] at f0 f1 f2 f3 f4 f5 f6
  have q6 := cell_regrown c6
  have r0 := cell_regrown d0
  have r1 := cell_regrown d1
  have r2 := cell_regrown d2
  have r3 := cell_regrown d3
  have r4 := cell_regrown d4
  have r5 := cell_regrown d5
  have r6 := cell_regrown d6
  have r7 := cell_regrown d7
  have r8 := cell_regrown d8
  have r9 := cell_regrown d9
  have r10 := cell_regrown d10
  have r11 := cell_regrown d11
  have s0 := cell_regrown f0
  have s1 := cell_regrown f1
  have s2 := cell_regrown f2
  have s3 := cell_regrown f3
  have s4 := cell_regrown f4
  have s5 := cell_regrown f5
  have s6 := cell_regrown f6
  rw [hn.out] at room
  clear R c0 c1 c2 c3 c4 c5 c6 d0 d1 d2 d3 d4 d5 d6 d7 d8 d9 d10 d11 f0 f1 f2 f3 f4 f5 f6 hd hg HC hn
  refine wp_region_quiet_below mixed (by kernel_rfl) ?_
  repeat (first | go_big_quiet_step (exact unhide (X _ _)) | quiet_step (exact unhide (X _ _)))
  refine wpQuiet_nil ?_
  intro _ hw'
  obtain ⟨⟨dq, osq⟩, hw''⟩ := hw'
  subst hw''
  have HT2 := hide (HT.out.on (below_regrown wr dq osq))
  clear X q6 r0 r1 r2 r3 r4 r5 r6 r7 r8 r9 r10 r11 s0 s1 s2 s3 s4 s5 s6
  dsimp only
  generalize Sort.grow (redrawn wr dq) osq = w2 at HT2 ⊢
  go_wp2
  go_ret
  exact ⟨ret_bool EQ.out.symm, HT2.out.b⟩
theorem refIs_any (e : EvV) (hf : evFit e) : ∀ (n : Nat) (x : ExV) (c : EC) (w : World), ExAt n w c.val x → eachX n x = true →
    Calls Tryz.prog 43 #[c.val, evVal e] w fun r w' => r = .returned (.bool (isX n x e)) ∧ Below w.heap.size w w' := by
  intro n
  induction n with
  | zero => intro x c w h; cases h
  | succ n ih =>
    intro x c w hx he
    obtain ⟨hn, hs⟩ := each_sub he
    have IH : ∀ y ∈ x.sub, ∀ (d : EC) (W : World), ExAt n W d.val y → Calls Tryz.prog 43 #[d.val, evVal e] W fun r W' => r = .returned (.bool (isX n y e)) ∧ Below W.heap.size W W' := fun y hy d W h => ih y d W h (hs y hy)
    by_cases k1 : x.kind = 1
    · exact refIs_atom n x c e w hx hn k1 hf
    · by_cases k2 : x.kind = 2
      · exact refIs_and n x c e w hx k2 IH
      · by_cases k3 : x.kind = 3
        · exact refIs_or n x c e w hx k3 IH
        · exact refIs_not n x c e w hx k1 k2 k3 (node_not hn k1 k2 k3) IH
set_option maxHeartbeats 4000000 in
set_option maxRecDepth 100000 in
theorem refEvalX_any (k : Nat) (c : EC) (x : ExV) (e : EvV) (w : World) (hx : ExAt k w c.val x) (hf : evFit e) :
    Calls Tryz.prog 16 #[c.val, evVal e] w fun r w' => r = .returned (.bool (evalX x e)) ∧ Below w.heap.size w w' := by
  have HT := hide (XeAt.new w c e)
  have X := fun (W : World) (hb : Below w.heap.size w W) => hide (refRightX_any k x c W (ExAt.on hb _ hx))
  have Y := fun (W : World) => hide (refEvent_any e W hf)
  have Z : rightX x = true → ∀ (W : World) (hb : Below w.heap.size w W), Hid (Calls Tryz.prog 43 #[c.val, evVal e] W fun r W' => r = .returned (.bool (isX 8 x e)) ∧ Below W.heap.size W W') := fun hr W hb => hide (by
    have h8 := rightX_low hr
    unfold rightX at hr
    rw [Bool.and_eq_true] at hr
    exact refIs_any e hf 8 x c W (ExAt.shrink k 8 (ExAt.on hb _ hx) h8) hr.2)
  have EQ : Hid (evalX x e = ((rightX x && rightE e) && isX 8 x e)) := hide rfl
  generalize evalX x e = R at EQ ⊢
  generalize isX 8 x e = p at EQ Z
  clear hx hf
  unfold exObj evObj at HT
  unfold EC.val evVal at *
  cases hr : rightX x
  · rw [hr] at X EQ
    have E : Hid (R = false) := hide EQ.out
    clear Z EQ Y
    go_enter Tryz.func16, Tryz.ntmps16
    go_wp2_with fail
    refine (unhide (X _ HT.out.b)).mono ?_
    rintro r w1 ⟨rfl, b1⟩
    have HT1 := hide (HT.out.on b1)
    clear X HT b1
    go_wp2
    go_ret
    exact ⟨ret_bool E.out.symm, HT1.out.b⟩
  · rw [hr] at X EQ
    have Z := Z hr
    clear hr
    generalize rightE e = q at Y EQ
    cases q
    · have E : Hid (R = false) := hide EQ.out
      clear Z EQ
      go_enter Tryz.func16, Tryz.ntmps16
      go_wp2_with fail
      refine (unhide (X _ HT.out.b)).mono ?_
      rintro r w1 ⟨rfl, b1⟩
      have HT1 := hide (HT.out.on b1)
      obtain ⟨d0, d1, d2, d3, d4, d5, d6, d7, d8, d9, d10, d11⟩ := evCells HT1.out.e
      clear X HT b1
      go_wp2_with fail
      refine (unhide (Y _)).mono ?_
      rintro r w2 ⟨rfl, b2⟩
      have HT2 := hide (HT1.out.on b2)
      clear Y HT1 b2 d0 d1 d2 d3 d4 d5 d6 d7 d8 d9 d10 d11
      go_wp2
      go_ret
      exact ⟨ret_bool E.out.symm, HT2.out.b⟩
    · have E : Hid (R = p) := hide EQ.out
      clear EQ
      go_enter Tryz.func16, Tryz.ntmps16
      go_wp2_with fail
      refine (unhide (X _ HT.out.b)).mono ?_
      rintro r w1 ⟨rfl, b1⟩
      have HT1 := hide (HT.out.on b1)
      obtain ⟨d0, d1, d2, d3, d4, d5, d6, d7, d8, d9, d10, d11⟩ := evCells HT1.out.e
      clear X HT b1
      go_wp2_with fail
      refine (unhide (Y _)).mono ?_
      rintro r w2 ⟨rfl, b2⟩
      have HT2 := hide (HT1.out.on b2)
      clear Y HT1 b2 d0 d1 d2 d3 d4 d5 d6 d7 d8 d9 d10 d11
      obtain ⟨d0, d1, d2, d3, d4, d5, d6, d7, d8, d9, d10, d11⟩ := evCells HT2.out.e
      obtain ⟨c0, c1, c2, c3, c4, c5, c6⟩ := ecCells1 HT2.out.x
      go_wp2_with fail
      refine (unhide (Z _ HT2.out.b)).mono ?_
      rintro r w3 ⟨rfl, b3⟩
      have HT3 := hide (HT2.out.on b3)
      clear Z HT2 b3 d0 d1 d2 d3 d4 d5 d6 d7 d8 d9 d10 d11 c0 c1 c2 c3 c4 c5 c6
      go_wp2
      go_ret
      exact ⟨ret_bool E.out.symm, HT3.out.b⟩
end Go.Proofs.YtlfhpocfacaaeaaGreat
