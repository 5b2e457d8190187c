/-
  The program's box: Empty, setsIn, In, Has.
-/
import Derived.Test.YteahjihmpchcbaaBG
set_option linter.unusedSimpArgs false
set_option linter.unusedVariables false
namespace Go.Proofs.Yteahjihmpchcbaa
open Go.RowKit

set_option maxRecDepth 100000 in
theorem run_at0 (w : World) (s0 s1 s2 s3 : SC) : (Instr.index 27 (.agg #[.bool s0.a, .slice s0.p s0.n s0.c, .bool s0.d, .slice s0.q s0.m s0.e, .bool s1.a, .slice s1.p s1.n s1.c, .bool s1.d, .slice s1.q s1.m s1.e, .bool s2.a, .slice s2.p s2.n s2.c, .bool s2.d, .slice s2.q s2.m s2.e, .bool s3.a, .slice s3.p s3.n s3.c, .bool s3.d, .slice s3.q s3.m s3.e]) (.int .i64 0)).run Try.prog w = .ok (.agg #[.bool s0.a, .slice s0.p s0.n s0.c, .bool s0.d, .slice s0.q s0.m s0.e]) w := by
  simp [Instr.index, run_underlying Try.underlying27, asIntOf, go_sem, part]
set_option maxRecDepth 100000 in
theorem run_at1 (w : World) (s0 s1 s2 s3 : SC) : (Instr.index 27 (.agg #[.bool s0.a, .slice s0.p s0.n s0.c, .bool s0.d, .slice s0.q s0.m s0.e, .bool s1.a, .slice s1.p s1.n s1.c, .bool s1.d, .slice s1.q s1.m s1.e, .bool s2.a, .slice s2.p s2.n s2.c, .bool s2.d, .slice s2.q s2.m s2.e, .bool s3.a, .slice s3.p s3.n s3.c, .bool s3.d, .slice s3.q s3.m s3.e]) (.int .i64 1)).run Try.prog w = .ok (.agg #[.bool s1.a, .slice s1.p s1.n s1.c, .bool s1.d, .slice s1.q s1.m s1.e]) w := by
  simp [Instr.index, run_underlying Try.underlying27, asIntOf, go_sem, part]
set_option maxRecDepth 100000 in
theorem run_at2 (w : World) (s0 s1 s2 s3 : SC) : (Instr.index 27 (.agg #[.bool s0.a, .slice s0.p s0.n s0.c, .bool s0.d, .slice s0.q s0.m s0.e, .bool s1.a, .slice s1.p s1.n s1.c, .bool s1.d, .slice s1.q s1.m s1.e, .bool s2.a, .slice s2.p s2.n s2.c, .bool s2.d, .slice s2.q s2.m s2.e, .bool s3.a, .slice s3.p s3.n s3.c, .bool s3.d, .slice s3.q s3.m s3.e]) (.int .i64 2)).run Try.prog w = .ok (.agg #[.bool s2.a, .slice s2.p s2.n s2.c, .bool s2.d, .slice s2.q s2.m s2.e]) w := by
  simp [Instr.index, run_underlying Try.underlying27, asIntOf, go_sem, part]
set_option maxRecDepth 100000 in
theorem run_at3 (w : World) (s0 s1 s2 s3 : SC) : (Instr.index 27 (.agg #[.bool s0.a, .slice s0.p s0.n s0.c, .bool s0.d, .slice s0.q s0.m s0.e, .bool s1.a, .slice s1.p s1.n s1.c, .bool s1.d, .slice s1.q s1.m s1.e, .bool s2.a, .slice s2.p s2.n s2.c, .bool s2.d, .slice s2.q s2.m s2.e, .bool s3.a, .slice s3.p s3.n s3.c, .bool s3.d, .slice s3.q s3.m s3.e]) (.int .i64 3)).run Try.prog w = .ok (.agg #[.bool s3.a, .slice s3.p s3.n s3.c, .bool s3.d, .slice s3.q s3.m s3.e]) w := by
  simp [Instr.index, run_underlying Try.underlying27, asIntOf, go_sem, part]
theorem all4_of {f : Nat → Bool} {q0 q1 q2 q3 : Bool} (h0 : f 0 = q0) (h1 : f 1 = q1) (h2 : f 2 = q2) (h3 : f 3 = q3) : all4 f = (((q0 && q1) && q2) && q3) := by
  unfold all4; rw [h0, h1, h2, h3]
set_option maxHeartbeats 4000000 in
set_option maxRecDepth 100000 in
theorem boxEmpty_any (P : SetProg) (v : Value) (b : BoxV) (w : World) (hv : BoxAt w v b) (fb : FitBx b) :
    Calls Try.prog 23 #[v] w fun r w' => r = .returned (.bool (emptyBx b)) ∧ Below w.heap.size w w' := by
  obtain ⟨s0, s1, s2, s3, rfl, h0, h1, h2, h3⟩ := hv.scs
  have E0 := fun (W : World) (hb : Below w.heap.size w W) => hide (P.empty _ b.s0 W (h0.on hb) (fb.fit 0 (by omega)))
  have E1 := fun (W : World) (hb : Below w.heap.size w W) => hide (P.empty _ b.s1 W (h1.on hb) (fb.fit 1 (by omega)))
  have E2 := fun (W : World) (hb : Below w.heap.size w W) => hide (P.empty _ b.s2 W (h2.on hb) (fb.fit 2 (by omega)))
  have E3 := fun (W : World) (hb : Below w.heap.size w W) => hide (P.empty _ b.s3 W (h3.on hb) (fb.fit 3 (by omega)))
  unfold SC.val at E0 E1 E2 E3
  have HR : Hid (emptyBx b = (((emptyB b.s0 || emptyB b.s1) || emptyB b.s2) || emptyB b.s3)) := hide (by
    unfold emptyBx all4
    show (!(((!emptyB b.s0 && !emptyB b.s1) && !emptyB b.s2) && !emptyB b.s3)) = _
    cases emptyB b.s0 <;> cases emptyB b.s1 <;> cases emptyB b.s2 <;> cases emptyB b.s3 <;> rfl)
  generalize emptyB b.s0 = q0 at HR E0
  generalize emptyB b.s1 = q1 at HR E1
  generalize emptyB b.s2 = q2 at HR E2
  generalize emptyB b.s3 = q3 at HR E3
  have B0 := hide ((Below.refl _ w).alloc (Nat.le_refl _) (Obj.cells #[.bool s0.a, .slice s0.p s0.n s0.c, .bool s0.d, .slice s0.q s0.m s0.e, .bool s1.a, .slice s1.p s1.n s1.c, .bool s1.d, .slice s1.q s1.m s1.e, .bool s2.a, .slice s2.p s2.n s2.c, .bool s2.d, .slice s2.q s2.m s2.e, .bool s3.a, .slice s3.p s3.n s3.c, .bool s3.d, .slice s3.q s3.m s3.e] 27))
  clear hv fb h0 h1 h2 h3
  unfold bxVal
  go_enter Try.func23, Try.ntmps23
  go_wp2
  go_loopw [6] (fun i wr => ∃ k : Int, i = .int .i64 k ∧ (k = 0 ∨ (k = 1 ∧ Hid (q0 = false)) ∨ (k = 2 ∧ Hid (q0 = false ∧ q1 = false)) ∨ (k = 3 ∧ Hid (q0 = false ∧ q1 = false ∧ q2 = false)) ∨ (k = 4 ∧ Hid (q0 = false ∧ q1 = false ∧ q2 = false ∧ q3 = false))) ∧ Hid (Below w.heap.size w wr)) (fun i _ => 4 - (intOf i).toNat)
  case atStart => exact ⟨0, rfl, Or.inl rfl, B0⟩
  case round =>
    clear B0
    obtain ⟨k, rfl, hk, HB⟩ := hrel
    rcases hk with rfl | ⟨rfl, HP⟩ | ⟨rfl, HP⟩ | ⟨rfl, HP⟩ | ⟨rfl, HP⟩
    · have X := E0 _ (HB.out.alloc HB.out.size (Obj.cells #[.bool s0.a, .slice s0.p s0.n s0.c, .bool s0.d, .slice s0.q s0.m s0.e] 25))
      have B1 := hide (HB.out.alloc HB.out.size (Obj.cells #[.bool s0.a, .slice s0.p s0.n s0.c, .bool s0.d, .slice s0.q s0.m s0.e] 25))
      have RX := run_at0 wr s0 s1 s2 s3
      clear E0 E1 E2 E3
      go_wp2_with fail
      refine (unhide X).mono ?_
      rintro r w2 ⟨rfl, b2⟩
      have B2 := hide (B1.out.trans (b2.mono B1.out.size))
      clear X b2 B1
      cases hr : q0
      · go_wp2
        exact ⟨⟨1, rfl, Or.inr (Or.inl ⟨rfl, hide hr⟩), B2⟩, by simp [intOf]⟩
      · have HF : Hid (emptyBx b = true) := hide (by rw [HR.out, hr]; simp)
        go_wp2
        go_ret
        exact ⟨ret_bool HF.out.symm, B2.out⟩
    · have X := E1 _ (HB.out.alloc HB.out.size (Obj.cells #[.bool s1.a, .slice s1.p s1.n s1.c, .bool s1.d, .slice s1.q s1.m s1.e] 25))
      have B1 := hide (HB.out.alloc HB.out.size (Obj.cells #[.bool s1.a, .slice s1.p s1.n s1.c, .bool s1.d, .slice s1.q s1.m s1.e] 25))
      have RX := run_at1 wr s0 s1 s2 s3
      clear E0 E1 E2 E3
      go_wp2_with fail
      refine (unhide X).mono ?_
      rintro r w2 ⟨rfl, b2⟩
      have B2 := hide (B1.out.trans (b2.mono B1.out.size))
      clear X b2 B1
      cases hr : q1
      · go_wp2
        exact ⟨⟨2, rfl, Or.inr (Or.inr (Or.inl ⟨rfl, hide ⟨HP.out, hr⟩⟩)), B2⟩, by simp [intOf]⟩
      · have HF : Hid (emptyBx b = true) := hide (by rw [HR.out, hr]; simp)
        go_wp2
        go_ret
        exact ⟨ret_bool HF.out.symm, B2.out⟩
    · have X := E2 _ (HB.out.alloc HB.out.size (Obj.cells #[.bool s2.a, .slice s2.p s2.n s2.c, .bool s2.d, .slice s2.q s2.m s2.e] 25))
      have B1 := hide (HB.out.alloc HB.out.size (Obj.cells #[.bool s2.a, .slice s2.p s2.n s2.c, .bool s2.d, .slice s2.q s2.m s2.e] 25))
      have RX := run_at2 wr s0 s1 s2 s3
      clear E0 E1 E2 E3
      go_wp2_with fail
      refine (unhide X).mono ?_
      rintro r w2 ⟨rfl, b2⟩
      have B2 := hide (B1.out.trans (b2.mono B1.out.size))
      clear X b2 B1
      cases hr : q2
      · go_wp2
        exact ⟨⟨3, rfl, Or.inr (Or.inr (Or.inr (Or.inl ⟨rfl, hide ⟨HP.out.1, HP.out.2, hr⟩⟩))), B2⟩, by simp [intOf]⟩
      · have HF : Hid (emptyBx b = true) := hide (by rw [HR.out, hr]; simp)
        go_wp2
        go_ret
        exact ⟨ret_bool HF.out.symm, B2.out⟩
    · have X := E3 _ (HB.out.alloc HB.out.size (Obj.cells #[.bool s3.a, .slice s3.p s3.n s3.c, .bool s3.d, .slice s3.q s3.m s3.e] 25))
      have B1 := hide (HB.out.alloc HB.out.size (Obj.cells #[.bool s3.a, .slice s3.p s3.n s3.c, .bool s3.d, .slice s3.q s3.m s3.e] 25))
      have RX := run_at3 wr s0 s1 s2 s3
      clear E0 E1 E2 E3
      go_wp2_with fail
      refine (unhide X).mono ?_
      rintro r w2 ⟨rfl, b2⟩
      have B2 := hide (B1.out.trans (b2.mono B1.out.size))
      clear X b2 B1
      cases hr : q3
      · go_wp2
        exact ⟨⟨4, rfl, Or.inr (Or.inr (Or.inr (Or.inr (⟨rfl, hide ⟨HP.out.1, HP.out.2.1, HP.out.2.2, hr⟩⟩)))), B2⟩, by simp [intOf]⟩
      · have HF : Hid (emptyBx b = true) := hide (by rw [HR.out, hr]; simp)
        go_wp2
        go_ret
        exact ⟨ret_bool HF.out.symm, B2.out⟩
    · have HF : Hid (emptyBx b = false) := hide (by rw [HR.out, HP.out.1, HP.out.2.1, HP.out.2.2.1, HP.out.2.2.2]; rfl)
      go_wp2
      go_ret
      exact ⟨ret_bool HF.out.symm, HB.out⟩

set_option maxHeartbeats 4000000 in
set_option maxRecDepth 100000 in
theorem setsIn_any (P : SetProg) (v u : Value) (a b : BoxV) (w : World) (hv : BoxAt w v a) (hu : BoxAt w u b) (fa : FitBx a) (fb : FitBx b) :
    Calls Try.prog 26 #[v, u] w fun r w' => r = .returned (.bool (all4 fun i => inB (a.get i) (b.get i))) ∧ Below w.heap.size w w' := by
  obtain ⟨a0, a1, a2, a3, rfl, ha0, ha1, ha2, ha3⟩ := hv.scs
  obtain ⟨b0, b1, b2, b3, rfl, hb0, hb1, hb2, hb3⟩ := hu.scs
  have I0 := fun (W : World) (hb : Below w.heap.size w W) => hide (P.in_ _ _ a.s0 b.s0 W (ha0.on hb) (hb0.on hb) (fa.fit 0 (by omega)) (fb.fit 0 (by omega)))
  have I1 := fun (W : World) (hb : Below w.heap.size w W) => hide (P.in_ _ _ a.s1 b.s1 W (ha1.on hb) (hb1.on hb) (fa.fit 1 (by omega)) (fb.fit 1 (by omega)))
  have I2 := fun (W : World) (hb : Below w.heap.size w W) => hide (P.in_ _ _ a.s2 b.s2 W (ha2.on hb) (hb2.on hb) (fa.fit 2 (by omega)) (fb.fit 2 (by omega)))
  have I3 := fun (W : World) (hb : Below w.heap.size w W) => hide (P.in_ _ _ a.s3 b.s3 W (ha3.on hb) (hb3.on hb) (fa.fit 3 (by omega)) (fb.fit 3 (by omega)))
  have HR : Hid ((all4 fun i => inB (a.get i) (b.get i)) = (((inB a.s0 b.s0 && inB a.s1 b.s1) && inB a.s2 b.s2) && inB a.s3 b.s3)) := hide rfl
  generalize (all4 fun i => inB (a.get i) (b.get i)) = R at HR ⊢
  generalize inB a.s0 b.s0 = q0 at HR I0
  generalize inB a.s1 b.s1 = q1 at HR I1
  generalize inB a.s2 b.s2 = q2 at HR I2
  generalize inB a.s3 b.s3 = q3 at HR I3
  have T0 := hide (Two.start w (Obj.cells #[.bool a0.a, .slice a0.p a0.n a0.c, .bool a0.d, .slice a0.q a0.m a0.e, .bool a1.a, .slice a1.p a1.n a1.c, .bool a1.d, .slice a1.q a1.m a1.e, .bool a2.a, .slice a2.p a2.n a2.c, .bool a2.d, .slice a2.q a2.m a2.e, .bool a3.a, .slice a3.p a3.n a3.c, .bool a3.d, .slice a3.q a3.m a3.e] 27) (Obj.cells #[.bool b0.a, .slice b0.p b0.n b0.c, .bool b0.d, .slice b0.q b0.m b0.e, .bool b1.a, .slice b1.p b1.n b1.c, .bool b1.d, .slice b1.q b1.m b1.e, .bool b2.a, .slice b2.p b2.n b2.c, .bool b2.d, .slice b2.q b2.m b2.e, .bool b3.a, .slice b3.p b3.n b3.c, .bool b3.d, .slice b3.q b3.m b3.e] 27))
  clear hv hu fa fb ha0 ha1 ha2 ha3 hb0 hb1 hb2 hb3
  unfold bxVal
  go_enter Try.func26, Try.ntmps26
  go_wp2
  go_loopw [6] (fun i wr => ∃ k : Int, i = .int .i64 k ∧ (k = 0 ∨ (k = 1 ∧ Hid (q0 = true)) ∨ (k = 2 ∧ Hid (q0 = true ∧ q1 = true)) ∨ (k = 3 ∧ Hid (q0 = true ∧ q1 = true ∧ q2 = true)) ∨ (k = 4 ∧ Hid (q0 = true ∧ q1 = true ∧ q2 = true ∧ q3 = true))) ∧ Hid (Two w wr (Obj.cells #[.bool a0.a, .slice a0.p a0.n a0.c, .bool a0.d, .slice a0.q a0.m a0.e, .bool a1.a, .slice a1.p a1.n a1.c, .bool a1.d, .slice a1.q a1.m a1.e, .bool a2.a, .slice a2.p a2.n a2.c, .bool a2.d, .slice a2.q a2.m a2.e, .bool a3.a, .slice a3.p a3.n a3.c, .bool a3.d, .slice a3.q a3.m a3.e] 27) (Obj.cells #[.bool b0.a, .slice b0.p b0.n b0.c, .bool b0.d, .slice b0.q b0.m b0.e, .bool b1.a, .slice b1.p b1.n b1.c, .bool b1.d, .slice b1.q b1.m b1.e, .bool b2.a, .slice b2.p b2.n b2.c, .bool b2.d, .slice b2.q b2.m b2.e, .bool b3.a, .slice b3.p b3.n b3.c, .bool b3.d, .slice b3.q b3.m b3.e] 27))) (fun i _ => 4 - (intOf i).toNat)
  case atStart => exact ⟨0, rfl, Or.inl rfl, T0⟩
  case round =>
    clear T0
    obtain ⟨k, rfl, hk, HT⟩ := hrel
    rcases hk with rfl | ⟨rfl, HP⟩ | ⟨rfl, HP⟩ | ⟨rfl, HP⟩ | ⟨rfl, HP⟩
    · go_wp2
      refine wp_region_held_drew (S := fun w' => BxIn w' (w.heap.size) a0 a1 a2 a3 ∧ BxIn w' (w.heap.size + 1) b0 b1 b2 b3) (by kernel_rfl) ⟨HT.out.e1, HT.out.e2⟩ (fun hHeld => ?_)
      refine wpAnyH_take (i := 0) (oi := ⟨_, _, _, _, _, _⟩) (v := .int .i64 0) rfl (by kernel_rfl) (by kernel_rfl) (by kernel_rfl) (fun _ _ _ h => h) (yl_move (by rfl) _ rfl _ rfl) (by assumption) ?_
      simp only [Act.put, List.setIfInBounds_toArray, List.set_cons_zero, List.set_cons_succ]
      refine wpAnyH_take (i := 1) (oi := ⟨_, _, _, _, _, _⟩) (v := .pointer (some ⟨w.heap.size, 0, none⟩)) rfl (by kernel_rfl) (by kernel_rfl) (by kernel_rfl) (fun _ _ _ h => h) (yl_atBox (by rfl) _ _ rfl _ 0 rfl rfl (by omega)) (by assumption) ?_
      simp only [Act.put, List.setIfInBounds_toArray, List.set_cons_zero, List.set_cons_succ]
      refine wpAnyH_take (i := 2) (oi := ⟨_, _, _, _, _, _⟩) (v := .agg #[.bool a0.a, .slice a0.p a0.n a0.c, .bool a0.d, .slice a0.q a0.m a0.e]) rfl (by kernel_rfl) (by kernel_rfl) (by kernel_rfl) (fun _ _ _ h => h) (yl_set (by rfl) _ rfl _ 0 rfl _ _ _ _ (fun w' h => BxIn.at0 h.1)) (by assumption) ?_
      simp only [Act.put, List.setIfInBounds_toArray, List.set_cons_zero, List.set_cons_succ]
      refine wpAnyH_take (i := 3) (oi := ⟨_, _, _, _, _, _⟩) (v := .int .i64 0) rfl (by kernel_rfl) (by kernel_rfl) (by kernel_rfl) (fun _ _ _ h => h) (yl_move (by rfl) _ rfl _ rfl) (by assumption) ?_
      simp only [Act.put, List.setIfInBounds_toArray, List.set_cons_zero, List.set_cons_succ]
      refine wpAnyH_take (i := 4) (oi := ⟨_, _, _, _, _, _⟩) (v := .pointer (some ⟨w.heap.size + 1, 0, none⟩)) rfl (by kernel_rfl) (by kernel_rfl) (by kernel_rfl) (fun _ _ _ h => h) (yl_atBox (by rfl) _ _ rfl _ 0 rfl rfl (by omega)) (by assumption) ?_
      simp only [Act.put, List.setIfInBounds_toArray, List.set_cons_zero, List.set_cons_succ]
      refine wpAnyH_take (i := 5) (oi := ⟨_, _, _, _, _, _⟩) (v := .agg #[.bool b0.a, .slice b0.p b0.n b0.c, .bool b0.d, .slice b0.q b0.m b0.e]) rfl (by kernel_rfl) (by kernel_rfl) (by kernel_rfl) (fun _ _ _ h => h) (yl_set (by rfl) _ rfl _ 0 rfl _ _ _ _ (fun w' h => BxIn.at0 h.2)) (by assumption) ?_
      simp only [Act.put, List.setIfInBounds_toArray, List.set_cons_zero, List.set_cons_succ]
      -- call 1 of 1
      refine held_call (o := ⟨_, _, _, _, _, _⟩) 6 (by kernel_rfl) rfl (by rfl) 39 _ _ rfl #[.agg #[.bool a0.a, .slice a0.p a0.n a0.c, .bool a0.d, .slice a0.q a0.m a0.e], .agg #[.bool b0.a, .slice b0.p b0.n b0.c, .bool b0.d, .slice b0.q b0.m b0.e]] rfl (run_call Try.func39 (by kernel_rfl) (by kernel_rfl)) ?_
      refine (unhide (I0 wr.drew HT.out.b.drew)).mono ?_
      rintro r w2 ⟨rfl, b'⟩
      have bw : Below wr.heap.size wr w2 := ⟨b'.os, b'.tape, b'.output, b'.size, b'.block⟩
      have HT2 := hide (HT.out.on bw)
      refine ⟨.bool q0, rfl, ⟨HT2.out.e1, HT2.out.e2⟩, fun hHeld => ?_⟩
      simp only [Act.put, List.setIfInBounds_toArray, List.set_cons_zero, List.set_cons_succ]
      refine wpAnyH_take (i := 7) (oi := ⟨_, _, _, _, _, _⟩) (v := .bool (!q0)) rfl (by kernel_rfl) (by kernel_rfl) (by kernel_rfl) (fun _ _ _ h => h) (yl_not (by rfl) _ _ rfl q0 rfl) (by assumption) ?_
      simp only [Act.put, List.setIfInBounds_toArray, List.set_cons_zero, List.set_cons_succ]
      refine wpAnyH_done (by kernel_rfl) ?_ _
      clear hHeld HT I0 I1 I2 I3 b' bw
      cases hr : q0
      · have HF : Hid (R = false) := hide (by rw [HR.out, hr]; simp)
        go_wp2
        go_ret
        exact ⟨ret_bool HF.out.symm, HT2.out.b⟩
      · go_wp2
        exact ⟨⟨1, rfl, Or.inr (Or.inl ⟨rfl, hide hr⟩), HT2⟩, by simp [intOf]⟩
    · go_wp2
      refine wp_region_held_drew (S := fun w' => BxIn w' (w.heap.size) a0 a1 a2 a3 ∧ BxIn w' (w.heap.size + 1) b0 b1 b2 b3) (by kernel_rfl) ⟨HT.out.e1, HT.out.e2⟩ (fun hHeld => ?_)
      refine wpAnyH_take (i := 0) (oi := ⟨_, _, _, _, _, _⟩) (v := .int .i64 1) rfl (by kernel_rfl) (by kernel_rfl) (by kernel_rfl) (fun _ _ _ h => h) (yl_move (by rfl) _ rfl _ rfl) (by assumption) ?_
      simp only [Act.put, List.setIfInBounds_toArray, List.set_cons_zero, List.set_cons_succ]
      refine wpAnyH_take (i := 1) (oi := ⟨_, _, _, _, _, _⟩) (v := .pointer (some ⟨w.heap.size, 4, none⟩)) rfl (by kernel_rfl) (by kernel_rfl) (by kernel_rfl) (fun _ _ _ h => h) (yl_atBox (by rfl) _ _ rfl _ 1 rfl rfl (by omega)) (by assumption) ?_
      simp only [Act.put, List.setIfInBounds_toArray, List.set_cons_zero, List.set_cons_succ]
      refine wpAnyH_take (i := 2) (oi := ⟨_, _, _, _, _, _⟩) (v := .agg #[.bool a1.a, .slice a1.p a1.n a1.c, .bool a1.d, .slice a1.q a1.m a1.e]) rfl (by kernel_rfl) (by kernel_rfl) (by kernel_rfl) (fun _ _ _ h => h) (yl_set (by rfl) _ rfl _ 4 rfl _ _ _ _ (fun w' h => BxIn.at1 h.1)) (by assumption) ?_
      simp only [Act.put, List.setIfInBounds_toArray, List.set_cons_zero, List.set_cons_succ]
      refine wpAnyH_take (i := 3) (oi := ⟨_, _, _, _, _, _⟩) (v := .int .i64 1) rfl (by kernel_rfl) (by kernel_rfl) (by kernel_rfl) (fun _ _ _ h => h) (yl_move (by rfl) _ rfl _ rfl) (by assumption) ?_
      simp only [Act.put, List.setIfInBounds_toArray, List.set_cons_zero, List.set_cons_succ]
      refine wpAnyH_take (i := 4) (oi := ⟨_, _, _, _, _, _⟩) (v := .pointer (some ⟨w.heap.size + 1, 4, none⟩)) rfl (by kernel_rfl) (by kernel_rfl) (by kernel_rfl) (fun _ _ _ h => h) (yl_atBox (by rfl) _ _ rfl _ 1 rfl rfl (by omega)) (by assumption) ?_
      simp only [Act.put, List.setIfInBounds_toArray, List.set_cons_zero, List.set_cons_succ]
      refine wpAnyH_take (i := 5) (oi := ⟨_, _, _, _, _, _⟩) (v := .agg #[.bool b1.a, .slice b1.p b1.n b1.c, .bool b1.d, .slice b1.q b1.m b1.e]) rfl (by kernel_rfl) (by kernel_rfl) (by kernel_rfl) (fun _ _ _ h => h) (yl_set (by rfl) _ rfl _ 4 rfl _ _ _ _ (fun w' h => BxIn.at1 h.2)) (by assumption) ?_
      simp only [Act.put, List.setIfInBounds_toArray, List.set_cons_zero, List.set_cons_succ]
      -- call 1 of 1
      refine held_call (o := ⟨_, _, _, _, _, _⟩) 6 (by kernel_rfl) rfl (by rfl) 39 _ _ rfl #[.agg #[.bool a1.a, .slice a1.p a1.n a1.c, .bool a1.d, .slice a1.q a1.m a1.e], .agg #[.bool b1.a, .slice b1.p b1.n b1.c, .bool b1.d, .slice b1.q b1.m b1.e]] rfl (run_call Try.func39 (by kernel_rfl) (by kernel_rfl)) ?_
      refine (unhide (I1 wr.drew HT.out.b.drew)).mono ?_
      rintro r w2 ⟨rfl, b'⟩
      have bw : Below wr.heap.size wr w2 := ⟨b'.os, b'.tape, b'.output, b'.size, b'.block⟩
      have HT2 := hide (HT.out.on bw)
      refine ⟨.bool q1, rfl, ⟨HT2.out.e1, HT2.out.e2⟩, fun hHeld => ?_⟩
      simp only [Act.put, List.setIfInBounds_toArray, List.set_cons_zero, List.set_cons_succ]
      refine wpAnyH_take (i := 7) (oi := ⟨_, _, _, _, _, _⟩) (v := .bool (!q1)) rfl (by kernel_rfl) (by kernel_rfl) (by kernel_rfl) (fun _ _ _ h => h) (yl_not (by rfl) _ _ rfl q1 rfl) (by assumption) ?_
      simp only [Act.put, List.setIfInBounds_toArray, List.set_cons_zero, List.set_cons_succ]
      refine wpAnyH_done (by kernel_rfl) ?_ _
      clear hHeld HT I0 I1 I2 I3 b' bw
      cases hr : q1
      · have HF : Hid (R = false) := hide (by rw [HR.out, hr]; simp)
        go_wp2
        go_ret
        exact ⟨ret_bool HF.out.symm, HT2.out.b⟩
      · go_wp2
        exact ⟨⟨2, rfl, Or.inr (Or.inr (Or.inl ⟨rfl, hide ⟨HP.out, hr⟩⟩)), HT2⟩, by simp [intOf]⟩
    · go_wp2
      refine wp_region_held_drew (S := fun w' => BxIn w' (w.heap.size) a0 a1 a2 a3 ∧ BxIn w' (w.heap.size + 1) b0 b1 b2 b3) (by kernel_rfl) ⟨HT.out.e1, HT.out.e2⟩ (fun hHeld => ?_)
      refine wpAnyH_take (i := 0) (oi := ⟨_, _, _, _, _, _⟩) (v := .int .i64 2) rfl (by kernel_rfl) (by kernel_rfl) (by kernel_rfl) (fun _ _ _ h => h) (yl_move (by rfl) _ rfl _ rfl) (by assumption) ?_
      simp only [Act.put, List.setIfInBounds_toArray, List.set_cons_zero, List.set_cons_succ]
      refine wpAnyH_take (i := 1) (oi := ⟨_, _, _, _, _, _⟩) (v := .pointer (some ⟨w.heap.size, 8, none⟩)) rfl (by kernel_rfl) (by kernel_rfl) (by kernel_rfl) (fun _ _ _ h => h) (yl_atBox (by rfl) _ _ rfl _ 2 rfl rfl (by omega)) (by assumption) ?_
      simp only [Act.put, List.setIfInBounds_toArray, List.set_cons_zero, List.set_cons_succ]
      refine wpAnyH_take (i := 2) (oi := ⟨_, _, _, _, _, _⟩) (v := .agg #[.bool a2.a, .slice a2.p a2.n a2.c, .bool a2.d, .slice a2.q a2.m a2.e]) rfl (by kernel_rfl) (by kernel_rfl) (by kernel_rfl) (fun _ _ _ h => h) (yl_set (by rfl) _ rfl _ 8 rfl _ _ _ _ (fun w' h => BxIn.at2 h.1)) (by assumption) ?_
      simp only [Act.put, List.setIfInBounds_toArray, List.set_cons_zero, List.set_cons_succ]
      refine wpAnyH_take (i := 3) (oi := ⟨_, _, _, _, _, _⟩) (v := .int .i64 2) rfl (by kernel_rfl) (by kernel_rfl) (by kernel_rfl) (fun _ _ _ h => h) (yl_move (by rfl) _ rfl _ rfl) (by assumption) ?_
      simp only [Act.put, List.setIfInBounds_toArray, List.set_cons_zero, List.set_cons_succ]
      refine wpAnyH_take (i := 4) (oi := ⟨_, _, _, _, _, _⟩) (v := .pointer (some ⟨w.heap.size + 1, 8, none⟩)) rfl (by kernel_rfl) (by kernel_rfl) (by kernel_rfl) (fun _ _ _ h => h) (yl_atBox (by rfl) _ _ rfl _ 2 rfl rfl (by omega)) (by assumption) ?_
      simp only [Act.put, List.setIfInBounds_toArray, List.set_cons_zero, List.set_cons_succ]
      refine wpAnyH_take (i := 5) (oi := ⟨_, _, _, _, _, _⟩) (v := .agg #[.bool b2.a, .slice b2.p b2.n b2.c, .bool b2.d, .slice b2.q b2.m b2.e]) rfl (by kernel_rfl) (by kernel_rfl) (by kernel_rfl) (fun _ _ _ h => h) (yl_set (by rfl) _ rfl _ 8 rfl _ _ _ _ (fun w' h => BxIn.at2 h.2)) (by assumption) ?_
      simp only [Act.put, List.setIfInBounds_toArray, List.set_cons_zero, List.set_cons_succ]
      -- call 1 of 1
      refine held_call (o := ⟨_, _, _, _, _, _⟩) 6 (by kernel_rfl) rfl (by rfl) 39 _ _ rfl #[.agg #[.bool a2.a, .slice a2.p a2.n a2.c, .bool a2.d, .slice a2.q a2.m a2.e], .agg #[.bool b2.a, .slice b2.p b2.n b2.c, .bool b2.d, .slice b2.q b2.m b2.e]] rfl (run_call Try.func39 (by kernel_rfl) (by kernel_rfl)) ?_
      refine (unhide (I2 wr.drew HT.out.b.drew)).mono ?_
      rintro r w2 ⟨rfl, b'⟩
      have bw : Below wr.heap.size wr w2 := ⟨b'.os, b'.tape, b'.output, b'.size, b'.block⟩
      have HT2 := hide (HT.out.on bw)
      refine ⟨.bool q2, rfl, ⟨HT2.out.e1, HT2.out.e2⟩, fun hHeld => ?_⟩
      simp only [Act.put, List.setIfInBounds_toArray, List.set_cons_zero, List.set_cons_succ]
      refine wpAnyH_take (i := 7) (oi := ⟨_, _, _, _, _, _⟩) (v := .bool (!q2)) rfl (by kernel_rfl) (by kernel_rfl) (by kernel_rfl) (fun _ _ _ h => h) (yl_not (by rfl) _ _ rfl q2 rfl) (by assumption) ?_
      simp only [Act.put, List.setIfInBounds_toArray, List.set_cons_zero, List.set_cons_succ]
      refine wpAnyH_done (by kernel_rfl) ?_ _
      clear hHeld HT I0 I1 I2 I3 b' bw
      cases hr : q2
      · have HF : Hid (R = false) := hide (by rw [HR.out, hr]; simp)
        go_wp2
        go_ret
        exact ⟨ret_bool HF.out.symm, HT2.out.b⟩
      · go_wp2
        exact ⟨⟨3, rfl, Or.inr (Or.inr (Or.inr (Or.inl ⟨rfl, hide ⟨HP.out.1, HP.out.2, hr⟩⟩))), HT2⟩, by simp [intOf]⟩
    · go_wp2
      refine wp_region_held_drew (S := fun w' => BxIn w' (w.heap.size) a0 a1 a2 a3 ∧ BxIn w' (w.heap.size + 1) b0 b1 b2 b3) (by kernel_rfl) ⟨HT.out.e1, HT.out.e2⟩ (fun hHeld => ?_)
      refine wpAnyH_take (i := 0) (oi := ⟨_, _, _, _, _, _⟩) (v := .int .i64 3) rfl (by kernel_rfl) (by kernel_rfl) (by kernel_rfl) (fun _ _ _ h => h) (yl_move (by rfl) _ rfl _ rfl) (by assumption) ?_
      simp only [Act.put, List.setIfInBounds_toArray, List.set_cons_zero, List.set_cons_succ]
      refine wpAnyH_take (i := 1) (oi := ⟨_, _, _, _, _, _⟩) (v := .pointer (some ⟨w.heap.size, 12, none⟩)) rfl (by kernel_rfl) (by kernel_rfl) (by kernel_rfl) (fun _ _ _ h => h) (yl_atBox (by rfl) _ _ rfl _ 3 rfl rfl (by omega)) (by assumption) ?_
      simp only [Act.put, List.setIfInBounds_toArray, List.set_cons_zero, List.set_cons_succ]
      refine wpAnyH_take (i := 2) (oi := ⟨_, _, _, _, _, _⟩) (v := .agg #[.bool a3.a, .slice a3.p a3.n a3.c, .bool a3.d, .slice a3.q a3.m a3.e]) rfl (by kernel_rfl) (by kernel_rfl) (by kernel_rfl) (fun _ _ _ h => h) (yl_set (by rfl) _ rfl _ 12 rfl _ _ _ _ (fun w' h => BxIn.at3 h.1)) (by assumption) ?_
      simp only [Act.put, List.setIfInBounds_toArray, List.set_cons_zero, List.set_cons_succ]
      refine wpAnyH_take (i := 3) (oi := ⟨_, _, _, _, _, _⟩) (v := .int .i64 3) rfl (by kernel_rfl) (by kernel_rfl) (by kernel_rfl) (fun _ _ _ h => h) (yl_move (by rfl) _ rfl _ rfl) (by assumption) ?_
      simp only [Act.put, List.setIfInBounds_toArray, List.set_cons_zero, List.set_cons_succ]
      refine wpAnyH_take (i := 4) (oi := ⟨_, _, _, _, _, _⟩) (v := .pointer (some ⟨w.heap.size + 1, 12, none⟩)) rfl (by kernel_rfl) (by kernel_rfl) (by kernel_rfl) (fun _ _ _ h => h) (yl_atBox (by rfl) _ _ rfl _ 3 rfl rfl (by omega)) (by assumption) ?_
      simp only [Act.put, List.setIfInBounds_toArray, List.set_cons_zero, List.set_cons_succ]
      refine wpAnyH_take (i := 5) (oi := ⟨_, _, _, _, _, _⟩) (v := .agg #[.bool b3.a, .slice b3.p b3.n b3.c, .bool b3.d, .slice b3.q b3.m b3.e]) rfl (by kernel_rfl) (by kernel_rfl) (by kernel_rfl) (fun _ _ _ h => h) (yl_set (by rfl) _ rfl _ 12 rfl _ _ _ _ (fun w' h => BxIn.at3 h.2)) (by assumption) ?_
      simp only [Act.put, List.setIfInBounds_toArray, List.set_cons_zero, List.set_cons_succ]
      -- call 1 of 1
      refine held_call (o := ⟨_, _, _, _, _, _⟩) 6 (by kernel_rfl) rfl (by rfl) 39 _ _ rfl #[.agg #[.bool a3.a, .slice a3.p a3.n a3.c, .bool a3.d, .slice a3.q a3.m a3.e], .agg #[.bool b3.a, .slice b3.p b3.n b3.c, .bool b3.d, .slice b3.q b3.m b3.e]] rfl (run_call Try.func39 (by kernel_rfl) (by kernel_rfl)) ?_
      refine (unhide (I3 wr.drew HT.out.b.drew)).mono ?_
      rintro r w2 ⟨rfl, b'⟩
      have bw : Below wr.heap.size wr w2 := ⟨b'.os, b'.tape, b'.output, b'.size, b'.block⟩
      have HT2 := hide (HT.out.on bw)
      refine ⟨.bool q3, rfl, ⟨HT2.out.e1, HT2.out.e2⟩, fun hHeld => ?_⟩
      simp only [Act.put, List.setIfInBounds_toArray, List.set_cons_zero, List.set_cons_succ]
      refine wpAnyH_take (i := 7) (oi := ⟨_, _, _, _, _, _⟩) (v := .bool (!q3)) rfl (by kernel_rfl) (by kernel_rfl) (by kernel_rfl) (fun _ _ _ h => h) (yl_not (by rfl) _ _ rfl q3 rfl) (by assumption) ?_
      simp only [Act.put, List.setIfInBounds_toArray, List.set_cons_zero, List.set_cons_succ]
      refine wpAnyH_done (by kernel_rfl) ?_ _
      clear hHeld HT I0 I1 I2 I3 b' bw
      cases hr : q3
      · have HF : Hid (R = false) := hide (by rw [HR.out, hr]; simp)
        go_wp2
        go_ret
        exact ⟨ret_bool HF.out.symm, HT2.out.b⟩
      · go_wp2
        exact ⟨⟨4, rfl, Or.inr (Or.inr (Or.inr (Or.inr (⟨rfl, hide ⟨HP.out.1, HP.out.2.1, HP.out.2.2, hr⟩⟩)))), HT2⟩, by simp [intOf]⟩
    · have HF : Hid (R = true) := hide (by rw [HR.out, HP.out.1, HP.out.2.1, HP.out.2.2.1, HP.out.2.2.2]; rfl)
      go_wp2
      go_ret
      exact ⟨ret_bool HF.out.symm, HT.out.b⟩

set_option maxHeartbeats 4000000 in
set_option maxRecDepth 100000 in
theorem boxIn_any (P : SetProg) (v u : Value) (a b : BoxV) (w : World) (hv : BoxAt w v a) (hu : BoxAt w u b) (fa : FitBx a) (fb : FitBx b) :
    Calls Try.prog 12 #[v, u] w fun r w' => r = .returned (.bool (inBx a b)) ∧ Below w.heap.size w w' := by
  have HR : Hid (inBx a b = (emptyBx a || all4 fun i => inB (a.get i) (b.get i))) := hide rfl
  have CE := fun (W : World) (hb : Below w.heap.size w W) => hide (boxEmpty_any P v a W (hv.on hb) fa)
  have CI := fun (W : World) (hb : Below w.heap.size w W) => hide (setsIn_any P v u a b W (hv.on hb) (hu.on hb) fa fb)
  obtain ⟨a0, a1, a2, a3, rfl, ha0, ha1, ha2, ha3⟩ := hv.scs
  obtain ⟨b0, b1, b2, b3, rfl, hb0, hb1, hb2, hb3⟩ := hu.scs
  have T0 := Two.start w (Obj.cells #[.bool a0.a, .slice a0.p a0.n a0.c, .bool a0.d, .slice a0.q a0.m a0.e, .bool a1.a, .slice a1.p a1.n a1.c, .bool a1.d, .slice a1.q a1.m a1.e, .bool a2.a, .slice a2.p a2.n a2.c, .bool a2.d, .slice a2.q a2.m a2.e, .bool a3.a, .slice a3.p a3.n a3.c, .bool a3.d, .slice a3.q a3.m a3.e] 27) (Obj.cells #[.bool b0.a, .slice b0.p b0.n b0.c, .bool b0.d, .slice b0.q b0.m b0.e, .bool b1.a, .slice b1.p b1.n b1.c, .bool b1.d, .slice b1.q b1.m b1.e, .bool b2.a, .slice b2.p b2.n b2.c, .bool b2.d, .slice b2.q b2.m b2.e, .bool b3.a, .slice b3.p b3.n b3.c, .bool b3.d, .slice b3.q b3.m b3.e] 27)
  have X := CE _ T0.b
  have HT := hide T0
  generalize hq : emptyBx a = q at HR CE X
  generalize (all4 fun i => inB (a.get i) (b.get i)) = R at HR CI
  clear hv hu fa fb ha0 ha1 ha2 ha3 hb0 hb1 hb2 hb3 T0 hq
  unfold bxVal at *
  go_enter Try.func12, Try.ntmps12
  obtain ⟨c0, c1, c2, c3, c4, c5, c6, c7, c8, c9, c10, c11, c12, c13, c14, c15⟩ := bxCells HT.out.e1
  go_wp2_with fail
  refine (unhide X).mono ?_
  rintro r w2 ⟨rfl, b2⟩
  have HT2 := hide (HT.out.on b2)
  clear X b2 CE HT c0 c1 c2 c3 c4 c5 c6 c7 c8 c9 c10 c11 c12 c13 c14 c15
  cases q
  · obtain ⟨c0, c1, c2, c3, c4, c5, c6, c7, c8, c9, c10, c11, c12, c13, c14, c15⟩ := bxCells HT2.out.e1
    obtain ⟨d0, d1, d2, d3, d4, d5, d6, d7, d8, d9, d10, d11, d12, d13, d14, d15⟩ := bxCells HT2.out.e2
    have Y := CI _ HT2.out.b
    go_wp2_with fail
    refine (unhide Y).mono ?_
    rintro r w3 ⟨rfl, b3⟩
    have HT3 := hide (HT2.out.on b3)
    have HF : Hid (inBx a b = R) := hide (by rw [HR.out, Bool.false_or])
    clear Y b3 HT2 CI c0 c1 c2 c3 c4 c5 c6 c7 c8 c9 c10 c11 c12 c13 c14 c15 d0 d1 d2 d3 d4 d5 d6 d7 d8 d9 d10 d11 d12 d13 d14 d15
    go_wp2
    go_ret
    exact ⟨ret_bool HF.out.symm, HT3.out.b⟩
  · have HF : Hid (inBx a b = true) := hide (by rw [HR.out, Bool.true_or])
    clear CI
    go_wp2
    go_ret
    exact ⟨ret_bool HF.out.symm, HT2.out.b⟩

set_option maxHeartbeats 4000000 in
set_option maxRecDepth 100000 in
theorem boxHas_any (P : SetProg) (v : Value) (b : BoxV) (e : EvV) (w : World) (hv : BoxAt w v b) (fb : FitBx b) (hf : evFit e) (he : inE e) :
    Calls Try.prog 21 #[v, evVal e] w fun r w' => r = .returned (.bool (hasE b e)) ∧ Below w.heap.size w w' := by
  obtain ⟨s0, s1, s2, s3, rfl, h0, h1, h2, h3⟩ := hv.scs
  have H0 := fun (W : World) (hb : Below w.heap.size w W) => hide (P.has _ b.s0 e.v0.1 e.v0.2.1 e.v0.2.2 W (h0.on hb) (fb.fit 0 (by omega)) (he 0 (by omega)).1 (he 0 (by omega)).2 hf.1)
  change ∀ (W : World) (hb : Below w.heap.size w W), Hid (Calls _ _ _ _ fun r w' => r = .returned (.bool (hasP b.s0 e.v0)) ∧ _) at H0
  have H1 := fun (W : World) (hb : Below w.heap.size w W) => hide (P.has _ b.s1 e.v1.1 e.v1.2.1 e.v1.2.2 W (h1.on hb) (fb.fit 1 (by omega)) (he 1 (by omega)).1 (he 1 (by omega)).2 hf.2.1)
  change ∀ (W : World) (hb : Below w.heap.size w W), Hid (Calls _ _ _ _ fun r w' => r = .returned (.bool (hasP b.s1 e.v1)) ∧ _) at H1
  have H2 := fun (W : World) (hb : Below w.heap.size w W) => hide (P.has _ b.s2 e.v2.1 e.v2.2.1 e.v2.2.2 W (h2.on hb) (fb.fit 2 (by omega)) (he 2 (by omega)).1 (he 2 (by omega)).2 hf.2.2.1)
  change ∀ (W : World) (hb : Below w.heap.size w W), Hid (Calls _ _ _ _ fun r w' => r = .returned (.bool (hasP b.s2 e.v2)) ∧ _) at H2
  have H3 := fun (W : World) (hb : Below w.heap.size w W) => hide (P.has _ b.s3 e.v3.1 e.v3.2.1 e.v3.2.2 W (h3.on hb) (fb.fit 3 (by omega)) (he 3 (by omega)).1 (he 3 (by omega)).2 hf.2.2.2)
  change ∀ (W : World) (hb : Below w.heap.size w W), Hid (Calls _ _ _ _ fun r w' => r = .returned (.bool (hasP b.s3 e.v3)) ∧ _) at H3
  have HR : Hid (hasE b e = (((hasP b.s0 e.v0 && hasP b.s1 e.v1) && hasP b.s2 e.v2) && hasP b.s3 e.v3)) := hide rfl
  generalize hasP b.s0 e.v0 = q0 at HR H0
  generalize hasP b.s1 e.v1 = q1 at HR H1
  generalize hasP b.s2 e.v2 = q2 at HR H2
  generalize hasP b.s3 e.v3 = q3 at HR H3
  have T0 := hide (Two.start w (Obj.cells #[.bool s0.a, .slice s0.p s0.n s0.c, .bool s0.d, .slice s0.q s0.m s0.e, .bool s1.a, .slice s1.p s1.n s1.c, .bool s1.d, .slice s1.q s1.m s1.e, .bool s2.a, .slice s2.p s2.n s2.c, .bool s2.d, .slice s2.q s2.m s2.e, .bool s3.a, .slice s3.p s3.n s3.c, .bool s3.d, .slice s3.q s3.m s3.e] 27) (Obj.cells #[.int .i64 e.v0.1, .int .i64 e.v0.2.1, .string e.v0.2.2, .int .i64 e.v1.1, .int .i64 e.v1.2.1, .string e.v1.2.2, .int .i64 e.v2.1, .int .i64 e.v2.2.1, .string e.v2.2.2, .int .i64 e.v3.1, .int .i64 e.v3.2.1, .string e.v3.2.2] 31))
  clear hv fb hf he h0 h1 h2 h3
  unfold bxVal evVal
  obtain ⟨c0, c1, c2, c3, c4, c5, c6, c7, c8, c9, c10, c11, c12, c13, c14, c15⟩ := bxCells T0.out.e1
  go_enter Try.func21, Try.ntmps21
  go_wp2
  clear c0 c1 c2 c3 c4 c5 c6 c7 c8 c9 c10 c11 c12 c13 c14 c15
  go_loopw [8] (fun i wr => ∃ k : Int, i = .int .i64 k ∧ (k = 0 ∨ (k = 1 ∧ Hid (q0 = true)) ∨ (k = 2 ∧ Hid (q0 = true ∧ q1 = true)) ∨ (k = 3 ∧ Hid (q0 = true ∧ q1 = true ∧ q2 = true)) ∨ (k = 4 ∧ Hid (q0 = true ∧ q1 = true ∧ q2 = true ∧ q3 = true))) ∧ Hid (Two w wr (Obj.cells #[.bool s0.a, .slice s0.p s0.n s0.c, .bool s0.d, .slice s0.q s0.m s0.e, .bool s1.a, .slice s1.p s1.n s1.c, .bool s1.d, .slice s1.q s1.m s1.e, .bool s2.a, .slice s2.p s2.n s2.c, .bool s2.d, .slice s2.q s2.m s2.e, .bool s3.a, .slice s3.p s3.n s3.c, .bool s3.d, .slice s3.q s3.m s3.e] 27) (Obj.cells #[.int .i64 e.v0.1, .int .i64 e.v0.2.1, .string e.v0.2.2, .int .i64 e.v1.1, .int .i64 e.v1.2.1, .string e.v1.2.2, .int .i64 e.v2.1, .int .i64 e.v2.2.1, .string e.v2.2.2, .int .i64 e.v3.1, .int .i64 e.v3.2.1, .string e.v3.2.2] 31))) (fun i _ => 4 - (intOf i).toNat)
  case atStart => exact ⟨0, rfl, Or.inl rfl, T0⟩
  case round =>
    clear T0
    obtain ⟨k, rfl, hk, HT⟩ := hrel
    rcases hk with rfl | ⟨rfl, HP⟩ | ⟨rfl, HP⟩ | ⟨rfl, HP⟩ | ⟨rfl, HP⟩
    · have RX := run_at0 wr s0 s1 s2 s3
      go_wp2
      clear RX
      have T1 := HT.out.al (Obj.cells #[.bool s0.a, .slice s0.p s0.n s0.c, .bool s0.d, .slice s0.q s0.m s0.e] 25)
      have N1 := heap_new wr (Obj.cells #[.bool s0.a, .slice s0.p s0.n s0.c, .bool s0.d, .slice s0.q s0.m s0.e] 25)
      refine wp_region_held_drew (S := fun w' => w'.heap[wr.heap.size]? = some (Obj.cells #[.bool s0.a, .slice s0.p s0.n s0.c, .bool s0.d, .slice s0.q s0.m s0.e] 25 (0, 0)) ∧ w'.heap[w.heap.size + 1]? = some (Obj.cells #[.int .i64 e.v0.1, .int .i64 e.v0.2.1, .string e.v0.2.2, .int .i64 e.v1.1, .int .i64 e.v1.2.1, .string e.v1.2.2, .int .i64 e.v2.1, .int .i64 e.v2.2.1, .string e.v2.2.2, .int .i64 e.v3.1, .int .i64 e.v3.2.1, .string e.v3.2.2] 31 (0, 0))) (by kernel_rfl) ⟨N1, T1.e2⟩ (fun hHeld => ?_)
      refine wpAnyH_take (i := 0) (oi := ⟨_, _, _, _, _, _⟩) (v := .agg #[.bool s0.a, .slice s0.p s0.n s0.c, .bool s0.d, .slice s0.q s0.m s0.e]) rfl (by kernel_rfl) (by kernel_rfl) (by kernel_rfl) (fun _ _ _ h => h) (yl_set (by rfl) _ rfl _ 0 rfl _ _ _ _ (fun w' h => setCells h.1)) (by assumption) ?_
      simp only [Act.put, List.setIfInBounds_toArray, List.set_cons_zero, List.set_cons_succ]
      refine wpAnyH_take (i := 1) (oi := ⟨_, _, _, _, _, _⟩) (v := .int .i64 0) rfl (by kernel_rfl) (by kernel_rfl) (by kernel_rfl) (fun _ _ _ h => h) (yl_move (by rfl) _ rfl _ rfl) (by assumption) ?_
      simp only [Act.put, List.setIfInBounds_toArray, List.set_cons_zero, List.set_cons_succ]
      refine wpAnyH_take (i := 2) (oi := ⟨_, _, _, _, _, _⟩) (v := .pointer (some ⟨w.heap.size + 1, 0, none⟩)) rfl (by kernel_rfl) (by kernel_rfl) (by kernel_rfl) (fun _ _ _ h => h) (yl_atEv (by rfl) _ _ rfl _ 0 rfl rfl (by omega)) (by assumption) ?_
      simp only [Act.put, List.setIfInBounds_toArray, List.set_cons_zero, List.set_cons_succ]
      refine wpAnyH_take (i := 3) (oi := ⟨_, _, _, _, _, _⟩) (v := .agg #[.int .i64 e.v0.1, .int .i64 e.v0.2.1, .string e.v0.2.2]) rfl (by kernel_rfl) (by kernel_rfl) (by kernel_rfl) (fun _ _ _ h => h) (yl_val (by rfl) _ rfl _ 0 rfl _ _ _ (fun w' h => ⟨cell_heap h.2 0, cell_heap h.2 1, cell_heap h.2 2⟩)) (by assumption) ?_
      simp only [Act.put, List.setIfInBounds_toArray, List.set_cons_zero, List.set_cons_succ]
      -- call 1 of 1
      refine held_call (o := ⟨_, _, _, _, _, _⟩) 4 (by kernel_rfl) rfl (by rfl) 33 _ _ rfl #[.agg #[.bool s0.a, .slice s0.p s0.n s0.c, .bool s0.d, .slice s0.q s0.m s0.e], .agg #[.int .i64 e.v0.1, .int .i64 e.v0.2.1, .string e.v0.2.2]] rfl (run_call Try.func33 (by kernel_rfl) (by kernel_rfl)) ?_
      refine (unhide (H0 _ T1.b.drew)).mono ?_
      rintro r w2 ⟨rfl, b'⟩
      have bw : Below (wr.alloc (Obj.cells #[.bool s0.a, .slice s0.p s0.n s0.c, .bool s0.d, .slice s0.q s0.m s0.e] 25)).heap.size (wr.alloc (Obj.cells #[.bool s0.a, .slice s0.p s0.n s0.c, .bool s0.d, .slice s0.q s0.m s0.e] 25)) w2 := ⟨b'.os, b'.tape, b'.output, b'.size, b'.block⟩
      have HT2 := hide (T1.on bw)
      have N2 := (bw.block _ (lt_heap N1)).trans N1
      refine ⟨.bool q0, rfl, ⟨N2, HT2.out.e2⟩, fun hHeld => ?_⟩
      simp only [Act.put, List.setIfInBounds_toArray, List.set_cons_zero, List.set_cons_succ]
      refine wpAnyH_take (i := 5) (oi := ⟨_, _, _, _, _, _⟩) (v := .bool (!q0)) rfl (by kernel_rfl) (by kernel_rfl) (by kernel_rfl) (fun _ _ _ h => h) (yl_not (by rfl) _ _ rfl q0 rfl) (by assumption) ?_
      simp only [Act.put, List.setIfInBounds_toArray, List.set_cons_zero, List.set_cons_succ]
      refine wpAnyH_done (by kernel_rfl) ?_ _
      clear hHeld HT H0 H1 H2 H3 b' bw T1 N1 N2
      cases hr : q0
      · have HF : Hid (hasE b e = false) := hide (by rw [HR.out, hr]; simp)
        go_wp2
        go_ret
        exact ⟨ret_bool HF.out.symm, HT2.out.b⟩
      · go_wp2
        exact ⟨⟨1, rfl, Or.inr (Or.inl ⟨rfl, hide hr⟩), HT2⟩, by simp [intOf]⟩
    · have RX := run_at1 wr s0 s1 s2 s3
      go_wp2
      clear RX
      have T1 := HT.out.al (Obj.cells #[.bool s1.a, .slice s1.p s1.n s1.c, .bool s1.d, .slice s1.q s1.m s1.e] 25)
      have N1 := heap_new wr (Obj.cells #[.bool s1.a, .slice s1.p s1.n s1.c, .bool s1.d, .slice s1.q s1.m s1.e] 25)
      refine wp_region_held_drew (S := fun w' => w'.heap[wr.heap.size]? = some (Obj.cells #[.bool s1.a, .slice s1.p s1.n s1.c, .bool s1.d, .slice s1.q s1.m s1.e] 25 (0, 0)) ∧ w'.heap[w.heap.size + 1]? = some (Obj.cells #[.int .i64 e.v0.1, .int .i64 e.v0.2.1, .string e.v0.2.2, .int .i64 e.v1.1, .int .i64 e.v1.2.1, .string e.v1.2.2, .int .i64 e.v2.1, .int .i64 e.v2.2.1, .string e.v2.2.2, .int .i64 e.v3.1, .int .i64 e.v3.2.1, .string e.v3.2.2] 31 (0, 0))) (by kernel_rfl) ⟨N1, T1.e2⟩ (fun hHeld => ?_)
      refine wpAnyH_take (i := 0) (oi := ⟨_, _, _, _, _, _⟩) (v := .agg #[.bool s1.a, .slice s1.p s1.n s1.c, .bool s1.d, .slice s1.q s1.m s1.e]) rfl (by kernel_rfl) (by kernel_rfl) (by kernel_rfl) (fun _ _ _ h => h) (yl_set (by rfl) _ rfl _ 0 rfl _ _ _ _ (fun w' h => setCells h.1)) (by assumption) ?_
      simp only [Act.put, List.setIfInBounds_toArray, List.set_cons_zero, List.set_cons_succ]
      refine wpAnyH_take (i := 1) (oi := ⟨_, _, _, _, _, _⟩) (v := .int .i64 1) rfl (by kernel_rfl) (by kernel_rfl) (by kernel_rfl) (fun _ _ _ h => h) (yl_move (by rfl) _ rfl _ rfl) (by assumption) ?_
      simp only [Act.put, List.setIfInBounds_toArray, List.set_cons_zero, List.set_cons_succ]
      refine wpAnyH_take (i := 2) (oi := ⟨_, _, _, _, _, _⟩) (v := .pointer (some ⟨w.heap.size + 1, 3, none⟩)) rfl (by kernel_rfl) (by kernel_rfl) (by kernel_rfl) (fun _ _ _ h => h) (yl_atEv (by rfl) _ _ rfl _ 1 rfl rfl (by omega)) (by assumption) ?_
      simp only [Act.put, List.setIfInBounds_toArray, List.set_cons_zero, List.set_cons_succ]
      refine wpAnyH_take (i := 3) (oi := ⟨_, _, _, _, _, _⟩) (v := .agg #[.int .i64 e.v1.1, .int .i64 e.v1.2.1, .string e.v1.2.2]) rfl (by kernel_rfl) (by kernel_rfl) (by kernel_rfl) (fun _ _ _ h => h) (yl_val (by rfl) _ rfl _ 3 rfl _ _ _ (fun w' h => ⟨cell_heap h.2 3, cell_heap h.2 4, cell_heap h.2 5⟩)) (by assumption) ?_
      simp only [Act.put, List.setIfInBounds_toArray, List.set_cons_zero, List.set_cons_succ]
      -- call 1 of 1
      refine held_call (o := ⟨_, _, _, _, _, _⟩) 4 (by kernel_rfl) rfl (by rfl) 33 _ _ rfl #[.agg #[.bool s1.a, .slice s1.p s1.n s1.c, .bool s1.d, .slice s1.q s1.m s1.e], .agg #[.int .i64 e.v1.1, .int .i64 e.v1.2.1, .string e.v1.2.2]] rfl (run_call Try.func33 (by kernel_rfl) (by kernel_rfl)) ?_
      refine (unhide (H1 _ T1.b.drew)).mono ?_
      rintro r w2 ⟨rfl, b'⟩
      have bw : Below (wr.alloc (Obj.cells #[.bool s1.a, .slice s1.p s1.n s1.c, .bool s1.d, .slice s1.q s1.m s1.e] 25)).heap.size (wr.alloc (Obj.cells #[.bool s1.a, .slice s1.p s1.n s1.c, .bool s1.d, .slice s1.q s1.m s1.e] 25)) w2 := ⟨b'.os, b'.tape, b'.output, b'.size, b'.block⟩
      have HT2 := hide (T1.on bw)
      have N2 := (bw.block _ (lt_heap N1)).trans N1
      refine ⟨.bool q1, rfl, ⟨N2, HT2.out.e2⟩, fun hHeld => ?_⟩
      simp only [Act.put, List.setIfInBounds_toArray, List.set_cons_zero, List.set_cons_succ]
      refine wpAnyH_take (i := 5) (oi := ⟨_, _, _, _, _, _⟩) (v := .bool (!q1)) rfl (by kernel_rfl) (by kernel_rfl) (by kernel_rfl) (fun _ _ _ h => h) (yl_not (by rfl) _ _ rfl q1 rfl) (by assumption) ?_
      simp only [Act.put, List.setIfInBounds_toArray, List.set_cons_zero, List.set_cons_succ]
      refine wpAnyH_done (by kernel_rfl) ?_ _
      clear hHeld HT H0 H1 H2 H3 b' bw T1 N1 N2
      cases hr : q1
      · have HF : Hid (hasE b e = false) := hide (by rw [HR.out, hr]; simp)
        go_wp2
        go_ret
        exact ⟨ret_bool HF.out.symm, HT2.out.b⟩
      · go_wp2
        exact ⟨⟨2, rfl, Or.inr (Or.inr (Or.inl ⟨rfl, hide ⟨HP.out, hr⟩⟩)), HT2⟩, by simp [intOf]⟩
    · have RX := run_at2 wr s0 s1 s2 s3
      go_wp2
      clear RX
      have T1 := HT.out.al (Obj.cells #[.bool s2.a, .slice s2.p s2.n s2.c, .bool s2.d, .slice s2.q s2.m s2.e] 25)
      have N1 := heap_new wr (Obj.cells #[.bool s2.a, .slice s2.p s2.n s2.c, .bool s2.d, .slice s2.q s2.m s2.e] 25)
      refine wp_region_held_drew (S := fun w' => w'.heap[wr.heap.size]? = some (Obj.cells #[.bool s2.a, .slice s2.p s2.n s2.c, .bool s2.d, .slice s2.q s2.m s2.e] 25 (0, 0)) ∧ w'.heap[w.heap.size + 1]? = some (Obj.cells #[.int .i64 e.v0.1, .int .i64 e.v0.2.1, .string e.v0.2.2, .int .i64 e.v1.1, .int .i64 e.v1.2.1, .string e.v1.2.2, .int .i64 e.v2.1, .int .i64 e.v2.2.1, .string e.v2.2.2, .int .i64 e.v3.1, .int .i64 e.v3.2.1, .string e.v3.2.2] 31 (0, 0))) (by kernel_rfl) ⟨N1, T1.e2⟩ (fun hHeld => ?_)
      refine wpAnyH_take (i := 0) (oi := ⟨_, _, _, _, _, _⟩) (v := .agg #[.bool s2.a, .slice s2.p s2.n s2.c, .bool s2.d, .slice s2.q s2.m s2.e]) rfl (by kernel_rfl) (by kernel_rfl) (by kernel_rfl) (fun _ _ _ h => h) (yl_set (by rfl) _ rfl _ 0 rfl _ _ _ _ (fun w' h => setCells h.1)) (by assumption) ?_
      simp only [Act.put, List.setIfInBounds_toArray, List.set_cons_zero, List.set_cons_succ]
      refine wpAnyH_take (i := 1) (oi := ⟨_, _, _, _, _, _⟩) (v := .int .i64 2) rfl (by kernel_rfl) (by kernel_rfl) (by kernel_rfl) (fun _ _ _ h => h) (yl_move (by rfl) _ rfl _ rfl) (by assumption) ?_
      simp only [Act.put, List.setIfInBounds_toArray, List.set_cons_zero, List.set_cons_succ]
      refine wpAnyH_take (i := 2) (oi := ⟨_, _, _, _, _, _⟩) (v := .pointer (some ⟨w.heap.size + 1, 6, none⟩)) rfl (by kernel_rfl) (by kernel_rfl) (by kernel_rfl) (fun _ _ _ h => h) (yl_atEv (by rfl) _ _ rfl _ 2 rfl rfl (by omega)) (by assumption) ?_
      simp only [Act.put, List.setIfInBounds_toArray, List.set_cons_zero, List.set_cons_succ]
      refine wpAnyH_take (i := 3) (oi := ⟨_, _, _, _, _, _⟩) (v := .agg #[.int .i64 e.v2.1, .int .i64 e.v2.2.1, .string e.v2.2.2]) rfl (by kernel_rfl) (by kernel_rfl) (by kernel_rfl) (fun _ _ _ h => h) (yl_val (by rfl) _ rfl _ 6 rfl _ _ _ (fun w' h => ⟨cell_heap h.2 6, cell_heap h.2 7, cell_heap h.2 8⟩)) (by assumption) ?_
      simp only [Act.put, List.setIfInBounds_toArray, List.set_cons_zero, List.set_cons_succ]
      -- call 1 of 1
      refine held_call (o := ⟨_, _, _, _, _, _⟩) 4 (by kernel_rfl) rfl (by rfl) 33 _ _ rfl #[.agg #[.bool s2.a, .slice s2.p s2.n s2.c, .bool s2.d, .slice s2.q s2.m s2.e], .agg #[.int .i64 e.v2.1, .int .i64 e.v2.2.1, .string e.v2.2.2]] rfl (run_call Try.func33 (by kernel_rfl) (by kernel_rfl)) ?_
      refine (unhide (H2 _ T1.b.drew)).mono ?_
      rintro r w2 ⟨rfl, b'⟩
      have bw : Below (wr.alloc (Obj.cells #[.bool s2.a, .slice s2.p s2.n s2.c, .bool s2.d, .slice s2.q s2.m s2.e] 25)).heap.size (wr.alloc (Obj.cells #[.bool s2.a, .slice s2.p s2.n s2.c, .bool s2.d, .slice s2.q s2.m s2.e] 25)) w2 := ⟨b'.os, b'.tape, b'.output, b'.size, b'.block⟩
      have HT2 := hide (T1.on bw)
      have N2 := (bw.block _ (lt_heap N1)).trans N1
      refine ⟨.bool q2, rfl, ⟨N2, HT2.out.e2⟩, fun hHeld => ?_⟩
      simp only [Act.put, List.setIfInBounds_toArray, List.set_cons_zero, List.set_cons_succ]
      refine wpAnyH_take (i := 5) (oi := ⟨_, _, _, _, _, _⟩) (v := .bool (!q2)) rfl (by kernel_rfl) (by kernel_rfl) (by kernel_rfl) (fun _ _ _ h => h) (yl_not (by rfl) _ _ rfl q2 rfl) (by assumption) ?_
      simp only [Act.put, List.setIfInBounds_toArray, List.set_cons_zero, List.set_cons_succ]
      refine wpAnyH_done (by kernel_rfl) ?_ _
      clear hHeld HT H0 H1 H2 H3 b' bw T1 N1 N2
      cases hr : q2
      · have HF : Hid (hasE b e = false) := hide (by rw [HR.out, hr]; simp)
        go_wp2
        go_ret
        exact ⟨ret_bool HF.out.symm, HT2.out.b⟩
      · go_wp2
        exact ⟨⟨3, rfl, Or.inr (Or.inr (Or.inr (Or.inl ⟨rfl, hide ⟨HP.out.1, HP.out.2, hr⟩⟩))), HT2⟩, by simp [intOf]⟩
    · have RX := run_at3 wr s0 s1 s2 s3
      go_wp2
      clear RX
      have T1 := HT.out.al (Obj.cells #[.bool s3.a, .slice s3.p s3.n s3.c, .bool s3.d, .slice s3.q s3.m s3.e] 25)
      have N1 := heap_new wr (Obj.cells #[.bool s3.a, .slice s3.p s3.n s3.c, .bool s3.d, .slice s3.q s3.m s3.e] 25)
      refine wp_region_held_drew (S := fun w' => w'.heap[wr.heap.size]? = some (Obj.cells #[.bool s3.a, .slice s3.p s3.n s3.c, .bool s3.d, .slice s3.q s3.m s3.e] 25 (0, 0)) ∧ w'.heap[w.heap.size + 1]? = some (Obj.cells #[.int .i64 e.v0.1, .int .i64 e.v0.2.1, .string e.v0.2.2, .int .i64 e.v1.1, .int .i64 e.v1.2.1, .string e.v1.2.2, .int .i64 e.v2.1, .int .i64 e.v2.2.1, .string e.v2.2.2, .int .i64 e.v3.1, .int .i64 e.v3.2.1, .string e.v3.2.2] 31 (0, 0))) (by kernel_rfl) ⟨N1, T1.e2⟩ (fun hHeld => ?_)
      refine wpAnyH_take (i := 0) (oi := ⟨_, _, _, _, _, _⟩) (v := .agg #[.bool s3.a, .slice s3.p s3.n s3.c, .bool s3.d, .slice s3.q s3.m s3.e]) rfl (by kernel_rfl) (by kernel_rfl) (by kernel_rfl) (fun _ _ _ h => h) (yl_set (by rfl) _ rfl _ 0 rfl _ _ _ _ (fun w' h => setCells h.1)) (by assumption) ?_
      simp only [Act.put, List.setIfInBounds_toArray, List.set_cons_zero, List.set_cons_succ]
      refine wpAnyH_take (i := 1) (oi := ⟨_, _, _, _, _, _⟩) (v := .int .i64 3) rfl (by kernel_rfl) (by kernel_rfl) (by kernel_rfl) (fun _ _ _ h => h) (yl_move (by rfl) _ rfl _ rfl) (by assumption) ?_
      simp only [Act.put, List.setIfInBounds_toArray, List.set_cons_zero, List.set_cons_succ]
      refine wpAnyH_take (i := 2) (oi := ⟨_, _, _, _, _, _⟩) (v := .pointer (some ⟨w.heap.size + 1, 9, none⟩)) rfl (by kernel_rfl) (by kernel_rfl) (by kernel_rfl) (fun _ _ _ h => h) (yl_atEv (by rfl) _ _ rfl _ 3 rfl rfl (by omega)) (by assumption) ?_
      simp only [Act.put, List.setIfInBounds_toArray, List.set_cons_zero, List.set_cons_succ]
      refine wpAnyH_take (i := 3) (oi := ⟨_, _, _, _, _, _⟩) (v := .agg #[.int .i64 e.v3.1, .int .i64 e.v3.2.1, .string e.v3.2.2]) rfl (by kernel_rfl) (by kernel_rfl) (by kernel_rfl) (fun _ _ _ h => h) (yl_val (by rfl) _ rfl _ 9 rfl _ _ _ (fun w' h => ⟨cell_heap h.2 9, cell_heap h.2 10, cell_heap h.2 11⟩)) (by assumption) ?_
      simp only [Act.put, List.setIfInBounds_toArray, List.set_cons_zero, List.set_cons_succ]
      -- call 1 of 1
      refine held_call (o := ⟨_, _, _, _, _, _⟩) 4 (by kernel_rfl) rfl (by rfl) 33 _ _ rfl #[.agg #[.bool s3.a, .slice s3.p s3.n s3.c, .bool s3.d, .slice s3.q s3.m s3.e], .agg #[.int .i64 e.v3.1, .int .i64 e.v3.2.1, .string e.v3.2.2]] rfl (run_call Try.func33 (by kernel_rfl) (by kernel_rfl)) ?_
      refine (unhide (H3 _ T1.b.drew)).mono ?_
      rintro r w2 ⟨rfl, b'⟩
      have bw : Below (wr.alloc (Obj.cells #[.bool s3.a, .slice s3.p s3.n s3.c, .bool s3.d, .slice s3.q s3.m s3.e] 25)).heap.size (wr.alloc (Obj.cells #[.bool s3.a, .slice s3.p s3.n s3.c, .bool s3.d, .slice s3.q s3.m s3.e] 25)) w2 := ⟨b'.os, b'.tape, b'.output, b'.size, b'.block⟩
      have HT2 := hide (T1.on bw)
      have N2 := (bw.block _ (lt_heap N1)).trans N1
      refine ⟨.bool q3, rfl, ⟨N2, HT2.out.e2⟩, fun hHeld => ?_⟩
      simp only [Act.put, List.setIfInBounds_toArray, List.set_cons_zero, List.set_cons_succ]
      refine wpAnyH_take (i := 5) (oi := ⟨_, _, _, _, _, _⟩) (v := .bool (!q3)) rfl (by kernel_rfl) (by kernel_rfl) (by kernel_rfl) (fun _ _ _ h => h) (yl_not (by rfl) _ _ rfl q3 rfl) (by assumption) ?_
      simp only [Act.put, List.setIfInBounds_toArray, List.set_cons_zero, List.set_cons_succ]
      refine wpAnyH_done (by kernel_rfl) ?_ _
      clear hHeld HT H0 H1 H2 H3 b' bw T1 N1 N2
      cases hr : q3
      · have HF : Hid (hasE b e = false) := hide (by rw [HR.out, hr]; simp)
        go_wp2
        go_ret
        exact ⟨ret_bool HF.out.symm, HT2.out.b⟩
      · go_wp2
        exact ⟨⟨4, rfl, Or.inr (Or.inr (Or.inr (Or.inr (⟨rfl, hide ⟨HP.out.1, HP.out.2.1, HP.out.2.2, hr⟩⟩)))), HT2⟩, by simp [intOf]⟩
    · have HF : Hid (hasE b e = true) := hide (by rw [HR.out, HP.out.1, HP.out.2.1, HP.out.2.2.1, HP.out.2.2.2]; rfl)
      go_wp2
      go_ret
      exact ⟨ret_bool HF.out.symm, HT.out.b⟩
end Go.Proofs.Yteahjihmpchcbaa
