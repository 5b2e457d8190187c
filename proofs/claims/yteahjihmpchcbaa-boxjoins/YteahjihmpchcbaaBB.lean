/-
  Events as values; the walks of the first reference's Event and of the fourth reference's Has.
-/
import Derived.Test.YteahjihmpchcbaaBA
set_option linter.unusedSimpArgs false
set_option linter.unusedVariables false
namespace Go.Proofs.Yteahjihmpchcbaa
open Go.RowKit

def evVal (e : EvV) : Value := .agg #[.int .i64 e.v0.1, .int .i64 e.v0.2.1, .string e.v0.2.2, .int .i64 e.v1.1, .int .i64 e.v1.2.1, .string e.v1.2.2, .int .i64 e.v2.1, .int .i64 e.v2.2.1, .string e.v2.2.2, .int .i64 e.v3.1, .int .i64 e.v3.2.1, .string e.v3.2.2]
/-- No string is longer than memory. -/
def evFit (e : EvV) : Prop := e.v0.2.2.size ≤ maxLen ∧ e.v1.2.2.size ≤ maxLen ∧ e.v2.2.2.size ≤ maxLen ∧ e.v3.2.2.size ≤ maxLen

theorem evCells {w : World} {g : Nat} {t : TypeId} {x0 x1 x2 x3 x4 x5 x6 x7 x8 x9 x10 x11 : Value} (h : w.heap[g]? = some (.cells #[x0, x1, x2, x3, x4, x5, x6, x7, x8, x9, x10, x11] t (0, 0))) : w.cell? ⟨g, 0, none⟩ = some x0 ∧ w.cell? ⟨g, 1, none⟩ = some x1 ∧ w.cell? ⟨g, 2, none⟩ = some x2 ∧ w.cell? ⟨g, 3, none⟩ = some x3 ∧ w.cell? ⟨g, 4, none⟩ = some x4 ∧ w.cell? ⟨g, 5, none⟩ = some x5 ∧ w.cell? ⟨g, 6, none⟩ = some x6 ∧ w.cell? ⟨g, 7, none⟩ = some x7 ∧ w.cell? ⟨g, 8, none⟩ = some x8 ∧ w.cell? ⟨g, 9, none⟩ = some x9 ∧ w.cell? ⟨g, 10, none⟩ = some x10 ∧ w.cell? ⟨g, 11, none⟩ = some x11 :=
  ⟨cell_heap h 0, cell_heap h 1, cell_heap h 2, cell_heap h 3, cell_heap h 4, cell_heap h 5, cell_heap h 6, cell_heap h 7, cell_heap h 8, cell_heap h 9, cell_heap h 10, cell_heap h 11⟩
theorem bxCells {w : World} {g : Nat} {t : TypeId} {x0 x1 x2 x3 x4 x5 x6 x7 x8 x9 x10 x11 x12 x13 x14 x15 : Value} (h : w.heap[g]? = some (.cells #[x0, x1, x2, x3, x4, x5, x6, x7, x8, x9, x10, x11, x12, x13, x14, x15] t (0, 0))) : w.cell? ⟨g, 0, none⟩ = some x0 ∧ w.cell? ⟨g, 1, none⟩ = some x1 ∧ w.cell? ⟨g, 2, none⟩ = some x2 ∧ w.cell? ⟨g, 3, none⟩ = some x3 ∧ w.cell? ⟨g, 4, none⟩ = some x4 ∧ w.cell? ⟨g, 5, none⟩ = some x5 ∧ w.cell? ⟨g, 6, none⟩ = some x6 ∧ w.cell? ⟨g, 7, none⟩ = some x7 ∧ w.cell? ⟨g, 8, none⟩ = some x8 ∧ w.cell? ⟨g, 9, none⟩ = some x9 ∧ w.cell? ⟨g, 10, none⟩ = some x10 ∧ w.cell? ⟨g, 11, none⟩ = some x11 ∧ w.cell? ⟨g, 12, none⟩ = some x12 ∧ w.cell? ⟨g, 13, none⟩ = some x13 ∧ w.cell? ⟨g, 14, none⟩ = some x14 ∧ w.cell? ⟨g, 15, none⟩ = some x15 :=
  ⟨cell_heap h 0, cell_heap h 1, cell_heap h 2, cell_heap h 3, cell_heap h 4, cell_heap h 5, cell_heap h 6, cell_heap h 7, cell_heap h 8, cell_heap h 9, cell_heap h 10, cell_heap h 11, cell_heap h 12, cell_heap h 13, cell_heap h 14, cell_heap h 15⟩

set_option maxHeartbeats 4000000 in
set_option maxRecDepth 100000 in
theorem refEvent_any (e : EvV) (w : World) (hf : evFit e) :
    Calls Try.prog 25 #[evVal e] w fun r w' => r = .returned (.bool (rightE e)) ∧ Below w.heap.size w w' := by
  unfold evVal
  have HR : Hid (rightE e = (((rightB e.v0.1 e.v0.2.1 e.v0.2.2 && rightB e.v1.1 e.v1.2.1 e.v1.2.2) && rightB e.v2.1 e.v2.2.1 e.v2.2.2) && rightB e.v3.1 e.v3.2.1 e.v3.2.2)) := hide rfl
  have R0 := fun (W : World) => hide (refRight_any e.v0.1 e.v0.2.1 e.v0.2.2 W hf.1)
  have R1 := fun (W : World) => hide (refRight_any e.v1.1 e.v1.2.1 e.v1.2.2 W hf.2.1)
  have R2 := fun (W : World) => hide (refRight_any e.v2.1 e.v2.2.1 e.v2.2.2 W hf.2.2.1)
  have R3 := fun (W : World) => hide (refRight_any e.v3.1 e.v3.2.1 e.v3.2.2 W hf.2.2.2)
  generalize rightB e.v0.1 e.v0.2.1 e.v0.2.2 = q0 at HR R0
  generalize rightB e.v1.1 e.v1.2.1 e.v1.2.2 = q1 at HR R1
  generalize rightB e.v2.1 e.v2.2.1 e.v2.2.2 = q2 at HR R2
  generalize rightB e.v3.1 e.v3.2.1 e.v3.2.2 = q3 at HR R3
  have B0 := hide ((Below.refl _ w).alloc (Nat.le_refl _) (Obj.cells #[.int .i64 e.v0.1, .int .i64 e.v0.2.1, .string e.v0.2.2, .int .i64 e.v1.1, .int .i64 e.v1.2.1, .string e.v1.2.2, .int .i64 e.v2.1, .int .i64 e.v2.2.1, .string e.v2.2.2, .int .i64 e.v3.1, .int .i64 e.v3.2.1, .string e.v3.2.2] 31))
  have E0 := hide (heap_new w (Obj.cells #[.int .i64 e.v0.1, .int .i64 e.v0.2.1, .string e.v0.2.2, .int .i64 e.v1.1, .int .i64 e.v1.2.1, .string e.v1.2.2, .int .i64 e.v2.1, .int .i64 e.v2.2.1, .string e.v2.2.2, .int .i64 e.v3.1, .int .i64 e.v3.2.1, .string e.v3.2.2] 31))
  clear hf
  go_enter Try.func25, Try.ntmps25
  go_wp2
  go_loopw [3] (fun i wr => ∃ k : Int, i = .int .i64 k ∧ (k = 0 ∨ (k = 1 ∧ Hid (q0 = true)) ∨ (k = 2 ∧ Hid (q0 = true ∧ q1 = true)) ∨ (k = 3 ∧ Hid (q0 = true ∧ q1 = true ∧ q2 = true)) ∨ (k = 4 ∧ Hid (rightE e = true))) ∧ Hid (wr.heap[w.heap.size]? = some (.cells #[.int .i64 e.v0.1, .int .i64 e.v0.2.1, .string e.v0.2.2, .int .i64 e.v1.1, .int .i64 e.v1.2.1, .string e.v1.2.2, .int .i64 e.v2.1, .int .i64 e.v2.2.1, .string e.v2.2.2, .int .i64 e.v3.1, .int .i64 e.v3.2.1, .string e.v3.2.2] 31 (0, 0))) ∧ Hid (Below w.heap.size w wr)) (fun i _ => 4 - (intOf i).toNat)
  case atStart => exact ⟨0, rfl, Or.inl rfl, E0, B0⟩
  case round =>
    clear E0 B0
    obtain ⟨k, rfl, hk, HE, HB⟩ := hrel
    obtain ⟨c0, c1, c2, c3, c4, c5, c6, c7, c8, c9, c10, c11⟩ := evCells HE.out
    rcases hk with rfl | ⟨rfl, HP⟩ | ⟨rfl, HP⟩ | ⟨rfl, HP⟩ | ⟨rfl, HP⟩
    · have X := R0 wr
      go_wp2_with fail
      refine (unhide X).mono ?_
      rintro r w2 ⟨rfl, b2⟩
      have HE2 := hide ((b2.block _ (lt_heap HE.out)).trans HE.out)
      have HB2 := hide (HB.out.trans (b2.mono HB.out.size))
      clear X R0 R1 R2 R3 b2
      cases hr : q0
      · have HF : Hid (rightE e = false) := hide (by rw [HR.out, hr]; simp)
        go_wp2
        go_ret
        exact ⟨ret_bool HF.out.symm, HB2.out⟩
      · go_wp2
        exact ⟨⟨1, rfl, Or.inr (Or.inl ⟨rfl, hide hr⟩), HE2, HB2⟩, by simp [intOf]⟩
    · have X := R1 wr
      go_wp2_with fail
      refine (unhide X).mono ?_
      rintro r w2 ⟨rfl, b2⟩
      have HE2 := hide ((b2.block _ (lt_heap HE.out)).trans HE.out)
      have HB2 := hide (HB.out.trans (b2.mono HB.out.size))
      clear X R0 R1 R2 R3 b2
      cases hr : q1
      · have HF : Hid (rightE e = false) := hide (by rw [HR.out, hr]; simp)
        go_wp2
        go_ret
        exact ⟨ret_bool HF.out.symm, HB2.out⟩
      · go_wp2
        exact ⟨⟨2, rfl, Or.inr (Or.inr (Or.inl ⟨rfl, hide ⟨HP.out, hr⟩⟩)), HE2, HB2⟩, by simp [intOf]⟩
    · have X := R2 wr
      go_wp2_with fail
      refine (unhide X).mono ?_
      rintro r w2 ⟨rfl, b2⟩
      have HE2 := hide ((b2.block _ (lt_heap HE.out)).trans HE.out)
      have HB2 := hide (HB.out.trans (b2.mono HB.out.size))
      clear X R0 R1 R2 R3 b2
      cases hr : q2
      · have HF : Hid (rightE e = false) := hide (by rw [HR.out, hr]; simp)
        go_wp2
        go_ret
        exact ⟨ret_bool HF.out.symm, HB2.out⟩
      · go_wp2
        exact ⟨⟨3, rfl, Or.inr (Or.inr (Or.inr (Or.inl ⟨rfl, hide ⟨HP.out.1, HP.out.2, hr⟩⟩))), HE2, HB2⟩, by simp [intOf]⟩
    · have X := R3 wr
      go_wp2_with fail
      refine (unhide X).mono ?_
      rintro r w2 ⟨rfl, b2⟩
      have HE2 := hide ((b2.block _ (lt_heap HE.out)).trans HE.out)
      have HB2 := hide (HB.out.trans (b2.mono HB.out.size))
      clear X R0 R1 R2 R3 b2
      cases hr : q3
      · have HF : Hid (rightE e = false) := hide (by rw [HR.out, hr]; simp)
        go_wp2
        go_ret
        exact ⟨ret_bool HF.out.symm, HB2.out⟩
      · go_wp2
        exact ⟨⟨4, rfl, Or.inr (Or.inr (Or.inr (Or.inr ⟨rfl, hide (by rw [HR.out, HP.out.1, HP.out.2.1, HP.out.2.2, hr]; rfl)⟩))), HE2, HB2⟩, by simp [intOf]⟩
    · go_wp2
      go_ret
      exact ⟨ret_bool HP.out.symm, HB.out⟩

set_option maxHeartbeats 4000000 in
set_option maxRecDepth 100000 in
theorem refHasBx_any (v : Value) (b : BoxV) (e : EvV) (w : World) (hv : BoxAt w v b) (hf : evFit e) :
    Calls Try.prog 11 #[v, evVal e] w fun r w' => r = .returned (.bool (hasE b e)) ∧ Below w.heap.size w w' := by
  obtain ⟨pi0, ps0, pi1, ps1, pi2, ps2, pi3, ps3, ci0, cs0, ci1, cs1, ci2, cs2, ci3, cs3, rfl, h0, h1, h2, h3⟩ := hv
  have EV0 := fun (W : World) => hide (refEvent_any e W hf)
  unfold evVal at EV0 ⊢
  have HR : Hid (hasE b e = (((hasP b.s0 e.v0 && hasP b.s1 e.v1) && hasP b.s2 e.v2) && hasP b.s3 e.v3)) := hide rfl
  have HN : Hid (rightE e = false → hasE b e = false) := hide (fun h => by
    cases hh : hasE b e
    · rfl
    · rw [hasE_iff] at hh
      have : rightE e = true := (all4_iff _).2 fun i hi => has_right (hh i hi)
      rw [h] at this
      cases this)
  have R0 := fun (W : World) (hb : Below w.heap.size w W) => hide (refHas_any _ b.s0 e.v0.1 e.v0.2.1 e.v0.2.2 W (h0.on hb) hf.1)
  have R1 := fun (W : World) (hb : Below w.heap.size w W) => hide (refHas_any _ b.s1 e.v1.1 e.v1.2.1 e.v1.2.2 W (h1.on hb) hf.2.1)
  have R2 := fun (W : World) (hb : Below w.heap.size w W) => hide (refHas_any _ b.s2 e.v2.1 e.v2.2.1 e.v2.2.2 W (h2.on hb) hf.2.2.1)
  have R3 := fun (W : World) (hb : Below w.heap.size w W) => hide (refHas_any _ b.s3 e.v3.1 e.v3.2.1 e.v3.2.2 W (h3.on hb) hf.2.2.2)
  change ∀ (W : World) (hb : Below w.heap.size w W), Hid (Calls _ _ _ _ fun r w' => r = .returned (.bool (hasP b.s0 e.v0)) ∧ _) at R0
  change ∀ (W : World) (hb : Below w.heap.size w W), Hid (Calls _ _ _ _ fun r w' => r = .returned (.bool (hasP b.s1 e.v1)) ∧ _) at R1
  change ∀ (W : World) (hb : Below w.heap.size w W), Hid (Calls _ _ _ _ fun r w' => r = .returned (.bool (hasP b.s2 e.v2)) ∧ _) at R2
  change ∀ (W : World) (hb : Below w.heap.size w W), Hid (Calls _ _ _ _ fun r w' => r = .returned (.bool (hasP b.s3 e.v3)) ∧ _) at R3
  generalize hasP b.s0 e.v0 = q0 at HR R0
  generalize hasP b.s1 e.v1 = q1 at HR R1
  generalize hasP b.s2 e.v2 = q2 at HR R2
  generalize hasP b.s3 e.v3 = q3 at HR R3
  generalize rightE e = re at EV0 HN
  have T0 := hide (Two.start w (Obj.cells #[.bool b.s0.absent, .slice pi0 b.s0.ints.length ci0, .bool b.s0.co, .slice ps0 b.s0.strs.length cs0, .bool b.s1.absent, .slice pi1 b.s1.ints.length ci1, .bool b.s1.co, .slice ps1 b.s1.strs.length cs1, .bool b.s2.absent, .slice pi2 b.s2.ints.length ci2, .bool b.s2.co, .slice ps2 b.s2.strs.length cs2, .bool b.s3.absent, .slice pi3 b.s3.ints.length ci3, .bool b.s3.co, .slice ps3 b.s3.strs.length cs3] 27) (Obj.cells #[.int .i64 e.v0.1, .int .i64 e.v0.2.1, .string e.v0.2.2, .int .i64 e.v1.1, .int .i64 e.v1.2.1, .string e.v1.2.2, .int .i64 e.v2.1, .int .i64 e.v2.2.1, .string e.v2.2.2, .int .i64 e.v3.1, .int .i64 e.v3.2.1, .string e.v3.2.2] 31))
  clear h0 h1 h2 h3 hf
  obtain ⟨f0, f1, f2, f3, f4, f5, f6, f7, f8, f9, f10, f11⟩ := evCells T0.out.e2
  go_enter Try.func11, Try.ntmps11
  go_wp2_with fail
  refine (unhide (EV0 _)).mono ?_
  rintro r w1 ⟨rfl, b1⟩
  have T1 := hide (T0.out.on b1)
  clear T0 b1 EV0 f0 f1 f2 f3 f4 f5 f6 f7 f8 f9 f10 f11
  cases re
  · have HF := hide (HN.out rfl)
    clear HN
    go_wp2
    go_ret
    exact ⟨ret_bool HF.out.symm, T1.out.b⟩
  · clear HN
    go_wp2
    go_loopw [5] (fun i wr => ∃ k : Int, i = .int .i64 k ∧ (k = 0 ∨ (k = 1 ∧ Hid (q0 = true)) ∨ (k = 2 ∧ Hid (q0 = true ∧ q1 = true)) ∨ (k = 3 ∧ Hid (q0 = true ∧ q1 = true ∧ q2 = true)) ∨ (k = 4 ∧ Hid (hasE b e = true))) ∧ Hid (Two w wr (Obj.cells #[.bool b.s0.absent, .slice pi0 b.s0.ints.length ci0, .bool b.s0.co, .slice ps0 b.s0.strs.length cs0, .bool b.s1.absent, .slice pi1 b.s1.ints.length ci1, .bool b.s1.co, .slice ps1 b.s1.strs.length cs1, .bool b.s2.absent, .slice pi2 b.s2.ints.length ci2, .bool b.s2.co, .slice ps2 b.s2.strs.length cs2, .bool b.s3.absent, .slice pi3 b.s3.ints.length ci3, .bool b.s3.co, .slice ps3 b.s3.strs.length cs3] 27) (Obj.cells #[.int .i64 e.v0.1, .int .i64 e.v0.2.1, .string e.v0.2.2, .int .i64 e.v1.1, .int .i64 e.v1.2.1, .string e.v1.2.2, .int .i64 e.v2.1, .int .i64 e.v2.2.1, .string e.v2.2.2, .int .i64 e.v3.1, .int .i64 e.v3.2.1, .string e.v3.2.2] 31))) (fun i _ => 4 - (intOf i).toNat)
    case atStart => exact ⟨0, rfl, Or.inl rfl, T1⟩
    case round =>
      clear T1
      obtain ⟨k, rfl, hk, HT⟩ := hrel
      rcases hk with rfl | ⟨rfl, HP⟩ | ⟨rfl, HP⟩ | ⟨rfl, HP⟩ | ⟨rfl, HP⟩
      · obtain ⟨c0, c1, c2, c3, c4, c5, c6, c7, c8, c9, c10, c11, c12, c13, c14, c15⟩ := bxCells HT.out.e1
        obtain ⟨d0, d1, d2, d3, d4, d5, d6, d7, d8, d9, d10, d11⟩ := evCells HT.out.e2
        have X := fun (d : Nat) (os : Array Obj) => hide (Calls.regrown_of (R0 (Sort.grow (redrawn wr d) os) (HT.out.b.trans ((below_regrown wr d os).mono HT.out.b.size))).out)
        have p0 := cell_regrown c0
        have p1 := cell_regrown c1
        have p2 := cell_regrown c2
        have p3 := cell_regrown c3
        have p4 := cell_regrown d0
        have p5 := cell_regrown d1
        have p6 := cell_regrown d2
        clear R0 R1 R2 R3 c0 c1 c2 c3 c4 c5 c6 c7 c8 c9 c10 c11 c12 c13 c14 c15 d0 d1 d2 d3 d4 d5 d6 d7 d8 d9 d10 d11
        go_wp2
        refine wp_region_quiet_below mixed (by kernel_rfl) ?_
        repeat (first | go_big_quiet_step (exact unhide (X _ _)) | quiet_step (exact unhide (X _ _)))
        refine wpQuiet_nil ?_
        intro _ hw'
        obtain ⟨⟨dq, osq⟩, hw''⟩ := hw'
        subst hw''
        have HT2 := hide (HT.out.on (below_regrown wr dq osq))
        clear X p0 p1 p2 p3 p4 p5 p6
        dsimp only
        generalize Sort.grow (redrawn wr dq) osq = w2 at HT2 ⊢
        cases hr : q0
        · have HF : Hid (hasE b e = false) := hide (by rw [HR.out, hr]; simp)
          go_wp2
          go_ret
          exact ⟨ret_bool HF.out.symm, HT2.out.b⟩
        · go_wp2
          exact ⟨⟨1, rfl, Or.inr (Or.inl ⟨rfl, hide hr⟩), HT2⟩, by simp [intOf]⟩
      · obtain ⟨c0, c1, c2, c3, c4, c5, c6, c7, c8, c9, c10, c11, c12, c13, c14, c15⟩ := bxCells HT.out.e1
        obtain ⟨d0, d1, d2, d3, d4, d5, d6, d7, d8, d9, d10, d11⟩ := evCells HT.out.e2
        have X := fun (d : Nat) (os : Array Obj) => hide (Calls.regrown_of (R1 (Sort.grow (redrawn wr d) os) (HT.out.b.trans ((below_regrown wr d os).mono HT.out.b.size))).out)
        have p0 := cell_regrown c4
        have p1 := cell_regrown c5
        have p2 := cell_regrown c6
        have p3 := cell_regrown c7
        have p4 := cell_regrown d3
        have p5 := cell_regrown d4
        have p6 := cell_regrown d5
        clear R0 R1 R2 R3 c0 c1 c2 c3 c4 c5 c6 c7 c8 c9 c10 c11 c12 c13 c14 c15 d0 d1 d2 d3 d4 d5 d6 d7 d8 d9 d10 d11
        go_wp2
        refine wp_region_quiet_below mixed (by kernel_rfl) ?_
        repeat (first | go_big_quiet_step (exact unhide (X _ _)) | quiet_step (exact unhide (X _ _)))
        refine wpQuiet_nil ?_
        intro _ hw'
        obtain ⟨⟨dq, osq⟩, hw''⟩ := hw'
        subst hw''
        have HT2 := hide (HT.out.on (below_regrown wr dq osq))
        clear X p0 p1 p2 p3 p4 p5 p6
        dsimp only
        generalize Sort.grow (redrawn wr dq) osq = w2 at HT2 ⊢
        cases hr : q1
        · have HF : Hid (hasE b e = false) := hide (by rw [HR.out, hr]; simp)
          go_wp2
          go_ret
          exact ⟨ret_bool HF.out.symm, HT2.out.b⟩
        · go_wp2
          exact ⟨⟨2, rfl, Or.inr (Or.inr (Or.inl ⟨rfl, hide ⟨HP.out, hr⟩⟩)), HT2⟩, by simp [intOf]⟩
      · obtain ⟨c0, c1, c2, c3, c4, c5, c6, c7, c8, c9, c10, c11, c12, c13, c14, c15⟩ := bxCells HT.out.e1
        obtain ⟨d0, d1, d2, d3, d4, d5, d6, d7, d8, d9, d10, d11⟩ := evCells HT.out.e2
        have X := fun (d : Nat) (os : Array Obj) => hide (Calls.regrown_of (R2 (Sort.grow (redrawn wr d) os) (HT.out.b.trans ((below_regrown wr d os).mono HT.out.b.size))).out)
        have p0 := cell_regrown c8
        have p1 := cell_regrown c9
        have p2 := cell_regrown c10
        have p3 := cell_regrown c11
        have p4 := cell_regrown d6
        have p5 := cell_regrown d7
        have p6 := cell_regrown d8
        clear R0 R1 R2 R3 c0 c1 c2 c3 c4 c5 c6 c7 c8 c9 c10 c11 c12 c13 c14 c15 d0 d1 d2 d3 d4 d5 d6 d7 d8 d9 d10 d11
        go_wp2
        refine wp_region_quiet_below mixed (by kernel_rfl) ?_
        repeat (first | go_big_quiet_step (exact unhide (X _ _)) | quiet_step (exact unhide (X _ _)))
        refine wpQuiet_nil ?_
        intro _ hw'
        obtain ⟨⟨dq, osq⟩, hw''⟩ := hw'
        subst hw''
        have HT2 := hide (HT.out.on (below_regrown wr dq osq))
        clear X p0 p1 p2 p3 p4 p5 p6
        dsimp only
        generalize Sort.grow (redrawn wr dq) osq = w2 at HT2 ⊢
        cases hr : q2
        · have HF : Hid (hasE b e = false) := hide (by rw [HR.out, hr]; simp)
          go_wp2
          go_ret
          exact ⟨ret_bool HF.out.symm, HT2.out.b⟩
        · go_wp2
          exact ⟨⟨3, rfl, Or.inr (Or.inr (Or.inr (Or.inl ⟨rfl, hide ⟨HP.out.1, HP.out.2, hr⟩⟩))), HT2⟩, by simp [intOf]⟩
      · obtain ⟨c0, c1, c2, c3, c4, c5, c6, c7, c8, c9, c10, c11, c12, c13, c14, c15⟩ := bxCells HT.out.e1
        obtain ⟨d0, d1, d2, d3, d4, d5, d6, d7, d8, d9, d10, d11⟩ := evCells HT.out.e2
        have X := fun (d : Nat) (os : Array Obj) => hide (Calls.regrown_of (R3 (Sort.grow (redrawn wr d) os) (HT.out.b.trans ((below_regrown wr d os).mono HT.out.b.size))).out)
        have p0 := cell_regrown c12
        have p1 := cell_regrown c13
        have p2 := cell_regrown c14
        have p3 := cell_regrown c15
        have p4 := cell_regrown d9
        have p5 := cell_regrown d10
        have p6 := cell_regrown d11
        clear R0 R1 R2 R3 c0 c1 c2 c3 c4 c5 c6 c7 c8 c9 c10 c11 c12 c13 c14 c15 d0 d1 d2 d3 d4 d5 d6 d7 d8 d9 d10 d11
        go_wp2
        refine wp_region_quiet_below mixed (by kernel_rfl) ?_
        repeat (first | go_big_quiet_step (exact unhide (X _ _)) | quiet_step (exact unhide (X _ _)))
        refine wpQuiet_nil ?_
        intro _ hw'
        obtain ⟨⟨dq, osq⟩, hw''⟩ := hw'
        subst hw''
        have HT2 := hide (HT.out.on (below_regrown wr dq osq))
        clear X p0 p1 p2 p3 p4 p5 p6
        dsimp only
        generalize Sort.grow (redrawn wr dq) osq = w2 at HT2 ⊢
        cases hr : q3
        · have HF : Hid (hasE b e = false) := hide (by rw [HR.out, hr]; simp)
          go_wp2
          go_ret
          exact ⟨ret_bool HF.out.symm, HT2.out.b⟩
        · go_wp2
          exact ⟨⟨4, rfl, Or.inr (Or.inr (Or.inr (Or.inr ⟨rfl, hide (by rw [HR.out, HP.out.1, HP.out.2.1, HP.out.2.2, hr]; rfl)⟩))), HT2⟩, by simp [intOf]⟩
      · go_wp2
        go_ret
        exact ⟨ret_bool HP.out.symm, HT.out.b⟩
end Go.Proofs.Yteahjihmpchcbaa
