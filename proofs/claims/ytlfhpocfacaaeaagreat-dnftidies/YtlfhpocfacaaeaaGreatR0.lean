import Derived.Test.YtlfhpocfacaaeaaGreatQ6
import Derived.Test.YtlfhpocfacaaeaaGreatQ1
import Derived.Test.YtlfhpocfacaaeaaGreatQ2
import Derived.Test.YtlfhpocfacaaeaaGreatQ3
import Derived.Test.YtlfhpocfacaaeaaGreatQ4
import Derived.Test.YtlfhpocfacaaeaaGreatQ5
import Derived.WalkKit
import Derived.WalkSpells
import Derived.WalkLawsBesides
import Derived.WalkSmall
import Derived.Lib.SmallJoins
import Derived.Lib.Bytealg
import Derived.Lib.UnsafeStr
import Derived.Lib.ItoaLen
import Derived.Lib.Slices
import Derived.Laws.IdiomStrings
import Derived.Laws.OwnMore
import Derived.OwnWalk
import Derived.BigCall
import Derived.Deep.RegionHeld3
import Derived.Deep.AppendLies
import Derived.Deep.DrawnRows
import Derived.Lib.AppendIntMem
import Derived.Deep.QuietTactic
import Derived.BigQuiet
import Derived.Lib.QuietBelow
import Derived.ProofKit
import Derived.OpenShut
import Derived.Carry
import Derived.Deep.Slices
import Derived.Laws.AppendOwnNone
namespace Go.Proofs.YtlfhpocfacaaeaaGreat
theorem lzA {α : Type _} {l : List α} {i : Nat} {a : α} : l.toArray.setIfInBounds i a = (l.set i a).toArray := by simp
theorem lzB {α : Type _} {a b : α} {l : List α} : (a :: l).set 0 b = b :: l := rfl
theorem lzC {α : Type _} {a b : α} {l : List α} {n : Nat} : (a :: l).set (n + 1) b = a :: l.set n b := rfl
end Go.Proofs.YtlfhpocfacaaeaaGreat
set_option linter.unusedSimpArgs false
set_option linter.unusedVariables false
namespace Go.Proofs.YtlfhpocfacaaeaaGreat
open Go.RowKit
end Go.Proofs.YtlfhpocfacaaeaaGreat
namespace Go.Proofs.YtlfhpocfacaaeaaGreat
end Go.Proofs.YtlfhpocfacaaeaaGreat
namespace Go.Proofs.YtlfhpocfacaaeaaGreat
open Go.RowKit
attribute [local go_sem ↓] Go.wp_at_zero Go.wp_at_succ
end Go.Proofs.YtlfhpocfacaaeaaGreat
namespace Go.Proofs.YtlfhpocfacaaeaaGreat
open Go.Deep Go.ChangeShapes Go.WideShapes Go.ChangeAt Go.WideMaps Go.WideElems Go.RowKit Go.Joins
section
variable {H : Type} {enc : TypeId × Value → H} {W : World}
end
end Go.Proofs.YtlfhpocfacaaeaaGreat
namespace Go.Proofs.YtlfhpocfacaaeaaGreat
open Go.RowKit
end Go.Proofs.YtlfhpocfacaaeaaGreat
namespace Go.Proofs.YtlfhpocfacaaeaaGreat
open Go.RowKit
end Go.Proofs.YtlfhpocfacaaeaaGreat
namespace Go.Proofs.YtlfhpocfacaaeaaGreat
open Go.RowKit
end Go.Proofs.YtlfhpocfacaaeaaGreat
namespace Go.Proofs.YtlfhpocfacaaeaaGreat
open Go.RowKit
end Go.Proofs.YtlfhpocfacaaeaaGreat
namespace Go.Proofs.YtlfhpocfacaaeaaGreat
open Go.RowKit
end Go.Proofs.YtlfhpocfacaaeaaGreat
namespace Go.Proofs.YtlfhpocfacaaeaaGreat
open Go.RowKit
end Go.Proofs.YtlfhpocfacaaeaaGreat
namespace Go.Proofs.YtlfhpocfacaaeaaGreat
open Go.RowKit
end Go.Proofs.YtlfhpocfacaaeaaGreat
namespace Go.Proofs.YtlfhpocfacaaeaaGreat
end Go.Proofs.YtlfhpocfacaaeaaGreat
namespace Go.Proofs.YtlfhpocfacaaeaaGreat
end Go.Proofs.YtlfhpocfacaaeaaGreat
namespace Go.Proofs.YtlfhpocfacaaeaaGreat
end Go.Proofs.YtlfhpocfacaaeaaGreat
namespace Go.Proofs.YtlfhpocfacaaeaaGreat
open Go.RowKit
end Go.Proofs.YtlfhpocfacaaeaaGreat
namespace Go.Proofs.YtlfhpocfacaaeaaGreat
open Go.RowKit
end Go.Proofs.YtlfhpocfacaaeaaGreat
namespace Go.Proofs.YtlfhpocfacaaeaaGreat
end Go.Proofs.YtlfhpocfacaaeaaGreat
namespace Go.Proofs.YtlfhpocfacaaeaaGreat
open Go.RowKit
end Go.Proofs.YtlfhpocfacaaeaaGreat
namespace Go.Proofs.YtlfhpocfacaaeaaGreat
end Go.Proofs.YtlfhpocfacaaeaaGreat
namespace Go.Proofs.YtlfhpocfacaaeaaGreat
open Go.RowKit
end Go.Proofs.YtlfhpocfacaaeaaGreat
namespace Go.Proofs.YtlfhpocfacaaeaaGreat
open Go.RowKit
theorem few_len {A : SetV} (h : fewB A = true) : A.ints.length ≤ 40 ∧ A.strs.length ≤ 40 := by
  unfold fewB at h
  rw [Bool.and_eq_true, Bool.and_eq_true, decide_eq_true_eq, decide_eq_true_eq] at h
  exact h.1
end Go.Proofs.YtlfhpocfacaaeaaGreat
namespace Go.Proofs.YtlfhpocfacaaeaaGreat
theorem sameBx_refl (a : BoxV) : sameBx a a = true := (all4_iff _).2 fun i _ => (sameB_iff _ _).2 rfl
end Go.Proofs.YtlfhpocfacaaeaaGreat
namespace Go.Proofs.YtlfhpocfacaaeaaGreat
open Go.RowKit
set_option maxHeartbeats 4000000 in
set_option maxRecDepth 100000 in
theorem refHasBx_any (v : Value) (b : BoxV) (e : EvV) (w : World) (hv : BoxAt w v b) (hf : evFit e) :
    Calls Tryz.prog 51 #[v, evVal e] w fun r w' => r = .returned (.bool (hasE b e)) ∧ Below w.heap.size w w' := by
  obtain ⟨pi0, ps0, pi1, ps1, pi2, ps2, pi3, ps3, ci0, cs0, ci1, cs1, ci2, cs2, ci3, cs3, rfl, h0, h1, h2, h3⟩ := hv
  have EV0 := fun (W : World) => hide (refEvent_any e W hf)
  unfold evVal at EV0 ⊢
  have HR : Hid (hasE b e = (((hasP b.s0 e.v0 && hasP b.s1 e.v1) && hasP b.s2 e.v2) && hasP b.s3 e.v3)) := hide rfl
  have HN : Hid (rightE e = false → hasE b e = false) := hide (fun h => by
    cases hh : hasE b e
    · rfl
    · rw [hasE_iff] at hh
      have : rightE e = true := (all4_iff _).2 fun i hi => has_right (hh i hi)
      rw [h] at this
      cases this)
  have R0 := fun (W : World) (hb : Below w.heap.size w W) => hide (refHas_any _ b.s0 e.v0.1 e.v0.2.1 e.v0.2.2 W (h0.on hb) hf.1)
  have R1 := fun (W : World) (hb : Below w.heap.size w W) => hide (refHas_any _ b.s1 e.v1.1 e.v1.2.1 e.v1.2.2 W (h1.on hb) hf.2.1)
  have R2 := fun (W : World) (hb : Below w.heap.size w W) => hide (refHas_any _ b.s2 e.v2.1 e.v2.2.1 e.v2.2.2 W (h2.on hb) hf.2.2.1)
  have R3 := fun (W : World) (hb : Below w.heap.size w W) => hide (refHas_any _ b.s3 e.v3.1 e.v3.2.1 e.v3.2.2 W (h3.on hb) hf.2.2.2)
  change ∀ (W : World) (hb : Below w.heap.size w W), Hid (Calls _ _ _ _ fun r w' => r = .returned (.bool (hasP b.s0 e.v0)) ∧ _) at R0
  change ∀ (W : World) (hb : Below w.heap.size w W), Hid (Calls _ _ _ _ fun r w' => r = .returned (.bool (hasP b.s1 e.v1)) ∧ _) at R1
  change ∀ (W : World) (hb : Below w.heap.size w W), Hid (Calls _ _ _ _ fun r w' => r = .returned (.bool (hasP b.s2 e.v2)) ∧ _) at R2
  change ∀ (W : World) (hb : Below w.heap.size w W), Hid (Calls _ _ _ _ fun r w' => r = .returned (.bool (hasP b.s3 e.v3)) ∧ _) at R3
  generalize hasP b.s0 e.v0 = q0 at HR R0
  generalize hasP b.s1 e.v1 = q1 at HR R1
  generalize hasP b.s2 e.v2 = q2 at HR R2
  generalize hasP b.s3 e.v3 = q3 at HR R3
  generalize rightE e = re at EV0 HN
  have T0 := hide (Two.start w (Obj.cells #[.bool b.s0.absent, .slice pi0 b.s0.ints.length ci0, .bool b.s0.co, .slice ps0 b.s0.strs.length cs0, .bool b.s1.absent, .slice pi1 b.s1.ints.length ci1, .bool b.s1.co, .slice ps1 b.s1.strs.length cs1, .bool b.s2.absent, .slice pi2 b.s2.ints.length ci2, .bool b.s2.co, .slice ps2 b.s2.strs.length cs2, .bool b.s3.absent, .slice pi3 b.s3.ints.length ci3, .bool b.s3.co, .slice ps3 b.s3.strs.length cs3] 47) (Obj.cells #[.int .i64 e.v0.1, .int .i64 e.v0.2.1, .string e.v0.2.2, .int .i64 e.v1.1, .int .i64 e.v1.2.1, .string e.v1.2.2, .int .i64 e.v2.1, .int .i64 e.v2.2.1, .string e.v2.2.2, .int .i64 e.v3.1, .int .i64 e.v3.2.1, .string e.v3.2.2] 42))
  clear h0 h1 h2 h3 hf
  obtain ⟨f0, f1, f2, f3, f4, f5, f6, f7, f8, f9, f10, f11⟩ := evCells T0.out.e2
  go_enter Tryz.func51, Tryz.ntmps51
  go_wp2_with fail
  refine (unhide (EV0 _)).mono ?_
  rintro r w1 ⟨rfl, b1⟩
  have T1 := hide (T0.out.on b1)
  clear T0 b1 EV0 f0 f1 f2 f3 f4 f5 f6 f7 f8 f9 f10 f11
  cases re
  · have HF := hide (HN.out rfl)
    clear HN
    go_wp2
    go_ret
    exact ⟨ret_bool HF.out.symm, T1.out.b⟩
  · clear HN
    go_wp2
    go_loopw [5] (fun i wr => ∃ k : Int, i = .int .i64 k ∧ (k = 0 ∨ (k = 1 ∧ Hid (q0 = true)) ∨ (k = 2 ∧ Hid (q0 = true ∧ q1 = true)) ∨ (k = 3 ∧ Hid (q0 = true ∧ q1 = true ∧ q2 = true)) ∨ (k = 4 ∧ Hid (hasE b e = true))) ∧ Hid (Two w wr (Obj.cells #[.bool b.s0.absent, .slice pi0 b.s0.ints.length ci0, .bool b.s0.co, .slice ps0 b.s0.strs.length cs0, .bool b.s1.absent, .slice pi1 b.s1.ints.length ci1, .bool b.s1.co, .slice ps1 b.s1.strs.length cs1, .bool b.s2.absent, .slice pi2 b.s2.ints.length ci2, .bool b.s2.co, .slice ps2 b.s2.strs.length cs2, .bool b.s3.absent, .slice pi3 b.s3.ints.length ci3, .bool b.s3.co, .slice ps3 b.s3.strs.length cs3] 47) (Obj.cells #[.int .i64 e.v0.1, .int .i64 e.v0.2.1, .string e.v0.2.2, .int .i64 e.v1.1, .int .i64 e.v1.2.1, .string e.v1.2.2, .int .i64 e.v2.1, .int .i64 e.v2.2.1, .string e.v2.2.2, .int .i64 e.v3.1, .int .i64 e.v3.2.1, .string e.v3.2.2] 42))) (fun i _ => 4 - (intOf i).toNat)
    case atStart => exact ⟨0, rfl, Or.inl rfl, T1⟩
    case round =>
      clear T1
      obtain ⟨k, rfl, hk, HT⟩ := hrel
      rcases hk with rfl | ⟨rfl, HP⟩ | ⟨rfl, HP⟩ | ⟨rfl, HP⟩ | ⟨rfl, HP⟩
      · obtain ⟨c0, c1, c2, c3, c4, c5, c6, c7, c8, c9, c10, c11, c12, c13, c14, c15⟩ := bxCells HT.out.e1
        obtain ⟨d0, d1, d2, d3, d4, d5, d6, d7, d8, d9, d10, d11⟩ := evCells HT.out.e2
        have X := fun (d : Nat) (os : Array Obj) => hide (Calls.regrown_of (R0 (Sort.grow (redrawn wr d) os) (HT.out.b.trans ((below_regrown wr d os).mono HT.out.b.size))).out)
        have p0 := cell_regrown c0
        have p1 := cell_regrown c1
        have p2 := cell_regrown c2
        have p3 := cell_regrown c3
        have p4 := cell_regrown d0
        have p5 := cell_regrown d1
        have p6 := cell_regrown d2
        clear R0 R1 R2 R3 c0 c1 c2 c3 c4 c5 c6 c7 c8 c9 c10 c11 c12 c13 c14 c15 d0 d1 d2 d3 d4 d5 d6 d7 d8 d9 d10 d11
        go_wp2
        refine wp_region_quiet_below mixed (by kernel_rfl) ?_
        repeat (first | go_big_quiet_step (exact unhide (X _ _)) | quiet_step (exact unhide (X _ _)))
        refine wpQuiet_nil ?_
        intro _ hw'
        obtain ⟨⟨dq, osq⟩, hw''⟩ := hw'
        subst hw''
        have HT2 := hide (HT.out.on (below_regrown wr dq osq))
        clear X p0 p1 p2 p3 p4 p5 p6
        dsimp only
        generalize Sort.grow (redrawn wr dq) osq = w2 at HT2 ⊢
        cases hr : q0
        · have HF : Hid (hasE b e = false) := hide (by rw [HR.out, hr]; simp)
          go_wp2
          go_ret
          exact ⟨ret_bool HF.out.symm, HT2.out.b⟩
        · go_wp2
          exact ⟨⟨1, rfl, Or.inr (Or.inl ⟨rfl, hide hr⟩), HT2⟩, by simp [intOf]⟩
      · obtain ⟨c0, c1, c2, c3, c4, c5, c6, c7, c8, c9, c10, c11, c12, c13, c14, c15⟩ := bxCells HT.out.e1
        obtain ⟨d0, d1, d2, d3, d4, d5, d6, d7, d8, d9, d10, d11⟩ := evCells HT.out.e2
        have X := fun (d : Nat) (os : Array Obj) => hide (Calls.regrown_of (R1 (Sort.grow (redrawn wr d) os) (HT.out.b.trans ((below_regrown wr d os).mono HT.out.b.size))).out)
        have p0 := cell_regrown c4
        have p1 := cell_regrown c5
        have p2 := cell_regrown c6
        have p3 := cell_regrown c7
        have p4 := cell_regrown d3
        have p5 := cell_regrown d4
        have p6 := cell_regrown d5
        clear R0 R1 R2 R3 c0 c1 c2 c3 c4 c5 c6 c7 c8 c9 c10 c11 c12 c13 c14 c15 d0 d1 d2 d3 d4 d5 d6 d7 d8 d9 d10 d11
        go_wp2
        refine wp_region_quiet_below mixed (by kernel_rfl) ?_
        repeat (first | go_big_quiet_step (exact unhide (X _ _)) | quiet_step (exact unhide (X _ _)))
        refine wpQuiet_nil ?_
        intro _ hw'
        obtain ⟨⟨dq, osq⟩, hw''⟩ := hw'
        subst hw''
        have HT2 := hide (HT.out.on (below_regrown wr dq osq))
        clear X p0 p1 p2 p3 p4 p5 p6
        dsimp only
        generalize Sort.grow (redrawn wr dq) osq = w2 at HT2 ⊢
        cases hr : q1
        · have HF : Hid (hasE b e = false) := hide (by rw [HR.out, hr]; simp)
          go_wp2
          go_ret
          exact ⟨ret_bool HF.out.symm, HT2.out.b⟩
        · go_wp2
          exact ⟨⟨2, rfl, Or.inr (Or.inr (Or.inl ⟨rfl, hide ⟨HP.out, hr⟩⟩)), HT2⟩, by simp [intOf]⟩
      · obtain ⟨c0, c1, c2, c3, c4, c5, c6, c7, c8, c9, c10, c11, c12, c13, c14, c15⟩ := bxCells HT.out.e1
        obtain ⟨d0, d1, d2, d3, d4, d5, d6, d7, d8, d9, d10, d11⟩ := evCells HT.out.e2
        have X := fun (d : Nat) (os : Array Obj) => hide (Calls.regrown_of (R2 (Sort.grow (redrawn wr d) os) (HT.out.b.trans ((below_regrown wr d os).mono HT.out.b.size))).out)
        have p0 := cell_regrown c8
        have p1 := cell_regrown c9
        have p2 := cell_regrown c10
        have p3 := cell_regrown c11
        have p4 := cell_regrown d6
        have p5 := cell_regrown d7
        have p6 := cell_regrown d8
        clear R0 R1 R2 R3 c0 c1 c2 c3 c4 c5 c6 c7 c8 c9 c10 c11 c12 c13 c14 c15 d0 d1 d2 d3 d4 d5 d6 d7 d8 d9 d10 d11
        go_wp2
        refine wp_region_quiet_below mixed (by kernel_rfl) ?_
        repeat (first | go_big_quiet_step (exact unhide (X _ _)) | quiet_step (exact unhide (X _ _)))
        refine wpQuiet_nil ?_
        intro _ hw'
        obtain ⟨⟨dq, osq⟩, hw''⟩ := hw'
        subst hw''
        have HT2 := hide (HT.out.on (below_regrown wr dq osq))
        clear X p0 p1 p2 p3 p4 p5 p6
        dsimp only
        generalize Sort.grow (redrawn wr dq) osq = w2 at HT2 ⊢
        cases hr : q2
        · have HF : Hid (hasE b e = false) := hide (by rw [HR.out, hr]; simp)
          go_wp2
          go_ret
          exact ⟨ret_bool HF.out.symm, HT2.out.b⟩
        · go_wp2
          exact ⟨⟨3, rfl, Or.inr (Or.inr (Or.inr (Or.inl ⟨rfl, hide ⟨HP.out.1, HP.out.2, hr⟩⟩))), HT2⟩, by simp [intOf]⟩
      · obtain ⟨c0, c1, c2, c3, c4, c5, c6, c7, c8, c9, c10, c11, c12, c13, c14, c15⟩ := bxCells HT.out.e1
        obtain ⟨d0, d1, d2, d3, d4, d5, d6, d7, d8, d9, d10, d11⟩ := evCells HT.out.e2
        have X := fun (d : Nat) (os : Array Obj) => hide (Calls.regrown_of (R3 (Sort.grow (redrawn wr d) os) (HT.out.b.trans ((below_regrown wr d os).mono HT.out.b.size))).out)
        have p0 := cell_regrown c12
        have p1 := cell_regrown c13
        have p2 := cell_regrown c14
        have p3 := cell_regrown c15
        have p4 := cell_regrown d9
        have p5 := cell_regrown d10
        have p6 := cell_regrown d11
        clear R0 R1 R2 R3 c0 c1 c2 c3 c4 c5 c6 c7 c8 c9 c10 c11 c12 c13 c14 c15 d0 d1 d2 d3 d4 d5 d6 d7 d8 d9 d10 d11
        go_wp2
        refine wp_region_quiet_below mixed (by kernel_rfl) ?_
        repeat (first | go_big_quiet_step (exact unhide (X _ _)) | quiet_step (exact unhide (X _ _)))
        refine wpQuiet_nil ?_
        intro _ hw'
        obtain ⟨⟨dq, osq⟩, hw''⟩ := hw'
        subst hw''
        have HT2 := hide (HT.out.on (below_regrown wr dq osq))
        clear X p0 p1 p2 p3 p4 p5 p6
        dsimp only
        generalize Sort.grow (redrawn wr dq) osq = w2 at HT2 ⊢
        cases hr : q3
        · have HF : Hid (hasE b e = false) := hide (by rw [HR.out, hr]; simp)
          go_wp2
          go_ret
          exact ⟨ret_bool HF.out.symm, HT2.out.b⟩
        · go_wp2
          exact ⟨⟨4, rfl, Or.inr (Or.inr (Or.inr (Or.inr ⟨rfl, hide (by rw [HR.out, HP.out.1, HP.out.2.1, HP.out.2.2, hr]; rfl)⟩))), HT2⟩, by simp [intOf]⟩
      · go_wp2
        go_ret
        exact ⟨ret_bool HP.out.symm, HT.out.b⟩
end Go.Proofs.YtlfhpocfacaaeaaGreat
namespace Go.Proofs.YtlfhpocfacaaeaaGreat
open Go.RowKit
def noBox : BoxV := ⟨noSet, noSet, noSet, noSet⟩
def BoxesAt (w : World) (v : Value) (l : List BoxV) : Prop :=
  l.length ≤ 9223372036854775807 ∧ ∃ (a : Option Addr) (cap : Nat), v = .slice a l.length cap ∧ ∀ i, i < l.length → ∃ (g off : Nat) (vi0 vs0 vi1 vs1 vi2 vs2 vi3 vs3 : Value), a = some ⟨g, off, none⟩ ∧ g < w.heap.size ∧
    (w.cell? ⟨g, off + i * 16, none⟩ = some (.bool (l.getD i noBox).s0.absent) ∧ w.cell? ⟨g, off + i * 16 + 1, none⟩ = some (vi0) ∧ w.cell? ⟨g, off + i * 16 + 2, none⟩ = some (.bool (l.getD i noBox).s0.co) ∧ w.cell? ⟨g, off + i * 16 + 3, none⟩ = some (vs0) ∧ w.cell? ⟨g, off + i * 16 + 4, none⟩ = some (.bool (l.getD i noBox).s1.absent) ∧ w.cell? ⟨g, off + i * 16 + 5, none⟩ = some (vi1) ∧ w.cell? ⟨g, off + i * 16 + 6, none⟩ = some (.bool (l.getD i noBox).s1.co) ∧ w.cell? ⟨g, off + i * 16 + 7, none⟩ = some (vs1) ∧ w.cell? ⟨g, off + i * 16 + 8, none⟩ = some (.bool (l.getD i noBox).s2.absent) ∧ w.cell? ⟨g, off + i * 16 + 9, none⟩ = some (vi2) ∧ w.cell? ⟨g, off + i * 16 + 10, none⟩ = some (.bool (l.getD i noBox).s2.co) ∧ w.cell? ⟨g, off + i * 16 + 11, none⟩ = some (vs2) ∧ w.cell? ⟨g, off + i * 16 + 12, none⟩ = some (.bool (l.getD i noBox).s3.absent) ∧ w.cell? ⟨g, off + i * 16 + 13, none⟩ = some (vi3) ∧ w.cell? ⟨g, off + i * 16 + 14, none⟩ = some (.bool (l.getD i noBox).s3.co) ∧ w.cell? ⟨g, off + i * 16 + 15, none⟩ = some (vs3)) ∧ (SetAt w (.agg #[.bool (l.getD i noBox).s0.absent, vi0, .bool (l.getD i noBox).s0.co, vs0]) (l.getD i noBox).s0 ∧ SetAt w (.agg #[.bool (l.getD i noBox).s1.absent, vi1, .bool (l.getD i noBox).s1.co, vs1]) (l.getD i noBox).s1 ∧ SetAt w (.agg #[.bool (l.getD i noBox).s2.absent, vi2, .bool (l.getD i noBox).s2.co, vs2]) (l.getD i noBox).s2 ∧ SetAt w (.agg #[.bool (l.getD i noBox).s3.absent, vi3, .bool (l.getD i noBox).s3.co, vs3]) (l.getD i noBox).s3)
def fewBx (b : BoxV) : Bool := [b.s0, b.s1, b.s2, b.s3].all fewB
theorem four_sets {w : World} {x : BoxV} {vi0 vs0 vi1 vs1 vi2 vs2 vi3 vs3 : Value} (h : SetAt w (.agg #[.bool x.s0.absent, vi0, .bool x.s0.co, vs0]) x.s0 ∧ SetAt w (.agg #[.bool x.s1.absent, vi1, .bool x.s1.co, vs1]) x.s1 ∧ SetAt w (.agg #[.bool x.s2.absent, vi2, .bool x.s2.co, vs2]) x.s2 ∧ SetAt w (.agg #[.bool x.s3.absent, vi3, .bool x.s3.co, vs3]) x.s3) (n : Nat) (hn : n = w.heap.size) : SetsAt (w.alloc (Obj.cells #[.bool x.s0.absent, vi0, .bool x.s0.co, vs0, .bool x.s1.absent, vi1, .bool x.s1.co, vs1, .bool x.s2.absent, vi2, .bool x.s2.co, vs2, .bool x.s3.absent, vi3, .bool x.s3.co, vs3] 25)) (.slice (some ⟨n, 0, none⟩) 4 4) [x.s0, x.s1, x.s2, x.s3] := by
  subst hn
  obtain ⟨h0, h1, h2, h3⟩ := h
  have hb := (Below.refl _ w).alloc (Nat.le_refl _) (Obj.cells #[.bool x.s0.absent, vi0, .bool x.s0.co, vs0, .bool x.s1.absent, vi1, .bool x.s1.co, vs1, .bool x.s2.absent, vi2, .bool x.s2.co, vs2, .bool x.s3.absent, vi3, .bool x.s3.co, vs3] 25)
  have hs : w.heap.size < (w.alloc (Obj.cells #[.bool x.s0.absent, vi0, .bool x.s0.co, vs0, .bool x.s1.absent, vi1, .bool x.s1.co, vs1, .bool x.s2.absent, vi2, .bool x.s2.co, vs2, .bool x.s3.absent, vi3, .bool x.s3.co, vs3] 25)).heap.size := by show _ < (w.heap.push _).size; simp
  have hc := fun j => cell_heap (heap_new w (Obj.cells #[.bool x.s0.absent, vi0, .bool x.s0.co, vs0, .bool x.s1.absent, vi1, .bool x.s1.co, vs1, .bool x.s2.absent, vi2, .bool x.s2.co, vs2, .bool x.s3.absent, vi3, .bool x.s3.co, vs3] 25)) j
  obtain ⟨i0, s0, e0, I0, S0⟩ := h0
  obtain ⟨i1, s1, e1, I1, S1⟩ := h1
  obtain ⟨i2, s2, e2, I2, S2⟩ := h2
  obtain ⟨i3, s3, e3, I3, S3⟩ := h3
  simp at e0 e1 e2 e3
  obtain ⟨rfl, rfl⟩ := e0
  obtain ⟨rfl, rfl⟩ := e1
  obtain ⟨rfl, rfl⟩ := e2
  obtain ⟨rfl, rfl⟩ := e3
  refine ⟨by simp, _, 4, rfl, fun i hi => ?_⟩
  match i, hi with
  | 0, _ => exact ⟨_, 0, _, _, rfl, hs, hc 0, hc 1, hc 2, hc 3, I0.on hb, S0.on hb⟩
  | 1, _ => exact ⟨_, 0, _, _, rfl, hs, hc 4, hc 5, hc 6, hc 7, I1.on hb, S1.on hb⟩
  | 2, _ => exact ⟨_, 0, _, _, rfl, hs, hc 8, hc 9, hc 10, hc 11, I2.on hb, S2.on hb⟩
  | 3, _ => exact ⟨_, 0, _, _, rfl, hs, hc 12, hc 13, hc 14, hc 15, I3.on hb, S3.on hb⟩
set_option maxHeartbeats 8000000 in
set_option maxRecDepth 100000 in
theorem refFewBx_any (v : Value) (l : List BoxV) (w : World) (hv : BoxesAt w v l) :
    Calls Tryz.prog 45 #[v] w fun r w' => r = .returned (.bool (l.all fewBx)) ∧ Below w.heap.size w w' := by
  obtain ⟨hlen, a, cap, rfl, hel⟩ := hv
  have HE := hide hel
  clear hel
  generalize hB : l.all fewBx = B
  have HB0 : Hid ((l.drop 0).all fewBx = B) := hide (by rw [List.drop_zero]; exact hB)
  clear hB
  obtain ⟨N, hN⟩ : ∃ N : Nat, N = l.length := ⟨_, rfl⟩
  rw [← hN] at hlen ⊢
  have HN := hide hN
  clear hN
  go_enter Tryz.func45, Tryz.ntmps45
  go_wp2
  go_loopw [3] (fun i wr => ∃ k : Nat, i = .int .i64 k ∧ k ≤ N ∧ Hid (Below w.heap.size w wr) ∧ Hid ((l.drop k).all fewBx = B)) (fun i _ => N - (intOf i).toNat)
  case atStart => exact ⟨0, rfl, by omega, hide (Below.refl _ _), HB0⟩
  case round =>
    clear HB0
    obtain ⟨k, rfl, hk, HW, HD⟩ := hrel
    by_cases hlt : k < N
    · have hk' : k < l.length := by rw [← HN.out]; exact hlt
      obtain ⟨g, off, vi0, vs0, vi1, vs1, vi2, vs2, vi3, vs3, ha, hg, ⟨c0, c1, c2, c3, c4, c5, c6, c7, c8, c9, c10, c11, c12, c13, c14, c15⟩, hs0, hs1, hs2, hs3⟩ := HE.out k hk'
      subst ha
      have D0 := HD.out
      rw [drop_getD l k noBox hk', List.all_cons] at D0
      generalize l.getD k noBox = x at *
      have HD0 := hide D0
      clear D0 HD HE
      replace c0 := (HW.out.cell (p := ⟨g, _, none⟩) hg).trans c0
      replace c1 := (HW.out.cell (p := ⟨g, _, none⟩) hg).trans c1
      replace c2 := (HW.out.cell (p := ⟨g, _, none⟩) hg).trans c2
      replace c3 := (HW.out.cell (p := ⟨g, _, none⟩) hg).trans c3
      replace c4 := (HW.out.cell (p := ⟨g, _, none⟩) hg).trans c4
      replace c5 := (HW.out.cell (p := ⟨g, _, none⟩) hg).trans c5
      replace c6 := (HW.out.cell (p := ⟨g, _, none⟩) hg).trans c6
      replace c7 := (HW.out.cell (p := ⟨g, _, none⟩) hg).trans c7
      replace c8 := (HW.out.cell (p := ⟨g, _, none⟩) hg).trans c8
      replace c9 := (HW.out.cell (p := ⟨g, _, none⟩) hg).trans c9
      replace c10 := (HW.out.cell (p := ⟨g, _, none⟩) hg).trans c10
      replace c11 := (HW.out.cell (p := ⟨g, _, none⟩) hg).trans c11
      replace c12 := (HW.out.cell (p := ⟨g, _, none⟩) hg).trans c12
      replace c13 := (HW.out.cell (p := ⟨g, _, none⟩) hg).trans c13
      replace c14 := (HW.out.cell (p := ⟨g, _, none⟩) hg).trans c14
      replace c15 := (HW.out.cell (p := ⟨g, _, none⟩) hg).trans c15
      have F := hide (four_sets (w := wr) ⟨hs0.on HW.out, hs1.on HW.out, hs2.on HW.out, hs3.on HW.out⟩ wr.heap.size rfl)
      obtain ⟨a0, m0, r0, a1, m1, r1, rfl, rfl⟩ := hs0.slices
      obtain ⟨a2, m2, r2, a3, m3, r3, rfl, rfl⟩ := hs1.slices
      obtain ⟨a4, m4, r4, a5, m5, r5, rfl, rfl⟩ := hs2.slices
      obtain ⟨a6, m6, r6, a7, m7, r7, rfl, rfl⟩ := hs3.slices
      clear hs0 hs1 hs2 hs3
      have FW := fun (W : World) (y : Value) (h : SetsAt W y [x.s0, x.s1, x.s2, x.s3]) => hide (refFew_any y _ W h)
      change ∀ (W : World) (y : Value) (h : SetsAt W y [x.s0, x.s1, x.s2, x.s3]), Hid (Calls _ _ _ _ fun r w' => r = .returned (.bool (fewBx x)) ∧ _) at FW
      generalize fewBx x = q at HD0 FW
      have hg' : g < wr.heap.size := Nat.lt_of_lt_of_le hg HW.out.size
      have PH1 := True.intro
      go_wp2
      go_region_held3 (fun w' => w'.cell? ⟨g, off + k * 16, none⟩ = some (.bool x.s0.absent) ∧ w'.cell? ⟨g, off + k * 16 + 1, none⟩ = some (.slice a0 m0 r0) ∧ w'.cell? ⟨g, off + k * 16 + 2, none⟩ = some (.bool x.s0.co) ∧ w'.cell? ⟨g, off + k * 16 + 3, none⟩ = some (.slice a1 m1 r1) ∧ w'.cell? ⟨g, off + k * 16 + 4, none⟩ = some (.bool x.s1.absent) ∧ w'.cell? ⟨g, off + k * 16 + 5, none⟩ = some (.slice a2 m2 r2) ∧ w'.cell? ⟨g, off + k * 16 + 6, none⟩ = some (.bool x.s1.co) ∧ w'.cell? ⟨g, off + k * 16 + 7, none⟩ = some (.slice a3 m3 r3) ∧ w'.cell? ⟨g, off + k * 16 + 8, none⟩ = some (.bool x.s2.absent) ∧ w'.cell? ⟨g, off + k * 16 + 9, none⟩ = some (.slice a4 m4 r4) ∧ w'.cell? ⟨g, off + k * 16 + 10, none⟩ = some (.bool x.s2.co) ∧ w'.cell? ⟨g, off + k * 16 + 11, none⟩ = some (.slice a5 m5 r5) ∧ w'.cell? ⟨g, off + k * 16 + 12, none⟩ = some (.bool x.s3.absent) ∧ w'.cell? ⟨g, off + k * 16 + 13, none⟩ = some (.slice a6 m6 r6) ∧ w'.cell? ⟨g, off + k * 16 + 14, none⟩ = some (.bool x.s3.co) ∧ w'.cell? ⟨g, off + k * 16 + 15, none⟩ = some (.slice a7 m7 r7)) (first | go_keep | (refine ⟨?_, ?_, ?_, ?_, ?_, ?_, ?_, ?_, ?_, ?_, ?_, ?_, ?_, ?_, ?_, ?_⟩ <;> assumption))
        ((first
          | (go_at_call 60; have pz := PH1; clear pz PH1; refine (unhide (FW _ _ ?_)).mono ?_; exact F.out; rintro r w2 ⟨rfl, hw2⟩; subst hw2; have PH2 := True.intro; clear F)))
      have B9 := hide ((HW.out.alloc HW.out.size (Obj.cells #[.bool x.s0.absent, .slice a0 m0 r0, .bool x.s0.co, .slice a1 m1 r1, .bool x.s1.absent, .slice a2 m2 r2, .bool x.s1.co, .slice a3 m3 r3, .bool x.s2.absent, .slice a4 m4 r4, .bool x.s2.co, .slice a5 m5 r5, .bool x.s3.absent, .slice a6 m6 r6, .bool x.s3.co, .slice a7 m7 r7] 25)).drew)
      generalize (wr.alloc (Obj.cells #[.bool x.s0.absent, .slice a0 m0 r0, .bool x.s0.co, .slice a1 m1 r1, .bool x.s1.absent, .slice a2 m2 r2, .bool x.s1.co, .slice a3 m3 r3, .bool x.s2.absent, .slice a4 m4 r4, .bool x.s2.co, .slice a5 m5 r5, .bool x.s3.absent, .slice a6 m6 r6, .bool x.s3.co, .slice a7 m7 r7] 25)).drew = w9 at B9 ⊢
      cases q
      · have E : Hid (B = false) := hide (by rw [← HD0.out]; rfl)
        go_wp2
        go_ret
        exact ⟨ret_bool E.out.symm, B9.out⟩
      · have E : Hid ((l.drop (k + 1)).all fewBx = B) := hide (by rw [← HD0.out]; rfl)
        go_wp2
        exact ⟨⟨k + 1, by go_num, by omega, B9, E⟩, by simp [intOf]; omega⟩
    · have hge : (N : Int) ≤ (k : Int) := by omega
      have E : Hid (B = true) := hide (by rw [← HD.out, List.drop_eq_nil_of_le (by have := HN.out; omega)]; rfl)
      go_wp2
      go_ret
      exact ⟨ret_bool E.out.symm, HW.out⟩
end Go.Proofs.YtlfhpocfacaaeaaGreat
namespace Go.Proofs.YtlfhpocfacaaeaaGreat
open Go.RowKit
section
variable {ops : Array Oper} {Q : Exit → Act → World → Prop} {S : World → Prop} {o : Oper} {a : Act}
theorem wl_skip {rest : List Oper} {w : World} (hw : Region.wanted o (yielded ops a.tmps) = true) (w' : World) (hr : (execOp a.eval o).run Tryz.prog w = .ok .skip w') (h : wpList Tryz.prog ops Q rest (a.put o.dst undef) w') : wpList Tryz.prog ops Q (o :: rest) a w := by
  unfold wpList
  rw [if_pos hw]
  left
  unfold Oper.wp
  rw [hr]
  exact h
end
end Go.Proofs.YtlfhpocfacaaeaaGreat
namespace Go.Proofs.YtlfhpocfacaaeaaGreat
theorem filter_range_mono (p : Nat → Bool) (n : Nat) : ∀ i k, i < k → k < ((List.range n).filter p).length → ((List.range n).filter p).getD i 0 < ((List.range n).filter p).getD k 0 := by
  intro i k hik hk
  have hs : ((List.range n).filter p).Pairwise (· < ·) := List.Pairwise.filter p List.pairwise_lt_range
  rw [List.getD_eq_getElem?_getD, List.getD_eq_getElem?_getD, List.getElem?_eq_getElem (by omega), List.getElem?_eq_getElem hk]
  exact List.pairwise_iff_getElem.1 hs i k (by omega) hk hik
theorem tidy_at (l : List BoxV) (i : Nat) (h : i < (tidyL l).length) : (tidyL l).getD i zBox = l.getD (((List.range l.length).filter (keepL l)).getD i 0) zBox ∧ ((List.range l.length).filter (keepL l)).getD i 0 < l.length ∧ keepL l (((List.range l.length).filter (keepL l)).getD i 0) = true := by
  have h' : i < ((List.range l.length).filter (keepL l)).length := by unfold tidyL at h; rwa [List.length_map] at h
  have hm : ((List.range l.length).filter (keepL l)).getD i 0 ∈ (List.range l.length).filter (keepL l) := by
    rw [List.getD_eq_getElem?_getD, List.getElem?_eq_getElem h']
    exact List.getElem_mem _
  obtain ⟨m1, m2⟩ := List.mem_filter.1 hm
  refine ⟨?_, List.mem_range.1 m1, m2⟩
  unfold tidyL
  rw [List.getD_eq_getElem?_getD, List.getElem?_map, List.getElem?_eq_getElem h', List.getD_eq_getElem?_getD, List.getD_eq_getElem?_getD, List.getElem?_eq_getElem h']
  rfl
theorem tidy_keeps (l : List BoxV) (i : Nat) (h : i < (tidyL l).length) : keepL (tidyL l) i = true := by
  have hlen : (tidyL l).length = ((List.range l.length).filter (keepL l)).length := by unfold tidyL; rw [List.length_map]
  have hord : ∀ a b, a < b → b < (tidyL l).length → ((List.range l.length).filter (keepL l)).getD a 0 < ((List.range l.length).filter (keepL l)).getD b 0 := fun a b h1 h2 => filter_range_mono _ _ a b h1 (by omega)
  have hat := tidy_at l
  generalize (List.range l.length).filter (keepL l) = idx at hord hat
  generalize tidyL l = t at *
  clear hlen
  obtain ⟨e1, l1, k1⟩ := hat i h
  unfold keepL at k1 ⊢
  rw [Bool.and_eq_true, List.all_eq_true] at k1
  rw [Bool.and_eq_true, List.all_eq_true]
  refine ⟨by rw [e1]; exact k1.1, fun k hk => ?_⟩
  have hk' := List.mem_range.1 hk
  obtain ⟨e2, l2, _⟩ := hat k hk'
  have hb := k1.2 _ (List.mem_range.2 l2)
  unfold betterL at hb ⊢
  rw [e1, e2]
  by_cases hki : k = i
  · subst hki; simp
  · have hne : idx.getD k 0 ≠ idx.getD i 0 := by
      rcases Nat.lt_or_gt_of_ne hki with h1 | h1
      · have := hord k i h1 h; omega
      · have := hord i k h1 hk'; omega
    have hlt : decide (idx.getD k 0 < idx.getD i 0) = decide (k < i) := by
      rcases Nat.lt_or_gt_of_ne hki with h1 | h1
      · have := hord k i h1 h
        rw [decide_eq_true h1, decide_eq_true this]
      · have := hord i k h1 hk'
        rw [decide_eq_false (by omega), decide_eq_false (by omega)]
    rw [hlt, show (idx.getD k 0 != idx.getD i 0) = true by simpa using hne] at hb
    rw [show (k != i) = true by simpa using hki]
    exact hb
theorem tidy_idem (l : List BoxV) : tidyL (tidyL l) = tidyL l := by
  have hf : (List.range (tidyL l).length).filter (keepL (tidyL l)) = List.range (tidyL l).length := List.filter_eq_self.2 fun i hi => tidy_keeps l i (List.mem_range.1 hi)
  have H : ∀ t : List BoxV, (List.range t.length).map (fun i => t.getD i zBox) = t := fun t => by
    apply List.ext_getElem
    · simp
    · intro i h1 h2
      simp only [List.getElem_map, List.getElem_range]
      rw [List.getD_eq_getElem?_getD, List.getElem?_eq_getElem h2]
      rfl
  rw [show tidyL (tidyL l) = ((List.range (tidyL l).length).filter (keepL (tidyL l))).map (fun i => (tidyL l).getD i zBox) from rfl, hf, H]
end Go.Proofs.YtlfhpocfacaaeaaGreat
namespace Go.Proofs.YtlfhpocfacaaeaaGreat
open Go.RowKit
theorem fewBx_iff (b : BoxV) : fewBx b = true ↔ ∀ i, i < 4 → fewB (b.get i) = true := by
  unfold fewBx
  simp only [List.all_cons, List.all_nil, Bool.and_true, Bool.and_eq_true]
  constructor
  · rintro ⟨h0, h1, h2, h3⟩ i hi
    match i, hi with
    | 0, _ => exact h0
    | 1, _ => exact h1
    | 2, _ => exact h2
    | 3, _ => exact h3
  · intro h
    exact ⟨h 0 (by omega), h 1 (by omega), h 2 (by omega), h 3 (by omega)⟩
theorem few_of {w : World} {v : Value} {b : BoxV} (h : BoxAt w v b) (hf : fewBx b = true) (hr : rightBx b = true) : FewB b := by
  have f := (fewBx_iff b).1 hf
  have r := (all4_iff _).1 hr
  have i := h.i64
  exact ⟨⟨fun j hj => ⟨r j hj, i j hj⟩, fun j hj => by have := (few_len (f j hj)).2; omega⟩, fun j hj => (few_len (f j hj)).1, fun j hj => (few_len (f j hj)).2⟩
end Go.Proofs.YtlfhpocfacaaeaaGreat
namespace Go.Proofs.YtlfhpocfacaaeaaGreat
open Go.RowKit
section
variable {ops : Array Oper} {Q : Exit → Act → World → Prop} {S : World → Prop} {o : Oper} {a : Act}
end
def sameF (f g : List BoxV) : Bool := decide (f.length = g.length) && (List.range f.length).all fun i => sameBx (f.getD i zBox) (g.getD i zBox)
end Go.Proofs.YtlfhpocfacaaeaaGreat
