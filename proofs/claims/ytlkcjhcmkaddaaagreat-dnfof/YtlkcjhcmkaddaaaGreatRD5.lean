import Derived.Test.YtlkcjhcmkaddaaaGreatRD4
import Derived.Test.YtlkcjhcmkaddaaaGreatRD3
import Derived.Lib.MinMax
import Derived.BigRegion
import Derived.Deep.CutRange
import Derived.Test.YtlkcjhcmkaddaaaGreatRD1
import Derived.Shelf.SlSortCmp.WholeK
import Derived.Shelf.Small.Bits
import Derived.Shelf.Small.Strs
import Derived.Shelf.Small.Wraps
import Derived.Shelf.Strconv.Itoa0
import Derived.Shelf.Strconv.Itoa1
import Derived.Shelf.LaysM
import Derived.Shelf.Strconv.Itoa2
import Derived.Shelf.Strconv.Itoa3
import Derived.Shelf.LaysC
import Derived.Shelf.Sort.Plain
import Derived.Shelf.Slices.Clone
import Derived.Shelf.Slices.CompactI
import Derived.Shelf.Slices.CompactS
import Derived.Shelf.Slices.In.SortNone
import Derived.Test.YtlkcjhcmkaddaaaGreatProg
import Derived.Sort.OwnSorted
import Derived.Lib.OwnBridge
import Derived.Deep.RegionHeld3
set_option linter.unusedSimpArgs false
set_option linter.unusedVariables false
namespace Go.Proofs.YtlkcjhcmkaddaaaGreat
open Go.RowKit
set_option maxRecDepth 100000 in
theorem run_at0 (w : World) (s0 s1 s2 s3 : SC) : (Instr.index 54 (.agg #[.bool s0.a, .slice s0.p s0.n s0.c, .bool s0.d, .slice s0.q s0.m s0.e, .bool s1.a, .slice s1.p s1.n s1.c, .bool s1.d, .slice s1.q s1.m s1.e, .bool s2.a, .slice s2.p s2.n s2.c, .bool s2.d, .slice s2.q s2.m s2.e, .bool s3.a, .slice s3.p s3.n s3.c, .bool s3.d, .slice s3.q s3.m s3.e]) (.int .i64 0)).run Tryz.prog w = .ok (.agg #[.bool s0.a, .slice s0.p s0.n s0.c, .bool s0.d, .slice s0.q s0.m s0.e]) w := by
 simp [Instr.index, run_underlying Tryz.underlying54, asIntOf, go_sem, part]
set_option maxRecDepth 100000 in
theorem run_at1 (w : World) (s0 s1 s2 s3 : SC) : (Instr.index 54 (.agg #[.bool s0.a, .slice s0.p s0.n s0.c, .bool s0.d, .slice s0.q s0.m s0.e, .bool s1.a, .slice s1.p s1.n s1.c, .bool s1.d, .slice s1.q s1.m s1.e, .bool s2.a, .slice s2.p s2.n s2.c, .bool s2.d, .slice s2.q s2.m s2.e, .bool s3.a, .slice s3.p s3.n s3.c, .bool s3.d, .slice s3.q s3.m s3.e]) (.int .i64 1)).run Tryz.prog w = .ok (.agg #[.bool s1.a, .slice s1.p s1.n s1.c, .bool s1.d, .slice s1.q s1.m s1.e]) w := by
 simp [Instr.index, run_underlying Tryz.underlying54, asIntOf, go_sem, part]
set_option maxRecDepth 100000 in
theorem run_at2 (w : World) (s0 s1 s2 s3 : SC) : (Instr.index 54 (.agg #[.bool s0.a, .slice s0.p s0.n s0.c, .bool s0.d, .slice s0.q s0.m s0.e, .bool s1.a, .slice s1.p s1.n s1.c, .bool s1.d, .slice s1.q s1.m s1.e, .bool s2.a, .slice s2.p s2.n s2.c, .bool s2.d, .slice s2.q s2.m s2.e, .bool s3.a, .slice s3.p s3.n s3.c, .bool s3.d, .slice s3.q s3.m s3.e]) (.int .i64 2)).run Tryz.prog w = .ok (.agg #[.bool s2.a, .slice s2.p s2.n s2.c, .bool s2.d, .slice s2.q s2.m s2.e]) w := by
 simp [Instr.index, run_underlying Tryz.underlying54, asIntOf, go_sem, part]
set_option maxRecDepth 100000 in
theorem run_at3 (w : World) (s0 s1 s2 s3 : SC) : (Instr.index 54 (.agg #[.bool s0.a, .slice s0.p s0.n s0.c, .bool s0.d, .slice s0.q s0.m s0.e, .bool s1.a, .slice s1.p s1.n s1.c, .bool s1.d, .slice s1.q s1.m s1.e, .bool s2.a, .slice s2.p s2.n s2.c, .bool s2.d, .slice s2.q s2.m s2.e, .bool s3.a, .slice s3.p s3.n s3.c, .bool s3.d, .slice s3.q s3.m s3.e]) (.int .i64 3)).run Tryz.prog w = .ok (.agg #[.bool s3.a, .slice s3.p s3.n s3.c, .bool s3.d, .slice s3.q s3.m s3.e]) w := by
 simp [Instr.index, run_underlying Tryz.underlying54, asIntOf, go_sem, part]
set_option maxHeartbeats 4000000 in
set_option maxRecDepth 100000 in
theorem boxEmpty_any (P : SetProg) (v : Value) (b : BoxV) (w : World) (hv : BoxAt w v b) (fb : FitBx b) :
  Calls Tryz.prog 61 #[v] w fun r w' => r = .returned (.bool (emptyBx b)) ∧ Below w.heap.size w w' := by
 obtain ⟨s0, s1, s2, s3, rfl, h0, h1, h2, h3⟩ := hv.scs;have E0 := fun (W : World) (hb : Below w.heap.size w W) => hide (P.empty _ b.s0 W (h0.on hb) (fb.fit 0 (by omega)))
 have E1 := fun (W : World) (hb : Below w.heap.size w W) => hide (P.empty _ b.s1 W (h1.on hb) (fb.fit 1 (by omega)))
 have E2 := fun (W : World) (hb : Below w.heap.size w W) => hide (P.empty _ b.s2 W (h2.on hb) (fb.fit 2 (by omega)))
 have E3 := fun (W : World) (hb : Below w.heap.size w W) => hide (P.empty _ b.s3 W (h3.on hb) (fb.fit 3 (by omega)))
 unfold SC.val at E0 E1 E2 E3;have HR : Hid (emptyBx b = (((emptyB b.s0 || emptyB b.s1) || emptyB b.s2) || emptyB b.s3)) := hide (by
  unfold emptyBx all4;show (!(((!emptyB b.s0 && !emptyB b.s1) && !emptyB b.s2) && !emptyB b.s3)) = _;cases emptyB b.s0 <;> cases emptyB b.s1 <;> cases emptyB b.s2 <;> cases emptyB b.s3 <;> rfl)
 generalize emptyB b.s0 = q0 at HR E0;generalize emptyB b.s1 = q1 at HR E1;generalize emptyB b.s2 = q2 at HR E2;generalize emptyB b.s3 = q3 at HR E3;have B0 := hide ((Below.refl _ w).alloc (Nat.le_refl _) (Obj.cells #[.bool s0.a, .slice s0.p s0.n s0.c, .bool s0.d, .slice s0.q s0.m s0.e, .bool s1.a, .slice s1.p s1.n s1.c, .bool s1.d, .slice s1.q s1.m s1.e, .bool s2.a, .slice s2.p s2.n s2.c, .bool s2.d, .slice s2.q s2.m s2.e, .bool s3.a, .slice s3.p s3.n s3.c, .bool s3.d, .slice s3.q s3.m s3.e] 54));clear hv fb h0 h1 h2 h3;unfold bxVal;go_enter Tryz.func61, Tryz.ntmps61
 go_wp2
 go_loopw [6] (fun i wr => ∃ k : Int, i = .int .i64 k ∧ (k = 0 ∨ (k = 1 ∧ Hid (q0 = false)) ∨ (k = 2 ∧ Hid (q0 = false ∧ q1 = false)) ∨ (k = 3 ∧ Hid (q0 = false ∧ q1 = false ∧ q2 = false)) ∨ (k = 4 ∧ Hid (q0 = false ∧ q1 = false ∧ q2 = false ∧ q3 = false))) ∧ Hid (Below w.heap.size w wr)) (fun i _ => 4 - (intOf i).toNat)
 case atStart => exact ⟨0, rfl, Or.inl rfl, B0⟩
 case round =>
  clear B0;obtain ⟨k, rfl, hk, HB⟩ := hrel;rcases hk with rfl | ⟨rfl, HP⟩ | ⟨rfl, HP⟩ | ⟨rfl, HP⟩ | ⟨rfl, HP⟩
  ·have X := E0 _ (HB.out.alloc HB.out.size (Obj.cells #[.bool s0.a, .slice s0.p s0.n s0.c, .bool s0.d, .slice s0.q s0.m s0.e] 25));have B1 := hide (HB.out.alloc HB.out.size (Obj.cells #[.bool s0.a, .slice s0.p s0.n s0.c, .bool s0.d, .slice s0.q s0.m s0.e] 25));have RX := run_at0 wr s0 s1 s2 s3;clear E0 E1 E2 E3
   go_wp2_with fail
   refine (unhide X).mono ?_;rintro r w2 ⟨rfl, b2⟩;have B2 := hide (B1.out.trans (b2.mono B1.out.size));clear X b2 B1;cases hr : q0
   ·go_wp2
    exact ⟨⟨1, rfl, Or.inr (Or.inl ⟨rfl, hide hr⟩), B2⟩, by simp [intOf]⟩
   ·have HF : Hid (emptyBx b = true) := hide (by rw [HR.out, hr]; simp)
    go_wp2
    go_ret
    exact ⟨ret_bool HF.out.symm, B2.out⟩
  ·have X := E1 _ (HB.out.alloc HB.out.size (Obj.cells #[.bool s1.a, .slice s1.p s1.n s1.c, .bool s1.d, .slice s1.q s1.m s1.e] 25));have B1 := hide (HB.out.alloc HB.out.size (Obj.cells #[.bool s1.a, .slice s1.p s1.n s1.c, .bool s1.d, .slice s1.q s1.m s1.e] 25));have RX := run_at1 wr s0 s1 s2 s3;clear E0 E1 E2 E3
   go_wp2_with fail
   refine (unhide X).mono ?_;rintro r w2 ⟨rfl, b2⟩;have B2 := hide (B1.out.trans (b2.mono B1.out.size));clear X b2 B1;cases hr : q1
   ·go_wp2
    exact ⟨⟨2, rfl, Or.inr (Or.inr (Or.inl ⟨rfl, hide ⟨HP.out, hr⟩⟩)), B2⟩, by simp [intOf]⟩
   ·have HF : Hid (emptyBx b = true) := hide (by rw [HR.out, hr]; simp)
    go_wp2
    go_ret
    exact ⟨ret_bool HF.out.symm, B2.out⟩
  ·have X := E2 _ (HB.out.alloc HB.out.size (Obj.cells #[.bool s2.a, .slice s2.p s2.n s2.c, .bool s2.d, .slice s2.q s2.m s2.e] 25));have B1 := hide (HB.out.alloc HB.out.size (Obj.cells #[.bool s2.a, .slice s2.p s2.n s2.c, .bool s2.d, .slice s2.q s2.m s2.e] 25));have RX := run_at2 wr s0 s1 s2 s3;clear E0 E1 E2 E3
   go_wp2_with fail
   refine (unhide X).mono ?_;rintro r w2 ⟨rfl, b2⟩;have B2 := hide (B1.out.trans (b2.mono B1.out.size));clear X b2 B1;cases hr : q2
   ·go_wp2
    exact ⟨⟨3, rfl, Or.inr (Or.inr (Or.inr (Or.inl ⟨rfl, hide ⟨HP.out.1, HP.out.2, hr⟩⟩))), B2⟩, by simp [intOf]⟩
   ·have HF : Hid (emptyBx b = true) := hide (by rw [HR.out, hr]; simp)
    go_wp2
    go_ret
    exact ⟨ret_bool HF.out.symm, B2.out⟩
  ·have X := E3 _ (HB.out.alloc HB.out.size (Obj.cells #[.bool s3.a, .slice s3.p s3.n s3.c, .bool s3.d, .slice s3.q s3.m s3.e] 25));have B1 := hide (HB.out.alloc HB.out.size (Obj.cells #[.bool s3.a, .slice s3.p s3.n s3.c, .bool s3.d, .slice s3.q s3.m s3.e] 25));have RX := run_at3 wr s0 s1 s2 s3;clear E0 E1 E2 E3
   go_wp2_with fail
   refine (unhide X).mono ?_;rintro r w2 ⟨rfl, b2⟩;have B2 := hide (B1.out.trans (b2.mono B1.out.size));clear X b2 B1;cases hr : q3
   ·go_wp2
    exact ⟨⟨4, rfl, Or.inr (Or.inr (Or.inr (Or.inr (⟨rfl, hide ⟨HP.out.1, HP.out.2.1, HP.out.2.2, hr⟩⟩)))), B2⟩, by simp [intOf]⟩
   ·have HF : Hid (emptyBx b = true) := hide (by rw [HR.out, hr]; simp)
    go_wp2
    go_ret
    exact ⟨ret_bool HF.out.symm, B2.out⟩
  ·have HF : Hid (emptyBx b = false) := hide (by rw [HR.out, HP.out.1, HP.out.2.1, HP.out.2.2.1, HP.out.2.2.2]; rfl)
   go_wp2
   go_ret
   exact ⟨ret_bool HF.out.symm, HB.out⟩
set_option maxHeartbeats 4000000 in
set_option maxRecDepth 100000 in
theorem setsIn_any (P : SetProg) (v u : Value) (a b : BoxV) (w : World) (hv : BoxAt w v a) (hu : BoxAt w u b) (fa : FitBx a) (fb : FitBx b) :
  Calls Tryz.prog 88 #[v, u] w fun r w' => r = .returned (.bool (all4 fun i => inB (a.get i) (b.get i))) ∧ Below w.heap.size w w' := by
 obtain ⟨a0, a1, a2, a3, rfl, ha0, ha1, ha2, ha3⟩ := hv.scs;obtain ⟨b0, b1, b2, b3, rfl, hb0, hb1, hb2, hb3⟩ := hu.scs;have I0 := fun (W : World) (hb : Below w.heap.size w W) => hide (P.in_ _ _ a.s0 b.s0 W (ha0.on hb) (hb0.on hb) (fa.fit 0 (by omega)) (fb.fit 0 (by omega)))
 have I1 := fun (W : World) (hb : Below w.heap.size w W) => hide (P.in_ _ _ a.s1 b.s1 W (ha1.on hb) (hb1.on hb) (fa.fit 1 (by omega)) (fb.fit 1 (by omega)))
 have I2 := fun (W : World) (hb : Below w.heap.size w W) => hide (P.in_ _ _ a.s2 b.s2 W (ha2.on hb) (hb2.on hb) (fa.fit 2 (by omega)) (fb.fit 2 (by omega)))
 have I3 := fun (W : World) (hb : Below w.heap.size w W) => hide (P.in_ _ _ a.s3 b.s3 W (ha3.on hb) (hb3.on hb) (fa.fit 3 (by omega)) (fb.fit 3 (by omega)))
 have HR : Hid ((all4 fun i => inB (a.get i) (b.get i)) = (((inB a.s0 b.s0 && inB a.s1 b.s1) && inB a.s2 b.s2) && inB a.s3 b.s3)) := hide rfl;generalize (all4 fun i => inB (a.get i) (b.get i)) = R at HR ⊢;generalize inB a.s0 b.s0 = q0 at HR I0;generalize inB a.s1 b.s1 = q1 at HR I1;generalize inB a.s2 b.s2 = q2 at HR I2;generalize inB a.s3 b.s3 = q3 at HR I3;have T0 := hide (Two.start w (Obj.cells #[.bool a0.a, .slice a0.p a0.n a0.c, .bool a0.d, .slice a0.q a0.m a0.e, .bool a1.a, .slice a1.p a1.n a1.c, .bool a1.d, .slice a1.q a1.m a1.e, .bool a2.a, .slice a2.p a2.n a2.c, .bool a2.d, .slice a2.q a2.m a2.e, .bool a3.a, .slice a3.p a3.n a3.c, .bool a3.d, .slice a3.q a3.m a3.e] 54) (Obj.cells #[.bool b0.a, .slice b0.p b0.n b0.c, .bool b0.d, .slice b0.q b0.m b0.e, .bool b1.a, .slice b1.p b1.n b1.c, .bool b1.d, .slice b1.q b1.m b1.e, .bool b2.a, .slice b2.p b2.n b2.c, .bool b2.d, .slice b2.q b2.m b2.e, .bool b3.a, .slice b3.p b3.n b3.c, .bool b3.d, .slice b3.q b3.m b3.e] 54));clear hv hu fa fb ha0 ha1 ha2 ha3 hb0 hb1 hb2 hb3;unfold bxVal;go_enter Tryz.func88, Tryz.ntmps88
 go_wp2
 go_loopw [6] (fun i wr => ∃ k : Int, i = .int .i64 k ∧ (k = 0 ∨ (k = 1 ∧ Hid (q0 = true)) ∨ (k = 2 ∧ Hid (q0 = true ∧ q1 = true)) ∨ (k = 3 ∧ Hid (q0 = true ∧ q1 = true ∧ q2 = true)) ∨ (k = 4 ∧ Hid (q0 = true ∧ q1 = true ∧ q2 = true ∧ q3 = true))) ∧ Hid (Two w wr (Obj.cells #[.bool a0.a, .slice a0.p a0.n a0.c, .bool a0.d, .slice a0.q a0.m a0.e, .bool a1.a, .slice a1.p a1.n a1.c, .bool a1.d, .slice a1.q a1.m a1.e, .bool a2.a, .slice a2.p a2.n a2.c, .bool a2.d, .slice a2.q a2.m a2.e, .bool a3.a, .slice a3.p a3.n a3.c, .bool a3.d, .slice a3.q a3.m a3.e] 54) (Obj.cells #[.bool b0.a, .slice b0.p b0.n b0.c, .bool b0.d, .slice b0.q b0.m b0.e, .bool b1.a, .slice b1.p b1.n b1.c, .bool b1.d, .slice b1.q b1.m b1.e, .bool b2.a, .slice b2.p b2.n b2.c, .bool b2.d, .slice b2.q b2.m b2.e, .bool b3.a, .slice b3.p b3.n b3.c, .bool b3.d, .slice b3.q b3.m b3.e] 54))) (fun i _ => 4 - (intOf i).toNat)
 case atStart => exact ⟨0, rfl, Or.inl rfl, T0⟩
 case round =>
  clear T0;obtain ⟨k, rfl, hk, HT⟩ := hrel;rcases hk with rfl | ⟨rfl, HP⟩ | ⟨rfl, HP⟩ | ⟨rfl, HP⟩ | ⟨rfl, HP⟩
  ·go_wp2
   refine wp_region_held_drew (S := fun w' => BxIn w' (w.heap.size) a0 a1 a2 a3 ∧ BxIn w' (w.heap.size + 1) b0 b1 b2 b3) (by kernel_rfl) ⟨HT.out.e1, HT.out.e2⟩ (fun hHeld => ?_);refine wpAnyH_take (i := 0) (oi := .mk ..) (v := .int .i64 0) rfl (by kernel_rfl) (by kernel_rfl) (by kernel_rfl) (fun _ _ _ h => h) (yl_move (by rfl) _ rfl _ rfl) (by assumption) ?_;simp only [lp, lz];refine wpAnyH_take (i := 1) (oi := .mk ..) (v := .pointer (some ⟨w.heap.size, 0, none⟩)) rfl (by kernel_rfl) (by kernel_rfl) (by kernel_rfl) (fun _ _ _ h => h) (yl_atBox (by rfl) _ _ rfl _ 0 rfl rfl (by omega)) (by assumption) ?_;simp only [lp, lz];refine wpAnyH_take (i := 2) (oi := .mk ..) (v := .agg #[.bool a0.a, .slice a0.p a0.n a0.c, .bool a0.d, .slice a0.q a0.m a0.e]) rfl (by kernel_rfl) (by kernel_rfl) (by kernel_rfl) (fun _ _ _ h => h) (yl_set (by rfl) _ rfl _ 0 rfl _ _ _ _ (fun w' h => BxIn.at0 h.1)) (by assumption) ?_;simp only [lp, lz];refine wpAnyH_take (i := 3) (oi := .mk ..) (v := .int .i64 0) rfl (by kernel_rfl) (by kernel_rfl) (by kernel_rfl) (fun _ _ _ h => h) (yl_move (by rfl) _ rfl _ rfl) (by assumption) ?_;simp only [lp, lz];refine wpAnyH_take (i := 4) (oi := .mk ..) (v := .pointer (some ⟨w.heap.size + 1, 0, none⟩)) rfl (by kernel_rfl) (by kernel_rfl) (by kernel_rfl) (fun _ _ _ h => h) (yl_atBox (by rfl) _ _ rfl _ 0 rfl rfl (by omega)) (by assumption) ?_;simp only [lp, lz];refine wpAnyH_take (i := 5) (oi := .mk ..) (v := .agg #[.bool b0.a, .slice b0.p b0.n b0.c, .bool b0.d, .slice b0.q b0.m b0.e]) rfl (by kernel_rfl) (by kernel_rfl) (by kernel_rfl) (fun _ _ _ h => h) (yl_set (by rfl) _ rfl _ 0 rfl _ _ _ _ (fun w' h => BxIn.at0 h.2)) (by assumption) ?_;simp only [lp, lz]
   -- call 1 of 1
   refine held_call (o := .mk ..) 6 (by kernel_rfl) rfl (by rfl) 101 _ _ rfl #[.agg #[.bool a0.a, .slice a0.p a0.n a0.c, .bool a0.d, .slice a0.q a0.m a0.e], .agg #[.bool b0.a, .slice b0.p b0.n b0.c, .bool b0.d, .slice b0.q b0.m b0.e]] rfl (run_call Tryz.func101 (by kernel_rfl) (by kernel_rfl)) ?_;refine (unhide (I0 wr.drew HT.out.b.drew)).mono ?_;rintro r w2 ⟨rfl, b'⟩;have bw : Below wr.heap.size wr w2 := ⟨b'.os, b'.tape, b'.output, b'.size, b'.block⟩
   have HT2 := hide (HT.out.on bw);refine ⟨.bool q0, rfl, ⟨HT2.out.e1, HT2.out.e2⟩, fun hHeld => ?_⟩;simp only [lp, lz];refine wpAnyH_take (i := 7) (oi := .mk ..) (v := .bool (!q0)) rfl (by kernel_rfl) (by kernel_rfl) (by kernel_rfl) (fun _ _ _ h => h) (yl_not (by rfl) _ _ rfl q0 rfl) (by assumption) ?_;simp only [lp, lz];refine wpAnyH_done (by kernel_rfl) ?_ _;clear hHeld HT I0 I1 I2 I3 b' bw;cases hr : q0
   ·have HF : Hid (R = false) := hide (by rw [HR.out, hr]; simp)
    go_wp2
    go_ret
    exact ⟨ret_bool HF.out.symm, HT2.out.b⟩
   ·go_wp2
    exact ⟨⟨1, rfl, Or.inr (Or.inl ⟨rfl, hide hr⟩), HT2⟩, by simp [intOf]⟩
  ·go_wp2
   refine wp_region_held_drew (S := fun w' => BxIn w' (w.heap.size) a0 a1 a2 a3 ∧ BxIn w' (w.heap.size + 1) b0 b1 b2 b3) (by kernel_rfl) ⟨HT.out.e1, HT.out.e2⟩ (fun hHeld => ?_);refine wpAnyH_take (i := 0) (oi := .mk ..) (v := .int .i64 1) rfl (by kernel_rfl) (by kernel_rfl) (by kernel_rfl) (fun _ _ _ h => h) (yl_move (by rfl) _ rfl _ rfl) (by assumption) ?_;simp only [lp, lz];refine wpAnyH_take (i := 1) (oi := .mk ..) (v := .pointer (some ⟨w.heap.size, 4, none⟩)) rfl (by kernel_rfl) (by kernel_rfl) (by kernel_rfl) (fun _ _ _ h => h) (yl_atBox (by rfl) _ _ rfl _ 1 rfl rfl (by omega)) (by assumption) ?_;simp only [lp, lz];refine wpAnyH_take (i := 2) (oi := .mk ..) (v := .agg #[.bool a1.a, .slice a1.p a1.n a1.c, .bool a1.d, .slice a1.q a1.m a1.e]) rfl (by kernel_rfl) (by kernel_rfl) (by kernel_rfl) (fun _ _ _ h => h) (yl_set (by rfl) _ rfl _ 4 rfl _ _ _ _ (fun w' h => BxIn.at1 h.1)) (by assumption) ?_;simp only [lp, lz];refine wpAnyH_take (i := 3) (oi := .mk ..) (v := .int .i64 1) rfl (by kernel_rfl) (by kernel_rfl) (by kernel_rfl) (fun _ _ _ h => h) (yl_move (by rfl) _ rfl _ rfl) (by assumption) ?_;simp only [lp, lz];refine wpAnyH_take (i := 4) (oi := .mk ..) (v := .pointer (some ⟨w.heap.size + 1, 4, none⟩)) rfl (by kernel_rfl) (by kernel_rfl) (by kernel_rfl) (fun _ _ _ h => h) (yl_atBox (by rfl) _ _ rfl _ 1 rfl rfl (by omega)) (by assumption) ?_;simp only [lp, lz];refine wpAnyH_take (i := 5) (oi := .mk ..) (v := .agg #[.bool b1.a, .slice b1.p b1.n b1.c, .bool b1.d, .slice b1.q b1.m b1.e]) rfl (by kernel_rfl) (by kernel_rfl) (by kernel_rfl) (fun _ _ _ h => h) (yl_set (by rfl) _ rfl _ 4 rfl _ _ _ _ (fun w' h => BxIn.at1 h.2)) (by assumption) ?_;simp only [lp, lz]
   -- call 1 of 1
   refine held_call (o := .mk ..) 6 (by kernel_rfl) rfl (by rfl) 101 _ _ rfl #[.agg #[.bool a1.a, .slice a1.p a1.n a1.c, .bool a1.d, .slice a1.q a1.m a1.e], .agg #[.bool b1.a, .slice b1.p b1.n b1.c, .bool b1.d, .slice b1.q b1.m b1.e]] rfl (run_call Tryz.func101 (by kernel_rfl) (by kernel_rfl)) ?_;refine (unhide (I1 wr.drew HT.out.b.drew)).mono ?_;rintro r w2 ⟨rfl, b'⟩;have bw : Below wr.heap.size wr w2 := ⟨b'.os, b'.tape, b'.output, b'.size, b'.block⟩
   have HT2 := hide (HT.out.on bw);refine ⟨.bool q1, rfl, ⟨HT2.out.e1, HT2.out.e2⟩, fun hHeld => ?_⟩;simp only [lp, lz];refine wpAnyH_take (i := 7) (oi := .mk ..) (v := .bool (!q1)) rfl (by kernel_rfl) (by kernel_rfl) (by kernel_rfl) (fun _ _ _ h => h) (yl_not (by rfl) _ _ rfl q1 rfl) (by assumption) ?_;simp only [lp, lz];refine wpAnyH_done (by kernel_rfl) ?_ _;clear hHeld HT I0 I1 I2 I3 b' bw;cases hr : q1
   ·have HF : Hid (R = false) := hide (by rw [HR.out, hr]; simp)
    go_wp2
    go_ret
    exact ⟨ret_bool HF.out.symm, HT2.out.b⟩
   ·go_wp2
    exact ⟨⟨2, rfl, Or.inr (Or.inr (Or.inl ⟨rfl, hide ⟨HP.out, hr⟩⟩)), HT2⟩, by simp [intOf]⟩
  ·go_wp2
   refine wp_region_held_drew (S := fun w' => BxIn w' (w.heap.size) a0 a1 a2 a3 ∧ BxIn w' (w.heap.size + 1) b0 b1 b2 b3) (by kernel_rfl) ⟨HT.out.e1, HT.out.e2⟩ (fun hHeld => ?_);refine wpAnyH_take (i := 0) (oi := .mk ..) (v := .int .i64 2) rfl (by kernel_rfl) (by kernel_rfl) (by kernel_rfl) (fun _ _ _ h => h) (yl_move (by rfl) _ rfl _ rfl) (by assumption) ?_;simp only [lp, lz];refine wpAnyH_take (i := 1) (oi := .mk ..) (v := .pointer (some ⟨w.heap.size, 8, none⟩)) rfl (by kernel_rfl) (by kernel_rfl) (by kernel_rfl) (fun _ _ _ h => h) (yl_atBox (by rfl) _ _ rfl _ 2 rfl rfl (by omega)) (by assumption) ?_;simp only [lp, lz];refine wpAnyH_take (i := 2) (oi := .mk ..) (v := .agg #[.bool a2.a, .slice a2.p a2.n a2.c, .bool a2.d, .slice a2.q a2.m a2.e]) rfl (by kernel_rfl) (by kernel_rfl) (by kernel_rfl) (fun _ _ _ h => h) (yl_set (by rfl) _ rfl _ 8 rfl _ _ _ _ (fun w' h => BxIn.at2 h.1)) (by assumption) ?_;simp only [lp, lz];refine wpAnyH_take (i := 3) (oi := .mk ..) (v := .int .i64 2) rfl (by kernel_rfl) (by kernel_rfl) (by kernel_rfl) (fun _ _ _ h => h) (yl_move (by rfl) _ rfl _ rfl) (by assumption) ?_;simp only [lp, lz];refine wpAnyH_take (i := 4) (oi := .mk ..) (v := .pointer (some ⟨w.heap.size + 1, 8, none⟩)) rfl (by kernel_rfl) (by kernel_rfl) (by kernel_rfl) (fun _ _ _ h => h) (yl_atBox (by rfl) _ _ rfl _ 2 rfl rfl (by omega)) (by assumption) ?_;simp only [lp, lz];refine wpAnyH_take (i := 5) (oi := .mk ..) (v := .agg #[.bool b2.a, .slice b2.p b2.n b2.c, .bool b2.d, .slice b2.q b2.m b2.e]) rfl (by kernel_rfl) (by kernel_rfl) (by kernel_rfl) (fun _ _ _ h => h) (yl_set (by rfl) _ rfl _ 8 rfl _ _ _ _ (fun w' h => BxIn.at2 h.2)) (by assumption) ?_;simp only [lp, lz]
   -- call 1 of 1
   refine held_call (o := .mk ..) 6 (by kernel_rfl) rfl (by rfl) 101 _ _ rfl #[.agg #[.bool a2.a, .slice a2.p a2.n a2.c, .bool a2.d, .slice a2.q a2.m a2.e], .agg #[.bool b2.a, .slice b2.p b2.n b2.c, .bool b2.d, .slice b2.q b2.m b2.e]] rfl (run_call Tryz.func101 (by kernel_rfl) (by kernel_rfl)) ?_;refine (unhide (I2 wr.drew HT.out.b.drew)).mono ?_;rintro r w2 ⟨rfl, b'⟩;have bw : Below wr.heap.size wr w2 := ⟨b'.os, b'.tape, b'.output, b'.size, b'.block⟩
   have HT2 := hide (HT.out.on bw);refine ⟨.bool q2, rfl, ⟨HT2.out.e1, HT2.out.e2⟩, fun hHeld => ?_⟩;simp only [lp, lz];refine wpAnyH_take (i := 7) (oi := .mk ..) (v := .bool (!q2)) rfl (by kernel_rfl) (by kernel_rfl) (by kernel_rfl) (fun _ _ _ h => h) (yl_not (by rfl) _ _ rfl q2 rfl) (by assumption) ?_;simp only [lp, lz];refine wpAnyH_done (by kernel_rfl) ?_ _;clear hHeld HT I0 I1 I2 I3 b' bw;cases hr : q2
   ·have HF : Hid (R = false) := hide (by rw [HR.out, hr]; simp)
    go_wp2
    go_ret
    exact ⟨ret_bool HF.out.symm, HT2.out.b⟩
   ·go_wp2
    exact ⟨⟨3, rfl, Or.inr (Or.inr (Or.inr (Or.inl ⟨rfl, hide ⟨HP.out.1, HP.out.2, hr⟩⟩))), HT2⟩, by simp [intOf]⟩
  ·go_wp2
   refine wp_region_held_drew (S := fun w' => BxIn w' (w.heap.size) a0 a1 a2 a3 ∧ BxIn w' (w.heap.size + 1) b0 b1 b2 b3) (by kernel_rfl) ⟨HT.out.e1, HT.out.e2⟩ (fun hHeld => ?_);refine wpAnyH_take (i := 0) (oi := .mk ..) (v := .int .i64 3) rfl (by kernel_rfl) (by kernel_rfl) (by kernel_rfl) (fun _ _ _ h => h) (yl_move (by rfl) _ rfl _ rfl) (by assumption) ?_;simp only [lp, lz];refine wpAnyH_take (i := 1) (oi := .mk ..) (v := .pointer (some ⟨w.heap.size, 12, none⟩)) rfl (by kernel_rfl) (by kernel_rfl) (by kernel_rfl) (fun _ _ _ h => h) (yl_atBox (by rfl) _ _ rfl _ 3 rfl rfl (by omega)) (by assumption) ?_;simp only [lp, lz];refine wpAnyH_take (i := 2) (oi := .mk ..) (v := .agg #[.bool a3.a, .slice a3.p a3.n a3.c, .bool a3.d, .slice a3.q a3.m a3.e]) rfl (by kernel_rfl) (by kernel_rfl) (by kernel_rfl) (fun _ _ _ h => h) (yl_set (by rfl) _ rfl _ 12 rfl _ _ _ _ (fun w' h => BxIn.at3 h.1)) (by assumption) ?_;simp only [lp, lz];refine wpAnyH_take (i := 3) (oi := .mk ..) (v := .int .i64 3) rfl (by kernel_rfl) (by kernel_rfl) (by kernel_rfl) (fun _ _ _ h => h) (yl_move (by rfl) _ rfl _ rfl) (by assumption) ?_;simp only [lp, lz];refine wpAnyH_take (i := 4) (oi := .mk ..) (v := .pointer (some ⟨w.heap.size + 1, 12, none⟩)) rfl (by kernel_rfl) (by kernel_rfl) (by kernel_rfl) (fun _ _ _ h => h) (yl_atBox (by rfl) _ _ rfl _ 3 rfl rfl (by omega)) (by assumption) ?_;simp only [lp, lz];refine wpAnyH_take (i := 5) (oi := .mk ..) (v := .agg #[.bool b3.a, .slice b3.p b3.n b3.c, .bool b3.d, .slice b3.q b3.m b3.e]) rfl (by kernel_rfl) (by kernel_rfl) (by kernel_rfl) (fun _ _ _ h => h) (yl_set (by rfl) _ rfl _ 12 rfl _ _ _ _ (fun w' h => BxIn.at3 h.2)) (by assumption) ?_;simp only [lp, lz]
   -- call 1 of 1
   refine held_call (o := .mk ..) 6 (by kernel_rfl) rfl (by rfl) 101 _ _ rfl #[.agg #[.bool a3.a, .slice a3.p a3.n a3.c, .bool a3.d, .slice a3.q a3.m a3.e], .agg #[.bool b3.a, .slice b3.p b3.n b3.c, .bool b3.d, .slice b3.q b3.m b3.e]] rfl (run_call Tryz.func101 (by kernel_rfl) (by kernel_rfl)) ?_;refine (unhide (I3 wr.drew HT.out.b.drew)).mono ?_;rintro r w2 ⟨rfl, b'⟩;have bw : Below wr.heap.size wr w2 := ⟨b'.os, b'.tape, b'.output, b'.size, b'.block⟩
   have HT2 := hide (HT.out.on bw);refine ⟨.bool q3, rfl, ⟨HT2.out.e1, HT2.out.e2⟩, fun hHeld => ?_⟩;simp only [lp, lz];refine wpAnyH_take (i := 7) (oi := .mk ..) (v := .bool (!q3)) rfl (by kernel_rfl) (by kernel_rfl) (by kernel_rfl) (fun _ _ _ h => h) (yl_not (by rfl) _ _ rfl q3 rfl) (by assumption) ?_;simp only [lp, lz];refine wpAnyH_done (by kernel_rfl) ?_ _;clear hHeld HT I0 I1 I2 I3 b' bw;cases hr : q3
   ·have HF : Hid (R = false) := hide (by rw [HR.out, hr]; simp)
    go_wp2
    go_ret
    exact ⟨ret_bool HF.out.symm, HT2.out.b⟩
   ·go_wp2
    exact ⟨⟨4, rfl, Or.inr (Or.inr (Or.inr (Or.inr (⟨rfl, hide ⟨HP.out.1, HP.out.2.1, HP.out.2.2, hr⟩⟩)))), HT2⟩, by simp [intOf]⟩
  ·have HF : Hid (R = true) := hide (by rw [HR.out, HP.out.1, HP.out.2.1, HP.out.2.2.1, HP.out.2.2.2]; rfl)
   go_wp2
   go_ret
   exact ⟨ret_bool HF.out.symm, HT.out.b⟩
set_option maxHeartbeats 4000000 in
set_option maxRecDepth 100000 in
theorem boxIn_any (P : SetProg) (v u : Value) (a b : BoxV) (w : World) (hv : BoxAt w v a) (hu : BoxAt w u b) (fa : FitBx a) (fb : FitBx b) :
  Calls Tryz.prog 65 #[v, u] w fun r w' => r = .returned (.bool (inBx a b)) ∧ Below w.heap.size w w' := by
 have HR : Hid (inBx a b = (emptyBx a || all4 fun i => inB (a.get i) (b.get i))) := hide rfl;have CE := fun (W : World) (hb : Below w.heap.size w W) => hide (boxEmpty_any P v a W (hv.on hb) fa)
 have CI := fun (W : World) (hb : Below w.heap.size w W) => hide (setsIn_any P v u a b W (hv.on hb) (hu.on hb) fa fb)
 obtain ⟨a0, a1, a2, a3, rfl, ha0, ha1, ha2, ha3⟩ := hv.scs;obtain ⟨b0, b1, b2, b3, rfl, hb0, hb1, hb2, hb3⟩ := hu.scs;have T0 := Two.start w (Obj.cells #[.bool a0.a, .slice a0.p a0.n a0.c, .bool a0.d, .slice a0.q a0.m a0.e, .bool a1.a, .slice a1.p a1.n a1.c, .bool a1.d, .slice a1.q a1.m a1.e, .bool a2.a, .slice a2.p a2.n a2.c, .bool a2.d, .slice a2.q a2.m a2.e, .bool a3.a, .slice a3.p a3.n a3.c, .bool a3.d, .slice a3.q a3.m a3.e] 54) (Obj.cells #[.bool b0.a, .slice b0.p b0.n b0.c, .bool b0.d, .slice b0.q b0.m b0.e, .bool b1.a, .slice b1.p b1.n b1.c, .bool b1.d, .slice b1.q b1.m b1.e, .bool b2.a, .slice b2.p b2.n b2.c, .bool b2.d, .slice b2.q b2.m b2.e, .bool b3.a, .slice b3.p b3.n b3.c, .bool b3.d, .slice b3.q b3.m b3.e] 54);have X := CE _ T0.b;have HT := hide T0;generalize hq : emptyBx a = q at HR CE X;generalize (all4 fun i => inB (a.get i) (b.get i)) = R at HR CI;clear hv hu fa fb ha0 ha1 ha2 ha3 hb0 hb1 hb2 hb3 T0 hq;unfold bxVal at *;go_enter Tryz.func65, Tryz.ntmps65;obtain ⟨c0, c1, c2, c3, c4, c5, c6, c7, c8, c9, c10, c11, c12, c13, c14, c15⟩ := bxCells HT.out.e1
 go_wp2_with fail
 refine (unhide X).mono ?_;rintro r w2 ⟨rfl, b2⟩;have HT2 := hide (HT.out.on b2);clear X b2 CE HT c0 c1 c2 c3 c4 c5 c6 c7 c8 c9 c10 c11 c12 c13 c14 c15;cases q
 ·obtain ⟨c0, c1, c2, c3, c4, c5, c6, c7, c8, c9, c10, c11, c12, c13, c14, c15⟩ := bxCells HT2.out.e1;obtain ⟨d0, d1, d2, d3, d4, d5, d6, d7, d8, d9, d10, d11, d12, d13, d14, d15⟩ := bxCells HT2.out.e2;have Y := CI _ HT2.out.b
  go_wp2_with fail
  refine (unhide Y).mono ?_;rintro r w3 ⟨rfl, b3⟩;have HT3 := hide (HT2.out.on b3);have HF : Hid (inBx a b = R) := hide (by rw [HR.out, Bool.false_or]);clear Y b3 HT2 CI c0 c1 c2 c3 c4 c5 c6 c7 c8 c9 c10 c11 c12 c13 c14 c15 d0 d1 d2 d3 d4 d5 d6 d7 d8 d9 d10 d11 d12 d13 d14 d15
  go_wp2
  go_ret
  exact ⟨ret_bool HF.out.symm, HT3.out.b⟩
 ·have HF : Hid (inBx a b = true) := hide (by rw [HR.out, Bool.true_or]);clear CI
  go_wp2
  go_ret
  exact ⟨ret_bool HF.out.symm, HT2.out.b⟩
set_option maxHeartbeats 4000000 in
set_option maxRecDepth 100000 in
theorem boxHas_any (P : SetProg) (v : Value) (b : BoxV) (e : EvV) (w : World) (hv : BoxAt w v b) (fb : FitBx b) (hf : evFit e) (he : inE e) :
  Calls Tryz.prog 28 #[v, evVal e] w fun r w' => r = .returned (.bool (hasE b e)) ∧ Below w.heap.size w w' := by
 obtain ⟨s0, s1, s2, s3, rfl, h0, h1, h2, h3⟩ := hv.scs;have H0 := fun (W : World) (hb : Below w.heap.size w W) => hide (P.has _ b.s0 e.v0.1 e.v0.2.1 e.v0.2.2 W (h0.on hb) (fb.fit 0 (by omega)) (he 0 (by omega)).1 (he 0 (by omega)).2 hf.1)
 change ∀ (W : World) (hb : Below w.heap.size w W), Hid (Calls _ _ _ _ fun r w' => r = .returned (.bool (hasP b.s0 e.v0)) ∧ _) at H0
 have H1 := fun (W : World) (hb : Below w.heap.size w W) => hide (P.has _ b.s1 e.v1.1 e.v1.2.1 e.v1.2.2 W (h1.on hb) (fb.fit 1 (by omega)) (he 1 (by omega)).1 (he 1 (by omega)).2 hf.2.1)
 change ∀ (W : World) (hb : Below w.heap.size w W), Hid (Calls _ _ _ _ fun r w' => r = .returned (.bool (hasP b.s1 e.v1)) ∧ _) at H1
 have H2 := fun (W : World) (hb : Below w.heap.size w W) => hide (P.has _ b.s2 e.v2.1 e.v2.2.1 e.v2.2.2 W (h2.on hb) (fb.fit 2 (by omega)) (he 2 (by omega)).1 (he 2 (by omega)).2 hf.2.2.1)
 change ∀ (W : World) (hb : Below w.heap.size w W), Hid (Calls _ _ _ _ fun r w' => r = .returned (.bool (hasP b.s2 e.v2)) ∧ _) at H2
 have H3 := fun (W : World) (hb : Below w.heap.size w W) => hide (P.has _ b.s3 e.v3.1 e.v3.2.1 e.v3.2.2 W (h3.on hb) (fb.fit 3 (by omega)) (he 3 (by omega)).1 (he 3 (by omega)).2 hf.2.2.2)
 change ∀ (W : World) (hb : Below w.heap.size w W), Hid (Calls _ _ _ _ fun r w' => r = .returned (.bool (hasP b.s3 e.v3)) ∧ _) at H3
 have HR : Hid (hasE b e = (((hasP b.s0 e.v0 && hasP b.s1 e.v1) && hasP b.s2 e.v2) && hasP b.s3 e.v3)) := hide rfl;generalize hasP b.s0 e.v0 = q0 at HR H0;generalize hasP b.s1 e.v1 = q1 at HR H1;generalize hasP b.s2 e.v2 = q2 at HR H2;generalize hasP b.s3 e.v3 = q3 at HR H3;have T0 := hide (Two.start w (Obj.cells #[.bool s0.a, .slice s0.p s0.n s0.c, .bool s0.d, .slice s0.q s0.m s0.e, .bool s1.a, .slice s1.p s1.n s1.c, .bool s1.d, .slice s1.q s1.m s1.e, .bool s2.a, .slice s2.p s2.n s2.c, .bool s2.d, .slice s2.q s2.m s2.e, .bool s3.a, .slice s3.p s3.n s3.c, .bool s3.d, .slice s3.q s3.m s3.e] 54) (Obj.cells #[.int .i64 e.v0.1, .int .i64 e.v0.2.1, .string e.v0.2.2, .int .i64 e.v1.1, .int .i64 e.v1.2.1, .string e.v1.2.2, .int .i64 e.v2.1, .int .i64 e.v2.2.1, .string e.v2.2.2, .int .i64 e.v3.1, .int .i64 e.v3.2.1, .string e.v3.2.2] 46));clear hv fb hf he h0 h1 h2 h3;unfold bxVal evVal;obtain ⟨c0, c1, c2, c3, c4, c5, c6, c7, c8, c9, c10, c11, c12, c13, c14, c15⟩ := bxCells T0.out.e1;go_enter Tryz.func28, Tryz.ntmps28
 go_wp2
 clear c0 c1 c2 c3 c4 c5 c6 c7 c8 c9 c10 c11 c12 c13 c14 c15;go_loopw [8] (fun i wr => ∃ k : Int, i = .int .i64 k ∧ (k = 0 ∨ (k = 1 ∧ Hid (q0 = true)) ∨ (k = 2 ∧ Hid (q0 = true ∧ q1 = true)) ∨ (k = 3 ∧ Hid (q0 = true ∧ q1 = true ∧ q2 = true)) ∨ (k = 4 ∧ Hid (q0 = true ∧ q1 = true ∧ q2 = true ∧ q3 = true))) ∧ Hid (Two w wr (Obj.cells #[.bool s0.a, .slice s0.p s0.n s0.c, .bool s0.d, .slice s0.q s0.m s0.e, .bool s1.a, .slice s1.p s1.n s1.c, .bool s1.d, .slice s1.q s1.m s1.e, .bool s2.a, .slice s2.p s2.n s2.c, .bool s2.d, .slice s2.q s2.m s2.e, .bool s3.a, .slice s3.p s3.n s3.c, .bool s3.d, .slice s3.q s3.m s3.e] 54) (Obj.cells #[.int .i64 e.v0.1, .int .i64 e.v0.2.1, .string e.v0.2.2, .int .i64 e.v1.1, .int .i64 e.v1.2.1, .string e.v1.2.2, .int .i64 e.v2.1, .int .i64 e.v2.2.1, .string e.v2.2.2, .int .i64 e.v3.1, .int .i64 e.v3.2.1, .string e.v3.2.2] 46))) (fun i _ => 4 - (intOf i).toNat)
 case atStart => exact ⟨0, rfl, Or.inl rfl, T0⟩
 case round =>
  clear T0;obtain ⟨k, rfl, hk, HT⟩ := hrel;rcases hk with rfl | ⟨rfl, HP⟩ | ⟨rfl, HP⟩ | ⟨rfl, HP⟩ | ⟨rfl, HP⟩
  ·have RX := run_at0 wr s0 s1 s2 s3
   go_wp2
   clear RX;have T1 := HT.out.al (Obj.cells #[.bool s0.a, .slice s0.p s0.n s0.c, .bool s0.d, .slice s0.q s0.m s0.e] 25);have N1 := heap_new wr (Obj.cells #[.bool s0.a, .slice s0.p s0.n s0.c, .bool s0.d, .slice s0.q s0.m s0.e] 25);refine wp_region_held_drew (S := fun w' => w'.heap[wr.heap.size]? = some (Obj.cells #[.bool s0.a, .slice s0.p s0.n s0.c, .bool s0.d, .slice s0.q s0.m s0.e] 25 (0, 0)) ∧ w'.heap[w.heap.size + 1]? = some (Obj.cells #[.int .i64 e.v0.1, .int .i64 e.v0.2.1, .string e.v0.2.2, .int .i64 e.v1.1, .int .i64 e.v1.2.1, .string e.v1.2.2, .int .i64 e.v2.1, .int .i64 e.v2.2.1, .string e.v2.2.2, .int .i64 e.v3.1, .int .i64 e.v3.2.1, .string e.v3.2.2] 46 (0, 0))) (by kernel_rfl) ⟨N1, T1.e2⟩ (fun hHeld => ?_);refine wpAnyH_take (i := 0) (oi := .mk ..) (v := .agg #[.bool s0.a, .slice s0.p s0.n s0.c, .bool s0.d, .slice s0.q s0.m s0.e]) rfl (by kernel_rfl) (by kernel_rfl) (by kernel_rfl) (fun _ _ _ h => h) (yl_set (by rfl) _ rfl _ 0 rfl _ _ _ _ (fun w' h => setCells h.1)) (by assumption) ?_;simp only [lp, lz];refine wpAnyH_take (i := 1) (oi := .mk ..) (v := .int .i64 0) rfl (by kernel_rfl) (by kernel_rfl) (by kernel_rfl) (fun _ _ _ h => h) (yl_move (by rfl) _ rfl _ rfl) (by assumption) ?_;simp only [lp, lz];refine wpAnyH_take (i := 2) (oi := .mk ..) (v := .pointer (some ⟨w.heap.size + 1, 0, none⟩)) rfl (by kernel_rfl) (by kernel_rfl) (by kernel_rfl) (fun _ _ _ h => h) (yl_atEv (by rfl) _ _ rfl _ 0 rfl rfl (by omega)) (by assumption) ?_;simp only [lp, lz];refine wpAnyH_take (i := 3) (oi := .mk ..) (v := .agg #[.int .i64 e.v0.1, .int .i64 e.v0.2.1, .string e.v0.2.2]) rfl (by kernel_rfl) (by kernel_rfl) (by kernel_rfl) (fun _ _ _ h => h) (yl_val (by rfl) _ rfl _ 0 rfl _ _ _ (fun w' h => ⟨cell_heap h.2 0, cell_heap h.2 1, cell_heap h.2 2⟩)) (by assumption) ?_;simp only [lp, lz]
   -- call 1 of 1
   refine held_call (o := .mk ..) 4 (by kernel_rfl) rfl (by rfl) 55 _ _ rfl #[.agg #[.bool s0.a, .slice s0.p s0.n s0.c, .bool s0.d, .slice s0.q s0.m s0.e], .agg #[.int .i64 e.v0.1, .int .i64 e.v0.2.1, .string e.v0.2.2]] rfl (run_call Tryz.func55 (by kernel_rfl) (by kernel_rfl)) ?_;refine (unhide (H0 _ T1.b.drew)).mono ?_;rintro r w2 ⟨rfl, b'⟩;have bw : Below (wr.alloc (Obj.cells #[.bool s0.a, .slice s0.p s0.n s0.c, .bool s0.d, .slice s0.q s0.m s0.e] 25)).heap.size (wr.alloc (Obj.cells #[.bool s0.a, .slice s0.p s0.n s0.c, .bool s0.d, .slice s0.q s0.m s0.e] 25)) w2 := ⟨b'.os, b'.tape, b'.output, b'.size, b'.block⟩
   have HT2 := hide (T1.on bw);have N2 := (bw.block _ (lt_heap N1)).trans N1;refine ⟨.bool q0, rfl, ⟨N2, HT2.out.e2⟩, fun hHeld => ?_⟩;simp only [lp, lz];refine wpAnyH_take (i := 5) (oi := .mk ..) (v := .bool (!q0)) rfl (by kernel_rfl) (by kernel_rfl) (by kernel_rfl) (fun _ _ _ h => h) (yl_not (by rfl) _ _ rfl q0 rfl) (by assumption) ?_;simp only [lp, lz];refine wpAnyH_done (by kernel_rfl) ?_ _;clear hHeld HT H0 H1 H2 H3 b' bw T1 N1 N2;cases hr : q0
   ·have HF : Hid (hasE b e = false) := hide (by rw [HR.out, hr]; simp)
    go_wp2
    go_ret
    exact ⟨ret_bool HF.out.symm, HT2.out.b⟩
   ·go_wp2
    exact ⟨⟨1, rfl, Or.inr (Or.inl ⟨rfl, hide hr⟩), HT2⟩, by simp [intOf]⟩
  ·have RX := run_at1 wr s0 s1 s2 s3
   go_wp2
   clear RX;have T1 := HT.out.al (Obj.cells #[.bool s1.a, .slice s1.p s1.n s1.c, .bool s1.d, .slice s1.q s1.m s1.e] 25);have N1 := heap_new wr (Obj.cells #[.bool s1.a, .slice s1.p s1.n s1.c, .bool s1.d, .slice s1.q s1.m s1.e] 25);refine wp_region_held_drew (S := fun w' => w'.heap[wr.heap.size]? = some (Obj.cells #[.bool s1.a, .slice s1.p s1.n s1.c, .bool s1.d, .slice s1.q s1.m s1.e] 25 (0, 0)) ∧ w'.heap[w.heap.size + 1]? = some (Obj.cells #[.int .i64 e.v0.1, .int .i64 e.v0.2.1, .string e.v0.2.2, .int .i64 e.v1.1, .int .i64 e.v1.2.1, .string e.v1.2.2, .int .i64 e.v2.1, .int .i64 e.v2.2.1, .string e.v2.2.2, .int .i64 e.v3.1, .int .i64 e.v3.2.1, .string e.v3.2.2] 46 (0, 0))) (by kernel_rfl) ⟨N1, T1.e2⟩ (fun hHeld => ?_);refine wpAnyH_take (i := 0) (oi := .mk ..) (v := .agg #[.bool s1.a, .slice s1.p s1.n s1.c, .bool s1.d, .slice s1.q s1.m s1.e]) rfl (by kernel_rfl) (by kernel_rfl) (by kernel_rfl) (fun _ _ _ h => h) (yl_set (by rfl) _ rfl _ 0 rfl _ _ _ _ (fun w' h => setCells h.1)) (by assumption) ?_;simp only [lp, lz];refine wpAnyH_take (i := 1) (oi := .mk ..) (v := .int .i64 1) rfl (by kernel_rfl) (by kernel_rfl) (by kernel_rfl) (fun _ _ _ h => h) (yl_move (by rfl) _ rfl _ rfl) (by assumption) ?_;simp only [lp, lz];refine wpAnyH_take (i := 2) (oi := .mk ..) (v := .pointer (some ⟨w.heap.size + 1, 3, none⟩)) rfl (by kernel_rfl) (by kernel_rfl) (by kernel_rfl) (fun _ _ _ h => h) (yl_atEv (by rfl) _ _ rfl _ 1 rfl rfl (by omega)) (by assumption) ?_;simp only [lp, lz];refine wpAnyH_take (i := 3) (oi := .mk ..) (v := .agg #[.int .i64 e.v1.1, .int .i64 e.v1.2.1, .string e.v1.2.2]) rfl (by kernel_rfl) (by kernel_rfl) (by kernel_rfl) (fun _ _ _ h => h) (yl_val (by rfl) _ rfl _ 3 rfl _ _ _ (fun w' h => ⟨cell_heap h.2 3, cell_heap h.2 4, cell_heap h.2 5⟩)) (by assumption) ?_;simp only [lp, lz]
   -- call 1 of 1
   refine held_call (o := .mk ..) 4 (by kernel_rfl) rfl (by rfl) 55 _ _ rfl #[.agg #[.bool s1.a, .slice s1.p s1.n s1.c, .bool s1.d, .slice s1.q s1.m s1.e], .agg #[.int .i64 e.v1.1, .int .i64 e.v1.2.1, .string e.v1.2.2]] rfl (run_call Tryz.func55 (by kernel_rfl) (by kernel_rfl)) ?_;refine (unhide (H1 _ T1.b.drew)).mono ?_;rintro r w2 ⟨rfl, b'⟩;have bw : Below (wr.alloc (Obj.cells #[.bool s1.a, .slice s1.p s1.n s1.c, .bool s1.d, .slice s1.q s1.m s1.e] 25)).heap.size (wr.alloc (Obj.cells #[.bool s1.a, .slice s1.p s1.n s1.c, .bool s1.d, .slice s1.q s1.m s1.e] 25)) w2 := ⟨b'.os, b'.tape, b'.output, b'.size, b'.block⟩
   have HT2 := hide (T1.on bw);have N2 := (bw.block _ (lt_heap N1)).trans N1;refine ⟨.bool q1, rfl, ⟨N2, HT2.out.e2⟩, fun hHeld => ?_⟩;simp only [lp, lz];refine wpAnyH_take (i := 5) (oi := .mk ..) (v := .bool (!q1)) rfl (by kernel_rfl) (by kernel_rfl) (by kernel_rfl) (fun _ _ _ h => h) (yl_not (by rfl) _ _ rfl q1 rfl) (by assumption) ?_;simp only [lp, lz];refine wpAnyH_done (by kernel_rfl) ?_ _;clear hHeld HT H0 H1 H2 H3 b' bw T1 N1 N2;cases hr : q1
   ·have HF : Hid (hasE b e = false) := hide (by rw [HR.out, hr]; simp)
    go_wp2
    go_ret
    exact ⟨ret_bool HF.out.symm, HT2.out.b⟩
   ·go_wp2
    exact ⟨⟨2, rfl, Or.inr (Or.inr (Or.inl ⟨rfl, hide ⟨HP.out, hr⟩⟩)), HT2⟩, by simp [intOf]⟩
  ·have RX := run_at2 wr s0 s1 s2 s3
   go_wp2
   clear RX;have T1 := HT.out.al (Obj.cells #[.bool s2.a, .slice s2.p s2.n s2.c, .bool s2.d, .slice s2.q s2.m s2.e] 25);have N1 := heap_new wr (Obj.cells #[.bool s2.a, .slice s2.p s2.n s2.c, .bool s2.d, .slice s2.q s2.m s2.e] 25);refine wp_region_held_drew (S := fun w' => w'.heap[wr.heap.size]? = some (Obj.cells #[.bool s2.a, .slice s2.p s2.n s2.c, .bool s2.d, .slice s2.q s2.m s2.e] 25 (0, 0)) ∧ w'.heap[w.heap.size + 1]? = some (Obj.cells #[.int .i64 e.v0.1, .int .i64 e.v0.2.1, .string e.v0.2.2, .int .i64 e.v1.1, .int .i64 e.v1.2.1, .string e.v1.2.2, .int .i64 e.v2.1, .int .i64 e.v2.2.1, .string e.v2.2.2, .int .i64 e.v3.1, .int .i64 e.v3.2.1, .string e.v3.2.2] 46 (0, 0))) (by kernel_rfl) ⟨N1, T1.e2⟩ (fun hHeld => ?_);refine wpAnyH_take (i := 0) (oi := .mk ..) (v := .agg #[.bool s2.a, .slice s2.p s2.n s2.c, .bool s2.d, .slice s2.q s2.m s2.e]) rfl (by kernel_rfl) (by kernel_rfl) (by kernel_rfl) (fun _ _ _ h => h) (yl_set (by rfl) _ rfl _ 0 rfl _ _ _ _ (fun w' h => setCells h.1)) (by assumption) ?_;simp only [lp, lz];refine wpAnyH_take (i := 1) (oi := .mk ..) (v := .int .i64 2) rfl (by kernel_rfl) (by kernel_rfl) (by kernel_rfl) (fun _ _ _ h => h) (yl_move (by rfl) _ rfl _ rfl) (by assumption) ?_;simp only [lp, lz];refine wpAnyH_take (i := 2) (oi := .mk ..) (v := .pointer (some ⟨w.heap.size + 1, 6, none⟩)) rfl (by kernel_rfl) (by kernel_rfl) (by kernel_rfl) (fun _ _ _ h => h) (yl_atEv (by rfl) _ _ rfl _ 2 rfl rfl (by omega)) (by assumption) ?_;simp only [lp, lz];refine wpAnyH_take (i := 3) (oi := .mk ..) (v := .agg #[.int .i64 e.v2.1, .int .i64 e.v2.2.1, .string e.v2.2.2]) rfl (by kernel_rfl) (by kernel_rfl) (by kernel_rfl) (fun _ _ _ h => h) (yl_val (by rfl) _ rfl _ 6 rfl _ _ _ (fun w' h => ⟨cell_heap h.2 6, cell_heap h.2 7, cell_heap h.2 8⟩)) (by assumption) ?_;simp only [lp, lz]
   -- call 1 of 1
   refine held_call (o := .mk ..) 4 (by kernel_rfl) rfl (by rfl) 55 _ _ rfl #[.agg #[.bool s2.a, .slice s2.p s2.n s2.c, .bool s2.d, .slice s2.q s2.m s2.e], .agg #[.int .i64 e.v2.1, .int .i64 e.v2.2.1, .string e.v2.2.2]] rfl (run_call Tryz.func55 (by kernel_rfl) (by kernel_rfl)) ?_;refine (unhide (H2 _ T1.b.drew)).mono ?_;rintro r w2 ⟨rfl, b'⟩;have bw : Below (wr.alloc (Obj.cells #[.bool s2.a, .slice s2.p s2.n s2.c, .bool s2.d, .slice s2.q s2.m s2.e] 25)).heap.size (wr.alloc (Obj.cells #[.bool s2.a, .slice s2.p s2.n s2.c, .bool s2.d, .slice s2.q s2.m s2.e] 25)) w2 := ⟨b'.os, b'.tape, b'.output, b'.size, b'.block⟩
   have HT2 := hide (T1.on bw);have N2 := (bw.block _ (lt_heap N1)).trans N1;refine ⟨.bool q2, rfl, ⟨N2, HT2.out.e2⟩, fun hHeld => ?_⟩;simp only [lp, lz];refine wpAnyH_take (i := 5) (oi := .mk ..) (v := .bool (!q2)) rfl (by kernel_rfl) (by kernel_rfl) (by kernel_rfl) (fun _ _ _ h => h) (yl_not (by rfl) _ _ rfl q2 rfl) (by assumption) ?_;simp only [lp, lz];refine wpAnyH_done (by kernel_rfl) ?_ _;clear hHeld HT H0 H1 H2 H3 b' bw T1 N1 N2;cases hr : q2
   ·have HF : Hid (hasE b e = false) := hide (by rw [HR.out, hr]; simp)
    go_wp2
    go_ret
    exact ⟨ret_bool HF.out.symm, HT2.out.b⟩
   ·go_wp2
    exact ⟨⟨3, rfl, Or.inr (Or.inr (Or.inr (Or.inl ⟨rfl, hide ⟨HP.out.1, HP.out.2, hr⟩⟩))), HT2⟩, by simp [intOf]⟩
  ·have RX := run_at3 wr s0 s1 s2 s3
   go_wp2
   clear RX;have T1 := HT.out.al (Obj.cells #[.bool s3.a, .slice s3.p s3.n s3.c, .bool s3.d, .slice s3.q s3.m s3.e] 25);have N1 := heap_new wr (Obj.cells #[.bool s3.a, .slice s3.p s3.n s3.c, .bool s3.d, .slice s3.q s3.m s3.e] 25);refine wp_region_held_drew (S := fun w' => w'.heap[wr.heap.size]? = some (Obj.cells #[.bool s3.a, .slice s3.p s3.n s3.c, .bool s3.d, .slice s3.q s3.m s3.e] 25 (0, 0)) ∧ w'.heap[w.heap.size + 1]? = some (Obj.cells #[.int .i64 e.v0.1, .int .i64 e.v0.2.1, .string e.v0.2.2, .int .i64 e.v1.1, .int .i64 e.v1.2.1, .string e.v1.2.2, .int .i64 e.v2.1, .int .i64 e.v2.2.1, .string e.v2.2.2, .int .i64 e.v3.1, .int .i64 e.v3.2.1, .string e.v3.2.2] 46 (0, 0))) (by kernel_rfl) ⟨N1, T1.e2⟩ (fun hHeld => ?_);refine wpAnyH_take (i := 0) (oi := .mk ..) (v := .agg #[.bool s3.a, .slice s3.p s3.n s3.c, .bool s3.d, .slice s3.q s3.m s3.e]) rfl (by kernel_rfl) (by kernel_rfl) (by kernel_rfl) (fun _ _ _ h => h) (yl_set (by rfl) _ rfl _ 0 rfl _ _ _ _ (fun w' h => setCells h.1)) (by assumption) ?_;simp only [lp, lz];refine wpAnyH_take (i := 1) (oi := .mk ..) (v := .int .i64 3) rfl (by kernel_rfl) (by kernel_rfl) (by kernel_rfl) (fun _ _ _ h => h) (yl_move (by rfl) _ rfl _ rfl) (by assumption) ?_;simp only [lp, lz];refine wpAnyH_take (i := 2) (oi := .mk ..) (v := .pointer (some ⟨w.heap.size + 1, 9, none⟩)) rfl (by kernel_rfl) (by kernel_rfl) (by kernel_rfl) (fun _ _ _ h => h) (yl_atEv (by rfl) _ _ rfl _ 3 rfl rfl (by omega)) (by assumption) ?_;simp only [lp, lz];refine wpAnyH_take (i := 3) (oi := .mk ..) (v := .agg #[.int .i64 e.v3.1, .int .i64 e.v3.2.1, .string e.v3.2.2]) rfl (by kernel_rfl) (by kernel_rfl) (by kernel_rfl) (fun _ _ _ h => h) (yl_val (by rfl) _ rfl _ 9 rfl _ _ _ (fun w' h => ⟨cell_heap h.2 9, cell_heap h.2 10, cell_heap h.2 11⟩)) (by assumption) ?_;simp only [lp, lz]
   -- call 1 of 1
   refine held_call (o := .mk ..) 4 (by kernel_rfl) rfl (by rfl) 55 _ _ rfl #[.agg #[.bool s3.a, .slice s3.p s3.n s3.c, .bool s3.d, .slice s3.q s3.m s3.e], .agg #[.int .i64 e.v3.1, .int .i64 e.v3.2.1, .string e.v3.2.2]] rfl (run_call Tryz.func55 (by kernel_rfl) (by kernel_rfl)) ?_;refine (unhide (H3 _ T1.b.drew)).mono ?_;rintro r w2 ⟨rfl, b'⟩;have bw : Below (wr.alloc (Obj.cells #[.bool s3.a, .slice s3.p s3.n s3.c, .bool s3.d, .slice s3.q s3.m s3.e] 25)).heap.size (wr.alloc (Obj.cells #[.bool s3.a, .slice s3.p s3.n s3.c, .bool s3.d, .slice s3.q s3.m s3.e] 25)) w2 := ⟨b'.os, b'.tape, b'.output, b'.size, b'.block⟩
   have HT2 := hide (T1.on bw);have N2 := (bw.block _ (lt_heap N1)).trans N1;refine ⟨.bool q3, rfl, ⟨N2, HT2.out.e2⟩, fun hHeld => ?_⟩;simp only [lp, lz];refine wpAnyH_take (i := 5) (oi := .mk ..) (v := .bool (!q3)) rfl (by kernel_rfl) (by kernel_rfl) (by kernel_rfl) (fun _ _ _ h => h) (yl_not (by rfl) _ _ rfl q3 rfl) (by assumption) ?_;simp only [lp, lz];refine wpAnyH_done (by kernel_rfl) ?_ _;clear hHeld HT H0 H1 H2 H3 b' bw T1 N1 N2;cases hr : q3
   ·have HF : Hid (hasE b e = false) := hide (by rw [HR.out, hr]; simp)
    go_wp2
    go_ret
    exact ⟨ret_bool HF.out.symm, HT2.out.b⟩
   ·go_wp2
    exact ⟨⟨4, rfl, Or.inr (Or.inr (Or.inr (Or.inr (⟨rfl, hide ⟨HP.out.1, HP.out.2.1, HP.out.2.2, hr⟩⟩)))), HT2⟩, by simp [intOf]⟩
  ·have HF : Hid (hasE b e = true) := hide (by rw [HR.out, HP.out.1, HP.out.2.1, HP.out.2.2.1, HP.out.2.2.2]; rfl)
   go_wp2
   go_ret
   exact ⟨ret_bool HF.out.symm, HT.out.b⟩
end Go.Proofs.YtlkcjhcmkaddaaaGreat
namespace Go.Proofs.YtlkcjhcmkaddaaaGreat
open Go.RowKit
structure ComInv (A B a b acc : List Rg) : Prop where
 ra : rightR a
 rb : rightR b
 rc : rightR acc
 ia : inI64 a
 ib : inI64 b
 ic : inI64 acc
 mem : ∀ n, (memR A n ∧ memR B n) ↔ (memR acc n ∨ (memR a n ∧ memR b n))
 gap : ∀ h, lastH acc = some h → ∀ n, memR a n → memR b n → h + 1 < n
 len : acc.length + a.length + b.length ≤ A.length + B.length
theorem com_start {A B : List Rg} (hA : rightR A) (hB : rightR B) (iA : inI64 A) (iB : inI64 B) : ComInv A B A B [] :=
 ⟨hA, hB, trivial, iA, iB, fun _ h => (List.not_mem_nil h).elim, fun n => ⟨Or.inr, fun h => h.elim (fun h => absurd h (memR_nil n)) id⟩, fun h e => by rw [lastH_nil] at e; exact absurd e (by simp), by simp⟩
theorem rightR_tail {r : Rg} {l : List Rg} (h : rightR (r :: l)) : rightR l := rightFrom_right h.2
theorem com_step {A B a b acc acc' : List Rg} {r s : Rg} (h : ComInv A B (r :: a) (s :: b) acc)
  (hc : (acc' = acc ∧ min r.2 s.2 < max r.1 s.1) ∨ (acc' = acc ++ [(max r.1 s.1, min r.2 s.2)] ∧ max r.1 s.1 ≤ min r.2 s.2)) :
  (r.2 < s.2 → ComInv A B a (s :: b) acc') ∧ (s.2 ≤ r.2 → ComInv A B (r :: a) b acc') := by
 have hA := fun n (hn : memR a n) => rightFrom_lt h.ra.2 n hn
 have hB := fun n (hn : memR b n) => rightFrom_lt h.rb.2 n hn
 have r1 := h.ra.1;have s1 := h.rb.1;have ir := h.ia r (by simp);have is := h.ib s (by simp);have ia' : inI64 a := fun x hx => h.ia x (by simp [hx])
 have ib' : inI64 b := fun x hx => h.ib x (by simp [hx])
 have hm : ∀ n, memR acc' n ↔ memR acc n ∨ ((r.1 ≤ n ∧ n ≤ r.2) ∧ (s.1 ≤ n ∧ n ≤ s.2)) := by
  intro n;rcases hc with ⟨rfl, hlt⟩ | ⟨rfl, hle⟩
  ·constructor
   ·exact Or.inl
   ·rintro (hx | hx)
    ·exact hx
    ·omega
  ·rw [memR_append, memR_one];dsimp only
   constructor
   ·rintro (hx | hx)
    ·exact Or.inl hx
    ·right; omega
   ·rintro (hx | hx)
    ·exact Or.inl hx
    ·right; omega
 have hr : rightR acc' := by
  rcases hc with ⟨rfl, hlt⟩ | ⟨rfl, hle⟩
  ·exact h.rc
  ·refine rightR_concat _ _ h.rc hle (fun x hx => ?_);dsimp only;exact h.gap x hx _ ((memR_cons _ _ _).2 (Or.inl (by omega))) ((memR_cons _ _ _).2 (Or.inl (by omega)))
 have hi : inI64 acc' := by
  rcases hc with ⟨rfl, hlt⟩ | ⟨rfl, hle⟩
  ·exact h.ic
  ·intro x hx;rcases List.mem_append.1 hx with hx | hx
   ·exact h.ic x hx
   ·simp at hx; rw [hx]; dsimp only; omega
 have hl : acc'.length ≤ acc.length + 1 := by
  rcases hc with ⟨rfl, hlt⟩ | ⟨rfl, hle⟩
  ·omega
  ·simp
 have hlen := h.len;simp only [List.length_cons] at hlen;have hg : ∀ x, lastH acc' = some x → (∀ n, memR (r :: a) n → memR (s :: b) n → lastH acc = some x → x + 1 < n) ∧ (lastH acc = some x ∨ x = min r.2 s.2) := by
  intro x hx;refine ⟨fun n h1 h2 h3 => h.gap x h3 n h1 h2, ?_⟩;rcases hc with ⟨rfl, hlt⟩ | ⟨rfl, hle⟩
  ·exact Or.inl hx
  ·rw [lastH_concat] at hx; cases hx; exact Or.inr rfl
 refine ⟨fun hlt => ?_, fun hle => ?_⟩
 ·refine ⟨rightR_tail h.ra, h.rb, hr, ia', h.ib, hi, fun n => ?_, fun x hx n h1 h2 => ?_, by simp only [List.length_cons]; omega⟩
  ·rw [h.mem n, hm n, memR_cons r a, memR_cons s b]
   constructor
   ·rintro (hx | ⟨hx | hx, hy | hy⟩)
    ·exact Or.inl (Or.inl hx)
    ·exact Or.inl (Or.inr ⟨hx, hy⟩)
    ·have := hB n hy; omega
    ·exact Or.inr ⟨hx, Or.inl hy⟩
    ·exact Or.inr ⟨hx, Or.inr hy⟩
   ·rintro ((hx | ⟨hx, hy⟩) | ⟨hx, hy⟩)
    ·exact Or.inl hx
    ·exact Or.inr ⟨Or.inl hx, Or.inl hy⟩
    ·exact Or.inr ⟨Or.inr hx, hy⟩
  ·obtain ⟨g1, g2⟩ := hg x hx;rcases g2 with g2 | g2
   ·exact g1 n ((memR_cons r a n).2 (Or.inr h1)) h2 g2
   ·have := hA n h1; omega
 ·refine ⟨h.ra, rightR_tail h.rb, hr, h.ia, ib', hi, fun n => ?_, fun x hx n h1 h2 => ?_, by simp only [List.length_cons]; omega⟩
  ·rw [h.mem n, hm n, memR_cons r a, memR_cons s b]
   constructor
   ·rintro (hx | ⟨hx | hx, hy | hy⟩)
    ·exact Or.inl (Or.inl hx)
    ·exact Or.inl (Or.inr ⟨hx, hy⟩)
    ·exact Or.inr ⟨Or.inl hx, hy⟩
    ·have := hA n hx; omega
    ·exact Or.inr ⟨Or.inr hx, hy⟩
   ·rintro ((hx | ⟨hx, hy⟩) | ⟨hx, hy⟩)
    ·exact Or.inl hx
    ·exact Or.inr ⟨Or.inl hx, Or.inl hy⟩
    ·exact Or.inr ⟨hx, Or.inr hy⟩
  ·obtain ⟨g1, g2⟩ := hg x hx;rcases g2 with g2 | g2
   ·exact g1 n h1 ((memR_cons s b n).2 (Or.inr h2)) g2
   ·have := hB n h2; omega
def CommonOut (A B o : List Rg) : Prop := rightR o ∧ inI64 o ∧ o.length ≤ A.length + B.length ∧ ∀ n, memR o n ↔ (memR A n ∧ memR B n)
theorem com_end {A B a b acc : List Rg} (h : ComInv A B a b acc) (he : a = [] ∨ b = []) : CommonOut A B acc := by
 refine ⟨h.rc, h.ic, by have := h.len; omega, fun n => ?_⟩;rw [h.mem n];rcases he with rfl | rfl <;> simp [memR_nil]
def lenV (v : Value) : Nat := match v with
 | .slice _ n _ => n
 | _ => 0
theorem rngs_tail {w : World} {b off cap n : Nat} {r : Rg} {l : List Rg} (h : RngsAt w (.slice (some ⟨b, off, none⟩) n cap) (r :: l)) : RngsAt w (.slice (if cap = 1 then some ⟨b, off, none⟩ else some ⟨b, off + 2, none⟩) (n - 1) (cap - 1)) l := by
 obtain ⟨h1, h2⟩ := h.room;obtain ⟨e1, e2⟩ := h.at
 subst e1;simp only [List.length_cons] at h1 e2;have hi : inI64 l := fun x hx => h.1 x (by simp [hx])
 have hl := h.2.1;simp only [List.length_cons] at hl;obtain ⟨sp, hsp⟩ := capOf_of (a := if cap = 1 then some (⟨b, off, none⟩ : Addr) else some ⟨b, off + 2, none⟩) (n := l.length) (c := cap - 1) (by omega) (fun e => by split at e <;> cases e);refine ⟨hi, by omega, _, sp, by rw [← hsp]; rfl, fun i hi' => ?_⟩;rw [if_neg (by omega)];obtain ⟨b', off', e, hb, c0, c1⟩ := e2 (i + 1) (by omega)
 simp at e
 obtain ⟨rfl, rfl⟩ := e;refine ⟨b, off + 2, rfl, hb, ?_, ?_⟩
 ·rw [show off + 2 + i * 2 = off + (i + 1) * 2 by omega, c0]; rfl
 ·rw [show off + 2 + i * 2 + 1 = off + (i + 1) * 2 + 1 by omega, c1]; rfl
set_option maxHeartbeats 4000000 in
set_option maxRecDepth 100000 in
theorem commonRanges_any (v u : Value) (A B : List Rg) (w : World) (hv : RngsAt w v A) (hu : RngsAt w u B) (hA : rightR A) (hB : rightR B) (hn : A.length + B.length ≤ 100000) :
  Calls Tryz.prog 104 #[v, u] w fun r w' => (∃ x o, r = .returned x ∧ CommonOut A B o ∧ OwnR w' w.heap.size x o) ∧ Below w.heap.size w w' := by
 have HV := hide hv;have HU := hide hu;have HC := hide (com_start hA hB hv.1 hu.1);clear hA hB;obtain ⟨a0, c0, rfl⟩ := hv.form;obtain ⟨a1, c1, rfl⟩ := hu.form;clear hv hu;have HN := hide hn;clear hn;go_enter Tryz.func104, Tryz.ntmps104
 go_wp2
 go_loopw [0, 1, 5] (fun va vb o wr => ∃ la lb acc : List Rg, Hid (RngsAt w va la) ∧ Hid (RngsAt w vb lb) ∧ Hid (OwnR wr w.heap.size o acc) ∧ Hid (ComInv A B la lb acc) ∧ Hid (Below w.heap.size w wr)) (fun va vb _ _ => lenV va + lenV vb)
 case atStart => exact ⟨A, B, [], HV, HU, hide (ownR_none _ _), HC, hide (Below.refl _ _)⟩
 case round =>
  clear HV HU HC;obtain ⟨la, lb, acc, HVa, HVb, HO, HC, HB⟩ := hrel;obtain ⟨pa, ca, ea⟩ := HVa.out.form;obtain ⟨pb, cb, eb⟩ := HVb.out.form;subst ea eb;cases la with
  | nil =>
   have HE := hide (com_end HC.out (Or.inl rfl));have hl0 : (([] : List Rg).length : Int) = 0 := rfl
   go_wp2
   go_ret
   exact ⟨⟨_, acc, rfl, HE.out, HO.out⟩, HB.out⟩
  | cons r a =>
   cases lb with
   | nil =>
    have HE := hide (com_end HC.out (Or.inr rfl))
    go_wp2
    go_ret
    exact ⟨⟨_, acc, rfl, HE.out, HO.out⟩, HB.out⟩
   | cons s b =>
    obtain ⟨ba, oa, ha, hba, x0, x1⟩ := HVa.out.at.2 0 (by simp);obtain ⟨bb, ob, hb, hbb, y0, y1⟩ := HVb.out.at.2 0 (by simp);subst ha hb;simp only [List.getD_cons_zero, Nat.zero_mul, Nat.add_zero] at x0 x1 y0 y1;have X1 := hide x1;have Y1 := hide y1;replace x0 := (HB.out.cell (p := ⟨ba, _, none⟩) hba).trans x0;replace x1 := (HB.out.cell (p := ⟨ba, _, none⟩) hba).trans x1;replace y0 := (HB.out.cell (p := ⟨bb, _, none⟩) hbb).trans y0;replace y1 := (HB.out.cell (p := ⟨bb, _, none⟩) hbb).trans y1;have szB := HB.out.size;have hba' : ba < wr.heap.size := by omega
    have hbb' : bb < wr.heap.size := by omega
    have la1 := HVa.out.2.1;have lb1 := HVb.out.2.1;have HLe := hide HC.out.len;simp only [List.length_cons] at la1 lb1 HVa HVb HLe ⊢;have ta := hide (rngs_tail HVa.out);have tb := hide (rngs_tail HVb.out);generalize a.length = na at *;generalize b.length = nb at *;have HS := hide (com_step HC.out (acc' := acc));have HS' := hide (com_step HC.out (acc' := acc ++ [(max r.1 s.1, min r.2 s.2)]))
    go_upto_region 3 with fail
    go_cut [6] from 7 to 55 (fun p wx => p = .pointer (some ⟨wr.heap.size, 0, none⟩) ∧ wx = (wr.alloc (Obj.cells #[Value.int IntKind.i64 (max r.1 s.1), Value.int IntKind.i64 (min r.2 s.2)] 58)).drew)
    case first =>
     go_big_region
     all_goals (go_wp2_with fail; go_meet; exact ⟨rfl, rfl⟩)
    case rest =>
     obtain ⟨rfl, rfl⟩ := hcut;have O5 : Hid (OwnR ((wr.alloc (Obj.cells #[Value.int IntKind.i64 (max r.1 s.1), Value.int IntKind.i64 (min r.2 s.2)] 58)).drew) w.heap.size u5 acc) := hide (HO.out.alloc _);have B5 := hide ((HB.out.alloc szB (Obj.cells #[Value.int IntKind.i64 (max r.1 s.1), Value.int IntKind.i64 (min r.2 s.2)] 58)).drew);have n0 : ((wr.alloc (Obj.cells #[Value.int IntKind.i64 (max r.1 s.1), Value.int IntKind.i64 (min r.2 s.2)] 58)).drew).cell? ⟨wr.heap.size, 0, none⟩ = some (.int .i64 (max r.1 s.1)) := cell_heap (heap_new wr _) 0;have n1 : ((wr.alloc (Obj.cells #[Value.int IntKind.i64 (max r.1 s.1), Value.int IntKind.i64 (min r.2 s.2)] 58)).drew).cell? ⟨wr.heap.size, 1, none⟩ = some (.int .i64 (min r.2 s.2)) := cell_heap (heap_new wr _) 1;clear x0 y0 x1 y1 HO HB;generalize (wr.alloc (Obj.cells #[Value.int IntKind.i64 (max r.1 s.1), Value.int IntKind.i64 (min r.2 s.2)] 58)).drew = w5 at O5 B5 n0 n1 ⊢;generalize max r.1 s.1 = X at HS HS' n0 ⊢;generalize min r.2 s.2 = Y at HS HS' n1 ⊢;have sz5 := B5.out.size;have x1 := (B5.out.cell (p := ⟨ba, _, none⟩) hba).trans X1.out;have y1 := (B5.out.cell (p := ⟨bb, _, none⟩) hbb).trans Y1.out;have LE : Hid (acc.length + 1 ≤ 1000000) := hide (by have := HLe.out; have := HN.out; omega);by_cases hxy : X ≤ Y
     ·have NX := hide (HS'.out (Or.inr ⟨rfl, hxy⟩));clear HS HS'
      go_wp2_with (at_builtin; refine wpList_appR _ rfl _ _ rfl w.heap.size _ _ rfl (O5.out.alloc _) _ 1 1 _ [(X, Y)] rfl rfl (heap_top _ _) rfl LE.out (by simp; omega) ?_; intro v8 w8 hO8 hb8; have O8 := hide hO8; have B8 := hide ((B5.out.alloc sz5 _).trans hb8); have z1 := (B8.out.cell (p := ⟨ba, _, none⟩) hba).trans X1.out; have z2 := (B8.out.cell (p := ⟨bb, _, none⟩) hbb).trans Y1.out; clear hO8 hb8 x1 y1 n0 n1)
      go_quiet (fail)
      have O9 := hide (O8.out.drewN nq);have B9 := hide (below_field B8.out nq);clear O5 B5 sz5 LE O8 B8 z1 z2 X1 Y1 HC hba hbb hba' hbb';generalize w8.drewN nq = w9 at O9 B9 ⊢
      go_wp2
      ·rename_i hlt
       exact ⟨⟨a, s :: b, acc ++ [(X, Y)], ta, HVb, O9, hide (NX.out.1 (by omega)), B9⟩, by simp [lenV]⟩
      ·rename_i hlt
       exact ⟨⟨r :: a, b, acc ++ [(X, Y)], HVa, tb, O9, hide (NX.out.2 (by omega)), B9⟩, by simp [lenV]⟩
     ·have NX := hide (HS.out (Or.inl ⟨rfl, by omega⟩));clear HS HS'
      go_wp2
      go_quiet (fail)
      have O9 := hide (O5.out.drewN nq);have B9 := hide (below_field B5.out nq);clear O5 B5 sz5 LE x1 y1 n0 n1 X1 Y1 HC hba hbb hba' hbb';generalize w5.drewN nq = w9 at O9 B9 ⊢
      go_wp2
      ·rename_i hlt
       exact ⟨⟨a, s :: b, acc, ta, HVb, O9, hide (NX.out.1 (by omega)), B9⟩, by simp [lenV]⟩
      ·rename_i hlt
       exact ⟨⟨r :: a, b, acc, HVa, tb, O9, hide (NX.out.2 (by omega)), B9⟩, by simp [lenV]⟩
end Go.Proofs.YtlkcjhcmkaddaaaGreat
namespace Go.Proofs.YtlkcjhcmkaddaaaGreat
open Go.RowKit
set_option maxHeartbeats 400000 in
theorem nanC_any (s : ByteArray) (w : World) : Calls Tryz.prog 114 #[.string s] w fun e w' => e = .returned (.bool false) ∧ w' = w := by
 have h : (s.toList != s.toList) = false := by simp
 go_enter Tryz.func114, Tryz.ntmps114
 go_wp2
 go_ret
 exact ⟨ret_bool (by simp), rfl⟩
set_option maxHeartbeats 400000 in
theorem nanS_any (s : ByteArray) (w : World) : Calls Tryz.prog 108 #[.string s] w fun e w' => e = .returned (.bool false) ∧ w' = w := by
 have h : (s.toList != s.toList) = false := by simp
 go_enter Tryz.func108, Tryz.ntmps108
 go_wp2
 go_ret
 exact ⟨ret_bool (by simp), rfl⟩
set_option maxHeartbeats 400000 in
theorem lessC_any (a b : ByteArray) (w : World) : Calls Tryz.prog 107 #[.string a, .string b] w fun e w' => e = .returned (.bool (Op.bytesLess a.toList b.toList)) ∧ w' = w := by
 have X := hide (nanC_any a w);go_enter Tryz.func107, Tryz.ntmps107
 go_wp2_with fail
 refine (unhide X).mono ?_;rintro r w1 ⟨rfl, rfl⟩
 go_wp2
 go_ret
 exact ⟨rfl, rfl⟩
theorem risesS_at : ∀ (l : List St) (i j : Nat), risesS l → i < j → j < l.length → Op.bytesLess (l.getD i []) (l.getD j []) = true
 | [], i, j, _, _, h => by simp at h
 | a :: l, 0, 0, _, h, _ => by omega
 | a :: l, 0, j + 1, h, _, hj => by
  have hj' : j < l.length := by simpa using hj
  simp only [List.getD_cons_zero, List.getD_cons_succ];refine h.1 _ ?_;rw [List.getD_eq_getElem?_getD, List.getElem?_eq_getElem hj'];exact List.getElem_mem _
 | a :: l, i + 1, 0, _, h, _ => by omega
 | a :: l, i + 1, j + 1, h, hij, hj => by
  simp only [List.getD_cons_succ];exact risesS_at l i j h.2 (by omega) (by simpa using hj)
theorem getD_map_toList (l : List ByteArray) (i : Nat) (hi : i < l.length) : (l.map fun b => b.toList).getD i [] = (l.getD i ⟨#[]⟩).toList := by
 simp [List.getD_eq_getElem?_getD, hi]
structure Sought (l : List ByteArray) (s : ByteArray) (i j : Nat) : Prop where
 le : i ≤ j
 top : j ≤ l.length
 low : ∀ k, k < i → Op.bytesLess (l.getD k ⟨#[]⟩).toList s.toList = true
 high : ∀ k, j ≤ k → k < l.length → Op.bytesLess (l.getD k ⟨#[]⟩).toList s.toList = false
theorem sought_start (l : List ByteArray) (s : ByteArray) : Sought l s 0 l.length := ⟨Nat.zero_le _, Nat.le_refl _, fun k h => by omega, fun k h1 h2 => by omega⟩
theorem rises_lt {l : List ByteArray} (h : risesS (l.map fun b => b.toList)) {i j : Nat} (hij : i < j) (hj : j < l.length) : Op.bytesLess (l.getD i ⟨#[]⟩).toList (l.getD j ⟨#[]⟩).toList = true := by
 have := risesS_at _ i j h hij (by simpa using hj)
 rwa [getD_map_toList l i (by omega), getD_map_toList l j hj] at this
theorem sought_low {l : List ByteArray} {s : ByteArray} {i j h : Nat} (hr : risesS (l.map fun b => b.toList)) (hS : Sought l s i j) (h1 : i ≤ h) (h2 : h < j) (hl : Op.bytesLess (l.getD h ⟨#[]⟩).toList s.toList = true) : Sought l s (h + 1) j := by
 refine ⟨by omega, hS.top, fun k hk => ?_, hS.high⟩;by_cases e : k = h
 ·rw [e]; exact hl
 ·exact lessB_trans _ _ _ (rises_lt hr (show k < h by omega) (by have := hS.top; omega)) hl
theorem sought_high {l : List ByteArray} {s : ByteArray} {i j h : Nat} (hr : risesS (l.map fun b => b.toList)) (hS : Sought l s i j) (h1 : i ≤ h) (h2 : h < j) (hl : Op.bytesLess (l.getD h ⟨#[]⟩).toList s.toList = false) : Sought l s i h := by
 refine ⟨h1, by have := hS.top; omega, hS.low, fun k hk1 hk2 => ?_⟩;by_cases e : k = h
 ·rw [e]; exact hl
 ·cases hx : Op.bytesLess (l.getD k ⟨#[]⟩).toList s.toList
  ·rfl
  ·have := lessB_trans _ _ _ (rises_lt hr (show h < k by omega) hk2) hx;rw [hl] at this;cases this
theorem sought_end {l : List ByteArray} {s : ByteArray} {i : Nat} (hr : risesS (l.map fun b => b.toList)) (hS : Sought l s i i) : inStrsB l s = (decide (i < l.length) && ((l.getD i ⟨#[]⟩).toList == s.toList)) := by
 apply bool_of_iff
 rw [inStrs_iff, Bool.and_eq_true, decide_eq_true_iff, bytes_eq]
 constructor
 ·intro hm;obtain ⟨k, hk, e⟩ := List.getElem_of_mem hm;have e' : l.getD k ⟨#[]⟩ = s := by rw [List.getD_eq_getElem?_getD, List.getElem?_eq_getElem hk]; exact e
  have h1 : i ≤ k := Classical.byContradiction fun hn => by
   have := hS.low k (by omega);rw [e', lessB_irrefl] at this;cases this
  have h2 : ¬ i < k := fun hn => by
   have h3 := rises_lt hr hn hk;rw [e', hS.high i (Nat.le_refl _) (by omega)] at h3;cases h3
  have : i = k := by omega
  subst this;exact ⟨hk, e'⟩
 ·rintro ⟨h1, h2⟩;rw [← h2, List.getD_eq_getElem?_getD, List.getElem?_eq_getElem h1];exact List.getElem_mem _
set_option maxHeartbeats 2000000 in
set_option maxRecDepth 100000 in
theorem search_any (v : Value) (l : List ByteArray) (s : ByteArray) (w : World) (hv : StrsAt w v l) (hr : risesS (l.map fun b => b.toList)) (hn : l.length ≤ 100000) :
  Calls Tryz.prog 97 #[v, .string s] w fun r w' => (∃ i, r = .returned (.tuple #[.int .i64 i, .bool (inStrsB l s)])) ∧ w' = w := by
 have HV := hide hv;have HR := hide hr;have hlen := hv.2.1;obtain ⟨a, cap, rfl⟩ := hv.form;clear hv hr;have HS0 := hide (sought_start l s);obtain ⟨N, hN⟩ : ∃ N : Nat, N = l.length := ⟨_, rfl⟩
 rw [← hN] at hlen hn HV HS0 ⊢;have HN := hide hN;clear hN;have LS := fun (a : ByteArray) => hide (lessC_any a s w)
 have NS := fun (a : ByteArray) => hide (nanS_any a w)
 go_enter Tryz.func97, Tryz.ntmps97
 go_wp2
 go_loopw [7, 8] (fun iv jv wr => ∃ (i j : Nat), iv = .int .i64 i ∧ jv = .int .i64 j ∧ i ≤ j ∧ j ≤ N ∧ wr = w ∧ Hid (Sought l s i j)) (fun iv jv _ => (intOf jv).toNat - (intOf iv).toNat)
 case atStart => exact ⟨0, N, rfl, rfl, by omega, by omega, rfl, HS0⟩
 case round =>
  obtain ⟨i, j, rfl, rfl, hij, hj, rfl, HS⟩ := hrel;by_cases hlt : i < j
  ·have hw1 : IntKind.i64.wrap ((i : Int) + (j : Int)) = (i : Int) + (j : Int) := by rw [IntKind.wrap_i64]; omega
   obtain ⟨b, off, ha, hb, c0⟩ := HV.out.at.2 ((i + j) / 2) (by rw [← HN.out]; omega);subst ha;have SL := hide (fun h => sought_low HR.out HS.out (h := (i + j) / 2) (by omega) (by omega) h);have SH := hide (fun h => sought_high HR.out HS.out (h := (i + j) / 2) (by omega) (by omega) h);generalize l.getD ((i + j) / 2) ⟨#[]⟩ = q at c0 SL SH;have X := LS q;clear LS NS HS0 HS;cases hq : Op.bytesLess q.toList s.toList
   ·rw [hq] at X
    go_wp2_with fail
    refine (unhide X).mono ?_;rintro r w2 ⟨rfl, rfl⟩
    go_wp2
    exact ⟨⟨i, (i + j) / 2, rfl, by simp, by omega, by omega, trivial, hide (SH.out hq)⟩, by simp [intOf]; omega⟩
   ·rw [hq] at X
    go_wp2_with fail
    refine (unhide X).mono ?_;rintro r w2 ⟨rfl, rfl⟩
    go_wp2
    exact ⟨⟨(i + j) / 2 + 1, j, by simp, rfl, by omega, by omega, trivial, hide (SL.out hq)⟩, by simp [intOf]; omega⟩
  ·have hij' : i = j := by omega
   subst hij';have E := hide (sought_end HR.out HS.out);rw [← HN.out] at E;clear LS HS0 HS hlt hij;by_cases hiN : i < N
   ·obtain ⟨b, off, ha, hb, c0⟩ := HV.out.at.2 i (by rw [← HN.out]; omega);subst ha;generalize l.getD i ⟨#[]⟩ = q at c0 E;have X := NS q;cases hq : (q.toList == s.toList)
    ·have E1 : Hid (inStrsB l s = false) := hide (by rw [E.out, hq]; simp)
     go_wp2_with fail
     refine (unhide X).mono ?_;rintro r w2 ⟨rfl, rfl⟩
     go_wp2
     go_ret2
     exact ⟨⟨i, by rw [E1.out]; rfl⟩, rfl⟩
    ·have E1 : Hid (inStrsB l s = true) := hide (by rw [E.out, hq, decide_eq_true hiN]; rfl)
     go_wp2
     go_ret2
     exact ⟨⟨i, by rw [E1.out]; rfl⟩, rfl⟩
   ·have E1 : Hid (inStrsB l s = false) := hide (by rw [E.out, decide_eq_false hiN]; rfl);have hge : (N : Int) ≤ (i : Int) := by omega
    go_wp2
    go_ret2
    exact ⟨⟨i, by rw [E1.out]; rfl⟩, rfl⟩
set_option maxHeartbeats 400000 in
theorem hasString_any (v : Value) (l : List ByteArray) (s : ByteArray) (w : World) (hv : StrsAt w v l) (hr : risesS (l.map fun b => b.toList)) (hn : l.length ≤ 100000) :
  Calls Tryz.prog 80 #[v, .string s] w fun r w' => r = .returned (.bool (inStrsB l s)) ∧ w' = w := by
 have X := hide (search_any v l s w hv hr hn);obtain ⟨a, cap, rfl⟩ := hv.form;clear hv hr hn;generalize inStrsB l s = IB at *;generalize l.length = N at *;go_enter Tryz.func80, Tryz.ntmps80
 go_wp2_with fail
 refine (unhide X).mono ?_;rintro r w1 ⟨⟨i, rfl⟩, rfl⟩
 go_wp2
 go_ret
 exact ⟨rfl, rfl⟩
end Go.Proofs.YtlkcjhcmkaddaaaGreat
namespace Go.Proofs.YtlkcjhcmkaddaaaGreat
open Go.RowKit
theorem filter_take_succ {l : List ByteArray} {p : ByteArray → Bool} {k : Nat} (h : k < l.length) : (l.take (k + 1)).filter p = (l.take k).filter p ++ (if p (l.getD k ⟨#[]⟩) then [l.getD k ⟨#[]⟩] else []) := by
 rw [List.take_add_one, List.filter_append, List.getD_eq_getElem?_getD, List.getElem?_eq_getElem h];simp only [Option.toList_some, Option.getD_some, List.filter_cons, List.filter_nil]
set_option maxHeartbeats 2000000 in
set_option maxRecDepth 100000 in
theorem picked_any (v u : Value) (l m : List ByteArray) (h : Bool) (w : World) (hv : StrsAt w v l) (hu : StrsAt w u m) (hr : risesS (m.map fun b => b.toList)) (hl : l.length ≤ 100000) (hm : m.length ≤ 100000) :
  Calls Tryz.prog 109 #[v, u, .bool h] w fun r w' => (∃ x, r = .returned x ∧ OwnS w' w.heap.size x (l.filter fun s => inStrsB m s == h)) ∧ Below w.heap.size w w' := by
 have HV := hide hv;have HU := hide hu;have X := fun (s : ByteArray) (w1 : World) (hb : Below w.heap.size w w1) => hide (hasString_any u m s w1 (hu.on hb) hr hm)
 have hlen := hv.2.1;obtain ⟨a, cap, rfl⟩ := hv.form;obtain ⟨a1, cap1, rfl⟩ := hu.form;clear hv hu hr;obtain ⟨N, hN⟩ : ∃ N : Nat, N = l.length := ⟨_, rfl⟩
 rw [← hN] at hlen hl HV ⊢;have HN := hide hN;clear hN;go_enter Tryz.func109, Tryz.ntmps109
 go_wp2
 go_loopw [7, 12] (fun o i wr => ∃ k : Nat, i = .int .i64 k ∧ k ≤ N ∧ Hid (OwnS wr w.heap.size o ((l.take k).filter fun s => inStrsB m s == h)) ∧ Hid (Below w.heap.size w wr)) (fun _ i _ => N - (intOf i).toNat)
 case atStart => exact ⟨0, rfl, by omega, hide (ownS_none _ _), hide (Below.refl _ _)⟩
 case round =>
  obtain ⟨k, rfl, hk, HO, HB⟩ := hrel;by_cases hlt : k < N
  ·have hk' : k < l.length := by rw [← HN.out]; exact hlt
   obtain ⟨b, off, ha, hb, c0⟩ := (HV.out.on HB.out).at.2 k hk';subst ha;have HF := hide (filter_take_succ (p := fun s => inStrsB m s == h) hk');have LE : Hid (((l.take k).filter fun s => inStrsB m s == h).length + 1 ≤ 1000000) := hide (by
    have h1 := List.length_filter_le (fun s => inStrsB m s == h) (l.take k);have h2 : (l.take k).length ≤ k := by simp; omega
    omega)
   generalize l.getD k ⟨#[]⟩ = q at c0 HF;have Y := X q _ HB.out;have szB := HB.out.size;cases hq : (inStrsB m q == h)
   ·have E : Hid ((l.take (k + 1)).filter (fun s => inStrsB m s == h) = (l.take k).filter fun s => inStrsB m s == h) := hide (by rw [HF.out, hq]; simp);clear HF LE X;generalize inStrsB m q = IB at Y hq
    go_wp2_with fail
    refine (unhide Y).mono ?_;rintro r w2 ⟨rfl, rfl⟩
    go_wp2
    refine ⟨⟨k + 1, by go_num, by omega, ?_, HB⟩, by simp [intOf]; omega⟩;rw [E.out]; exact HO
   ·have E : Hid ((l.take (k + 1)).filter (fun s => inStrsB m s == h) = ((l.take k).filter fun s => inStrsB m s == h) ++ [q]) := hide (by rw [HF.out, hq]; simp);clear HF X;generalize inStrsB m q = IB at Y hq
    go_wp2_with fail
    refine (unhide Y).mono ?_;rintro r w2 ⟨rfl, rfl⟩
    go_wp2_with (at_builtin; refine wpList_appS _ rfl _ _ rfl w.heap.size _ _ rfl (HO.out.alloc _) _ 1 1 _ [q] rfl rfl (heap_top _ _) rfl LE.out (by simp; omega) ?_; intro v8 w8 hO8 hb8; have O8 := hide hO8; have B8 := hide ((HB.out.alloc szB _).trans hb8); clear hO8 hb8)
    refine ⟨⟨k + 1, by go_num, by omega, ?_, B8⟩, by simp [intOf]; omega⟩;rw [E.out]; exact O8
  ·have hge : (N : Int) ≤ (k : Int) := by omega
   have E : Hid (l.take k = l) := hide (List.take_of_length_le (by have := HN.out; omega));rw [E.out] at HO
   go_wp2
   go_ret
   exact ⟨⟨_, rfl, HO.out⟩, HB.out⟩
end Go.Proofs.YtlkcjhcmkaddaaaGreat
namespace Go.Proofs
open Go.Shelf
def Tryz.lays190_ren : Go.Shelf.Ren := ⟨fun | 190 => 116 | 125 => 121 | 258 => 120 | 128 => 131 | 129 => 132 | 302 => 123 | 303 => 124 | 304 => 125 | 305 => 126 | 306 => 127 | 307 => 128 | 308 => 107 | 309 => 129 | 310 => 130 | 333 => 133 | 329 => 134 | 330 => 135 | 334 => 136 | 335 => 137 | 336 => 114 | 344 => 138 | n => n, fun | 31 => 23 | 9 => 9 | 3 => 3 | 46 => 112 | 0 => 0 | 51 => 134 | 53 => 124 | 4 => 4 | 183 => 128 | 182 => 127 | 131 => 101 | 5 => 5 | 218 => 137 | 222 => 141 | 228 => 143 | 229 => 64 | n => n, fun | n => n⟩
theorem Tryz.lays190 : Go.Proofs.Lays.n190 Tryz.prog Tryz.lays190_ren := {
 mixed := by kernel_rfl
 f125 := Tryz.func121.trans (congrArg some (by kernel_rfl))
 f128 := Tryz.func131.trans (congrArg some (by kernel_rfl))
 f129 := Tryz.func132.trans (congrArg some (by kernel_rfl))
 f190 := Tryz.func116.trans (congrArg some (by kernel_rfl))
 f258 := Tryz.func120.trans (congrArg some (by kernel_rfl))
 f302 := Tryz.func123.trans (congrArg some (by kernel_rfl))
 f303 := Tryz.func124.trans (congrArg some (by kernel_rfl))
 f304 := Tryz.func125.trans (congrArg some (by kernel_rfl))
 f305 := Tryz.func126.trans (congrArg some (by kernel_rfl))
 f306 := Tryz.func127.trans (congrArg some (by kernel_rfl))
 f307 := Tryz.func128.trans (congrArg some (by kernel_rfl))
 f308 := Tryz.func107.trans (congrArg some (by kernel_rfl))
 f309 := Tryz.func129.trans (congrArg some (by kernel_rfl))
 f310 := Tryz.func130.trans (congrArg some (by kernel_rfl))
 f329 := Tryz.func134.trans (congrArg some (by kernel_rfl))
 f330 := Tryz.func135.trans (congrArg some (by kernel_rfl))
 f333 := Tryz.func133.trans (congrArg some (by kernel_rfl))
 f334 := Tryz.func136.trans (congrArg some (by kernel_rfl))
 f335 := Tryz.func137.trans (congrArg some (by kernel_rfl))
 f336 := Tryz.func114.trans (congrArg some (by kernel_rfl))
 f344 := Tryz.func138.trans (congrArg some (by kernel_rfl))
 t0 := Tryz.underlying0
 a0 := Tryz.isAgg0
 z0 := Tryz.sizeOf0
 v0 := Tryz.zeroValue0
 t3 := Tryz.underlying3
 a3 := Tryz.isAgg3
 z3 := Tryz.sizeOf3
 v3 := Tryz.zeroValue3
 t4 := Tryz.underlying4
 a4 := Tryz.isAgg4
 z4 := Tryz.sizeOf4
 v4 := Tryz.zeroValue4
 t5 := Tryz.underlying5
 a5 := Tryz.isAgg5
 z5 := Tryz.sizeOf5
 v5 := Tryz.zeroValue5
 t9 := Tryz.underlying9
 a9 := Tryz.isAgg9
 z9 := Tryz.sizeOf9
 v9 := Tryz.zeroValue9
 t31 := Tryz.underlying23
 a31 := Tryz.isAgg23
 z31 := Tryz.sizeOf23
 v31 := Tryz.zeroValue23
 t46 := Tryz.underlying112
 a46 := Tryz.isAgg112
 z46 := Tryz.sizeOf112
 v46 := Tryz.zeroValue112
 t51 := Tryz.underlying134
 a51 := Tryz.isAgg134
 z51 := Tryz.sizeOf134
 v51 := Tryz.zeroValue134
 t53 := Tryz.underlying124
 a53 := Tryz.isAgg124
 z53 := Tryz.sizeOf124
 v53 := Tryz.zeroValue124
 t131 := Tryz.underlying101
 a131 := Tryz.isAgg101
 z131 := Tryz.sizeOf101
 v131 := Tryz.zeroValue101
 t182 := Tryz.underlying127
 a182 := Tryz.isAgg127
 z182 := Tryz.sizeOf127
 v182 := Tryz.zeroValue127
 t183 := Tryz.underlying128
 a183 := Tryz.isAgg128
 z183 := Tryz.sizeOf128
 v183 := Tryz.zeroValue128
 t218 := Tryz.underlying137
 a218 := Tryz.isAgg137
 z218 := Tryz.sizeOf137
 v218 := Tryz.zeroValue137
 t222 := Tryz.underlying141
 a222 := Tryz.isAgg141
 z222 := Tryz.sizeOf141
 v222 := Tryz.zeroValue141
 t228 := Tryz.underlying143
 a228 := Tryz.isAgg143
 z228 := Tryz.sizeOf143
 v228 := Tryz.zeroValue143
 t229 := Tryz.underlying64
 a229 := Tryz.isAgg64
 z229 := Tryz.sizeOf64
 v229 := Tryz.zeroValue64 }
open Go.Sort Go.RowKit in
theorem Tryz.slices_Sort_string (blk off cap : Nat) (ss : List (List UInt8)) (w : World) (hH : Holds encStr w blk off ss.toArray) (hblk : blk < w.heap.size) (hsz : ss.length < 4611686018427387904) :
  Calls Tryz.prog 116 #[.slice (some ⟨blk, off, none⟩) ss.length cap] w fun e w' =>
   e = .returned (.tuple #[]) ∧ ∃ n os, w' = grow (putRow encStr (Sort.ahead w n) blk off (ss.mergeSort fun x y => decide (x ≤ y)).toArray) os := Any.slices_Sort_string Tryz.lays190 blk off cap ss w hH hblk hsz
def Tryz.laysNm216_ren : Go.Shelf.Ren := ⟨fun | 16 => 77 | n => n, fun | 24 => 23 | 9 => 9 | 4 => 4 | n => n, fun | n => n⟩
theorem Tryz.laysNm216 : Go.Proofs.Lays2.n16 Tryz.prog Tryz.laysNm216_ren := {
 mixed := by kernel_rfl
 f16 := Tryz.func77.trans (congrArg some (by kernel_rfl))
 t4 := Tryz.underlying4
 a4 := Tryz.isAgg4
 z4 := Tryz.sizeOf4
 v4 := Tryz.zeroValue4
 t9 := Tryz.underlying9
 a9 := Tryz.isAgg9
 z9 := Tryz.sizeOf9
 v9 := Tryz.zeroValue9
 t24 := Tryz.underlying23
 a24 := Tryz.isAgg23
 z24 := Tryz.sizeOf23
 v24 := Tryz.zeroValue23
 i9 := by kernel_rfl }
open Go.RowKit Go.Lib in
theorem Tryz.slices_Clone_string (b off n c : Nat) (zs : List ByteArray) (w : World) (hz : n ≤ zs.length) (hbig : n * 16 ≤ 140737488355328) (hc : ∀ j, j < zs.length → w.cell? ⟨b, off + j, none⟩ = some (.string (zs.getD j ByteArray.empty))) :
  Calls Tryz.prog 77 #[.slice (some ⟨b, off, none⟩) n c] w fun e w' => ∃ v', e = .returned v' ∧ w'.ownsRow w.heap.size 9 1 v' n ((zs.take n).map (Value.string)) ∧ v' ≠ .slice none 0 0 ∧ Below w.heap.size w w' := Any.slices_Clone_string Tryz.laysNm216 b off n c zs w hz hbig hc
open Go.RowKit Go.Lib in
theorem Tryz.slices_Clone_string_nil (n c : Nat) (w : World) :
  Calls Tryz.prog 77 #[.slice none n c] w fun e w' => e = .returned (.slice none 0 0) ∧ w' = w := Any.slices_Clone_string_nil Tryz.laysNm216 n c w
open Go.RowKit Go.Lib in
theorem Tryz.slices_Clone_string_zero (a : Addr) (c : Nat) (w : World) :
  Calls Tryz.prog 77 #[.slice (some a) 0 c] w fun e w' => ∃ v', e = .returned v' ∧ w'.ownsRow w.heap.size 9 1 v' 0 [] ∧ v' ≠ .slice none 0 0 ∧ Below w.heap.size w w' := Any.slices_Clone_string_zero Tryz.laysNm216 a c w
def Tryz.lays194_ren : Go.Shelf.Ren := ⟨fun | 194 => 117 | n => n, fun | 31 => 23 | 9 => 9 | 3 => 3 | 4 => 4 | 0 => 0 | n => n, fun | n => n⟩
theorem Tryz.lays194 : Go.Proofs.Lays.n194 Tryz.prog Tryz.lays194_ren := {
 mixed := by kernel_rfl
 f194 := Tryz.func117.trans (congrArg some (by kernel_rfl))
 t0 := Tryz.underlying0
 a0 := Tryz.isAgg0
 z0 := Tryz.sizeOf0
 v0 := Tryz.zeroValue0
 t3 := Tryz.underlying3
 a3 := Tryz.isAgg3
 z3 := Tryz.sizeOf3
 v3 := Tryz.zeroValue3
 t4 := Tryz.underlying4
 a4 := Tryz.isAgg4
 z4 := Tryz.sizeOf4
 v4 := Tryz.zeroValue4
 t9 := Tryz.underlying9
 a9 := Tryz.isAgg9
 z9 := Tryz.sizeOf9
 v9 := Tryz.zeroValue9
 t31 := Tryz.underlying23
 a31 := Tryz.isAgg23
 z31 := Tryz.sizeOf23
 v31 := Tryz.zeroValue23 }
open Go.RowKit Go.Lib Go.Sort in
theorem Tryz.slices_Compact_string (blk off cap : Nat) (zs : List (List UInt8)) (w : World) (hH : Holds encStr w blk off zs.toArray) (hsz : zs.length ≤ 9223372036854775807) (hcap : zs.length ≤ cap) :
  Calls Tryz.prog 117 #[.slice (some ⟨blk, off, none⟩) zs.length cap] w fun e w' => e = .returned (.slice (some ⟨blk, off, none⟩) (Lib.compact zs).length cap) ∧ ∃ q, w' = putRow encStr (Sort.ahead w q) blk off (Lib.compact zs ++ List.replicate (zs.length - (Lib.compact zs).length) []).toArray := Any.slices_Compact_string Tryz.lays194 blk off cap zs w hH hsz hcap
open Go.RowKit Go.Lib Go.Sort in
theorem Tryz.slices_Compact_string_empty (a : Option Addr) (cap : Nat) (w : World) :
  Calls Tryz.prog 117 #[.slice a 0 cap] w fun e w' => e = .returned (.slice a 0 cap) ∧ w' = w := Any.slices_Compact_string_empty Tryz.lays194 a cap w
open Go.RowKit Go.Sort in
theorem Tryz.slices_Sort_string_none (p : Option Addr) (cap : Nat) (w : World) :
  Calls Tryz.prog 116 #[.slice p 0 cap] w fun e w' => e = .returned (.tuple #[]) ∧ w' = w := Any.slices_Sort_string_none Tryz.lays190 p cap w
end Go.Proofs
namespace Go.Proofs.YtlkcjhcmkaddaaaGreat
open Go.RowKit
theorem lt_less : ∀ a b : St, a < b ↔ Op.bytesLess a b = true
 | [], [] => by simp [Op.bytesLess]
 | [], _ :: _ => by simp [Op.bytesLess]
 | _ :: _, [] => by simp [Op.bytesLess]
 | x :: a, y :: b => by
  rw [List.cons_lt_cons_iff, lt_less a b]
  simp [Op.bytesLess]
theorem le_less {a b : St} (h : a ≤ b) : Op.bytesLess a b = true ∨ a = b := by
 rcases lessB_tri a b with h1 | h1 | h1
 ·exact Or.inl h1
 ·exact Or.inr h1
 ·exact absurd ((lt_less b a).2 h1) (List.not_lt.2 h)
theorem risesS_concat : ∀ (l : List St) (x : St), risesS l → (∀ y ∈ l, Op.bytesLess y x = true) → risesS (l ++ [x])
 | [], x, _, _ => ⟨fun b h => by simp at h, trivial⟩
 | a :: l, x, ⟨h1, h2⟩, h => by
  refine ⟨fun b hb => ?_, risesS_concat l x h2 (fun y hy => h y (by simp [hy]))⟩;rcases List.mem_append.1 hb with hb | hb
  ·exact h1 b hb
  ·simp at hb; rw [hb]; exact h a (by simp)
theorem compact_upto (d : Array St) (hs : ∀ i j, i < j → j < d.size → d[i]! ≤ d[j]!) : ∀ m, m ≤ d.size → risesS (Lib.compactUpTo d m) ∧ (∀ x, x ∈ Lib.compactUpTo d m ↔ ∃ j, j < m ∧ d[j]! = x) ∧ (Lib.compactUpTo d m).length ≤ m
 | 0, _ => by
  refine ⟨trivial, fun x => ?_, by simp [Lib.compactUpTo]⟩
  simp [Lib.compactUpTo]
 | m + 1, hm => by
  obtain ⟨h1, h2, h3⟩ := compact_upto d hs m (by omega);rw [Lib.compactUpTo_succ];cases hk : Lib.keeps d m
  ·have hk' : ¬ (m = 0 ∨ d[m]! ≠ d[m - 1]!) := by
    unfold Lib.keeps at hk;exact of_decide_eq_false hk
   have h0 : m ≠ 0 := fun e => hk' (Or.inl e)
   have he : d[m]! = d[m - 1]! := Classical.byContradiction fun e => hk' (Or.inr e)
   rw [if_neg (by simp), List.append_nil];refine ⟨h1, fun x => ?_, by omega⟩;rw [h2 x]
   constructor
   ·rintro ⟨j, hj, e⟩; exact ⟨j, by omega, e⟩
   ·rintro ⟨j, hj, e⟩;by_cases hjm : j = m
    ·subst hjm; exact ⟨j - 1, by omega, by rw [← he]; exact e⟩
    ·exact ⟨j, by omega, e⟩
  ·have hk' : m = 0 ∨ d[m]! ≠ d[m - 1]! := by
    unfold Lib.keeps at hk;exact of_decide_eq_true hk
   rw [if_pos rfl];refine ⟨risesS_concat _ _ h1 (fun y hy => ?_), fun x => ?_, by simp; omega⟩
   ·obtain ⟨j, hj, rfl⟩ := (h2 y).1 hy;have hne : d[m]! ≠ d[m - 1]! := by
     rcases hk' with e | e
     ·omega
     ·exact e
    have hA : Op.bytesLess d[m - 1]! d[m]! = true := by
     rcases le_less (hs (m - 1) m (by omega) (by omega)) with h | h
     ·exact h
     ·exact absurd h.symm hne
    by_cases hjm : j = m - 1
    ·rw [hjm]; exact hA
    ·rcases le_less (hs j (m - 1) (by omega) (by omega)) with h | h
     ·exact lessB_trans _ _ _ h hA
     ·rw [h]; exact hA
   ·rw [List.mem_append, h2 x]
    constructor
    ·rintro (⟨j, hj, e⟩ | h)
     ·exact ⟨j, by omega, e⟩
     ·simp at h; exact ⟨m, by omega, by simp [h]⟩
    ·rintro ⟨j, hj, e⟩;by_cases hjm : j = m
     ·subst hjm; exact Or.inr (by simp [e])
     ·exact Or.inl ⟨j, by omega, e⟩
theorem compact_sorted (zs : List St) : risesS (Lib.compact (zs.mergeSort fun x y => decide (x ≤ y))) ∧ (∀ x, x ∈ Lib.compact (zs.mergeSort fun x y => decide (x ≤ y)) ↔ x ∈ zs) ∧ (Lib.compact (zs.mergeSort fun x y => decide (x ≤ y))).length ≤ zs.length := by
 have tr : ∀ a b c : St, decide (a ≤ b) = true → decide (b ≤ c) = true → decide (a ≤ c) = true := fun a b c h1 h2 => by
  simp only [decide_eq_true_eq] at *; exact List.le_trans h1 h2
 have tot : ∀ a b : St, (decide (a ≤ b) || decide (b ≤ a)) = true := fun a b => by
  simp only [Bool.or_eq_true, decide_eq_true_eq]; exact List.le_total a b
 have hp := List.pairwise_mergeSort tr tot zs;have hm := List.mergeSort_perm zs (fun x y => decide (x ≤ y));generalize zs.mergeSort (fun x y => decide (x ≤ y)) = ts at hp hm ⊢;have hg : ∀ j, j < ts.length → ts.toArray[j]! = ts.getD j [] := fun j hj => by simp [List.getD_eq_getElem?_getD, hj]
 obtain ⟨h1, h2, h3⟩ := compact_upto ts.toArray (fun i j hij hj => by
  have hj' : j < ts.length := by simpa using hj
  rw [hg i (by omega), hg j hj'];have := List.pairwise_iff_getElem.1 hp i j (by omega) hj' hij
  simpa [List.getD_eq_getElem?_getD, hj', show i < ts.length by omega] using this) ts.length (by simp)
 refine ⟨h1, fun x => ?_, by have := hm.length_eq; unfold Lib.compact; omega⟩;rw [← hm.mem_iff];unfold Lib.compact;rw [h2 x]
 constructor
 ·rintro ⟨j, hj, e⟩;rw [← e, hg j hj, List.getD_eq_getElem?_getD, List.getElem?_eq_getElem hj];exact List.getElem_mem _
 ·intro h;obtain ⟨j, hj, e⟩ := List.getElem_of_mem h;exact ⟨j, hj, by rw [hg j hj, List.getD_eq_getElem?_getD, List.getElem?_eq_getElem hj]; exact e⟩
def ofSt (l : St) : ByteArray := ⟨l.toArray⟩
theorem ofSt_toList (l : St) : (ofSt l).toList = l := by rw [ByteArray.toList_eq]; rfl
theorem data_toList (s : ByteArray) : s.data.toList = s.toList := (ByteArray.toList_eq s).symm
theorem map_ofSt (l : List St) : (l.map ofSt).map Value.string = l.map encStr := by rw [List.map_map]; rfl
theorem either_is (a b : List ByteArray) (ha : rightS a) (hb : rightS b) : (Lib.compact (((a ++ b).map (·.data.toList)).mergeSort fun x y => decide (x ≤ y))).map ofSt = orS a b := by
 obtain ⟨o1, _, o3⟩ := orS_all a b ha.1 hb;obtain ⟨c1, c2, _⟩ := compact_sorted ((a ++ b).map (·.data.toList));generalize Lib.compact (((a ++ b).map (·.data.toList)).mergeSort fun x y => decide (x ≤ y)) = c at c1 c2 ⊢;have hm : ∀ x : ByteArray, x ∈ c.map ofSt ↔ x ∈ a ∨ x ∈ b := fun x => by
  rw [List.mem_map]
  constructor
  ·rintro ⟨y, hy, rfl⟩;obtain ⟨z, hz, e⟩ := List.mem_map.1 ((c2 y).1 hy);have : ofSt y = z := by
    apply toList_inj
    rw [ofSt_toList, ← e];exact data_toList z
   rw [this];exact List.mem_append.1 hz
  ·intro hx;refine ⟨x.data.toList, (c2 _).2 (List.mem_map.2 ⟨x, List.mem_append.2 hx, rfl⟩), ?_⟩
   apply toList_inj
   rw [ofSt_toList];exact data_toList x
 refine rightS_ext _ _ ⟨fun s hs => ?_, ?_⟩ o1 (fun s => by rw [hm s, o3 s])
 ·rcases (hm s).1 hs with h | h
  ·exact ha.1 s h
  ·exact hb.1 s h
 ·rw [List.map_map];have : (fun b => b.toList) ∘ ofSt = id := funext fun l => ofSt_toList l
  rw [this, List.map_id];exact c1
set_option maxHeartbeats 2000000 in
set_option maxRecDepth 100000 in
theorem either_any (v u : Value) (a b : List ByteArray) (w : World) (hv : StrsAt w v a) (hu : StrsAt w u b) (ha : rightS a) (hb : rightS b) (hl : a.length + b.length ≤ 100000) :
  Calls Tryz.prog 110 #[v, u] w fun r w' => (∃ x, r = .returned x ∧ OwnS w' w.heap.size x (orS a b)) ∧ Below w.heap.size w w' := by
 obtain ⟨pa, ca, rfl⟩ := hv.form;obtain ⟨pb, cb, rfl⟩ := hu.form;have CO := hide (concatS_any w.heap.size _ _ a b (w.alloc (.cells #[.slice pa a.length ca, .slice pb b.length cb] 23)) (heap_new _ _) (hv.on ((Below.refl _ w).alloc (Nat.le_refl _) _)) (hu.on ((Below.refl _ w).alloc (Nat.le_refl _) _)) hl);have EI := hide (either_is a b ha hb);have CL := hide (compact_sorted ((a ++ b).map (·.data.toList))).2.2;have hsz := hide hl;clear hv hu hl;go_enter Tryz.func110, Tryz.ntmps110
 go_wp2_with fail
 refine (unhide CO).mono ?_;rintro r w1 ⟨⟨x, rfl, ho⟩, hb1⟩;have B1 := hide (below_alloc hb1);have hB : w.heap.size ≤ (w.alloc (.cells #[.slice pa a.length ca, .slice pb b.length cb] 23)).heap.size := by simp
 have HO : Hid (w1.ownsRow w.heap.size 9 1 x (a ++ b).length (((a ++ b).map (·.data.toList)).map encStr)) := hide (by
  rw [Lib.map_encStr];obtain ⟨h1, h2⟩ := ho;refine ⟨h1, ?_⟩;rcases h2 with h2 | ⟨g, cap, cur, e1, e2, e3⟩
  ·exact Or.inl h2
  ·exact Or.inr ⟨g, cap, cur, e1, by omega, e3⟩)
 clear CO ho hb1 hB;generalize hzs : (a ++ b).map (·.data.toList) = zs at HO EI CL;have hzl : (a ++ b).length = zs.length := by rw [← hzs]; simp
 rw [hzl] at HO;have hzn : zs.length ≤ 100000 := by rw [← hzl, List.length_append]; exact hsz.out
 clear hzs hzl hsz;rcases HO.out.2 with ⟨rfl, h0⟩ | ⟨g, cap, cur, rfl, hg, hcur, hcap, hmx, hcs, hct⟩
 ·have hz : zs = [] := List.eq_nil_of_length_eq_zero h0;subst hz;have ES : Hid (orS a b = []) := hide (by rw [← EI.out, List.mergeSort_nil]; rfl);clear HO EI CL h0 hzn;have S0 := hide (Tryz.slices_Sort_string_none none 0 w1);have C0 := hide (Tryz.slices_Compact_string_empty none 0 w1)
  go_wp2_with fail
  refine (unhide S0).mono ?_;rintro r w2 ⟨rfl, rfl⟩
  go_wp2_with fail
  refine (unhide C0).mono ?_;rintro r w3 ⟨rfl, rfl⟩
  go_wp2
  go_ret
  refine ⟨⟨_, rfl, ?_⟩, B1.out⟩;rw [ES.out]; exact ownS_none _ _
 ·have hlt := lt_heap hcur;have S0 := hide (Tryz.slices_Sort_string g 0 cap zs w1 (holds_of_block hcur (by rw [Nat.mul_one] at hct; exact hct)) hlt (by omega));have hml : (zs.mergeSort fun x y => decide (x ≤ y)).length = zs.length := List.length_mergeSort _;generalize zs.mergeSort (fun x y => decide (x ≤ y)) = ts at S0 EI CL hml;have OS := fun (n : Nat) (os : Array Obj) => hide (ownsRow_sorted (w := w1) (n := n) (os := os) hml hg hcur hcap hmx hcs)
  have GS := fun (n : Nat) (os : Array Obj) => hide (B1.out.grown (grownBy_sorted (w := w1) (g := g) (n := n) (os := os) ts.toArray) B1.out.size (fun k hk => by cases hk; exact hg))
  have HC := hide hcur;have HML := hide hml;clear HO hcur hct hcs hml
  go_wp2_with fail
  refine (unhide S0).mono ?_;rintro r w2 ⟨rfl, n, os, rfl⟩;have O2 := OS n os;have B2 := GS n os;clear OS GS S0 B1 HC hlt;generalize Sort.grow (Sort.putRow encStr (Sort.ahead w1 n) g 0 ts.toArray) os = w2 at O2 B2 ⊢;obtain ⟨g', cap', e, _, _, _, _, _, hH⟩ := Lib.holds_of_ownsRow O2.out (by simp)
  injection e with e1 e2 e3
  injection e1 with e1
  injection e1 with e1
  subst e1;have hcl : (Lib.compact ts).length ≤ zs.length := CL.out;have hyl : (Lib.compact ts ++ List.replicate (zs.length - (Lib.compact ts).length) []).length = zs.length := by simp; omega
  have C0 := hide (Tryz.slices_Compact_string g 0 cap ts w2 hH (by have := HML.out; omega) (by have := HML.out; omega));rw [HML.out] at C0;have OC := fun (q : Nat) => hide (Lib.ownsRow_putRow (q := q) O2.out hyl hcl)
  have BC := fun (q : Nat) => hide (Lib.below_putRow (enc := encStr) (q := q) (g := g) (d := (Lib.compact ts ++ List.replicate (zs.length - (Lib.compact ts).length) []).toArray) B2.out hg)
  clear hH e2 e3 O2 B2 hyl hcl
  go_wp2_with fail
  refine (unhide C0).mono ?_;rintro r w3 ⟨rfl, q, rfl⟩;have O3 := OC q;have B3 := BC q;clear OC BC C0;generalize Sort.putRow encStr (Sort.ahead w2 q) g 0 (Lib.compact ts ++ List.replicate (zs.length - (Lib.compact ts).length) []).toArray = w3 at O3 B3 ⊢
  go_wp2
  go_ret
  refine ⟨⟨_, rfl, ?_⟩, B3.out⟩;have O4 := O3.out;rw [List.take_append_of_le_length (Nat.le_refl _), List.take_length] at O4;rw [← EI.out];unfold OwnS;rw [map_ofSt, List.length_map];exact O4
set_option maxHeartbeats 2000000 in
set_option maxRecDepth 100000 in
theorem orStrings_any (v u : Value) (A B : SetV) (w : World) (hv : StrsAt w v A.strs) (hu : StrsAt w u B.strs) (ha : rightS A.strs) (hb : rightS B.strs) (hl : A.strs.length + B.strs.length ≤ 100000) :
  Calls Tryz.prog 103 #[.bool A.co, v, .bool B.co, u] w fun r w' => (∃ x, r = .returned (.tuple #[.bool (A.co || B.co), x]) ∧ OwnS w' w.heap.size x (orStr A B)) ∧ Below w.heap.size w w' := by
 obtain ⟨_, _, ac, a⟩ := A;obtain ⟨_, _, bc, b⟩ := B;unfold orStr;dsimp only at *;have f0 : ∀ (m : List ByteArray), (fun s => inStrsB m s == true) = fun s => inStrsB m s := fun m => funext fun s => by cases inStrsB m s <;> rfl
 have f1 : ∀ (m : List ByteArray), (fun s => inStrsB m s == false) = fun s => !inStrsB m s := fun m => funext fun s => by cases inStrsB m s <;> rfl
 have P0 := hide (picked_any v u a b true w hv hu hb.2 (by omega) (by omega));have P1 := hide (picked_any v u a b false w hv hu hb.2 (by omega) (by omega));have P2 := hide (picked_any u v b a false w hu hv ha.2 (by omega) (by omega));have P3 := hide (either_any v u a b w hv hu ha hb hl);rw [f0] at P0;rw [f1] at P1 P2;clear f0 f1 hv hu ha hb hl;cases ac
 ·cases bc
  ·go_enter Tryz.func103, Tryz.ntmps103
   go_wp2_with fail
   refine (unhide P3).mono ?_;rintro r w1 ⟨⟨x, rfl, ho⟩, b1⟩;have O1 := hide ho;have B1 := hide b1;clear ho b1 P0 P1 P2 P3
   go_wp2
   go_ret2
   exact ⟨⟨_, rfl, O1.out⟩, B1.out⟩
  ·go_enter Tryz.func103, Tryz.ntmps103
   go_wp2_with fail
   refine (unhide P2).mono ?_;rintro r w1 ⟨⟨x, rfl, ho⟩, b1⟩;have O1 := hide ho;have B1 := hide b1;clear ho b1 P0 P1 P2 P3
   go_wp2
   go_ret2
   exact ⟨⟨_, rfl, O1.out⟩, B1.out⟩
 ·cases bc
  ·go_enter Tryz.func103, Tryz.ntmps103
   go_wp2_with fail
   refine (unhide P1).mono ?_;rintro r w1 ⟨⟨x, rfl, ho⟩, b1⟩;have O1 := hide ho;have B1 := hide b1;clear ho b1 P0 P1 P2 P3
   go_wp2
   go_ret2
   exact ⟨⟨_, rfl, O1.out⟩, B1.out⟩
  ·go_enter Tryz.func103, Tryz.ntmps103
   go_wp2_with fail
   refine (unhide P0).mono ?_;rintro r w1 ⟨⟨x, rfl, ho⟩, b1⟩;have O1 := hide ho;have B1 := hide b1;clear ho b1 P0 P1 P2 P3
   go_wp2
   go_ret2
   exact ⟨⟨_, rfl, O1.out⟩, B1.out⟩
end Go.Proofs.YtlkcjhcmkaddaaaGreat
namespace Go.Proofs.YtlkcjhcmkaddaaaGreat
open Go.RowKit
theorem right_size {l : List ByteArray} (h : rightS l) : ∀ s ∈ l, s.size ≤ 9223372036854775807 := fun s hs => by have := h.1 s hs; omega
theorem OwnR.frm {w : World} {B : Nat} {v : Value} {l : List Rg} (h : OwnR w B v l) : ∃ a n cap, v = .slice a n cap := by
 rcases h.2 with ⟨e, _⟩ | ⟨g, cap, cur, e, _⟩
 ·exact ⟨_, _, _, e⟩
 ·exact ⟨_, _, _, e⟩
theorem OwnS.frm {w : World} {B : Nat} {v : Value} {l : List ByteArray} (h : OwnS w B v l) : ∃ a n cap, v = .slice a n cap := by
 rcases h.2 with ⟨e, _⟩ | ⟨g, cap, cur, e, _⟩
 ·exact ⟨_, _, _, e⟩
 ·exact ⟨_, _, _, e⟩
theorem put4 {B p : Nat} {w0 w : World} {t : TypeId} {y0 y1 y2 y3 : Value} (x0 x1 x2 x3 : Value) (hp : w.heap[p]? = some (.cells #[y0, y1, y2, y3] t (0, 0))) (hB : B ≤ p) (hb : Below B w0 w) :
  ((((w.setCell ⟨p, 0, none⟩ x0).setCell ⟨p, 1, none⟩ x1).setCell ⟨p, 2, none⟩ x2).setCell ⟨p, 3, none⟩ x3).heap[p]? = some (.cells #[x0, x1, x2, x3] t (0, 0)) ∧
  Below B w0 ((((w.setCell ⟨p, 0, none⟩ x0).setCell ⟨p, 1, none⟩ x1).setCell ⟨p, 2, none⟩ x2).setCell ⟨p, 3, none⟩ x3) ∧
  (∀ k, k ≠ p → ((((w.setCell ⟨p, 0, none⟩ x0).setCell ⟨p, 1, none⟩ x1).setCell ⟨p, 2, none⟩ x2).setCell ⟨p, 3, none⟩ x3).heap[k]? = w.heap[k]?) := by
 refine ⟨?_, ?_, fun k hk => ?_⟩
 ·have h0 := heap_setCell (i := 0) x0 hp;have h1 := heap_setCell (i := 1) x1 h0;have h2 := heap_setCell (i := 2) x2 h1;have h3 := heap_setCell (i := 3) x3 h2;exact h3
 ·exact (((hb.setCell (p := ⟨p, 0, none⟩) hB _).setCell (p := ⟨p, 1, none⟩) hB _).setCell (p := ⟨p, 2, none⟩) hB _).setCell (p := ⟨p, 3, none⟩) hB _
 ·have hk' : p ≠ k := fun e => hk e.symm
  simp [World.setCell, Array.getElem?_modify, hk']
theorem OwnR.aside {w W : World} {B p : Nat} {v : Value} {l : List Rg} (h : OwnR w B v l) (hp : p < B) (hk : ∀ k, k ≠ p → W.heap[k]? = w.heap[k]?) : OwnR W B v l := by
 refine ⟨h.1, ?_⟩;rcases h.2 with h2 | ⟨g, cap, cur, e, hg, hc, hr⟩
 ·exact Or.inl h2
 ·exact Or.inr ⟨g, cap, cur, e, hg, (hk g (by omega)).trans hc, hr⟩
theorem OwnS.aside {w W : World} {B p : Nat} {v : Value} {l : List ByteArray} (h : OwnS w B v l) (hp : p < B) (hk : ∀ k, k ≠ p → W.heap[k]? = w.heap[k]?) : OwnS W B v l := by
 refine ⟨h.1, ?_⟩;rcases h.2 with h2 | ⟨g, cap, cur, e, hg, hc, hr⟩
 ·exact Or.inl h2
 ·exact Or.inr ⟨g, cap, cur, e, hg, (hk g (by omega)).trans hc, hr⟩
theorem made_set {w0 w : World} {p : Nat} {t : TypeId} {y0 y1 y2 y3 ui us : Value} {B1 B2 : Nat} (S : SetV) (hp : w.heap[p]? = some (.cells #[y0, y1, y2, y3] t (0, 0))) (hw : w0.heap.size ≤ p) (hb : Below w0.heap.size w0 w)
  (hi : OwnR w B1 ui S.ints) (hs : OwnS w B2 us S.strs) (h1 : p < B1) (h2 : p < B2) (hg : Good S) (n1 : S.ints.length ≤ 9223372036854775807) (n2 : S.strs.length ≤ 9223372036854775807) :
  ((((w.setCell ⟨p, 0, none⟩ (.bool S.absent)).setCell ⟨p, 1, none⟩ ui).setCell ⟨p, 2, none⟩ (.bool S.co)).setCell ⟨p, 3, none⟩ us).heap[p]? = some (.cells #[.bool S.absent, ui, .bool S.co, us] t (0, 0)) ∧
  SetAt ((((w.setCell ⟨p, 0, none⟩ (.bool S.absent)).setCell ⟨p, 1, none⟩ ui).setCell ⟨p, 2, none⟩ (.bool S.co)).setCell ⟨p, 3, none⟩ us) (.agg #[.bool S.absent, ui, .bool S.co, us]) S ∧
  Below w0.heap.size w0 ((((w.setCell ⟨p, 0, none⟩ (.bool S.absent)).setCell ⟨p, 1, none⟩ ui).setCell ⟨p, 2, none⟩ (.bool S.co)).setCell ⟨p, 3, none⟩ us) := by
 obtain ⟨a1, a2, a3⟩ := put4 (.bool S.absent) ui (.bool S.co) us hp hw hb;exact ⟨a1, ⟨ui, us, rfl, (hi.aside h1 a3).rngs hg.i n1, (hs.aside h2 a3).strs (right_size hg.rs) n2⟩, a2⟩
theorem clone_any (v : Value) (l : List ByteArray) (w : World) (hv : StrsAt w v l) (hl : l.length ≤ 100000) :
  Calls Tryz.prog 77 #[v] w fun r w' => (∃ x, r = .returned x ∧ OwnS w' w.heap.size x l) ∧ Below w.heap.size w w' := by
 obtain ⟨_, _, a, cap, rfl, hel⟩ := hv;cases a with
 | none =>
  have hm : l = [] := by
   cases l with
   | nil => rfl
   | cons r m =>
    obtain ⟨b, off, e, _⟩ := hel 0 (by simp);cases e
  subst hm;refine (Tryz.slices_Clone_string_nil _ _ w).mono ?_;rintro r w1 ⟨rfl, rfl⟩;exact ⟨⟨_, rfl, ownS_none _ _⟩, Below.refl _ _⟩
 | some ad =>
  cases l with
  | nil =>
   refine (Tryz.slices_Clone_string_zero ad _ w).mono ?_;rintro r w1 ⟨x, rfl, h1, _, h2⟩;exact ⟨⟨x, rfl, h1⟩, h2⟩
  | cons s m =>
   obtain ⟨b, off, e, _⟩ := hel 0 (by simp);cases e
   refine (Tryz.slices_Clone_string b off (s :: m).length _ (s :: m) w (Nat.le_refl _) (by omega) (fun j hj => ?_)).mono ?_
   ·obtain ⟨b', off', e, _, c0⟩ := hel j hj
    simp at e
    obtain ⟨rfl, rfl⟩ := e;exact c0
   ·rintro r w1 ⟨x, rfl, h1, _, h2⟩;rw [List.take_length] at h1;exact ⟨⟨x, rfl, h1⟩, h2⟩
set_option maxHeartbeats 4000000 in
set_option maxRecDepth 100000 in
theorem not_any (v : Value) (S : SetV) (w : World) (hv : SetAt w v S) (hf : Fit S) :
  Calls Tryz.prog 67 #[v] w fun r w' => (∃ u, r = .returned u ∧ SetAt w' u (notV S)) ∧ Below w.heap.size w w' := by
 have HG := hide hf.good;have HNI := hide hf.ni;have HNS := hide hf.ns;clear hf;obtain ⟨vi, vs, rfl, hI, hS⟩ := hv;obtain ⟨ai, ci, rfl⟩ := hI.form;obtain ⟨aq, cq, rfl⟩ := hS.form;obtain ⟨sa, si, sc, ss⟩ := S;dsimp only at *;have T0 := Two.start w (.cells #[.bool sa, .slice ai si.length ci, .bool sc, .slice aq ss.length cq] 25) (.cells #[.bool false, .slice none 0 0, .bool false, .slice none 0 0] 25);have OR := fun (W : World) (h : RngsAt W (.slice ai si.length ci) si) => hide (otherRanges_any _ si W h HG.out.ri (Nat.le_trans HNI.out (by omega)))
 have CL := fun (W : World) (h : StrsAt W (.slice aq ss.length cq) ss) => hide (clone_any _ ss W h (Nat.le_trans HNS.out (by omega)))
 have I0 := hide (hI.on T0.b);have S0 := hide (hS.on T0.b);clear hI hS;go_enter Tryz.func67, Tryz.ntmps67
 go_wp2
 generalize hw0 : ((w.alloc (Obj.cells #[.bool sa, .slice ai si.length ci, .bool sc, .slice aq ss.length cq] 25)).alloc (Obj.cells #[.bool false, .slice none 0 0, .bool false, .slice none 0 0] 25)) = w1 at *;clear hw0;have T1 := hide T0;clear T0;obtain ⟨c0, c1, c2, c3⟩ := setCells T1.out.e1;have HLT := hide (lt_heap T1.out.e2);have PH1 := True.intro
 go_region_held3 (fun w' => (w'.cell? ⟨w.heap.size, 0, none⟩ = some (.bool sa) ∧ w'.cell? ⟨w.heap.size, 1, none⟩ = some (.slice ai si.length ci)) ∧ w'.cell? ⟨w.heap.size, 2, none⟩ = some (.bool sc) ∧ w'.cell? ⟨w.heap.size, 3, none⟩ = some (.slice aq ss.length cq)) (first | go_keep | (refine ⟨⟨?_, ?_⟩, ?_, ?_⟩ <;> assumption))
  ((first
   | (go_at_call 90; have pz := PH1; clear pz PH1; refine (unhide (OR _ ?_)).mono ?_; exact I0.out; rintro r w2 ⟨⟨u2, rfl, o2⟩, b'⟩; obtain ⟨p2, n2, k2, rfl⟩ := o2.frm; have b : Below w1.heap.size w1 w2 := ⟨b'.os, b'.tape, b'.output, b'.size, b'.block⟩; have HL2 : Hid (w1.heap.size ≤ w2.heap.size) := hide b.size; have T2 := hide (T1.out.on b); have O2 := hide o2; have S2 := hide (S0.out.on b); obtain ⟨e0, e1, e2, e3⟩ := setCells T2.out.e1; have PH2 := True.intro; clear b b' o2 T1 S0 I0)
   | (go_at_call 77; have pz := PH2; clear pz PH2; refine (unhide (CL _ ?_)).mono ?_; exact S2.out; rintro r w3 ⟨⟨u3, rfl, o3⟩, b'⟩; obtain ⟨p3, n3, k3, rfl⟩ := o3.frm; have b : Below w2.heap.size w2 w3 := ⟨b'.os, b'.tape, b'.output, b'.size, b'.block⟩; have T3 := hide (T2.out.on b); have O3 := hide o3; have O2' := hide (O2.out.on b); obtain ⟨e0, e1, e2, e3⟩ := setCells T3.out.e1; obtain ⟨f0, f1, f2, f3⟩ := setCells T3.out.e2; have z0 := frozen_heap T3.out.e2 0; have z1 := frozen_heap T3.out.e2 1; have z2 := frozen_heap T3.out.e2 2; have z3 := frozen_heap T3.out.e2 3; have PH3 := True.intro; clear b b' o3 T2 S2 O2)))
 have hsz := T3.out.b.size;have MS := made_set (notV ⟨sa, si, sc, ss⟩) (p := w.heap.size + 1) T3.out.e2 (by omega) T3.out.b O2'.out O3.out HLT.out (Nat.lt_of_lt_of_le HLT.out HL2.out) (notV_good HG.out) (by have := (notV_len _ HG.out).1; have := HNI.out; dsimp only at *; omega) (by have := HNS.out; unfold notV; dsimp only; omega);dsimp only [notV] at MS;obtain ⟨m1, m2, m3⟩ := MS
 go_wp2
 exact bodyPost_ret (results_cell_row rfl _ _ (w.heap.size + 1) 25 _ (0, 0) _ rfl m1 Tryz.underlying25 rfl infoSet) rfl ⟨⟨_, rfl, m2⟩, m3⟩
end Go.Proofs.YtlkcjhcmkaddaaaGreat
namespace Go.Proofs.YtlkcjhcmkaddaaaGreat
open Go.RowKit
set_option maxHeartbeats 1000000 in
set_option maxRecDepth 100000 in
theorem cloneR_any (v : Value) (l : List Rg) (w : World) (hv : RngsAt w v l) (hl : l.length ≤ 100000) :
  Calls Tryz.prog 76 #[v] w fun r w' => (∃ x, r = .returned x ∧ OwnR w' w.heap.size x l) ∧ Below w.heap.size w w' := by
 have HV := hide hv;obtain ⟨a, cap, rfl⟩ := hv.form;have hr := hv.room;cases a with
 | none =>
  obtain ⟨e1, e2⟩ := hr.2 rfl;subst e2;have hm : l = [] := List.length_eq_zero_iff.1 e1;subst hm;clear hv hr HV e1;simp only [List.length_nil];have QN := fun (W : World) => Lib.run_eql_slice_nil W _ _ none 0 0 0 0 Tryz.underlying22
  simp only [Option.isNone_none] at QN;go_enter Tryz.func76, Tryz.ntmps76
  go_wp2
  go_ret
  exact ⟨⟨_, rfl, ownR_none _ _⟩, Below.refl _ _⟩
 | some ad =>
  have b0 := (Below.refl _ w).alloc (Nat.le_refl _) (Obj.cells #[] 58);have B0 := hide b0;have VA := hide (HV.out.on b0);have HO := hide (ownR_empty w);have LE : Hid (([] : List Rg).length + l.length ≤ 1000000) := hide (by simp; omega);have szW : w.heap.size ≤ (w.alloc (Obj.cells #[] 58)).heap.size := b0.size;have QN := fun (W : World) => Lib.run_eql_slice_nil W _ _ (some ad) l.length cap 0 0 Tryz.underlying22
  simp only [Option.isNone_some] at QN;clear hv hr HV b0 hl;go_enter Tryz.func76, Tryz.ntmps76
  go_wp2_with (at_builtin; refine wpList_appRow _ rfl _ _ rfl _ _ _ _ l rfl HO.out rfl VA.out (rngs_nil VA.out) LE.out szW ?_; intro v8 w8 hO8 hb8; have O8 := hide hO8; have B8 := hide (B0.out.trans hb8); clear hO8 hb8)
  go_ret
  rw [List.nil_append] at O8;exact ⟨⟨_, rfl, O8.out⟩, B8.out⟩
end Go.Proofs.YtlkcjhcmkaddaaaGreat
namespace Go.Proofs.YtlkcjhcmkaddaaaGreat
open Go.RowKit
set_option maxHeartbeats 2000000 in
set_option maxRecDepth 100000 in
theorem has_any (v : Value) (S : SetV) (k n : Int) (s : ByteArray) (w : World) (hv : SetAt w v S) (hf : Fit S) (hs : s.size ≤ maxLen) :
  Calls Tryz.prog 55 #[v, .agg #[.int .i64 k, .int .i64 n, .string s]] w fun r w' => r = .returned (.bool (hasB S k n s)) ∧ Below w.heap.size w w' := by
 have HR1 := hide hf.good.rs.2;have HL1 := hide hf.ns;clear hf;obtain ⟨vi, vs, rfl, hI, hS⟩ := hv;obtain ⟨ai, ci, rfl⟩ := hI.form;obtain ⟨aq, cq, rfl⟩ := hS.form;obtain ⟨sa, si, sc, ss⟩ := S;dsimp only at *;have HI := hide hI;have HS := hide hS;have HR := fun (W : World) => hide (valRight_any k n s W hs)
 have HSX := fun (W : World) (h : StrsAt W (.slice aq ss.length cq) ss) => hide (hasString_any _ _ s W h HR1.out (Nat.le_trans HL1.out (by omega)))
 clear HL1;generalize hH : hasB ⟨sa, si, sc, ss⟩ k n s = B;have HH := hide hH;have R2 : rightB k n s = true → k ≠ 0 → k ≠ 1 → k = 2 := fun h h0 h1 => by
  unfold rightB at h;rw [if_neg h0, if_neg h1] at h
  split at h
  ·assumption
  ·simp at h
 have HR2 := hide R2;clear hI hS hH R2;generalize si.length = nI at *;generalize ss.length = nS at *;cases hr : rightB k n s
 ·rw [hr] at HR;have E : Hid (B = false) := hide (by rw [← HH.out]; unfold hasB; rw [hr]; rfl);clear HH hr;go_enter Tryz.func55, Tryz.ntmps55
  go_wp2_with fail
  refine (unhide (HR _)).mono ?_;rintro r w1 ⟨rfl, b1⟩;have B1 := hide b1;clear b1
  go_wp2
  go_ret
  exact ⟨ret_bool E.out.symm, (two_new B1.out).2.2⟩
 ·rw [hr] at HR;have hB := HH.out;unfold hasB at hB;rw [hr, Bool.true_and] at hB;have HB := hide hB;have k2 := HR2.out hr;have K2 := hide k2;clear HH hr hB k2 HR2;go_enter Tryz.func55, Tryz.ntmps55
  go_wp2_with fail
  refine (unhide (HR _)).mono ?_;rintro r w1 ⟨rfl, b1⟩;obtain ⟨e1, e2, b2⟩ := two_new b1;have c0 := cell_heap e1 0;have c1 := cell_heap e1 1;have c2 := cell_heap e1 2;have c3 := cell_heap e1 3;have d0 := cell_heap e2 0;have d1 := cell_heap e2 1;have d2 := cell_heap e2 2;simp only [List.getElem?_toArray, List.getElem?_cons_zero, List.getElem?_cons_succ] at c0 c1 c2 c3 d0 d1 d2;have B2 := hide b2;have I1 := hide (HI.out.on b2);have S1 := hide (HS.out.on b2);clear b1 b2 e1 e2 HR HI HS;by_cases k0 : k = 0
  ·subst k0;have E : Hid (B = sa) := hide (by rw [← HB.out, if_pos rfl]);clear HB
   go_wp2
   go_ret
   exact ⟨ret_bool E.out.symm, B2.out⟩
  ·have kb : (k == 0) = false := beq_eq_false_iff_ne.2 k0;by_cases k1 : k = 1
   ·subst k1;have E : Hid (B = inIntsB si n) := hide (by rw [← HB.out, if_neg (by omega), if_pos rfl]);have X := hide (hasNumber_any _ _ n _ I1.out);clear HB I1 S1
    go_wp2_with fail
    refine (unhide X).mono ?_;rintro r w2 ⟨rfl, b2⟩
    go_wp2
    go_ret
    exact ⟨ret_bool E.out.symm, B2.out.trans (b2.mono B2.out.size)⟩
   ·have kb1 : (k == 1) = false := beq_eq_false_iff_ne.2 k1;have kk : k = 2 := K2.out k0 k1;subst kk;have E : Hid (B = (inStrsB ss s != sc)) := hide (by rw [← HB.out, if_neg k0, if_neg k1]);have X := fun (d : Nat) (os : Array Obj) => hide (Calls.regrown_of ((HSX (Sort.grow (redrawn w1 d) os) (S1.out.on (below_regrown w1 d os))).out.mono (by rintro r w2 ⟨rfl, rfl⟩; exact ⟨rfl, Below.refl _ _⟩)))
    clear HSX;generalize inStrsB ss s = IB at *;have p0 := cell_regrown c2;have p1 := cell_regrown c3;have p2 := cell_regrown d2;have p3 := cell_regrown d0;have p4 := cell_regrown d1;clear HB I1 S1
    go_wp2
    clear c0 c1 c2 c3 d0 d1 d2;refine wp_region_quiet_below mixed (by kernel_rfl) ?_
    repeat (first | go_big_quiet_step (exact unhide (X _ _)) | quiet_step (exact unhide (X _ _)))
    refine wpQuiet_nil ?_;intro _ hw';obtain ⟨⟨dq, osq⟩, hw''⟩ := hw';subst hw''
    go_wp2
    go_ret
    refine ⟨ret_bool (by rw [E.out]; cases IB <;> cases sc <;> rfl), B2.out.trans ((below_regrown w1 dq osq).mono B2.out.size)⟩
end Go.Proofs.YtlkcjhcmkaddaaaGreat
namespace Go.Proofs.YtlkcjhcmkaddaaaGreat
open Go.RowKit
structure Fit2 (S : SetV) : Prop where
 good : Good S
 ni : S.ints.length ≤ 2000
 ns : S.strs.length ≤ 2000
theorem Fit.two {S : SetV} (h : Fit S) : Fit2 S := ⟨h.good, Nat.le_trans h.ni (by omega), Nat.le_trans h.ns (by omega)⟩
structure Trio (w0 w : World) (o1 o2 o3 : Obj) : Prop where
 e1 : w.heap[w0.heap.size]? = some o1
 e2 : w.heap[w0.heap.size + 1]? = some o2
 e3 : w.heap[w0.heap.size + 1 + 1]? = some o3
 b : Below w0.heap.size w0 w
theorem Trio.on {w0 w w' : World} {o1 o2 o3 : Obj} (h : Trio w0 w o1 o2 o3) (hb : Below w.heap.size w w') : Trio w0 w' o1 o2 o3 :=
 ⟨(hb.block _ (lt_heap h.e1)).trans h.e1, (hb.block _ (lt_heap h.e2)).trans h.e2, (hb.block _ (lt_heap h.e3)).trans h.e3, h.b.trans (hb.mono h.b.size)⟩
theorem Trio.start (w : World) (o1 o2 o3 : Obj) : Trio w (((w.alloc o1).alloc o2).alloc o3) o1 o2 o3 := by
 have T := Two.start w o1 o2;have s1 : (w.alloc o1).heap.size = w.heap.size + 1 := by show (w.heap.push _).size = _; simp
 have s2 : ((w.alloc o1).alloc o2).heap.size = w.heap.size + 1 + 1 := by show ((w.alloc o1).heap.push _).size = _; rw [Array.size_push, s1]
 have T' := T.al o3;exact ⟨T'.e1, T'.e2, by rw [← s2]; exact heap_new _ _, T'.b⟩
theorem put4_cell {w : World} {p k o : Nat} {x0 x1 x2 x3 : Value} (h : ¬ (p = k)) : ((((w.setCell ⟨p, 0, none⟩ x0).setCell ⟨p, 1, none⟩ x1).setCell ⟨p, 2, none⟩ x2).setCell ⟨p, 3, none⟩ x3).cell? ⟨k, o, none⟩ = w.cell? ⟨k, o, none⟩ := by
 rw [World.cell?_setCell_far _ _ _ _ h, World.cell?_setCell_far _ _ _ _ h, World.cell?_setCell_far _ _ _ _ h, World.cell?_setCell_far _ _ _ _ h]
theorem andR_out {A B : SetV} {o : List Rg} (hA : Good A) (hB : Good B) (h : CommonOut A.ints B.ints o) : o = (andV A B).ints := by
 refine rightR_ext64 _ _ h.1 (andV_good hA hB).ri h.2.1 (andV_good hA hB).i (fun n n0 n1 => ?_);have hh := andV_has hA hB (1, n, noS) n0 n1;rw [has_num, has_num, has_num] at hh;rw [h.2.2.2 n, ← inInts_iff, ← inInts_iff, ← inInts_iff, hh, Bool.and_eq_true]
set_option maxHeartbeats 4000000 in
set_option maxRecDepth 100000 in
theorem and_raw (v u : Value) (sa : Bool) (si : List Rg) (sc : Bool) (ss : List ByteArray) (ta : Bool) (ti : List Rg) (tc : Bool) (ts : List ByteArray) (w : World) (hv : SetAt w v ⟨sa, si, sc, ss⟩) (hu : SetAt w u ⟨ta, ti, tc, ts⟩) (fA : Fit2 ⟨sa, si, sc, ss⟩) (fB : Fit2 ⟨ta, ti, tc, ts⟩) :
  Calls Tryz.prog 91 #[v, u] w fun r w' => (∃ x, r = .returned x ∧ SetAt w' x (andV ⟨sa, si, sc, ss⟩ ⟨ta, ti, tc, ts⟩)) ∧ Below w.heap.size w w' := by
 have HA := hide fA.good;have HB := hide fB.good;have HAI := hide fA.ni;have HAS := hide fA.ns;have HBI := hide fB.ni;have HBS := hide fB.ns;clear fA fB;obtain ⟨vi, vs, rfl, hI, hS⟩ := hv;obtain ⟨ui, us, rfl, hJ, hT⟩ := hu;dsimp only at HAI HAS HBI HBS hI hS hJ hT;obtain ⟨ai, ci, rfl⟩ := hI.form;obtain ⟨aq, cq, rfl⟩ := hS.form;obtain ⟨bi, di, rfl⟩ := hJ.form;obtain ⟨bq, dq, rfl⟩ := hT.form;have T0 := Trio.start w (.cells #[.bool sa, .slice ai si.length ci, .bool sc, .slice aq ss.length cq] 25) (.cells #[.bool ta, .slice bi ti.length di, .bool tc, .slice bq ts.length dq] 25) (.cells #[.bool false, .slice none 0 0, .bool false, .slice none 0 0] 25);have OS := hide (orStrings_any _ _ (notV ⟨sa, si, sc, ss⟩) (notV ⟨ta, ti, tc, ts⟩) _ (hS.on T0.b) (hT.on T0.b) HA.out.rs HB.out.rs (by have := HAS.out; have := HBS.out; unfold notV; dsimp only; omega));dsimp only [notV] at OS;have I0 := hide (hI.on T0.b);have J0 := hide (hJ.on T0.b);have HSI := hide hI.1;have HTI := hide hJ.1;clear hI hJ hS hT;obtain ⟨c0, c1, c2, c3⟩ := setCells T0.e1;obtain ⟨d0, d1, d2, d3⟩ := setCells T0.e2;have CM := fun (W : World) (h1 : RngsAt W (.slice ai si.length ci) si) (h2 : RngsAt W (.slice bi ti.length di) ti) => hide (commonRanges_any _ _ si ti W h1 h2 HA.out.ri HB.out.ri (by have := HAI.out; have := HBI.out; omega))
 go_enter Tryz.func91, Tryz.ntmps91
 go_wp2_with fail
 refine (unhide OS).mono ?_;rintro r w1 ⟨⟨x1, rfl, o1⟩, b1⟩;obtain ⟨p1, n1, k1, rfl⟩ := o1.frm;have T1 := hide (T0.on b1);have I1 := hide (I0.out.on b1);have J1 := hide (J0.out.on b1);have O1 := hide o1;have HLT := hide (lt_heap T0.e3);have HL1 := hide b1.size;clear T0 b1 I0 J0 o1 OS c0 c1 c2 c3 d0 d1 d2 d3;generalize hw0 : (((w.alloc (Obj.cells #[.bool sa, .slice ai si.length ci, .bool sc, .slice aq ss.length cq] 25)).alloc (Obj.cells #[.bool ta, .slice bi ti.length di, .bool tc, .slice bq ts.length dq] 25)).alloc (Obj.cells #[.bool false, .slice none 0 0, .bool false, .slice none 0 0] 25)) = w0 at HLT HL1 O1;clear hw0;obtain ⟨c0, c1, c2, c3⟩ := setCells T1.out.e1;obtain ⟨d0, d1, d2, d3⟩ := setCells T1.out.e2;have ne1 : ¬ (w.heap.size = w.heap.size + 1 + 1) := by omega
 have ne2 : ¬ (w.heap.size + 1 + 1 = w.heap.size) := by omega
 have ne3 : ¬ (w.heap.size + 1 + 1 = w.heap.size + 1) := by omega
 have PH1 := True.intro
 go_wp2
 cases sa
 ·refine wp_region_held_drew (S := (fun w' => (w'.cell? ⟨w.heap.size, 0, none⟩ = some (.bool false) ∧ w'.cell? ⟨w.heap.size, 1, none⟩ = some (.slice ai si.length ci)) ∧ w'.cell? ⟨w.heap.size + 1, 0, none⟩ = some (.bool ta) ∧ w'.cell? ⟨w.heap.size + 1, 1, none⟩ = some (.slice bi ti.length di))) (by kernel_rfl) ⟨⟨c0, c1⟩, d0, d1⟩ (fun hHeld => ?_);refine wpAnyH_take (i := 0) (v := .pointer (some ⟨w.heap.size, 0, none⟩)) rfl (by kernel_rfl) (by kernel_rfl) (by kernel_rfl) (fun _ _ _ h => h) (Or.inl ⟨by rfl, ?_⟩) (by assumption) ?_
  ·intro w' hSw; (try dsimp only at hSw); go_simp; done
  simp only [Act.put, lz];refine wpAnyH_take (i := 1) (v := .bool false) rfl (by kernel_rfl) (by kernel_rfl) (by kernel_rfl) (fun _ _ _ h => h) (Or.inl ⟨by rfl, ?_⟩) (by assumption) ?_
  ·intro w' hSw; (try dsimp only at hSw); go_simp; done
  simp only [Act.put, lz];refine wpAnyH_take (i := 2) (v := .bool false) rfl (by kernel_rfl) (by kernel_rfl) (by kernel_rfl) (fun _ _ _ h => h) (Or.inl ⟨by rfl, ?_⟩) (by assumption) ?_
  ·intro w' hSw; (try dsimp only at hSw); go_simp; done
  simp only [Act.put, lz];refine wpAnyH_take (i := 3) (v := undef) rfl (by kernel_rfl) (by kernel_rfl) (by kernel_rfl) (fun _ _ _ h => h) (Or.inr ⟨by rfl, rfl⟩) (by assumption) ?_;simp only [Act.put, lz];refine wpAnyH_take (i := 4) (v := undef) rfl (by kernel_rfl) (by kernel_rfl) (by kernel_rfl) (fun _ _ _ h => h) (Or.inr ⟨by rfl, rfl⟩) (by assumption) ?_;simp only [Act.put, lz];refine wpAnyH_take (i := 5) (v := .bool false) rfl (by kernel_rfl) (by kernel_rfl) (by kernel_rfl) (fun _ _ _ h => h) (Or.inl ⟨by rfl, ?_⟩) (by assumption) ?_
  ·intro w' hSw; (try dsimp only at hSw); go_simp; done
  simp only [Act.put, lz];refine wpAnyH_take (i := 6) (v := .pointer (some ⟨w.heap.size, 1, none⟩)) rfl (by kernel_rfl) (by kernel_rfl) (by kernel_rfl) (fun _ _ _ h => h) (Or.inl ⟨by rfl, ?_⟩) (by assumption) ?_
  ·intro w' hSw; (try dsimp only at hSw); go_simp; done
  simp only [Act.put, lz];refine wpAnyH_take (i := 7) (v := .slice ai si.length ci) rfl (by kernel_rfl) (by kernel_rfl) (by kernel_rfl) (fun _ _ _ h => h) (Or.inl ⟨by rfl, ?_⟩) (by assumption) ?_
  ·intro w' hSw; (try dsimp only at hSw); go_simp; done
  simp only [Act.put, lz];refine wpAnyH_take (i := 8) (v := .pointer (some ⟨w.heap.size + 1, 1, none⟩)) rfl (by kernel_rfl) (by kernel_rfl) (by kernel_rfl) (fun _ _ _ h => h) (Or.inl ⟨by rfl, ?_⟩) (by assumption) ?_
  ·intro w' hSw; (try dsimp only at hSw); go_simp; done
  simp only [Act.put, lz];refine wpAnyH_take (i := 9) (v := .slice bi ti.length di) rfl (by kernel_rfl) (by kernel_rfl) (by kernel_rfl) (fun _ _ _ h => h) (Or.inl ⟨by rfl, ?_⟩) (by assumption) ?_
  ·intro w' hSw; (try dsimp only at hSw); go_simp; done
  simp only [Act.put, lz];refine wpAnyH_take (i := 11) (v := .bool (!sc || !tc)) rfl (by kernel_rfl) (by kernel_rfl) (by kernel_rfl) (fun _ _ _ h => h) (Or.inl ⟨by rfl, ?_⟩) (by assumption) ?_
  ·intro w' hSw; (try dsimp only at hSw); go_simp; done
  simp only [Act.put, lz];refine wpAnyH_take (i := 12) (v := .bool (!(!sc || !tc))) rfl (by kernel_rfl) (by kernel_rfl) (by kernel_rfl) (fun _ _ _ h => h) (Or.inl ⟨by rfl, ?_⟩) (by assumption) ?_
  ·intro w' hSw; (try dsimp only at hSw); go_simp; done
  simp only [Act.put, lz];refine wpAnyH_take (i := 13) (v := .slice p1 n1 k1) rfl (by kernel_rfl) (by kernel_rfl) (by kernel_rfl) (fun _ _ _ h => h) (Or.inl ⟨by rfl, ?_⟩) (by assumption) ?_
  ·intro w' hSw; (try dsimp only at hSw); go_simp; done
  simp only [Act.put, lz];refine wpAnyH_ready (rs := [10]) (by kernel_rfl) (by simp) ?_;refine AllReadyH.cons rfl (fun K hK => ?_) AllReadyH.nil;go_simp;refine (unhide (CM _ ?_ ?_)).mono ?_; exact I1.out; exact J1.out; rintro r w3 ⟨⟨x3, o3, rfl, ho3, oo3⟩, b'⟩; obtain ⟨p3, n3, k3, rfl⟩ := oo3.frm; have b : Below w1.heap.size w1 w3 := ⟨b'.os, b'.tape, b'.output, b'.size, b'.block⟩; have T3 := hide (T1.out.on b); have O3 := hide oo3; have H3 := hide ho3; have N3 := hide (O1.out.on b); obtain ⟨e0, e1, e2, e3⟩ := setCells T3.out.e1; obtain ⟨f0, f1, f2, f3⟩ := setCells T3.out.e2; obtain ⟨g0, g1, g2, g3⟩ := setCells T3.out.e3; have z0 := frozen_heap T3.out.e3 0; have z1 := frozen_heap T3.out.e3 1; have z2 := frozen_heap T3.out.e3 2; have z3 := frozen_heap T3.out.e3 3; clear b b' oo3 ho3 T1 O1 I1 J1 CM c0 c1 c2 c3 d0 d1 d2 d3;refine hK.out _ _ ⟨⟨e0, e1⟩, f0, f1⟩ (fun hHeld => ?_);clear hK K;refine wpAnyH_take (i := 14) (v := .agg #[.bool false, .slice p3 n3 k3, .bool (!(!sc || !tc)), .slice p1 n1 k1]) rfl (by kernel_rfl) (by kernel_rfl) (by kernel_rfl) (fun _ _ _ h => h) (Or.inl ⟨by rfl, ?_⟩) (by assumption) ?_
  ·intro w' hSw; (try dsimp only at hSw); go_simp; done
  simp only [Act.put, lz];refine wpAnyH_ready (rs := [15]) (by kernel_rfl) (by simp) ?_;refine AllReadyH.cons rfl (fun K hK => ?_) AllReadyH.nil;go_simp;refine hK.out _ _ ⟨⟨(put4_cell ne2).trans e0, (put4_cell ne2).trans e1⟩, (put4_cell ne3).trans f0, (put4_cell ne3).trans f1⟩ (fun hHeld => ?_);clear hK K;refine wpAnyH_done (by kernel_rfl) ?_ _;have hsz := T3.out.b.size;have E3 := andR_out HA.out HB.out H3.out;subst E3;have MS := made_set (andV ⟨false, si, sc, ss⟩ ⟨ta, ti, tc, ts⟩) (p := w.heap.size + 1 + 1) T3.out.e3 (by omega) T3.out.b O3.out N3.out (Nat.lt_of_lt_of_le HLT.out HL1.out) HLT.out (andV_good HA.out HB.out) (by have := (andV_len HA.out HB.out).1; have := HAI.out; have := HBI.out; dsimp only at *; omega) (by have := (andV_len HA.out HB.out).2; have := HAS.out; have := HBS.out; dsimp only at *; omega);have hab : (andV ⟨false, si, sc, ss⟩ ⟨ta, ti, tc, ts⟩).absent = false := by cases ta <;> rfl
  have hco : (andV ⟨false, si, sc, ss⟩ ⟨ta, ti, tc, ts⟩).co = (sc && tc) := by cases sc <;> cases tc <;> rfl
  rw [hab, hco] at MS;obtain ⟨m1, m2, m3⟩ := MS
  go_wp2
  exact bodyPost_ret (results_cell_row rfl _ _ (w.heap.size + 1 + 1) 25 _ (0, 0) _ rfl m1 Tryz.underlying25 rfl infoSet) rfl ⟨⟨_, rfl, m2⟩, m3⟩
 ·go_region_held3 (fun w' => (w'.cell? ⟨w.heap.size, 0, none⟩ = some (.bool true) ∧ w'.cell? ⟨w.heap.size, 1, none⟩ = some (.slice ai si.length ci)) ∧ w'.cell? ⟨w.heap.size + 1, 0, none⟩ = some (.bool ta) ∧ w'.cell? ⟨w.heap.size + 1, 1, none⟩ = some (.slice bi ti.length di)) (first | go_keep | (dsimp only; refine ⟨⟨?_, ?_⟩, ?_, ?_⟩ <;> first | assumption | go_keep))
  ((first
   | (go_at_call 104; have pz := PH1; clear pz PH1; refine (unhide (CM _ ?_ ?_)).mono ?_; exact I1.out; exact J1.out; rintro r w3 ⟨⟨x3, o3, rfl, ho3, oo3⟩, b'⟩; obtain ⟨p3, n3, k3, rfl⟩ := oo3.frm; have b : Below w1.heap.size w1 w3 := ⟨b'.os, b'.tape, b'.output, b'.size, b'.block⟩; have T3 := hide (T1.out.on b); have O3 := hide oo3; have H3 := hide ho3; have N3 := hide (O1.out.on b); obtain ⟨e0, e1, e2, e3⟩ := setCells T3.out.e1; obtain ⟨f0, f1, f2, f3⟩ := setCells T3.out.e2; obtain ⟨g0, g1, g2, g3⟩ := setCells T3.out.e3; have z0 := frozen_heap T3.out.e3 0; have z1 := frozen_heap T3.out.e3 1; have z2 := frozen_heap T3.out.e3 2; have z3 := frozen_heap T3.out.e3 3; have PH3 := True.intro; clear b b' oo3 ho3 T1 O1 I1 J1 CM c0 c1 c2 c3 d0 d1 d2 d3)))
  have hsz := T3.out.b.size;have E3 := andR_out HA.out HB.out H3.out;subst E3;have MS := made_set (andV ⟨true, si, sc, ss⟩ ⟨ta, ti, tc, ts⟩) (p := w.heap.size + 1 + 1) T3.out.e3 (by omega) T3.out.b O3.out N3.out (Nat.lt_of_lt_of_le HLT.out HL1.out) HLT.out (andV_good HA.out HB.out) (by have := (andV_len HA.out HB.out).1; have := HAI.out; have := HBI.out; dsimp only at *; omega) (by have := (andV_len HA.out HB.out).2; have := HAS.out; have := HBS.out; dsimp only at *; omega);have hab : (andV ⟨true, si, sc, ss⟩ ⟨ta, ti, tc, ts⟩).absent = ta := by cases ta <;> rfl
  have hco : (andV ⟨true, si, sc, ss⟩ ⟨ta, ti, tc, ts⟩).co = (sc && tc) := by cases sc <;> cases tc <;> rfl
  rw [hab, hco] at MS;obtain ⟨m1, m2, m3⟩ := MS
  go_wp2
  exact bodyPost_ret (results_cell_row rfl _ _ (w.heap.size + 1 + 1) 25 _ (0, 0) _ rfl m1 Tryz.underlying25 rfl infoSet) rfl ⟨⟨_, rfl, m2⟩, m3⟩
theorem and_any (v u : Value) (A B : SetV) (w : World) (hv : SetAt w v A) (hu : SetAt w u B) (fA : Fit2 A) (fB : Fit2 B) :
  Calls Tryz.prog 91 #[v, u] w fun r w' => (∃ x, r = .returned x ∧ SetAt w' x (andV A B)) ∧ Below w.heap.size w w' := and_raw v u A.absent A.ints A.co A.strs B.absent B.ints B.co B.strs w hv hu fA fB
theorem in_empty {A B : SetV} (hA : Good A) (hB : Good B) (lA : A.strs.length ≤ 1000) (lB : B.strs.length ≤ 1000) : emptyB (andV A (notV B)) = inB A B := by
 have gN := notV_good hB;have gX := andV_good hA gN;have xl := (andV_len hA gN).2;have nl := (notV_len B hB).2
 apply bool_of_iff
 rw [inB_iff hA hB (by omega)];have he : emptyB (andV A (notV B)) = true ↔ andV A (notV B) = noSet := by
  rw [← sameB_iff];generalize andV A (notV B) = X;obtain ⟨xa, xi, xc, xs⟩ := X;cases xa <;> cases xi <;> cases xc <;> cases xs <;> simp [emptyB, sameB, noSet, rngEqB, strEqB]
 rw [he]
 constructor
 ·intro h p b0 b1 hp;have h1 := andV_has hA gN p b0 b1;have h2 := notV_has hB p b0 b1;rw [h, hp, h2, has_right hp] at h1;cases hb : hasP B p
  ·rw [hb] at h1;have h3 : hasP noSet p = false := by
    have := andV_has noSet_good noSet_good p b0 b1;cases hn : hasP noSet p
    ·rfl
    ·exfalso
     have hr := has_right hn;rcases rightV_cases hr with e | ⟨n, e⟩ | ⟨s, hs, e⟩
     ·rw [e, has_abs] at hn; exact absurd hn (by simp [noSet])
     ·rw [e, has_num] at hn; exact absurd hn (by simp [noSet, inIntsB])
     ·rw [e, has_str _ hs] at hn; exact absurd hn (by simp [noSet, inStrsB])
   rw [h3] at h1;exact absurd h1 (by simp)
  ·rfl
 ·intro h;refine good_ext gX noSet_good (by simp [noSet]; omega) (fun p b0 b1 => ?_);have h1 := andV_has hA gN p b0 b1;have h2 := notV_has hB p b0 b1;have h3 : hasP noSet p = false := by
   cases hn : hasP noSet p
   ·rfl
   ·exfalso
    have hr := has_right hn;rcases rightV_cases hr with e | ⟨n, e⟩ | ⟨s, hs, e⟩
    ·rw [e, has_abs] at hn; exact absurd hn (by simp [noSet])
    ·rw [e, has_num] at hn; exact absurd hn (by simp [noSet, inIntsB])
    ·rw [e, has_str _ hs] at hn; exact absurd hn (by simp [noSet, inStrsB])
  rw [h1, h2, h3];cases ha : hasP A p
  ·rfl
  ·rw [h p b0 b1 ha]; simp
set_option maxHeartbeats 4000000 in
set_option maxRecDepth 100000 in
theorem in_any (v u : Value) (A B : SetV) (w : World) (hv : SetAt w v A) (hu : SetAt w u B) (fA : Fit A) (fB : Fit B) :
  Calls Tryz.prog 101 #[v, u] w fun r w' => r = .returned (.bool (inB A B)) ∧ Below w.heap.size w w' := by
 have HE := hide (in_empty fA.good fB.good fA.ns fB.ns);have nl := notV_len B fB.good;have al := andV_len fA.good (notV_good fB.good);have a1 := fA.ni;have a2 := fA.ns;have b1 := fB.ni;have b2 := fB.ns;have NB := fun (W : World) (x : Value) (h : SetAt W x B) => hide (not_any x B W h fB)
 have AB := fun (W : World) (x y : Value) (h1 : SetAt W x A) (h2 : SetAt W y (notV B)) => hide (and_any x y A (notV B) W h1 h2 fA.two ⟨notV_good fB.good, by omega, by omega⟩)
 have EB := fun (W : World) (x : Value) (h : SetAt W x (andV A (notV B))) => hide (empty_any x _ W h)
 clear nl al a1 a2 b1 b2 fA fB;obtain ⟨vi, vs, rfl, hI, hS⟩ := hv;obtain ⟨ui, us, rfl, hJ, hT⟩ := hu;obtain ⟨ai, ci, rfl⟩ := hI.form;obtain ⟨aq, cq, rfl⟩ := hS.form;obtain ⟨bi, di, rfl⟩ := hJ.form;obtain ⟨bq, dq, rfl⟩ := hT.form;have T0 := Two.start w (.cells #[.bool A.absent, .slice ai A.ints.length ci, .bool A.co, .slice aq A.strs.length cq] 25) (.cells #[.bool B.absent, .slice bi B.ints.length di, .bool B.co, .slice bq B.strs.length dq] 25);have V0 : Hid (SetAt _ (.agg #[.bool A.absent, .slice ai A.ints.length ci, .bool A.co, .slice aq A.strs.length cq]) A) := hide ⟨_, _, rfl, hI.on T0.b, hS.on T0.b⟩;have U0 : Hid (SetAt _ (.agg #[.bool B.absent, .slice bi B.ints.length di, .bool B.co, .slice bq B.strs.length dq]) B) := hide ⟨_, _, rfl, hJ.on T0.b, hT.on T0.b⟩;clear hI hJ hS hT;obtain ⟨c0, c1, c2, c3⟩ := setCells T0.e1;obtain ⟨d0, d1, d2, d3⟩ := setCells T0.e2;have T1 := hide T0;clear T0;go_enter Tryz.func101, Tryz.ntmps101
 go_wp2
 generalize ((w.alloc (Obj.cells #[.bool A.absent, .slice ai A.ints.length ci, .bool A.co, .slice aq A.strs.length cq] 25)).alloc (Obj.cells #[.bool B.absent, .slice bi B.ints.length di, .bool B.co, .slice bq B.strs.length dq] 25)) = w1 at T1 V0 U0 c0 c1 c2 c3 d0 d1 d2 d3 ⊢;have PH1 := True.intro
 go_region_held3 (fun w' => ((w'.cell? ⟨w.heap.size, 0, none⟩ = some (.bool A.absent) ∧ w'.cell? ⟨w.heap.size, 1, none⟩ = some (.slice ai A.ints.length ci)) ∧ w'.cell? ⟨w.heap.size, 2, none⟩ = some (.bool A.co) ∧ w'.cell? ⟨w.heap.size, 3, none⟩ = some (.slice aq A.strs.length cq)) ∧ (w'.cell? ⟨w.heap.size + 1, 0, none⟩ = some (.bool B.absent) ∧ w'.cell? ⟨w.heap.size + 1, 1, none⟩ = some (.slice bi B.ints.length di)) ∧ w'.cell? ⟨w.heap.size + 1, 2, none⟩ = some (.bool B.co) ∧ w'.cell? ⟨w.heap.size + 1, 3, none⟩ = some (.slice bq B.strs.length dq)) (first | go_keep | (refine ⟨⟨⟨?_, ?_⟩, ?_, ?_⟩, ⟨?_, ?_⟩, ?_, ?_⟩ <;> assumption))
  ((first
   | (go_at_call 67; have pz := PH1; clear pz PH1; refine (unhide (NB _ _ ?_)).mono ?_; exact U0.out; rintro r w2 ⟨⟨x2, rfl, s2⟩, b'⟩; have b : Below w1.heap.size w1 w2 := ⟨b'.os, b'.tape, b'.output, b'.size, b'.block⟩; have T2 := hide (T1.out.on b); have V2 := hide (V0.out.on b); have S2 := hide s2; obtain ⟨e0, e1, e2, e3⟩ := setCells T2.out.e1; obtain ⟨f0, f1, f2, f3⟩ := setCells T2.out.e2; have PH2 := True.intro; clear b b' s2 T1 V0 U0)
   | (go_at_call 91; have pz := PH2; clear pz PH2; refine (unhide (AB _ _ _ ?_ ?_)).mono ?_; exact V2.out; exact S2.out; rintro r w3 ⟨⟨x3, rfl, s3⟩, b'⟩; have b : Below w2.heap.size w2 w3 := ⟨b'.os, b'.tape, b'.output, b'.size, b'.block⟩; have T3 := hide (T2.out.on b); have S3 := hide s3; obtain ⟨e0, e1, e2, e3⟩ := setCells T3.out.e1; obtain ⟨f0, f1, f2, f3⟩ := setCells T3.out.e2; have PH3 := True.intro; clear b b' s3 T2 V2 S2)
   | (go_at_call 84; have pz := PH3; clear pz PH3; refine (unhide (EB _ _ ?_)).mono ?_; exact S3.out; rintro r w4 ⟨rfl, b'⟩; have b : Below w3.heap.size w3 w4 := ⟨b'.os, b'.tape, b'.output, b'.size, b'.block⟩; have T4 := hide (T3.out.on b); obtain ⟨e0, e1, e2, e3⟩ := setCells T4.out.e1; obtain ⟨f0, f1, f2, f3⟩ := setCells T4.out.e2; have PH4 := True.intro; clear b b' T3 S3)))
 go_wp2
 go_ret
 exact ⟨ret_bool HE.out, T4.out.b⟩
theorem setProg : SetProg := {
 all := all_any,
 not := not_any,
 and := fun v u A B w hv hu fA fB => and_any v u A B w hv hu fA.two fB.two,
 in_ := in_any,
 empty := fun v S w hv _ => empty_any v S w hv,
 same := fun v u A B w hv hu _ _ => same_any v u A B w hv hu,
 has := fun v S k n s w hv hf _ _ hs => has_any v S k n s w hv hf hs }
end Go.Proofs.YtlkcjhcmkaddaaaGreat
namespace Go.Proofs.YtlkcjhcmkaddaaaGreat
open Go.RowKit
theorem SetAt.newInts {w : World} {s : SC} {S : SetV} (h : SetAt w s.val S) {p : Option Addr} {n c : Nat} (hr : RngsAt w (.slice p n c) S.ints) : SetAt w (SC.mk s.a p n c s.d s.q s.m s.e).val S := by
 obtain ⟨vi, vs, e, hI, hS⟩ := h;unfold SC.val at e
 simp at e
 obtain ⟨e1, e2, e3, e4⟩ := e;subst e4;refine ⟨_, _, ?_, hr, hS⟩;unfold SC.val;rw [← e1, ← e3]
theorem SetAt.newStrs {w : World} {s : SC} {S : SetV} (h : SetAt w s.val S) {p : Option Addr} {n c : Nat} (hr : StrsAt w (.slice p n c) S.strs) : SetAt w (SC.mk s.a s.p s.n s.c s.d p n c).val S := by
 obtain ⟨vi, vs, e, hI, hS⟩ := h;unfold SC.val at e
 simp at e
 obtain ⟨e1, e2, e3, e4⟩ := e;subst e2;refine ⟨_, _, ?_, hI, hr⟩;unfold SC.val;rw [← e1, ← e3]
theorem SetAt.getInts {w : World} {s : SC} {S : SetV} (h : SetAt w s.val S) : RngsAt w (.slice s.p s.n s.c) S.ints := by
 obtain ⟨vi, vs, e, hI, hS⟩ := h;unfold SC.val at e
 simp at e
 obtain ⟨e1, e2, e3, e4⟩ := e;rw [e2]; exact hI
theorem SetAt.getStrs {w : World} {s : SC} {S : SetV} (h : SetAt w s.val S) : StrsAt w (.slice s.q s.m s.e) S.strs := by
 obtain ⟨vi, vs, e, hI, hS⟩ := h;unfold SC.val at e
 simp at e
 obtain ⟨e1, e2, e3, e4⟩ := e;rw [e4]; exact hS
theorem put_ints0 {w : World} {q : Nat} {s0 s1 s2 s3 : SC} (p n c) (h : BxIn w q s0 s1 s2 s3) : BxIn (w.setCell ⟨q, 1, none⟩ (.slice p n c)) q ⟨s0.a, p, n, c, s0.d, s0.q, s0.m, s0.e⟩ s1 s2 s3 ∧ In1 w (w.setCell ⟨q, 1, none⟩ (.slice p n c)) q := ⟨heap_setCell (i := 1) (.slice p n c) h, in1_setCell _ _ _ _⟩
theorem put_strs0 {w : World} {q : Nat} {s0 s1 s2 s3 : SC} (p n c) (h : BxIn w q s0 s1 s2 s3) : BxIn (w.setCell ⟨q, 3, none⟩ (.slice p n c)) q ⟨s0.a, s0.p, s0.n, s0.c, s0.d, p, n, c⟩ s1 s2 s3 ∧ In1 w (w.setCell ⟨q, 3, none⟩ (.slice p n c)) q := ⟨heap_setCell (i := 3) (.slice p n c) h, in1_setCell _ _ _ _⟩
theorem put_ints1 {w : World} {q : Nat} {s0 s1 s2 s3 : SC} (p n c) (h : BxIn w q s0 s1 s2 s3) : BxIn (w.setCell ⟨q, 5, none⟩ (.slice p n c)) q s0 ⟨s1.a, p, n, c, s1.d, s1.q, s1.m, s1.e⟩ s2 s3 ∧ In1 w (w.setCell ⟨q, 5, none⟩ (.slice p n c)) q := ⟨heap_setCell (i := 5) (.slice p n c) h, in1_setCell _ _ _ _⟩
theorem put_strs1 {w : World} {q : Nat} {s0 s1 s2 s3 : SC} (p n c) (h : BxIn w q s0 s1 s2 s3) : BxIn (w.setCell ⟨q, 7, none⟩ (.slice p n c)) q s0 ⟨s1.a, s1.p, s1.n, s1.c, s1.d, p, n, c⟩ s2 s3 ∧ In1 w (w.setCell ⟨q, 7, none⟩ (.slice p n c)) q := ⟨heap_setCell (i := 7) (.slice p n c) h, in1_setCell _ _ _ _⟩
theorem put_ints2 {w : World} {q : Nat} {s0 s1 s2 s3 : SC} (p n c) (h : BxIn w q s0 s1 s2 s3) : BxIn (w.setCell ⟨q, 9, none⟩ (.slice p n c)) q s0 s1 ⟨s2.a, p, n, c, s2.d, s2.q, s2.m, s2.e⟩ s3 ∧ In1 w (w.setCell ⟨q, 9, none⟩ (.slice p n c)) q := ⟨heap_setCell (i := 9) (.slice p n c) h, in1_setCell _ _ _ _⟩
theorem put_strs2 {w : World} {q : Nat} {s0 s1 s2 s3 : SC} (p n c) (h : BxIn w q s0 s1 s2 s3) : BxIn (w.setCell ⟨q, 11, none⟩ (.slice p n c)) q s0 s1 ⟨s2.a, s2.p, s2.n, s2.c, s2.d, p, n, c⟩ s3 ∧ In1 w (w.setCell ⟨q, 11, none⟩ (.slice p n c)) q := ⟨heap_setCell (i := 11) (.slice p n c) h, in1_setCell _ _ _ _⟩
theorem put_ints3 {w : World} {q : Nat} {s0 s1 s2 s3 : SC} (p n c) (h : BxIn w q s0 s1 s2 s3) : BxIn (w.setCell ⟨q, 13, none⟩ (.slice p n c)) q s0 s1 s2 ⟨s3.a, p, n, c, s3.d, s3.q, s3.m, s3.e⟩ ∧ In1 w (w.setCell ⟨q, 13, none⟩ (.slice p n c)) q := ⟨heap_setCell (i := 13) (.slice p n c) h, in1_setCell _ _ _ _⟩
theorem put_strs3 {w : World} {q : Nat} {s0 s1 s2 s3 : SC} (p n c) (h : BxIn w q s0 s1 s2 s3) : BxIn (w.setCell ⟨q, 15, none⟩ (.slice p n c)) q s0 s1 s2 ⟨s3.a, s3.p, s3.n, s3.c, s3.d, p, n, c⟩ ∧ In1 w (w.setCell ⟨q, 15, none⟩ (.slice p n c)) q := ⟨heap_setCell (i := 15) (.slice p n c) h, in1_setCell _ _ _ _⟩
def Sets4 (w : World) (s0 s1 s2 s3 : SC) (b : BoxV) : Prop := SetAt w s0.val b.s0 ∧ SetAt w s1.val b.s1 ∧ SetAt w s2.val b.s2 ∧ SetAt w s3.val b.s3
theorem Sets4.on {w w' : World} {s0 s1 s2 s3 : SC} {b : BoxV} (h : Sets4 w s0 s1 s2 s3 b) (hb : Below w.heap.size w w') : Sets4 w' s0 s1 s2 s3 b := ⟨h.1.on hb, h.2.1.on hb, h.2.2.1.on hb, h.2.2.2.on hb⟩
theorem In1.sets {w W : World} {q : Nat} {x0 x1 x2 x3 : SC} (h : In1 w W q) (hp : BxIn w q x0 x1 x2 x3) {s0 s1 s2 s3 : SC} {b : BoxV} (hs : Sets4 w s0 s1 s2 s3 b) : Sets4 W s0 s1 s2 s3 b := ⟨h.set hp hs.1, h.set hp hs.2.1, h.set hp hs.2.2.1, h.set hp hs.2.2.2⟩
theorem Sets4.box {w : World} {s0 s1 s2 s3 : SC} {b : BoxV} (h : Sets4 w s0 s1 s2 s3 b) : BoxAt w (bxVal s0 s1 s2 s3) b := boxAt_of h.1 h.2.1 h.2.2.1 h.2.2.2
theorem Fit.i64 {S : SetV} (h : Fit S) : inI64 S.ints := h.good.i
set_option maxHeartbeats 8000000 in
set_option maxRecDepth 100000 in
theorem boxCopied_any (v : Value) (b : BoxV) (w : World) (hv : BoxAt w v b) (fb : ∀ i, i < 4 → Fit (b.get i)) :
  Calls Tryz.prog 102 #[v] w fun r w' => (∃ y, r = .returned y ∧ BoxAt w' y b) ∧ Below w.heap.size w w' := by
 obtain ⟨s0, s1, s2, s3, rfl, h0, h1, h2, h3⟩ := hv.scs;have fi0 : Hid (inI64 b.s0.ints ∧ b.s0.ints.length ≤ 1000 ∧ (∀ s ∈ b.s0.strs, s.size ≤ 9223372036854775807) ∧ b.s0.strs.length ≤ 1000) := hide ⟨(fb 0 (by omega)).i64, (fb 0 (by omega)).ni, right_size (fb 0 (by omega)).good.rs, (fb 0 (by omega)).ns⟩;have fi1 : Hid (inI64 b.s1.ints ∧ b.s1.ints.length ≤ 1000 ∧ (∀ s ∈ b.s1.strs, s.size ≤ 9223372036854775807) ∧ b.s1.strs.length ≤ 1000) := hide ⟨(fb 1 (by omega)).i64, (fb 1 (by omega)).ni, right_size (fb 1 (by omega)).good.rs, (fb 1 (by omega)).ns⟩;have fi2 : Hid (inI64 b.s2.ints ∧ b.s2.ints.length ≤ 1000 ∧ (∀ s ∈ b.s2.strs, s.size ≤ 9223372036854775807) ∧ b.s2.strs.length ≤ 1000) := hide ⟨(fb 2 (by omega)).i64, (fb 2 (by omega)).ni, right_size (fb 2 (by omega)).good.rs, (fb 2 (by omega)).ns⟩;have fi3 : Hid (inI64 b.s3.ints ∧ b.s3.ints.length ≤ 1000 ∧ (∀ s ∈ b.s3.strs, s.size ≤ 9223372036854775807) ∧ b.s3.strs.length ≤ 1000) := hide ⟨(fb 3 (by omega)).i64, (fb 3 (by omega)).ni, right_size (fb 3 (by omega)).good.rs, (fb 3 (by omega)).ns⟩;have T0 := Two.start w (Obj.cells #[.bool s0.a, .slice s0.p s0.n s0.c, .bool s0.d, .slice s0.q s0.m s0.e, .bool s1.a, .slice s1.p s1.n s1.c, .bool s1.d, .slice s1.q s1.m s1.e, .bool s2.a, .slice s2.p s2.n s2.c, .bool s2.d, .slice s2.q s2.m s2.e, .bool s3.a, .slice s3.p s3.n s3.c, .bool s3.d, .slice s3.q s3.m s3.e] 54) (Obj.cells #[.bool false, .slice none 0 0, .bool false, .slice none 0 0, .bool false, .slice none 0 0, .bool false, .slice none 0 0, .bool false, .slice none 0 0, .bool false, .slice none 0 0, .bool false, .slice none 0 0, .bool false, .slice none 0 0] 54);have S0 := hide (show Sets4 _ s0 s1 s2 s3 b from ⟨h0.on T0.b, h1.on T0.b, h2.on T0.b, h3.on T0.b⟩);have I0 := hide (show BxIn _ w.heap.size s0 s1 s2 s3 from T0.e1);have Z0 := hide (show BxIn _ (w.heap.size + 1) SC.zero SC.zero SC.zero SC.zero from T0.e2);have B0 := hide T0.b;clear hv fb h0 h1 h2 h3 T0;unfold bxVal;go_enter Tryz.func102, Tryz.ntmps102
 go_wp2
 go_loopw [4] (fun i wr => ∃ k : Int, i = .int .i64 k ∧ (k = 0 ∨ k = 1 ∨ k = 2 ∨ k = 3 ∨ k = 4) ∧ ∃ s0 s1 s2 s3 : SC, Hid (BxIn wr w.heap.size s0 s1 s2 s3) ∧ Hid (BxIn wr (w.heap.size + 1) SC.zero SC.zero SC.zero SC.zero) ∧ Hid (Below w.heap.size w wr) ∧ Hid (Sets4 wr s0 s1 s2 s3 b)) (fun i _ => 4 - (intOf i).toNat)
 case atStart => exact ⟨0, rfl, Or.inl rfl, s0, s1, s2, s3, I0, Z0, B0, S0⟩
 case round =>
  clear I0 Z0 B0 S0;obtain ⟨k, rfl, hk, s0, s1, s2, s3, HI, HZ, HB, HS⟩ := hrel;rcases hk with rfl | rfl | rfl | rfl | rfl
  ·have X := hide (cloneR_any _ b.s0.ints wr HS.out.1.getInts (by have := fi0.out.2.1; omega));obtain ⟨c0, c1, c2, c3⟩ := HI.out.at0
   go_wp2_with fail
   refine (unhide X).mono ?_;rintro r w2 ⟨⟨u2, rfl, o2⟩, b2⟩;obtain ⟨p1, n1, r1, rfl⟩ := o2.frm;have R2 := o2.rngs fi0.out.1 (by have := fi0.out.2.1; omega);have I2 := HI.out.on b2;have S2 := HS.out.on b2;have S2' : Sets4 w2 ⟨s0.a, p1, n1, r1, s0.d, s0.q, s0.m, s0.e⟩ s1 s2 s3 b := ⟨S2.1.newInts R2, S2.2.1, S2.2.2.1, S2.2.2.2⟩
   obtain ⟨q1, q2⟩ := put_ints0 p1 n1 r1 I2;have I3 := hide q1;have Z3 := hide (q2.box (HZ.out.on b2) (by omega));have B3 := hide (q2.below _ _ (Nat.le_refl _) (HB.out.trans (b2.mono HB.out.size)));have S3 := hide (q2.sets I2 S2');obtain ⟨e0, e1, e2, e3⟩ := I2.at0;have z1 := I2.soft 1;have Y := hide (clone_any _ b.s0.strs _ S3.out.1.getStrs (by have := fi0.out.2.2.2; omega));clear X c0 c1 c2 c3 I2 S2 S2' q1 q2 R2 o2 b2 HI HZ HB HS;dsimp only at Y
   go_wp2_with fail
   refine (unhide Y).mono ?_;rintro r w4 ⟨⟨u4, rfl, o4⟩, b4⟩;obtain ⟨p3, n3, r3, rfl⟩ := o4.frm;have R4 := o4.strs fi0.out.2.2.1 (by have := fi0.out.2.2.2; omega);have I4 := I3.out.on b4;have S4 := S3.out.on b4;have S4' : Sets4 w4 ⟨s0.a, p1, n1, r1, s0.d, p3, n3, r3⟩ s1 s2 s3 b := ⟨S4.1.newStrs R4, S4.2.1, S4.2.2.1, S4.2.2.2⟩
   obtain ⟨q1, q2⟩ := put_strs0 p3 n3 r3 I4;have I5 := hide q1;have Z5 := hide (q2.box (Z3.out.on b4) (by omega));have B5 := hide (q2.below _ _ (Nat.le_refl _) (B3.out.trans (b4.mono B3.out.size)));have S5 := hide (q2.sets I4 S4');obtain ⟨f0, f1, f2, f3⟩ := I4.at0;dsimp only at f0 f1 f2 f3;have z3 := I4.soft 3;clear Y e0 e1 e2 e3 I3 Z3 B3 S3 I4 S4 S4' q1 q2 R4 o4 b4 z1
   go_wp2
   exact ⟨⟨1, rfl, by simp, ⟨s0.a, p1, n1, r1, s0.d, p3, n3, r3⟩, s1, s2, s3, I5, Z5, B5, S5⟩, by simp [intOf]⟩
  ·have X := hide (cloneR_any _ b.s1.ints wr HS.out.2.1.getInts (by have := fi1.out.2.1; omega));obtain ⟨c0, c1, c2, c3⟩ := HI.out.at1
   go_wp2_with fail
   refine (unhide X).mono ?_;rintro r w2 ⟨⟨u2, rfl, o2⟩, b2⟩;obtain ⟨p1, n1, r1, rfl⟩ := o2.frm;have R2 := o2.rngs fi1.out.1 (by have := fi1.out.2.1; omega);have I2 := HI.out.on b2;have S2 := HS.out.on b2;have S2' : Sets4 w2 s0 ⟨s1.a, p1, n1, r1, s1.d, s1.q, s1.m, s1.e⟩ s2 s3 b := ⟨S2.1, S2.2.1.newInts R2, S2.2.2.1, S2.2.2.2⟩
   obtain ⟨q1, q2⟩ := put_ints1 p1 n1 r1 I2;have I3 := hide q1;have Z3 := hide (q2.box (HZ.out.on b2) (by omega));have B3 := hide (q2.below _ _ (Nat.le_refl _) (HB.out.trans (b2.mono HB.out.size)));have S3 := hide (q2.sets I2 S2');obtain ⟨e0, e1, e2, e3⟩ := I2.at1;have z1 := I2.soft 5;have Y := hide (clone_any _ b.s1.strs _ S3.out.2.1.getStrs (by have := fi1.out.2.2.2; omega));clear X c0 c1 c2 c3 I2 S2 S2' q1 q2 R2 o2 b2 HI HZ HB HS;dsimp only at Y
   go_wp2_with fail
   refine (unhide Y).mono ?_;rintro r w4 ⟨⟨u4, rfl, o4⟩, b4⟩;obtain ⟨p3, n3, r3, rfl⟩ := o4.frm;have R4 := o4.strs fi1.out.2.2.1 (by have := fi1.out.2.2.2; omega);have I4 := I3.out.on b4;have S4 := S3.out.on b4;have S4' : Sets4 w4 s0 ⟨s1.a, p1, n1, r1, s1.d, p3, n3, r3⟩ s2 s3 b := ⟨S4.1, S4.2.1.newStrs R4, S4.2.2.1, S4.2.2.2⟩
   obtain ⟨q1, q2⟩ := put_strs1 p3 n3 r3 I4;have I5 := hide q1;have Z5 := hide (q2.box (Z3.out.on b4) (by omega));have B5 := hide (q2.below _ _ (Nat.le_refl _) (B3.out.trans (b4.mono B3.out.size)));have S5 := hide (q2.sets I4 S4');obtain ⟨f0, f1, f2, f3⟩ := I4.at1;dsimp only at f0 f1 f2 f3;have z3 := I4.soft 7;clear Y e0 e1 e2 e3 I3 Z3 B3 S3 I4 S4 S4' q1 q2 R4 o4 b4 z1
   go_wp2
   exact ⟨⟨2, rfl, by simp, s0, ⟨s1.a, p1, n1, r1, s1.d, p3, n3, r3⟩, s2, s3, I5, Z5, B5, S5⟩, by simp [intOf]⟩
  ·have X := hide (cloneR_any _ b.s2.ints wr HS.out.2.2.1.getInts (by have := fi2.out.2.1; omega));obtain ⟨c0, c1, c2, c3⟩ := HI.out.at2
   go_wp2_with fail
   refine (unhide X).mono ?_;rintro r w2 ⟨⟨u2, rfl, o2⟩, b2⟩;obtain ⟨p1, n1, r1, rfl⟩ := o2.frm;have R2 := o2.rngs fi2.out.1 (by have := fi2.out.2.1; omega);have I2 := HI.out.on b2;have S2 := HS.out.on b2;have S2' : Sets4 w2 s0 s1 ⟨s2.a, p1, n1, r1, s2.d, s2.q, s2.m, s2.e⟩ s3 b := ⟨S2.1, S2.2.1, S2.2.2.1.newInts R2, S2.2.2.2⟩
   obtain ⟨q1, q2⟩ := put_ints2 p1 n1 r1 I2;have I3 := hide q1;have Z3 := hide (q2.box (HZ.out.on b2) (by omega));have B3 := hide (q2.below _ _ (Nat.le_refl _) (HB.out.trans (b2.mono HB.out.size)));have S3 := hide (q2.sets I2 S2');obtain ⟨e0, e1, e2, e3⟩ := I2.at2;have z1 := I2.soft 9;have Y := hide (clone_any _ b.s2.strs _ S3.out.2.2.1.getStrs (by have := fi2.out.2.2.2; omega));clear X c0 c1 c2 c3 I2 S2 S2' q1 q2 R2 o2 b2 HI HZ HB HS;dsimp only at Y
   go_wp2_with fail
   refine (unhide Y).mono ?_;rintro r w4 ⟨⟨u4, rfl, o4⟩, b4⟩;obtain ⟨p3, n3, r3, rfl⟩ := o4.frm;have R4 := o4.strs fi2.out.2.2.1 (by have := fi2.out.2.2.2; omega);have I4 := I3.out.on b4;have S4 := S3.out.on b4;have S4' : Sets4 w4 s0 s1 ⟨s2.a, p1, n1, r1, s2.d, p3, n3, r3⟩ s3 b := ⟨S4.1, S4.2.1, S4.2.2.1.newStrs R4, S4.2.2.2⟩
   obtain ⟨q1, q2⟩ := put_strs2 p3 n3 r3 I4;have I5 := hide q1;have Z5 := hide (q2.box (Z3.out.on b4) (by omega));have B5 := hide (q2.below _ _ (Nat.le_refl _) (B3.out.trans (b4.mono B3.out.size)));have S5 := hide (q2.sets I4 S4');obtain ⟨f0, f1, f2, f3⟩ := I4.at2;dsimp only at f0 f1 f2 f3;have z3 := I4.soft 11;clear Y e0 e1 e2 e3 I3 Z3 B3 S3 I4 S4 S4' q1 q2 R4 o4 b4 z1
   go_wp2
   exact ⟨⟨3, rfl, by simp, s0, s1, ⟨s2.a, p1, n1, r1, s2.d, p3, n3, r3⟩, s3, I5, Z5, B5, S5⟩, by simp [intOf]⟩
  ·have X := hide (cloneR_any _ b.s3.ints wr HS.out.2.2.2.getInts (by have := fi3.out.2.1; omega));obtain ⟨c0, c1, c2, c3⟩ := HI.out.at3
   go_wp2_with fail
   refine (unhide X).mono ?_;rintro r w2 ⟨⟨u2, rfl, o2⟩, b2⟩;obtain ⟨p1, n1, r1, rfl⟩ := o2.frm;have R2 := o2.rngs fi3.out.1 (by have := fi3.out.2.1; omega);have I2 := HI.out.on b2;have S2 := HS.out.on b2;have S2' : Sets4 w2 s0 s1 s2 ⟨s3.a, p1, n1, r1, s3.d, s3.q, s3.m, s3.e⟩ b := ⟨S2.1, S2.2.1, S2.2.2.1, S2.2.2.2.newInts R2⟩
   obtain ⟨q1, q2⟩ := put_ints3 p1 n1 r1 I2;have I3 := hide q1;have Z3 := hide (q2.box (HZ.out.on b2) (by omega));have B3 := hide (q2.below _ _ (Nat.le_refl _) (HB.out.trans (b2.mono HB.out.size)));have S3 := hide (q2.sets I2 S2');obtain ⟨e0, e1, e2, e3⟩ := I2.at3;have z1 := I2.soft 13;have Y := hide (clone_any _ b.s3.strs _ S3.out.2.2.2.getStrs (by have := fi3.out.2.2.2; omega));clear X c0 c1 c2 c3 I2 S2 S2' q1 q2 R2 o2 b2 HI HZ HB HS;dsimp only at Y
   go_wp2_with fail
   refine (unhide Y).mono ?_;rintro r w4 ⟨⟨u4, rfl, o4⟩, b4⟩;obtain ⟨p3, n3, r3, rfl⟩ := o4.frm;have R4 := o4.strs fi3.out.2.2.1 (by have := fi3.out.2.2.2; omega);have I4 := I3.out.on b4;have S4 := S3.out.on b4;have S4' : Sets4 w4 s0 s1 s2 ⟨s3.a, p1, n1, r1, s3.d, p3, n3, r3⟩ b := ⟨S4.1, S4.2.1, S4.2.2.1, S4.2.2.2.newStrs R4⟩
   obtain ⟨q1, q2⟩ := put_strs3 p3 n3 r3 I4;have I5 := hide q1;have Z5 := hide (q2.box (Z3.out.on b4) (by omega));have B5 := hide (q2.below _ _ (Nat.le_refl _) (B3.out.trans (b4.mono B3.out.size)));have S5 := hide (q2.sets I4 S4');obtain ⟨f0, f1, f2, f3⟩ := I4.at3;dsimp only at f0 f1 f2 f3;have z3 := I4.soft 15;clear Y e0 e1 e2 e3 I3 Z3 B3 S3 I4 S4 S4' q1 q2 R4 o4 b4 z1
   go_wp2
   exact ⟨⟨4, rfl, by simp, s0, s1, s2, ⟨s3.a, p1, n1, r1, s3.d, p3, n3, r3⟩, I5, Z5, B5, S5⟩, by simp [intOf]⟩
  ·obtain ⟨c0, c1, c2, c3, c4, c5, c6, c7, c8, c9, c10, c11, c12, c13, c14, c15⟩ := HI.out.cells;obtain ⟨d0, d1, d2, d3, d4, d5, d6, d7, d8, d9, d10, d11, d12, d13, d14, d15⟩ := HZ.out.cells;have z0 := HZ.out.soft 0;have z1 := HZ.out.soft 1;have z2 := HZ.out.soft 2;have z3 := HZ.out.soft 3;have z4 := HZ.out.soft 4;have z5 := HZ.out.soft 5;have z6 := HZ.out.soft 6;have z7 := HZ.out.soft 7;have z8 := HZ.out.soft 8;have z9 := HZ.out.soft 9;have z10 := HZ.out.soft 10;have z11 := HZ.out.soft 11;have z12 := HZ.out.soft 12;have z13 := HZ.out.soft 13;have z14 := HZ.out.soft 14;have z15 := HZ.out.soft 15;obtain ⟨q1, q2⟩ := put_whole s0 s1 s2 s3 HZ.out;have HQ := hide q1;have HR := hide (q2.sets HZ.out HS.out).box;have HW := hide (q2.below _ _ (by omega) HB.out);clear q1 q2
   go_wp2
   exact bodyPost_ret (results_cell_row rfl _ _ (w.heap.size + 1) 54 _ (0, 0) _ rfl HQ.out Tryz.underlying54 rfl infoBx) rfl ⟨⟨_, rfl, HR.out⟩, HW.out⟩
end Go.Proofs.YtlkcjhcmkaddaaaGreat
namespace Go.Proofs.YtlkcjhcmkaddaaaGreat
open Go.RowKit
theorem fit_put {b : BoxV} (fb : FitBx b) {s : SetV} (fs : Fit s) : ∀ (i : Nat) (hi : i < 4) (j : Nat), j < 4 → Fit ((b.put i s).get j) := fun i hi j hj => by
 rw [BoxV.get_put _ _ _ _ hi hj]
 split
 ·exact fs
 ·exact fb.fit j hj
set_option maxHeartbeats 8000000 in
set_option maxRecDepth 100000 in
theorem with_low (v : Value) (b : BoxV) (u : Value) (s : SetV) (w : World) (x : Int) (x0 : -9223372036854775808 ≤ x) (hx : x < 0) (hv : BoxAt w v b) (fb : FitBx b) (hu : SetAt w u s) (fs : Fit s) :
  Calls Tryz.prog 89 #[v, .int .i64 x, u] w fun r w' => (∃ y, r = .returned y ∧ BoxAt w' y (b)) ∧ Below w.heap.size w w' := by
 obtain ⟨s0, s1, s2, s3, rfl, h0, h1, h2, h3⟩ := hv.scs;obtain ⟨t, rfl⟩ := hu.sc;have T0 := Tri.start w (Obj.cells #[.bool s0.a, .slice s0.p s0.n s0.c, .bool s0.d, .slice s0.q s0.m s0.e, .bool s1.a, .slice s1.p s1.n s1.c, .bool s1.d, .slice s1.q s1.m s1.e, .bool s2.a, .slice s2.p s2.n s2.c, .bool s2.d, .slice s2.q s2.m s2.e, .bool s3.a, .slice s3.p s3.n s3.c, .bool s3.d, .slice s3.q s3.m s3.e] 54) (Obj.cells #[.bool t.a, .slice t.p t.n t.c, .bool t.d, .slice t.q t.m t.e] 25) (Obj.cells #[.bool false, .slice none 0 0, .bool false, .slice none 0 0, .bool false, .slice none 0 0, .bool false, .slice none 0 0, .bool false, .slice none 0 0, .bool false, .slice none 0 0, .bool false, .slice none 0 0, .bool false, .slice none 0 0] 54);have S0 := hide (show Sets4 _ s0 s1 s2 s3 b from ⟨h0.on T0.b, h1.on T0.b, h2.on T0.b, h3.on T0.b⟩);have HT0 := hide (hu.on T0.b);have I0 := hide (show BxIn _ w.heap.size s0 s1 s2 s3 from T0.e1);have N0 := hide T0.e2;have Z0 := hide (show BxIn _ (w.heap.size + 1 + 1) SC.zero SC.zero SC.zero SC.zero from T0.e3);have B0 := hide T0.b;have HS : Hid (Sets4 w s0 s1 s2 s3 b) := hide ⟨h0, h1, h2, h3⟩;have HU := hide hu;have FB := hide (fun i hi => fb.fit i hi);have FP := hide (fit_put fb fs);clear hv fb hu fs h0 h1 h2 h3 T0;unfold bxVal SC.val;have hx' : (decide (0 ≤ x)) = false := by simp; omega
 go_enter Tryz.func89, Tryz.ntmps89;have X := hide (boxCopied_any _ b _ ((Sets4.box S0.out)) FB.out);unfold bxVal at X;obtain ⟨c0, c1, c2, c3, c4, c5, c6, c7, c8, c9, c10, c11, c12, c13, c14, c15⟩ := I0.out.cells
 go_wp2_with fail
 refine (unhide X).mono ?_;rintro r w2 ⟨⟨u2, rfl, h2⟩, b2⟩;have Z2 := Z0.out.on b2;have B2 := B0.out.trans (b2.mono B0.out.size);clear c0 c1 c2 c3 c4 c5 c6 c7 c8 c9 c10 c11 c12 c13 c14 c15;obtain ⟨x0, x1, x2, x3, rfl, g0, g1, g2, g3⟩ := h2.scs;obtain ⟨d0, d1, d2, d3, d4, d5, d6, d7, d8, d9, d10, d11, d12, d13, d14, d15⟩ := Z2.cells;have y0 := Z2.soft 0;have y1 := Z2.soft 1;have y2 := Z2.soft 2;have y3 := Z2.soft 3;have y4 := Z2.soft 4;have y5 := Z2.soft 5;have y6 := Z2.soft 6;have y7 := Z2.soft 7;have y8 := Z2.soft 8;have y9 := Z2.soft 9;have y10 := Z2.soft 10;have y11 := Z2.soft 11;have y12 := Z2.soft 12;have y13 := Z2.soft 13;have y14 := Z2.soft 14;have y15 := Z2.soft 15;obtain ⟨q1, q2⟩ := put_whole x0 x1 x2 x3 Z2;have HQ := hide q1;have HR := hide (Sets4.box ⟨q2.set Z2 g0, q2.set Z2 g1, q2.set Z2 g2, q2.set Z2 g3⟩);have HW := hide (q2.below _ _ (by omega) B2);clear q1 q2 X g0 g1 g2 g3 h2 b2 B2 Z2 I0 N0 Z0 B0 S0 HT0 HS HU FB FP;unfold bxVal
 go_wp2
 exact bodyPost_ret (results_cell_row rfl _ _ (w.heap.size + 1 + 1) 54 _ (0, 0) _ rfl HQ.out Tryz.underlying54 rfl infoBx) rfl ⟨⟨_, rfl, HR.out⟩, HW.out⟩
set_option maxHeartbeats 8000000 in
set_option maxRecDepth 100000 in
theorem with_high (v : Value) (b : BoxV) (u : Value) (s : SetV) (w : World) (x : Int) (x1 : x ≤ 9223372036854775807) (hx : 3 < x) (hv : BoxAt w v b) (fb : FitBx b) (hu : SetAt w u s) (fs : Fit s) :
  Calls Tryz.prog 89 #[v, .int .i64 x, u] w fun r w' => (∃ y, r = .returned y ∧ BoxAt w' y (b)) ∧ Below w.heap.size w w' := by
 obtain ⟨s0, s1, s2, s3, rfl, h0, h1, h2, h3⟩ := hv.scs;obtain ⟨t, rfl⟩ := hu.sc;have T0 := Tri.start w (Obj.cells #[.bool s0.a, .slice s0.p s0.n s0.c, .bool s0.d, .slice s0.q s0.m s0.e, .bool s1.a, .slice s1.p s1.n s1.c, .bool s1.d, .slice s1.q s1.m s1.e, .bool s2.a, .slice s2.p s2.n s2.c, .bool s2.d, .slice s2.q s2.m s2.e, .bool s3.a, .slice s3.p s3.n s3.c, .bool s3.d, .slice s3.q s3.m s3.e] 54) (Obj.cells #[.bool t.a, .slice t.p t.n t.c, .bool t.d, .slice t.q t.m t.e] 25) (Obj.cells #[.bool false, .slice none 0 0, .bool false, .slice none 0 0, .bool false, .slice none 0 0, .bool false, .slice none 0 0, .bool false, .slice none 0 0, .bool false, .slice none 0 0, .bool false, .slice none 0 0, .bool false, .slice none 0 0] 54);have S0 := hide (show Sets4 _ s0 s1 s2 s3 b from ⟨h0.on T0.b, h1.on T0.b, h2.on T0.b, h3.on T0.b⟩);have HT0 := hide (hu.on T0.b);have I0 := hide (show BxIn _ w.heap.size s0 s1 s2 s3 from T0.e1);have N0 := hide T0.e2;have Z0 := hide (show BxIn _ (w.heap.size + 1 + 1) SC.zero SC.zero SC.zero SC.zero from T0.e3);have B0 := hide T0.b;have HS : Hid (Sets4 w s0 s1 s2 s3 b) := hide ⟨h0, h1, h2, h3⟩;have HU := hide hu;have FB := hide (fun i hi => fb.fit i hi);have FP := hide (fit_put fb fs);clear hv fb hu fs h0 h1 h2 h3 T0;unfold bxVal SC.val;have hx' : (decide (0 ≤ x)) = true := by simp; omega
 have hx2 : (decide (x < 4)) = false := by simp; omega
 go_enter Tryz.func89, Tryz.ntmps89;have X := hide (boxCopied_any _ b _ ((Sets4.box S0.out)) FB.out);unfold bxVal at X;obtain ⟨c0, c1, c2, c3, c4, c5, c6, c7, c8, c9, c10, c11, c12, c13, c14, c15⟩ := I0.out.cells
 go_wp2_with fail
 refine (unhide X).mono ?_;rintro r w2 ⟨⟨u2, rfl, h2⟩, b2⟩;have Z2 := Z0.out.on b2;have B2 := B0.out.trans (b2.mono B0.out.size);clear c0 c1 c2 c3 c4 c5 c6 c7 c8 c9 c10 c11 c12 c13 c14 c15;obtain ⟨x0, x1, x2, x3, rfl, g0, g1, g2, g3⟩ := h2.scs;obtain ⟨d0, d1, d2, d3, d4, d5, d6, d7, d8, d9, d10, d11, d12, d13, d14, d15⟩ := Z2.cells;have y0 := Z2.soft 0;have y1 := Z2.soft 1;have y2 := Z2.soft 2;have y3 := Z2.soft 3;have y4 := Z2.soft 4;have y5 := Z2.soft 5;have y6 := Z2.soft 6;have y7 := Z2.soft 7;have y8 := Z2.soft 8;have y9 := Z2.soft 9;have y10 := Z2.soft 10;have y11 := Z2.soft 11;have y12 := Z2.soft 12;have y13 := Z2.soft 13;have y14 := Z2.soft 14;have y15 := Z2.soft 15;obtain ⟨q1, q2⟩ := put_whole x0 x1 x2 x3 Z2;have HQ := hide q1;have HR := hide (Sets4.box ⟨q2.set Z2 g0, q2.set Z2 g1, q2.set Z2 g2, q2.set Z2 g3⟩);have HW := hide (q2.below _ _ (by omega) B2);clear q1 q2 X g0 g1 g2 g3 h2 b2 B2 Z2 I0 N0 Z0 B0 S0 HT0 HS HU FB FP;unfold bxVal
 go_wp2
 exact bodyPost_ret (results_cell_row rfl _ _ (w.heap.size + 1 + 1) 54 _ (0, 0) _ rfl HQ.out Tryz.underlying54 rfl infoBx) rfl ⟨⟨_, rfl, HR.out⟩, HW.out⟩
set_option maxHeartbeats 8000000 in
set_option maxRecDepth 100000 in
theorem with_in0 (v : Value) (b : BoxV) (u : Value) (s : SetV) (w : World) (hv : BoxAt w v b) (fb : FitBx b) (hu : SetAt w u s) (fs : Fit s) :
  Calls Tryz.prog 89 #[v, .int .i64 0, u] w fun r w' => (∃ y, r = .returned y ∧ BoxAt w' y (b.put 0 s)) ∧ Below w.heap.size w w' := by
 obtain ⟨s0, s1, s2, s3, rfl, h0, h1, h2, h3⟩ := hv.scs;obtain ⟨t, rfl⟩ := hu.sc;have T0 := Tri.start w (Obj.cells #[.bool s0.a, .slice s0.p s0.n s0.c, .bool s0.d, .slice s0.q s0.m s0.e, .bool s1.a, .slice s1.p s1.n s1.c, .bool s1.d, .slice s1.q s1.m s1.e, .bool s2.a, .slice s2.p s2.n s2.c, .bool s2.d, .slice s2.q s2.m s2.e, .bool s3.a, .slice s3.p s3.n s3.c, .bool s3.d, .slice s3.q s3.m s3.e] 54) (Obj.cells #[.bool t.a, .slice t.p t.n t.c, .bool t.d, .slice t.q t.m t.e] 25) (Obj.cells #[.bool false, .slice none 0 0, .bool false, .slice none 0 0, .bool false, .slice none 0 0, .bool false, .slice none 0 0, .bool false, .slice none 0 0, .bool false, .slice none 0 0, .bool false, .slice none 0 0, .bool false, .slice none 0 0] 54);have S0 := hide (show Sets4 _ s0 s1 s2 s3 b from ⟨h0.on T0.b, h1.on T0.b, h2.on T0.b, h3.on T0.b⟩);have HT0 := hide (hu.on T0.b);have I0 := hide (show BxIn _ w.heap.size s0 s1 s2 s3 from T0.e1);have N0 := hide T0.e2;have Z0 := hide (show BxIn _ (w.heap.size + 1 + 1) SC.zero SC.zero SC.zero SC.zero from T0.e3);have B0 := hide T0.b;have HS : Hid (Sets4 w s0 s1 s2 s3 b) := hide ⟨h0, h1, h2, h3⟩;have HU := hide hu;have FB := hide (fun i hi => fb.fit i hi);have FP := hide (fit_put fb fs);clear hv fb hu fs h0 h1 h2 h3 T0;unfold bxVal SC.val;go_enter Tryz.func89, Tryz.ntmps89;have T1 := Tri.start w (Obj.cells #[.bool t.a, .slice t.p t.n t.c, .bool t.d, .slice t.q t.m t.e, .bool s1.a, .slice s1.p s1.n s1.c, .bool s1.d, .slice s1.q s1.m s1.e, .bool s2.a, .slice s2.p s2.n s2.c, .bool s2.d, .slice s2.q s2.m s2.e, .bool s3.a, .slice s3.p s3.n s3.c, .bool s3.d, .slice s3.q s3.m s3.e] 54) (Obj.cells #[.bool t.a, .slice t.p t.n t.c, .bool t.d, .slice t.q t.m t.e] 25) (Obj.cells #[.bool false, .slice none 0 0, .bool false, .slice none 0 0, .bool false, .slice none 0 0, .bool false, .slice none 0 0, .bool false, .slice none 0 0, .bool false, .slice none 0 0, .bool false, .slice none 0 0, .bool false, .slice none 0 0] 54);have S1 : Sets4 _ t s1 s2 s3 (b.put 0 s) := ⟨HU.out.on T1.b, HS.out.2.1.on T1.b, HS.out.2.2.1.on T1.b, HS.out.2.2.2.on T1.b⟩
 have Z1 := hide (show BxIn _ (w.heap.size + 1 + 1) SC.zero SC.zero SC.zero SC.zero from T1.e3);have B1 := hide T1.b;have X := hide (boxCopied_any _ (b.put 0 s) _ (Sets4.box S1) (FP.out 0 (by omega)));unfold bxVal at X;obtain ⟨c0, c1, c2, c3, c4, c5, c6, c7, c8, c9, c10, c11, c12, c13, c14, c15⟩ := I0.out.cells;obtain ⟨e0, e1, e2, e3⟩ := setCells N0.out;have z0 := I0.out.soft 0;have z1 := I0.out.soft 1;have z2 := I0.out.soft 2;have z3 := I0.out.soft 3;clear T1 S1
 go_wp2_with fail
 refine (unhide X).mono ?_;rintro r w2 ⟨⟨u2, rfl, h2⟩, b2⟩;have Z2 := Z1.out.on b2;have B2 := B1.out.trans (b2.mono B1.out.size);clear c0 c1 c2 c3 c4 c5 c6 c7 c8 c9 c10 c11 c12 c13 c14 c15 e0 e1 e2 e3 z0 z1 z2 z3;obtain ⟨x0, x1, x2, x3, rfl, g0, g1, g2, g3⟩ := h2.scs;obtain ⟨d0, d1, d2, d3, d4, d5, d6, d7, d8, d9, d10, d11, d12, d13, d14, d15⟩ := Z2.cells;have y0 := Z2.soft 0;have y1 := Z2.soft 1;have y2 := Z2.soft 2;have y3 := Z2.soft 3;have y4 := Z2.soft 4;have y5 := Z2.soft 5;have y6 := Z2.soft 6;have y7 := Z2.soft 7;have y8 := Z2.soft 8;have y9 := Z2.soft 9;have y10 := Z2.soft 10;have y11 := Z2.soft 11;have y12 := Z2.soft 12;have y13 := Z2.soft 13;have y14 := Z2.soft 14;have y15 := Z2.soft 15;obtain ⟨q1, q2⟩ := put_whole x0 x1 x2 x3 Z2;have HQ := hide q1;have HR := hide (Sets4.box ⟨q2.set Z2 g0, q2.set Z2 g1, q2.set Z2 g2, q2.set Z2 g3⟩);have HW := hide (q2.below _ _ (by omega) B2);clear q1 q2 X g0 g1 g2 g3 h2 b2 B2 Z2 I0 N0 Z0 B0 S0 HT0 HS HU FB FP;unfold bxVal
 go_wp2
 exact bodyPost_ret (results_cell_row rfl _ _ (w.heap.size + 1 + 1) 54 _ (0, 0) _ rfl HQ.out Tryz.underlying54 rfl infoBx) rfl ⟨⟨_, rfl, HR.out⟩, HW.out⟩
set_option maxHeartbeats 8000000 in
set_option maxRecDepth 100000 in
theorem with_in1 (v : Value) (b : BoxV) (u : Value) (s : SetV) (w : World) (hv : BoxAt w v b) (fb : FitBx b) (hu : SetAt w u s) (fs : Fit s) :
  Calls Tryz.prog 89 #[v, .int .i64 1, u] w fun r w' => (∃ y, r = .returned y ∧ BoxAt w' y (b.put 1 s)) ∧ Below w.heap.size w w' := by
 obtain ⟨s0, s1, s2, s3, rfl, h0, h1, h2, h3⟩ := hv.scs;obtain ⟨t, rfl⟩ := hu.sc;have T0 := Tri.start w (Obj.cells #[.bool s0.a, .slice s0.p s0.n s0.c, .bool s0.d, .slice s0.q s0.m s0.e, .bool s1.a, .slice s1.p s1.n s1.c, .bool s1.d, .slice s1.q s1.m s1.e, .bool s2.a, .slice s2.p s2.n s2.c, .bool s2.d, .slice s2.q s2.m s2.e, .bool s3.a, .slice s3.p s3.n s3.c, .bool s3.d, .slice s3.q s3.m s3.e] 54) (Obj.cells #[.bool t.a, .slice t.p t.n t.c, .bool t.d, .slice t.q t.m t.e] 25) (Obj.cells #[.bool false, .slice none 0 0, .bool false, .slice none 0 0, .bool false, .slice none 0 0, .bool false, .slice none 0 0, .bool false, .slice none 0 0, .bool false, .slice none 0 0, .bool false, .slice none 0 0, .bool false, .slice none 0 0] 54);have S0 := hide (show Sets4 _ s0 s1 s2 s3 b from ⟨h0.on T0.b, h1.on T0.b, h2.on T0.b, h3.on T0.b⟩);have HT0 := hide (hu.on T0.b);have I0 := hide (show BxIn _ w.heap.size s0 s1 s2 s3 from T0.e1);have N0 := hide T0.e2;have Z0 := hide (show BxIn _ (w.heap.size + 1 + 1) SC.zero SC.zero SC.zero SC.zero from T0.e3);have B0 := hide T0.b;have HS : Hid (Sets4 w s0 s1 s2 s3 b) := hide ⟨h0, h1, h2, h3⟩;have HU := hide hu;have FB := hide (fun i hi => fb.fit i hi);have FP := hide (fit_put fb fs);clear hv fb hu fs h0 h1 h2 h3 T0;unfold bxVal SC.val;go_enter Tryz.func89, Tryz.ntmps89;have T1 := Tri.start w (Obj.cells #[.bool s0.a, .slice s0.p s0.n s0.c, .bool s0.d, .slice s0.q s0.m s0.e, .bool t.a, .slice t.p t.n t.c, .bool t.d, .slice t.q t.m t.e, .bool s2.a, .slice s2.p s2.n s2.c, .bool s2.d, .slice s2.q s2.m s2.e, .bool s3.a, .slice s3.p s3.n s3.c, .bool s3.d, .slice s3.q s3.m s3.e] 54) (Obj.cells #[.bool t.a, .slice t.p t.n t.c, .bool t.d, .slice t.q t.m t.e] 25) (Obj.cells #[.bool false, .slice none 0 0, .bool false, .slice none 0 0, .bool false, .slice none 0 0, .bool false, .slice none 0 0, .bool false, .slice none 0 0, .bool false, .slice none 0 0, .bool false, .slice none 0 0, .bool false, .slice none 0 0] 54);have S1 : Sets4 _ s0 t s2 s3 (b.put 1 s) := ⟨HS.out.1.on T1.b, HU.out.on T1.b, HS.out.2.2.1.on T1.b, HS.out.2.2.2.on T1.b⟩
 have Z1 := hide (show BxIn _ (w.heap.size + 1 + 1) SC.zero SC.zero SC.zero SC.zero from T1.e3);have B1 := hide T1.b;have X := hide (boxCopied_any _ (b.put 1 s) _ (Sets4.box S1) (FP.out 1 (by omega)));unfold bxVal at X;obtain ⟨c0, c1, c2, c3, c4, c5, c6, c7, c8, c9, c10, c11, c12, c13, c14, c15⟩ := I0.out.cells;obtain ⟨e0, e1, e2, e3⟩ := setCells N0.out;have z0 := I0.out.soft 4;have z1 := I0.out.soft 5;have z2 := I0.out.soft 6;have z3 := I0.out.soft 7;clear T1 S1
 go_wp2_with fail
 refine (unhide X).mono ?_;rintro r w2 ⟨⟨u2, rfl, h2⟩, b2⟩;have Z2 := Z1.out.on b2;have B2 := B1.out.trans (b2.mono B1.out.size);clear c0 c1 c2 c3 c4 c5 c6 c7 c8 c9 c10 c11 c12 c13 c14 c15 e0 e1 e2 e3 z0 z1 z2 z3;obtain ⟨x0, x1, x2, x3, rfl, g0, g1, g2, g3⟩ := h2.scs;obtain ⟨d0, d1, d2, d3, d4, d5, d6, d7, d8, d9, d10, d11, d12, d13, d14, d15⟩ := Z2.cells;have y0 := Z2.soft 0;have y1 := Z2.soft 1;have y2 := Z2.soft 2;have y3 := Z2.soft 3;have y4 := Z2.soft 4;have y5 := Z2.soft 5;have y6 := Z2.soft 6;have y7 := Z2.soft 7;have y8 := Z2.soft 8;have y9 := Z2.soft 9;have y10 := Z2.soft 10;have y11 := Z2.soft 11;have y12 := Z2.soft 12;have y13 := Z2.soft 13;have y14 := Z2.soft 14;have y15 := Z2.soft 15;obtain ⟨q1, q2⟩ := put_whole x0 x1 x2 x3 Z2;have HQ := hide q1;have HR := hide (Sets4.box ⟨q2.set Z2 g0, q2.set Z2 g1, q2.set Z2 g2, q2.set Z2 g3⟩);have HW := hide (q2.below _ _ (by omega) B2);clear q1 q2 X g0 g1 g2 g3 h2 b2 B2 Z2 I0 N0 Z0 B0 S0 HT0 HS HU FB FP;unfold bxVal
 go_wp2
 exact bodyPost_ret (results_cell_row rfl _ _ (w.heap.size + 1 + 1) 54 _ (0, 0) _ rfl HQ.out Tryz.underlying54 rfl infoBx) rfl ⟨⟨_, rfl, HR.out⟩, HW.out⟩
set_option maxHeartbeats 8000000 in
set_option maxRecDepth 100000 in
theorem with_in2 (v : Value) (b : BoxV) (u : Value) (s : SetV) (w : World) (hv : BoxAt w v b) (fb : FitBx b) (hu : SetAt w u s) (fs : Fit s) :
  Calls Tryz.prog 89 #[v, .int .i64 2, u] w fun r w' => (∃ y, r = .returned y ∧ BoxAt w' y (b.put 2 s)) ∧ Below w.heap.size w w' := by
 obtain ⟨s0, s1, s2, s3, rfl, h0, h1, h2, h3⟩ := hv.scs;obtain ⟨t, rfl⟩ := hu.sc;have T0 := Tri.start w (Obj.cells #[.bool s0.a, .slice s0.p s0.n s0.c, .bool s0.d, .slice s0.q s0.m s0.e, .bool s1.a, .slice s1.p s1.n s1.c, .bool s1.d, .slice s1.q s1.m s1.e, .bool s2.a, .slice s2.p s2.n s2.c, .bool s2.d, .slice s2.q s2.m s2.e, .bool s3.a, .slice s3.p s3.n s3.c, .bool s3.d, .slice s3.q s3.m s3.e] 54) (Obj.cells #[.bool t.a, .slice t.p t.n t.c, .bool t.d, .slice t.q t.m t.e] 25) (Obj.cells #[.bool false, .slice none 0 0, .bool false, .slice none 0 0, .bool false, .slice none 0 0, .bool false, .slice none 0 0, .bool false, .slice none 0 0, .bool false, .slice none 0 0, .bool false, .slice none 0 0, .bool false, .slice none 0 0] 54);have S0 := hide (show Sets4 _ s0 s1 s2 s3 b from ⟨h0.on T0.b, h1.on T0.b, h2.on T0.b, h3.on T0.b⟩);have HT0 := hide (hu.on T0.b);have I0 := hide (show BxIn _ w.heap.size s0 s1 s2 s3 from T0.e1);have N0 := hide T0.e2;have Z0 := hide (show BxIn _ (w.heap.size + 1 + 1) SC.zero SC.zero SC.zero SC.zero from T0.e3);have B0 := hide T0.b;have HS : Hid (Sets4 w s0 s1 s2 s3 b) := hide ⟨h0, h1, h2, h3⟩;have HU := hide hu;have FB := hide (fun i hi => fb.fit i hi);have FP := hide (fit_put fb fs);clear hv fb hu fs h0 h1 h2 h3 T0;unfold bxVal SC.val;go_enter Tryz.func89, Tryz.ntmps89;have T1 := Tri.start w (Obj.cells #[.bool s0.a, .slice s0.p s0.n s0.c, .bool s0.d, .slice s0.q s0.m s0.e, .bool s1.a, .slice s1.p s1.n s1.c, .bool s1.d, .slice s1.q s1.m s1.e, .bool t.a, .slice t.p t.n t.c, .bool t.d, .slice t.q t.m t.e, .bool s3.a, .slice s3.p s3.n s3.c, .bool s3.d, .slice s3.q s3.m s3.e] 54) (Obj.cells #[.bool t.a, .slice t.p t.n t.c, .bool t.d, .slice t.q t.m t.e] 25) (Obj.cells #[.bool false, .slice none 0 0, .bool false, .slice none 0 0, .bool false, .slice none 0 0, .bool false, .slice none 0 0, .bool false, .slice none 0 0, .bool false, .slice none 0 0, .bool false, .slice none 0 0, .bool false, .slice none 0 0] 54);have S1 : Sets4 _ s0 s1 t s3 (b.put 2 s) := ⟨HS.out.1.on T1.b, HS.out.2.1.on T1.b, HU.out.on T1.b, HS.out.2.2.2.on T1.b⟩
 have Z1 := hide (show BxIn _ (w.heap.size + 1 + 1) SC.zero SC.zero SC.zero SC.zero from T1.e3);have B1 := hide T1.b;have X := hide (boxCopied_any _ (b.put 2 s) _ (Sets4.box S1) (FP.out 2 (by omega)));unfold bxVal at X;obtain ⟨c0, c1, c2, c3, c4, c5, c6, c7, c8, c9, c10, c11, c12, c13, c14, c15⟩ := I0.out.cells;obtain ⟨e0, e1, e2, e3⟩ := setCells N0.out;have z0 := I0.out.soft 8;have z1 := I0.out.soft 9;have z2 := I0.out.soft 10;have z3 := I0.out.soft 11;clear T1 S1
 go_wp2_with fail
 refine (unhide X).mono ?_;rintro r w2 ⟨⟨u2, rfl, h2⟩, b2⟩;have Z2 := Z1.out.on b2;have B2 := B1.out.trans (b2.mono B1.out.size);clear c0 c1 c2 c3 c4 c5 c6 c7 c8 c9 c10 c11 c12 c13 c14 c15 e0 e1 e2 e3 z0 z1 z2 z3;obtain ⟨x0, x1, x2, x3, rfl, g0, g1, g2, g3⟩ := h2.scs;obtain ⟨d0, d1, d2, d3, d4, d5, d6, d7, d8, d9, d10, d11, d12, d13, d14, d15⟩ := Z2.cells;have y0 := Z2.soft 0;have y1 := Z2.soft 1;have y2 := Z2.soft 2;have y3 := Z2.soft 3;have y4 := Z2.soft 4;have y5 := Z2.soft 5;have y6 := Z2.soft 6;have y7 := Z2.soft 7;have y8 := Z2.soft 8;have y9 := Z2.soft 9;have y10 := Z2.soft 10;have y11 := Z2.soft 11;have y12 := Z2.soft 12;have y13 := Z2.soft 13;have y14 := Z2.soft 14;have y15 := Z2.soft 15;obtain ⟨q1, q2⟩ := put_whole x0 x1 x2 x3 Z2;have HQ := hide q1;have HR := hide (Sets4.box ⟨q2.set Z2 g0, q2.set Z2 g1, q2.set Z2 g2, q2.set Z2 g3⟩);have HW := hide (q2.below _ _ (by omega) B2);clear q1 q2 X g0 g1 g2 g3 h2 b2 B2 Z2 I0 N0 Z0 B0 S0 HT0 HS HU FB FP;unfold bxVal
 go_wp2
 exact bodyPost_ret (results_cell_row rfl _ _ (w.heap.size + 1 + 1) 54 _ (0, 0) _ rfl HQ.out Tryz.underlying54 rfl infoBx) rfl ⟨⟨_, rfl, HR.out⟩, HW.out⟩
set_option maxHeartbeats 8000000 in
set_option maxRecDepth 100000 in
theorem with_in3 (v : Value) (b : BoxV) (u : Value) (s : SetV) (w : World) (hv : BoxAt w v b) (fb : FitBx b) (hu : SetAt w u s) (fs : Fit s) :
  Calls Tryz.prog 89 #[v, .int .i64 3, u] w fun r w' => (∃ y, r = .returned y ∧ BoxAt w' y (b.put 3 s)) ∧ Below w.heap.size w w' := by
 obtain ⟨s0, s1, s2, s3, rfl, h0, h1, h2, h3⟩ := hv.scs;obtain ⟨t, rfl⟩ := hu.sc;have T0 := Tri.start w (Obj.cells #[.bool s0.a, .slice s0.p s0.n s0.c, .bool s0.d, .slice s0.q s0.m s0.e, .bool s1.a, .slice s1.p s1.n s1.c, .bool s1.d, .slice s1.q s1.m s1.e, .bool s2.a, .slice s2.p s2.n s2.c, .bool s2.d, .slice s2.q s2.m s2.e, .bool s3.a, .slice s3.p s3.n s3.c, .bool s3.d, .slice s3.q s3.m s3.e] 54) (Obj.cells #[.bool t.a, .slice t.p t.n t.c, .bool t.d, .slice t.q t.m t.e] 25) (Obj.cells #[.bool false, .slice none 0 0, .bool false, .slice none 0 0, .bool false, .slice none 0 0, .bool false, .slice none 0 0, .bool false, .slice none 0 0, .bool false, .slice none 0 0, .bool false, .slice none 0 0, .bool false, .slice none 0 0] 54);have S0 := hide (show Sets4 _ s0 s1 s2 s3 b from ⟨h0.on T0.b, h1.on T0.b, h2.on T0.b, h3.on T0.b⟩);have HT0 := hide (hu.on T0.b);have I0 := hide (show BxIn _ w.heap.size s0 s1 s2 s3 from T0.e1);have N0 := hide T0.e2;have Z0 := hide (show BxIn _ (w.heap.size + 1 + 1) SC.zero SC.zero SC.zero SC.zero from T0.e3);have B0 := hide T0.b;have HS : Hid (Sets4 w s0 s1 s2 s3 b) := hide ⟨h0, h1, h2, h3⟩;have HU := hide hu;have FB := hide (fun i hi => fb.fit i hi);have FP := hide (fit_put fb fs);clear hv fb hu fs h0 h1 h2 h3 T0;unfold bxVal SC.val;go_enter Tryz.func89, Tryz.ntmps89;have T1 := Tri.start w (Obj.cells #[.bool s0.a, .slice s0.p s0.n s0.c, .bool s0.d, .slice s0.q s0.m s0.e, .bool s1.a, .slice s1.p s1.n s1.c, .bool s1.d, .slice s1.q s1.m s1.e, .bool s2.a, .slice s2.p s2.n s2.c, .bool s2.d, .slice s2.q s2.m s2.e, .bool t.a, .slice t.p t.n t.c, .bool t.d, .slice t.q t.m t.e] 54) (Obj.cells #[.bool t.a, .slice t.p t.n t.c, .bool t.d, .slice t.q t.m t.e] 25) (Obj.cells #[.bool false, .slice none 0 0, .bool false, .slice none 0 0, .bool false, .slice none 0 0, .bool false, .slice none 0 0, .bool false, .slice none 0 0, .bool false, .slice none 0 0, .bool false, .slice none 0 0, .bool false, .slice none 0 0] 54);have S1 : Sets4 _ s0 s1 s2 t (b.put 3 s) := ⟨HS.out.1.on T1.b, HS.out.2.1.on T1.b, HS.out.2.2.1.on T1.b, HU.out.on T1.b⟩
 have Z1 := hide (show BxIn _ (w.heap.size + 1 + 1) SC.zero SC.zero SC.zero SC.zero from T1.e3);have B1 := hide T1.b;have X := hide (boxCopied_any _ (b.put 3 s) _ (Sets4.box S1) (FP.out 3 (by omega)));unfold bxVal at X;obtain ⟨c0, c1, c2, c3, c4, c5, c6, c7, c8, c9, c10, c11, c12, c13, c14, c15⟩ := I0.out.cells;obtain ⟨e0, e1, e2, e3⟩ := setCells N0.out;have z0 := I0.out.soft 12;have z1 := I0.out.soft 13;have z2 := I0.out.soft 14;have z3 := I0.out.soft 15;clear T1 S1
 go_wp2_with fail
 refine (unhide X).mono ?_;rintro r w2 ⟨⟨u2, rfl, h2⟩, b2⟩;have Z2 := Z1.out.on b2;have B2 := B1.out.trans (b2.mono B1.out.size);clear c0 c1 c2 c3 c4 c5 c6 c7 c8 c9 c10 c11 c12 c13 c14 c15 e0 e1 e2 e3 z0 z1 z2 z3;obtain ⟨x0, x1, x2, x3, rfl, g0, g1, g2, g3⟩ := h2.scs;obtain ⟨d0, d1, d2, d3, d4, d5, d6, d7, d8, d9, d10, d11, d12, d13, d14, d15⟩ := Z2.cells;have y0 := Z2.soft 0;have y1 := Z2.soft 1;have y2 := Z2.soft 2;have y3 := Z2.soft 3;have y4 := Z2.soft 4;have y5 := Z2.soft 5;have y6 := Z2.soft 6;have y7 := Z2.soft 7;have y8 := Z2.soft 8;have y9 := Z2.soft 9;have y10 := Z2.soft 10;have y11 := Z2.soft 11;have y12 := Z2.soft 12;have y13 := Z2.soft 13;have y14 := Z2.soft 14;have y15 := Z2.soft 15;obtain ⟨q1, q2⟩ := put_whole x0 x1 x2 x3 Z2;have HQ := hide q1;have HR := hide (Sets4.box ⟨q2.set Z2 g0, q2.set Z2 g1, q2.set Z2 g2, q2.set Z2 g3⟩);have HW := hide (q2.below _ _ (by omega) B2);clear q1 q2 X g0 g1 g2 g3 h2 b2 B2 Z2 I0 N0 Z0 B0 S0 HT0 HS HU FB FP;unfold bxVal
 go_wp2
 exact bodyPost_ret (results_cell_row rfl _ _ (w.heap.size + 1 + 1) 54 _ (0, 0) _ rfl HQ.out Tryz.underlying54 rfl infoBx) rfl ⟨⟨_, rfl, HR.out⟩, HW.out⟩
theorem boxWith_any (v : Value) (b : BoxV) (x : Int) (u : Value) (s : SetV) (w : World) (x0 : -9223372036854775808 ≤ x) (x1 : x ≤ 9223372036854775807) (hv : BoxAt w v b) (fb : FitBx b) (hu : SetAt w u s) (fs : Fit s) :
  Calls Tryz.prog 89 #[v, .int .i64 x, u] w fun r w' => (∃ y, r = .returned y ∧ BoxAt w' y (withBx b x s)) ∧ Below w.heap.size w w' := by
 rcases (by omega : x < 0 ∨ x = 0 ∨ x = 1 ∨ x = 2 ∨ x = 3 ∨ 3 < x) with hx | rfl | rfl | rfl | rfl | hx
 ·rw [show withBx b x s = b from by unfold withBx; rw [if_neg (by omega)]];exact with_low v b u s w x x0 hx hv fb hu fs
 ·exact with_in0 v b u s w hv fb hu fs
 ·exact with_in1 v b u s w hv fb hu fs
 ·exact with_in2 v b u s w hv fb hu fs
 ·exact with_in3 v b u s w hv fb hu fs
 ·rw [show withBx b x s = b from by unfold withBx; rw [if_neg (by omega)]];exact with_high v b u s w x x1 hx hv fb hu fs
end Go.Proofs.YtlkcjhcmkaddaaaGreat
namespace Go.Proofs.YtlkcjhcmkaddaaaGreat
open Go.RowKit
theorem allFit : FitBx allBx := ⟨all_good, fun i _ => by rw [allBx_get]; simp [allV], fun i _ => by rw [allBx_get]; simp [allV]⟩
set_option maxHeartbeats 8000000 in
set_option maxRecDepth 100000 in
theorem boxAtom_any (P : SetProg) (x : Int) (u : Value) (s : SetV) (w : World) (x0 : -9223372036854775808 ≤ x) (x1 : x ≤ 9223372036854775807) (hu : SetAt w u s) (fs : Fit s) :
  Calls Tryz.prog 66 #[.int .i64 x, u] w fun r w' => (∃ y, r = .returned y ∧ BoxAt w' y (withBx allBx x s)) ∧ Below w.heap.size w w' := by
 have CA := fun (W : World) => hide (boxAll_any P W)
 have CW := fun (W : World) (v : Value) (hv : BoxAt W v allBx) (hu : SetAt W u s) => hide (boxWith_any v allBx x u s W x0 x1 hv allFit hu fs)
 obtain ⟨t, rfl⟩ := hu.sc;have T0 := Two.start w (Obj.cells #[.bool t.a, .slice t.p t.n t.c, .bool t.d, .slice t.q t.m t.e] 25) (Obj.cells #[.bool false, .slice none 0 0, .bool false, .slice none 0 0, .bool false, .slice none 0 0, .bool false, .slice none 0 0, .bool false, .slice none 0 0, .bool false, .slice none 0 0, .bool false, .slice none 0 0, .bool false, .slice none 0 0] 54);unfold SC.val at *;go_enter Tryz.func66, Tryz.ntmps66
 go_wp2
 generalize hW : (w.alloc (Obj.cells #[.bool t.a, .slice t.p t.n t.c, .bool t.d, .slice t.q t.m t.e] 25)).alloc (Obj.cells #[.bool false, .slice none 0 0, .bool false, .slice none 0 0, .bool false, .slice none 0 0, .bool false, .slice none 0 0, .bool false, .slice none 0 0, .bool false, .slice none 0 0, .bool false, .slice none 0 0, .bool false, .slice none 0 0] 54) = W0 at T0 ⊢;clear hW;refine wp_region_held_drew (S := fun w' => w'.heap[w.heap.size]? = some (Obj.cells #[.bool t.a, .slice t.p t.n t.c, .bool t.d, .slice t.q t.m t.e] 25 (0, 0))) (by kernel_rfl) T0.e1 (fun hHeld => ?_);refine wpAnyH_take (i := 1) (oi := .mk ..) (v := .int .i64 x) rfl (by kernel_rfl) (by kernel_rfl) (by kernel_rfl) (fun _ _ _ h => h) (yl_move (by rfl) _ rfl _ rfl) (by assumption) ?_;simp only [lp, lz];refine wpAnyH_take (i := 2) (oi := .mk ..) (v := .agg #[.bool t.a, .slice t.p t.n t.c, .bool t.d, .slice t.q t.m t.e]) rfl (by kernel_rfl) (by kernel_rfl) (by kernel_rfl) (fun _ _ _ h => h) (yl_set (by rfl) _ rfl _ 0 rfl _ _ _ _ (fun w' h => setCells h)) (by assumption) ?_;simp only [lp, lz]
 -- call 1 of 2
 refine held_call (o := .mk ..) 0 (by kernel_rfl) rfl (by rfl) 36 _ _ rfl #[] rfl (run_call Tryz.func36 (by kernel_rfl) (by kernel_rfl)) ?_;refine (unhide (CA W0.drew)).mono ?_;rintro r w1 ⟨⟨u1, rfl, h1⟩, b'⟩;have bw : Below W0.heap.size W0 w1 := ⟨b'.os, b'.tape, b'.output, b'.size, b'.block⟩
 have T1 := T0.on bw;obtain ⟨s0, s1, s2, s3, rfl, -⟩ := h1.scs;refine ⟨.agg #[.bool s0.a, .slice s0.p s0.n s0.c, .bool s0.d, .slice s0.q s0.m s0.e, .bool s1.a, .slice s1.p s1.n s1.c, .bool s1.d, .slice s1.q s1.m s1.e, .bool s2.a, .slice s2.p s2.n s2.c, .bool s2.d, .slice s2.q s2.m s2.e, .bool s3.a, .slice s3.p s3.n s3.c, .bool s3.d, .slice s3.q s3.m s3.e], rfl, T1.e1, fun hHeld => ?_⟩;simp only [lp, lz]
 -- call 2 of 2
 refine held_call (o := .mk ..) 3 (by kernel_rfl) rfl (by rfl) 89 _ _ rfl #[.agg #[.bool s0.a, .slice s0.p s0.n s0.c, .bool s0.d, .slice s0.q s0.m s0.e, .bool s1.a, .slice s1.p s1.n s1.c, .bool s1.d, .slice s1.q s1.m s1.e, .bool s2.a, .slice s2.p s2.n s2.c, .bool s2.d, .slice s2.q s2.m s2.e, .bool s3.a, .slice s3.p s3.n s3.c, .bool s3.d, .slice s3.q s3.m s3.e], .int .i64 x, .agg #[.bool t.a, .slice t.p t.n t.c, .bool t.d, .slice t.q t.m t.e]] rfl (run_call Tryz.func89 (by kernel_rfl) (by kernel_rfl)) ?_;refine (unhide (CW w1 _ h1 (hu.on T1.b))).mono ?_;rintro r w2 ⟨⟨u2, rfl, h2⟩, b2⟩;have T2 := T1.on b2;have Z2 : BxIn w2 (w.heap.size + 1) SC.zero SC.zero SC.zero SC.zero := T2.e2;obtain ⟨x0, x1, x2, x3, rfl, g0, g1, g2, g3⟩ := h2.scs;refine ⟨.agg #[.bool x0.a, .slice x0.p x0.n x0.c, .bool x0.d, .slice x0.q x0.m x0.e, .bool x1.a, .slice x1.p x1.n x1.c, .bool x1.d, .slice x1.q x1.m x1.e, .bool x2.a, .slice x2.p x2.n x2.c, .bool x2.d, .slice x2.q x2.m x2.e, .bool x3.a, .slice x3.p x3.n x3.c, .bool x3.d, .slice x3.q x3.m x3.e], rfl, T2.e1, fun hHeld => ?_⟩;simp only [lp, lz];obtain ⟨d0, d1, d2, d3, d4, d5, d6, d7, d8, d9, d10, d11, d12, d13, d14, d15⟩ := Z2.cells;have y0 := Z2.soft 0;have y1 := Z2.soft 1;have y2 := Z2.soft 2;have y3 := Z2.soft 3;have y4 := Z2.soft 4;have y5 := Z2.soft 5;have y6 := Z2.soft 6;have y7 := Z2.soft 7;have y8 := Z2.soft 8;have y9 := Z2.soft 9;have y10 := Z2.soft 10;have y11 := Z2.soft 11;have y12 := Z2.soft 12;have y13 := Z2.soft 13;have y14 := Z2.soft 14;have y15 := Z2.soft 15;obtain ⟨q1, q2⟩ := put_whole x0 x1 x2 x3 Z2;have HQ := hide q1;have HR := hide (Sets4.box ⟨q2.set Z2 g0, q2.set Z2 g1, q2.set Z2 g2, q2.set Z2 g3⟩);have HW := hide (q2.below _ _ (by omega) T2.b);have E1 := (q2.other w.heap.size (by omega)).trans T2.e1;refine wpAnyH_ready (rs := [4]) (by kernel_rfl) (by simp) ?_;refine AllReadyH.cons rfl (fun K hK => ?_) AllReadyH.nil;clear CA CW hHeld;go_simp;refine hK.out _ _ E1 (fun hHeld => ?_);clear hK K;refine wpAnyH_done (by kernel_rfl) ?_ _
 go_wp2
 exact bodyPost_ret (results_cell_row rfl _ _ (w.heap.size + 1) 54 _ (0, 0) _ rfl HQ.out Tryz.underlying54 rfl infoBx) rfl ⟨⟨_, rfl, HR.out⟩, HW.out⟩
theorem boxProg (P : SetProg) : BoxProg := {
 all := boxAll_any P
 atom := fun x v s w x0 x1 h f => boxAtom_any P x v s w x0 x1 h f
 with_ := fun v b x u s w x0 x1 h f hs fs => boxWith_any v b x u s w x0 x1 h f hs fs
 and := fun v u a b w h h' f f' => boxAnd_any P v u a b w h h' f f'
 in_ := fun v u a b w h h' f f' => boxIn_any P v u a b w h h' f f'
 empty := fun v b w h f => boxEmpty_any P v b w h f
 has := fun v b e w h f ef ee => boxHas_any P v b e w h f ef ee }
theorem boxProg0 : BoxProg := boxProg setProg
end Go.Proofs.YtlkcjhcmkaddaaaGreat
namespace Go.Proofs.YtlkcjhcmkaddaaaGreat
open Go.RowKit
set_option maxHeartbeats 4000000 in
set_option maxRecDepth 100000 in
theorem tidied1_any (c d : BxC) (g : Nat) (a b : BoxV) (w : World) (hv : BoxAt w c.val a) (HQ : BcIn w g d) (hu : BoxAt w d.val b) (fa : FitBx a) (fb : FitBx b) :
  Calls Tryz.prog 64 #[c.val, .pointer (some ⟨g, 0, none⟩)] w fun r w' => r = .returned (.bool (inBx a b)) ∧ Below w.heap.size w w' := by
 have D := Below.refl w.heap.size w;go_enter Tryz.func64, Tryz.ntmps64;refine wp_seq_k (fun K1 hK1 => ?_);refine wp_region_lit ?_;refine wl_boxBc (o := .mk ..) (by rfl) _ rfl rfl (fun v1 gb1 hggb1 IO2 kb => ?_);simp only [lp, lz];replace D := D.trans (kb.mono D.size);replace HQ := HQ.on kb;replace hv := hv.on kb;replace hu := hu.on kb;clear kb;refine wl_yield (o := .mk ..) (.bool false) (yl_assign (by rfl) _ rfl _ rfl) ?_;simp only [lp, lz];refine wpList_nil ?_;refine hK1 _ _ ?_;clear hK1 K1;refine wp_seq_k (fun K2 hK2 => ?_);refine wp_region_lit ?_;refine wl_yield (o := .mk ..) (BxC.val c) (yl_bx (by rfl) _ rfl _ _ rfl _ (fun _ h => by subst h; exact BcIn.at IO2)) ?_;simp only [lp, lz];refine wl_yield (o := .mk ..) (BxC.val d) (yl_bx (by rfl) _ rfl _ _ rfl _ (fun _ h => by subst h; exact BcIn.at HQ)) ?_;simp only [lp, lz];refine wl_call (o := .mk ..) (by rfl) 65 _ _ rfl #[BxC.val c, BxC.val d] rfl (run_call Tryz.func65 (by kernel_rfl) (by kernel_rfl)) ?_;refine (boxProg0.in_ _ _ a b _ hv hu fa fb).mono ?_;rintro r v2 ⟨rfl, kb⟩;replace D := D.trans (kb.mono D.size);replace HQ := HQ.on kb;replace hv := hv.on kb;replace hu := hu.on kb;replace IO2 := IO2.on kb;clear kb;refine ⟨.bool (inBx a b), rfl, ?_⟩;simp only [lp, lz];refine wl_yield (o := .mk ..) (.bool (inBx a b)) (yl_assign (by rfl) _ rfl _ rfl) ?_;simp only [lp, lz];refine wpList_nil ?_;refine hK2 _ _ ?_;clear hK2 K2;refine wp_ret ?_;go_ret
 exact ⟨rfl, D⟩
set_option maxHeartbeats 4000000 in
set_option maxRecDepth 100000 in
theorem lies1_any (c d : BxC) (g : Nat) (a b : BoxV) (w : World) (hv : BoxAt w c.val a) (HQ : BcIn w g d) (hu : BoxAt w d.val b) (fa : FitBx a) (fb : FitBx b) :
  Calls Tryz.prog 86 #[c.val, .pointer (some ⟨g, 0, none⟩)] w fun r w' => r = .returned (.bool (inBx b a)) ∧ Below w.heap.size w w' := by
 have D := Below.refl w.heap.size w;go_enter Tryz.func86, Tryz.ntmps86;refine wp_seq_k (fun K1 hK1 => ?_);refine wp_region_lit ?_;refine wl_boxBc (o := .mk ..) (by rfl) _ rfl rfl (fun v1 gb1 hggb1 IO2 kb => ?_);simp only [lp, lz];replace D := D.trans (kb.mono D.size);replace HQ := HQ.on kb;replace hv := hv.on kb;replace hu := hu.on kb;clear kb;refine wl_yield (o := .mk ..) (.bool false) (yl_assign (by rfl) _ rfl _ rfl) ?_;simp only [lp, lz];refine wpList_nil ?_;refine hK1 _ _ ?_;clear hK1 K1;refine wp_seq_k (fun K2 hK2 => ?_);refine wp_region_lit ?_;refine wl_yield (o := .mk ..) (BxC.val d) (yl_bx (by rfl) _ rfl _ _ rfl _ (fun _ h => by subst h; exact BcIn.at HQ)) ?_;simp only [lp, lz];refine wl_yield (o := .mk ..) (BxC.val c) (yl_bx (by rfl) _ rfl _ _ rfl _ (fun _ h => by subst h; exact BcIn.at IO2)) ?_;simp only [lp, lz];refine wl_call (o := .mk ..) (by rfl) 65 _ _ rfl #[BxC.val d, BxC.val c] rfl (run_call Tryz.func65 (by kernel_rfl) (by kernel_rfl)) ?_;refine (boxProg0.in_ _ _ b a _ hu hv fb fa).mono ?_;rintro r v2 ⟨rfl, kb⟩;replace D := D.trans (kb.mono D.size);replace HQ := HQ.on kb;replace hv := hv.on kb;replace hu := hu.on kb;replace IO2 := IO2.on kb;clear kb;refine ⟨.bool (inBx b a), rfl, ?_⟩;simp only [lp, lz];refine wl_yield (o := .mk ..) (.bool (inBx b a)) (yl_assign (by rfl) _ rfl _ rfl) ?_;simp only [lp, lz];refine wpList_nil ?_;refine hK2 _ _ ?_;clear hK2 K2;refine wp_ret ?_;go_ret
 exact ⟨rfl, D⟩
set_option maxHeartbeats 4000000 in
set_option maxRecDepth 100000 in
theorem has1_any (c : BxC) (e : EvV) (g : Nat) (a : BoxV) (w : World) (hv : BoxAt w c.val a) (HE : EvIn w g e) (fa : FitBx a) (hf : evFit e) (he : inE e) :
  Calls Tryz.prog 27 #[c.val, .pointer (some ⟨g, 0, none⟩)] w fun r w' => r = .returned (.bool (hasE a e)) ∧ Below w.heap.size w w' := by
 have D := Below.refl w.heap.size w;go_enter Tryz.func27, Tryz.ntmps27;refine wp_seq_k (fun K1 hK1 => ?_);refine wp_region_lit ?_;refine wl_boxBc (o := .mk ..) (by rfl) _ rfl rfl (fun v1 gb1 hggb1 IO2 kb => ?_);simp only [lp, lz];replace D := D.trans (kb.mono D.size);replace HE := HE.on kb;replace hv := hv.on kb;clear kb;refine wl_yield (o := .mk ..) (.bool false) (yl_assign (by rfl) _ rfl _ rfl) ?_;simp only [lp, lz];refine wpList_nil ?_;refine hK1 _ _ ?_;clear hK1 K1;refine wp_seq_k (fun K2 hK2 => ?_);refine wp_region_lit ?_;refine wl_yield (o := .mk ..) (BxC.val c) (yl_bx (by rfl) _ rfl _ _ rfl _ (fun _ h => by subst h; exact BcIn.at IO2)) ?_;simp only [lp, lz];refine wl_yield (o := .mk ..) (evVal e) (yl_ev (by rfl) _ rfl _ 0 rfl _ _ _ _ _ _ _ _ _ _ _ _ (fun _ h => by subst h; exact evCells HE)) ?_;simp only [lp, lz];refine wl_call (o := .mk ..) (by rfl) 28 _ _ rfl #[BxC.val c, evVal e] rfl (run_call Tryz.func28 (by kernel_rfl) (by kernel_rfl)) ?_;refine (boxProg0.has _ a e _ hv fa hf he).mono ?_;rintro r v2 ⟨rfl, kb⟩;replace D := D.trans (kb.mono D.size);replace HE := HE.on kb;replace hv := hv.on kb;replace IO2 := IO2.on kb;clear kb;refine ⟨.bool (hasE a e), rfl, ?_⟩;simp only [lp, lz];refine wl_yield (o := .mk ..) (.bool (hasE a e)) (yl_assign (by rfl) _ rfl _ rfl) ?_;simp only [lp, lz];refine wpList_nil ?_;refine hK2 _ _ ?_;clear hK2 K2;refine wp_ret ?_;go_ret
 exact ⟨rfl, D⟩
def FitL (l : List BoxV) : Prop := ∀ b ∈ l, FitBx b
theorem range_anyC (f : BoxV → Bool) {cs : List BxC} {l : List BoxV} (h : cs.length = l.length) : (List.range cs.length).any (fun i => f (l.getD i zBox)) = l.any f := by rw [h]; exact range_anyB f l
set_option maxHeartbeats 4000000 in
set_option maxRecDepth 100000 in
theorem liesInOne_any (d : BxC) (b : BoxV) (v : Value) (cs : List BxC) (l : List BoxV) (w : World) (hu : BoxAt w d.val b) (fb : FitBx b) (hr : BxRow w v cs) (ha : AllBx w cs l) (fl : FitL l) :
  Calls Tryz.prog 62 #[d.val, v] w fun r w' => r = .returned (.bool (l.any fun k => inBx b k)) ∧ Below w.heap.size w w' := by
 have D := Below.refl w.heap.size w;go_enter Tryz.func62, Tryz.ntmps62;refine wp_seq_k (fun K1 hK1 => ?_);refine wp_region_lit ?_;refine wl_boxBc (o := .mk ..) (by rfl) _ rfl rfl (fun v1 gb1 hggb1 HQ kb => ?_);simp only [lp, lz];replace D := D.trans (kb.mono D.size);clear kb;refine wl_yield (o := .mk ..) (.bool false) (yl_assign (by rfl) _ rfl _ rfl) ?_;simp only [lp, lz];refine wpList_nil ?_;refine hK1 _ _ ?_;clear hK1 K1;refine wp_seq_k (fun K2 hK2 => ?_);refine wp_region_lit ?_;refine wl_yield (o := .mk ..) (v) (yl_move (by rfl) _ rfl _ rfl) ?_;simp only [lp, lz];refine wl_yield (o := .mk ..) (.func (.func 86) #[] #[.pointer (some ⟨gb1, 0, none⟩)]) (yl_fn (by rfl) _ _ rfl _ rfl) ?_;simp only [lp, lz];refine wl_call (o := .mk ..) (by rfl) 85 _ _ rfl #[v, .func (.func 86) #[] #[.pointer (some ⟨gb1, 0, none⟩)]] rfl (run_call Tryz.func85 (by kernel_rfl) (by kernel_rfl)) ?_;refine (containsB_any 86 (run_call Tryz.func86 (by kernel_rfl) (by kernel_rfl)) _ v cs (fun i => inBx b (l.getD i zBox)) _ (hr.on D) (fun i hi W hb => lies1_any _ d _ _ b _ ((ha.2 i (by rw [← ha.1]; exact hi)).on (D.trans (hb.mono D.size))) (HQ.on hb) (hu.on (D.trans (hb.mono D.size))) (fl _ (getB_mem (by rw [← ha.1]; exact hi))) fb)).mono ?_;rintro r v2 ⟨rfl, kb⟩;replace D := D.trans (kb.mono D.size);replace HQ := HQ.on kb;clear kb;refine ⟨.bool ((List.range cs.length).any fun i => inBx b (l.getD i zBox)), rfl, ?_⟩;simp only [lp, lz];refine wl_yield (o := .mk ..) (.bool ((List.range cs.length).any fun i => inBx b (l.getD i zBox))) (yl_assign (by rfl) _ rfl _ rfl) ?_;simp only [lp, lz];refine wpList_nil ?_;refine hK2 _ _ ?_;clear hK2 K2;refine wp_ret ?_;go_ret
 exact ⟨by rw [range_anyC (fun k => inBx b k) ha.1]; rfl, D⟩
set_option maxHeartbeats 4000000 in
set_option maxRecDepth 100000 in
theorem progHas_any (v : Value) (l : List BoxV) (e : EvV) (w : World) (hv : Bxs w v l) (fl : FitL l) (hf : evFit e) (he : inE e) :
  Calls Tryz.prog 13 #[v, evVal e] w fun r w' => r = .returned (.bool (hasL l e)) ∧ Below w.heap.size w w' := by
 obtain ⟨cs, hr, ha⟩ := hv;have D := Below.refl w.heap.size w;go_enter Tryz.func13, Tryz.ntmps13;refine wp_seq_k (fun K1 hK1 => ?_);refine wp_region_lit ?_;refine wl_evBox (o := .mk ..) (by rfl) _ rfl rfl (fun v1 gb1 HE kb => ?_);simp only [lp, lz];replace D := D.trans (kb.mono D.size);clear kb;refine wl_yield (o := .mk ..) (.bool false) (yl_assign (by rfl) _ rfl _ rfl) ?_;simp only [lp, lz];refine wpList_nil ?_;refine hK1 _ _ ?_;clear hK1 K1;refine wp_seq_k (fun K2 hK2 => ?_);refine wp_region_lit ?_;refine wl_yield (o := .mk ..) (v) (yl_move (by rfl) _ rfl _ rfl) ?_;simp only [lp, lz];refine wl_yield (o := .mk ..) (.func (.func 27) #[] #[.pointer (some ⟨gb1, 0, none⟩)]) (yl_fn (by rfl) _ _ rfl _ rfl) ?_;simp only [lp, lz];refine wl_call (o := .mk ..) (by rfl) 26 _ _ rfl #[v, .func (.func 27) #[] #[.pointer (some ⟨gb1, 0, none⟩)]] rfl (run_call Tryz.func26 (by kernel_rfl) (by kernel_rfl)) ?_;refine (containsF_any 27 (run_call Tryz.func27 (by kernel_rfl) (by kernel_rfl)) _ v cs (fun i => hasE (l.getD i zBox) e) _ (hr.on D) (fun i hi W hb => has1_any _ e _ _ _ ((ha.2 i (by rw [← ha.1]; exact hi)).on (D.trans (hb.mono D.size))) (HE.on hb) (fl _ (getB_mem (by rw [← ha.1]; exact hi))) hf he)).mono ?_;rintro r v2 ⟨rfl, kb⟩;replace D := D.trans (kb.mono D.size);replace HE := HE.on kb;clear kb;refine ⟨.bool ((List.range cs.length).any fun i => hasE (l.getD i zBox) e), rfl, ?_⟩;simp only [lp, lz];refine wl_yield (o := .mk ..) (.bool ((List.range cs.length).any fun i => hasE (l.getD i zBox) e)) (yl_assign (by rfl) _ rfl _ rfl) ?_;simp only [lp, lz];refine wpList_nil ?_;refine hK2 _ _ ?_;clear hK2 K2;refine wp_ret ?_;go_ret
 exact ⟨by rw [range_anyC (fun k => hasE k e) ha.1]; rfl, D⟩
end Go.Proofs.YtlkcjhcmkaddaaaGreat
namespace Go.Proofs.YtlkcjhcmkaddaaaGreat
open Go.RowKit
theorem allBx_snoc {w : World} {ks : List BxC} {L : List BoxV} {c : BxC} {b : BoxV} (h : AllBx w ks L) (hb : BoxAt w c.val b) : AllBx w (ks ++ [c]) (L ++ [b]) := by
 refine ⟨by rw [List.length_append, List.length_append, h.1]; rfl, fun i hi => ?_⟩;rw [List.length_append, List.length_singleton] at hi;by_cases hi' : i < L.length
 ·rw [getB_lt hi', List.getD_eq_getElem?_getD, List.getElem?_append_left (by rw [h.1]; exact hi'), ← List.getD_eq_getElem?_getD];exact h.2 i hi'
 ·have e : i = L.length := by omega
  subst e;rw [getB_end, List.getD_eq_getElem?_getD, ← h.1, List.getElem?_append_right (Nat.le_refl _)]
  simpa using hb
theorem allBx_filter {w : World} {ks : List BxC} {L : List BoxV} (h : AllBx w ks L) (q : BoxV → Bool) : ∀ m, m ≤ L.length → AllBx w (keptB (fun i => q (L.getD i zBox)) ks m) ((L.take m).filter fun k => !q k)
 | 0, _ => ⟨by simp [keptB], fun i hi => by simp at hi⟩
 | m + 1, hm => by
  have ih := allBx_filter h q m (by omega);have e : L.take (m + 1) = L.take m ++ [L.getD m zBox] := by
   rw [List.take_add_one, List.getD_eq_getElem?_getD, List.getElem?_eq_getElem (by omega)]
   rfl
  rw [e, List.filter_append];cases hq : q (L.getD m zBox)
  ·rw [keptB_no hq, show [L.getD m zBox].filter (fun k => !q k) = [L.getD m zBox] by rw [List.filter_cons, List.filter_nil, hq]; rfl];exact allBx_snoc ih (h.2 m (by omega))
  ·rw [keptB_yes hq, show [L.getD m zBox].filter (fun k => !q k) = [] by rw [List.filter_cons, List.filter_nil, hq]; rfl, List.append_nil];exact ih
theorem tidP_take (l : List BoxV) (k : Nat) (hk : k < l.length) : tidP (l.take (k + 1)) = stepT (tidP (l.take k)) (l.getD k zBox) := by
 have h1 : l.take (k + 1) = l.take k ++ [l.getD k zBox] := by
  rw [List.take_add_one, List.getD_eq_getElem?_getD, List.getElem?_eq_getElem hk]
  rfl
 unfold tidP;rw [h1, List.foldl_append]
 rfl
theorem stepT_len (L : List BoxV) (b : BoxV) : (stepT L b).length ≤ L.length + 1 := by
 unfold stepT
 split
 ·omega
 ·rw [List.length_append, List.length_singleton];have := List.length_filter_le (fun k => !inBx k b) L;omega
theorem tidP_len (l : List BoxV) : ∀ k, k ≤ l.length → (tidP (l.take k)).length ≤ k
 | 0, _ => by simp [tidP]
 | k + 1, hk => by
  rw [tidP_take l k (by omega)];have := tidP_len l k (by omega);have := stepT_len (tidP (l.take k)) (l.getD k zBox);omega
theorem stepT_mem {L : List BoxV} {b x : BoxV} (h : x ∈ stepT L b) : x ∈ L ∨ x = b := by
 unfold stepT at h
 split at h
 ·exact Or.inl h
 ·rcases List.mem_append.1 h with h | h
  ·exact Or.inl (List.mem_filter.1 h).1
  ·exact Or.inr (List.mem_singleton.1 h)
theorem tidP_mem (l : List BoxV) : ∀ k, k ≤ l.length → ∀ x ∈ tidP (l.take k), x ∈ l
 | 0, _, x, h => by simp [tidP] at h
 | k + 1, hk, x, h => by
  rw [tidP_take l k (by omega)] at h;rcases stepT_mem h with h | rfl
  ·exact tidP_mem l k (by omega) x h
  ·exact getB_mem (by omega)
theorem tidied_step {w : World} {ks ks' : List BxC} {l : List BoxV} {c : BxC} {k : Nat} (hA : AllBx w ks (tidP (l.take k))) (hk : k < l.length) (hb : BoxAt w c.val (l.getD k zBox))
  (h : (emptyBx (l.getD k zBox) = false ∧ ((tidP (l.take k)).any fun k' => inBx (l.getD k zBox) k') = false ∧ ks' = keptB (fun i => inBx ((tidP (l.take k)).getD i zBox) (l.getD k zBox)) ks ks.length ++ [c]) ∨
   ((emptyBx (l.getD k zBox) = true ∨ ((tidP (l.take k)).any fun k' => inBx (l.getD k zBox) k') = true) ∧ ks' = ks)) : AllBx w ks' (tidP (l.take (k + 1))) := by
 rw [tidP_take l k hk];unfold stepT;rcases h with ⟨h1, h2, rfl⟩ | ⟨h, rfl⟩
 ·rw [h1, h2, Bool.or_false, if_neg (by simp)];have := allBx_filter hA (fun x => inBx x (l.getD k zBox)) _ (Nat.le_refl _);rw [List.take_length, ← hA.1] at this;exact allBx_snoc this hb
 ·rw [if_pos (by rcases h with h | h <;> rw [h] <;> simp)];exact hA
set_option maxHeartbeats 4000000 in
set_option maxRecDepth 100000 in
theorem tidied_any (v : Value) (l : List BoxV) (w : World) (hv : Bxs w v l) (fl : FitL l) (hl : l.length ≤ 1000) :
  Calls Tryz.prog 33 #[v] w fun r w' => (∃ u ks, r = .returned u ∧ OwnB w' w.heap.size u ks ∧ AllBx w' ks (tidP l)) ∧ Below w.heap.size w w' := by
 obtain ⟨cs, hr, ha⟩ := hv;have hbig := hr.1;have hcl := ha.1;obtain ⟨q, cp, rfl⟩ := hr.form;have D := Below.refl w.heap.size w;go_enter Tryz.func33, Tryz.ntmps33;refine wp_seq_k (fun K1 hK1 => ?_);refine wp_region_lit ?_;refine wl_yield (o := .mk ..) (.slice none 0 0) (yl_assign (by rfl) _ rfl _ rfl) ?_;simp only [lp, lz];refine wpList_nil ?_;refine hK1 _ _ ?_;clear hK1 K1;refine wp_seq_k (fun K2 hK2 => ?_);refine wp_region_lit ?_;refine wl_yield (o := .mk ..) (.slice none 0 0) (yl_assign (by rfl) _ rfl _ rfl) ?_;simp only [lp, lz];refine wpList_nil ?_;refine hK2 _ _ ?_;clear hK2 K2;refine wp_seq_k (fun K3 hK3 => ?_);refine wp_seq_k (fun K4 hK4 => ?_);refine wp_region_lit ?_;refine wl_yield (o := .mk ..) (.slice q cs.length cp) (yl_move (by rfl) _ rfl _ rfl) ?_;simp only [lp, lz];refine wl_yield (o := .mk ..) (.int .i64 (cs.length : Nat)) (yl_lenB (by rfl) _ rfl _ _ _ rfl) ?_;simp only [lp, lz];refine wl_yield (o := .mk ..) (.int .i64 0) (yl_move (by rfl) _ rfl _ rfl) ?_;simp only [lp, lz];refine wpList_nil ?_;refine hK4 _ _ ?_;clear hK4 K4;refine wp_block ?_;go_loopw [3, 8] (fun u i wr => ∃ (k : Nat) (ks : List BxC), i = .int .i64 k ∧ k ≤ cs.length ∧ OwnB wr w.heap.size u ks ∧ AllBx w ks (tidP (l.take k)) ∧ Below w.heap.size w wr) (fun _ i _ => cs.length - (intOf i).toNat)
 case atStart => exact ⟨0, [], rfl, by omega, ownB_nil _ _, ⟨rfl, fun i h => by simp [tidP] at h⟩, D⟩
 case round =>
  clear D;obtain ⟨k, ks, rfl, hk, hown, hA, D⟩ := hrel;by_cases hlt : k < cs.length
  ·have hkl : k < l.length := by rw [← ha.1]; exact hlt
   obtain ⟨g, off, rfl, HC⟩ := (hr.on D).at.2 k hlt;have hownR := hown;have hKL := tidP_len l k (by omega);have hKM := tidP_mem l k (by omega);have hKF : FitL (tidP (l.take k)) := fun x hx => fl x (hKM x hx)
   have hks : ks.length ≤ 1000 := by rw [hA.1]; omega
   have fb : FitBx (l.getD k zBox) := fl _ (getB_mem hkl);have hb := ha.2 k hkl;refine wp_seq_k (fun K5 hK5 => ?_);refine wp_region_lit ?_;refine wl_yield (o := .mk ..) (.bool true) (yl_lssI (by rfl) _ _ _ rfl (((k : Nat) : Int)) (((cs.length : Nat) : Int)) true rfl rfl (decide_eq_true (by omega))) ?_;simp only [lp, lz];refine wpList_nil ?_;refine hK5 _ _ ?_;clear hK5 K5;refine wp_seq_k (fun K6 hK6 => ?_);refine wp_cond_true rfl ?_;refine wp_skip ?_;refine hK6 _ _ ?_;clear hK6 K6;refine wp_seq_k (fun K7 hK7 => ?_);refine wp_block ?_;refine wp_seq_k (fun K8 hK8 => ?_);refine wp_region_lit ?_;refine wl_yield (o := .mk ..) (.pointer (some ⟨g, off + k * 16, none⟩)) (yl_bxAt (by rfl) _ _ rfl g (off) _ _ (k) rfl rfl (hlt)) ?_;simp only [lp, lz];refine wl_yield (o := .mk ..) (BxC.val (cs.getD k bc0)) (yl_bx (by rfl) _ rfl _ _ rfl _ (fun _ h => by subst h; exact HC)) ?_;simp only [lp, lz];refine wl_newB (o := .mk ..) (o2 := ⟨_, _, _, _, _, _⟩) (by rfl) rfl _ _ rfl rfl (fun _ => rfl) (fun _ => rfl) (fun v1 gb1 hggb1 HQ kb => ?_);simp only [lp, lz];replace D := D.trans (kb.mono D.size);replace hown := hown.on kb;clear kb;refine wpList_nil ?_;refine hK8 _ _ ?_;clear hK8 K8;refine wp_seq_k (fun K9 hK9 => ?_);refine wp_seq_k (fun K10 hK10 => ?_);refine wp_region_lit ?_;refine wl_yield (o := .mk ..) (BxC.val (cs.getD k bc0)) (yl_bx (by rfl) _ rfl _ _ rfl _ (fun _ h => by subst h; exact BcIn.at HQ)) ?_;simp only [lp, lz];refine wl_call (o := .mk ..) (by rfl) 61 _ _ rfl #[BxC.val (cs.getD k bc0)] rfl (run_call Tryz.func61 (by kernel_rfl) (by kernel_rfl)) ?_;refine (boxProg0.empty _ _ _ (hb.on D) fb).mono ?_;rintro r v2 ⟨rfl, kb⟩;replace D := D.trans (kb.mono D.size);replace hown := hown.on kb;replace HQ := HQ.on kb;clear kb;cases hq1 : emptyBx (l.getD k zBox)
   ·refine ⟨.bool false, rfl, ?_⟩;simp only [lp, lz];refine wl_yield (o := .mk ..) (.bool false) (yl_move (by rfl) _ rfl _ rfl) ?_;simp only [lp, lz];refine wl_yield (o := .mk ..) (BxC.val (cs.getD k bc0)) (yl_bx (by rfl) _ rfl _ _ rfl _ (fun _ h => by subst h; exact BcIn.at HQ)) ?_;simp only [lp, lz];refine wl_yield (o := .mk ..) (u3) (yl_move (by rfl) _ rfl _ rfl) ?_;simp only [lp, lz];refine wl_call (o := .mk ..) (by rfl) 62 _ _ rfl #[BxC.val (cs.getD k bc0), u3] rfl (run_call Tryz.func62 (by kernel_rfl) (by kernel_rfl)) ?_;refine (liesInOne_any (cs.getD k bc0) (l.getD k zBox) u3 ks (tidP (l.take k)) _ (hb.on D) fb (hown.row (by omega)) (hA.on D) hKF).mono ?_;rintro r v3 ⟨rfl, kb⟩;replace D := D.trans (kb.mono D.size);replace hown := hown.on kb;replace HQ := HQ.on kb;clear kb;cases hq2 : (tidP (l.take k)).any fun k' => inBx (l.getD k zBox) k'
    ·refine ⟨.bool false, rfl, ?_⟩;simp only [lp, lz];refine wl_yield (o := .mk ..) (.bool false) (yl_pickF (by rfl) _ _ _ rfl rfl _ rfl) ?_;simp only [lp, lz];refine wpList_nil ?_;refine hK10 _ _ ?_;clear hK10 K10;refine wp_cond_false rfl ?_;refine wp_skip ?_;refine hK9 _ _ ?_;clear hK9 K9;refine wp_seq_k (fun K11 hK11 => ?_);refine wp_region_lit ?_;refine wl_yield (o := .mk ..) (u3) (yl_move (by rfl) _ rfl _ rfl) ?_;simp only [lp, lz];refine wl_yield (o := .mk ..) (.func (.func 64) #[] #[.pointer (some ⟨gb1, 0, none⟩)]) (yl_fn (by rfl) _ _ rfl _ rfl) ?_;simp only [lp, lz];refine wl_call (o := .mk ..) (by rfl) 63 _ _ rfl #[u3, .func (.func 64) #[] #[.pointer (some ⟨gb1, 0, none⟩)]] rfl (run_call Tryz.func63 (by kernel_rfl) (by kernel_rfl)) ?_;refine (deleteB_any 64 (run_call Tryz.func64 (by kernel_rfl) (by kernel_rfl)) _ u3 w.heap.size ks (fun i => inBx ((tidP (l.take k)).getD i zBox) (l.getD k zBox)) _ hown D.size hks (fun i hi W hW => tidied1_any _ _ _ _ _ _ ((hA.2 i (by rw [← hA.1]; exact hi)).on (D.trans hW.b)) ((hW.k _ (lt_heap HQ) (hownR.ne hggb1)).trans HQ) (hb.on (D.trans hW.b)) (hKF _ (getB_mem (by rw [← hA.1]; exact hi))) fb)).mono ?_;rintro r v4 ⟨⟨u2, rfl, hown2⟩, kb⟩;replace D := D.trans kb.b;replace hown := hown2;replace HQ : BcIn v4 gb1 (cs.getD k bc0) := (kb.k _ (lt_heap HQ) (hownR.ne hggb1)).trans HQ;clear hown2 kb;refine ⟨u2, rfl, ?_⟩;simp only [lp, lz];refine wl_yield (o := .mk ..) (u2) (yl_assign (by rfl) _ rfl _ rfl) ?_;simp only [lp, lz];refine wpList_nil ?_;refine hK11 _ _ ?_;clear hK11 K11;refine wp_region_lit ?_;refine wl_yield (o := .mk ..) (u2) (yl_move (by rfl) _ rfl _ rfl) ?_;simp only [lp, lz];refine wl_yield (o := .mk ..) (BxC.val (cs.getD k bc0)) (yl_bx (by rfl) _ rfl _ _ rfl _ (fun _ h => by subst h; exact BcIn.at HQ)) ?_;simp only [lp, lz];refine wl_rowB1 (o := .mk ..) (by rfl) _ rfl rfl (fun v5 gb5 hggb5 IO24 kb => ?_);simp only [lp, lz];replace D := D.trans (kb.mono D.size);replace hown := hown.on kb;replace HQ := HQ.on kb;clear kb;refine wl_appB (o := .mk ..) (by rfl) _ _ rfl w.heap.size u2 (keptB (fun i => inBx ((tidP (l.take k)).getD i zBox) (l.getD k zBox)) ks ks.length) rfl hown gb5 (cs.getD k bc0) rfl IO24 (by have := keptB_le (fun i => inBx ((tidP (l.take k)).getD i zBox) (l.getD k zBox)) ks ks.length; omega) D.size (fun u9 v6 hown3 kb hs3 => ?_);simp only [lp, lz];replace D := D.trans kb;replace hown := hown3;clear hown3 kb hs3;refine wl_yield (o := .mk ..) (u9) (yl_assign (by rfl) _ rfl _ rfl) ?_;simp only [lp, lz];refine wpList_nil ?_;refine hK7 _ _ ?_;clear hK7 K7;refine wp_region_lit ?_;refine wl_yield (o := .mk ..) (.int .i64 (k + 1 : Nat)) (yl_addI (by rfl) _ _ _ rfl (((k : Nat) : Int)) (1) (((k + 1 : Nat) : Int)) rfl rfl (by omega) (by omega) (by omega)) ?_;simp only [lp, lz];refine wl_yield (o := .mk ..) (.int .i64 (k + 1 : Nat)) (yl_move (by rfl) _ rfl _ rfl) ?_;simp only [lp, lz];refine wpList_nil ?_;show _ ∧ _;go_roundw
     case rel => exact ⟨k + 1, _, rfl, by omega, hown, tidied_step hA hkl hb (.inl ⟨hq1, hq2, rfl⟩), D⟩
     case measure => simp [intOf]; omega
    ·refine ⟨.bool true, rfl, ?_⟩;simp only [Act.put, lz];refine wl_yield (o := .mk ..) (.bool true) (yl_pickF (by rfl) _ _ _ rfl rfl _ rfl) ?_;simp only [lp, lz];refine wpList_nil ?_;refine hK10 _ _ ?_;clear hK10 K10;refine wp_cond_true rfl ?_;refine wp_exit ?_;refine hK7 _ _ ?_;clear hK9 K9 hK7 K7;refine wp_region_lit ?_;refine wl_yield (o := .mk ..) (.int .i64 (k + 1 : Nat)) (yl_addI (by rfl) _ _ _ rfl (((k : Nat) : Int)) (1) (((k + 1 : Nat) : Int)) rfl rfl (by omega) (by omega) (by omega)) ?_;simp only [lp, lz];refine wl_yield (o := .mk ..) (.int .i64 (k + 1 : Nat)) (yl_move (by rfl) _ rfl _ rfl) ?_;simp only [lp, lz];refine wpList_nil ?_;show _ ∧ _;go_roundw
     case rel => exact ⟨k + 1, _, rfl, by omega, hown, tidied_step hA hkl hb (.inr ⟨.inr hq2, rfl⟩), D⟩
     case measure => simp [intOf]; omega
   ·refine ⟨.bool true, rfl, ?_⟩;simp only [Act.put, lz];refine wl_yield (o := .mk ..) (.bool true) (yl_move (by rfl) _ rfl _ rfl) ?_;simp only [lp, lz];with_reducible refine wl_yield (o := .mk ..) undef (yl_undef (by kernel_rfl)) ?_
    simp only [lp, lz];with_reducible refine wl_yield (o := .mk ..) undef (yl_undef (by kernel_rfl)) ?_
    simp only [lp, lz];with_reducible refine wl_yield (o := .mk ..) undef (yl_undef (by kernel_rfl)) ?_
    simp only [lp, lz];refine wl_yield (o := .mk ..) (.bool true) (yl_pickT (by rfl) _ _ _ rfl rfl _ rfl) ?_;simp only [lp, lz];refine wpList_nil ?_;refine hK10 _ _ ?_;clear hK10 K10;refine wp_cond_true rfl ?_;refine wp_exit ?_;refine hK7 _ _ ?_;clear hK9 K9 hK7 K7;refine wp_region_lit ?_;refine wl_yield (o := .mk ..) (.int .i64 (k + 1 : Nat)) (yl_addI (by rfl) _ _ _ rfl (((k : Nat) : Int)) (1) (((k + 1 : Nat) : Int)) rfl rfl (by omega) (by omega) (by omega)) ?_;simp only [lp, lz];refine wl_yield (o := .mk ..) (.int .i64 (k + 1 : Nat)) (yl_move (by rfl) _ rfl _ rfl) ?_;simp only [lp, lz];refine wpList_nil ?_;show _ ∧ _;go_roundw
    case rel => exact ⟨k + 1, _, rfl, by omega, hown, tidied_step hA hkl hb (.inr ⟨.inl hq1, rfl⟩), D⟩
    case measure => simp [intOf]; omega
  ·refine wp_seq_k (fun K5 hK5 => ?_);refine wp_region_lit ?_;refine wl_yield (o := .mk ..) (.bool false) (yl_lssI (by rfl) _ _ _ rfl (((k : Nat) : Int)) (((cs.length : Nat) : Int)) false rfl rfl (decide_eq_false (by omega))) ?_;simp only [lp, lz];refine wpList_nil ?_;refine hK5 _ _ ?_;clear hK5 K5;refine wp_seq_k (fun K6 hK6 => ?_);refine wp_cond_false rfl ?_;refine wp_exit ?_;refine hK3 _ _ ?_;clear hK6 K6 hK3 K3;refine wp_seq_k (fun K7 hK7 => ?_);refine wp_region_lit ?_;refine wl_yield (o := .mk ..) (u3) (yl_move (by rfl) _ rfl _ rfl) ?_;simp only [lp, lz];refine wl_yield (o := .mk ..) (u3) (yl_assign (by rfl) _ rfl _ rfl) ?_;simp only [lp, lz];refine wpList_nil ?_;refine hK7 _ _ ?_;clear hK7 K7;refine wp_ret ?_;go_ret
   have ek : k = l.length := by rw [← ha.1]; omega
   rw [ek, List.take_length] at hA;exact ⟨⟨_, _, rfl, hown, hA.on D⟩, D⟩
end Go.Proofs.YtlkcjhcmkaddaaaGreat
