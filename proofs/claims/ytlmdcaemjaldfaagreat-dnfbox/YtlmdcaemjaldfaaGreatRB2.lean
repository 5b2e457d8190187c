import Derived.Test.YtlmdcaemjaldfaaGreatRB1
import Derived.Deep.CutRange
import Derived.Test.YtlmdcaemjaldfaaGreatRows
import Derived.WalkKit
import Derived.WalkSpells
import Derived.WalkLawsBesides
import Derived.WalkSmall
import Derived.Lib.SmallJoins
import Derived.Lib.Bytealg
import Derived.Lib.UnsafeStr
import Derived.Lib.ItoaLen
import Derived.Lib.Slices
import Derived.Laws.IdiomStrings
import Derived.Laws.OwnMore
import Derived.OwnWalk
import Derived.BigCall
import Derived.Deep.RegionHeld3
import Derived.Deep.AppendLies
import Derived.Deep.DrawnRows
import Derived.Lib.AppendIntMem
import Derived.Deep.QuietTactic
import Derived.BigQuiet
import Derived.Lib.QuietBelow
import Derived.ProofKit
import Derived.Lib.BufferWrite
import Derived.Laws.MakeOwn
import Derived.Laws.DeepStrings4
import Derived.RangeFuncNested
import Derived.RangeFuncBound
import Derived.RangeFuncCalls
import Derived.RangeFuncLeaves
import Derived.Shelf.Abstract
import Derived.Shelf.RegionOpen
import Derived.OwnWalkIn
import Derived.TacticsInMore
import Derived.LoopNIn
import Derived.LoopIn
import Derived.Lib.MinMax
set_option linter.unusedSimpArgs false
set_option linter.unusedVariables false
namespace Go.Proofs.YtlmdcaemjaldfaaGreat
open Go.RowKit
set_option maxHeartbeats 8000000 in
set_option maxRecDepth 100000 in
theorem copied_any : ∀ (n : Nat) (x : ExV) (c : EC) (w : World), ExAt n w c.val x → cpX n x →
  Calls Tryz.prog 101 #[c.val] w fun r w' => (∃ d : EC, r = .returned d.val ∧ ∀ w'', Kept w.heap.size w' w'' → ExAt n w'' d.val x) ∧ Below w.heap.size w w' := by
 intro n
 induction n with
 | zero => intro x c w h; cases h
 | succ n ih =>
  intro x c w hx hcp;obtain ⟨c', hv, hc, hs⟩ := id hx;obtain rfl := ec_inj hv;have : Inhabited EC := ⟨ec0⟩
  obtain ⟨es, hes⟩ := Go.Deep.choose_lt (p := fun i d => (∃ g off, c.p = some ⟨g, off, none⟩ ∧ g < w.heap.size ∧ EcAt w g (off + i * 7) d) ∧ ExAt n w d.val (x.sub.getD i noX)) (fun i hi => by
   obtain ⟨g, off, d, hp, hg, hd, hy⟩ := hs i hi;exact ⟨d, ⟨g, off, hp, hg, hd⟩, hy⟩)
  have HC := hide hc;have HES := hide hes;have HN := hide hc.n;have HCP := hide hcp;have IH := hide ih;have T0 := hide (Pair.new w (exObj c) (exObj ec0));have nle : c.n ≤ 1000 := by rw [hc.n]; exact hcp.2.2.1
  clear hx hv hc hs hes hcp ih;unfold exObj ec0 SC.zero at T0;unfold EC.val;go_enter Tryz.func101, Tryz.ntmps101
  go_wp2_with fail
  generalize (w.alloc (Obj.cells #[.int .i64 c.k, .int .i64 c.t, .bool c.s.a, .slice c.s.p c.s.n c.s.c, .bool c.s.d, .slice c.s.q c.s.m c.s.e, .slice c.p c.n c.c] 28)).alloc (Obj.cells #[.int .i64 0, .int .i64 0, .bool false, .slice none 0 0, .bool false, .slice none 0 0, .slice none 0 0] 28) = W0 at T0 ⊢;refine (copiedSet_any c.s x.set W0 (HC.out.s.on T0.out.b) (by have := HCP.out.1; omega) (by have := HCP.out.2.1; omega)).mono ?_;rintro r w1 ⟨⟨y, rfl, hY⟩, b1⟩;have T1 := hide (T0.out.on b1);have HY := hide hY;have K1 := hide T0.out.size;have K0 := hide b1.size;obtain ⟨c0, c1, c2, c3, c4, c5, c6⟩ := ecCells1 T1.out.e1;have z2 := soft_heap T1.out.e1 2;have z3 := soft_heap T1.out.e1 3;have z4 := soft_heap T1.out.e1 4;have z5 := soft_heap T1.out.e1 5;have T2 : Hid (Pair w ((((w1.setCell ⟨w.heap.size, 2, none⟩ (.bool y.a)).setCell ⟨w.heap.size, 3, none⟩ (.slice y.p y.n y.c)).setCell ⟨w.heap.size, 4, none⟩ (.bool y.d)).setCell ⟨w.heap.size, 5, none⟩ (.slice y.q y.m y.e)) (.cells #[.int .i64 c.k, .int .i64 c.t, .bool y.a, .slice y.p y.n y.c, .bool y.d, .slice y.q y.m y.e, .slice c.p c.n c.c] 28 (0, 0)) (.cells #[.int .i64 0, .int .i64 0, .bool false, .slice none 0 0, .bool false, .slice none 0 0, .slice none 0 0] 28 (0, 0))) := hide ((((T1.out.put1 2 (.bool y.a)).put1 3 (.slice y.p y.n y.c)).put1 4 (.bool y.d)).put1 5 (.slice y.q y.m y.e));have K2 := hide ((((Kept.setCell w1 w.heap.size 2 (.bool y.a) (m := W0.heap.size) (by have := K1.out; omega)).trans (Kept.setCell _ w.heap.size 3 (.slice y.p y.n y.c) (by have := K1.out; omega))).trans (Kept.setCell _ w.heap.size 4 (.bool y.d) (by have := K1.out; omega))).trans (Kept.setCell _ w.heap.size 5 (.slice y.q y.m y.e) (by have := K1.out; omega)));have L2 := hide (show w1.heap.size = ((((w1.setCell ⟨w.heap.size, 2, none⟩ (.bool y.a)).setCell ⟨w.heap.size, 3, none⟩ (.slice y.p y.n y.c)).setCell ⟨w.heap.size, 4, none⟩ (.bool y.d)).setCell ⟨w.heap.size, 5, none⟩ (.slice y.q y.m y.e)).heap.size by simp);clear hY b1 T0;unfold SC.val
  go_upto_region 2 with fail
  generalize (((w1.setCell ⟨w.heap.size, 2, none⟩ (.bool y.a)).setCell ⟨w.heap.size, 3, none⟩ (.slice y.p y.n y.c)).setCell ⟨w.heap.size, 4, none⟩ (.bool y.d)).setCell ⟨w.heap.size, 5, none⟩ (.slice y.q y.m y.e) = w2 at T2 K2 L2 ⊢;clear c0 c1 c2 c3 c4 c5 c6 z2 z3 z4 z5 T1;obtain ⟨c0, c1, c2, c3, c4, c5, c6⟩ := ecCells1 T2.out.e1
  go_wp2_with fail
  refine (cloneX_new c.p c.n c.c es w2 nle HC.out.none (fun j hj => ?_)).mono ?_
  ·obtain ⟨⟨g, off, hp, hg, hd⟩, _⟩ := HES.out j (by rw [← HN.out]; exact hj);exact ⟨g, off, hp, hd.on hg T2.out.b⟩
  rintro r w3 ⟨⟨p, k, rfl, hk1, hk2, hk3, hrow⟩, b3⟩;have T3 := hide (T2.out.on b3);have e1 : w3.heap[w.heap.size]? = some (.cells #[.int .i64 c.k, .int .i64 c.t, .bool y.a, .slice y.p y.n y.c, .bool y.d, .slice y.q y.m y.e, .slice c.p c.n c.c] 28 (0, 0)) := T3.out.e1;clear c0 c1 c2 c3 c4 c5 c6;obtain ⟨c0, c1, c2, c3, c4, c5, c6⟩ := ecCells1 e1;have z6 := soft_heap e1 6;have T4 : Hid (Pair w (w3.setCell ⟨w.heap.size, 6, none⟩ (.slice p c.n k)) (.cells #[.int .i64 c.k, .int .i64 c.t, .bool y.a, .slice y.p y.n y.c, .bool y.d, .slice y.q y.m y.e, .slice (p) c.n k] 28 (0, 0)) (.cells #[.int .i64 0, .int .i64 0, .bool false, .slice none 0 0, .bool false, .slice none 0 0, .slice none 0 0] 28 (0, 0))) := hide (T3.out.put1 6 (.slice p c.n k));have KW := hide ((K2.out.trans (Kept.ofBelow b3)).trans (Kept.setCell w3 w.heap.size 6 (.slice p c.n k) (m := W0.heap.size) (by have := K1.out; omega)));have HROW : Hid (0 < c.n → ∃ b, p = some ⟨b, 0, none⟩ ∧ w1.heap.size ≤ b ∧ b < (w3.setCell ⟨w.heap.size, 6, none⟩ (.slice p c.n k)).heap.size ∧ RowX (w3.setCell ⟨w.heap.size, 6, none⟩ (.slice p c.n k)) b c.n es) := hide (fun h => by
   obtain ⟨b, e, hb1, hb2, hb3⟩ := hrow h;refine ⟨b, e, by rw [L2.out]; exact hb1, by simpa using hb2, hb3.ofBlock (Below.heap_setCell _ _ _ b (fun e => ?_))⟩;have := T2.out.size;dsimp only at e;omega)
  have HK3 := hide hk3;clear hrow b3 T2 T3 e1 hk3 L2 K2
  go_upto_region 3 with fail
  generalize w3.setCell ⟨w.heap.size, 6, none⟩ (.slice p c.n k) = w4 at T4 KW HROW ⊢;clear c0 c1 c2 c3 c4 c5 c6 z6;obtain ⟨c0, c1, c2, c3, c4, c5, c6⟩ := ecCells1 T4.out.e1;rcases Nat.eq_zero_or_pos c.n with hz | hpos
  ·have HZ := hide hz;clear hz
   go_wp2
   go_loopw [16] (fun i wr => ∃ j : Nat, i = .int .i64 j ∧ wr = w4) (fun i _ => 0)
   case atStart => exact ⟨0, rfl, rfl⟩
   case round =>
    obtain ⟨j, rfl, rfl⟩ := hrel;have hlt : ¬ j < c.n := by have := HZ.out; omega
    have hge : decide ((j : Int) < (c.n : Int)) = false := by simp; omega
    clear c0 c1 c2 c3 c4 c5 c6;obtain ⟨c0, c1, c2, c3, c4, c5, c6⟩ := ecCells1 T4.out.e1;obtain ⟨d0, d1, d2, d3, d4, d5, d6⟩ := ecCells1 T4.out.e2;have z0 := soft_heap T4.out.e2 0;have z1 := soft_heap T4.out.e2 1;have z2 := soft_heap T4.out.e2 2;have z3 := soft_heap T4.out.e2 3;have z4 := soft_heap T4.out.e2 4;have z5 := soft_heap T4.out.e2 5;have z6 := soft_heap T4.out.e2 6;have T5 : Hid (Pair w (((((((wr.setCell ⟨w.heap.size + 1, 0, none⟩ (.int .i64 c.k)).setCell ⟨w.heap.size + 1, 1, none⟩ (.int .i64 c.t)).setCell ⟨w.heap.size + 1, 2, none⟩ (.bool y.a)).setCell ⟨w.heap.size + 1, 3, none⟩ (.slice y.p y.n y.c)).setCell ⟨w.heap.size + 1, 4, none⟩ (.bool y.d)).setCell ⟨w.heap.size + 1, 5, none⟩ (.slice y.q y.m y.e)).setCell ⟨w.heap.size + 1, 6, none⟩ (.slice (p) c.n k)) (.cells #[.int .i64 c.k, .int .i64 c.t, .bool y.a, .slice y.p y.n y.c, .bool y.d, .slice y.q y.m y.e, .slice (p) c.n k] 28 (0, 0)) (.cells #[.int .i64 c.k, .int .i64 c.t, .bool y.a, .slice y.p y.n y.c, .bool y.d, .slice y.q y.m y.e, .slice (p) c.n k] 28 (0, 0))) := hide (((((((T4.out.put2 0 (.int .i64 c.k)).put2 1 (.int .i64 c.t)).put2 2 (.bool y.a)).put2 3 (.slice y.p y.n y.c)).put2 4 (.bool y.d)).put2 5 (.slice y.q y.m y.e)).put2 6 (.slice (p) c.n k));have K5 := hide (((((((Kept.setCell wr (w.heap.size + 1) 0 (.int .i64 c.k) (m := W0.heap.size) K1.out).trans (Kept.setCell _ (w.heap.size + 1) 1 (.int .i64 c.t) K1.out)).trans (Kept.setCell _ (w.heap.size + 1) 2 (.bool y.a) K1.out)).trans (Kept.setCell _ (w.heap.size + 1) 3 (.slice y.p y.n y.c) K1.out)).trans (Kept.setCell _ (w.heap.size + 1) 4 (.bool y.d) K1.out)).trans (Kept.setCell _ (w.heap.size + 1) 5 (.slice y.q y.m y.e) K1.out)).trans (Kept.setCell _ (w.heap.size + 1) 6 (.slice (p) c.n k) K1.out))
    go_wp2
    refine bodyPost_ret (results_cell_row rfl _ _ (w.heap.size + 1) 28 _ (0, 0) _ rfl T5.out.e2 Tryz.underlying28 rfl infoEx) rfl ⟨⟨⟨c.k, c.t, y, p, c.n, k⟩, rfl, fun w'' hk => ?_⟩, T5.out.b⟩;have hk' := K5.out.trans (hk.mono (m' := W0.heap.size) (by have := K1.out; omega));refine ⟨⟨c.k, c.t, y, p, c.n, k⟩, rfl, ⟨HC.out.k, HC.out.t, HC.out.n, HC.out.k0, HC.out.k1, HC.out.t0, HC.out.t1, HY.out w'' (KW.out.trans hk'), hk1, hk2, HK3.out⟩, fun i hi => ?_⟩;have := HZ.out;have h2 := HN.out;omega
  ·obtain ⟨b, rfl, hb1, hb2, hb3⟩ := HROW.out hpos;have HB1 := hide hb1;have R4 : Hid (b < w4.heap.size ∧ RowX w4 b c.n es) := hide ⟨hb2, hb3⟩;clear HROW hb1 hb2 hb3
   go_wp2
   go_loopw [16] (fun i wr => ∃ (j : Nat) (fs : Nat → EC), i = .int .i64 j ∧ j ≤ c.n ∧ Hid (Pair w wr (.cells #[.int .i64 c.k, .int .i64 c.t, .bool y.a, .slice y.p y.n y.c, .bool y.d, .slice y.q y.m y.e, .slice (some ⟨b, 0, none⟩) c.n k] 28 (0, 0)) (.cells #[.int .i64 0, .int .i64 0, .bool false, .slice none 0 0, .bool false, .slice none 0 0, .slice none 0 0] 28 (0, 0))) ∧ Hid (Kept W0.heap.size w1 wr) ∧ Hid (b < wr.heap.size ∧ RowX wr b c.n fs) ∧ Hid (∀ m, m < j → ∀ w'', Kept (b + 1) wr w'' → ExAt n w'' (fs m).val (x.sub.getD m noX)) ∧ Hid (∀ m, j ≤ m → m < c.n → fs m = es m)) (fun i _ => c.n - (intOf i).toNat)
   case atStart => exact ⟨0, es, rfl, by omega, T4, KW, R4, hide (fun m h => by omega), hide (fun _ _ _ => rfl)⟩
   case round =>
    clear c0 c1 c2 c3 c4 c5 c6 T4 KW R4;obtain ⟨j, fs, rfl, hj, T4, KW, R4, HD, HO⟩ := hrel;by_cases hlt : j < c.n
    ·obtain ⟨d0, d1, d2, d3, d4, d5, d6⟩ := R4.out.2.els j hlt;have HEX : Hid (ExAt n w (fs j).val (x.sub.getD j noX)) := hide (by
      rw [HO.out j (Nat.le_refl _) hlt];exact (HES.out j (by rw [← HN.out]; exact hlt)).2)
     have HCJ : Hid (cpX n (x.sub.getD j noX)) := hide (HCP.out.2.2.2 _ (getD_mem (by rw [← HN.out]; exact hlt)));obtain ⟨d, hd⟩ : ∃ d, d = fs j := ⟨_, rfl⟩
     rw [← hd] at d0 d1 d2 d3 d4 d5 d6 HEX;clear hd;have bA := (Below.refl _ wr).alloc (Nat.le_refl _) (exObj d);have TA := hide (T4.out.on bA);have XA := hide (show ExIn (wr.alloc (exObj d)) wr.heap.size d from heap_new wr _);have RA := hide (R4.out.2.ofBlock (bA.block b R4.out.1));have sA := hide (show (wr.alloc (exObj d)).heap.size = wr.heap.size + 1 by simp);have BA := hide bA;clear bA;unfold exObj at TA XA RA sA BA
     go_upto_region 6 with fail
     generalize wr.alloc (Obj.cells #[.int .i64 d.k, .int .i64 d.t, .bool d.s.a, .slice d.s.p d.s.n d.s.c, .bool d.s.d, .slice d.s.q d.s.m d.s.e, .slice d.p d.n d.c] 28) = wa at TA XA RA sA BA ⊢;clear d0 d1 d2 d3 d4 d5 d6;obtain ⟨c0, c1, c2, c3, c4, c5, c6⟩ := ecCells1 TA.out.e1;refine wp_region_held_drew (S := fun w' => w'.cell? ⟨w.heap.size, 6, none⟩ = some (.slice (some ⟨b, 0, none⟩) c.n k) ∧ ExIn w' wr.heap.size d) (by kernel_rfl) ⟨c6, XA.out⟩ (fun hHeld => ?_);have BD := hide (show Below wa.heap.size wa wa.drew from (Below.refl _ wa).drew);generalize wa.drew = wd at BD hHeld ⊢;refine wpAnyH_take (i := 0) (oi := .mk ..) (v := .pointer (some ⟨w.heap.size, 6, none⟩)) rfl (by kernel_rfl) (by kernel_rfl) (by kernel_rfl) (fun _ _ _ h => h) (yl_exSub (by rfl) _ rfl _ rfl) (by assumption) ?_;simp only [Act.put, lz];refine wpAnyH_take (i := 1) (oi := .mk ..) (v := .slice (some ⟨b, 0, none⟩) c.n k) rfl (by kernel_rfl) (by kernel_rfl) (by kernel_rfl) (fun _ _ _ h => h) (yl_exRow (by rfl) _ rfl _ 6 rfl _ _ _ (fun _ h => h.1)) (by assumption) ?_;simp only [Act.put, lz];refine wpAnyH_take (i := 2) (oi := .mk ..) (v := .int .i64 j) rfl (by kernel_rfl) (by kernel_rfl) (by kernel_rfl) (fun _ _ _ h => h) (yl_move (by rfl) _ rfl _ rfl) (by assumption) ?_;simp only [Act.put, lz];refine wpAnyH_take (i := 3) (oi := .mk ..) (v := d.val) rfl (by kernel_rfl) (by kernel_rfl) (by kernel_rfl) (fun _ _ _ h => h) (yl_ex (by rfl) _ rfl _ 0 rfl d (fun _ h => h.2.ec)) (by assumption) ?_;simp only [Act.put, lz];refine held_call (o := .mk ..) 4 (by kernel_rfl) rfl (by rfl) 101 _ _ rfl #[d.val] rfl (run_call Tryz.func101 (by kernel_rfl) (by kernel_rfl)) ?_;have TD := hide (TA.out.on BD.out);refine (IH.out (x.sub.getD j noX) d wd (ExAt.on TD.out.b _ HEX.out) HCJ.out).mono ?_;rintro r w5 ⟨⟨d', rfl, hN⟩, b5⟩;have s5 : wr.heap.size + 1 ≤ wd.heap.size := by have h1 := BD.out.size; have h2 := sA.out; omega
     refine ⟨d'.val, rfl, ⟨(b5.cell (p := ⟨w.heap.size, 6, none⟩) (by have := TD.out.size; dsimp only; omega)).trans hHeld.1, hHeld.2.on b5⟩, fun hHeld => ?_⟩;simp only [Act.put, lz];have T5 := hide (TD.out.on b5);have bw : b < wd.heap.size := by have h1 := R4.out.1; omega
     have R5 := RA.out.ofBlock (BD.out.block b (by have h1 := R4.out.1; have h2 := sA.out; omega));replace R5 := R5.ofBlock (b5.block b bw);refine wpAnyH_take (i := 5) (oi := .mk ..) (v := .pointer (some ⟨b, j * 7, none⟩)) rfl (by kernel_rfl) (by kernel_rfl) (by kernel_rfl) (fun _ _ _ h => h) (yl_exAt (by rfl) _ _ rfl b c.n k j rfl rfl hlt) (by assumption) ?_;simp only [Act.put, lz];refine wpAnyH_all (rs := [6]) (by kernel_rfl) (by simp) ?_;intro jj hj';have hj' := List.mem_singleton.1 hj';subst hj';refine op_storeEx (o := .mk ..) rfl (by rfl) _ _ rfl b (j * 7) d' rfl rfl (R5.there j hlt) ?_;have R6 := R5.put j hlt d';have h0 := HB1.out;have hK0 := K0.out;have hK1 := K1.out;have b6 := Below.setCells (B := w.heap.size) (w0 := w) b (by omega) d'.list (j * 7) w5 T5.out.b;have T6 : Hid (Pair w (w5.setCells b (j * 7) d'.list) _ _) := hide ⟨(World.heap_setCells_other w5 b (j * 7) d'.list (by have := T5.out.size; omega) (by omega)).trans T5.out.e1, (World.heap_setCells_other w5 b (j * 7) d'.list T5.out.size (by omega)).trans T5.out.e2, b6⟩;have k5 : Kept W0.heap.size wr w5 := ((Kept.ofBelow BA.out).trans (Kept.ofBelow BD.out)).trans (Kept.ofBelow b5);have kb6 : Kept (b + 1) w5 (w5.setCells b (j * 7) d'.list) := Kept.setCells w5 (j * 7) d'.list (by omega);have KW6 : Hid (Kept W0.heap.size w1 (w5.setCells b (j * 7) d'.list)) := hide ⟨by rw [size_setCells]; exact Nat.le_trans KW.out.size k5.size, fun g hg hs => by
      rw [World.heap_setCells_other w5 b (j * 7) d'.list (Nat.lt_of_lt_of_le hs (Nat.le_trans KW.out.size k5.size)) (by omega), k5.block g hg (Nat.lt_of_lt_of_le hs KW.out.size)];exact KW.out.block g hg hs⟩
     have HD6 : Hid (∀ m, m < j + 1 → ∀ w'', Kept (b + 1) (w5.setCells b (j * 7) d'.list) w'' → ExAt n w'' ((fun i => if i = j then d' else fs i) m).val (x.sub.getD m noX)) := hide (fun m hm w'' hk => by
      have hk2 := kb6.trans hk;by_cases e : m = j
      ·subst e;simp only [if_pos];exact hN w'' (hk2.mono (by have := R4.out.1; omega))
      ·simp only [if_neg e];exact HD.out m (by omega) w'' ((k5.mono (by omega)).trans hk2))
     have HO6 : Hid (∀ m, j + 1 ≤ m → m < c.n → (fun i => if i = j then d' else fs i) m = es m) := hide (fun m hm hl => by
      dsimp only;rw [if_neg (by omega)];exact HO.out m (by omega) hl)
     have s6 : b < (w5.setCells b (j * 7) d'.list).heap.size := by rw [size_setCells]; have := b5.size; omega
     have R7 := hide (And.intro s6 R6);have hS6 : (w5.setCells b (j * 7) d'.list).cell? ⟨w.heap.size, 6, none⟩ = some (.slice (some ⟨b, 0, none⟩) c.n k) ∧ ExIn (w5.setCells b (j * 7) d'.list) wr.heap.size d := ⟨(ecCells1 T6.out.e1).2.2.2.2.2.2, (World.heap_setCells_other w5 b (j * 7) d'.list (lt_heap hHeld.2) (by have h1 := R4.out.1; omega)).trans hHeld.2⟩
     refine ⟨hS6, ?_⟩;simp only [Act.put, lz];refine wpAnyH_done (by kernel_rfl) ?_ _;clear hHeld hS6 R6 R5 b6 k5 kb6 s6 bw s5 h0 hK0 hK1 TD T5 b5 hN BD TA XA RA sA BA c0 c1 c2 c3 c4 c5 c6 HEX HCJ HD HO R4 KW T4;generalize w5.setCells b (j * 7) d'.list = w6 at T6 KW6 HD6 R7 ⊢
     go_wp2
     exact ⟨⟨j + 1, _, by go_num, by omega, T6, KW6, R7, HD6, HO6⟩, by simp [intOf]; omega⟩
    ·have hge : decide ((j : Int) < (c.n : Int)) = false := by simp; omega
     obtain ⟨c0, c1, c2, c3, c4, c5, c6⟩ := ecCells1 T4.out.e1;obtain ⟨d0, d1, d2, d3, d4, d5, d6⟩ := ecCells1 T4.out.e2;have z0 := soft_heap T4.out.e2 0;have z1 := soft_heap T4.out.e2 1;have z2 := soft_heap T4.out.e2 2;have z3 := soft_heap T4.out.e2 3;have z4 := soft_heap T4.out.e2 4;have z5 := soft_heap T4.out.e2 5;have z6 := soft_heap T4.out.e2 6;have T5 : Hid (Pair w (((((((wr.setCell ⟨w.heap.size + 1, 0, none⟩ (.int .i64 c.k)).setCell ⟨w.heap.size + 1, 1, none⟩ (.int .i64 c.t)).setCell ⟨w.heap.size + 1, 2, none⟩ (.bool y.a)).setCell ⟨w.heap.size + 1, 3, none⟩ (.slice y.p y.n y.c)).setCell ⟨w.heap.size + 1, 4, none⟩ (.bool y.d)).setCell ⟨w.heap.size + 1, 5, none⟩ (.slice y.q y.m y.e)).setCell ⟨w.heap.size + 1, 6, none⟩ (.slice (some ⟨b, 0, none⟩) c.n k)) (.cells #[.int .i64 c.k, .int .i64 c.t, .bool y.a, .slice y.p y.n y.c, .bool y.d, .slice y.q y.m y.e, .slice (some ⟨b, 0, none⟩) c.n k] 28 (0, 0)) (.cells #[.int .i64 c.k, .int .i64 c.t, .bool y.a, .slice y.p y.n y.c, .bool y.d, .slice y.q y.m y.e, .slice (some ⟨b, 0, none⟩) c.n k] 28 (0, 0))) := hide (((((((T4.out.put2 0 (.int .i64 c.k)).put2 1 (.int .i64 c.t)).put2 2 (.bool y.a)).put2 3 (.slice y.p y.n y.c)).put2 4 (.bool y.d)).put2 5 (.slice y.q y.m y.e)).put2 6 (.slice (some ⟨b, 0, none⟩) c.n k));have K5 := hide (((((((Kept.setCell wr (w.heap.size + 1) 0 (.int .i64 c.k) (m := W0.heap.size) K1.out).trans (Kept.setCell _ (w.heap.size + 1) 1 (.int .i64 c.t) K1.out)).trans (Kept.setCell _ (w.heap.size + 1) 2 (.bool y.a) K1.out)).trans (Kept.setCell _ (w.heap.size + 1) 3 (.slice y.p y.n y.c) K1.out)).trans (Kept.setCell _ (w.heap.size + 1) 4 (.bool y.d) K1.out)).trans (Kept.setCell _ (w.heap.size + 1) 5 (.slice y.q y.m y.e) K1.out)).trans (Kept.setCell _ (w.heap.size + 1) 6 (.slice (some ⟨b, 0, none⟩) c.n k) K1.out))
     go_wp2
     refine bodyPost_ret (results_cell_row rfl _ _ (w.heap.size + 1) 28 _ (0, 0) _ rfl T5.out.e2 Tryz.underlying28 rfl infoEx) rfl ⟨⟨⟨c.k, c.t, y, some ⟨b, 0, none⟩, c.n, k⟩, rfl, fun w'' hk => ?_⟩, T5.out.b⟩;have hk' := K5.out.trans (hk.mono (m' := W0.heap.size) (by have := K1.out; omega));refine ⟨⟨c.k, c.t, y, some ⟨b, 0, none⟩, c.n, k⟩, rfl, ⟨HC.out.k, HC.out.t, HC.out.n, HC.out.k0, HC.out.k1, HC.out.t0, HC.out.t1, HY.out w'' (KW.out.trans hk'), hk1, hk2, HK3.out⟩, fun i hi => ?_⟩;have hi' : i < c.n := by rw [HN.out]; exact hi
     have kb : b < w''.heap.size := by have h1 := hk'.size; have h2 := R4.out.1; omega
     have blk : w''.heap[b]? = wr.heap[b]? := hk'.block b (by have h1 := HB1.out; have h2 := K0.out; omega) R4.out.1;refine ⟨b, 0, fs i, rfl, kb, ?_, HD.out i (by omega) w'' (hk'.mono (by have h1 := HB1.out; have h2 := K0.out; omega))⟩;rw [Nat.zero_add];exact (R4.out.2.els i hi').ofBlock blk
end Go.Proofs.YtlmdcaemjaldfaaGreat
namespace Go.Proofs.YtlmdcaemjaldfaaGreat
open Go.RowKit
def RowsX (n : Nat) (w : World) (v : Value) (l : List ExV) : Prop :=
 ∃ (p : Option Addr) (k : Nat), v = .slice p l.length k ∧ l.length ≤ k ∧ k ≤ 9223372036854775807 ∧ (p = none → l.length = 0 ∧ k = 0) ∧
  ∀ i, i < l.length → ∃ (g off : Nat) (d : EC), p = some ⟨g, off, none⟩ ∧ g < w.heap.size ∧ EcAt w g (off + i * 7) d ∧ ExAt n w d.val (l.getD i noX)
theorem RowsX.on {n : Nat} {w w' : World} {v : Value} {l : List ExV} (h : RowsX n w v l) (hb : Below w.heap.size w w') : RowsX n w' v l := by
 obtain ⟨p, k, e, h1, h2, h3, h4⟩ := h;refine ⟨p, k, e, h1, h2, h3, fun i hi => ?_⟩;obtain ⟨g, off, d, hp, hg, hd, hx⟩ := h4 i hi;exact ⟨g, off, d, hp, Nat.lt_of_lt_of_le hg hb.size, hd.on hg hb, ExAt.on hb n hx⟩
theorem RowsX.nil (n : Nat) (w : World) : RowsX n w (.slice none 0 0) [] := ⟨none, 0, rfl, by simp, by omega, fun _ => ⟨rfl, rfl⟩, fun i h => by simp at h⟩
set_option maxHeartbeats 4000000 in
set_option maxRecDepth 100000 in
theorem roomLeft_any : ∀ (n : Nat) (x : ExV) (c : EC) (w : World) (z : Int), ExAt n w c.val x → cpX n x → 0 ≤ z → z ≤ 1024 →
  Calls Tryz.prog 100 #[.int .i64 z, .slice c.p c.n c.c] w fun r w' => (∃ y : Int, r = .returned (.int .i64 y) ∧ -1000 ≤ y ∧ y ≤ 1024) ∧ Below w.heap.size w w' := by
 intro n
 induction n with
 | zero => intro x c w z h; cases h
 | succ n ih =>
  intro x c w z hx hcp z0 z1;obtain ⟨c', hv, hc, hs⟩ := id hx;obtain rfl := ec_inj hv;have HX := hide hx;have HI := hide ih;have HN := hide hc.n;have HCP := hide hcp;have nle : c.n ≤ 1000 := by rw [hc.n]; exact hcp.2.2.1
  clear hx hv hc hs hcp ih;go_enter Tryz.func100, Tryz.ntmps100
  go_wp2
  go_loopw [0, 12] (fun a i wr => ∃ (k : Nat) (y : Int), a = .int .i64 y ∧ i = .int .i64 k ∧ k ≤ c.n ∧ -1000 ≤ y ∧ y ≤ 1024 ∧ Hid (Below w.heap.size w wr)) (fun _ i _ => c.n - (intOf i).toNat)
  case atStart => exact ⟨0, z - c.n, rfl, rfl, by omega, by omega, by omega, hide (Below.refl _ _)⟩
  case round =>
   obtain ⟨k, y, rfl, rfl, hk, y0, y1, HB⟩ := hrel;by_cases hlt : k < c.n
   ·by_cases hy : y < 0
    ·have dy : decide (y < 0) = true := decide_eq_true hy
     go_wp2
     go_ret
     exact ⟨⟨y, rfl, y0, y1⟩, HB.out⟩
    ·have dy : decide (y < 0) = false := decide_eq_false hy;have hk' : k < x.sub.length := by rw [← HN.out]; exact hlt
     obtain ⟨g, off, d, hp, hg, hd, hyy⟩ := (ExAt.on HB.out _ HX.out).part k hk';have X := hide (HI.out _ d wr y hyy (HCP.out.2.2.2 _ (getD_mem hk')) (by omega) y1);have d6 := hd.c6;clear hyy HX HI hd;rw [hp]
     go_wp2_with fail
     refine (unhide X).mono ?_;rintro r w2 ⟨⟨y', rfl, q0, q1⟩, b2⟩;have HB2 := hide (HB.out.trans (b2.mono HB.out.size));clear X b2 HB d6
     go_wp2
     exact ⟨⟨k + 1, y', rfl, by go_num, by omega, q0, q1, HB2⟩, by simp [intOf]; omega⟩
   ·have hge : decide ((k : Int) < (c.n : Int)) = false := by simp; omega
    go_wp2
    go_ret
    exact ⟨⟨y, rfl, y0, y1⟩, HB.out⟩
def RowsY (n : Nat) (w0 w : World) (v : Value) (l : List ExV) : Prop :=
 ∃ (p : Option Addr) (k : Nat), v = .slice p l.length k ∧ (p = none → l.length = 0 ∧ k = 0) ∧
  ∀ i, i < l.length → ∃ (g off : Nat) (d : EC), p = some ⟨g, off, none⟩ ∧ EcAt w g (off + i * 7) d ∧ ExAt n w0 d.val (l.getD i noX)
theorem RowsX.y {n : Nat} {w w' : World} {v : Value} {l : List ExV} (h : RowsX n w v l) (hb : Below w.heap.size w w') : RowsY n w w' v l := by
 obtain ⟨p, k, e, h1, h2, h3, h4⟩ := h;refine ⟨p, k, e, h3, fun i hi => ?_⟩;obtain ⟨g, off, d, hp, hg, hd, hx⟩ := h4 i hi;exact ⟨g, off, d, hp, hd.on hg hb, hx⟩
theorem RowsY.grow {n : Nat} {w0 w w' : World} {v : Value} {l : List ExV} (h : RowsY n w0 w v l) (hb : Below w.heap.size w w') : RowsY n w0 w' v l := by
 obtain ⟨p, k, e, h3, h4⟩ := h;refine ⟨p, k, e, h3, fun i hi => ?_⟩;obtain ⟨g, off, d, hp, hd, hx⟩ := h4 i hi;exact ⟨g, off, d, hp, hd.on (lt_cell (a := ⟨g, _, none⟩) hd.c0) hb, hx⟩
set_option maxHeartbeats 8000000 in
set_option maxRecDepth 100000 in
theorem copiedList_any (n : Nat) (v : Value) (l : List ExV) (w0 w : World) (hv : RowsY n w0 w v l) (hb0 : Below w0.heap.size w0 w) (hl : l.length ≤ 1000) (hcp : ∀ y ∈ l, cpX n y) :
  Calls Tryz.prog 52 #[v] w fun r w' => (∃ u, r = .returned u ∧ ∀ w'', Kept w.heap.size w' w'' → Below w0.heap.size w0 w'' → RowsX n w'' u l) ∧ Below w.heap.size w w' := by
 have HB0 : Hid (∀ W, Below w.heap.size w W → Below w0.heap.size w0 W) := hide (fun W h => hb0.trans (h.mono hb0.size));obtain ⟨p, cc, rfl, h3, h4⟩ := hv;have : Inhabited EC := ⟨ec0⟩
 obtain ⟨es, hes⟩ := Go.Deep.choose_lt (p := fun i d => (∃ g off, p = some ⟨g, off, none⟩ ∧ EcAt w g (off + i * 7) d) ∧ ExAt n w0 d.val (l.getD i noX)) (fun i hi => by
  obtain ⟨g, off, d, hp, hd, hy⟩ := h4 i hi;exact ⟨d, ⟨g, off, hp, hd⟩, hy⟩)
 have HES := hide hes;have HCP := hide hcp;obtain ⟨N, hN⟩ : ∃ N, N = l.length := ⟨_, rfl⟩
 have X := hide (cloneX_new p N cc es w (by omega) (by rw [hN]; exact h3) (fun j hj => by
  obtain ⟨⟨g, off, hp, hd⟩, _⟩ := hes j (by omega);exact ⟨g, off, hp, hd⟩))
 rw [← hN] at hl ⊢;have HN := hide hN;clear h3 h4 hes hcp hN hb0;go_enter Tryz.func52, Tryz.ntmps52
 go_wp2_with fail
 refine (unhide X).mono ?_;rintro r w3 ⟨⟨q, k, rfl, hk1, hk2, hk3, hrow⟩, b3⟩;have B3 := hide b3;have HK3 := hide hk3;have HROW := hide hrow;clear X b3 hk3 hrow;rcases Nat.eq_zero_or_pos N with hz | hpos
 ·have HZ := hide hz;clear hz HROW
  go_wp2
  go_loopw [10] (fun i wr => ∃ j : Nat, i = .int .i64 j ∧ wr = w3) (fun i _ => 0)
  case atStart => exact ⟨0, rfl, rfl⟩
  case round =>
   obtain ⟨j, rfl, rfl⟩ := hrel;have hlt : ¬ j < N := by have := HZ.out; omega
   have hge : decide ((j : Int) < (N : Int)) = false := by simp; omega
   go_wp2
   go_ret
   refine ⟨⟨.slice q N k, rfl, fun w'' hkk hBB => ⟨q, k, by rw [← HN.out], by rw [← HN.out]; exact hk1, hk2, by rw [← HN.out]; exact HK3.out, fun i hi => ?_⟩⟩, B3.out⟩;have h1 := HZ.out;have h2 := HN.out;omega
 ·obtain ⟨b, rfl, hb1, hb2, hb3⟩ := HROW.out hpos;have HB1 := hide hb1;have R3 : Hid (b < w3.heap.size ∧ RowX w3 b N es) := hide ⟨hb2, hb3⟩;clear HROW hb1 hb2 hb3
  go_wp2
  go_loopw [10] (fun i wr => ∃ (j : Nat) (fs : Nat → EC), i = .int .i64 j ∧ j ≤ N ∧ Hid (Below w.heap.size w wr) ∧ Hid (b < wr.heap.size ∧ RowX wr b N fs) ∧ Hid (∀ m, m < j → ∀ w'', Kept (b + 1) wr w'' → Below w0.heap.size w0 w'' → ExAt n w'' (fs m).val (l.getD m noX)) ∧ Hid (∀ m, j ≤ m → m < N → fs m = es m)) (fun i _ => N - (intOf i).toNat)
  case atStart => exact ⟨0, es, rfl, by omega, B3, R3, hide (fun m h => by omega), hide (fun _ _ _ => rfl)⟩
  case round =>
   clear B3 R3;obtain ⟨j, fs, rfl, hj, B4, R4, HD, HO⟩ := hrel;by_cases hlt : j < N
   ·obtain ⟨d0, d1, d2, d3, d4, d5, d6⟩ := R4.out.2.els j hlt;have HEX : Hid (ExAt n w0 (fs j).val (l.getD j noX)) := hide (by
     rw [HO.out j (Nat.le_refl _) hlt];exact (HES.out j (by rw [← HN.out]; exact hlt)).2)
    have HCJ : Hid (cpX n (l.getD j noX)) := hide (HCP.out _ (getD_mem (by rw [← HN.out]; exact hlt)));obtain ⟨d, hd⟩ : ∃ d, d = fs j := ⟨_, rfl⟩
    rw [← hd] at d0 d1 d2 d3 d4 d5 d6 HEX;have HDD := hide hd;clear hd;have bA := (Below.refl _ wr).alloc (Nat.le_refl _) (exObj d);have DA := hide (B4.out.trans (bA.mono B4.out.size));have XA := hide (show ExIn (wr.alloc (exObj d)) wr.heap.size d from heap_new wr _);have RA := hide (R4.out.2.ofBlock (bA.block b R4.out.1));have sA := hide (show (wr.alloc (exObj d)).heap.size = wr.heap.size + 1 by simp);have BA := hide bA;clear bA;unfold exObj at DA XA RA sA BA
    go_upto_region 5 with fail
    generalize wr.alloc (Obj.cells #[.int .i64 d.k, .int .i64 d.t, .bool d.s.a, .slice d.s.p d.s.n d.s.c, .bool d.s.d, .slice d.s.q d.s.m d.s.e, .slice d.p d.n d.c] 28) = wa at DA XA RA sA BA ⊢;clear d0 d1 d2 d3 d4 d5 d6;obtain ⟨c0, c1, c2, c3, c4, c5, c6⟩ := ecCells1 XA.out
    go_wp2_with fail
    refine (roomLeft_any n (l.getD j noX) d wa 1024 (ExAt.on (HB0.out _ DA.out) _ HEX.out) HCJ.out (by omega) (by omega)).mono ?_;rintro r wd ⟨⟨y, rfl, y0, y1⟩, bD⟩;have BD := hide bD;have TD := hide (DA.out.trans (bD.mono DA.out.size));have XD := hide (XA.out.on bD);have sD : wr.heap.size + 1 ≤ wd.heap.size := by have h1 := bD.size; have h2 := sA.out; omega
    have RD := hide (RA.out.ofBlock (bD.block b (by have h1 := R4.out.1; have h2 := sA.out; omega)));have kd : Hid (Kept (b + 1) wr wd) := hide ((Kept.ofBelow BA.out).trans (Kept.ofBelow bD));clear bD c0 c1 c2 c3 c4 c5 c6 DA RA BA BD;by_cases hy : 0 ≤ y
    ·have dy : decide (0 ≤ y) = true := decide_eq_true hy
     go_upto_region 6 with fail
     refine wp_region_lit ?_;refine wl_yield (o := .mk ..) (.slice (some ⟨b, 0, none⟩) N k) (yl_move (by rfl) _ rfl _ rfl) ?_;simp only [Act.put, lz];refine wl_yield (o := .mk ..) (.int .i64 j) (yl_move (by rfl) _ rfl _ rfl) ?_;simp only [Act.put, lz];refine wl_yield (o := .mk ..) d.val (yl_ex (by rfl) _ rfl _ 0 rfl d (fun _ h => by subst h; exact XD.out.ec)) ?_;simp only [Act.put, lz];refine wl_call (o := .mk ..) (by rfl) 101 _ _ rfl #[d.val] rfl (run_call Tryz.func101 (by kernel_rfl) (by kernel_rfl)) ?_;refine (copied_any n (l.getD j noX) d wd (ExAt.on (HB0.out _ TD.out) _ HEX.out) HCJ.out).mono ?_;rintro r w5 ⟨⟨d', rfl, hN⟩, b5⟩;refine ⟨d'.val, rfl, ?_⟩;simp only [Act.put, lz];refine wl_yield (o := .mk ..) (.pointer (some ⟨b, j * 7, none⟩)) (yl_exAt (by rfl) _ _ rfl b N k j rfl rfl hlt) ?_;simp only [Act.put, lz];have T5 := hide (TD.out.trans (b5.mono TD.out.size));have bw : b < wd.heap.size := by have h1 := R4.out.1; omega
     have R5 := RD.out.ofBlock (b5.block b bw);refine wpList_store_mid (op := ⟨_, _, _, _, _, _⟩) rfl 28 _ _ rfl b (j * 7) d'.list.toArray rfl rfl (R5.there j hlt) (by rw [infoEx]; rfl) (all_oneCell_toArray d'.list_one) ?_;simp only [Act.put, lz];refine wpList_nil ?_;have R6 := R5.put j hlt d';have h0 := HB1.out;have T6 := hide (Below.setCells (B := w.heap.size) (w0 := w) b h0 d'.list (j * 7) w5 T5.out);have kb6 : Kept (b + 1) w5 (w5.setCells b (j * 7) d'.list) := Kept.setCells w5 (j * 7) d'.list (by omega);have k5 : Kept (b + 1) wr w5 := kd.out.trans (Kept.ofBelow b5);have HD6 : Hid (∀ m, m < j + 1 → ∀ w'', Kept (b + 1) (w5.setCells b (j * 7) d'.list) w'' → Below w0.heap.size w0 w'' → ExAt n w'' ((fun i => if i = j then d' else fs i) m).val (l.getD m noX)) := hide (fun m hm w'' hk hB => by
      have hk2 := kb6.trans hk;by_cases e : m = j
      ·subst e;simp only [if_pos];exact hN w'' (hk2.mono (by have := R4.out.1; omega))
      ·simp only [if_neg e];exact HD.out m (by omega) w'' (k5.trans hk2) hB)
     have HO6 : Hid (∀ m, j + 1 ≤ m → m < N → (fun i => if i = j then d' else fs i) m = es m) := hide (fun m hm hl => by
      dsimp only;rw [if_neg (by omega)];exact HO.out m (by omega) hl)
     have s6 : b < (w5.setCells b (j * 7) d'.list).heap.size := by rw [size_setCells]; have := b5.size; omega
     have R7 := hide (And.intro s6 R6);clear R6 R5 k5 kb6 s6 bw sD h0 TD T5 b5 hN RD kd XA XD sA HEX HCJ HD HO R4 B4 HDD;generalize w5.setCells b (j * 7) d'.list = w6 at T6 HD6 R7 ⊢
     go_wp2
     exact ⟨⟨j + 1, _, by go_num, by omega, T6, R7, HD6, HO6⟩, by simp [intOf]; omega⟩
    ·have dy : decide (0 ≤ y) = false := decide_eq_false hy;have HD6 : Hid (∀ m, m < j + 1 → ∀ w'', Kept (b + 1) wd w'' → Below w0.heap.size w0 w'' → ExAt n w'' (fs m).val (l.getD m noX)) := hide (fun m hm w'' hk hB => by
      by_cases e : m = j
      ·subst e;rw [← HDD.out];exact ExAt.on hB _ HEX.out
      ·exact HD.out m (by omega) w'' (kd.out.trans hk) hB)
     have HO6 : Hid (∀ m, j + 1 ≤ m → m < N → fs m = es m) := hide (fun m hm hl => HO.out m (by omega) hl);have R7 : Hid (b < wd.heap.size ∧ RowX wd b N fs) := hide ⟨by have h1 := R4.out.1; omega, RD.out⟩;clear RD kd XA XD sA HEX HCJ HD HO R4 B4 HDD sD
     go_wp2
     exact ⟨⟨j + 1, fs, by go_num, by omega, TD, R7, HD6, HO6⟩, by simp [intOf]; omega⟩
   ·have hge : decide ((j : Int) < (N : Int)) = false := by simp; omega
    go_wp2
    go_ret
    refine ⟨⟨.slice (some ⟨b, 0, none⟩) N k, rfl, fun w'' hkk hBB => ⟨some ⟨b, 0, none⟩, k, by rw [← HN.out], by rw [← HN.out]; exact hk1, hk2, by rw [← HN.out]; exact HK3.out, fun i hi => ?_⟩⟩, B4.out⟩;have hi' : i < N := by rw [HN.out]; exact hi
    refine ⟨b, 0, fs i, rfl, Nat.lt_of_lt_of_le R4.out.1 hkk.size, ?_, HD.out i (by omega) w'' (hkk.mono (by have := HB1.out; omega)) hBB⟩;rw [Nat.zero_add];exact (R4.out.2.els i hi').ofBlock (hkk.block b HB1.out R4.out.1)
end Go.Proofs.YtlmdcaemjaldfaaGreat
namespace Go.Proofs.YtlmdcaemjaldfaaGreat
open Go.RowKit
theorem xp_put {w : World} {g : Nat} {cs : Array Value} {t : TypeId} (h : w.heap[g]? = some (.cells cs t (0, 0))) (i : Nat) (v : Value) : (w.setCell ⟨g, i, none⟩ v).heap[g]? = some (.cells (cs.setIfInBounds i v) t (0, 0)) := heap_setCell (i := i) v h
theorem rows_ex {n : Nat} {w : World} {v : Value} {l : List ExV} (kind : Int) (k0 : -9223372036854775808 ≤ kind) (k1 : kind ≤ 9223372036854775807) (h : RowsX n w v l) : ∃ p c, v = .slice p l.length c ∧ ExAt (n + 1) w (EC.val ⟨kind, 0, SC.zero, p, l.length, c⟩) ⟨kind, 0, noSet, l⟩ := by
 obtain ⟨p, c, e, h1, h2, h3, h4⟩ := h;exact ⟨p, c, e, ⟨kind, 0, SC.zero, p, l.length, c⟩, rfl, ⟨rfl, rfl, rfl, k0, k1, by simp, by simp, noSet_at w, h1, h2, h3⟩, h4⟩
set_option maxHeartbeats 4000000 in
set_option maxRecDepth 100000 in
theorem progAnd_new (n : Nat) (v : Value) (l : List ExV) (w0 w : World) (hv : RowsY n w0 w v l) (hb0 : Below w0.heap.size w0 w) (hl : l.length ≤ 1000) (hcp : ∀ y ∈ l, cpX n y) :
  Calls Tryz.prog 16 #[v] w fun r w' => (∃ d : EC, r = .returned d.val ∧ ∀ w'', Kept w.heap.size w' w'' → Below w0.heap.size w0 w'' → ExAt (n + 1) w'' d.val (andX l)) ∧ Below w.heap.size w w' := by
 have HB0 : Hid (∀ W, Below w.heap.size w W → Below w0.heap.size w0 W) := hide (fun W h => hb0.trans (h.mono hb0.size));have b0 := (Below.refl _ w).alloc (Nat.le_refl _) (Obj.cells #[.int .i64 0, .int .i64 0, .bool false, .slice none 0 0, .bool false, .slice none 0 0, .slice none 0 0] 28);have X := hide (copiedList_any n v l w0 (w.alloc (Obj.cells #[.int .i64 0, .int .i64 0, .bool false, .slice none 0 0, .bool false, .slice none 0 0, .slice none 0 0] 28)) (hv.grow b0) (HB0.out _ b0) hl hcp);have E0 := hide (heap_new w (Obj.cells #[.int .i64 0, .int .i64 0, .bool false, .slice none 0 0, .bool false, .slice none 0 0, .slice none 0 0] 28));have S0 := hide (show (w.alloc (Obj.cells #[.int .i64 0, .int .i64 0, .bool false, .slice none 0 0, .bool false, .slice none 0 0, .slice none 0 0] 28)).heap.size = w.heap.size + 1 by simp);have B0 := hide b0;obtain ⟨p, cc, rfl, _⟩ := hv;clear b0 hl hcp hb0;go_enter Tryz.func16, Tryz.ntmps16
 go_wp2_with fail
 generalize w.alloc (Obj.cells #[.int .i64 0, .int .i64 0, .bool false, .slice none 0 0, .bool false, .slice none 0 0, .slice none 0 0] 28) = W0 at X E0 S0 B0 ⊢;refine (unhide X).mono ?_;rintro r w1 ⟨⟨u, rfl, hR⟩, b1⟩;have D1 := hide (B0.out.trans (b1.mono B0.out.size));have E1 := hide ((b1.block _ (by have := S0.out; omega)).trans E0.out);have LT : Hid (w.heap.size < W0.heap.size) := hide (by have := S0.out; omega);have GE : Hid (w.heap.size ≤ w.heap.size) := hide (Nat.le_refl _);clear X b1 E0 S0 B0;obtain ⟨q, kk, len, rfl, hlen⟩ : ∃ q kk len, u = .slice q len kk ∧ len = l.length := by
  obtain ⟨q, kk, e, _⟩ := hR w1 (Kept.refl _ _) (HB0.out _ D1.out);exact ⟨q, kk, _, e, rfl⟩
 have HR := hide hR;have HLEN := hide hlen;clear hR hlen;obtain ⟨d0, d1, d2, d3, d4, d5, d6⟩ := ecCells1 E1.out;have z0 := soft_heap E1.out 0;have z1 := soft_heap E1.out 1;have z2 := soft_heap E1.out 2;have z3 := soft_heap E1.out 3;have z4 := soft_heap E1.out 4;have z5 := soft_heap E1.out 5;have z6 := soft_heap E1.out 6;have E2 : Hid ((((((((w1.setCell ⟨w.heap.size, 0, none⟩ (.int .i64 2)).setCell ⟨w.heap.size, 1, none⟩ (.int .i64 0)).setCell ⟨w.heap.size, 2, none⟩ (.bool false)).setCell ⟨w.heap.size, 3, none⟩ (.slice none 0 0)).setCell ⟨w.heap.size, 4, none⟩ (.bool false)).setCell ⟨w.heap.size, 5, none⟩ (.slice none 0 0)).setCell ⟨w.heap.size, 6, none⟩ (.slice q len kk)).heap[w.heap.size]? = some (.cells #[.int .i64 2, .int .i64 0, .bool false, .slice none 0 0, .bool false, .slice none 0 0, .slice q len kk] 28 (0, 0))) := hide (xp_put (xp_put (xp_put (xp_put (xp_put (xp_put (xp_put E1.out 0 (.int .i64 2)) 1 (.int .i64 0)) 2 (.bool false)) 3 (.slice none 0 0)) 4 (.bool false)) 5 (.slice none 0 0)) 6 (.slice q len kk));have K2 := hide (((((((Kept.setCell w1 (w.heap.size) 0 (.int .i64 2) (m := W0.heap.size) LT.out).trans (Kept.setCell _ (w.heap.size) 1 (.int .i64 0) LT.out)).trans (Kept.setCell _ (w.heap.size) 2 (.bool false) LT.out)).trans (Kept.setCell _ (w.heap.size) 3 (.slice none 0 0) LT.out)).trans (Kept.setCell _ (w.heap.size) 4 (.bool false) LT.out)).trans (Kept.setCell _ (w.heap.size) 5 (.slice none 0 0) LT.out)).trans (Kept.setCell _ (w.heap.size) 6 (.slice q len kk) LT.out));have D2 := hide (((((((D1.out.setCell (p := ⟨w.heap.size, 0, none⟩) GE.out (.int .i64 2)).setCell (p := ⟨w.heap.size, 1, none⟩) GE.out (.int .i64 0)).setCell (p := ⟨w.heap.size, 2, none⟩) GE.out (.bool false)).setCell (p := ⟨w.heap.size, 3, none⟩) GE.out (.slice none 0 0)).setCell (p := ⟨w.heap.size, 4, none⟩) GE.out (.bool false)).setCell (p := ⟨w.heap.size, 5, none⟩) GE.out (.slice none 0 0)).setCell (p := ⟨w.heap.size, 6, none⟩) GE.out (.slice q len kk));clear D1 E1
 go_wp2
 refine bodyPost_ret (results_cell_row rfl _ _ (w.heap.size) 28 _ (0, 0) _ rfl E2.out Tryz.underlying28 rfl infoEx) rfl ⟨⟨⟨2, 0, SC.zero, q, len, kk⟩, rfl, fun w'' hk hB => ?_⟩, D2.out⟩;obtain ⟨q', c', e', hX⟩ := rows_ex 2 (by omega) (by omega) (HR.out w'' (K2.out.trans (hk.mono (by have := LT.out; omega))) hB)
 injection e' with e1 e2 e3
 subst e1 e3;rw [← HLEN.out] at hX;exact hX
theorem progAnd_any (n : Nat) (v : Value) (l : List ExV) (w : World) (hv : RowsX n w v l) (hl : l.length ≤ 1000) (hcp : ∀ y ∈ l, cpX n y) :
  Calls Tryz.prog 16 #[v] w fun r w' => (∃ d : EC, r = .returned d.val ∧ ExAt (n + 1) w' d.val (andX l)) ∧ Below w.heap.size w w' := by
 refine (progAnd_new n v l w w (hv.y (Below.refl _ _)) (Below.refl _ _) hl hcp).mono ?_;rintro r w' ⟨⟨d, rfl, h⟩, hb⟩;exact ⟨⟨d, rfl, h w' (Kept.refl _ _) hb⟩, hb⟩
set_option maxHeartbeats 4000000 in
set_option maxRecDepth 100000 in
theorem progOr_new (n : Nat) (v : Value) (l : List ExV) (w0 w : World) (hv : RowsY n w0 w v l) (hb0 : Below w0.heap.size w0 w) (hl : l.length ≤ 1000) (hcp : ∀ y ∈ l, cpX n y) :
  Calls Tryz.prog 39 #[v] w fun r w' => (∃ d : EC, r = .returned d.val ∧ ∀ w'', Kept w.heap.size w' w'' → Below w0.heap.size w0 w'' → ExAt (n + 1) w'' d.val (orX l)) ∧ Below w.heap.size w w' := by
 have HB0 : Hid (∀ W, Below w.heap.size w W → Below w0.heap.size w0 W) := hide (fun W h => hb0.trans (h.mono hb0.size));have b0 := (Below.refl _ w).alloc (Nat.le_refl _) (Obj.cells #[.int .i64 0, .int .i64 0, .bool false, .slice none 0 0, .bool false, .slice none 0 0, .slice none 0 0] 28);have X := hide (copiedList_any n v l w0 (w.alloc (Obj.cells #[.int .i64 0, .int .i64 0, .bool false, .slice none 0 0, .bool false, .slice none 0 0, .slice none 0 0] 28)) (hv.grow b0) (HB0.out _ b0) hl hcp);have E0 := hide (heap_new w (Obj.cells #[.int .i64 0, .int .i64 0, .bool false, .slice none 0 0, .bool false, .slice none 0 0, .slice none 0 0] 28));have S0 := hide (show (w.alloc (Obj.cells #[.int .i64 0, .int .i64 0, .bool false, .slice none 0 0, .bool false, .slice none 0 0, .slice none 0 0] 28)).heap.size = w.heap.size + 1 by simp);have B0 := hide b0;obtain ⟨p, cc, rfl, _⟩ := hv;clear b0 hl hcp hb0;go_enter Tryz.func39, Tryz.ntmps39
 go_wp2_with fail
 generalize w.alloc (Obj.cells #[.int .i64 0, .int .i64 0, .bool false, .slice none 0 0, .bool false, .slice none 0 0, .slice none 0 0] 28) = W0 at X E0 S0 B0 ⊢;refine (unhide X).mono ?_;rintro r w1 ⟨⟨u, rfl, hR⟩, b1⟩;have D1 := hide (B0.out.trans (b1.mono B0.out.size));have E1 := hide ((b1.block _ (by have := S0.out; omega)).trans E0.out);have LT : Hid (w.heap.size < W0.heap.size) := hide (by have := S0.out; omega);have GE : Hid (w.heap.size ≤ w.heap.size) := hide (Nat.le_refl _);clear X b1 E0 S0 B0;obtain ⟨q, kk, len, rfl, hlen⟩ : ∃ q kk len, u = .slice q len kk ∧ len = l.length := by
  obtain ⟨q, kk, e, _⟩ := hR w1 (Kept.refl _ _) (HB0.out _ D1.out);exact ⟨q, kk, _, e, rfl⟩
 have HR := hide hR;have HLEN := hide hlen;clear hR hlen;obtain ⟨d0, d1, d2, d3, d4, d5, d6⟩ := ecCells1 E1.out;have z0 := soft_heap E1.out 0;have z1 := soft_heap E1.out 1;have z2 := soft_heap E1.out 2;have z3 := soft_heap E1.out 3;have z4 := soft_heap E1.out 4;have z5 := soft_heap E1.out 5;have z6 := soft_heap E1.out 6;have E2 : Hid ((((((((w1.setCell ⟨w.heap.size, 0, none⟩ (.int .i64 3)).setCell ⟨w.heap.size, 1, none⟩ (.int .i64 0)).setCell ⟨w.heap.size, 2, none⟩ (.bool false)).setCell ⟨w.heap.size, 3, none⟩ (.slice none 0 0)).setCell ⟨w.heap.size, 4, none⟩ (.bool false)).setCell ⟨w.heap.size, 5, none⟩ (.slice none 0 0)).setCell ⟨w.heap.size, 6, none⟩ (.slice q len kk)).heap[w.heap.size]? = some (.cells #[.int .i64 3, .int .i64 0, .bool false, .slice none 0 0, .bool false, .slice none 0 0, .slice q len kk] 28 (0, 0))) := hide (xp_put (xp_put (xp_put (xp_put (xp_put (xp_put (xp_put E1.out 0 (.int .i64 3)) 1 (.int .i64 0)) 2 (.bool false)) 3 (.slice none 0 0)) 4 (.bool false)) 5 (.slice none 0 0)) 6 (.slice q len kk));have K2 := hide (((((((Kept.setCell w1 (w.heap.size) 0 (.int .i64 3) (m := W0.heap.size) LT.out).trans (Kept.setCell _ (w.heap.size) 1 (.int .i64 0) LT.out)).trans (Kept.setCell _ (w.heap.size) 2 (.bool false) LT.out)).trans (Kept.setCell _ (w.heap.size) 3 (.slice none 0 0) LT.out)).trans (Kept.setCell _ (w.heap.size) 4 (.bool false) LT.out)).trans (Kept.setCell _ (w.heap.size) 5 (.slice none 0 0) LT.out)).trans (Kept.setCell _ (w.heap.size) 6 (.slice q len kk) LT.out));have D2 := hide (((((((D1.out.setCell (p := ⟨w.heap.size, 0, none⟩) GE.out (.int .i64 3)).setCell (p := ⟨w.heap.size, 1, none⟩) GE.out (.int .i64 0)).setCell (p := ⟨w.heap.size, 2, none⟩) GE.out (.bool false)).setCell (p := ⟨w.heap.size, 3, none⟩) GE.out (.slice none 0 0)).setCell (p := ⟨w.heap.size, 4, none⟩) GE.out (.bool false)).setCell (p := ⟨w.heap.size, 5, none⟩) GE.out (.slice none 0 0)).setCell (p := ⟨w.heap.size, 6, none⟩) GE.out (.slice q len kk));clear D1 E1
 go_wp2
 refine bodyPost_ret (results_cell_row rfl _ _ (w.heap.size) 28 _ (0, 0) _ rfl E2.out Tryz.underlying28 rfl infoEx) rfl ⟨⟨⟨3, 0, SC.zero, q, len, kk⟩, rfl, fun w'' hk hB => ?_⟩, D2.out⟩;obtain ⟨q', c', e', hX⟩ := rows_ex 3 (by omega) (by omega) (HR.out w'' (K2.out.trans (hk.mono (by have := LT.out; omega))) hB)
 injection e' with e1 e2 e3
 subst e1 e3;rw [← HLEN.out] at hX;exact hX
theorem progOr_any (n : Nat) (v : Value) (l : List ExV) (w : World) (hv : RowsX n w v l) (hl : l.length ≤ 1000) (hcp : ∀ y ∈ l, cpX n y) :
  Calls Tryz.prog 39 #[v] w fun r w' => (∃ d : EC, r = .returned d.val ∧ ExAt (n + 1) w' d.val (orX l)) ∧ Below w.heap.size w w' := by
 refine (progOr_new n v l w w (hv.y (Below.refl _ _)) (Below.refl _ _) hl hcp).mono ?_;rintro r w' ⟨⟨d, rfl, h⟩, hb⟩;exact ⟨⟨d, rfl, h w' (Kept.refl _ _) hb⟩, hb⟩
set_option maxHeartbeats 4000000 in
set_option maxRecDepth 100000 in
theorem progNot_new (n : Nat) (c : EC) (x : ExV) (w0 w : World) (hx : ExAt n w0 c.val x) (hb0 : Below w0.heap.size w0 w) (hcp : cpX n x) :
  Calls Tryz.prog 40 #[c.val] w fun r w' => (∃ d : EC, r = .returned d.val ∧ ∀ w'', Kept w.heap.size w' w'' → Below w0.heap.size w0 w'' → ExAt (n + 1) w'' d.val (notX x)) ∧ Below w.heap.size w w' := by
 have HB0 : Hid (∀ W, Below w.heap.size w W → Below w0.heap.size w0 W) := hide (fun W h => hb0.trans (h.mono hb0.size));obtain ⟨l, hlx⟩ : ∃ l, l = [x] := ⟨_, rfl⟩
 have T0 := Pair.new w (exObj c) (exObj ec0);have b2 := (Below.refl _ ((w.alloc (exObj c)).alloc (exObj ec0))).alloc (Nat.le_refl _) (exObj c);have T2 := T0.on b2;have hv : RowsY n w0 (((w.alloc (exObj c)).alloc (exObj ec0)).alloc (exObj c)) (.slice (some ⟨w.heap.size + 1 + 1, 0, none⟩) 1 1) l := by
  subst hlx;refine ⟨_, 1, rfl, fun e => by simp at e, fun i hi => ?_⟩;have hi0 : i = 0 := by simpa using hi
  subst hi0;have hn := heap_new ((w.alloc (exObj c)).alloc (exObj ec0)) (exObj c);simp only [World.size_alloc] at hn;refine ⟨w.heap.size + 1 + 1, 0, c, rfl, ?_, hx⟩;obtain ⟨c0, c1, c2, c3, c4, c5, c6⟩ := ecCells1 hn;exact ⟨c0, c1, c2, c3, c4, c5, c6⟩
 have X := hide (copiedList_any n _ l w0 _ hv (HB0.out _ T2.b) (by subst hlx; simp) (fun y hy => by subst hlx; simp at hy; subst hy; exact hcp));have HLX := hide hlx;rw [show notX x = ⟨4, 0, noSet, l⟩ by rw [HLX.out]; rfl];have TT := hide T2;clear hx hcp T0 b2 T2 hlx hv hb0;unfold exObj ec0 SC.zero at X TT;unfold EC.val;go_enter Tryz.func40, Tryz.ntmps40
 go_wp2_with fail
 generalize ((w.alloc (Obj.cells #[.int .i64 c.k, .int .i64 c.t, .bool c.s.a, .slice c.s.p c.s.n c.s.c, .bool c.s.d, .slice c.s.q c.s.m c.s.e, .slice c.p c.n c.c] 28)).alloc (Obj.cells #[.int .i64 0, .int .i64 0, .bool false, .slice none 0 0, .bool false, .slice none 0 0, .slice none 0 0] 28)).alloc (Obj.cells #[.int .i64 c.k, .int .i64 c.t, .bool c.s.a, .slice c.s.p c.s.n c.s.c, .bool c.s.d, .slice c.s.q c.s.m c.s.e, .slice c.p c.n c.c] 28) = W0 at X TT ⊢;refine (unhide X).mono ?_;rintro r w1 ⟨⟨u, rfl, hR⟩, b1⟩;have TD := hide (TT.out.on b1);have LT : Hid (w.heap.size + 1 < W0.heap.size) := hide TT.out.size;have GE : Hid (w.heap.size ≤ w.heap.size + 1) := hide (by omega);have D1 := hide TD.out.b;have E1 := hide TD.out.e2;clear X b1 TT TD HLX;obtain ⟨q, kk, len, rfl, hlen⟩ : ∃ q kk len, u = .slice q len kk ∧ len = l.length := by
  obtain ⟨q, kk, e, _⟩ := hR w1 (Kept.refl _ _) (HB0.out _ D1.out);exact ⟨q, kk, _, e, rfl⟩
 have HR := hide hR;have HLEN := hide hlen;clear hR hlen;obtain ⟨d0, d1, d2, d3, d4, d5, d6⟩ := ecCells1 E1.out;have z0 := soft_heap E1.out 0;have z1 := soft_heap E1.out 1;have z2 := soft_heap E1.out 2;have z3 := soft_heap E1.out 3;have z4 := soft_heap E1.out 4;have z5 := soft_heap E1.out 5;have z6 := soft_heap E1.out 6;have E2 : Hid ((((((((w1.setCell ⟨w.heap.size + 1, 0, none⟩ (.int .i64 4)).setCell ⟨w.heap.size + 1, 1, none⟩ (.int .i64 0)).setCell ⟨w.heap.size + 1, 2, none⟩ (.bool false)).setCell ⟨w.heap.size + 1, 3, none⟩ (.slice none 0 0)).setCell ⟨w.heap.size + 1, 4, none⟩ (.bool false)).setCell ⟨w.heap.size + 1, 5, none⟩ (.slice none 0 0)).setCell ⟨w.heap.size + 1, 6, none⟩ (.slice q len kk)).heap[w.heap.size + 1]? = some (.cells #[.int .i64 4, .int .i64 0, .bool false, .slice none 0 0, .bool false, .slice none 0 0, .slice q len kk] 28 (0, 0))) := hide (xp_put (xp_put (xp_put (xp_put (xp_put (xp_put (xp_put E1.out 0 (.int .i64 4)) 1 (.int .i64 0)) 2 (.bool false)) 3 (.slice none 0 0)) 4 (.bool false)) 5 (.slice none 0 0)) 6 (.slice q len kk));have K2 := hide (((((((Kept.setCell w1 (w.heap.size + 1) 0 (.int .i64 4) (m := W0.heap.size) LT.out).trans (Kept.setCell _ (w.heap.size + 1) 1 (.int .i64 0) LT.out)).trans (Kept.setCell _ (w.heap.size + 1) 2 (.bool false) LT.out)).trans (Kept.setCell _ (w.heap.size + 1) 3 (.slice none 0 0) LT.out)).trans (Kept.setCell _ (w.heap.size + 1) 4 (.bool false) LT.out)).trans (Kept.setCell _ (w.heap.size + 1) 5 (.slice none 0 0) LT.out)).trans (Kept.setCell _ (w.heap.size + 1) 6 (.slice q len kk) LT.out));have D2 := hide (((((((D1.out.setCell (p := ⟨w.heap.size + 1, 0, none⟩) GE.out (.int .i64 4)).setCell (p := ⟨w.heap.size + 1, 1, none⟩) GE.out (.int .i64 0)).setCell (p := ⟨w.heap.size + 1, 2, none⟩) GE.out (.bool false)).setCell (p := ⟨w.heap.size + 1, 3, none⟩) GE.out (.slice none 0 0)).setCell (p := ⟨w.heap.size + 1, 4, none⟩) GE.out (.bool false)).setCell (p := ⟨w.heap.size + 1, 5, none⟩) GE.out (.slice none 0 0)).setCell (p := ⟨w.heap.size + 1, 6, none⟩) GE.out (.slice q len kk));clear D1 E1
 go_wp2
 refine bodyPost_ret (results_cell_row rfl _ _ (w.heap.size + 1) 28 _ (0, 0) _ rfl E2.out Tryz.underlying28 rfl infoEx) rfl ⟨⟨⟨4, 0, SC.zero, q, len, kk⟩, rfl, fun w'' hk hB => ?_⟩, D2.out⟩;obtain ⟨q', c', e', hX⟩ := rows_ex 4 (by omega) (by omega) (HR.out w'' (K2.out.trans (hk.mono (by have := LT.out; omega))) hB)
 injection e' with e1 e2 e3
 subst e1 e3;rw [← HLEN.out] at hX;exact hX
theorem progNot_any (n : Nat) (c : EC) (x : ExV) (w : World) (hx : ExAt n w c.val x) (hcp : cpX n x) :
  Calls Tryz.prog 40 #[c.val] w fun r w' => (∃ d : EC, r = .returned d.val ∧ ExAt (n + 1) w' d.val (notX x)) ∧ Below w.heap.size w w' := by
 refine (progNot_new n c x w w hx (Below.refl _ _) hcp).mono ?_;rintro r w' ⟨⟨d, rfl, h⟩, hb⟩;exact ⟨⟨d, rfl, h w' (Kept.refl _ _) hb⟩, hb⟩
set_option maxHeartbeats 4000000 in
set_option maxRecDepth 100000 in
theorem progAtom_new (attr : Int) (a0 : -9223372036854775808 ≤ attr) (a1 : attr ≤ 9223372036854775807) (s : SC) (S : SetV) (w : World) (hv : SetAt w s.val S) (h1 : S.ints.length * 16 ≤ 140737488355328) (h2 : S.strs.length * 16 ≤ 140737488355328) :
  Calls Tryz.prog 17 #[.int .i64 attr, s.val] w fun r w' => (∃ d : EC, r = .returned d.val ∧ ∀ w'', Kept w.heap.size w' w'' → ExAt 1 w'' d.val (atomX attr S)) ∧ Below w.heap.size w w' := by
 have T0 := Pair.new w (stObj s) (exObj ec0);have X := hide (copiedSet_any s S _ (hv.on T0.b) h1 h2);have TT := hide T0;clear hv h1 h2 T0;unfold stObj exObj ec0 SC.zero at X TT;unfold SC.val at X ⊢;go_enter Tryz.func17, Tryz.ntmps17
 go_wp2_with fail
 generalize (w.alloc (Obj.cells #[.bool s.a, .slice s.p s.n s.c, .bool s.d, .slice s.q s.m s.e] 25)).alloc (Obj.cells #[.int .i64 0, .int .i64 0, .bool false, .slice none 0 0, .bool false, .slice none 0 0, .slice none 0 0] 28) = W0 at X TT ⊢;refine (unhide X).mono ?_;rintro r w1 ⟨⟨y, rfl, hY⟩, b1⟩;have TD := hide (TT.out.on b1);have LT : Hid (w.heap.size + 1 < W0.heap.size) := hide TT.out.size;have E1 := hide TD.out.e2;have HY := hide hY;clear X b1 TT hY;obtain ⟨d0, d1, d2, d3, d4, d5, d6⟩ := ecCells1 E1.out;have z0 := soft_heap E1.out 0;have z1 := soft_heap E1.out 1;have z2 := soft_heap E1.out 2;have z3 := soft_heap E1.out 3;have z4 := soft_heap E1.out 4;have z5 := soft_heap E1.out 5;have z6 := soft_heap E1.out 6;have E2 : Hid ((((((((w1.setCell ⟨w.heap.size + 1, 0, none⟩ (.int .i64 1)).setCell ⟨w.heap.size + 1, 1, none⟩ (.int .i64 attr)).setCell ⟨w.heap.size + 1, 2, none⟩ (.bool y.a)).setCell ⟨w.heap.size + 1, 3, none⟩ (.slice y.p y.n y.c)).setCell ⟨w.heap.size + 1, 4, none⟩ (.bool y.d)).setCell ⟨w.heap.size + 1, 5, none⟩ (.slice y.q y.m y.e)).setCell ⟨w.heap.size + 1, 6, none⟩ (.slice none 0 0)).heap[w.heap.size + 1]? = some (.cells #[.int .i64 1, .int .i64 attr, .bool y.a, .slice y.p y.n y.c, .bool y.d, .slice y.q y.m y.e, .slice none 0 0] 28 (0, 0))) := hide (xp_put (xp_put (xp_put (xp_put (xp_put (xp_put (xp_put E1.out 0 (.int .i64 1)) 1 (.int .i64 attr)) 2 (.bool y.a)) 3 (.slice y.p y.n y.c)) 4 (.bool y.d)) 5 (.slice y.q y.m y.e)) 6 (.slice none 0 0));have K2 := hide (((((((Kept.setCell w1 (w.heap.size + 1) 0 (.int .i64 1) (m := W0.heap.size) LT.out).trans (Kept.setCell _ (w.heap.size + 1) 1 (.int .i64 attr) LT.out)).trans (Kept.setCell _ (w.heap.size + 1) 2 (.bool y.a) LT.out)).trans (Kept.setCell _ (w.heap.size + 1) 3 (.slice y.p y.n y.c) LT.out)).trans (Kept.setCell _ (w.heap.size + 1) 4 (.bool y.d) LT.out)).trans (Kept.setCell _ (w.heap.size + 1) 5 (.slice y.q y.m y.e) LT.out)).trans (Kept.setCell _ (w.heap.size + 1) 6 (.slice none 0 0) LT.out));have D2 := hide (((((((TD.out.b.setCell (p := ⟨w.heap.size + 1, 0, none⟩) (by simp) (.int .i64 1)).setCell (p := ⟨w.heap.size + 1, 1, none⟩) (by simp) (.int .i64 attr)).setCell (p := ⟨w.heap.size + 1, 2, none⟩) (by simp) (.bool y.a)).setCell (p := ⟨w.heap.size + 1, 3, none⟩) (by simp) (.slice y.p y.n y.c)).setCell (p := ⟨w.heap.size + 1, 4, none⟩) (by simp) (.bool y.d)).setCell (p := ⟨w.heap.size + 1, 5, none⟩) (by simp) (.slice y.q y.m y.e)).setCell (p := ⟨w.heap.size + 1, 6, none⟩) (by simp) (.slice none 0 0));clear E1 TD
 go_wp2
 exact bodyPost_ret (results_cell_row rfl _ _ (w.heap.size + 1) 28 _ (0, 0) _ rfl E2.out Tryz.underlying28 rfl infoEx) rfl ⟨⟨⟨1, attr, y, none, 0, 0⟩, rfl, fun w'' hk => ⟨⟨1, attr, y, none, 0, 0⟩, rfl, ⟨rfl, rfl, rfl, by simp, by simp, a0, a1, HY.out _ (K2.out.trans (hk.mono (by have := LT.out; omega))), Nat.le_refl _, by simp, fun _ => ⟨rfl, rfl⟩⟩, fun i hi => by simp [atomX] at hi⟩⟩, D2.out⟩
theorem progAtom_any (attr : Int) (a0 : -9223372036854775808 ≤ attr) (a1 : attr ≤ 9223372036854775807) (s : SC) (S : SetV) (w : World) (hv : SetAt w s.val S) (h1 : S.ints.length * 16 ≤ 140737488355328) (h2 : S.strs.length * 16 ≤ 140737488355328) :
  Calls Tryz.prog 17 #[.int .i64 attr, s.val] w fun r w' => (∃ d : EC, r = .returned d.val ∧ ExAt 1 w' d.val (atomX attr S)) ∧ Below w.heap.size w w' :=
 (progAtom_new attr a0 a1 s S w hv h1 h2).mono fun r w' h => ⟨by obtain ⟨⟨d, e, hk⟩, _⟩ := h; exact ⟨d, e, hk _ (Kept.refl _ _)⟩, h.2⟩
end Go.Proofs.YtlmdcaemjaldfaaGreat
namespace Go.Proofs.YtlmdcaemjaldfaaGreat
open Go.RowKit
def Own (w : World) (B : Nat) (v : Value) (l : List UInt8) : Prop := w.ownsRow B 5 1 v l.length (Lib.byteCells l)
end Go.Proofs.YtlmdcaemjaldfaaGreat
namespace Go.Proofs.YtlmdcaemjaldfaaGreat
def dF : Nat → Nat → List UInt8
 | 0, _ => []
 | f + 1, n => if n < 128 then [UInt8.ofNat n] else dF f (n / 128) ++ [UInt8.ofNat (n % 128)]
def dig (n : Nat) : List UInt8 := dF (n + 1) n
def upB (c : UInt8) : UInt8 := UInt8.ofNat (c.toNat + 128)
def enc (n : Nat) : List UInt8 := if n < 128 then [UInt8.ofNat n] else (dig (n / 128)).map upB ++ [UInt8.ofNat (n % 128)]
end Go.Proofs.YtlmdcaemjaldfaaGreat
namespace Go.Proofs.YtlmdcaemjaldfaaGreat
open Go.RowKit
theorem grown_refl (w : World) (r : Option Nat) : w.grownBy w r := ⟨rfl, rfl, rfl, Nat.le_refl _, fun _ _ _ => rfl⟩
theorem grown_trans {a b c : World} {r : Option Nat} (h : a.grownBy b r) (k : b.grownBy c r) : a.grownBy c r :=
 ⟨k.os.trans h.os, k.tape.trans h.tape, k.output.trans h.output, Nat.le_trans h.size k.size, fun i hi hr => (k.block i (Nat.lt_of_lt_of_le hi h.size) hr).trans (h.block i hi hr)⟩
theorem grown_setCell {a w : World} {b : Nat} (h : a.grownBy w (some b)) (i : Nat) (v : Value) : a.grownBy (w.setCell ⟨b, i, none⟩ v) (some b) :=
 grown_trans h ⟨rfl, rfl, rfl, by simp [World.setCell], fun k hk hr => Below.heap_setCell _ _ _ _ (fun e => hr (by simp [e]))⟩
theorem grown_below {a w w' : World} {r : Option Nat} (h : a.grownBy w r) (hb : Below w.heap.size w w') : a.grownBy w' r :=
 grown_trans h ⟨hb.os, hb.tape, hb.output, hb.size, fun k hk _ => hb.block k hk⟩
end Go.Proofs.YtlmdcaemjaldfaaGreat
namespace Go.Proofs.YtlmdcaemjaldfaaGreat
open Go.RowKit
theorem grown_put (w : World) (b i : Nat) (v : Value) : w.grownBy (w.setCell ⟨b, i, none⟩ v) (some b) := grown_setCell (grown_refl _ _) i v
theorem below_none {w w' : World} (h : w.grownBy w' none) : Below w.heap.size w w' := ⟨h.os, h.tape, h.output, h.size, fun i hi => h.block i hi (by simp)⟩
def vaZ : Va := (0, 0, ⟨#[]⟩)
def evZ : EvV := ⟨vaZ, vaZ, vaZ, vaZ⟩
end Go.Proofs.YtlmdcaemjaldfaaGreat
namespace Go.Proofs.YtlmdcaemjaldfaaGreat
open Go.RowKit
theorem heap_on {w w' : World} {g : Nat} {x : Obj} (h : w.heap[g]? = some x) (hb : Below w.heap.size w w') : w'.heap[g]? = some x := (hb.block _ (lt_heap h)).trans h
theorem heap_gr {w w' : World} {g b : Nat} {x : Obj} (h : w.heap[g]? = some x) (hg : w.grownBy w' (some b)) (hn : g ≠ b) : w'.heap[g]? = some x := (hg.block _ (lt_heap h) (by intro e; injection e with e; exact hn e)).trans h
theorem gr_new {a w w' : World} {r : Option Nat} {g : Nat} (h : a.grownBy w r) (hg : a.heap.size ≤ g) (k : w.grownBy w' (some g)) : a.grownBy w' r :=
 ⟨k.os.trans h.os, k.tape.trans h.tape, k.output.trans h.output, Nat.le_trans h.size k.size, fun i hi hr => (k.block i (Nat.lt_of_lt_of_le hi h.size) (by intro e; injection e with e; omega)).trans (h.block i hi hr)⟩
theorem put_cells (g : Nat) (t : TypeId) : ∀ (ds cs pre : List Value) (w : World), w.heap[g]? = some (.cells (pre ++ cs).toArray t (0, 0)) → cs.length = ds.length → (w.setCells g pre.length ds).heap[g]? = some (.cells (pre ++ ds).toArray t (0, 0)) ∧ w.grownBy (w.setCells g pre.length ds) (some g)
 | [], [], pre, w, h, _ => ⟨h, grown_refl _ _⟩
 | d :: ds, c :: cs, pre, w, h, hl => by
  have h1 := heap_setCell (i := pre.length) d h;have e : ((pre ++ c :: cs).toArray).setIfInBounds pre.length d = ((pre ++ [d]) ++ cs).toArray := by simp
  rw [e] at h1;obtain ⟨h2, h3⟩ := put_cells g t ds cs (pre ++ [d]) _ h1 (by simpa using hl);rw [List.length_append, List.length_cons, List.length_nil] at h2 h3;rw [List.append_assoc, List.cons_append, List.nil_append] at h2;exact ⟨h2, grown_trans (grown_put _ _ _ _) h3⟩
theorem put_wholeU {w : World} {g : Nat} {t : TypeId} {cs : Array Value} (ds : List Value) (h : w.heap[g]? = some (.cells cs t (0, 0))) (hl : cs.size = ds.length) : (w.setCells g 0 ds).heap[g]? = some (.cells ds.toArray t (0, 0)) ∧ w.grownBy (w.setCells g 0 ds) (some g) :=
 put_cells g t ds cs.toList [] w (by simpa using h) (by simpa using hl)
section
variable {ops : Array Oper} {Q : Exit → Act → World → Prop} {S : World → Prop} {o : Oper} {a : Act}
theorem wt_call {rest : List Oper} {w : World} (hw : Region.wanted o (yielded ops a.tmps) = true)
  (f : Nat) (xs : Array Operand) (ts : Array TypeId) (ho : o.op = .call { callee := .value (.func f), args := xs, argTypes := ts }) (vs : Array Value) (hv : xs.toList.map a.eval = vs.toList)
  (hrun : ∀ (W : World) (A : Array Value), (callFunc f A).run Tryz.prog W = .ok (.enter f A) W)
  (hc : Calls Tryz.prog f vs w fun r w' => (∃ v, r = .returned v ∧ wpList Tryz.prog ops Q rest (a.put o.dst v) w') ∨ (∃ ch, r = .panicked ch ∧ Q (.panic ch) a w')) : wpList Tryz.prog ops Q (o :: rest) a w := by
 unfold wpList;rw [if_pos hw]
 left
 have hv : xs.map a.eval = vs := by
  rw [← Array.toList_inj, Array.toList_map];exact hv
 have he : a.eval (.func f) = .func (.func f) #[] #[] := rfl;have hx : (execOp a.eval o).run Tryz.prog w = .ok (.enter f vs) w := by
  have := hrun w vs
  simp [execOp, ho, resolve, he, hv, Deferred.ofValue, invoke, this]
 unfold Oper.wp;rw [hx, Oper.upon_enter];refine hc.mono ?_;rintro e w' (⟨v, rfl, h1⟩ | ⟨ch, rfl, h1⟩)
 ·exact h1
 ·exact h1
theorem yt_addI (hw : Region.wanted o (yielded ops a.tmps) = true) (x y : Operand) (t : TypeId) (ho : o.op = .binOp .add 3 x y t) (p q r : Int) (hx : a.eval x = .int .i64 p) (hy : a.eval y = .int .i64 q) (hr : p + q = r) (h0 : -9223372036854775808 ≤ r) (h1 : r ≤ 9223372036854775807) : YieldsIf Tryz.prog ops S o (.int .i64 r) a :=
 Or.inl ⟨hw, fun w hS => by
  subst hr;simp only [execOp, ho, hx, hy];go_simp;rw [IntKind.wrap_i64]; omega⟩
theorem yt_eqlI (hw : Region.wanted o (yielded ops a.tmps) = true) (x y : Operand) (t : TypeId) (ho : o.op = .binOp .eql 3 x y t) (p q : Int) (r : Bool) (hx : a.eval x = .int .i64 p) (hy : a.eval y = .int .i64 q) (hr : decide (p = q) = r) : YieldsIf Tryz.prog ops S o (.bool r) a :=
 Or.inl ⟨hw, fun w hS => by
  subst hr;simp only [execOp, ho, hx, hy];go_simp
  all_goals (by_cases h : p = q <;> simp [h] <;> (try omega))⟩
theorem yt_lssI (hw : Region.wanted o (yielded ops a.tmps) = true) (x y : Operand) (t : TypeId) (ho : o.op = .binOp .lss 3 x y t) (p q : Int) (r : Bool) (hx : a.eval x = .int .i64 p) (hy : a.eval y = .int .i64 q) (hr : decide (p < q) = r) : YieldsIf Tryz.prog ops S o (.bool r) a :=
 Or.inl ⟨hw, fun w hS => by
  subst hr;simp only [execOp, ho, hx, hy];go_simp
  all_goals (by_cases h : p < q <;> simp [h] <;> (try omega))⟩
theorem yt_leqI (hw : Region.wanted o (yielded ops a.tmps) = true) (x y : Operand) (t : TypeId) (ho : o.op = .binOp .leq 3 x y t) (p q : Int) (r : Bool) (hx : a.eval x = .int .i64 p) (hy : a.eval y = .int .i64 q) (hr : decide (p ≤ q) = r) : YieldsIf Tryz.prog ops S o (.bool r) a :=
 Or.inl ⟨hw, fun w hS => by
  subst hr;simp only [execOp, ho, hx, hy];go_simp
  all_goals (by_cases h : p ≤ q <;> simp [h] <;> (try omega))⟩
theorem yt_neqE (hw : Region.wanted o (yielded ops a.tmps) = true) (x y : Operand) (t : TypeId) (ho : o.op = .binOp .neq 33 x y t) (p q : Int) (r : Bool) (hx : a.eval x = .int .i64 p) (hy : a.eval y = .int .i64 q) (hr : decide (¬ p = q) = r) : YieldsIf Tryz.prog ops S o (.bool r) a :=
 Or.inl ⟨hw, fun w hS => by
  subst hr;simp only [execOp, ho, hx, hy];go_simp;by_cases h : p = q <;> simp [h]⟩
set_option maxRecDepth 100000 in
theorem yt_fEx3 (hw : Region.wanted o (yielded ops a.tmps) = true) (x : Operand) (ho : o.op = .fieldAddr 28 x 3) (g k : Nat) (hx : a.eval x = .pointer (some ⟨g, k, none⟩)) : YieldsIf Tryz.prog ops S o (.pointer (some ⟨g, k + 6, none⟩)) a :=
 Or.inl ⟨hw, fun w hS => by
  simp only [execOp, ho, hx];go_simp⟩
theorem yt_ldLx (hw : Region.wanted o (yielded ops a.tmps) = true) (x : Operand) (ho : o.op = .load 26 x) (g k : Nat) (hx : a.eval x = .pointer (some ⟨g, k, none⟩)) (p : Option Addr) (n c : Nat) (h : ∀ w, S w → w.cell? ⟨g, k, none⟩ = some (.slice p n c)) : YieldsIf Tryz.prog ops S o (.slice p n c) a :=
 Or.inl ⟨hw, fun w hS => by
  have := h w hS;simp only [execOp, ho, hx];go_simp⟩
set_option maxHeartbeats 1000000 in
set_option maxRecDepth 100000 in
theorem wt_putSt {rest : List Oper} {w : World} (hw : o.guard = none) (x y : Operand) (ho : o.op = .store 25 x y) (g : Nat) (hx : a.eval x = .pointer (some ⟨g, 0, none⟩)) (s : SC) (hy : a.eval y = s.val) {cs : Array Value} (hc : w.heap[g]? = some (.cells cs 25 (0, 0))) (hk : cs.size = 4)
  (h : ∀ W, W.heap[g]? = some (stObj s) → w.grownBy W (some g) → wpList Tryz.prog ops Q rest (a.put o.dst undef) W) : wpList Tryz.prog ops Q (o :: rest) a w := by
 have ht : w.there g 0 4 := fun j hj => ⟨by rw [cell_heap hc, Nat.zero_add, Array.getElem?_eq_getElem (by omega)]; rfl, frozen_heap hc _⟩
 refine wpList_store_mid hw 25 x y ho g 0 #[Value.bool s.a, .slice s.p s.n s.c, .bool s.d, .slice s.q s.m s.e] hx hy ht (by rw [infoSet4]; rfl) (by simp [Value.oneCell']) ?_;obtain ⟨h1, h2⟩ := put_wholeU [Value.bool s.a, .slice s.p s.n s.c, .bool s.d, .slice s.q s.m s.e] hc (by rw [hk]; rfl);exact h _ h1 h2
theorem wt_allocSt {rest : List Oper} {w : World} (hw : Region.wanted o (yielded ops a.tmps) = true) (ho : o.op = .alloc 25)
  (h : ∀ W g, w.heap.size ≤ g → W.heap[g]? = some (stObj SC.zero) → Below w.heap.size w W → wpList Tryz.prog ops Q rest (a.put o.dst (.pointer (some ⟨g, 0, none⟩))) W) : wpList Tryz.prog ops Q (o :: rest) a w := by
 refine wl_run hw (.pointer (some ⟨w.heap.size, 0, none⟩)) (w.alloc (stObj SC.zero)) ?_ (h _ _ (Nat.le_refl _) (heap_new _ _) ((Below.refl _ w).alloc (Nat.le_refl _) _));simp only [execOp, ho, stObj, SC.zero];go_simp
set_option maxHeartbeats 1000000 in
set_option maxRecDepth 100000 in
theorem wt_putEx {rest : List Oper} {w : World} (hw : o.guard = none) (x y : Operand) (ho : o.op = .store 28 x y) (g : Nat) (hx : a.eval x = .pointer (some ⟨g, 0, none⟩)) (c : EC) (hy : a.eval y = c.val) {cs : Array Value} (hc : w.heap[g]? = some (.cells cs 28 (0, 0))) (hk : cs.size = 7)
  (h : ∀ W, W.heap[g]? = some (exObj c) → w.grownBy W (some g) → wpList Tryz.prog ops Q rest (a.put o.dst undef) W) : wpList Tryz.prog ops Q (o :: rest) a w := by
 have ht : w.there g 0 7 := fun j hj => ⟨by rw [cell_heap hc, Nat.zero_add, Array.getElem?_eq_getElem (by omega)]; rfl, frozen_heap hc _⟩
 refine wpList_store_mid hw 28 x y ho g 0 #[Value.int .i64 c.k, .int .i64 c.t, .bool c.s.a, .slice c.s.p c.s.n c.s.c, .bool c.s.d, .slice c.s.q c.s.m c.s.e, .slice c.p c.n c.c] hx hy ht (by rw [infoEx]; rfl) (by simp [Value.oneCell']) ?_;obtain ⟨h1, h2⟩ := put_wholeU [Value.int .i64 c.k, .int .i64 c.t, .bool c.s.a, .slice c.s.p c.s.n c.s.c, .bool c.s.d, .slice c.s.q c.s.m c.s.e, .slice c.p c.n c.c] hc (by rw [hk]; rfl);exact h _ h1 h2
theorem wt_allocEx {rest : List Oper} {w : World} (hw : Region.wanted o (yielded ops a.tmps) = true) (ho : o.op = .alloc 28)
  (h : ∀ W g, w.heap.size ≤ g → W.heap[g]? = some (exObj ec0) → Below w.heap.size w W → wpList Tryz.prog ops Q rest (a.put o.dst (.pointer (some ⟨g, 0, none⟩))) W) : wpList Tryz.prog ops Q (o :: rest) a w := by
 refine wl_run hw (.pointer (some ⟨w.heap.size, 0, none⟩)) (w.alloc (exObj ec0)) ?_ (h _ _ (Nat.le_refl _) (heap_new _ _) ((Below.refl _ w).alloc (Nat.le_refl _) _));simp only [execOp, ho, exObj, ec0, SC.zero];go_simp
theorem wt_boxEv {rest : List Oper} {w : World} (hw : Region.wanted o (yielded ops a.tmps) = true) (x : Operand) (ho : o.op = .box 44 x) (e : EvV) (hx : a.eval x = evVal e)
  (h : ∀ W g, w.heap.size ≤ g → W.heap[g]? = some (evObj e) → Below w.heap.size w W → wpList Tryz.prog ops Q rest (a.put o.dst (.pointer (some ⟨g, 0, none⟩))) W) : wpList Tryz.prog ops Q (o :: rest) a w := by
 refine wl_run hw (.pointer (some ⟨w.heap.size, 0, none⟩)) (w.alloc (evObj e)) ?_ (h _ _ (Nat.le_refl _) (heap_new _ _) ((Below.refl _ w).alloc (Nat.le_refl _) _));simp only [execOp, ho, hx, evVal, evObj];go_simp
end
end Go.Proofs.YtlmdcaemjaldfaaGreat
namespace Go.Proofs.YtlmdcaemjaldfaaGreat
open Go.RowKit
theorem getD_flip {l : Array Bool} {i : Nat} (h : i < l.size) (d d' : Bool) : l.getD i d = l.getD i d' := by
 rw [Array.getD_eq_getD_getElem?, Array.getD_eq_getD_getElem?, Array.getElem?_eq_getElem h]
 rfl
end Go.Proofs.YtlmdcaemjaldfaaGreat
namespace Go.Proofs.YtlmdcaemjaldfaaGreat
open Go.RowKit
def wpAnyL (P : Program) (ops : Array Oper) (Q : Exit → Act → World → Prop) (S : World → Prop) (late : Nat → Bool) : Nat → Array Bool → Act → World → Prop
 | 0, l, a, w => Region.ready .any ops l = [] ∧ Q .normal a w
 | n + 1, l, a, w => (Region.ready .any ops l = [] → Q .normal a w) ∧ ∀ i ∈ Region.ready .any ops l, wpOp P ops Q i (fun a' w' => (late i = false → S w → S w') ∧ wpAnyL P ops Q S late n (l.setIfInBounds i true) a' w') a w
section
variable {P : Program} {ops : Array Oper} {Q : Exit → Act → World → Prop} {S : World → Prop} {late : Nat → Bool}
theorem wpAny_of_late : ∀ (n : Nat) (l : Array Bool) (a : Act) (w : World), wpAnyL P ops Q S late n l a w → wpAny P .any ops Q n l a w
 | 0, _, _, _, h => h
 | n + 1, l, a, w, h => ⟨h.1, fun i hi => wpOp_mono (fun a' w' k => wpAny_of_late n _ a' w' k.2) (h.2 i hi)⟩
theorem wp_region_late {id : Nat} {a : Act} {w : World} (hm : P.follows .mixedOrders = true) (h : wpAnyL P ops Q S late ops.size (Array.replicate ops.size false) a w.drew) : (Code.region id ops true).wp P Q a w :=
 wp_region_any hm (wpAny_of_late _ _ _ _ h)
theorem wpAnyL_done {l : Array Bool} {a : Act} {w : World} (hr : Region.ready .any ops l = []) (h : Q .normal a w) : ∀ n, wpAnyL P ops Q S late n l a w
 | 0 => ⟨hr, h⟩
 | n + 1 => ⟨fun _ => h, fun i hi => by rw [hr] at hi; cases hi⟩
theorem wpAnyL_all {rs : List Nat} {n : Nat} {l : Array Bool} {a : Act} {w : World} (hr : Region.ready .any ops l = rs) (hne : rs ≠ [])
  (h : ∀ i ∈ rs, wpOp P ops Q i (fun a' w' => (late i = false → S w → S w') ∧ wpAnyL P ops Q S late n (l.setIfInBounds i true) a' w') a w) : wpAnyL P ops Q S late (n + 1) l a w :=
 ⟨fun e => absurd (hr.symm.trans e) hne, fun i hi => h i (hr ▸ hi)⟩
def lateOn (ops : Array Oper) (late : Nat → Bool) (i : Nat) : Bool := (List.range ops.size).all fun j => !late j || ((ops[j]?).map fun o => o.after.any fun e => Region.binds .any e && (e.on == i)).getD true
theorem lateOn_spec {i j : Nat} {o : Oper} (h : lateOn ops late i = true) (ho : ops[j]? = some o) (hl : late j = true) : ∃ e ∈ o.after, Region.binds .any e = true ∧ e.on = i := by
 unfold lateOn at h;rw [List.all_eq_true] at h;have hj := h j (List.mem_range.2 (Array.getElem?_eq_some_iff.1 ho).1);rw [hl, ho] at hj;simp only [Bool.not_true, Bool.false_or, Option.map_some, Option.getD_some] at hj;rw [Array.any_eq_true'] at hj;obtain ⟨e, he, hb⟩ := hj;rw [Bool.and_eq_true, beq_iff_eq] at hb;exact ⟨e, he, hb.1, hb.2⟩
theorem wpAnyL_swap {T : World → Prop} {i : Nat} {oi : Oper} {v : Value} (hi : ops[i]? = some oi) (hs : Region.noSelect ops = true) (hQ : ∀ c a w, Q (.panic c) (a.put oi.dst v) w → Q (.panic c) a w)
  (hT : ∀ (j : Nat) (o : Oper) (w w' : World), ops[j]? = some o → (∀ e ∈ o.after, Region.binds .any e = true → e.on ≠ i) → T w → (late j = false → S w → S w') → T w') :
  ∀ (n : Nat) (l : Array Bool) (a : Act) (w : World), (∀ j o, ops[j]? = some o → j ≠ i → l.getD j true = false → (∀ e ∈ o.after, Region.binds .any e = true → e.on ≠ i) → oi.apart ops o = true) →
   i ∈ Region.ready .any ops l → YieldsIf P ops T oi v a → T w → wpAnyL P ops Q S late n (l.setIfInBounds i true) (a.put oi.dst v) w → wpAnyL P ops Q S late (n + 1) l a w := by
 intro n
 induction n with
 | zero =>
  intro l a w _ hr hy hw H;refine And.intro (fun e => by rw [e] at hr; cases hr) (fun j hj => ?_);by_cases e : j = i
  ·subst e;exact hy.wpOp hi hw (And.intro (fun _ h => h) H)
  ·have hm := ready_mono hj e;rw [H.1] at hm;cases hm
 | succ n ih =>
  intro l a w hf hr hy hw H;refine And.intro (fun e => by rw [e] at hr; cases hr) (fun j hj => ?_);by_cases e : j = i
  ·subst e;exact hy.wpOp hi hw (And.intro (fun _ h => h) H)
  ·obtain ⟨hun, oj, hoj, hall⟩ := mem_ready.1 hj;have hno : ∀ x ∈ oj.after, Region.binds .any x = true → x.on ≠ i := by
    intro x hx hb hxi;have h1 := hall x hx hb;rw [hxi] at h1;have h0 := (mem_ready.1 hr).1;by_cases hlt : i < l.size
    ·rw [getD_flip hlt true false] at h0;rw [h0] at h1;cases h1
    ·have : l.getD i false = false := by rw [Array.getD_eq_getD_getElem?, Array.getElem?_eq_none (by omega)]; rfl
     rw [this] at h1;cases h1
   have hput := wpOp_putIf hoj (hf j oj hoj e hun hno) (fun cs b => Region.noSelect_spec hs i oi cs b hi) (fun cs b => Region.noSelect_spec hs j oj cs b hoj) hQ hy (H.2 j (ready_mono hj e));refine wpOp_mono ?_ hput;rintro a' w' ⟨hy', hS', hH⟩;refine ⟨hS', ih (l.setIfInBounds j true) a' w' ?_ (ready_mono hr (Ne.symm e)) hy' (hT j oj w w' hoj hno hw hS') ?_⟩
   ·intro k ok hk hki hku hkn;refine hf k ok hk hki ?_ hkn;by_cases hjk : j = k
    ·subst hjk; exact hun
    ·rwa [getD_set_ne true hjk] at hku
   ·rw [Array.setIfInBounds_comm _ _ e];exact hH
theorem wpAnyL_load {i : Nat} {oi : Oper} {v : Value} {n : Nat} {l : Array Bool} {a : Act} {w : World} (hi : ops[i]? = some oi) (hs : Region.noSelect ops = true) (hf : Region.free .any ops l i = true) (hr : (Region.ready .any ops l).contains i = true)
  (hl : lateOn ops late i = true) (hQ : ∀ c a w, Q (.panic c) (a.put oi.dst v) w → Q (.panic c) a w) (hy : YieldsIf P ops S oi v a) (hS : S w)
  (h : wpAnyL P ops Q S late n (l.setIfInBounds i true) (a.put oi.dst v) w) : wpAnyL P ops Q S late (n + 1) l a w :=
 wpAnyL_swap hi hs hQ (fun j o w w' ho hno hw hk => by
  cases e : late j
  ·exact hk e hw
  ·obtain ⟨x, hx, hb, hxi⟩ := lateOn_spec hl ho e;exact absurd hxi (hno x hx hb)) n l a w (Region.free_spec hi hf) (by simpa using hr) hy hS h
theorem wpAnyL_pure {i : Nat} {oi : Oper} {v : Value} {n : Nat} {l : Array Bool} {a : Act} {w : World} (hi : ops[i]? = some oi) (hs : Region.noSelect ops = true) (hf : Region.free .any ops l i = true) (hr : (Region.ready .any ops l).contains i = true)
  (hQ : ∀ c a w, Q (.panic c) (a.put oi.dst v) w → Q (.panic c) a w) (hy : YieldsIf P ops (fun _ => True) oi v a)
  (h : wpAnyL P ops Q S late n (l.setIfInBounds i true) (a.put oi.dst v) w) : wpAnyL P ops Q S late (n + 1) l a w :=
 wpAnyL_swap (T := fun _ => True) hi hs hQ (fun _ _ _ _ _ _ _ _ => trivial) n l a w (Region.free_spec hi hf) (by simpa using hr) hy trivial h
end
end Go.Proofs.YtlmdcaemjaldfaaGreat
namespace Go.Proofs.YtlmdcaemjaldfaaGreat
open Go.RowKit
theorem app_where (w : World) (base t ty e : TypeId) (i : TypeInfo) (z : Value) (size bytes : Nat) (ht : Tryz.prog.underlying t = some (.slice e)) (hi : Tryz.prog.info? e = some i) (hz : i.zero = some z)
  (hsize : i.size = size) (hby : i.bytes = bytes) (hzs : z.cells.size = size) (hsz : 0 < size) (hb : bytes ≤ 1000) (v : Value) (n : Nat) (xs : List Value) (hown : w.ownsRow base e size v n xs)
  (a : Addr) (c : Nat) (news : List Value) (hl : news.length = size) (hnews : ∀ j u, news[j]? = some u → w.cell? (a.add j) = some u) (h1 : ∀ u ∈ news, u.oneCell' = true) (hn : n ≤ 1000000) (hbase : base ≤ w.heap.size) :
  ∃ v' w', (Builtin.append_ #[t, t] ty #[v, .slice (some a) 1 c]).run Tryz.prog w = .ok v' w' ∧ w'.ownsRow base e size v' (n + 1) (xs ++ news) ∧ w.grownBy w' v.ownBlock ∧ (∀ g, v'.ownBlock = some g → some g = v.ownBlock ∨ w.heap.size ≤ g) := by
 have hb2 : (n + 1) * bytes ≤ 140737488355328 := Nat.le_trans (Nat.mul_le_mul (show n + 1 ≤ 1000001 by omega) hb) (by decide);obtain ⟨v', w', hr, ho, hg, _⟩ := run_append_own (P := Tryz.prog) w base t ty e i z size bytes ht hi hz hsize hby hzs hsz v n xs hown a 1 c news (by rw [hl]; omega) hnews h1 (by unfold maxLen; omega) hb2 hbase;refine ⟨v', w', hr, ho, hg, ?_⟩;subst hsize;rcases hown.2 with ⟨rfl, rfl⟩ | ⟨g, cap, cur, rfl, hbg, hgc, hnc, hcm, hcs, htake⟩
 ·have hr2 := run_append_nil (P := Tryz.prog) w t ty e i z ht hi hz a 1 c news (by rw [hl]; omega) hnews (by omega) (by omega) (by rw [hby]; omega);rw [hr] at hr2
  injection hr2 with e1 e2
  intro g hg';rw [e1] at hg';simp only [Value.ownBlock, Option.some.injEq] at hg'
  right
  omega
 ·by_cases hroom : n + 1 ≤ cap
  ·have hr2 := run_append_room (P := Tryz.prog) w t ty e i ht hi g n cap cur hgc a 1 c news (by rw [hl]; omega) hnews h1 hroom (by rw [hl, hcs]; have := Nat.mul_le_mul_right i.size hroom; rw [Nat.add_mul] at this; omega);rw [hr] at hr2
   injection hr2 with e1 e2
   intro k hk;rw [e1] at hk
   left
   simp only [Value.ownBlock] at hk ⊢;exact hk.symm
  ·have hr2 := run_append_grow (P := Tryz.prog) w t ty e i z ht hi hz ⟨g, 0, none⟩ n cap xs hown.1 (hown.cells (g := g) rfl) a 1 c news (by rw [hl]; omega) hnews (by omega) (by omega) (by rw [hby]; exact growslice_fits (by omega) hb2);rw [hr] at hr2
   injection hr2 with e1 e2
   intro k hk;rw [e1] at hk;simp only [Value.ownBlock, Option.some.injEq] at hk
   right
   omega
def exCells1 (l : List EC) : List Value := l.flatMap EC.list
def RowE (w : World) (B : Nat) (v : Value) (l : List EC) : Prop := w.ownsRow B 28 7 v l.length (exCells1 l)
theorem own_ne {w : World} {B : Nat} {e t : TypeId} {size n g : Nat} {v : Value} {xs : List Value} {cs : Array Value} {fz : Nat × Nat} (h : w.ownsRow B e size v n xs) (hg : w.heap[g]? = some (.cells cs t fz)) (hne : t ≠ e) : v.ownBlock ≠ some g := by
 rcases h.2 with ⟨rfl, _⟩ | ⟨k, cap, cur, rfl, _, hk, _⟩
 ·simp [Value.ownBlock]
 ·intro e1;simp only [Value.ownBlock, Option.some.injEq] at e1;rw [e1, hg] at hk
  injection hk with hk
  injection hk with _ hk
  exact hne hk
theorem heap_gro {w w' : World} {g : Nat} {x : Obj} {r : Option Nat} (h : w.heap[g]? = some x) (hg : w.grownBy w' r) (hn : r ≠ some g) : w'.heap[g]? = some x := (hg.block _ (lt_heap h) (Ne.symm hn)).trans h
theorem gr_own {a w w' : World} {r r' : Option Nat} (h : a.grownBy w r) (hg : ∀ g, r' = some g → a.heap.size ≤ g) (k : w.grownBy w' r') : a.grownBy w' r :=
 ⟨k.os.trans h.os, k.tape.trans h.tape, k.output.trans h.output, Nat.le_trans h.size k.size, fun i hi hr => (k.block i (Nat.lt_of_lt_of_le hi h.size) (by intro e; have := hg i e.symm; omega)).trans (h.block i hi hr)⟩
theorem ownsRow_on {w w' : World} {B : Nat} {e : TypeId} {size n : Nat} {v : Value} {xs : List Value} (h : w.ownsRow B e size v n xs) (hb : Below w.heap.size w w') : w'.ownsRow B e size v n xs := by
 refine ⟨h.1, ?_⟩;rcases h.2 with h2 | ⟨g, cap, cur, e1, hg, hc, hr⟩
 ·exact Or.inl h2
 ·exact Or.inr ⟨g, cap, cur, e1, hg, heap_on hc hb, hr⟩
theorem ownsRow_gr {w w' : World} {B : Nat} {e : TypeId} {size n : Nat} {v : Value} {xs : List Value} {r : Option Nat} (h : w.ownsRow B e size v n xs) (hg : w.grownBy w' r) (hne : ∀ g, v.ownBlock = some g → r ≠ some g) : w'.ownsRow B e size v n xs := by
 refine ⟨h.1, ?_⟩;rcases h.2 with h2 | ⟨g, cap, cur, e1, hgb, hc, hr⟩
 ·exact Or.inl h2
 ·exact Or.inr ⟨g, cap, cur, e1, hgb, heap_gro hc hg (hne g (by rw [e1]; rfl)), hr⟩
theorem RowE.nil (w : World) (B : Nat) : RowE w B (.slice none 0 0) [] := World.ownsRow_nil w B _ _
theorem exCells1_one (d : EC) : exCells1 [d] = d.list := by simp [exCells1]
theorem exCells1_app (l : List EC) (d : EC) : exCells1 (l ++ [d]) = exCells1 l ++ d.list := by
 rw [← exCells1_one d];unfold exCells1;rw [List.flatMap_append]
theorem rn_appE {o : Oper} {w : World} (a : Act) (s x : Operand) (ho : o.op = .call { callee := .builtin .append, args := #[s, x], argTypes := #[26, 26] }) (B : Nat) (v : Value) (l : List EC) (hs : a.eval s = v) (hown : RowE w B v l)
  (g : Nat) (d : EC) (hx : a.eval x = .slice (some ⟨g, 0, none⟩) 1 1) (hd : w.heap[g]? = some (exObj d)) (hn : l.length ≤ 1000000) (hB : B ≤ w.heap.size) :
  ∃ v' w', (execOp a.eval o).run Tryz.prog w = .ok (.value v') w' ∧ RowE w' B v' (l ++ [d]) ∧ w.grownBy w' v.ownBlock ∧ (∀ g, v'.ownBlock = some g → some g = v.ownBlock ∨ w.heap.size ≤ g) := by
 obtain ⟨i0, hi, hz0, hz1, hz2⟩ := info_parts cInfoX;obtain ⟨v', w', hr, h2, h3, h4⟩ := app_where w B 26 o.type 28 i0 _ 7 104 Tryz.underlying26 hi hz0 hz1 hz2 rfl (by decide) (by decide) v l.length _ hown ⟨g, 0, none⟩ 1 d.list (by rfl) (fun j u hu => by
  rw [Addr.add_mid, Nat.zero_add, cell_heap hd];exact List.getElem?_toArray.trans hu) (fun u hu => by
  first
   | exact d.list_one u hu
   | (simp only [List.mem_cons, List.not_mem_nil, or_false] at hu; rcases hu with rfl | rfl <;> rfl)
   | (simp only [List.mem_cons, List.not_mem_nil, or_false] at hu; rw [hu]; rfl)) hn hB
 refine ⟨v', w', ?_, ?_, h3, h4⟩
 ·unfold execOp;simp only [ho, resolve, invoke, builtin, Sem.run_bind, Sem.run_pure, Result.andThen_ok, List.map_toArray, List.map_cons, List.map_nil, hs, hx, hr]
 ·show w'.ownsRow B 28 7 v' (l ++ [d]).length (exCells1 (l ++ [d]));rw [exCells1_app, List.length_append];exact h2
set_option maxHeartbeats 1000000 in
set_option maxRecDepth 100000 in
theorem rn_row1E {o : Oper} {w : World} (a : Act) (x : Operand) (ho : o.op = .buildSlice 26 1 #[(0, x)]) (d : EC) (hx : a.eval x = d.val) : (execOp a.eval o).run Tryz.prog w = .ok (.value (.slice (some ⟨w.heap.size, 0, none⟩) 1 1)) (w.alloc (exObj d)) := by
 simp only [execOp, ho, List.map_toArray, List.map_cons, List.map_nil, hx, EC.val, exObj];go_simp
section
variable {ops : Array Oper} {Q : Exit → Act → World → Prop} {o : Oper} {a : Act} {i : Nat} {w : World} {K : Act → World → Prop}
theorem ot_run (hi : ops[i]? = some o) (hw : Region.wanted o (yielded ops a.tmps) = true) (v : Value) (w' : World) (hr : (execOp a.eval o).run Tryz.prog w = .ok (.value v) w') (h : K (a.put o.dst v) w') : wpOp Tryz.prog ops Q i K a w := by
 unfold wpOp;simp only [hi];rw [if_pos hw];refine Or.inl ?_;unfold Oper.wp;rw [hr];exact h
theorem ot_skip (hi : ops[i]? = some o) (hw : Region.wanted o (yielded ops a.tmps) = true) (w' : World) (hr : (execOp a.eval o).run Tryz.prog w = .ok .skip w') (h : K (a.put o.dst undef) w') : wpOp Tryz.prog ops Q i K a w := by
 unfold wpOp;simp only [hi];rw [if_pos hw];refine Or.inl ?_;unfold Oper.wp;rw [hr];exact h
theorem ot_call (hi : ops[i]? = some o) (hw : Region.wanted o (yielded ops a.tmps) = true)
  (f : Nat) (xs : Array Operand) (ts : Array TypeId) (ho : o.op = .call { callee := .value (.func f), args := xs, argTypes := ts }) (vs : Array Value) (hv : xs.toList.map a.eval = vs.toList)
  (hrun : ∀ (W : World) (A : Array Value), (callFunc f A).run Tryz.prog W = .ok (.enter f A) W)
  (hc : Calls Tryz.prog f vs w fun r w' => (∃ v, r = .returned v ∧ K (a.put o.dst v) w') ∨ (∃ ch, r = .panicked ch ∧ Q (.panic ch) a w')) : wpOp Tryz.prog ops Q i K a w := by
 unfold wpOp;simp only [hi];rw [if_pos hw];refine Or.inl ?_;have hv : xs.map a.eval = vs := by
  rw [← Array.toList_inj, Array.toList_map];exact hv
 have he : a.eval (.func f) = .func (.func f) #[] #[] := rfl;have hx : (execOp a.eval o).run Tryz.prog w = .ok (.enter f vs) w := by
  have := hrun w vs
  simp [execOp, ho, resolve, he, hv, Deferred.ofValue, invoke, this]
 unfold Oper.wp;rw [hx, Oper.upon_enter];refine hc.mono ?_;rintro e w' (⟨v, rfl, h1⟩ | ⟨ch, rfl, h1⟩)
 ·exact h1
 ·exact h1
theorem rn_putL (T : TypeId) (hT : T = 22 ∨ T = 23 ∨ T = 26) (x y : Operand) (ho : o.op = .store T x y) (g k : Nat) (hx : a.eval x = .pointer (some ⟨g, k, none⟩)) (p : Option Addr) (n c : Nat) (hy : a.eval y = .slice p n c)
  {cs : Array Value} {t : TypeId} (hc : w.heap[g]? = some (.cells cs t (0, 0))) (hk : k < cs.size) : (execOp a.eval o).run Tryz.prog w = .ok .skip (w.setCell ⟨g, k, none⟩ (.slice p n c)) := by
 have c0 : w.cell? ⟨g, k, none⟩ = some cs[k] := by rw [cell_heap hc, Array.getElem?_eq_getElem hk]
 have f0 := frozen_heap hc k;rcases hT with rfl | rfl | rfl
 ·simp only [execOp, ho, hx, hy];go_simp
 ·simp only [execOp, ho, hx, hy];go_simp
 ·simp only [execOp, ho, hx, hy];go_simp
theorem ot_row1E (hi : ops[i]? = some o) (hw : Region.wanted o (yielded ops a.tmps) = true) (x : Operand) (ho : o.op = .buildSlice 26 1 #[(0, x)]) (d : EC) (hx : a.eval x = d.val)
  (h : ∀ W g, w.heap.size ≤ g → W.heap[g]? = some (exObj d) → Below w.heap.size w W → K (a.put o.dst (.slice (some ⟨g, 0, none⟩) 1 1)) W) : wpOp Tryz.prog ops Q i K a w :=
 ot_run hi hw _ _ (rn_row1E a x ho d hx) (h _ _ (Nat.le_refl _) (heap_new _ _) ((Below.refl _ w).alloc (Nat.le_refl _) _))
theorem ot_appE (hi : ops[i]? = some o) (hw : Region.wanted o (yielded ops a.tmps) = true) (s x : Operand) (ho : o.op = .call { callee := .builtin .append, args := #[s, x], argTypes := #[26, 26] }) (B : Nat) (v : Value) (l : List EC) (hs : a.eval s = v) (hown : RowE w B v l)
  (g : Nat) (d : EC) (hx : a.eval x = .slice (some ⟨g, 0, none⟩) 1 1) (hd : w.heap[g]? = some (exObj d)) (hn : l.length ≤ 1000000) (hB : B ≤ w.heap.size)
  (h : ∀ v' W, RowE W B v' (l ++ [d]) → w.grownBy W v.ownBlock → (∀ g, v'.ownBlock = some g → some g = v.ownBlock ∨ w.heap.size ≤ g) → K (a.put o.dst v') W) : wpOp Tryz.prog ops Q i K a w := by
 obtain ⟨v', w', hr, h2, h3, h4⟩ := rn_appE a s x ho B v l hs hown g d hx hd hn hB;exact ot_run hi hw v' w' hr (h v' w' h2 h3 h4)
theorem ot_putL (hi : ops[i]? = some o) (hw : Region.wanted o (yielded ops a.tmps) = true) (T : TypeId) (hT : T = 22 ∨ T = 23 ∨ T = 26) (x y : Operand) (ho : o.op = .store T x y) (g k : Nat) (hx : a.eval x = .pointer (some ⟨g, k, none⟩)) (p : Option Addr) (n c : Nat) (hy : a.eval y = .slice p n c)
  {cs : Array Value} {t : TypeId} (hc : w.heap[g]? = some (.cells cs t (0, 0))) (hk : k < cs.size)
  (h : ∀ W, W.heap[g]? = some (.cells (cs.setIfInBounds k (.slice p n c)) t (0, 0)) → w.grownBy W (some g) → K (a.put o.dst undef) W) : wpOp Tryz.prog ops Q i K a w :=
 ot_skip hi hw _ (rn_putL T hT x y ho g k hx p n c hy hc hk) (h _ (heap_setCell _ hc) (grown_put _ _ _ _))
end
end Go.Proofs.YtlmdcaemjaldfaaGreat
namespace Go.Proofs.YtlmdcaemjaldfaaGreat
open Go.RowKit
def NewE (n : Nat) (W : World) (B : Nat) (v : Value) (d : EC) (x : ExV) : Prop :=
 ∃ (m : Nat) (V : World), B ≤ m ∧ Kept m V W ∧ (∀ g, v.ownBlock = some g → g < m ∨ V.heap.size ≤ g) ∧ ∀ w'', Kept m V w'' → ExAt n w'' d.val x
theorem kept_gr {m : Nat} {V W W' : World} {g : Nat} (h : Kept m V W) (k : W.grownBy W' (some g)) (hg : g < m ∨ V.heap.size ≤ g) : Kept m V W' :=
 ⟨Nat.le_trans h.size k.size, fun i hm hi => (k.block i (Nat.lt_of_lt_of_le hi h.size) (by intro e; injection e with e; omega)).trans (h.block i hm hi)⟩
theorem NewE.on {n : Nat} {W W' : World} {B : Nat} {v : Value} {d : EC} {x : ExV} (h : NewE n W B v d x) (k : Below W.heap.size W W') : NewE n W' B v d x := by
 obtain ⟨m, V, h1, h2, h3, h4⟩ := h;exact ⟨m, V, h1, h2.trans ⟨k.size, fun i _ hi => k.block i hi⟩, h3, h4⟩
theorem NewE.lt {n : Nat} {W W' : World} {B g : Nat} {v : Value} {d : EC} {x : ExV} (h : NewE n W B v d x) (k : W.grownBy W' (some g)) (hg : g < B) : NewE n W' B v d x := by
 obtain ⟨m, V, h1, h2, h3, h4⟩ := h;exact ⟨m, V, h1, kept_gr h2 k (by omega), h3, h4⟩
theorem NewE.app {n : Nat} {W W' : World} {B : Nat} {v v' : Value} {d : EC} {x : ExV} (h : NewE n W B v d x) (k : W.grownBy W' v.ownBlock) (ho : ∀ g, v'.ownBlock = some g → some g = v.ownBlock ∨ W.heap.size ≤ g) : NewE n W' B v' d x := by
 obtain ⟨m, V, h1, h2, h3, h4⟩ := h;refine ⟨m, V, h1, ⟨Nat.le_trans h2.size k.size, fun i hm hi => (k.block i (Nat.lt_of_lt_of_le hi h2.size) (by intro e; have := h3 i e.symm; omega)).trans (h2.block i hm hi)⟩, fun g hg => ?_, h4⟩;rcases ho g hg with e | e
 ·exact h3 g e.symm
 ·exact Or.inr (Nat.le_trans h2.size e)
def ElsK (n : Nat) (W : World) (B : Nat) (v : Value) (cs : List EC) (xs : List ExV) : Prop := xs.length ≤ cs.length ∧ ∀ j, j < xs.length → NewE n W B v (cs.getD j ec0) (xs.getD j noX)
theorem ElsK.on {n : Nat} {W W' : World} {B : Nat} {v : Value} {cs : List EC} {xs : List ExV} (h : ElsK n W B v cs xs) (k : Below W.heap.size W W') : ElsK n W' B v cs xs := ⟨h.1, fun j hj => (h.2 j hj).on k⟩
theorem ElsK.lt {n : Nat} {W W' : World} {B g : Nat} {v : Value} {cs : List EC} {xs : List ExV} (h : ElsK n W B v cs xs) (k : W.grownBy W' (some g)) (hg : g < B) : ElsK n W' B v cs xs := ⟨h.1, fun j hj => (h.2 j hj).lt k hg⟩
theorem ElsK.app {n : Nat} {W W' : World} {B : Nat} {v v' : Value} {cs : List EC} {xs : List ExV} (h : ElsK n W B v cs xs) (k : W.grownBy W' v.ownBlock) (ho : ∀ g, v'.ownBlock = some g → some g = v.ownBlock ∨ W.heap.size ≤ g) : ElsK n W' B v' cs xs := ⟨h.1, fun j hj => (h.2 j hj).app k ho⟩
theorem ElsK.snoc {n : Nat} {W : World} {B : Nat} {v : Value} {cs : List EC} {xs : List ExV} {d : EC} {x : ExV} (h : ElsK n W B v cs xs) (hl : cs.length = xs.length) (hd : NewE n W B v d x) : ElsK n W B v (cs ++ [d]) (xs ++ [x]) := by
 refine ⟨by simp; omega, fun j hj => ?_⟩;rw [List.length_append, List.length_cons, List.length_nil] at hj;by_cases e : j < xs.length
 ·have h1 : (cs ++ [d]).getD j ec0 = cs.getD j ec0 := by rw [List.getD_eq_getElem?_getD, List.getD_eq_getElem?_getD, List.getElem?_append_left (by omega)]
  have h2 : (xs ++ [x]).getD j noX = xs.getD j noX := by rw [List.getD_eq_getElem?_getD, List.getD_eq_getElem?_getD, List.getElem?_append_left e]
  rw [h1, h2];exact h.2 j e
 ·have e2 : j = xs.length := by omega
  have h1 : (cs ++ [d]).getD j ec0 = d := by rw [e2, ← hl, List.getD_eq_getElem?_getD, List.getElem?_append_right (Nat.le_refl _)]; simp
  have h2 : (xs ++ [x]).getD j noX = x := by rw [e2, List.getD_eq_getElem?_getD, List.getElem?_append_right (Nat.le_refl _)]; simp
  rw [h1, h2];exact hd
theorem own_after {w w' : World} {B : Nat} {e : TypeId} {size n b : Nat} {v : Value} {xs : List Value} (h : w.ownsRow B e size v n xs) (k : w.grownBy w' (some b)) (hb : b < B) : w'.ownsRow B e size v n xs :=
 ownsRow_gr h k fun g hg e => by
  have := (World.ownsRow.lt h g hg).1
  injection e with e
  omega
theorem flat7 : ∀ (cs : List EC) (j : Nat) (_ : j < 7) (i : Nat) (d : EC), cs[i]? = some d → (exCells1 cs)[i * 7 + j]? = d.list[j]?
 | [], _, _, _, _, h => by cases h
 | c :: cs, j, hj, 0, d, h => by
  rw [List.getElem?_cons_zero] at h
  injection h with h
  subst h;unfold exCells1;rw [List.flatMap_cons, List.getElem?_append_left (by rw [EC.list_len]; omega)]
  congr 1
  omega
 | c :: cs, j, hj, i + 1, d, h => by
  have ih := flat7 cs j hj i d (by simpa using h);unfold exCells1 at ih ⊢;rw [List.flatMap_cons, List.getElem?_append_right (by rw [EC.list_len]; omega), EC.list_len, ← ih]
  congr 1
  omega
def RwX (n : Nat) (p : Option Addr) (len c : Nat) (xs : List ExV) (w : World) : Prop :=
 len = xs.length ∧ len ≤ c ∧ c ≤ 9223372036854775807 ∧ (p = none → len = 0 ∧ c = 0) ∧ ∀ i, i < xs.length → ∃ (g off : Nat) (d : EC), p = some ⟨g, off, none⟩ ∧ g < w.heap.size ∧ EcAt w g (off + i * 7) d ∧ ExAt n w d.val (xs.getD i noX)
theorem rwX_own {n : Nat} {w : World} {B : Nat} {p : Option Addr} {c : Nat} {cs : List EC} {xs : List ExV} (hR : RowE w B (.slice p cs.length c) cs) (hl : cs.length = xs.length) (hE : ∀ i, i < xs.length → ExAt n w (cs.getD i ec0).val (xs.getD i noX)) : RwX n p cs.length c xs w := by
 obtain ⟨p', c', e, h1, h2, h3⟩ := ownsRow_form hR
 injection e with e1 e2 e3
 subst e1 e3;refine ⟨hl, h1, by unfold maxLen at h2; omega, h3, fun i hi => ?_⟩;have hi2 : i < cs.length := by omega
 cases p with
 | none => have := (h3 rfl).1; omega
 | some a =>
  obtain ⟨g, cur, e, _, hg⟩ := ownsRow_at hR;subst e;refine ⟨g, 0, cs.getD i ec0, rfl, lt_heap hg, ?_, hE i hi⟩;refine EcAt.ofRange fun j u hu => ?_
  rw [Nat.zero_add];refine ownsRow_cell hR (i * 7 + j) u ?_;have hj : j < 7 := by have := (List.getElem?_eq_some_iff.1 hu).1; rw [EC.list_len] at this; exact this
  have := flat7 cs j hj i (cs.getD i ec0) (by rw [List.getD_eq_getElem?_getD, List.getElem?_eq_getElem hi2]; rfl);exact this.trans hu
theorem exAt_row {n : Nat} {w : World} {p : Option Addr} {len c : Nat} {xs : List ExV} (kind : Int) (k0 : -9223372036854775808 ≤ kind) (k1 : kind ≤ 9223372036854775807) (h : RwX n p len c xs w) : ExAt (n + 1) w (EC.val ⟨kind, 0, SC.zero, p, len, c⟩) ⟨kind, 0, noSet, xs⟩ := by
 obtain ⟨rfl, h1, h2, h3, h4⟩ := h;exact ⟨⟨kind, 0, SC.zero, p, xs.length, c⟩, rfl, ⟨rfl, rfl, rfl, k0, k1, by simp, by simp, noSet_at w, h1, h2, h3⟩, h4⟩
section
variable {ops : Array Oper} {S : World → Prop} {o : Oper} {a : Act}
theorem yt_lenX (hw : Region.wanted o (yielded ops a.tmps) = true) (x : Operand) (ho : o.op = .call { callee := .builtin .len, args := #[x], argTypes := #[26] }) (p : Option Addr) (n c : Nat) (hx : a.eval x = .slice p n c) : YieldsIf Tryz.prog ops S o (.int .i64 n) a :=
 Or.inl ⟨hw, fun w hS => by
  unfold execOp;simp only [ho, resolve, invoke, builtin, Sem.run_bind, Sem.run_pure, Result.andThen_ok, List.map_toArray, List.map_cons, List.map_nil, hx];go_simp⟩
end
theorem c_cloneX_nil (w : World) : Calls Tryz.prog 99 #[.slice none 0 0] w fun r w' => r = .returned (.slice none 0 0) ∧ Below w.heap.size w w' :=
 (cloneX_nil w).mono fun r w' h => ⟨h.1, by rw [h.2]; exact Below.refl _ _⟩
set_option maxHeartbeats 4000000 in
set_option maxRecDepth 100000 in
theorem copiedList_nil (w : World) :
  Calls Tryz.prog 52 #[.slice none 0 0] w fun r w' => r = .returned (.slice none 0 0) ∧ Below w.heap.size w w' := by
 have D : w.grownBy w none := grown_refl _ _;go_enter Tryz.func52, Tryz.ntmps52;refine wp_seq_k (fun K1 hK1 => ?_);refine wp_region_lit ?_;refine wl_yield (o := .mk ..) (.slice none 0 0) (yl_assign (by rfl) _ rfl _ rfl) ?_;simp only [Act.put, lz];refine wpList_nil ?_;refine hK1 _ _ ?_;clear hK1 K1;refine wp_seq_k (fun K2 hK2 => ?_);refine wp_region_lit ?_;refine wl_yield (o := .mk ..) (.slice none 0 0) (yl_move (by rfl) _ rfl _ rfl) ?_;simp only [Act.put, lz];refine wt_call (o := .mk ..) (by rfl) 99 _ _ rfl #[.slice none 0 0] rfl (run_call Tryz.func99 (by kernel_rfl) (by kernel_rfl)) ?_;refine (c_cloneX_nil _).mono ?_;rintro r v1 ⟨rfl, kb⟩;replace D := grown_below D kb;clear kb;refine Or.inl ⟨.slice none 0 0, rfl, ?_⟩;simp only [Act.put, lz];refine wl_yield (o := .mk ..) (.slice none 0 0) (yl_assign (by rfl) _ rfl _ rfl) ?_;simp only [Act.put, lz];refine wpList_nil ?_;refine hK2 _ _ ?_;clear hK2 K2;refine wp_seq_k (fun K3 hK3 => ?_);refine wp_seq_k (fun K4 hK4 => ?_);refine wp_region_lit ?_;refine wl_yield (o := .mk ..) (.slice none 0 0) (yl_move (by rfl) _ rfl _ rfl) ?_;simp only [Act.put, lz];refine wl_yield (o := .mk ..) (.int .i64 (0 : Nat)) (yt_lenX (by rfl) _ rfl none 0 0 rfl) ?_;simp only [Act.put, lz];refine wl_yield (o := .mk ..) (.int .i64 0) (yl_move (by rfl) _ rfl _ rfl) ?_;simp only [Act.put, lz];refine wpList_nil ?_;refine hK4 _ _ ?_;clear hK4 K4;refine wp_block ?_;go_loopw [10] (fun i wr => i = .int .i64 ((0 : Nat) : Int) ∧ w.grownBy wr none) (fun i _ => 0)
 case atStart => exact ⟨rfl, D⟩
 case round =>
  clear D;obtain ⟨rfl, D⟩ := hrel;refine wp_seq_k (fun K5 hK5 => ?_);refine wp_region_lit ?_;refine wl_yield (o := .mk ..) (.bool false) (yt_lssI (by rfl) _ _ _ rfl ((0 : Nat) : Int) ((0 : Nat) : Int) false rfl rfl (by decide)) ?_;simp only [Act.put, lz];refine wpList_nil ?_;refine hK5 _ _ ?_;clear hK5 K5;refine wp_seq_k (fun K6 hK6 => ?_);refine wp_cond_false rfl ?_;refine wp_exit ?_;refine hK3 _ _ ?_;clear hK6 K6 hK3 K3;refine wp_seq_k (fun K7 hK7 => ?_);refine wp_region_lit ?_;refine wl_yield (o := .mk ..) (.slice none 0 0) (yl_move (by rfl) _ rfl _ rfl) ?_;simp only [Act.put, lz];refine wl_yield (o := .mk ..) (.slice none 0 0) (yl_assign (by rfl) _ rfl _ rfl) ?_;simp only [Act.put, lz];refine wpList_nil ?_;refine hK7 _ _ ?_;clear hK7 K7;refine wp_ret ?_;go_ret
  exact ⟨rfl, below_none D⟩
section
variable {ops : Array Oper} {S : World → Prop} {o : Oper} {a : Act}
set_option maxRecDepth 100000 in
theorem yw_buildAnd (hw : Region.wanted o (yielded ops a.tmps) = true) (x : Operand) (ho : o.op = .build 28 #[(0, .const (.int .i64 2)), (3, x)]) (hx : a.eval x = .slice none 0 0) : YieldsIf Tryz.prog ops S o (EC.val ⟨2, 0, SC.zero, none, 0, 0⟩) a :=
 Or.inl ⟨hw, fun w _ => by
  simp only [execOp, ho, List.map_toArray, List.map_cons, List.map_nil, hx, EC.val, SC.zero];go_simp⟩
end
set_option maxHeartbeats 4000000 in
set_option maxRecDepth 100000 in
theorem progAnd_nil (w : World) :
  Calls Tryz.prog 16 #[.slice none 0 0] w fun r w' => r = .returned (EC.val ⟨2, 0, SC.zero, none, 0, 0⟩) ∧ Below w.heap.size w w' := by
 have D : w.grownBy w none := grown_refl _ _;go_enter Tryz.func16, Tryz.ntmps16;refine wp_seq_k (fun K1 hK1 => ?_);refine wp_region_lit ?_;refine wt_allocEx (o := .mk ..) (by rfl) rfl (fun v1 g1 hg G1 kb => ?_);simp only [Act.put, lz];have ge_g1 : w.heap.size ≤ g1 := Nat.le_trans D.size hg;clear hg;replace D := grown_below D kb;clear kb;replace G1 : v1.heap[g1]? = some (.cells #[.int .i64 0, .int .i64 0, .bool false, .slice none 0 0, .bool false, .slice none 0 0, .slice none 0 0] 28 (0, 0)) := G1;refine wpList_nil ?_;refine hK1 _ _ ?_;clear hK1 K1;refine wp_seq_k (fun K2 hK2 => ?_);refine wp_region_lit ?_;refine wl_yield (o := .mk ..) (.slice none 0 0) (yl_move (by rfl) _ rfl _ rfl) ?_;simp only [Act.put, lz];refine wt_call (o := .mk ..) (by rfl) 52 _ _ rfl #[.slice none 0 0] rfl (run_call Tryz.func52 (by kernel_rfl) (by kernel_rfl)) ?_;refine (copiedList_nil _).mono ?_;rintro r v2 ⟨rfl, kb⟩;replace D := grown_below D kb;replace G1 := heap_on G1 kb;clear kb;refine Or.inl ⟨.slice none 0 0, rfl, ?_⟩;simp only [Act.put, lz];refine wl_yield (o := .mk ..) (EC.val (⟨2, 0, SC.zero, none, 0, 0⟩ : EC)) (yw_buildAnd (by rfl) _ rfl rfl) ?_;simp only [Act.put, lz];refine wt_putEx (o := .mk ..) rfl _ _ rfl _ rfl ((⟨2, 0, SC.zero, none, 0, 0⟩ : EC)) rfl G1 rfl (fun v3 X kg => ?_);simp only [Act.put, lz];replace D := gr_new D ge_g1 kg;clear kg;replace G1 : v3.heap[g1]? = some (.cells #[.int .i64 ((⟨2, 0, SC.zero, none, 0, 0⟩ : EC).k), .int .i64 ((⟨2, 0, SC.zero, none, 0, 0⟩ : EC).t), .bool ((⟨2, 0, SC.zero, none, 0, 0⟩ : EC).s.a), .slice (⟨2, 0, SC.zero, none, 0, 0⟩ : EC).s.p (⟨2, 0, SC.zero, none, 0, 0⟩ : EC).s.n (⟨2, 0, SC.zero, none, 0, 0⟩ : EC).s.c, .bool ((⟨2, 0, SC.zero, none, 0, 0⟩ : EC).s.d), .slice (⟨2, 0, SC.zero, none, 0, 0⟩ : EC).s.q (⟨2, 0, SC.zero, none, 0, 0⟩ : EC).s.m (⟨2, 0, SC.zero, none, 0, 0⟩ : EC).s.e, .slice (⟨2, 0, SC.zero, none, 0, 0⟩ : EC).p (⟨2, 0, SC.zero, none, 0, 0⟩ : EC).n (⟨2, 0, SC.zero, none, 0, 0⟩ : EC).c] 28 (0, 0)) := X;clear X;refine wpList_nil ?_;refine hK2 _ _ ?_;clear hK2 K2;refine wp_ret ?_
 try simp only [Exit.inBlock, Exit.then]
 exact bodyPost_ret (results_cell_row rfl _ _ g1 28 _ (0, 0) _ rfl G1 Tryz.underlying28 rfl infoEx) rfl ⟨rfl, below_none D⟩
end Go.Proofs.YtlmdcaemjaldfaaGreat
namespace Go.Proofs.YtlmdcaemjaldfaaGreat
open Go.RowKit
def BoxAt (w : World) (v : Value) (b : BoxV) : Prop := ∃ (pi0 ps0 pi1 ps1 pi2 ps2 pi3 ps3 : Option Addr) (ci0 cs0 ci1 cs1 ci2 cs2 ci3 cs3 : Nat),
 v = .agg #[.bool b.s0.absent, .slice pi0 b.s0.ints.length ci0, .bool b.s0.co, .slice ps0 b.s0.strs.length cs0, .bool b.s1.absent, .slice pi1 b.s1.ints.length ci1, .bool b.s1.co, .slice ps1 b.s1.strs.length cs1, .bool b.s2.absent, .slice pi2 b.s2.ints.length ci2, .bool b.s2.co, .slice ps2 b.s2.strs.length cs2, .bool b.s3.absent, .slice pi3 b.s3.ints.length ci3, .bool b.s3.co, .slice ps3 b.s3.strs.length cs3] ∧
 SetAt w (.agg #[.bool b.s0.absent, .slice pi0 b.s0.ints.length ci0, .bool b.s0.co, .slice ps0 b.s0.strs.length cs0]) b.s0 ∧ SetAt w (.agg #[.bool b.s1.absent, .slice pi1 b.s1.ints.length ci1, .bool b.s1.co, .slice ps1 b.s1.strs.length cs1]) b.s1 ∧ SetAt w (.agg #[.bool b.s2.absent, .slice pi2 b.s2.ints.length ci2, .bool b.s2.co, .slice ps2 b.s2.strs.length cs2]) b.s2 ∧ SetAt w (.agg #[.bool b.s3.absent, .slice pi3 b.s3.ints.length ci3, .bool b.s3.co, .slice ps3 b.s3.strs.length cs3]) b.s3
theorem BoxAt.on {w w' : World} {v : Value} {b : BoxV} (h : BoxAt w v b) (hb : Below w.heap.size w w') : BoxAt w' v b := by
 obtain ⟨pi0, ps0, pi1, ps1, pi2, ps2, pi3, ps3, ci0, cs0, ci1, cs1, ci2, cs2, ci3, cs3, hv, h0, h1, h2, h3⟩ := h;exact ⟨pi0, ps0, pi1, ps1, pi2, ps2, pi3, ps3, ci0, cs0, ci1, cs1, ci2, cs2, ci3, cs3, hv, h0.on hb, h1.on hb, h2.on hb, h3.on hb⟩
def rightBx (b : BoxV) : Bool := all4 fun i => rightSet (b.get i)
end Go.Proofs.YtlmdcaemjaldfaaGreat
namespace Go.Proofs.YtlmdcaemjaldfaaGreat
open Go.RowKit
theorem bxCells {w : World} {g : Nat} {t : TypeId} {x0 x1 x2 x3 x4 x5 x6 x7 x8 x9 x10 x11 x12 x13 x14 x15 : Value} (h : w.heap[g]? = some (.cells #[x0, x1, x2, x3, x4, x5, x6, x7, x8, x9, x10, x11, x12, x13, x14, x15] t (0, 0))) : w.cell? ⟨g, 0, none⟩ = some x0 ∧ w.cell? ⟨g, 1, none⟩ = some x1 ∧ w.cell? ⟨g, 2, none⟩ = some x2 ∧ w.cell? ⟨g, 3, none⟩ = some x3 ∧ w.cell? ⟨g, 4, none⟩ = some x4 ∧ w.cell? ⟨g, 5, none⟩ = some x5 ∧ w.cell? ⟨g, 6, none⟩ = some x6 ∧ w.cell? ⟨g, 7, none⟩ = some x7 ∧ w.cell? ⟨g, 8, none⟩ = some x8 ∧ w.cell? ⟨g, 9, none⟩ = some x9 ∧ w.cell? ⟨g, 10, none⟩ = some x10 ∧ w.cell? ⟨g, 11, none⟩ = some x11 ∧ w.cell? ⟨g, 12, none⟩ = some x12 ∧ w.cell? ⟨g, 13, none⟩ = some x13 ∧ w.cell? ⟨g, 14, none⟩ = some x14 ∧ w.cell? ⟨g, 15, none⟩ = some x15 :=
 ⟨cell_heap h 0, cell_heap h 1, cell_heap h 2, cell_heap h 3, cell_heap h 4, cell_heap h 5, cell_heap h 6, cell_heap h 7, cell_heap h 8, cell_heap h 9, cell_heap h 10, cell_heap h 11, cell_heap h 12, cell_heap h 13, cell_heap h 14, cell_heap h 15⟩
set_option maxHeartbeats 4000000 in
set_option maxRecDepth 100000 in
theorem refHasBx_any (v : Value) (b : BoxV) (e : EvV) (w : World) (hv : BoxAt w v b) (hf : evFit e) :
  Calls Tryz.prog 57 #[v, evVal e] w fun r w' => r = .returned (.bool (hasE b e)) ∧ Below w.heap.size w w' := by
 obtain ⟨pi0, ps0, pi1, ps1, pi2, ps2, pi3, ps3, ci0, cs0, ci1, cs1, ci2, cs2, ci3, cs3, rfl, h0, h1, h2, h3⟩ := hv;have EV0 := fun (W : World) => hide (refEvent_any e W hf)
 unfold evVal at EV0 ⊢;have HR : Hid (hasE b e = (((hasP b.s0 e.v0 && hasP b.s1 e.v1) && hasP b.s2 e.v2) && hasP b.s3 e.v3)) := hide rfl;have HN : Hid (rightE e = false → hasE b e = false) := hide (fun h => by
  cases hh : hasE b e
  ·rfl
  ·rw [hasE_iff] at hh;have : rightE e = true := (all4_iff _).2 fun i hi => has_right (hh i hi)
   rw [h] at this;cases this)
 have R0 := fun (W : World) (hb : Below w.heap.size w W) => hide (refHas_any _ b.s0 e.v0.1 e.v0.2.1 e.v0.2.2 W (h0.on hb) hf.1)
 have R1 := fun (W : World) (hb : Below w.heap.size w W) => hide (refHas_any _ b.s1 e.v1.1 e.v1.2.1 e.v1.2.2 W (h1.on hb) hf.2.1)
 have R2 := fun (W : World) (hb : Below w.heap.size w W) => hide (refHas_any _ b.s2 e.v2.1 e.v2.2.1 e.v2.2.2 W (h2.on hb) hf.2.2.1)
 have R3 := fun (W : World) (hb : Below w.heap.size w W) => hide (refHas_any _ b.s3 e.v3.1 e.v3.2.1 e.v3.2.2 W (h3.on hb) hf.2.2.2)
 change ∀ (W : World) (hb : Below w.heap.size w W), Hid (Calls _ _ _ _ fun r w' => r = .returned (.bool (hasP b.s0 e.v0)) ∧ _) at R0
 change ∀ (W : World) (hb : Below w.heap.size w W), Hid (Calls _ _ _ _ fun r w' => r = .returned (.bool (hasP b.s1 e.v1)) ∧ _) at R1
 change ∀ (W : World) (hb : Below w.heap.size w W), Hid (Calls _ _ _ _ fun r w' => r = .returned (.bool (hasP b.s2 e.v2)) ∧ _) at R2
 change ∀ (W : World) (hb : Below w.heap.size w W), Hid (Calls _ _ _ _ fun r w' => r = .returned (.bool (hasP b.s3 e.v3)) ∧ _) at R3
 generalize hasP b.s0 e.v0 = q0 at HR R0;generalize hasP b.s1 e.v1 = q1 at HR R1;generalize hasP b.s2 e.v2 = q2 at HR R2;generalize hasP b.s3 e.v3 = q3 at HR R3;generalize rightE e = re at EV0 HN;have T0 := hide (Two.start w (Obj.cells #[.bool b.s0.absent, .slice pi0 b.s0.ints.length ci0, .bool b.s0.co, .slice ps0 b.s0.strs.length cs0, .bool b.s1.absent, .slice pi1 b.s1.ints.length ci1, .bool b.s1.co, .slice ps1 b.s1.strs.length cs1, .bool b.s2.absent, .slice pi2 b.s2.ints.length ci2, .bool b.s2.co, .slice ps2 b.s2.strs.length cs2, .bool b.s3.absent, .slice pi3 b.s3.ints.length ci3, .bool b.s3.co, .slice ps3 b.s3.strs.length cs3] 40) (Obj.cells #[.int .i64 e.v0.1, .int .i64 e.v0.2.1, .string e.v0.2.2, .int .i64 e.v1.1, .int .i64 e.v1.2.1, .string e.v1.2.2, .int .i64 e.v2.1, .int .i64 e.v2.2.1, .string e.v2.2.2, .int .i64 e.v3.1, .int .i64 e.v3.2.1, .string e.v3.2.2] 44));clear h0 h1 h2 h3 hf;obtain ⟨f0, f1, f2, f3, f4, f5, f6, f7, f8, f9, f10, f11⟩ := evCells T0.out.e2;go_enter Tryz.func57, Tryz.ntmps57
 go_wp2_with fail
 refine (unhide (EV0 _)).mono ?_;rintro r w1 ⟨rfl, b1⟩;have T1 := hide (T0.out.on b1);clear T0 b1 EV0 f0 f1 f2 f3 f4 f5 f6 f7 f8 f9 f10 f11;cases re
 ·have HF := hide (HN.out rfl);clear HN
  go_wp2
  go_ret
  exact ⟨ret_bool HF.out.symm, T1.out.b⟩
 ·clear HN
  go_wp2
  go_loopw [5] (fun i wr => ∃ k : Int, i = .int .i64 k ∧ (k = 0 ∨ (k = 1 ∧ Hid (q0 = true)) ∨ (k = 2 ∧ Hid (q0 = true ∧ q1 = true)) ∨ (k = 3 ∧ Hid (q0 = true ∧ q1 = true ∧ q2 = true)) ∨ (k = 4 ∧ Hid (hasE b e = true))) ∧ Hid (Two w wr (Obj.cells #[.bool b.s0.absent, .slice pi0 b.s0.ints.length ci0, .bool b.s0.co, .slice ps0 b.s0.strs.length cs0, .bool b.s1.absent, .slice pi1 b.s1.ints.length ci1, .bool b.s1.co, .slice ps1 b.s1.strs.length cs1, .bool b.s2.absent, .slice pi2 b.s2.ints.length ci2, .bool b.s2.co, .slice ps2 b.s2.strs.length cs2, .bool b.s3.absent, .slice pi3 b.s3.ints.length ci3, .bool b.s3.co, .slice ps3 b.s3.strs.length cs3] 40) (Obj.cells #[.int .i64 e.v0.1, .int .i64 e.v0.2.1, .string e.v0.2.2, .int .i64 e.v1.1, .int .i64 e.v1.2.1, .string e.v1.2.2, .int .i64 e.v2.1, .int .i64 e.v2.2.1, .string e.v2.2.2, .int .i64 e.v3.1, .int .i64 e.v3.2.1, .string e.v3.2.2] 44))) (fun i _ => 4 - (intOf i).toNat)
  case atStart => exact ⟨0, rfl, Or.inl rfl, T1⟩
  case round =>
   clear T1;obtain ⟨k, rfl, hk, HT⟩ := hrel;rcases hk with rfl | ⟨rfl, HP⟩ | ⟨rfl, HP⟩ | ⟨rfl, HP⟩ | ⟨rfl, HP⟩
   ·obtain ⟨c0, c1, c2, c3, c4, c5, c6, c7, c8, c9, c10, c11, c12, c13, c14, c15⟩ := bxCells HT.out.e1;obtain ⟨d0, d1, d2, d3, d4, d5, d6, d7, d8, d9, d10, d11⟩ := evCells HT.out.e2;have X := fun (d : Nat) (os : Array Obj) => hide (Calls.regrown_of (R0 (Sort.grow (redrawn wr d) os) (HT.out.b.trans ((below_regrown wr d os).mono HT.out.b.size))).out)
    have p0 := cell_regrown c0;have p1 := cell_regrown c1;have p2 := cell_regrown c2;have p3 := cell_regrown c3;have p4 := cell_regrown d0;have p5 := cell_regrown d1;have p6 := cell_regrown d2;clear R0 R1 R2 R3 c0 c1 c2 c3 c4 c5 c6 c7 c8 c9 c10 c11 c12 c13 c14 c15 d0 d1 d2 d3 d4 d5 d6 d7 d8 d9 d10 d11
    go_wp2
    refine wp_region_quiet_below mixed (by kernel_rfl) ?_
    repeat (first | go_big_quiet_step (exact unhide (X _ _)) | quiet_step (exact unhide (X _ _)))
    refine wpQuiet_nil ?_;intro _ hw';obtain ⟨⟨dq, osq⟩, hw''⟩ := hw';subst hw'';have HT2 := hide (HT.out.on (below_regrown wr dq osq));clear X p0 p1 p2 p3 p4 p5 p6;dsimp only;generalize Sort.grow (redrawn wr dq) osq = w2 at HT2 ⊢;cases hr : q0
    ·have HF : Hid (hasE b e = false) := hide (by rw [HR.out, hr]; simp)
     go_wp2
     go_ret
     exact ⟨ret_bool HF.out.symm, HT2.out.b⟩
    ·go_wp2
     exact ⟨⟨1, rfl, Or.inr (Or.inl ⟨rfl, hide hr⟩), HT2⟩, by simp [intOf]⟩
   ·obtain ⟨c0, c1, c2, c3, c4, c5, c6, c7, c8, c9, c10, c11, c12, c13, c14, c15⟩ := bxCells HT.out.e1;obtain ⟨d0, d1, d2, d3, d4, d5, d6, d7, d8, d9, d10, d11⟩ := evCells HT.out.e2;have X := fun (d : Nat) (os : Array Obj) => hide (Calls.regrown_of (R1 (Sort.grow (redrawn wr d) os) (HT.out.b.trans ((below_regrown wr d os).mono HT.out.b.size))).out)
    have p0 := cell_regrown c4;have p1 := cell_regrown c5;have p2 := cell_regrown c6;have p3 := cell_regrown c7;have p4 := cell_regrown d3;have p5 := cell_regrown d4;have p6 := cell_regrown d5;clear R0 R1 R2 R3 c0 c1 c2 c3 c4 c5 c6 c7 c8 c9 c10 c11 c12 c13 c14 c15 d0 d1 d2 d3 d4 d5 d6 d7 d8 d9 d10 d11
    go_wp2
    refine wp_region_quiet_below mixed (by kernel_rfl) ?_
    repeat (first | go_big_quiet_step (exact unhide (X _ _)) | quiet_step (exact unhide (X _ _)))
    refine wpQuiet_nil ?_;intro _ hw';obtain ⟨⟨dq, osq⟩, hw''⟩ := hw';subst hw'';have HT2 := hide (HT.out.on (below_regrown wr dq osq));clear X p0 p1 p2 p3 p4 p5 p6;dsimp only;generalize Sort.grow (redrawn wr dq) osq = w2 at HT2 ⊢;cases hr : q1
    ·have HF : Hid (hasE b e = false) := hide (by rw [HR.out, hr]; simp)
     go_wp2
     go_ret
     exact ⟨ret_bool HF.out.symm, HT2.out.b⟩
    ·go_wp2
     exact ⟨⟨2, rfl, Or.inr (Or.inr (Or.inl ⟨rfl, hide ⟨HP.out, hr⟩⟩)), HT2⟩, by simp [intOf]⟩
   ·obtain ⟨c0, c1, c2, c3, c4, c5, c6, c7, c8, c9, c10, c11, c12, c13, c14, c15⟩ := bxCells HT.out.e1;obtain ⟨d0, d1, d2, d3, d4, d5, d6, d7, d8, d9, d10, d11⟩ := evCells HT.out.e2;have X := fun (d : Nat) (os : Array Obj) => hide (Calls.regrown_of (R2 (Sort.grow (redrawn wr d) os) (HT.out.b.trans ((below_regrown wr d os).mono HT.out.b.size))).out)
    have p0 := cell_regrown c8;have p1 := cell_regrown c9;have p2 := cell_regrown c10;have p3 := cell_regrown c11;have p4 := cell_regrown d6;have p5 := cell_regrown d7;have p6 := cell_regrown d8;clear R0 R1 R2 R3 c0 c1 c2 c3 c4 c5 c6 c7 c8 c9 c10 c11 c12 c13 c14 c15 d0 d1 d2 d3 d4 d5 d6 d7 d8 d9 d10 d11
    go_wp2
    refine wp_region_quiet_below mixed (by kernel_rfl) ?_
    repeat (first | go_big_quiet_step (exact unhide (X _ _)) | quiet_step (exact unhide (X _ _)))
    refine wpQuiet_nil ?_;intro _ hw';obtain ⟨⟨dq, osq⟩, hw''⟩ := hw';subst hw'';have HT2 := hide (HT.out.on (below_regrown wr dq osq));clear X p0 p1 p2 p3 p4 p5 p6;dsimp only;generalize Sort.grow (redrawn wr dq) osq = w2 at HT2 ⊢;cases hr : q2
    ·have HF : Hid (hasE b e = false) := hide (by rw [HR.out, hr]; simp)
     go_wp2
     go_ret
     exact ⟨ret_bool HF.out.symm, HT2.out.b⟩
    ·go_wp2
     exact ⟨⟨3, rfl, Or.inr (Or.inr (Or.inr (Or.inl ⟨rfl, hide ⟨HP.out.1, HP.out.2, hr⟩⟩))), HT2⟩, by simp [intOf]⟩
   ·obtain ⟨c0, c1, c2, c3, c4, c5, c6, c7, c8, c9, c10, c11, c12, c13, c14, c15⟩ := bxCells HT.out.e1;obtain ⟨d0, d1, d2, d3, d4, d5, d6, d7, d8, d9, d10, d11⟩ := evCells HT.out.e2;have X := fun (d : Nat) (os : Array Obj) => hide (Calls.regrown_of (R3 (Sort.grow (redrawn wr d) os) (HT.out.b.trans ((below_regrown wr d os).mono HT.out.b.size))).out)
    have p0 := cell_regrown c12;have p1 := cell_regrown c13;have p2 := cell_regrown c14;have p3 := cell_regrown c15;have p4 := cell_regrown d9;have p5 := cell_regrown d10;have p6 := cell_regrown d11;clear R0 R1 R2 R3 c0 c1 c2 c3 c4 c5 c6 c7 c8 c9 c10 c11 c12 c13 c14 c15 d0 d1 d2 d3 d4 d5 d6 d7 d8 d9 d10 d11
    go_wp2
    refine wp_region_quiet_below mixed (by kernel_rfl) ?_
    repeat (first | go_big_quiet_step (exact unhide (X _ _)) | quiet_step (exact unhide (X _ _)))
    refine wpQuiet_nil ?_;intro _ hw';obtain ⟨⟨dq, osq⟩, hw''⟩ := hw';subst hw'';have HT2 := hide (HT.out.on (below_regrown wr dq osq));clear X p0 p1 p2 p3 p4 p5 p6;dsimp only;generalize Sort.grow (redrawn wr dq) osq = w2 at HT2 ⊢;cases hr : q3
    ·have HF : Hid (hasE b e = false) := hide (by rw [HR.out, hr]; simp)
     go_wp2
     go_ret
     exact ⟨ret_bool HF.out.symm, HT2.out.b⟩
    ·go_wp2
     exact ⟨⟨4, rfl, Or.inr (Or.inr (Or.inr (Or.inr ⟨rfl, hide (by rw [HR.out, HP.out.1, HP.out.2.1, HP.out.2.2, hr]; rfl)⟩))), HT2⟩, by simp [intOf]⟩
   ·go_wp2
    go_ret
    exact ⟨ret_bool HP.out.symm, HT.out.b⟩
end Go.Proofs.YtlmdcaemjaldfaaGreat
namespace Go.Proofs.YtlmdcaemjaldfaaGreat
open Go.RowKit
set_option maxHeartbeats 2000000 in
set_option maxRecDepth 100000 in
theorem refFew_any (v : Value) (l : List SetV) (w : World) (hv : SetsAt w v l) :
  Calls Tryz.prog 81 #[v] w fun r w' => r = .returned (.bool (l.all fewB)) ∧ w' = w := by
 obtain ⟨hlen, a, cap, rfl, hel⟩ := hv;have HE := hide hel;clear hel;generalize hB : l.all fewB = B;have HB : Hid ((l.drop 0).all fewB = B) := hide (by rw [List.drop_zero]; exact hB);clear hB;obtain ⟨N, hN⟩ : ∃ N : Nat, N = l.length := ⟨_, rfl⟩
 rw [← hN] at hlen ⊢;have HN := hide hN;clear hN;go_enter Tryz.func81, Tryz.ntmps81
 go_wp2
 go_loopw [3] (fun i wr => ∃ k : Nat, i = .int .i64 k ∧ k ≤ N ∧ wr = w ∧ Hid ((l.drop k).all fewB = B)) (fun i _ => N - (intOf i).toNat)
 case atStart => exact ⟨0, rfl, by omega, rfl, HB⟩
 case round =>
  obtain ⟨k, rfl, hk, rfl, HD⟩ := hrel;clear HB;by_cases hlt : k < N
  ·obtain ⟨b, off, vi, vs, rfl, hb, c0, c1, c2, c3, hI, hS⟩ := HE.out k (by rw [← HN.out]; exact hlt);have D0 := HD.out;rw [drop_getD l k noSet (by rw [← HN.out]; exact hlt), List.all_cons] at D0;generalize l.getD k noSet = S at *;obtain ⟨ai, ci, rfl⟩ := hI.form;obtain ⟨aq, cq, rfl⟩ := hS.form;obtain ⟨sa, si, sc, ss⟩ := S;dsimp only at *;have nIle := hI.2.1;have nSle := hS.2.1;have HS := hide hS;have HD0 := hide D0;clear D0 HD hI hS;have few1 : ¬ (si.length ≤ 40 ∧ ss.length ≤ 40) → fewB ⟨sa, si, sc, ss⟩ = false := fun h => by
    unfold fewB;dsimp only;rw [Bool.and_eq_false_iff]
    left
    rw [Bool.and_eq_false_iff, decide_eq_false_iff_not, decide_eq_false_iff_not];omega
   have few2 : si.length ≤ 40 ∧ ss.length ≤ 40 → fewB ⟨sa, si, sc, ss⟩ = (ss.all fun s => decide (s.size ≤ 100)) := fun h => by
    unfold fewB;dsimp only;rw [decide_eq_true h.1, decide_eq_true h.2]; rfl
   obtain ⟨nI, hnI⟩ : ∃ n : Nat, n = si.length := ⟨_, rfl⟩
   obtain ⟨nS, hnS⟩ : ∃ n : Nat, n = ss.length := ⟨_, rfl⟩
   rw [← hnI] at nIle few1 few2 c1;rw [← hnS] at nSle few1 few2 c3;have HnS := hide hnS;have F1 := hide few1;have F2 := hide few2;clear hnI hnS few1 few2;by_cases big : nI ≤ 40 ∧ nS ≤ 40
   ·have g1 : ¬ (40 : Int) < (nI : Int) := by omega
    have g2 : ¬ (40 : Int) < (nS : Int) := by omega
    have F3 := hide (F2.out big);clear F1 F2 big
    go_wp2
    go_loopw [4] (fun i wr' => ∃ j : Nat, i = .int .i64 j ∧ j ≤ nS ∧ wr' = wr ∧ Hid ((ss.drop j).all (fun s => decide (s.size ≤ 100)) = ss.all fun s => decide (s.size ≤ 100))) (fun i _ => nS - (intOf i).toNat)
    case atStart => exact ⟨0, rfl, by omega, rfl, hide rfl⟩
    case round =>
     obtain ⟨j, rfl, hj, rfl, HG⟩ := hrel;by_cases hjt : j < nS
     ·obtain ⟨b', off', rfl, hb', d0⟩ := HS.out.at.2 j (by rw [← HnS.out]; exact hjt);have q0 := HS.out.bound j (by rw [← HnS.out]; exact hjt);have G0 := HG.out;rw [drop_getD ss j ⟨#[]⟩ (by rw [← HnS.out]; exact hjt), List.all_cons] at G0;generalize ss.getD j ⟨#[]⟩ = q at *;have G1 := hide G0;clear G0 HG;by_cases hq : q.size ≤ 100
      ·have G2 : Hid ((ss.drop (j + 1)).all (fun s => decide (s.size ≤ 100)) = ss.all fun s => decide (s.size ≤ 100)) := hide (by rw [← G1.out, decide_eq_true hq]; rfl);have hq' : ¬ (100 : Int) < (q.size : Int) := by omega
       clear G1
       go_wp2
       exact ⟨⟨j + 1, by go_num, by omega, trivial, G2⟩, by simp [intOf]; omega⟩
      ·have G2 : Hid (B = false) := hide (by rw [← HD0.out, F3.out, ← G1.out, decide_eq_false hq]; rfl);have hq' : (100 : Int) < (q.size : Int) := by omega
       clear G1
       go_wp2
       go_ret
       exact ⟨ret_bool G2.out.symm, rfl⟩
     ·have hge : (nS : Int) ≤ (j : Int) := by omega
      have G2 : Hid ((l.drop (k + 1)).all fewB = B) := hide (by
       rw [← HD0.out, F3.out, ← HG.out, List.drop_eq_nil_of_le (show ss.length ≤ j by have := HnS.out; omega)]; rfl)
      go_wp2
      exact ⟨⟨k + 1, by go_num, by omega, trivial, G2⟩, by simp [intOf]; omega⟩
   ·have G2 : Hid (B = false) := hide (by rw [← HD0.out, F1.out big]; rfl);have gg : (40 : Int) < (nI : Int) ∨ (¬ (40 : Int) < (nI : Int) ∧ (40 : Int) < (nS : Int)) := by omega
    clear big F1 F2;rcases gg with g1 | ⟨g1, g2⟩
    all_goals
     go_wp2
     go_ret
     exact ⟨ret_bool G2.out.symm, rfl⟩
  ·have hge : (N : Int) ≤ (k : Int) := by omega
   have E : Hid (B = true) := hide (by rw [← HD.out, List.drop_eq_nil_of_le (by have := HN.out; omega)]; rfl)
   go_wp2
   go_ret
   exact ⟨ret_bool E.out.symm, rfl⟩
end Go.Proofs.YtlmdcaemjaldfaaGreat
namespace Go.Proofs.YtlmdcaemjaldfaaGreat
open Go.RowKit
def noBox : BoxV := ⟨noSet, noSet, noSet, noSet⟩
def BoxesAt (w : World) (v : Value) (l : List BoxV) : Prop :=
 l.length ≤ 9223372036854775807 ∧ ∃ (a : Option Addr) (cap : Nat), v = .slice a l.length cap ∧ ∀ i, i < l.length → ∃ (g off : Nat) (vi0 vs0 vi1 vs1 vi2 vs2 vi3 vs3 : Value), a = some ⟨g, off, none⟩ ∧ g < w.heap.size ∧
  (w.cell? ⟨g, off + i * 16, none⟩ = some (.bool (l.getD i noBox).s0.absent) ∧ w.cell? ⟨g, off + i * 16 + 1, none⟩ = some (vi0) ∧ w.cell? ⟨g, off + i * 16 + 2, none⟩ = some (.bool (l.getD i noBox).s0.co) ∧ w.cell? ⟨g, off + i * 16 + 3, none⟩ = some (vs0) ∧ w.cell? ⟨g, off + i * 16 + 4, none⟩ = some (.bool (l.getD i noBox).s1.absent) ∧ w.cell? ⟨g, off + i * 16 + 5, none⟩ = some (vi1) ∧ w.cell? ⟨g, off + i * 16 + 6, none⟩ = some (.bool (l.getD i noBox).s1.co) ∧ w.cell? ⟨g, off + i * 16 + 7, none⟩ = some (vs1) ∧ w.cell? ⟨g, off + i * 16 + 8, none⟩ = some (.bool (l.getD i noBox).s2.absent) ∧ w.cell? ⟨g, off + i * 16 + 9, none⟩ = some (vi2) ∧ w.cell? ⟨g, off + i * 16 + 10, none⟩ = some (.bool (l.getD i noBox).s2.co) ∧ w.cell? ⟨g, off + i * 16 + 11, none⟩ = some (vs2) ∧ w.cell? ⟨g, off + i * 16 + 12, none⟩ = some (.bool (l.getD i noBox).s3.absent) ∧ w.cell? ⟨g, off + i * 16 + 13, none⟩ = some (vi3) ∧ w.cell? ⟨g, off + i * 16 + 14, none⟩ = some (.bool (l.getD i noBox).s3.co) ∧ w.cell? ⟨g, off + i * 16 + 15, none⟩ = some (vs3)) ∧ (SetAt w (.agg #[.bool (l.getD i noBox).s0.absent, vi0, .bool (l.getD i noBox).s0.co, vs0]) (l.getD i noBox).s0 ∧ SetAt w (.agg #[.bool (l.getD i noBox).s1.absent, vi1, .bool (l.getD i noBox).s1.co, vs1]) (l.getD i noBox).s1 ∧ SetAt w (.agg #[.bool (l.getD i noBox).s2.absent, vi2, .bool (l.getD i noBox).s2.co, vs2]) (l.getD i noBox).s2 ∧ SetAt w (.agg #[.bool (l.getD i noBox).s3.absent, vi3, .bool (l.getD i noBox).s3.co, vs3]) (l.getD i noBox).s3)
def fewBx (b : BoxV) : Bool := [b.s0, b.s1, b.s2, b.s3].all fewB
theorem four_sets {w : World} {x : BoxV} {vi0 vs0 vi1 vs1 vi2 vs2 vi3 vs3 : Value} (h : SetAt w (.agg #[.bool x.s0.absent, vi0, .bool x.s0.co, vs0]) x.s0 ∧ SetAt w (.agg #[.bool x.s1.absent, vi1, .bool x.s1.co, vs1]) x.s1 ∧ SetAt w (.agg #[.bool x.s2.absent, vi2, .bool x.s2.co, vs2]) x.s2 ∧ SetAt w (.agg #[.bool x.s3.absent, vi3, .bool x.s3.co, vs3]) x.s3) (n : Nat) (hn : n = w.heap.size) : SetsAt (w.alloc (Obj.cells #[.bool x.s0.absent, vi0, .bool x.s0.co, vs0, .bool x.s1.absent, vi1, .bool x.s1.co, vs1, .bool x.s2.absent, vi2, .bool x.s2.co, vs2, .bool x.s3.absent, vi3, .bool x.s3.co, vs3] 25)) (.slice (some ⟨n, 0, none⟩) 4 4) [x.s0, x.s1, x.s2, x.s3] := by
 subst hn;obtain ⟨h0, h1, h2, h3⟩ := h;have hb := (Below.refl _ w).alloc (Nat.le_refl _) (Obj.cells #[.bool x.s0.absent, vi0, .bool x.s0.co, vs0, .bool x.s1.absent, vi1, .bool x.s1.co, vs1, .bool x.s2.absent, vi2, .bool x.s2.co, vs2, .bool x.s3.absent, vi3, .bool x.s3.co, vs3] 25);have hs : w.heap.size < (w.alloc (Obj.cells #[.bool x.s0.absent, vi0, .bool x.s0.co, vs0, .bool x.s1.absent, vi1, .bool x.s1.co, vs1, .bool x.s2.absent, vi2, .bool x.s2.co, vs2, .bool x.s3.absent, vi3, .bool x.s3.co, vs3] 25)).heap.size := by show _ < (w.heap.push _).size; simp
 have hc := fun j => cell_heap (heap_new w (Obj.cells #[.bool x.s0.absent, vi0, .bool x.s0.co, vs0, .bool x.s1.absent, vi1, .bool x.s1.co, vs1, .bool x.s2.absent, vi2, .bool x.s2.co, vs2, .bool x.s3.absent, vi3, .bool x.s3.co, vs3] 25)) j
 obtain ⟨i0, s0, e0, I0, S0⟩ := h0;obtain ⟨i1, s1, e1, I1, S1⟩ := h1;obtain ⟨i2, s2, e2, I2, S2⟩ := h2;obtain ⟨i3, s3, e3, I3, S3⟩ := h3
 simp at e0 e1 e2 e3
 obtain ⟨rfl, rfl⟩ := e0;obtain ⟨rfl, rfl⟩ := e1;obtain ⟨rfl, rfl⟩ := e2;obtain ⟨rfl, rfl⟩ := e3;refine ⟨by simp, _, 4, rfl, fun i hi => ?_⟩
 match i, hi with
 | 0, _ => exact ⟨_, 0, _, _, rfl, hs, hc 0, hc 1, hc 2, hc 3, I0.on hb, S0.on hb⟩
 | 1, _ => exact ⟨_, 0, _, _, rfl, hs, hc 4, hc 5, hc 6, hc 7, I1.on hb, S1.on hb⟩
 | 2, _ => exact ⟨_, 0, _, _, rfl, hs, hc 8, hc 9, hc 10, hc 11, I2.on hb, S2.on hb⟩
 | 3, _ => exact ⟨_, 0, _, _, rfl, hs, hc 12, hc 13, hc 14, hc 15, I3.on hb, S3.on hb⟩
theorem SetAt.slices {w : World} {p q : Bool} {vi vs : Value} {S : SetV} (h : SetAt w (.agg #[.bool p, vi, .bool q, vs]) S) : ∃ a n c a' n' c', vi = .slice a n c ∧ vs = .slice a' n' c' := by
 obtain ⟨i, s, e, hI, hS⟩ := h
 simp at e
 obtain ⟨_, rfl, _, rfl⟩ := e;obtain ⟨a, c, rfl⟩ := hI.form;obtain ⟨a', c', rfl⟩ := hS.form;exact ⟨a, _, c, a', _, c', rfl, rfl⟩
set_option maxHeartbeats 8000000 in
set_option maxRecDepth 100000 in
theorem refFewBx_any (v : Value) (l : List BoxV) (w : World) (hv : BoxesAt w v l) :
  Calls Tryz.prog 51 #[v] w fun r w' => r = .returned (.bool (l.all fewBx)) ∧ Below w.heap.size w w' := by
 obtain ⟨hlen, a, cap, rfl, hel⟩ := hv;have HE := hide hel;clear hel;generalize hB : l.all fewBx = B;have HB0 : Hid ((l.drop 0).all fewBx = B) := hide (by rw [List.drop_zero]; exact hB);clear hB;obtain ⟨N, hN⟩ : ∃ N : Nat, N = l.length := ⟨_, rfl⟩
 rw [← hN] at hlen ⊢;have HN := hide hN;clear hN;go_enter Tryz.func51, Tryz.ntmps51
 go_wp2
 go_loopw [3] (fun i wr => ∃ k : Nat, i = .int .i64 k ∧ k ≤ N ∧ Hid (Below w.heap.size w wr) ∧ Hid ((l.drop k).all fewBx = B)) (fun i _ => N - (intOf i).toNat)
 case atStart => exact ⟨0, rfl, by omega, hide (Below.refl _ _), HB0⟩
 case round =>
  clear HB0;obtain ⟨k, rfl, hk, HW, HD⟩ := hrel;by_cases hlt : k < N
  ·have hk' : k < l.length := by rw [← HN.out]; exact hlt
   obtain ⟨g, off, vi0, vs0, vi1, vs1, vi2, vs2, vi3, vs3, ha, hg, ⟨c0, c1, c2, c3, c4, c5, c6, c7, c8, c9, c10, c11, c12, c13, c14, c15⟩, hs0, hs1, hs2, hs3⟩ := HE.out k hk';subst ha;have D0 := HD.out;rw [drop_getD l k noBox hk', List.all_cons] at D0;generalize l.getD k noBox = x at *;have HD0 := hide D0;clear D0 HD HE;replace c0 := (HW.out.cell (p := ⟨g, _, none⟩) hg).trans c0;replace c1 := (HW.out.cell (p := ⟨g, _, none⟩) hg).trans c1;replace c2 := (HW.out.cell (p := ⟨g, _, none⟩) hg).trans c2;replace c3 := (HW.out.cell (p := ⟨g, _, none⟩) hg).trans c3;replace c4 := (HW.out.cell (p := ⟨g, _, none⟩) hg).trans c4;replace c5 := (HW.out.cell (p := ⟨g, _, none⟩) hg).trans c5;replace c6 := (HW.out.cell (p := ⟨g, _, none⟩) hg).trans c6;replace c7 := (HW.out.cell (p := ⟨g, _, none⟩) hg).trans c7;replace c8 := (HW.out.cell (p := ⟨g, _, none⟩) hg).trans c8;replace c9 := (HW.out.cell (p := ⟨g, _, none⟩) hg).trans c9;replace c10 := (HW.out.cell (p := ⟨g, _, none⟩) hg).trans c10;replace c11 := (HW.out.cell (p := ⟨g, _, none⟩) hg).trans c11;replace c12 := (HW.out.cell (p := ⟨g, _, none⟩) hg).trans c12;replace c13 := (HW.out.cell (p := ⟨g, _, none⟩) hg).trans c13;replace c14 := (HW.out.cell (p := ⟨g, _, none⟩) hg).trans c14;replace c15 := (HW.out.cell (p := ⟨g, _, none⟩) hg).trans c15;have F := hide (four_sets (w := wr) ⟨hs0.on HW.out, hs1.on HW.out, hs2.on HW.out, hs3.on HW.out⟩ wr.heap.size rfl);obtain ⟨a0, m0, r0, a1, m1, r1, rfl, rfl⟩ := hs0.slices;obtain ⟨a2, m2, r2, a3, m3, r3, rfl, rfl⟩ := hs1.slices;obtain ⟨a4, m4, r4, a5, m5, r5, rfl, rfl⟩ := hs2.slices;obtain ⟨a6, m6, r6, a7, m7, r7, rfl, rfl⟩ := hs3.slices;clear hs0 hs1 hs2 hs3;have FW := fun (W : World) (y : Value) (h : SetsAt W y [x.s0, x.s1, x.s2, x.s3]) => hide (refFew_any y _ W h)
   change ∀ (W : World) (y : Value) (h : SetsAt W y [x.s0, x.s1, x.s2, x.s3]), Hid (Calls _ _ _ _ fun r w' => r = .returned (.bool (fewBx x)) ∧ _) at FW
   generalize fewBx x = q at HD0 FW;have hg' : g < wr.heap.size := Nat.lt_of_lt_of_le hg HW.out.size;have PH1 := True.intro
   go_wp2
   go_region_held3 (fun w' => w'.cell? ⟨g, off + k * 16, none⟩ = some (.bool x.s0.absent) ∧ w'.cell? ⟨g, off + k * 16 + 1, none⟩ = some (.slice a0 m0 r0) ∧ w'.cell? ⟨g, off + k * 16 + 2, none⟩ = some (.bool x.s0.co) ∧ w'.cell? ⟨g, off + k * 16 + 3, none⟩ = some (.slice a1 m1 r1) ∧ w'.cell? ⟨g, off + k * 16 + 4, none⟩ = some (.bool x.s1.absent) ∧ w'.cell? ⟨g, off + k * 16 + 5, none⟩ = some (.slice a2 m2 r2) ∧ w'.cell? ⟨g, off + k * 16 + 6, none⟩ = some (.bool x.s1.co) ∧ w'.cell? ⟨g, off + k * 16 + 7, none⟩ = some (.slice a3 m3 r3) ∧ w'.cell? ⟨g, off + k * 16 + 8, none⟩ = some (.bool x.s2.absent) ∧ w'.cell? ⟨g, off + k * 16 + 9, none⟩ = some (.slice a4 m4 r4) ∧ w'.cell? ⟨g, off + k * 16 + 10, none⟩ = some (.bool x.s2.co) ∧ w'.cell? ⟨g, off + k * 16 + 11, none⟩ = some (.slice a5 m5 r5) ∧ w'.cell? ⟨g, off + k * 16 + 12, none⟩ = some (.bool x.s3.absent) ∧ w'.cell? ⟨g, off + k * 16 + 13, none⟩ = some (.slice a6 m6 r6) ∧ w'.cell? ⟨g, off + k * 16 + 14, none⟩ = some (.bool x.s3.co) ∧ w'.cell? ⟨g, off + k * 16 + 15, none⟩ = some (.slice a7 m7 r7)) (first | go_keep | (refine ⟨?_, ?_, ?_, ?_, ?_, ?_, ?_, ?_, ?_, ?_, ?_, ?_, ?_, ?_, ?_, ?_⟩ <;> assumption))
    ((first
     | (go_at_call 81; have pz := PH1; clear pz PH1; refine (unhide (FW _ _ ?_)).mono ?_; exact F.out; rintro r w2 ⟨rfl, hw2⟩; subst hw2; have PH2 := True.intro; clear F)))
   have B9 := hide ((HW.out.alloc HW.out.size (Obj.cells #[.bool x.s0.absent, .slice a0 m0 r0, .bool x.s0.co, .slice a1 m1 r1, .bool x.s1.absent, .slice a2 m2 r2, .bool x.s1.co, .slice a3 m3 r3, .bool x.s2.absent, .slice a4 m4 r4, .bool x.s2.co, .slice a5 m5 r5, .bool x.s3.absent, .slice a6 m6 r6, .bool x.s3.co, .slice a7 m7 r7] 25)).drew);generalize (wr.alloc (Obj.cells #[.bool x.s0.absent, .slice a0 m0 r0, .bool x.s0.co, .slice a1 m1 r1, .bool x.s1.absent, .slice a2 m2 r2, .bool x.s1.co, .slice a3 m3 r3, .bool x.s2.absent, .slice a4 m4 r4, .bool x.s2.co, .slice a5 m5 r5, .bool x.s3.absent, .slice a6 m6 r6, .bool x.s3.co, .slice a7 m7 r7] 25)).drew = w9 at B9 ⊢;cases q
   ·have E : Hid (B = false) := hide (by rw [← HD0.out]; rfl)
    go_wp2
    go_ret
    exact ⟨ret_bool E.out.symm, B9.out⟩
   ·have E : Hid ((l.drop (k + 1)).all fewBx = B) := hide (by rw [← HD0.out]; rfl)
    go_wp2
    exact ⟨⟨k + 1, by go_num, by omega, B9, E⟩, by simp [intOf]; omega⟩
  ·have hge : (N : Int) ≤ (k : Int) := by omega
   have E : Hid (B = true) := hide (by rw [← HD.out, List.drop_eq_nil_of_le (by have := HN.out; omega)]; rfl)
   go_wp2
   go_ret
   exact ⟨ret_bool E.out.symm, HW.out⟩
end Go.Proofs.YtlmdcaemjaldfaaGreat
namespace Go.Proofs.YtlmdcaemjaldfaaGreat
open Go.RowKit
structure FitBx (b : BoxV) : Prop where
 good : GoodB b
 ni : ∀ i, i < 4 → (b.get i).ints.length ≤ 400
 ns : ∀ i, i < 4 → (b.get i).strs.length ≤ 400
def withBx (b : BoxV) (x : Int) (s : SetV) : BoxV := if 0 ≤ x ∧ x < 4 then b.put x.toNat s else b
end Go.Proofs.YtlmdcaemjaldfaaGreat
namespace Go.Proofs.YtlmdcaemjaldfaaGreat
open Go.RowKit
def bxVal (s0 s1 s2 s3 : SC) : Value := .agg #[.bool s0.a, .slice s0.p s0.n s0.c, .bool s0.d, .slice s0.q s0.m s0.e, .bool s1.a, .slice s1.p s1.n s1.c, .bool s1.d, .slice s1.q s1.m s1.e, .bool s2.a, .slice s2.p s2.n s2.c, .bool s2.d, .slice s2.q s2.m s2.e, .bool s3.a, .slice s3.p s3.n s3.c, .bool s3.d, .slice s3.q s3.m s3.e]
theorem BoxAt.scs {w : World} {v : Value} {b : BoxV} (h : BoxAt w v b) : ∃ s0 s1 s2 s3 : SC, v = bxVal s0 s1 s2 s3 ∧ SetAt w s0.val b.s0 ∧ SetAt w s1.val b.s1 ∧ SetAt w s2.val b.s2 ∧ SetAt w s3.val b.s3 := by
 obtain ⟨pi0, ps0, pi1, ps1, pi2, ps2, pi3, ps3, ci0, cs0, ci1, cs1, ci2, cs2, ci3, cs3, rfl, h0, h1, h2, h3⟩ := h;exact ⟨⟨_, _, _, _, _, _, _, _⟩, ⟨_, _, _, _, _, _, _, _⟩, ⟨_, _, _, _, _, _, _, _⟩, ⟨_, _, _, _, _, _, _, _⟩, rfl, h0, h1, h2, h3⟩
theorem boxAt_of {w : World} {s0 s1 s2 s3 : SC} {b : BoxV} (h0 : SetAt w s0.val b.s0) (h1 : SetAt w s1.val b.s1) (h2 : SetAt w s2.val b.s2) (h3 : SetAt w s3.val b.s3) : BoxAt w (bxVal s0 s1 s2 s3) b := by
 obtain ⟨a0, p0, n0, c0, d0, q0, m0, e0⟩ := s0;obtain ⟨a1, p1, n1, c1, d1, q1, m1, e1⟩ := s1;obtain ⟨a2, p2, n2, c2, d2, q2, m2, e2⟩ := s2;obtain ⟨a3, p3, n3, c3, d3, q3, m3, e3⟩ := s3;obtain ⟨x0, y0, z0, t0⟩ := h0.scForm;obtain ⟨x1, y1, z1, t1⟩ := h1.scForm;obtain ⟨x2, y2, z2, t2⟩ := h2.scForm;obtain ⟨x3, y3, z3, t3⟩ := h3.scForm;dsimp only at x0 y0 z0 t0 x1 y1 z1 t1 x2 y2 z2 t2 x3 y3 z3 t3;subst x0 y0 z0 t0 x1 y1 z1 t1 x2 y2 z2 t2 x3 y3 z3 t3;exact ⟨p0, q0, p1, q1, p2, q2, p3, q3, c0, e0, c1, e1, c2, e2, c3, e3, rfl, h0, h1, h2, h3⟩
theorem RngsAt.besides {w w' : World} {v : Value} {l : List Rg} {p : Nat} {cs : Array Value} {t : TypeId} {fz : Nat × Nat} (h : RngsAt w v l) (hp : w.heap[p]? = some (.cells cs t fz)) (hn : ∀ (j : Nat) k n, cs[j]? ≠ some (Value.int k n)) (hs : w.heap.size ≤ w'.heap.size) (hk : ∀ k, k ≠ p → w'.heap[k]? = w.heap[k]?) : RngsAt w' v l := by
 obtain ⟨h1, h2, a, cap, hv, h⟩ := h;refine ⟨h1, h2, a, cap, hv, fun i hi => ?_⟩;obtain ⟨b, off, ha, hlt, c0, c1⟩ := h i hi;have hb : b ≠ p := by
  rintro rfl;rw [cell_heap hp] at c0;exact hn _ _ _ c0
 have hc : ∀ o, w'.cell? ⟨b, o, none⟩ = w.cell? ⟨b, o, none⟩ := fun o => by unfold World.cell?; simp only [hk b hb]
 exact ⟨b, off, ha, Nat.lt_of_lt_of_le hlt hs, (hc _).trans c0, (hc _).trans c1⟩
theorem StrsAt.besides {w w' : World} {v : Value} {l : List ByteArray} {p : Nat} {cs : Array Value} {t : TypeId} {fz : Nat × Nat} (h : StrsAt w v l) (hp : w.heap[p]? = some (.cells cs t fz)) (hn : ∀ (j : Nat) s, cs[j]? ≠ some (Value.string s)) (hs : w.heap.size ≤ w'.heap.size) (hk : ∀ k, k ≠ p → w'.heap[k]? = w.heap[k]?) : StrsAt w' v l := by
 obtain ⟨h1, h2, a, cap, hv, h⟩ := h;refine ⟨h1, h2, a, cap, hv, fun i hi => ?_⟩;obtain ⟨b, off, ha, hlt, c0⟩ := h i hi;have hb : b ≠ p := by
  rintro rfl;rw [cell_heap hp] at c0;exact hn _ _ c0
 have hc : ∀ o, w'.cell? ⟨b, o, none⟩ = w.cell? ⟨b, o, none⟩ := fun o => by unfold World.cell?; simp only [hk b hb]
 exact ⟨b, off, ha, Nat.lt_of_lt_of_le hlt hs, (hc _).trans c0⟩
def BxIn (w : World) (q : Nat) (s0 s1 s2 s3 : SC) : Prop := w.heap[q]? = some (.cells #[.bool s0.a, .slice s0.p s0.n s0.c, .bool s0.d, .slice s0.q s0.m s0.e, .bool s1.a, .slice s1.p s1.n s1.c, .bool s1.d, .slice s1.q s1.m s1.e, .bool s2.a, .slice s2.p s2.n s2.c, .bool s2.d, .slice s2.q s2.m s2.e, .bool s3.a, .slice s3.p s3.n s3.c, .bool s3.d, .slice s3.q s3.m s3.e] 40 (0, 0))
theorem BxIn.on {w w' : World} {q : Nat} {s0 s1 s2 s3 : SC} (h : BxIn w q s0 s1 s2 s3) (hb : Below w.heap.size w w') : BxIn w' q s0 s1 s2 s3 := (hb.block _ (lt_heap h)).trans h
theorem BxIn.cells {w : World} {q : Nat} {s0 s1 s2 s3 : SC} (h : BxIn w q s0 s1 s2 s3) : w.cell? ⟨q, 0, none⟩ = some (.bool s0.a) ∧ w.cell? ⟨q, 1, none⟩ = some (.slice s0.p s0.n s0.c) ∧ w.cell? ⟨q, 2, none⟩ = some (.bool s0.d) ∧ w.cell? ⟨q, 3, none⟩ = some (.slice s0.q s0.m s0.e) ∧ w.cell? ⟨q, 4, none⟩ = some (.bool s1.a) ∧ w.cell? ⟨q, 5, none⟩ = some (.slice s1.p s1.n s1.c) ∧ w.cell? ⟨q, 6, none⟩ = some (.bool s1.d) ∧ w.cell? ⟨q, 7, none⟩ = some (.slice s1.q s1.m s1.e) ∧ w.cell? ⟨q, 8, none⟩ = some (.bool s2.a) ∧ w.cell? ⟨q, 9, none⟩ = some (.slice s2.p s2.n s2.c) ∧ w.cell? ⟨q, 10, none⟩ = some (.bool s2.d) ∧ w.cell? ⟨q, 11, none⟩ = some (.slice s2.q s2.m s2.e) ∧ w.cell? ⟨q, 12, none⟩ = some (.bool s3.a) ∧ w.cell? ⟨q, 13, none⟩ = some (.slice s3.p s3.n s3.c) ∧ w.cell? ⟨q, 14, none⟩ = some (.bool s3.d) ∧ w.cell? ⟨q, 15, none⟩ = some (.slice s3.q s3.m s3.e) := bxCells h
theorem BxIn.soft {w : World} {q : Nat} {s0 s1 s2 s3 : SC} (h : BxIn w q s0 s1 s2 s3) (i : Nat) : w.frozen? ⟨q, i, none⟩ = false := frozen_heap h i
theorem SetAt.besides {w w' : World} {v : Value} {S : SetV} {q : Nat} {s0 s1 s2 s3 : SC} (h : SetAt w v S) (hp : BxIn w q s0 s1 s2 s3) (hs : w.heap.size ≤ w'.heap.size) (hk : ∀ k, k ≠ q → w'.heap[k]? = w.heap[k]?) : SetAt w' v S := by
 obtain ⟨vi, vs, hv, h1, h2⟩ := h;refine ⟨vi, vs, hv, h1.besides hp ?_ hs hk, h2.besides hp ?_ hs hk⟩
 ·intro j k n
  match j with
  | 0 => simp
  | 1 => simp
  | 2 => simp
  | 3 => simp
  | 4 => simp
  | 5 => simp
  | 6 => simp
  | 7 => simp
  | 8 => simp
  | 9 => simp
  | 10 => simp
  | 11 => simp
  | 12 => simp
  | 13 => simp
  | 14 => simp
  | 15 => simp
  | j + 16 => simp
 ·intro j k
  match j with
  | 0 => simp
  | 1 => simp
  | 2 => simp
  | 3 => simp
  | 4 => simp
  | 5 => simp
  | 6 => simp
  | 7 => simp
  | 8 => simp
  | 9 => simp
  | 10 => simp
  | 11 => simp
  | 12 => simp
  | 13 => simp
  | 14 => simp
  | 15 => simp
  | j + 16 => simp
structure In1 (w W : World) (q : Nat) : Prop where
 size : W.heap.size = w.heap.size
 other : ∀ k, k ≠ q → W.heap[k]? = w.heap[k]?
 below : ∀ (B : Nat) (w0 : World), B ≤ q → Below B w0 w → Below B w0 W
theorem In1.set {w W : World} {q : Nat} {s0 s1 s2 s3 : SC} (h : In1 w W q) (hp : BxIn w q s0 s1 s2 s3) {v : Value} {S : SetV} (hs : SetAt w v S) : SetAt W v S := hs.besides hp (Nat.le_of_eq h.size.symm) h.other
theorem In1.box {w W : World} {q p : Nat} (h : In1 w W q) {s0 s1 s2 s3 : SC} (hp : BxIn w p s0 s1 s2 s3) (hne : p ≠ q) : BxIn W p s0 s1 s2 s3 := (h.other p hne).trans hp
theorem in1_setCell (w : World) (q i : Nat) (v : Value) : In1 w (w.setCell ⟨q, i, none⟩ v) q := by
 refine ⟨by simp [World.setCell], fun k hk => ?_, fun B w0 hB hb => hb.setCell (p := ⟨q, i, none⟩) hB _⟩;have hk' : q ≠ k := fun e => hk e.symm
 simp [World.setCell, Array.getElem?_modify, hk']
theorem In1.trans {w W V : World} {q : Nat} (h : In1 w W q) (h' : In1 W V q) : In1 w V q :=
 ⟨h'.size.trans h.size, fun k hk => (h'.other k hk).trans (h.other k hk), fun B w0 hB hb => h'.below B w0 hB (h.below B w0 hB hb)⟩
theorem put_bx0 {w : World} {q : Nat} {s0 s1 s2 s3 : SC} (x : SC) (h : BxIn w q s0 s1 s2 s3) :
  BxIn (((((w).setCell ⟨q, 0, none⟩ (.bool x.a)).setCell ⟨q, 1, none⟩ (.slice x.p x.n x.c)).setCell ⟨q, 2, none⟩ (.bool x.d)).setCell ⟨q, 3, none⟩ (.slice x.q x.m x.e)) q x s1 s2 s3 ∧ In1 w (((((w).setCell ⟨q, 0, none⟩ (.bool x.a)).setCell ⟨q, 1, none⟩ (.slice x.p x.n x.c)).setCell ⟨q, 2, none⟩ (.bool x.d)).setCell ⟨q, 3, none⟩ (.slice x.q x.m x.e)) q := by
 refine ⟨?_, (((in1_setCell _ _ _ _).trans (in1_setCell _ _ _ _)).trans (in1_setCell _ _ _ _)).trans (in1_setCell _ _ _ _)⟩
 ·unfold BxIn at h;have h0 := heap_setCell (i := 0) (.bool x.a) h;have h1 := heap_setCell (i := 1) (.slice x.p x.n x.c) h0;have h2 := heap_setCell (i := 2) (.bool x.d) h1;have h3 := heap_setCell (i := 3) (.slice x.q x.m x.e) h2;exact h3
theorem put_bx1 {w : World} {q : Nat} {s0 s1 s2 s3 : SC} (x : SC) (h : BxIn w q s0 s1 s2 s3) :
  BxIn (((((w).setCell ⟨q, 4, none⟩ (.bool x.a)).setCell ⟨q, 5, none⟩ (.slice x.p x.n x.c)).setCell ⟨q, 6, none⟩ (.bool x.d)).setCell ⟨q, 7, none⟩ (.slice x.q x.m x.e)) q s0 x s2 s3 ∧ In1 w (((((w).setCell ⟨q, 4, none⟩ (.bool x.a)).setCell ⟨q, 5, none⟩ (.slice x.p x.n x.c)).setCell ⟨q, 6, none⟩ (.bool x.d)).setCell ⟨q, 7, none⟩ (.slice x.q x.m x.e)) q := by
 refine ⟨?_, (((in1_setCell _ _ _ _).trans (in1_setCell _ _ _ _)).trans (in1_setCell _ _ _ _)).trans (in1_setCell _ _ _ _)⟩
 ·unfold BxIn at h;have h0 := heap_setCell (i := 4) (.bool x.a) h;have h1 := heap_setCell (i := 5) (.slice x.p x.n x.c) h0;have h2 := heap_setCell (i := 6) (.bool x.d) h1;have h3 := heap_setCell (i := 7) (.slice x.q x.m x.e) h2;exact h3
theorem put_bx2 {w : World} {q : Nat} {s0 s1 s2 s3 : SC} (x : SC) (h : BxIn w q s0 s1 s2 s3) :
  BxIn (((((w).setCell ⟨q, 8, none⟩ (.bool x.a)).setCell ⟨q, 9, none⟩ (.slice x.p x.n x.c)).setCell ⟨q, 10, none⟩ (.bool x.d)).setCell ⟨q, 11, none⟩ (.slice x.q x.m x.e)) q s0 s1 x s3 ∧ In1 w (((((w).setCell ⟨q, 8, none⟩ (.bool x.a)).setCell ⟨q, 9, none⟩ (.slice x.p x.n x.c)).setCell ⟨q, 10, none⟩ (.bool x.d)).setCell ⟨q, 11, none⟩ (.slice x.q x.m x.e)) q := by
 refine ⟨?_, (((in1_setCell _ _ _ _).trans (in1_setCell _ _ _ _)).trans (in1_setCell _ _ _ _)).trans (in1_setCell _ _ _ _)⟩
 ·unfold BxIn at h;have h0 := heap_setCell (i := 8) (.bool x.a) h;have h1 := heap_setCell (i := 9) (.slice x.p x.n x.c) h0;have h2 := heap_setCell (i := 10) (.bool x.d) h1;have h3 := heap_setCell (i := 11) (.slice x.q x.m x.e) h2;exact h3
theorem put_bx3 {w : World} {q : Nat} {s0 s1 s2 s3 : SC} (x : SC) (h : BxIn w q s0 s1 s2 s3) :
  BxIn (((((w).setCell ⟨q, 12, none⟩ (.bool x.a)).setCell ⟨q, 13, none⟩ (.slice x.p x.n x.c)).setCell ⟨q, 14, none⟩ (.bool x.d)).setCell ⟨q, 15, none⟩ (.slice x.q x.m x.e)) q s0 s1 s2 x ∧ In1 w (((((w).setCell ⟨q, 12, none⟩ (.bool x.a)).setCell ⟨q, 13, none⟩ (.slice x.p x.n x.c)).setCell ⟨q, 14, none⟩ (.bool x.d)).setCell ⟨q, 15, none⟩ (.slice x.q x.m x.e)) q := by
 refine ⟨?_, (((in1_setCell _ _ _ _).trans (in1_setCell _ _ _ _)).trans (in1_setCell _ _ _ _)).trans (in1_setCell _ _ _ _)⟩
 ·unfold BxIn at h;have h0 := heap_setCell (i := 12) (.bool x.a) h;have h1 := heap_setCell (i := 13) (.slice x.p x.n x.c) h0;have h2 := heap_setCell (i := 14) (.bool x.d) h1;have h3 := heap_setCell (i := 15) (.slice x.q x.m x.e) h2;exact h3
theorem put_whole {w : World} {q : Nat} {s0 s1 s2 s3 : SC} (x0 x1 x2 x3 : SC) (h : BxIn w q s0 s1 s2 s3) :
  BxIn (((((((((((((((((w).setCell ⟨q, 0, none⟩ (.bool x0.a)).setCell ⟨q, 1, none⟩ (.slice x0.p x0.n x0.c)).setCell ⟨q, 2, none⟩ (.bool x0.d)).setCell ⟨q, 3, none⟩ (.slice x0.q x0.m x0.e)).setCell ⟨q, 4, none⟩ (.bool x1.a)).setCell ⟨q, 5, none⟩ (.slice x1.p x1.n x1.c)).setCell ⟨q, 6, none⟩ (.bool x1.d)).setCell ⟨q, 7, none⟩ (.slice x1.q x1.m x1.e)).setCell ⟨q, 8, none⟩ (.bool x2.a)).setCell ⟨q, 9, none⟩ (.slice x2.p x2.n x2.c)).setCell ⟨q, 10, none⟩ (.bool x2.d)).setCell ⟨q, 11, none⟩ (.slice x2.q x2.m x2.e)).setCell ⟨q, 12, none⟩ (.bool x3.a)).setCell ⟨q, 13, none⟩ (.slice x3.p x3.n x3.c)).setCell ⟨q, 14, none⟩ (.bool x3.d)).setCell ⟨q, 15, none⟩ (.slice x3.q x3.m x3.e)) q x0 x1 x2 x3 ∧ In1 w (((((((((((((((((w).setCell ⟨q, 0, none⟩ (.bool x0.a)).setCell ⟨q, 1, none⟩ (.slice x0.p x0.n x0.c)).setCell ⟨q, 2, none⟩ (.bool x0.d)).setCell ⟨q, 3, none⟩ (.slice x0.q x0.m x0.e)).setCell ⟨q, 4, none⟩ (.bool x1.a)).setCell ⟨q, 5, none⟩ (.slice x1.p x1.n x1.c)).setCell ⟨q, 6, none⟩ (.bool x1.d)).setCell ⟨q, 7, none⟩ (.slice x1.q x1.m x1.e)).setCell ⟨q, 8, none⟩ (.bool x2.a)).setCell ⟨q, 9, none⟩ (.slice x2.p x2.n x2.c)).setCell ⟨q, 10, none⟩ (.bool x2.d)).setCell ⟨q, 11, none⟩ (.slice x2.q x2.m x2.e)).setCell ⟨q, 12, none⟩ (.bool x3.a)).setCell ⟨q, 13, none⟩ (.slice x3.p x3.n x3.c)).setCell ⟨q, 14, none⟩ (.bool x3.d)).setCell ⟨q, 15, none⟩ (.slice x3.q x3.m x3.e)) q := by
 obtain ⟨a0, b0⟩ := put_bx0 x0 h;obtain ⟨a1, b1⟩ := put_bx1 x1 a0;obtain ⟨a2, b2⟩ := put_bx2 x2 a1;obtain ⟨a3, b3⟩ := put_bx3 x3 a2;exact ⟨a3, ((b0.trans b1).trans b2).trans b3⟩
theorem infoBx : (Tryz.prog.info? 40).map (·.size) = some 16 := by kernel_rfl
end Go.Proofs.YtlmdcaemjaldfaaGreat
namespace Go.Proofs.YtlmdcaemjaldfaaGreat
def zBox : BoxV := ⟨noSet, noSet, noSet, noSet⟩
def betterL (l : List BoxV) (k i : Nat) : Bool := (k != i) && (inBx (l.getD i zBox) (l.getD k zBox) && (decide (k < i) || !inBx (l.getD k zBox) (l.getD i zBox)))
def keepL (l : List BoxV) (i : Nat) : Bool := !emptyBx (l.getD i zBox) && (List.range l.length).all fun k => !betterL l k i
def tidyL (l : List BoxV) : List BoxV := ((List.range l.length).filter (keepL l)).map fun i => l.getD i zBox
def hasL (l : List BoxV) (e : EvV) : Bool := l.any fun b => hasE b e
theorem getB_mem {l : List BoxV} {i : Nat} (h : i < l.length) : l.getD i zBox ∈ l := by
 rw [List.getD_eq_getElem?_getD, List.getElem?_eq_getElem h];exact List.getElem_mem _
theorem tidy_sub {l : List BoxV} {b : BoxV} (h : b ∈ tidyL l) : b ∈ l := by
 obtain ⟨i, hi, rfl⟩ := List.mem_map.1 h;exact getB_mem (List.mem_range.1 (List.mem_filter.1 hi).1)
theorem better_trans {l : List BoxV} (hg : ∀ b ∈ l, GoodB b) {i j k : Nat} (hi : i < l.length) (hj : j < l.length) (hk : k < l.length) (h1 : betterL l j i = true) (h2 : betterL l k j = true) : betterL l k i = true := by
 unfold betterL at *;simp only [Bool.and_eq_true, Bool.or_eq_true, bne_iff_ne, decide_eq_true_eq, Bool.not_eq_true'] at *;obtain ⟨n1, a1, b1⟩ := h1;obtain ⟨n2, a2, b2⟩ := h2;have gi := hg _ (getB_mem hi);have gj := hg _ (getB_mem hj);have gk := hg _ (getB_mem hk);have h3 := inBx_trans gi gj gk a1 a2;by_cases hc : inBx (l.getD k zBox) (l.getD i zBox) = true
 ·have hkj := inBx_trans gk gi gj hc a1;have hji := inBx_trans gj gk gi a2 hc;have c1 : j < i := by
   rcases b1 with h | h
   ·exact h
   ·rw [hji] at h; cases h
  have c2 : k < j := by
   rcases b2 with h | h
   ·exact h
   ·rw [hkj] at h; cases h
  exact ⟨by omega, h3, Or.inl (by omega)⟩
 ·have hc' : inBx (l.getD k zBox) (l.getD i zBox) = false := by simpa using hc
  exact ⟨fun e => (by subst e; rw [inBx_refl gk] at hc'; cases hc'), h3, Or.inr hc'⟩
theorem better_irr (l : List BoxV) (i : Nat) : betterL l i i = false := by unfold betterL; simp
theorem best_exists {l : List BoxV} (hg : ∀ b ∈ l, GoodB b) : ∀ (n i : Nat), i < l.length → ((List.range l.length).countP fun k => betterL l k i) ≤ n → ∃ j, j < l.length ∧ ((List.range l.length).all fun k => !betterL l k j) = true ∧ inBx (l.getD i zBox) (l.getD j zBox) = true := by
 intro n
 induction n with
 | zero =>
  intro i hi hc;refine ⟨i, hi, ?_, inBx_refl (hg _ (getB_mem hi))⟩;rw [List.all_eq_true];intro k hk;have := List.countP_eq_zero.1 (Nat.le_zero.1 hc) k hk
  simpa using this
 | succ n ih =>
  intro i hi hc;by_cases hb : ∃ k, k < l.length ∧ betterL l k i = true
  ·obtain ⟨k, hk, hbk⟩ := hb;have hlt : ((List.range l.length).countP fun j => betterL l j k) < (List.range l.length).countP fun j => betterL l j i := by
    have H : ∀ (m : List Nat), (∀ j ∈ m, j < l.length) → (m.countP fun j => betterL l j k) ≤ (m.countP fun j => betterL l j i) ∧ (k ∈ m → (m.countP fun j => betterL l j k) < m.countP fun j => betterL l j i) := by
     intro m
     induction m with
     | nil => intro _; exact ⟨Nat.le_refl _, fun h => by cases h⟩
     | cons j m ihm =>
      intro hm;obtain ⟨q1, q2⟩ := ihm (fun z hz => hm z (by simp [hz]));have himp : betterL l j k = true → betterL l j i = true := fun h => better_trans hg hi hk (hm j (by simp)) hbk h
      rw [List.countP_cons, List.countP_cons];refine ⟨?_, fun hmem => ?_⟩
      ·by_cases hjk : betterL l j k = true
       ·rw [if_pos hjk, if_pos (himp hjk)]; omega
       ·rw [if_neg hjk]; split <;> omega
      ·rcases List.mem_cons.1 hmem with rfl | hmem
       ·rw [if_neg (by rw [better_irr]; simp), if_pos hbk]; omega
       ·have := q2 hmem;by_cases hjk : betterL l j k = true
        ·rw [if_pos hjk, if_pos (himp hjk)]; omega
        ·rw [if_neg hjk]; split <;> omega
    exact (H (List.range l.length) (fun j hj => List.mem_range.1 hj)).2 (List.mem_range.2 hk)
   obtain ⟨j, hj, h1, h2⟩ := ih k hk (by omega);refine ⟨j, hj, h1, inBx_trans (hg _ (getB_mem hi)) (hg _ (getB_mem hk)) (hg _ (getB_mem hj)) ?_ h2⟩;unfold betterL at hbk;simp only [Bool.and_eq_true] at hbk;exact hbk.2.1
  ·refine ⟨i, hi, ?_, inBx_refl (hg _ (getB_mem hi))⟩;rw [List.all_eq_true];intro k hk;cases hq : betterL l k i
   ·rfl
   ·exact absurd ⟨k, List.mem_range.1 hk, hq⟩ hb
theorem empty_none {b : BoxV} (h : emptyBx b = true) (e : EvV) : hasE b e = false := by
 cases hh : hasE b e
 ·rfl
 ·have h1 := (hasE_iff b e).1 hh;have h2 : emptyBx b = false := (emptyBx_iff b).2 fun i hi => by
   cases hq : emptyB (b.get i)
   ·rfl
   ·have := h1 i hi;rw [(empty_iff _).1 hq, noSet_has] at this;cases this
  rw [h] at h2;cases h2
theorem tidy_has {l : List BoxV} (hg : ∀ b ∈ l, GoodB b) {e : EvV} (he : inE e) : hasL (tidyL l) e = hasL l e := by
 rw [Bool.eq_iff_iff];unfold hasL;rw [List.any_eq_true, List.any_eq_true]
 constructor
 ·rintro ⟨b, hb, h⟩;exact ⟨b, tidy_sub hb, h⟩
 ·rintro ⟨b, hb, h⟩;obtain ⟨i, hi, rfl⟩ := List.getElem_of_mem hb;obtain ⟨j, hj, h1, h2⟩ := best_exists hg _ i hi (Nat.le_refl _);have e1 : l.getD i zBox = l[i] := by rw [List.getD_eq_getElem?_getD, List.getElem?_eq_getElem hi]; rfl
  have hj2 : hasE (l.getD j zBox) e = true := (inBx_iff (hg _ (getB_mem hi)) (hg _ (getB_mem hj))).1 h2 e he (by rw [e1]; exact h);refine ⟨l.getD j zBox, List.mem_map.2 ⟨j, List.mem_filter.2 ⟨List.mem_range.2 hj, ?_⟩, rfl⟩, hj2⟩;unfold keepL;rw [h1, Bool.and_true];cases hq : emptyBx (l.getD j zBox)
  ·rfl
  ·rw [empty_none hq] at hj2; cases hj2
def prodL (out l : List BoxV) : List BoxV := out.flatMap fun a => l.map fun b => andBx a b
def foldX (f : ExV → Option (List BoxV)) (prod : Bool) : List ExV → List BoxV → Option (List BoxV)
 | [], out => some out
 | y :: ys, out => match f y with
  | none => none
  | some l => if (tidyL (if prod then prodL out l else out ++ l)).length ≤ 16 then foldX f prod ys (tidyL (if prod then prodL out l else out ++ l)) else none
def boxesX : Nat → ExV → Bool → Option (List BoxV)
 | 0, _, _ => none
 | n + 1, x, neg =>
  if x.kind = 1 then some (tidyL [allBx.put x.attr.toNat (if neg then notV x.set else x.set)])
  else if x.kind = 4 then boxesX n (x.sub.headD ⟨0, 0, noSet, []⟩) !neg
  else foldX (fun y => boxesX n y neg) ((decide (x.kind = 2) && !neg) || (decide (x.kind = 3) && neg)) x.sub (if (decide (x.kind = 2) && !neg) || (decide (x.kind = 3) && neg) then [allBx] else [])
theorem prod_has {out l : List BoxV} (ho : ∀ b ∈ out, GoodB b) (hl : ∀ b ∈ l, GoodB b) {e : EvV} (he : inE e) : hasL (prodL out l) e = (hasL out e && hasL l e) := by
 rw [Bool.eq_iff_iff, Bool.and_eq_true];unfold hasL prodL;simp only [List.any_eq_true, List.mem_flatMap, List.mem_map]
 constructor
 ·rintro ⟨b, ⟨a, ha, c, hc, rfl⟩, h⟩;rw [andBx_has (ho a ha) (hl c hc) he, Bool.and_eq_true] at h;exact ⟨⟨a, ha, h.1⟩, c, hc, h.2⟩
 ·rintro ⟨⟨a, ha, h1⟩, c, hc, h2⟩;exact ⟨andBx a c, ⟨a, ha, c, hc, rfl⟩, by rw [andBx_has (ho a ha) (hl c hc) he, h1, h2]; rfl⟩
theorem sum_has (out l : List BoxV) (e : EvV) : hasL (out ++ l) e = (hasL out e || hasL l e) := by
 unfold hasL;rw [List.any_append]
def FineL (M : Nat) (l : List BoxV) : Prop := ∀ b ∈ l, GoodB b ∧ ∀ i, i < 4 → (b.get i).strs.length ≤ M
theorem FineL.good {M : Nat} {l : List BoxV} (h : FineL M l) : ∀ b ∈ l, GoodB b := fun b hb => (h b hb).1
theorem FineL.mono {M M' : Nat} {l : List BoxV} (h : FineL M l) (hm : M ≤ M') : FineL M' l := fun b hb => ⟨(h b hb).1, fun i hi => Nat.le_trans ((h b hb).2 i hi) hm⟩
theorem FineL.tidy {M : Nat} {l : List BoxV} (h : FineL M l) : FineL M (tidyL l) := fun b hb => h b (tidy_sub hb)
theorem fine_prod {A B : Nat} {out l : List BoxV} (ho : FineL A out) (hl : FineL B l) (hA : A ≤ 400) (hB : B ≤ 400) : FineL (A + B) (prodL out l) := by
 intro b hb;unfold prodL at hb;obtain ⟨a, ha, hb⟩ := List.mem_flatMap.1 hb;obtain ⟨c, hc, rfl⟩ := List.mem_map.1 hb;have ga := ho a ha;have gc := hl c hc;refine ⟨andBx_good ga.1 gc.1 (fun i hi => Nat.le_trans (ga.2 i hi) hA) (fun i hi => Nat.le_trans (gc.2 i hi) hB), fun i hi => ?_⟩;rw [andBx_get a c i hi];have h1 := (andV_len (ga.1.g i hi) (gc.1.g i hi)).2;have h2 := ga.2 i hi;have h3 := gc.2 i hi;omega
theorem fine_sum {A B : Nat} {out l : List BoxV} (ho : FineL A out) (hl : FineL B l) : FineL (A + B) (out ++ l) := fun b hb => by
 rcases List.mem_append.1 hb with h | h
 ·exact ho.mono (by omega) b h
 ·exact hl.mono (by omega) b h
def wX : Nat → ExV → Nat
 | 0, _ => 0
 | n + 1, x => 1 + (x.sub.map (wX n)).sum
def i64X : Nat → ExV → Prop
 | 0, _ => True
 | n + 1, x => inI64 x.set.ints ∧ ∀ y ∈ x.sub, i64X n y
theorem fold_plain (f : ExV → Option (List BoxV)) (prod : Bool) (wt : ExV → Nat) (v : ExV → EvV → Bool) : ∀ (ys : List ExV) (out l : List BoxV) (B : Nat),
  (∀ y ∈ ys, ∀ ly, f y = some ly → FineL (6 * wt y) ly ∧ ∀ e, inE e → hasL ly e = (rightE e && v y e)) → FineL B out → B + 6 * (ys.map wt).sum ≤ 400 → foldX f prod ys out = some l →
  FineL (B + 6 * (ys.map wt).sum) l ∧ ∀ e, inE e → hasL l e = if prod then (hasL out e && ys.all fun y => rightE e && v y e) else (hasL out e || ys.any fun y => rightE e && v y e)
 | [], out, l, B, _, ho, _, h => by
  unfold foldX at h;cases h
  refine ⟨ho.mono (by simp), fun e he => ?_⟩;cases prod <;> simp
 | y :: ys, out, l, B, hf, ho, hB, h => by
  unfold foldX at h;rw [List.map_cons, List.sum_cons] at hB ⊢;cases hy : f y with
  | none => rw [hy] at h; cases h
  | some ly =>
   rw [hy] at h;dsimp only at h;obtain ⟨h1, h2⟩ := hf y (by simp) ly hy;obtain ⟨nx, hnx⟩ : ∃ nx, nx = if prod = true then prodL out ly else out ++ ly := ⟨_, rfl⟩
   rw [← hnx] at h
   split at h
   ·have hfine : FineL (B + 6 * wt y) nx := by
     rw [hnx];cases prod
     ·exact fine_sum ho h1
     ·exact fine_prod ho h1 (by omega) (by omega)
    obtain ⟨k1, k2⟩ := fold_plain f prod wt v ys _ l (B + 6 * wt y) (fun z hz => hf z (by simp [hz])) hfine.tidy (by omega) h;refine ⟨k1.mono (by omega), fun e he => ?_⟩;rw [k2 e he, tidy_has hfine.good he, hnx];cases prod
    ·simp only [Bool.false_eq_true, if_false];rw [sum_has, h2 e he, List.any_cons, Bool.or_assoc]
    ·simp only [if_true];rw [prod_has ho.good h1.good he, h2 e he, List.all_cons, Bool.and_assoc]
   ·cases h
theorem rightE_at {e : EvV} (h : rightE e = true) (i : Nat) (hi : i < 4) : rightB (e.get i).1 (e.get i).2.1 (e.get i).2.2 = true := (all4_iff _).1 h i hi
theorem and_all_right (r : Bool) (p : ExV → Bool) : ∀ l : List ExV, (r && l.all fun y => r && p y) = (r && l.all p)
 | [] => rfl
 | y :: l => by
  have := and_all_right r p l;cases r
  ·rfl
  ·simp only [Bool.true_and] at this ⊢
theorem any_right (r : Bool) (p : ExV → Bool) : ∀ l : List ExV, (l.any fun y => r && p y) = (r && l.any p)
 | [] => by cases r <;> rfl
 | y :: l => by
  rw [List.any_cons, List.any_cons, any_right r p l];cases r <;> rfl
theorem isX_step' (n : Nat) (x : ExV) (e : EvV) : isX (n + 1) x e = if x.kind = 1 then hasP x.set (e.get x.attr.toNat) else if x.kind = 2 then x.sub.all fun y => isX n y e else if x.kind = 3 then x.sub.any fun y => isX n y e else !(x.sub.head?.elim false fun y => isX n y e) := rfl
theorem boxes_plain : ∀ (n : Nat) (x : ExV) (neg : Bool) (l : List BoxV), eachX n x = true → i64X n x → wX n x ≤ 60 → boxesX n x neg = some l →
  FineL (6 * wX n x) l ∧ ∀ e, inE e → hasL l e = (rightE e && (isX n x e != neg))
 | 0, _, _, _, h, _, _, _ => by cases h
 | n + 1, x, neg, l, he, hi, hw, h => by
  have hnode : nodeX x = true ∧ ∀ y ∈ x.sub, eachX n y = true := by
   unfold eachX at he;rw [Bool.and_eq_true, List.all_eq_true] at he;exact he
  have hwd : wX (n + 1) x = 1 + (x.sub.map (wX n)).sum := rfl;unfold boxesX at h;by_cases k1 : x.kind = 1
  ·rw [if_pos k1] at h;have hn := hnode.1;unfold nodeX at hn;rw [if_pos k1, Bool.and_eq_true, decide_eq_true_eq, Bool.and_eq_true] at hn;obtain ⟨⟨a0, a3, _⟩, hr, hs⟩ := hn;unfold smallB at hs;rw [Bool.and_eq_true, decide_eq_true_eq, decide_eq_true_eq] at hs;have hgood : Good x.set := ⟨hr, hi.1⟩
   have ha : x.attr.toNat < 4 := by omega
   have hG : Good (if neg then notV x.set else x.set) ∧ (if neg then notV x.set else x.set).strs.length ≤ 6 := by
    cases neg
    ·exact ⟨hgood, hs.2⟩
    ·refine ⟨notV_good hgood, ?_⟩;have := (notV_len x.set hgood).2;simp only [if_true];omega
   have hfine : FineL 6 [allBx.put x.attr.toNat (if neg then notV x.set else x.set)] := fun b hb => by
    rw [List.mem_singleton] at hb;subst hb;refine ⟨put_good all_good ha hG.1 (Nat.le_trans hG.2 (by omega)), fun i hi => ?_⟩;rw [BoxV.get_put _ _ _ _ ha hi]
    split
    ·exact hG.2
    ·rw [allBx_get]; simp [allV]
   cases h
   refine ⟨hfine.tidy.mono (by omega), fun e hin => ?_⟩;rw [tidy_has hfine.good hin, isX_step', if_pos k1];unfold hasL;rw [List.any_cons, List.any_nil, Bool.or_false, atom_has ha hin, all_has hin];cases hre : rightE e
   ·rfl
   ·cases neg
    ·simp
    ·have hb := rightE_at hre _ ha;have hin' := hin _ ha;simp only [if_true];rw [notV_has hgood _ hin'.1 hin'.2, hb]
     simp
  ·rw [if_neg k1] at h;by_cases k4 : x.kind = 4
   ·rw [if_pos k4] at h;have hn := hnode.1;unfold nodeX at hn;rw [if_neg k1, if_pos (by omega), Bool.and_eq_true, decide_eq_true_eq] at hn;have hlen := hn.2 k4
    match hx : x.sub, hlen with
    | [y], _ =>
     rw [hx] at h hnode hwd;simp only [List.headD_cons] at h;obtain ⟨q1, q2⟩ := boxes_plain n y (!neg) l (hnode.2 y (by simp)) (hi.2 y (by rw [hx]; simp)) (by simp at hwd; omega) h;refine ⟨q1.mono (by simp at hwd; omega), fun e hin => ?_⟩;rw [q2 e hin, isX_step', if_neg k1, if_neg (by omega), if_neg (by omega), hx];simp only [List.head?_cons, Option.elim_some];cases isX n y e <;> cases neg <;> rfl
   ·rw [if_neg k4] at h;have hsub : ∀ y ∈ x.sub, wX n y ≤ (x.sub.map (wX n)).sum := fun y hy => by
     have H : ∀ (m : List ExV), y ∈ m → wX n y ≤ (m.map (wX n)).sum := by
      intro m
      induction m with
      | nil => intro h; cases h
      | cons z m ihm =>
       intro h;rw [List.map_cons, List.sum_cons];rcases List.mem_cons.1 h with rfl | h
       ·omega
       ·have := ihm h;omega
     exact H x.sub hy
    have hfs : ∀ y ∈ x.sub, ∀ ly, boxesX n y neg = some ly → FineL (6 * wX n y) ly ∧ ∀ e, inE e → hasL ly e = (rightE e && (isX n y e != neg)) := fun y hy ly hl => boxes_plain n y neg ly (hnode.2 y hy) (hi.2 y hy) (by have := hsub y hy; omega) hl
    have hk : x.kind = 2 ∨ x.kind = 3 := by
     have hn := hnode.1;unfold nodeX at hn;rw [if_neg k1] at hn;by_cases hq : x.kind = 2 ∨ x.kind = 3 ∨ x.kind = 4
     ·omega
     ·rw [if_neg hq] at hn; cases hn
    have hall : FineL 0 [allBx] := fun b hb => by
     rw [List.mem_singleton] at hb;subst hb;exact ⟨all_good, fun i _ => by rw [allBx_get]; simp [allV]⟩
    have hnone : FineL 0 [] := fun b hb => by cases hb
    generalize hp : ((decide (x.kind = 2) && !neg) || (decide (x.kind = 3) && neg)) = prod at h;have hfine0 : FineL 0 (if prod then [allBx] else []) := by cases prod <;> assumption
    obtain ⟨q1, q2⟩ := fold_plain (fun y => boxesX n y neg) prod (wX n) (fun y e => isX n y e != neg) x.sub _ l 0 hfs hfine0 (by omega) h;refine ⟨q1.mono (by omega), fun e hin => ?_⟩;rw [q2 e hin, isX_step', if_neg k1];rcases hk with hk | hk
    ·rw [if_pos hk];cases neg
     ·have : prod = true := by rw [← hp]; simp [hk]
      subst this;simp only [if_true];unfold hasL;rw [List.any_cons, List.any_nil, Bool.or_false, all_has hin, and_all_right (rightE e) (fun y => isX n y e != false)]
      simp
     ·have : prod = false := by rw [← hp]; simp [hk]
      subst this;simp only [Bool.false_eq_true, if_false];unfold hasL;rw [List.any_nil, Bool.false_or, any_right (rightE e) (fun y => isX n y e != true)]
      congr 1
      rw [show (fun y => isX n y e != true) = fun y => !isX n y e from funext fun y => by cases isX n y e <;> rfl, ← List.not_all_eq_any_not];cases (x.sub.all fun y => isX n y e) <;> rfl
    ·have h2 : ¬ x.kind = 2 := by omega
     rw [if_neg h2, if_pos hk];cases neg
     ·have : prod = false := by rw [← hp]; simp [hk]
      subst this;simp only [Bool.false_eq_true, if_false];unfold hasL;rw [List.any_nil, Bool.false_or, any_right (rightE e) (fun y => isX n y e != false)]
      simp
     ·have : prod = true := by rw [← hp]; simp [hk]
      subst this;simp only [if_true];unfold hasL;rw [List.any_cons, List.any_nil, Bool.or_false, all_has hin, and_all_right (rightE e) (fun y => isX n y e != true)]
      congr 1
      rw [show (fun y => isX n y e != true) = fun y => !isX n y e from funext fun y => by cases isX n y e <;> rfl, ← List.not_any_eq_all_not];cases (x.sub.any fun y => isX n y e) <;> rfl
end Go.Proofs.YtlmdcaemjaldfaaGreat
namespace Go.Proofs.YtlmdcaemjaldfaaGreat
open Go.RowKit Go.Shelf
attribute [local go_sem] Oper.semAt_some
def partsX : Nat → Int → ExV → List (Int × ExV)
 | 0, _, _ => []
 | k + 1, D, x => (D, x) :: x.sub.flatMap (partsX k (D + 1))
theorem roomOf_none {F : Fence} (hd : F.depth = none) (k : Nat) : F.room k := fun d h => by rw [hd] at h; cases h
theorem round_anyDepth {F : Fence} (hd : F.depth = none) {m m' : Nat} {P : Program} {l : Nat} {f : FuncId} {tmps : Array Value} {assign body : Code} {w : World} {R : Ending → World → Prop}
  (h : RoundIn F m P l f tmps assign body w R) : RoundIn F m' P l f tmps assign body w R := ⟨h.1, fun c cs _ => h.2 c cs (roomOf_none hd _)⟩
theorem yield_anyDepth {F : Fence} (hd : F.depth = none) {m : Nat} (m' : Nat) {P : Program} {l : Nat} {args : Array Value} {W : World} {R : Ending → World → Prop} (h : YieldAt F m P l args W R) : YieldAt F m' P l args W R := by
 obtain ⟨fn, tmps, assign, body, hy, hR⟩ := h;exact ⟨fn, tmps, assign, body, hy, round_anyDepth hd hR⟩
structure Kp2 (n₀ n₁ : Nat) (A B : World) : Prop where
 below : Below n₀ A B
 cells : ∀ b o, n₁ ≤ b → A.heap[b]? = some o → o.isCells = true → B.heap[b]? = some o
theorem Kp2.trans {n₀ n₁ : Nat} {A B C : World} (h : Kp2 n₀ n₁ A B) (k : Kp2 n₀ n₁ B C) : Kp2 n₀ n₁ A C :=
 ⟨h.below.trans k.below, fun b o hb ho hc => k.cells b o hb (h.cells b o hb ho hc) hc⟩
theorem Kp2.ofBelow {n₀ n₁ : Nat} {A B : World} (hn : n₀ ≤ A.heap.size) (h : Below A.heap.size A B) : Kp2 n₀ n₁ A B :=
 ⟨h.mono hn, fun b o _ ho _ => (h.block b (Array.getElem?_eq_some_iff.1 ho).1).trans ho⟩
theorem Kp2.turn {n₀ n₁ : Nat} {w : World} (hn : n₀ ≤ w.heap.size) (W : World) (l : Nat) (o o' : Obj) (hl : w.heap.size ≤ l) (h : W.heap[l]? = some o) (hc : o.isCells = false) (hw : o.isWalk = false) : Kp2 n₀ n₁ W (W.putObj l o') := by
 refine ⟨belowK_b hn W l o o' hl h hc hw, fun b ob hb hob hcb => ?_⟩;by_cases e : b = l
 ·subst e;rw [h] at hob;cases hob
  rw [hc] at hcb;cases hcb
 ·have := (grownBy_putObj' W l o')
  have h2 := this.2;simp only [World.putObj];rw [Array.getElem?_setIfInBounds];rw [if_neg (fun q => e q.symm)];exact hob
theorem ecCells0 {w : World} {g : Nat} {t : TypeId} {x0 x1 x2 x3 x4 x5 x6 : Value} (h : w.heap[g]? = some (.cells #[x0, x1, x2, x3, x4, x5, x6] t (0, 0))) : w.cell? ⟨g, 0, none⟩ = some x0 ∧ w.cell? ⟨g, 1, none⟩ = some x1 ∧ w.cell? ⟨g, 2, none⟩ = some x2 ∧ w.cell? ⟨g, 3, none⟩ = some x3 ∧ w.cell? ⟨g, 4, none⟩ = some x4 ∧ w.cell? ⟨g, 5, none⟩ = some x5 ∧ w.cell? ⟨g, 6, none⟩ = some x6 :=
 ⟨cell_heap h 0, cell_heap h 1, cell_heap h 2, cell_heap h 3, cell_heap h 4, cell_heap h 5, cell_heap h 6⟩
abbrev PartOf (w : World) := { y : Int × EC × ExV // 0 ≤ y.1 ∧ y.1 ≤ 2000 ∧ ∃ k, k ≤ 2000 ∧ ExAt k w y.2.1.val y.2.2 }
def plainOf {w : World} (y : PartOf w) : Int × ExV := (y.1.1, y.1.2.2)
def encOf {w : World} (y : PartOf w) : Array Value := #[.int .i64 y.1.1, y.1.2.1.val]
theorem ExAt.pos {k : Nat} {w : World} {v : Value} {x : ExV} (h : ExAt k w v x) : ∃ m, k = m + 1 := by
 cases k with
 | zero => cases h
 | succ m => exact ⟨m, rfl⟩
theorem parts_take (k : Nat) (D : Int) (x : ExV) (i : Nat) (h : i < x.sub.length) : (x.sub.take (i + 1)).flatMap (partsX k D) = (x.sub.take i).flatMap (partsX k D) ++ partsX k D (x.sub.getD i noX) := by
 rw [List.take_add_one, List.getElem?_eq_getElem h, List.getD_eq_getElem?_getD, List.getElem?_eq_getElem h, List.flatMap_append]
 simp
theorem flat_pre (k : Nat) (D : Int) (l : List ExV) (i : Nat) : (l.take i).flatMap (partsX k D) <+: l.flatMap (partsX k D) := by
 conv => rhs; rw [← List.take_append_drop i l, List.flatMap_append]
 exact List.prefix_append _ _
set_option maxHeartbeats 4000000 in
set_option maxRecDepth 100000 in
theorem visit_in (F : Fence) (hd : F.depth = none) (hv : F.fn 127) (hro : F.round = none) (l n₁ N B : Nat) (w : World) (J Jx : List (PartOf w) → World → Prop)
  (hJ : ∀ s W W', J s W → W.grownBy W' none → J s W')
  (hY : ∀ m pre x W, J pre W → pre.length < N → YieldAt F m Tryz.prog l (encOf x) W fun e W' =>
   (e = .returned (.bool true) ∧ J (pre ++ [x]) W' ∧ Kp2 w.heap.size n₁ W W') ∨ (e = .returned (.bool false) ∧ Jx (pre ++ [x]) W')) :
  ∀ (k n : Nat) (c : EC) (x : ExV) (D : Int) (pre : List (PartOf w)) (W : World), ExAt k w c.val x → Below w.heap.size w W → n₁ ≤ W.heap.size → 0 ≤ D → D + k ≤ 2000 → J pre W → pre.length + (partsX k D x).length ≤ N →
   CallsIn F n Tryz.prog 127 #[.int .i64 D, c.val, .func (.yield l) #[] #[]] W fun e W' =>
    (e = .returned (.bool true) ∧ ∃ ys : List (PartOf w), ys.map plainOf = partsX k D x ∧ J (pre ++ ys) W' ∧ Kp2 w.heap.size n₁ W W') ∨
    (e = .returned (.bool false) ∧ ∃ ys : List (PartOf w), ys.map plainOf <+: partsX k D x ∧ Jx (pre ++ ys) W') := by
 intro k
 induction k with
 | zero => intro n c x D pre W h; cases h
 | succ k ih =>
  intro n c x D pre W hx hB hn hD hDk hJp hN;have hdd : ∀ k : Nat, (F.depth.isSome = true → 1 ≤ k) := fun k h => by rw [hd] at h; cases h
  obtain ⟨c', hcv, hc, hs⟩ := id hx;obtain rfl := ec_inj hcv;obtain ⟨o, ho⟩ : ∃ o, o = Obj.cells #[.int .i64 c.k, .int .i64 c.t, .bool c.s.a, .slice c.s.p c.s.n c.s.c, .bool c.s.d, .slice c.s.q c.s.m c.s.e, .slice c.p c.n c.c] 28 (0, 0) := ⟨_, rfl⟩
  have hB1 : Below w.heap.size w (W.alloc o) := hB.trans ((Below.refl _ W).alloc hB.size o);have hJ1 : J pre (W.alloc o) := hJ _ _ _ hJp (World.grownBy_alloc W o none);have hK0 : Kp2 w.heap.size n₁ W (W.alloc o) := Kp2.ofBelow hB.size ((Below.refl _ W).alloc (Nat.le_refl _) o);have hl1 : 1 ≤ (partsX (k + 1) D x).length := by simp [partsX]
  obtain ⟨y0, hy0, hy1⟩ : ∃ y0 : PartOf w, encOf y0 = #[.int .i64 D, c.val] ∧ plainOf y0 = (D, x) := ⟨⟨(D, c, x), hD, by show D ≤ 2000; omega, k + 1, by omega, hx⟩, rfl, rfl⟩
  have hE1 := heap_new W o;obtain ⟨fn, tmps, assign, body, hy, hR⟩ := YieldAt.mono (R' := fun e W2 => (e = .returned (.bool true) ∧ J (pre ++ [y0]) W2 ∧ Kp2 w.heap.size n₁ W W2 ∧ Hid (W2.heap[W.heap.size]? = some o) ∧ W2.cell? ⟨W.heap.size, 6, none⟩ = some (.slice c.p c.n c.c)) ∨ (e = .returned (.bool false) ∧ Jx (pre ++ [y0]) W2)) (hY (n - 1) pre y0 (W.alloc o) hJ1 (by omega)) (fun e W2 h => h.elim (fun ⟨he, hj, hk⟩ => .inl ⟨he, hj, hK0.trans hk, hide (hk.cells _ _ hn hE1 (by rw [ho]; rfl)), by
   have := hk.cells _ _ hn hE1 (by rw [ho]; rfl);rw [ho] at this;exact (ecCells0 this).2.2.2.2.2.2⟩) .inr)
  rw [hy0] at hy;have HS := hide hs;have HIH := hide ih;have HHN := hide hN;have HDK := hide hDk;have big := hc.big;have room := hc.room;have HN := hide hc.n;have hD2 : D ≤ 2000 := by omega
  clear hs ih hN hc hx hJp hDk;clear hcv hy0 hl1 hJ1 hE1;unfold EC.val at hy;refine callsIn_of_wp Tryz.func127 rfl hv ?_ hro;simp only [Tryz.ntmps127, List.size_toArray, List.length_cons, List.length_nil, Nat.reduceAdd, Nat.reduceSub, Array.replicate_succ, Array.replicate_zero, List.push_toArray, List.append_toArray, List.nil_append, List.cons_append];unfold EC.val;subst ho
  gi_wp2_with ((try refine ⟨hdd _, ?_⟩); refine hR.mono ?_; clear hR; rintro e W2 (⟨rfl, hJ2, hk2, hE2, c6⟩ | ⟨rfl, hx2⟩))
  ·gi_loopw [17] (fun p wr => ∃ (i : Nat) (ys : List (PartOf w)), p = .int .i64 i ∧ i ≤ c.n ∧ Hid (ys.map plainOf = (D, x) :: (x.sub.take i).flatMap (partsX k (D + 1))) ∧ Hid (J (pre ++ ys) wr) ∧ Hid (Kp2 w.heap.size n₁ W wr)) (fun p wr => c.n - (intOf p).toNat)
   case atStart => exact ⟨0, [y0], rfl, by omega, hide (by simp [hy1]), hide hJ2, hide hk2⟩
   case round =>
    obtain ⟨i, ys, rfl, hi, HY, HJ, HK⟩ := hrel;by_cases hlt : i < c.n
    ·have hk' : i < x.sub.length := by rw [← HN.out]; exact hlt
     obtain ⟨g, off, d, hp, hg, hd', hyy⟩ := HS.out i hk';have HBw : Below w.heap.size w wr := hB.trans HK.out.below;obtain ⟨d0, d1, d2, d3, d4, d5, d6⟩ := hd'.on hg HBw;have hl2 : (pre ++ ys).length + (partsX k (D + 1) (x.sub.getD i noX)).length ≤ N := by
      have e1 := congrArg List.length HY.out;have e2 := (flat_pre k (D + 1) x.sub (i + 1)).length_le;rw [parts_take k (D + 1) x i hk', List.length_append] at e2;have e3 := HHN.out;simp only [partsX, List.length_cons, List.length_map] at e1 e3;rw [List.length_append];omega
     have X := hide (HIH.out (n - 1) d (x.sub.getD i noX) (D + 1) (pre ++ ys) (wr.alloc (Obj.cells #[.int .i64 d.k, .int .i64 d.t, .bool d.s.a, .slice d.s.p d.s.n d.s.c, .bool d.s.d, .slice d.s.q d.s.m d.s.e, .slice d.p d.n d.c] 28 (0, 0))) hyy
      (HBw.trans ((Below.refl _ wr).alloc HBw.size _)) (by have := HK.out.below.size; simp; omega) (by omega) (by have := HDK.out; omega) (hJ _ _ _ HJ.out (World.grownBy_alloc _ _ none)) hl2)
     have HKA := hide (HK.out.trans (Kp2.ofBelow (n₁ := n₁) HBw.size ((Below.refl _ wr).alloc (Nat.le_refl _) (Obj.cells #[.int .i64 d.k, .int .i64 d.t, .bool d.s.a, .slice d.s.p d.s.n d.s.c, .bool d.s.d, .slice d.s.q d.s.m d.s.e, .slice d.p d.n d.c] 28 (0, 0)))));clear hl2 hyy HBw c6 hJ hY HIH HS HJ HK;unfold EC.val at X;rw [hp]
     gi_wp2_with fail
     refine (unhide X).mono ?_;clear X d0 d1 d2 d3 d4 d5 d6;rintro e W3 (⟨rfl, zs, hz, hJ3, hk3⟩ | ⟨rfl, zs, hz, hx3⟩)
     ·have HZ : Hid ((ys ++ zs).map plainOf = (D, x) :: (x.sub.take (i + 1)).flatMap (partsX k (D + 1))) := hide (by
       rw [List.map_append, HY.out, hz, parts_take k (D + 1) x i hk']; rfl)
      have HJ3 := hide hJ3;have HK3 := hide (HKA.out.trans hk3);clear hz hJ3 hk3 HKA HY
      gi_wp2
      go_roundw
      case rel => exact ⟨i + 1, ys ++ zs, by go_num, by omega, HZ, hide (by rw [← List.append_assoc]; exact HJ3.out), HK3⟩
      case measure => simp [intOf]; omega
     ·gi_wp2
      go_ret
      refine .inr ⟨rfl, ys ++ zs, ?_, by rw [← List.append_assoc]; exact hx3⟩;obtain ⟨r, hr⟩ := hz;obtain ⟨r2, hr2⟩ := flat_pre k (D + 1) x.sub (i + 1);refine ⟨r ++ r2, ?_⟩;rw [List.map_append, HY.out];show _ = (D, x) :: x.sub.flatMap (partsX k (D + 1));rw [← hr2, parts_take k (D + 1) x i hk', ← hr]
      simp
    ·have hge : decide ((i : Int) < (c.n : Int)) = false := by simp; omega
     gi_wp2
     go_ret
     refine .inl ⟨rfl, ys, ?_, HJ.out, HK.out⟩;rw [HY.out, List.take_of_length_le (by have := HN.out; omega)]
     rfl
  ·go_ret
   exact .inr ⟨rfl, [y0], by simp [hy1, partsX], hx2⟩
set_option maxHeartbeats 2000000 in
set_option maxRecDepth 100000 in
theorem each1_in (F : Fence) (hd : F.depth = none) (n : Nat) (he : F.fn 126) (hv : F.fn 127) (hro : F.round = none) (l n₁ b : Nat) (w : World) (J Jx : List (PartOf w) → World → Prop) (k : Nat) (c : EC) (x : ExV)
  (hJ : ∀ s W W', J s W → W.grownBy W' none → J s W')
  (hY : ∀ pre y W, J pre W → pre.length < (partsX k 0 x).length → YieldAt F (n - 1) Tryz.prog l (encOf y) W fun e W' =>
   (e = .returned (.bool true) ∧ J (pre ++ [y]) W' ∧ Kp2 w.heap.size n₁ W W') ∨ (e = .returned (.bool false) ∧ Jx (pre ++ [y]) W'))
  (W : World) (hx : ExAt k w c.val x) (hk : k ≤ 2000) (hB : Below w.heap.size w W) (hn : n₁ ≤ W.heap.size) (hE : W.heap[b]? = some (Obj.cells #[.int .i64 c.k, .int .i64 c.t, .bool c.s.a, .slice c.s.p c.s.n c.s.c, .bool c.s.d, .slice c.s.q c.s.m c.s.e, .slice c.p c.n c.c] 28 (0, 0))) (h0 : J [] W) :
  CallsIn F n Tryz.prog 126 #[.func (.yield l) #[] #[], .pointer (some ⟨b, 0, none⟩)] W fun e W' => (∃ v, e = .returned v) ∧
   ((∃ ys, ys.map plainOf = partsX k 0 x ∧ J ys W') ∨ (∃ pre, pre.map plainOf <+: partsX k 0 x ∧ Jx pre W')) := by
 have hdd : ∀ k : Nat, (F.depth.isSome = true → 1 ≤ k) := fun k h => by rw [hd] at h; cases h
 have hp := hide (visit_in F hd hv hro l n₁ (partsX k 0 x).length 0 w J Jx hJ (fun m pre x W hj hl => yield_anyDepth hd m (hY pre x W hj hl)) k (n - 1) c x 0 [] W hx hB hn (by omega) (by omega) h0 (by simp));obtain ⟨c0, c1, c2, c3, c4, c5, c6⟩ := ecCells0 hE;clear hY hJ hx hE h0;refine callsIn_of_wp Tryz.func126 rfl he ?_ hro;simp only [Tryz.ntmps126, List.size_toArray, List.length_cons, List.length_nil, Nat.reduceAdd, Nat.reduceSub, Array.replicate_succ, Array.replicate_zero, List.push_toArray, List.append_toArray, List.nil_append, List.cons_append];unfold EC.val at hp
 gi_wp2_with ((try refine ⟨hdd _, ?_⟩); gi_at_call 127; refine (unhide hp).mono ?_; clear hp; rintro e W1 (⟨rfl, ys, hz, hJ1, _⟩ | ⟨rfl, ys, hq, hx⟩))
 ·go_end0
  exact ⟨⟨_, rfl⟩, .inl ⟨ys, hz, by simpa using hJ1⟩⟩
 ·go_end0
  exact ⟨⟨_, rfl⟩, .inr ⟨ys, hq, by simpa using hx⟩⟩
set_option maxHeartbeats 1000000 in
theorem each_in (F : Fence) (n : Nat) (he : F.fn 83) (hro : F.round = none) (c : EC) (w : World) :
  CallsIn F n Tryz.prog 83 #[c.val] w fun e w' => e = .returned (.func (.func 126) #[] #[.pointer (some ⟨w.heap.size, 0, none⟩)]) ∧ w' = w.alloc (Obj.cells #[.int .i64 c.k, .int .i64 c.t, .bool c.s.a, .slice c.s.p c.s.n c.s.c, .bool c.s.d, .slice c.s.q c.s.m c.s.e, .slice c.p c.n c.c] 28 (0, 0)) := by
 refine callsIn_of_wp Tryz.func83 rfl he ?_ hro;simp only [Tryz.ntmps83, List.size_toArray, List.length_cons, List.length_nil, Nat.reduceAdd, Nat.reduceSub, Array.replicate_succ, Array.replicate_zero, List.push_toArray, List.append_toArray, List.nil_append, List.cons_append];unfold EC.val
 gi_wp2
 go_ret
 exact ⟨rfl, rfl⟩
theorem each_stops (F : Fence) (hd : F.depth = none) (n : Nat) (he : F.fn 126) (hv : F.fn 127) (hro : F.round = none) (b : Nat) (w w0 : World) (k : Nat) (c : EC) (x : ExV) (hx : ExAt k w c.val x) (hk : k ≤ 2000) (hB : Below w.heap.size w w0) (hb : b < w0.heap.size)
  (hE : w0.heap[b]? = some (Obj.cells #[.int .i64 c.k, .int .i64 c.t, .bool c.s.a, .slice c.s.p c.s.n c.s.c, .bool c.s.d, .slice c.s.q c.s.m c.s.e, .slice c.p c.n c.c] 28 (0, 0))) :
  SeqStopsK F n Tryz.prog 126 #[.pointer (some ⟨b, 0, none⟩)] (encOf (w := w)) (Kp2 w.heap.size w0.heap.size) (fun ys => ys.map plainOf = partsX k 0 x) (fun pre => pre.map plainOf <+: partsX k 0 x) (partsX k 0 x).length w0 := fun l J Jx W hW hJ hJx hY h0 =>
 each1_in F hd n he hv hro l w0.heap.size b w J Jx k c x (fun s W W' hs hg => hJ s W W' none hs hg (fun r e => by cases e)) hY W hx hk (hB.trans (hW.mono hB.size)) hW.size ((hW.block b hb).trans hE) h0
end Go.Proofs.YtlmdcaemjaldfaaGreat
namespace Go.Proofs.YtlmdcaemjaldfaaGreat
open Go.RowKit Go.Shelf
attribute [local go_sem] Oper.semAt_some
def tallD (l : List (Int × ExV)) : Int := l.foldl (fun m y => max m (y.1 + 1)) 0
theorem tallD_snoc (l : List (Int × ExV)) (y : Int × ExV) : tallD (l ++ [y]) = max (tallD l) (y.1 + 1) := by simp [tallD]
theorem tall_ge (l : List (Int × ExV)) : ∀ m : Int, m ≤ l.foldl (fun m y => max m (y.1 + 1)) m := by
 induction l with
 | nil => intro m; simp
 | cons y l ih => intro m; have := ih (max m (y.1 + 1)); rw [List.foldl_cons]; omega
theorem tallD_nonneg (l : List (Int × ExV)) : 0 ≤ tallD l := tall_ge l 0
theorem tallD_pre {a b : List (Int × ExV)} (h : a <+: b) : tallD a ≤ tallD b := by
 obtain ⟨r, rfl⟩ := h;unfold tallD;rw [List.foldl_append];exact tall_ge r _
def sizeP (l : List (Int × ExV)) : Int × Int := if l.length ≤ 40 ∧ tallD l ≤ 8 then ((l.length : Int), tallD l) else (0, 0)
structure Own1 (W : World) (b : Nat) (v : Value) : Prop where
 cell : W.cell? ⟨b, 0, none⟩ = some v
 soft : W.frozen? ⟨b, 0, none⟩ = false
theorem Own1.new (W : World) (v : Value) (t : TypeId) : Own1 (W.alloc (.cells #[v] t)) W.heap.size v := by
 have h := World.alloc_heap_new W (.cells #[v] t)
 constructor
 ·unfold World.cell?;rw [h]
  rfl
 ·unfold World.frozen?;rw [h]
  rfl
theorem Own1.kept {W W' : World} {b : Nat} {v : Value} {row : Option Nat} (h : Own1 W b v) (hg : W.grownBy W' row) (hr : ∀ r, row = some r → ∃ o : Obj, W.heap[r]? = some o ∧ o.isCells = false) : Own1 W' b v :=
 ⟨cell_kept h.cell hg hr, (frozen_kept h.cell hg hr).trans h.soft⟩
theorem Own1.alloc {W : World} {b : Nat} {v : Value} (h : Own1 W b v) (o : Obj) : Own1 (W.alloc o) b v := h.kept (World.grownBy_alloc W o none) (fun r e => by cases e)
theorem Own1.drew {W : World} {b : Nat} {v : Value} (h : Own1 W b v) : Own1 W.drew b v := ⟨h.cell, h.soft⟩
theorem Own1.set {W : World} {b : Nat} {v : Value} (h : Own1 W b v) (u : Value) : Own1 (W.setCell ⟨b, 0, none⟩ u) b u :=
 ⟨World.cell?_setCell_same' _ _ _ (by rw [h.cell]; rfl), by rw [World.frozen?_setCell]; exact h.soft⟩
theorem Own1.other {W : World} {b b' : Nat} {v : Value} (h : Own1 W b v) (u : Value) (hne : b ≠ b') : Own1 (W.setCell ⟨b', 0, none⟩ u) b v :=
 ⟨(World.cell?_setCell_other W _ _ _ (by intro e; cases e; exact hne rfl)).trans h.cell, by rw [World.frozen?_setCell]; exact h.soft⟩
theorem Kp2.setCell {n₀ n₁ : Nat} (W : World) (b : Nat) (v : Value) (h0 : n₀ ≤ b) (h1 : b < n₁) : Kp2 n₀ n₁ W (W.setCell ⟨b, 0, none⟩ v) :=
 ⟨(Below.refl n₀ W).setCell (p := ⟨b, 0, none⟩) h0 v, fun k o hk ho _ => (Below.heap_setCell _ _ _ k (fun e => by dsimp only at e; omega)).trans ho⟩
set_option maxRecDepth 100000 in
set_option maxHeartbeats 4000000 in
theorem size_in (F : Fence) (hd : F.depth = none) (n : Nat) (hs : F.fn 82) (h4 : F.fn 83) (h5 : F.fn 126) (h6 : F.fn 127) (hro : F.round = none) (hn : 3 ≤ n) (k : Nat) (c : EC) (x : ExV) (w : World) (hx : ExAt k w c.val x) (hk : k ≤ 2000) :
  CallsIn F n Tryz.prog 82 #[c.val] w fun e w' => e = .returned (.tuple #[.int .i64 (sizeP (partsX k 0 x)).1, .int .i64 (sizeP (partsX k 0 x)).2]) ∧ Below w.heap.size w w' := by
 have h1 : 1 ≤ n := by omega
 have HX := hide hx;obtain ⟨R, hR⟩ : ∃ R, R = sizeP (partsX k 0 x) := ⟨_, rfl⟩
 rw [← hR];have HR := hide hR;clear hR;have hdd : ∀ k : Nat, (F.depth.isSome = true → 1 ≤ k) := fun k h => by rw [hd] at h; cases h
 clear hx;refine callsIn_of_wp_marks Tryz.func82 rfl hs ?_ hro;simp only [Tryz.ntmps82, List.size_toArray, List.length_cons, List.length_nil, Nat.reduceAdd, Nat.reduceSub, Array.replicate_succ, Array.replicate_zero, List.push_toArray, List.append_toArray, List.nil_append, List.cons_append];unfold EC.val
 gi_wp2_with ((try refine ⟨hdd _, ?_⟩); gi_at_call 83; refine (each_in F (n - 1) h4 hro c _).mono ?_; rintro e w' ⟨rfl, rfl⟩)
 have o1 := (Own1.new (w.alloc (Obj.cells #[.int .i64 c.k, .int .i64 c.t, .bool c.s.a, .slice c.s.p c.s.n c.s.c, .bool c.s.d, .slice c.s.q c.s.m c.s.e, .slice c.p c.n c.c] 28 (0, 0))) (.int .i64 0) 3).alloc (Obj.cells #[.int .i64 0] 3);have o2 := Own1.new ((w.alloc (Obj.cells #[.int .i64 c.k, .int .i64 c.t, .bool c.s.a, .slice c.s.p c.s.n c.s.c, .bool c.s.d, .slice c.s.q c.s.m c.s.e, .slice c.p c.n c.c] 28 (0, 0))).alloc (Obj.cells #[.int .i64 0] 3)) (.int .i64 0) 3;obtain ⟨ob, hob⟩ : ∃ ob, ob = Obj.cells #[.int .i64 c.k, .int .i64 c.t, .bool c.s.a, .slice c.s.p c.s.n c.s.c, .bool c.s.d, .slice c.s.q c.s.m c.s.e, .slice c.p c.n c.c] 28 (0, 0) := ⟨_, rfl⟩
 rw [← hob] at o1 o2 ⊢;obtain ⟨w3, hw3⟩ : ∃ w3, w3 = ((w.alloc ob).alloc (Obj.cells #[.int .i64 0] 3)).alloc (Obj.cells #[.int .i64 0] 3) := ⟨_, rfl⟩
 have hB3 : Below w.heap.size w w3 := by rw [hw3]; exact (((Below.refl _ w).alloc (Nat.le_refl _) _).alloc (by simp) _).alloc (by simp; omega) _
 have hz3 : w3.heap.size = w.heap.size + 1 + 1 + 1 := by rw [hw3]; simp
 simp only [World.size_alloc] at o1 o2;rw [← hw3] at o1 o2 ⊢;have o1 := o1.alloc ob;have o2 := o2.alloc ob;have hE := heap_new w3 ob;obtain ⟨w4, hw4⟩ : ∃ w4, w4 = w3.alloc ob := ⟨_, rfl⟩
 have hB4 : Below w.heap.size w w4 := by rw [hw4]; exact hB3.alloc (by omega) _
 have hz4 : w4.heap.size = w.heap.size + 1 + 1 + 1 + 1 := by rw [hw4]; simp [hz3]
 rw [← hw4] at o1 o2 hE ⊢;rw [hz3, hob] at hE;clear hw4 hw3 hB3 hz3;refine wpIn_rangeFunc_ownF hro h1 (gf := 126) (lb := #[.pointer (some ⟨w.heap.size + 1 + 1 + 1, 0, none⟩)]) rfl h5 (enters_of Tryz.func126 (by kernel_rfl) rfl)
  (each_stops F hd (n - 1) h5 h6 hro (w.heap.size + 1 + 1 + 1) w w4 k c x HX.out hk hB4 (by omega) hE) Kp2.trans (Kp2.turn (by omega)) (Below.refl _ _) (fun _ => rfl)
  (fun pre W => (Own1 W (w.heap.size + 1) (.int .i64 (pre.length : Int)) ∧ Own1 W (w.heap.size + 1 + 1) (.int .i64 (tallD (pre.map plainOf))) ∧ pre.length ≤ 40 ∧ tallD (pre.map plainOf) ≤ 8) ∧ Below w.heap.size w W)
  (fun c pre W => (c = .ret ∧ Own1 W (w.heap.size + 1) (.int .i64 0) ∧ Own1 W (w.heap.size + 1 + 1) (.int .i64 0) ∧ ¬ (pre.length ≤ 40 ∧ tallD (pre.map plainOf) ≤ 8)) ∧ Below w.heap.size w W)
  (OwnFrom.and (Own.from (fun s A B row hs hg hr => ⟨hs.1.kept hg hr, hs.2.1.kept hg hr, hs.2.2⟩) _) (ownFrom_below (Nat.le_refl _) (by omega)))
  (fun c => OwnFrom.and (Own.from (fun s A B row hs hg hr => ⟨hs.1, hs.2.1.kept hg hr, hs.2.2.1.kept hg hr, hs.2.2.2⟩) _) (ownFrom_below (Nat.le_refl _) (by omega)))
  ⟨⟨o1, o2, by simp, by simp [tallD]⟩, hB4⟩
  (fun y => { tmps := #[.agg #[.int .i64 c.k, .int .i64 c.t, .bool c.s.a, .slice c.s.p c.s.n c.s.c, .bool c.s.d, .slice c.s.q c.s.m c.s.e, .slice c.p c.n c.c], .pointer (some ⟨w.heap.size, 0, none⟩), .pointer (some ⟨w.heap.size + 1, 0, none⟩), .pointer (some ⟨w.heap.size + 1 + 1, 0, none⟩), .int .i64 y.1.1,
   .agg #[.int .i64 c.k, .int .i64 c.t, .bool c.s.a, .slice c.s.p c.s.n c.s.c, .bool c.s.d, .slice c.s.q c.s.m c.s.e, .slice c.p c.n c.c], .func (.func 126) #[] #[.pointer (some ⟨w.heap.size + 1 + 1 + 1, 0, none⟩)], .int .i64 y.1.1, y.1.2.1.val, undef, undef, undef, undef, undef, undef, undef, undef, undef, undef, undef, undef, undef, undef], defers := [] }) ?assign ?body ?done ?stop
 case assign =>
  intro l y W K hK;unfold encOf
  gi_wp2
  exact hK
 case body =>
  rintro l pre ⟨⟨yd, yc, yx⟩, hy0, hy1, hyk⟩ W ⟨⟨p1, p2, hl, ht⟩, hB⟩ _;dsimp only at hy0 hy1;have ht0 := tallD_nonneg (pre.map plainOf);have hT1 : tallD ((pre ++ [(⟨(yd, yc, yx), hy0, hy1, hyk⟩ : PartOf w)]).map plainOf) = max (tallD (pre.map plainOf)) (yd + 1) := by rw [List.map_append]; exact tallD_snoc _ _
  have hN1 : (pre ++ [(⟨(yd, yc, yx), hy0, hy1, hyk⟩ : PartOf w)]).length = pre.length + 1 := by simp
  generalize (pre ++ [(⟨(yd, yc, yx), hy0, hy1, hyk⟩ : PartOf w)]) = pre1 at *;generalize tallD (pre.map plainOf) = T at *;generalize hLL : (pre.length : Int) = L at *;have hL0 : 0 ≤ L := by omega
  have hL1 : L ≤ 40 := by omega
  have q1 := p1.set (.int .i64 (L + 1));have q2 := p2.other (.int .i64 (L + 1)) (b' := w.heap.size + 1) (by omega);have r1 := q1.other (.int .i64 (max T (yd + 1))) (b' := w.heap.size + 1 + 1) (by omega);have r2 := q2.set (.int .i64 (max T (yd + 1)));have s1 := r1.set (.int .i64 0);have s2 := r2.other (.int .i64 0) (b' := w.heap.size + 1) (by omega);have t1 := s1.other (.int .i64 0) (b' := w.heap.size + 1 + 1) (by omega);have t2 := s2.set (.int .i64 0);have hk2 := (Kp2.setCell (n₀ := w.heap.size) (n₁ := w4.heap.size) W (w.heap.size + 1) (.int .i64 (L + 1)) (by omega) (by omega)).trans (Kp2.setCell _ (w.heap.size + 1 + 1) (.int .i64 (max T (yd + 1))) (by omega) (by omega));have ko2 := (KeepsOthers.setCell W ⟨w.heap.size + 1, 0, none⟩ (.int .i64 (L + 1))).trans (KeepsOthers.setCell _ ⟨w.heap.size + 1 + 1, 0, none⟩ (.int .i64 (max T (yd + 1))));have hk4 := hide ((hk2.trans (Kp2.setCell _ (w.heap.size + 1) (.int .i64 0) (by omega) (by omega))).trans (Kp2.setCell _ (w.heap.size + 1 + 1) (.int .i64 0) (by omega) (by omega)));have ko4 := hide ((ko2.trans (KeepsOthers.setCell _ ⟨w.heap.size + 1, 0, none⟩ (.int .i64 0))).trans (KeepsOthers.setCell _ ⟨w.heap.size + 1 + 1, 0, none⟩ (.int .i64 0)));have hk2 := hide hk2;have ko2 := hide ko2;have HB := hide hB;have T1 := hide t1;have T2 := hide t2;have R1 := hide r1;have R2 := hide r2;obtain ⟨p1c, p1f⟩ := p1;obtain ⟨p2c, p2f⟩ := p2;obtain ⟨q1c, q1f⟩ := q1;obtain ⟨q2c, q2f⟩ := q2;obtain ⟨r1c, r1f⟩ := r1;obtain ⟨r2c, r2f⟩ := r2;obtain ⟨s1c, s1f⟩ := s1;obtain ⟨s2c, s2f⟩ := s2;clear t1 t2 o1 o2 hE HX hB;dsimp only;by_cases g1 : 40 < L + 1
  ·have g1' : decide (40 < L + 1) = true := by simp; omega
   gi_wp2
   exact ⟨ko4.out, ⟨rfl, T1.out, T2.out, fun h => by omega⟩, HB.out.trans hk4.out.below⟩
  ·have g1' : decide (40 < L + 1) = false := by simp; omega
   by_cases g2 : 8 < max T (yd + 1)
   ·have g2' : decide (8 < max T (yd + 1)) = true := by simp; omega
    gi_wp2
    exact ⟨ko4.out, ⟨rfl, T1.out, T2.out, fun h => by rw [hT1]; exact g2⟩, HB.out.trans hk4.out.below⟩
   ·have g2' : decide (8 < max T (yd + 1)) = false := by simp; omega
    gi_wp2
    exact ⟨ko2.out, hz4 ▸ hk2.out, ⟨by rw [show ((pre1.length : Nat) : Int) = L + 1 by omega]; exact R1.out, by rw [hT1]; exact R2.out, by omega, by rw [hT1]; omega⟩, HB.out.trans hk2.out.below⟩
 case done =>
  rintro D ys W hD hS ⟨⟨p1, p2, hl, ht⟩, hB⟩ hK;have hLn : ((partsX k 0 x).length : Int) = (ys.length : Int) := by rw [← hS, List.length_map]
  have e1 : sizeP (partsX k 0 x) = ((ys.length : Int), tallD (ys.map plainOf)) := by
   unfold sizeP;rw [hLn, if_pos ⟨by omega, by rw [← hS]; exact ht⟩, hS]
  have E := hide (HR.out.trans e1);clear e1 HR;have q1 := p1.set (.int .i64 (ys.length : Int));have q2 := p2.other (.int .i64 (ys.length : Int)) (b' := w.heap.size + 1) (by omega);have r1 := q1.other (.int .i64 (tallD (ys.map plainOf))) (b' := w.heap.size + 1 + 1) (by omega);have r2 := q2.set (.int .i64 (tallD (ys.map plainOf)));have hk2 := hide ((Kp2.setCell (n₀ := w.heap.size) (n₁ := w4.heap.size) W (w.heap.size + 1) (.int .i64 (ys.length : Int)) (by omega) (by omega)).trans (Kp2.setCell _ (w.heap.size + 1 + 1) (.int .i64 (tallD (ys.map plainOf))) (by omega) (by omega)));have hK2 := hide (((KeepsOthers.setCell W ⟨w.heap.size + 1, 0, none⟩ (.int .i64 (ys.length : Int))).trans (KeepsOthers.setCell _ ⟨w.heap.size + 1 + 1, 0, none⟩ (.int .i64 (tallD (ys.map plainOf))))).same D _ hK rfl);have R1 := hide r1;have R2 := hide r2;have HB := hide hB;obtain ⟨p1c, p1f⟩ := p1;obtain ⟨p2c, p2f⟩ := p2;obtain ⟨q1c, q1f⟩ := q1;obtain ⟨q2c, q2f⟩ := q2;clear r1 r2 o1 o2 hE HX hB hK hS hLn;generalize tallD (ys.map plainOf) = T at *;generalize (ys.length : Int) = L at *
  gi_wp2
  gi_region
  all_goals gi_wp2
  all_goals
   have hk3 := hK2.out;have y1 := R1.out.drew.kept (grownBy_putObj' _ D (.deferred none)) (fun r e => by cases e; exact ⟨_, hk3, rfl⟩);have y2 := R2.out.drew.kept (grownBy_putObj' _ D (.deferred none)) (fun r e => by cases e; exact ⟨_, hk3, rfl⟩);refine ⟨by simp, .inl ⟨_, _, rfl, run_takeDeferred hk3, ?_⟩⟩;refine ⟨.tuple #[.int .i64 L, .int .i64 T], ?_, by rw [E.out], (HB.out.trans hk2.out.below).trans ((belowK_b (w := w) (Nat.le_refl _) _ D _ _ (by omega) hk3 rfl rfl).drew)⟩
   simp [results, Tryz.f82, go_sem, y1.cell, y2.cell]
 case stop =>
  rintro D c pre W hD hpre ⟨⟨rfl, z1, z2, hne⟩, hB⟩ hK;have e1 : sizeP (partsX k 0 x) = (0, 0) := by
   unfold sizeP;rw [if_neg ?_];intro h
   apply hne
   have h2 := hpre.length_le;have h3 := tallD_pre hpre;rw [List.length_map] at h2;omega
  have E := hide (HR.out.trans e1);clear e1 HR hne hpre
  gi_wp2
  refine ⟨by simp, .inl ⟨_, _, rfl, run_takeDeferred hK, ?_⟩⟩;have y1 := z1.kept (grownBy_putObj' _ D (.deferred none)) (fun r e => by cases e; exact ⟨_, hK, rfl⟩);have y2 := z2.kept (grownBy_putObj' _ D (.deferred none)) (fun r e => by cases e; exact ⟨_, hK, rfl⟩);refine ⟨.tuple #[.int .i64 0, .int .i64 0], ?_, by rw [E.out], hB.trans (belowK_b (w := w) (Nat.le_refl _) W D _ _ (by omega) hK rfl rfl)⟩
  simp [results, Tryz.f82, go_sem, y1.cell, y2.cell]
end Go.Proofs.YtlmdcaemjaldfaaGreat
namespace Go.Proofs.YtlmdcaemjaldfaaGreat
open Go.RowKit Go.Shelf
attribute [local go_sem] Oper.semAt_some
def cellsOf (c : EC) : Obj := Obj.cells #[.int .i64 c.k, .int .i64 c.t, .bool c.s.a, .slice c.s.p c.s.n c.s.c, .bool c.s.d, .slice c.s.q c.s.m c.s.e, .slice c.p c.n c.c] 28 (0, 0)
def rightP (l : List (Int × ExV)) : Bool := !(decide ((sizeP l).1 = 0)) && l.all fun y => nodeX y.2
theorem size_any (k : Nat) (c : EC) (x : ExV) (w : World) (hx : ExAt k w c.val x) (hk : k ≤ 2000) :
  Calls Tryz.prog 82 #[c.val] w fun e w' => e = .returned (.tuple #[.int .i64 (sizeP (partsX k 0 x)).1, .int .i64 (sizeP (partsX k 0 x)).2]) ∧ Below w.heap.size w w' :=
 (callsIn_wide (n := 3)).1 (size_in Fence.wide rfl 3 trivial trivial trivial trivial rfl (by omega) k c x w hx hk)
set_option maxRecDepth 100000 in
set_option maxHeartbeats 4000000 in
theorem right_any (k : Nat) (c : EC) (x : ExV) (w : World) (hx : ExAt k w c.val x) (hk : k ≤ 2000) :
  Calls Tryz.prog 45 #[c.val] w fun e w' => e = .returned (.bool (rightP (partsX k 0 x))) ∧ Below w.heap.size w w' := by
 refine (callsIn_wide (n := 5)).1 ?_;have HX := hide hx;obtain ⟨R, hR⟩ : ∃ R, R = rightP (partsX k 0 x) := ⟨_, rfl⟩
 rw [← hR];have HR := hide hR;have B0 := fun (o : Obj) => hide ((Below.refl _ w).alloc (Nat.le_refl _) o)
 have X := fun (W : World) (b : Below w.heap.size w W) => hide (callsIn_wide (n := 5 - 1).2 (size_any k c x W (ExAt.on b _ hx) hk))
 clear hx hR;refine callsIn_of_wp_marks Tryz.func45 rfl trivial ?_ rfl;simp only [Tryz.ntmps45, List.size_toArray, List.length_cons, List.length_nil, Nat.reduceAdd, Nat.reduceSub, Array.replicate_succ, Array.replicate_zero, List.push_toArray, List.append_toArray, List.nil_append, List.cons_append];unfold EC.val at X ⊢
 gi_wp2
 have o1 := Own1.new (w.alloc (Obj.cells #[.int .i64 c.k, .int .i64 c.t, .bool c.s.a, .slice c.s.p c.s.n c.s.c, .bool c.s.d, .slice c.s.q c.s.m c.s.e, .slice c.p c.n c.c] 28 (0, 0))) (.bool false) 4;have hE := (Below.heap_alloc (w.alloc (Obj.cells #[.int .i64 c.k, .int .i64 c.t, .bool c.s.a, .slice c.s.p c.s.n c.s.c, .bool c.s.d, .slice c.s.q c.s.m c.s.e, .slice c.p c.n c.c] 28 (0, 0))) (Obj.cells #[.bool false] 4) w.heap.size (by simp)).trans (heap_new w _);have hBA := ((Below.refl _ w).alloc (Nat.le_refl _) (Obj.cells #[.int .i64 c.k, .int .i64 c.t, .bool c.s.a, .slice c.s.p c.s.n c.s.c, .bool c.s.d, .slice c.s.q c.s.m c.s.e, .slice c.p c.n c.c] 28 (0, 0))).alloc (by simp) (Obj.cells #[.bool false] 4);simp only [World.size_alloc] at o1;have hzA : ((w.alloc (Obj.cells #[.int .i64 c.k, .int .i64 c.t, .bool c.s.a, .slice c.s.p c.s.n c.s.c, .bool c.s.d, .slice c.s.q c.s.m c.s.e, .slice c.p c.n c.c] 28 (0, 0))).alloc (Obj.cells #[.bool false] 4)).heap.size = w.heap.size + 1 + 1 := by simp
 generalize (w.alloc (Obj.cells #[.int .i64 c.k, .int .i64 c.t, .bool c.s.a, .slice c.s.p c.s.n c.s.c, .bool c.s.d, .slice c.s.q c.s.m c.s.e, .slice c.p c.n c.c] 28 (0, 0))).alloc (Obj.cells #[.bool false] 4) = wA at *;refine ⟨trivial, ?_⟩;refine (unhide (X _ hBA)).mono ?_;rintro e wB ⟨rfl, bB⟩;have oB : Own1 wB (w.heap.size + 1) (.bool false) := ⟨(bB.cell (p := ⟨_, _, none⟩) (by rw [hzA]; simp)).trans o1.cell, (bB.frozen (p := ⟨_, _, none⟩) (by rw [hzA]; simp)).trans o1.soft⟩
 have hEB := (bB.block w.heap.size (by omega)).trans hE;have hBB := hBA.trans (bB.mono hBA.size);have hzB : w.heap.size + 1 + 1 ≤ wB.heap.size := by have := bB.size; omega
 obtain ⟨c0, c1, c2, c3, c4, c5, c6⟩ := ecCells1 hEB;clear X B0 bB hE hBA o1 hzA hEB;obtain ⟨P, hP⟩ : ∃ P, P = partsX k 0 x := ⟨_, rfl⟩
 have HP := hide hP;rw [← hP] at HR ⊢;clear hP;obtain ⟨oc, of⟩ := id oB;have HOB := hide oB;have HBB := hide hBB;clear oB hBB;by_cases hz : (sizeP P).1 = 0
 ·have hz' : ((sizeP P).1 == 0) = true := by rw [hz]; rfl
  have E : Hid (R = false) := hide (by rw [HR.out]; unfold rightP; rw [decide_eq_true hz]; rfl);have q1 := hide (HOB.out.set (.bool false));have b1 := hide (HBB.out.setCell (p := ⟨w.heap.size + 1, 0, none⟩) (by simp) (.bool false));generalize (sizeP P).1 = s1 at *;generalize (sizeP P).2 = s2 at *;clear hz HR HP
  gi_wp2
  refine ⟨.bool false, ?_, by rw [E.out], b1.out⟩
  simp [results, Tryz.f45, go_sem, q1.out.cell]
 ·have hz' : ((sizeP P).1 == 0) = false := by simpa using hz
  have E : Hid (R = P.all fun y => nodeX y.2) := hide (by rw [HR.out]; unfold rightP; rw [decide_eq_false hz]; rfl);generalize (sizeP P).1 = s1 at *;generalize (sizeP P).2 = s2 at *;clear hz HR;have Y := fun (W : World) => hide (each_in Fence.wide (5 - 1) trivial rfl c W)
  unfold EC.val at Y
  gi_wp2
  refine ⟨trivial, ?_⟩;refine (unhide (Y wB)).mono ?_;rintro e wC ⟨rfl, hwC⟩;have hEC := heap_new wB (cellsOf c);have oC := HOB.out.alloc (cellsOf c);have hBC := HBB.out.alloc HBB.out.size (cellsOf c);have hzC : (wB.alloc (cellsOf c)).heap.size = wB.heap.size + 1 := by simp
  rw [show wB.alloc (cellsOf c) = wC from hwC.symm] at hEC oC hBC hzC;have hfor := fun (m : Nat) (d : EC) (y : ExV) (W : World) (b : Below w.heap.size w W) (h : ExAt m w d.val y) => (show EcFor W d y by
   obtain ⟨m', rfl⟩ := h.pos;obtain ⟨d', hv, hd, _⟩ := h;obtain rfl := ec_inj hv;exact hd.on b)
  have HFOR := hide hfor;clear hwC Y HOB c0 c1 c2 c3 c4 c5 c6 oc of hfor
  gi_wp2
  refine wpIn_rangeFunc_ownH (α := PartOf w) (w := wC) rfl (by omega) (gf := 126) (lb := #[.pointer (some ⟨wB.heap.size, 0, none⟩)]) rfl trivial (enters_of Tryz.func126 (by kernel_rfl) rfl)
   (each_stops Fence.wide rfl (5 - 1) trivial trivial rfl wB.heap.size w wC k c x HX.out hk hBC (by omega) hEC) Kp2.trans (Kp2.turn hBC.size) (Below.refl _ _) (fun _ => rfl)
   (fun pre W => (Own1 W (w.heap.size + 1) (.bool false) ∧ ∀ y ∈ pre, nodeX (plainOf y).2 = true) ∧ Below w.heap.size w W)
   (fun c pre W => (c = .ret ∧ Own1 W (w.heap.size + 1) (.bool false) ∧ ∃ y ∈ pre, nodeX (plainOf y).2 = false) ∧ Below w.heap.size w W)
   (OwnFrom.and (Own.from (fun s A B row hs hg hr => ⟨hs.1.kept hg hr, hs.2⟩) _) (ownFrom_below (Nat.le_refl _) hBC.size))
   (fun c => OwnFrom.and (Own.from (fun s A B row hs hg hr => ⟨hs.1, hs.2.1.kept hg hr, hs.2.2⟩) _) (ownFrom_below (Nat.le_refl _) hBC.size))
   ⟨⟨oC, fun y hy => by cases hy⟩, hBC⟩
   (fun y a' W => ∃ bx, W.heap[bx]? = some (cellsOf y.1.2.1) ∧ a' = { tmps := #[.agg #[.int .i64 c.k, .int .i64 c.t, .bool c.s.a, .slice c.s.p c.s.n c.s.c, .bool c.s.d, .slice c.s.q c.s.m c.s.e, .slice c.p c.n c.c], .pointer (some ⟨w.heap.size, 0, none⟩), .pointer (some ⟨w.heap.size + 1, 0, none⟩), .int .i64 s1, .int .i64 s2, undef, .pointer (some ⟨bx, 0, none⟩), .tuple #[.int .i64 s1, .int .i64 s2], .agg #[.int .i64 c.k, .int .i64 c.t, .bool c.s.a, .slice c.s.p c.s.n c.s.c, .bool c.s.d, .slice c.s.q c.s.m c.s.e, .slice c.p c.n c.c], .tuple #[.int .i64 s1, .int .i64 s2], .int .i64 s1, .int .i64 s2, .int .i64 s1, .bool false, .agg #[.int .i64 c.k, .int .i64 c.t, .bool c.s.a, .slice c.s.p c.s.n c.s.c, .bool c.s.d, .slice c.s.q c.s.m c.s.e, .slice c.p c.n c.c], .func (.func 126) #[] #[.pointer (some ⟨wB.heap.size, 0, none⟩)], .int .i64 y.1.1, y.1.2.1.val, undef, undef, undef], defers := [] })
   (fun y a' => fun s A B row hs hg hr => by
    obtain ⟨bx, hbx, ha⟩ := hs;refine ⟨bx, (hg.block bx (Array.getElem?_eq_some_iff.1 hbx).1 (fun e => ?_)).trans hbx, ha⟩;obtain ⟨_, o, ho, hc⟩ := hr bx e.symm;rw [hbx] at ho;cases ho
    cases hc) ?assign ?body ?done ?stop
  case assign =>
   rintro l pre ⟨⟨yd, yc, yx⟩, hy⟩ W K ⟨⟨p1, hall⟩, hB⟩ hK;have hK1 := fun a' => hK a' (W.alloc (cellsOf yc)) ((KeepsOthers.alloc _ _).from _) (Kp2.ofBelow hB.size ((Below.refl _ W).alloc (Nat.le_refl _) _)) ⟨⟨p1.alloc _, hall⟩, hB.alloc hB.size _⟩
   have hN := heap_new W (cellsOf yc);have hK2 := hide (hK1 _ ⟨W.heap.size, hN, rfl⟩);clear hK hK1 hN;unfold cellsOf at hK2;dsimp only at hK2;unfold encOf EC.val at *;dsimp only
   gi_wp2
   exact hK2.out
  case body =>
   rintro l pre ⟨⟨yd, yc, yx⟩, hy⟩ a' W hl hr ⟨⟨p1, hall⟩, hB⟩ ⟨bx, hbx, rfl⟩ hlt;have hall' : ∀ y ∈ pre ++ [(⟨(yd, yc, yx), hy⟩ : PartOf w)], nodeX (plainOf y).2 = true ∨ (plainOf y).2 = yx := fun y hy' => by
    rcases List.mem_append.1 hy' with h | h
    ·exact .inl (hall y h)
    ·simp only [List.mem_singleton] at h;subst h;exact .inr rfl
   have hin : ∃ y ∈ pre ++ [(⟨(yd, yc, yx), hy⟩ : PartOf w)], (plainOf y).2 = yx := ⟨⟨(yd, yc, yx), hy⟩, List.mem_append.2 (.inr (List.mem_singleton.2 rfl)), rfl⟩
   obtain ⟨m, hm, hex⟩ := hy.2.2;have Z := hide (CallsIn.inRound l (callsIn_wide (n := 5 - 1 - 1 - 1).2 (rightPart_any yc yx W (HFOR.out m yc yx W hB hex))));obtain ⟨d0, d1, d2, d3, d4, d5, d6⟩ := ecCells1 hbx;have HB := hide hB;have P1 := hide p1;have HA := hide hall';have HI := hide hin;generalize pre ++ [(⟨(yd, yc, yx), hy⟩ : PartOf w)] = pre1 at *;clear hex hB p1 hall hall' hin HFOR hbx hlt hr hEC oC HX;unfold EC.val at Z ⊢;dsimp only;cases hq : nodeX yx
   ·rw [hq] at Z
    gi_wp2
    refine ⟨trivial, ?_⟩;refine (unhide Z).mono ?_;rintro e W1 ⟨rfl, bW⟩;have ko : KeepsOthers W W1 := ⟨bW.size, fun j o h _ => (bW.block j (Array.getElem?_eq_some_iff.1 h).1).trans h⟩
    have kp : Kp2 w.heap.size wC.heap.size W W1 := Kp2.ofBelow HB.out.size bW;have hl1 : w.heap.size + 1 < W.heap.size := lt_cell (a := ⟨w.heap.size + 1, 0, none⟩) P1.out.cell;have p2 : Own1 W1 (w.heap.size + 1) (.bool false) := ⟨(bW.cell (p := ⟨_, _, none⟩) hl1).trans P1.out.cell, (bW.frozen (p := ⟨_, _, none⟩) hl1).trans P1.out.soft⟩
    have B1 := hide (HB.out.trans (bW.mono HB.out.size));have KO := hide ko;have KP := hide kp;have P2 := hide p2;obtain ⟨pc, pf⟩ := p2;clear Z d0 d1 d2 d3 d4 d5 d6 ko kp bW P1 HB
    gi_wp2
    obtain ⟨y, hy1, hy2⟩ := HI.out;exact ⟨(KO.out.trans (KeepsOthers.setCell _ _ _)).from _, ⟨rfl, P2.out.set _, y, hy1, by rw [hy2]; exact hq⟩, B1.out.setCell (p := ⟨w.heap.size + 1, 0, none⟩) (by simp) _⟩
   ·rw [hq] at Z
    gi_wp2
    refine ⟨trivial, ?_⟩;refine (unhide Z).mono ?_;rintro e W1 ⟨rfl, bW⟩;have ko : KeepsOthers W W1 := ⟨bW.size, fun j o h _ => (bW.block j (Array.getElem?_eq_some_iff.1 h).1).trans h⟩
    have kp : Kp2 w.heap.size wC.heap.size W W1 := Kp2.ofBelow HB.out.size bW;have hl1 : w.heap.size + 1 < W.heap.size := lt_cell (a := ⟨w.heap.size + 1, 0, none⟩) P1.out.cell;have p2 : Own1 W1 (w.heap.size + 1) (.bool false) := ⟨(bW.cell (p := ⟨_, _, none⟩) hl1).trans P1.out.cell, (bW.frozen (p := ⟨_, _, none⟩) hl1).trans P1.out.soft⟩
    have B1 := hide (HB.out.trans (bW.mono HB.out.size));have KO := hide ko;have KP := hide kp;have P2 := hide p2;obtain ⟨pc, pf⟩ := p2;clear Z d0 d1 d2 d3 d4 d5 d6 ko kp bW P1 HB
    gi_wp2
    exact ⟨KO.out.from _, KP.out, ⟨P2.out, fun y hy => (HA.out y hy).elim id (fun e => by rw [e]; exact hq)⟩, B1.out⟩
  case done =>
   rintro D ys W hD hS ⟨⟨p1, hall⟩, hB⟩ hK;have E2 : Hid (R = true) := hide (by
    rw [E.out, HP.out, ← hS, List.all_eq_true];intro z hz;obtain ⟨y, hy, rfl⟩ := List.mem_map.1 hz;exact hall y hy)
   have q1 := p1.set (.bool true);have hK2 := (KeepsOthers.setCell W ⟨w.heap.size + 1, 0, none⟩ (.bool true)).same D _ hK rfl;have hB2 := hB.setCell (p := ⟨w.heap.size + 1, 0, none⟩) (by simp) (.bool true);have Q1 := hide q1;have K2 := hide hK2;have B2 := hide hB2;obtain ⟨pc, pf⟩ := p1;clear q1 hK2 hB2 hK hB hall hS hEC oC HX HFOR
   gi_wp2
   refine ⟨by simp, .inl ⟨_, _, rfl, run_takeDeferred K2.out, ?_⟩⟩;have y1 := Q1.out.kept (grownBy_putObj' _ D (.deferred none)) (fun r e => by cases e; exact ⟨_, K2.out, rfl⟩);refine ⟨.bool true, ?_, by rw [E2.out], B2.out.trans (belowK_b (w := w) (Nat.le_refl _) _ D _ _ (by have := hBC.size; omega) K2.out rfl rfl)⟩
   simp [results, Tryz.f45, go_sem, y1.cell]
  case stop =>
   rintro D c' pre W hD hS ⟨⟨rfl, p1, y, hy, hq⟩, hB⟩ hK;have E2 : Hid (R = false) := hide (by
    rw [E.out, HP.out, List.all_eq_false];exact ⟨_, hS.subset (List.mem_map_of_mem hy), by rw [hq]; simp⟩)
   clear hS hEC oC HX HFOR hy hq
   gi_wp2
   refine ⟨by simp, .inl ⟨_, _, rfl, run_takeDeferred hK, ?_⟩⟩;have y1 := p1.kept (grownBy_putObj' _ D (.deferred none)) (fun r e => by cases e; exact ⟨_, hK, rfl⟩);refine ⟨.bool false, ?_, by rw [E2.out], hB.trans (belowK_b (w := w) (Nat.le_refl _) W D _ _ (by have := hBC.size; omega) hK rfl rfl)⟩
   simp [results, Tryz.f45, go_sem, y1.cell]
end Go.Proofs.YtlmdcaemjaldfaaGreat
namespace Go.Proofs.YtlmdcaemjaldfaaGreat
def sizeX : Nat → ExV → Nat
 | 0, _ => 0
 | k + 1, x => 1 + (x.sub.map (sizeX k)).sum
def depthX : Nat → ExV → Int
 | 0, _ => 0
 | k + 1, x => x.sub.foldl (fun m y => max m (depthX k y)) 0 + 1
theorem parts_len : ∀ (k : Nat) (D : Int) (x : ExV), (partsX k D x).length = sizeX k x
 | 0, _, _ => rfl
 | k + 1, D, x => by
  unfold partsX sizeX;rw [List.length_cons, List.length_flatMap, show (List.map (fun a => (partsX k (D + 1) a).length) x.sub) = x.sub.map (sizeX k) from List.map_congr_left fun y _ => parts_len k (D + 1) y];omega
theorem foldl_max_init {α : Type} (h : α → Int) : ∀ (l : List α) (a b : Int), max a (l.foldl (fun m y => max m (h y)) b) = l.foldl (fun m y => max m (h y)) (max a b)
 | [], a, b => rfl
 | y :: l, a, b => by
  rw [List.foldl_cons, List.foldl_cons, foldl_max_init h l]
  congr 1
  omega
theorem foldl_max_shift {α : Type} (g : α → Int) (c : Int) : ∀ (l : List α) (m : Int), l.foldl (fun m y => max m (c + g y)) (c + m) = c + l.foldl (fun m y => max m (g y)) m
 | [], m => rfl
 | y :: l, m => by
  rw [List.foldl_cons, List.foldl_cons, show max (c + m) (c + g y) = c + max m (g y) by omega, foldl_max_shift g c l]
theorem foldl_max_congr {α : Type} (g h : α → Int) : ∀ (l : List α) (m : Int), (∀ y ∈ l, g y = h y) → l.foldl (fun m y => max m (g y)) m = l.foldl (fun m y => max m (h y)) m
 | [], m, _ => rfl
 | y :: l, m, H => by
  rw [List.foldl_cons, List.foldl_cons, H y (by simp), foldl_max_congr g h l _ fun z hz => H z (by simp [hz])]
theorem tallD_append (a b : List (Int × ExV)) : tallD (a ++ b) = max (tallD a) (tallD b) := by
 unfold tallD;rw [List.foldl_append, foldl_max_init (fun y : Int × ExV => y.1 + 1)]
 congr 1
 have := tallD_nonneg a;unfold tallD at this;omega
theorem tallD_flat (g : ExV → List (Int × ExV)) : ∀ (l : List ExV), tallD (l.flatMap g) = l.foldl (fun m y => max m (tallD (g y))) 0
 | [] => rfl
 | y :: l => by
  rw [List.flatMap_cons, tallD_append, tallD_flat g l, List.foldl_cons, foldl_max_init (fun y => tallD (g y))]
  congr 1
  have := tallD_nonneg (g y);omega
theorem depthX_nonneg : ∀ (k : Nat) (x : ExV), 0 ≤ depthX k x
 | 0, _ => by unfold depthX; omega
 | k + 1, x => by
  have := foldl_max_ge (depthX k) x.sub 0;unfold depthX;omega
theorem parts_tall : ∀ (k : Nat) (D : Int) (x : ExV), 0 ≤ D → tallD (partsX (k + 1) D x) = D + depthX (k + 1) x
 | 0, D, x, hD => by
  unfold partsX depthX;have : ∀ l : List ExV, l.foldl (fun (m : Int) (y : ExV) => max m (depthX 0 y)) 0 = 0 := by
   intro l
   induction l with
   | nil => rfl
   | cons y l ih => exact ih
  rw [show (x.sub.flatMap (partsX 0 (D + 1))) = [] by simp [partsX], this]
  simp [tallD]
  omega
 | k + 1, D, x, hD => by
  rw [show partsX (k + 1 + 1) D x = [(D, x)] ++ x.sub.flatMap (partsX (k + 1) (D + 1)) from rfl, tallD_append, tallD_flat, foldl_max_congr _ (fun y => (D + 1) + depthX (k + 1) y) x.sub 0 (fun y _ => parts_tall k (D + 1) y (by omega)), foldl_max_init,
   show max (tallD [(D, x)]) 0 = (D + 1) + 0 by simp [tallD]; omega, foldl_max_shift]
  rw [show depthX (k + 1 + 1) x = x.sub.foldl (fun m y => max m (depthX (k + 1) y)) 0 + 1 from rfl];omega
theorem sizeX_fuel : ∀ (n m : Nat) (x : ExV), lowX n x → n ≤ m → sizeX m x = sizeX n x
 | 0, _, _, h, _ => by cases h
 | n + 1, m, x, h, hm => by
  obtain ⟨k, rfl⟩ : ∃ k, m = k + 1 := ⟨m - 1, by omega⟩
  unfold sizeX;rw [List.map_congr_left fun y hy => sizeX_fuel n k y (h y hy) (by omega)]
theorem depthX_fuel : ∀ (n m : Nat) (x : ExV), lowX n x → n ≤ m → depthX m x = depthX n x
 | 0, _, _, h, _ => by cases h
 | n + 1, m, x, h, hm => by
  obtain ⟨k, rfl⟩ : ∃ k, m = k + 1 := ⟨m - 1, by omega⟩
  unfold depthX;rw [foldl_max_congr _ _ _ _ fun y hy => depthX_fuel n k y (h y hy) (by omega)]
theorem eachX_fuel : ∀ (n m : Nat) (x : ExV), lowX n x → n ≤ m → eachX m x = eachX n x
 | 0, _, _, h, _ => by cases h
 | n + 1, m, x, h, hm => by
  obtain ⟨k, rfl⟩ : ∃ k, m = k + 1 := ⟨m - 1, by omega⟩
  unfold eachX;rw [all_congr_mem _ _ _ fun y hy => eachX_fuel n k y (h y hy) (by omega)]
theorem eachX_any {n m : Nat} {x : ExV} (hn : lowX n x) (hm : lowX m x) : eachX m x = eachX n x := by
 rcases Nat.le_total n m with h | h
 ·exact eachX_fuel n m x hn h
 ·exact (eachX_fuel m n x hm h).symm
theorem depth_low : ∀ (k m : Nat) (x : ExV), lowX k x → depthX k x ≤ (m : Int) → lowX m x
 | 0, _, _, h, _ => by cases h
 | k + 1, 0, x, _, h => by
  have := foldl_max_ge (depthX k) x.sub 0;unfold depthX at h;omega
 | k + 1, m + 1, x, hl, h => fun y hy => by
  have h1 := foldl_max_mem (depthX k) x.sub 0 y hy;unfold depthX at h;exact depth_low k m y (hl y hy) (by omega)
theorem count_size : ∀ (f : Nat) (x : ExV), lowX f x → countX f x = min (sizeX f x : Int) 100
 | 0, _, h => by cases h
 | f + 1, x, h => by
  have H : ∀ (l : List ExV), (∀ y ∈ l, lowX f y) → ∀ n : Int, 0 ≤ n → min (l.foldl (fun n y => if n < 100 then n + countX f y else n) n) 100 = min (n + ((l.map (sizeX f)).sum : Int)) 100 := by
   intro l
   induction l with
   | nil => intro _ n _; simp
   | cons y l ih =>
    intro hy n hn;have h1 := count_size f y (hy y (by simp));have h2 := countX_pos f y;rw [List.foldl_cons, ih (fun z hz => hy z (by simp [hz])) _ (by split <;> omega), List.map_cons, List.sum_cons]
    split
    ·rw [h1];omega
    ·omega
  have := H x.sub h 1 (by omega);unfold countX sizeX;rw [this];omega
theorem sub_size {f : Nat} {y : ExV} : ∀ {l : List ExV}, y ∈ l → sizeX f y ≤ (l.map (sizeX f)).sum
 | z :: l, h => by
  rw [List.map_cons, List.sum_cons];rcases List.mem_cons.1 h with rfl | h
  ·omega
  ·have := sub_size (f := f) h;omega
theorem sizeX_pos {f : Nat} {x : ExV} (h : lowX f x) : 1 ≤ sizeX f x := by
 cases f with
 | zero => cases h
 | succ f => unfold sizeX; omega
theorem sum_len {f : Nat} : ∀ {l : List ExV}, (∀ y ∈ l, lowX f y) → l.length ≤ (l.map (sizeX f)).sum
 | [], _ => by simp
 | z :: l, h => by
  have h1 := sizeX_pos (h z (by simp));have h2 := sum_len (f := f) (l := l) fun y hy => h y (by simp [hy])
  rw [List.map_cons, List.sum_cons, List.length_cons];omega
theorem deep_depth : ∀ (f : Nat) (x : ExV), lowX f x → sizeX f x < 100 → deepX f x = min (depthX f x) 20
 | 0, _, h, _ => by cases h
 | f + 1, x, h, hs => by
  unfold sizeX at hs;have hl := sum_len h;unfold deepX depthX;rw [List.take_of_length_le (by omega), foldl_max_congr _ (fun y => min (depthX f y) 20) x.sub 0 fun y hy => deep_depth f y (h y hy) (by have := sub_size (f := f) hy; omega)];have H : ∀ (l : List ExV) (a b : Int), min a 20 = min b 20 → min (l.foldl (fun m y => max m (min (depthX f y) 20)) a) 20 = min (l.foldl (fun m y => max m (depthX f y)) b) 20 := by
   intro l
   induction l with
   | nil => intro a b h; exact h
   | cons y l ih =>
    intro a b h;rw [List.foldl_cons, List.foldl_cons];exact ih _ _ (by omega)
  have := H x.sub 0 0 rfl;omega
theorem fits_plain {k : Nat} {x : ExV} (hl : lowX k x) : fitsX x = decide (sizeX k x ≤ 40 ∧ depthX k x ≤ 8) := by
 by_cases h : sizeX k x ≤ 40 ∧ depthX k x ≤ 8
 ·rw [decide_eq_true h];have l8 : lowX 8 x := depth_low k 8 x hl (by omega);have l21 := lowX_mono 8 21 x (by omega) l8;have e1 : sizeX 21 x = sizeX k x := by
   rcases Nat.le_total k 21 with g | g
   ·exact sizeX_fuel k 21 x hl g
   ·exact (sizeX_fuel 21 k x l21 g).symm
  have e2 : depthX 21 x = depthX k x := by
   rcases Nat.le_total k 21 with g | g
   ·exact depthX_fuel k 21 x hl g
   ·exact (depthX_fuel 21 k x l21 g).symm
  unfold fitsX;rw [count_size 21 x l21, deep_depth 21 x l21 (by omega), e1, e2, Bool.and_eq_true, decide_eq_true_eq, decide_eq_true_eq];omega
 ·rw [decide_eq_false h];cases hf : fitsX x
  ·rfl
  ·exfalso
   apply h
   have l8 := fits_low hf;have l21 := lowX_mono 8 21 x (by omega) l8;unfold fitsX at hf;rw [Bool.and_eq_true, decide_eq_true_eq, decide_eq_true_eq, count_size 21 x l21] at hf;have hs : sizeX 21 x ≤ 40 := by omega
   rw [deep_depth 21 x l21 (by omega)] at hf;have e1 : sizeX 21 x = sizeX k x := by
    rcases Nat.le_total k 21 with g | g
    ·exact sizeX_fuel k 21 x hl g
    ·exact (sizeX_fuel 21 k x l21 g).symm
   have e2 : depthX 21 x = depthX k x := by
    rcases Nat.le_total k 21 with g | g
    ·exact depthX_fuel k 21 x hl g
    ·exact (depthX_fuel 21 k x l21 g).symm
   omega
theorem fits_nums {k : Nat} {x : ExV} (hl : lowX k x) (hf : fitsX x = true) : countX 21 x = (sizeX k x : Int) ∧ deepX 21 x = depthX k x := by
 have l8 := fits_low hf;have l21 := lowX_mono 8 21 x (by omega) l8;have h := hf;rw [fits_plain hl, decide_eq_true_eq] at h;have e1 : sizeX 21 x = sizeX k x := by
  rcases Nat.le_total k 21 with g | g
  ·exact sizeX_fuel k 21 x hl g
  ·exact (sizeX_fuel 21 k x l21 g).symm
 have e2 : depthX 21 x = depthX k x := by
  rcases Nat.le_total k 21 with g | g
  ·exact depthX_fuel k 21 x hl g
  ·exact (depthX_fuel 21 k x l21 g).symm
 rw [count_size 21 x l21, deep_depth 21 x l21 (by omega), e1, e2];omega
theorem size_plain {k : Nat} {x : ExV} (hl : lowX k x) : sizeP (partsX k 0 x) = if fitsX x then (countX 21 x, deepX 21 x) else (0, 0) := by
 obtain ⟨m, rfl⟩ : ∃ m, k = m + 1 := by
  cases k with
  | zero => cases hl
  | succ m => exact ⟨m, rfl⟩
 unfold sizeP;rw [parts_len, parts_tall m 0 x (by omega), Int.zero_add];have hf := fits_plain hl;by_cases h : sizeX (m + 1) x ≤ 40 ∧ depthX (m + 1) x ≤ 8
 ·rw [decide_eq_true h] at hf;obtain ⟨e1, e2⟩ := fits_nums hl hf;rw [if_pos h, hf, if_pos rfl, e1, e2]
 ·rw [decide_eq_false h] at hf;rw [if_neg h, hf, if_neg (by simp)]
theorem parts_each : ∀ (k : Nat) (D : Int) (x : ExV), lowX k x → ((partsX k D x).all fun y => nodeX y.2) = eachX k x
 | 0, _, _, h => by cases h
 | k + 1, D, x, h => by
  unfold partsX eachX;rw [List.all_cons, List.all_flatMap]
  congr 1
  exact all_congr_mem _ _ _ fun y hy => parts_each k (D + 1) y (h y hy)
theorem right_plain {k : Nat} {x : ExV} (hl : lowX k x) : rightP (partsX k 0 x) = rightX x := by
 unfold rightP rightX;rw [size_plain hl, parts_each k 0 x hl];cases hf : fitsX x
 ·rfl
 ·have := countX_pos 21 x;rw [if_pos rfl, decide_eq_false (by dsimp only; omega), eachX_any (fits_low hf) hl]
  rfl
theorem ExAt.shrink {w : World} : ∀ (n m : Nat) {v : Value} {x : ExV}, ExAt n w v x → lowX m x → ExAt m w v x
 | 0, _, _, _, h, _ => by cases h
 | n + 1, 0, v, x, _, h => by cases h
 | n + 1, m + 1, v, x, ⟨c, hv, hc, hs⟩, hl => by
  refine ⟨c, hv, hc, fun i hi => ?_⟩;obtain ⟨g, off, d, hp, hg, hd, hx⟩ := hs i hi;exact ⟨g, off, d, hp, hg, hd, ExAt.shrink n m hx (hl _ (getD_mem hi))⟩
end Go.Proofs.YtlmdcaemjaldfaaGreat
