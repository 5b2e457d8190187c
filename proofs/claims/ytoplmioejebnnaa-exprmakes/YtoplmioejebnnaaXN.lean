/-
  The program's copied, walked.
-/
import Derived.Test.YtoplmioejebnnaaXM
import Derived.Deep.CutRange
set_option linter.unusedSimpArgs false
set_option linter.unusedVariables false
namespace Go.Proofs.Ytoplmioejebnnaa
open Go.RowKit

set_option maxHeartbeats 8000000 in
set_option maxRecDepth 100000 in
theorem copied_any : ∀ (n : Nat) (x : ExV) (c : EC) (w : World), ExAt n w c.val x → cpX n x →
    Calls Try.prog 37 #[c.val] w fun r w' => (∃ d : EC, r = .returned d.val ∧ ∀ w'', Kept w.heap.size w' w'' → ExAt n w'' d.val x) ∧ Below w.heap.size w w' := by
  intro n
  induction n with
  | zero => intro x c w h; cases h
  | succ n ih =>
    intro x c w hx hcp
    obtain ⟨c', hv, hc, hs⟩ := id hx
    obtain rfl := ec_inj hv
    have : Inhabited EC := ⟨ec0⟩
    obtain ⟨es, hes⟩ := Go.Deep.choose_lt (p := fun i d => (∃ g off, c.p = some ⟨g, off, none⟩ ∧ g < w.heap.size ∧ EcAt w g (off + i * 7) d) ∧ ExAt n w d.val (x.sub.getD i noX)) (fun i hi => by
      obtain ⟨g, off, d, hp, hg, hd, hy⟩ := hs i hi
      exact ⟨d, ⟨g, off, hp, hg, hd⟩, hy⟩)
    have HC := hide hc
    have HES := hide hes
    have HN := hide hc.n
    have HCP := hide hcp
    have IH := hide ih
    have T0 := hide (Pair.new w (exObj c) (exObj ec0))
    have nle : c.n ≤ 1000 := by rw [hc.n]; exact hcp.2.2.1
    clear hx hv hc hs hes hcp ih
    unfold exObj ec0 SC.zero at T0
    unfold EC.val
    go_enter Try.func37, Try.ntmps37
    go_wp2_with fail
    generalize (w.alloc (Obj.cells #[.int .i64 c.k, .int .i64 c.t, .bool c.s.a, .slice c.s.p c.s.n c.s.c, .bool c.s.d, .slice c.s.q c.s.m c.s.e, .slice c.p c.n c.c] 28)).alloc (Obj.cells #[.int .i64 0, .int .i64 0, .bool false, .slice none 0 0, .bool false, .slice none 0 0, .slice none 0 0] 28) = W0 at T0 ⊢
    refine (copiedSet_any c.s x.set W0 (HC.out.s.on T0.out.b) (by have := HCP.out.1; omega) (by have := HCP.out.2.1; omega)).mono ?_
    rintro r w1 ⟨⟨y, rfl, hY⟩, b1⟩
    have T1 := hide (T0.out.on b1)
    have HY := hide hY
    have K1 := hide T0.out.size
    have K0 := hide b1.size
    obtain ⟨c0, c1, c2, c3, c4, c5, c6⟩ := ecCells1 T1.out.e1
    have z2 := soft_heap T1.out.e1 2
    have z3 := soft_heap T1.out.e1 3
    have z4 := soft_heap T1.out.e1 4
    have z5 := soft_heap T1.out.e1 5
    have T2 : Hid (Pair w ((((w1.setCell ⟨w.heap.size, 2, none⟩ (.bool y.a)).setCell ⟨w.heap.size, 3, none⟩ (.slice y.p y.n y.c)).setCell ⟨w.heap.size, 4, none⟩ (.bool y.d)).setCell ⟨w.heap.size, 5, none⟩ (.slice y.q y.m y.e)) (.cells #[.int .i64 c.k, .int .i64 c.t, .bool y.a, .slice y.p y.n y.c, .bool y.d, .slice y.q y.m y.e, .slice c.p c.n c.c] 28 (0, 0)) (.cells #[.int .i64 0, .int .i64 0, .bool false, .slice none 0 0, .bool false, .slice none 0 0, .slice none 0 0] 28 (0, 0))) := hide ((((T1.out.put1 2 (.bool y.a)).put1 3 (.slice y.p y.n y.c)).put1 4 (.bool y.d)).put1 5 (.slice y.q y.m y.e))
    have K2 := hide ((((Kept.setCell w1 w.heap.size 2 (.bool y.a) (m := W0.heap.size) (by have := K1.out; omega)).trans (Kept.setCell _ w.heap.size 3 (.slice y.p y.n y.c) (by have := K1.out; omega))).trans (Kept.setCell _ w.heap.size 4 (.bool y.d) (by have := K1.out; omega))).trans (Kept.setCell _ w.heap.size 5 (.slice y.q y.m y.e) (by have := K1.out; omega)))
    have L2 := hide (show w1.heap.size = ((((w1.setCell ⟨w.heap.size, 2, none⟩ (.bool y.a)).setCell ⟨w.heap.size, 3, none⟩ (.slice y.p y.n y.c)).setCell ⟨w.heap.size, 4, none⟩ (.bool y.d)).setCell ⟨w.heap.size, 5, none⟩ (.slice y.q y.m y.e)).heap.size by simp)
    clear hY b1 T0
    unfold SC.val
    go_upto_region 2 with fail
    generalize (((w1.setCell ⟨w.heap.size, 2, none⟩ (.bool y.a)).setCell ⟨w.heap.size, 3, none⟩ (.slice y.p y.n y.c)).setCell ⟨w.heap.size, 4, none⟩ (.bool y.d)).setCell ⟨w.heap.size, 5, none⟩ (.slice y.q y.m y.e) = w2 at T2 K2 L2 ⊢
    clear c0 c1 c2 c3 c4 c5 c6 z2 z3 z4 z5 T1
    obtain ⟨c0, c1, c2, c3, c4, c5, c6⟩ := ecCells1 T2.out.e1
    go_wp2_with fail
    refine (cloneX_new c.p c.n c.c es w2 nle HC.out.none (fun j hj => ?_)).mono ?_
    · obtain ⟨⟨g, off, hp, hg, hd⟩, _⟩ := HES.out j (by rw [← HN.out]; exact hj)
      exact ⟨g, off, hp, hd.on hg T2.out.b⟩
    rintro r w3 ⟨⟨p, k, rfl, hk1, hk2, hk3, hrow⟩, b3⟩
    have T3 := hide (T2.out.on b3)
    have e1 : w3.heap[w.heap.size]? = some (.cells #[.int .i64 c.k, .int .i64 c.t, .bool y.a, .slice y.p y.n y.c, .bool y.d, .slice y.q y.m y.e, .slice c.p c.n c.c] 28 (0, 0)) := T3.out.e1
    clear c0 c1 c2 c3 c4 c5 c6
    obtain ⟨c0, c1, c2, c3, c4, c5, c6⟩ := ecCells1 e1
    have z6 := soft_heap e1 6
    have T4 : Hid (Pair w (w3.setCell ⟨w.heap.size, 6, none⟩ (.slice p c.n k)) (.cells #[.int .i64 c.k, .int .i64 c.t, .bool y.a, .slice y.p y.n y.c, .bool y.d, .slice y.q y.m y.e, .slice (p) c.n k] 28 (0, 0)) (.cells #[.int .i64 0, .int .i64 0, .bool false, .slice none 0 0, .bool false, .slice none 0 0, .slice none 0 0] 28 (0, 0))) := hide (T3.out.put1 6 (.slice p c.n k))
    have KW := hide ((K2.out.trans (Kept.ofBelow b3)).trans (Kept.setCell w3 w.heap.size 6 (.slice p c.n k) (m := W0.heap.size) (by have := K1.out; omega)))
    have HROW : Hid (0 < c.n → ∃ b, p = some ⟨b, 0, none⟩ ∧ w1.heap.size ≤ b ∧ b < (w3.setCell ⟨w.heap.size, 6, none⟩ (.slice p c.n k)).heap.size ∧ RowX (w3.setCell ⟨w.heap.size, 6, none⟩ (.slice p c.n k)) b c.n es) := hide (fun h => by
      obtain ⟨b, e, hb1, hb2, hb3⟩ := hrow h
      refine ⟨b, e, by rw [L2.out]; exact hb1, by simpa using hb2, hb3.ofBlock (Below.heap_setCell _ _ _ b (fun e => ?_))⟩
      have := T2.out.size
      dsimp only at e
      omega)
    have HK3 := hide hk3
    clear hrow b3 T2 T3 e1 hk3 L2 K2
    go_upto_region 3 with fail
    generalize w3.setCell ⟨w.heap.size, 6, none⟩ (.slice p c.n k) = w4 at T4 KW HROW ⊢
    clear c0 c1 c2 c3 c4 c5 c6 z6
    obtain ⟨c0, c1, c2, c3, c4, c5, c6⟩ := ecCells1 T4.out.e1
    rcases Nat.eq_zero_or_pos c.n with hz | hpos
    · have HZ := hide hz
      clear hz
      go_wp2
      go_loopw [16] (fun i wr => ∃ j : Nat, i = .int .i64 j ∧ wr = w4) (fun i _ => 0)
      case atStart => exact ⟨0, rfl, rfl⟩
      case round =>
        obtain ⟨j, rfl, rfl⟩ := hrel
        have hlt : ¬ j < c.n := by have := HZ.out; omega
        have hge : decide ((j : Int) < (c.n : Int)) = false := by simp; omega
        clear c0 c1 c2 c3 c4 c5 c6
        obtain ⟨c0, c1, c2, c3, c4, c5, c6⟩ := ecCells1 T4.out.e1
        obtain ⟨d0, d1, d2, d3, d4, d5, d6⟩ := ecCells1 T4.out.e2
        have z0 := soft_heap T4.out.e2 0
        have z1 := soft_heap T4.out.e2 1
        have z2 := soft_heap T4.out.e2 2
        have z3 := soft_heap T4.out.e2 3
        have z4 := soft_heap T4.out.e2 4
        have z5 := soft_heap T4.out.e2 5
        have z6 := soft_heap T4.out.e2 6
        have T5 : Hid (Pair w (((((((wr.setCell ⟨w.heap.size + 1, 0, none⟩ (.int .i64 c.k)).setCell ⟨w.heap.size + 1, 1, none⟩ (.int .i64 c.t)).setCell ⟨w.heap.size + 1, 2, none⟩ (.bool y.a)).setCell ⟨w.heap.size + 1, 3, none⟩ (.slice y.p y.n y.c)).setCell ⟨w.heap.size + 1, 4, none⟩ (.bool y.d)).setCell ⟨w.heap.size + 1, 5, none⟩ (.slice y.q y.m y.e)).setCell ⟨w.heap.size + 1, 6, none⟩ (.slice (p) c.n k)) (.cells #[.int .i64 c.k, .int .i64 c.t, .bool y.a, .slice y.p y.n y.c, .bool y.d, .slice y.q y.m y.e, .slice (p) c.n k] 28 (0, 0)) (.cells #[.int .i64 c.k, .int .i64 c.t, .bool y.a, .slice y.p y.n y.c, .bool y.d, .slice y.q y.m y.e, .slice (p) c.n k] 28 (0, 0))) := hide (((((((T4.out.put2 0 (.int .i64 c.k)).put2 1 (.int .i64 c.t)).put2 2 (.bool y.a)).put2 3 (.slice y.p y.n y.c)).put2 4 (.bool y.d)).put2 5 (.slice y.q y.m y.e)).put2 6 (.slice (p) c.n k))
        have K5 := hide (((((((Kept.setCell wr (w.heap.size + 1) 0 (.int .i64 c.k) (m := W0.heap.size) K1.out).trans (Kept.setCell _ (w.heap.size + 1) 1 (.int .i64 c.t) K1.out)).trans (Kept.setCell _ (w.heap.size + 1) 2 (.bool y.a) K1.out)).trans (Kept.setCell _ (w.heap.size + 1) 3 (.slice y.p y.n y.c) K1.out)).trans (Kept.setCell _ (w.heap.size + 1) 4 (.bool y.d) K1.out)).trans (Kept.setCell _ (w.heap.size + 1) 5 (.slice y.q y.m y.e) K1.out)).trans (Kept.setCell _ (w.heap.size + 1) 6 (.slice (p) c.n k) K1.out))
        go_wp2
        refine bodyPost_ret (results_cell_row rfl _ _ (w.heap.size + 1) 28 _ (0, 0) _ rfl T5.out.e2 Try.underlying28 rfl infoEx) rfl ⟨⟨⟨c.k, c.t, y, p, c.n, k⟩, rfl, fun w'' hk => ?_⟩, T5.out.b⟩
        have hk' := K5.out.trans (hk.mono (m' := W0.heap.size) (by have := K1.out; omega))
        refine ⟨⟨c.k, c.t, y, p, c.n, k⟩, rfl, ⟨HC.out.k, HC.out.t, HC.out.n, HC.out.k0, HC.out.k1, HC.out.t0, HC.out.t1, HY.out w'' (KW.out.trans hk'), hk1, hk2, HK3.out⟩, fun i hi => ?_⟩
        have := HZ.out
        have h2 := HN.out
        omega
    · obtain ⟨b, rfl, hb1, hb2, hb3⟩ := HROW.out hpos
      have HB1 := hide hb1
      have R4 : Hid (b < w4.heap.size ∧ RowX w4 b c.n es) := hide ⟨hb2, hb3⟩
      clear HROW hb1 hb2 hb3
      go_wp2
      go_loopw [16] (fun i wr => ∃ (j : Nat) (fs : Nat → EC), i = .int .i64 j ∧ j ≤ c.n ∧ Hid (Pair w wr (.cells #[.int .i64 c.k, .int .i64 c.t, .bool y.a, .slice y.p y.n y.c, .bool y.d, .slice y.q y.m y.e, .slice (some ⟨b, 0, none⟩) c.n k] 28 (0, 0)) (.cells #[.int .i64 0, .int .i64 0, .bool false, .slice none 0 0, .bool false, .slice none 0 0, .slice none 0 0] 28 (0, 0))) ∧ Hid (Kept W0.heap.size w1 wr) ∧ Hid (b < wr.heap.size ∧ RowX wr b c.n fs) ∧ Hid (∀ m, m < j → ∀ w'', Kept (b + 1) wr w'' → ExAt n w'' (fs m).val (x.sub.getD m noX)) ∧ Hid (∀ m, j ≤ m → m < c.n → fs m = es m)) (fun i _ => c.n - (intOf i).toNat)
      case atStart => exact ⟨0, es, rfl, by omega, T4, KW, R4, hide (fun m h => by omega), hide (fun _ _ _ => rfl)⟩
      case round =>
        clear c0 c1 c2 c3 c4 c5 c6 T4 KW R4
        obtain ⟨j, fs, rfl, hj, T4, KW, R4, HD, HO⟩ := hrel
        by_cases hlt : j < c.n
        · obtain ⟨d0, d1, d2, d3, d4, d5, d6⟩ := R4.out.2.els j hlt
          have HEX : Hid (ExAt n w (fs j).val (x.sub.getD j noX)) := hide (by
            rw [HO.out j (Nat.le_refl _) hlt]
            exact (HES.out j (by rw [← HN.out]; exact hlt)).2)
          have HCJ : Hid (cpX n (x.sub.getD j noX)) := hide (HCP.out.2.2.2 _ (getD_mem (by rw [← HN.out]; exact hlt)))
          obtain ⟨d, hd⟩ : ∃ d, d = fs j := ⟨_, rfl⟩
          rw [← hd] at d0 d1 d2 d3 d4 d5 d6 HEX
          clear hd
          have bA := (Below.refl _ wr).alloc (Nat.le_refl _) (exObj d)
          have TA := hide (T4.out.on bA)
          have XA := hide (show ExIn (wr.alloc (exObj d)) wr.heap.size d from heap_new wr _)
          have RA := hide (R4.out.2.ofBlock (bA.block b R4.out.1))
          have sA := hide (show (wr.alloc (exObj d)).heap.size = wr.heap.size + 1 by simp)
          have BA := hide bA
          clear bA
          unfold exObj at TA XA RA sA BA
          go_upto_region 6 with fail
          generalize wr.alloc (Obj.cells #[.int .i64 d.k, .int .i64 d.t, .bool d.s.a, .slice d.s.p d.s.n d.s.c, .bool d.s.d, .slice d.s.q d.s.m d.s.e, .slice d.p d.n d.c] 28) = wa at TA XA RA sA BA ⊢
          clear d0 d1 d2 d3 d4 d5 d6
          obtain ⟨c0, c1, c2, c3, c4, c5, c6⟩ := ecCells1 TA.out.e1
          refine wp_region_held_drew (S := fun w' => w'.cell? ⟨w.heap.size, 6, none⟩ = some (.slice (some ⟨b, 0, none⟩) c.n k) ∧ ExIn w' wr.heap.size d) (by kernel_rfl) ⟨c6, XA.out⟩ (fun hHeld => ?_)
          have BD := hide (show Below wa.heap.size wa wa.drew from (Below.refl _ wa).drew)
          generalize wa.drew = wd at BD hHeld ⊢
          refine wpAnyH_take (i := 0) (oi := ⟨_, _, _, _, _, _⟩) (v := .pointer (some ⟨w.heap.size, 6, none⟩)) rfl (by kernel_rfl) (by kernel_rfl) (by kernel_rfl) (fun _ _ _ h => h) (yl_exSub (by rfl) _ rfl _ rfl) (by assumption) ?_
          simp only [Act.put, List.setIfInBounds_toArray, List.set_cons_zero, List.set_cons_succ]
          refine wpAnyH_take (i := 1) (oi := ⟨_, _, _, _, _, _⟩) (v := .slice (some ⟨b, 0, none⟩) c.n k) rfl (by kernel_rfl) (by kernel_rfl) (by kernel_rfl) (fun _ _ _ h => h) (yl_exRow (by rfl) _ rfl _ 6 rfl _ _ _ (fun _ h => h.1)) (by assumption) ?_
          simp only [Act.put, List.setIfInBounds_toArray, List.set_cons_zero, List.set_cons_succ]
          refine wpAnyH_take (i := 2) (oi := ⟨_, _, _, _, _, _⟩) (v := .int .i64 j) rfl (by kernel_rfl) (by kernel_rfl) (by kernel_rfl) (fun _ _ _ h => h) (yl_move (by rfl) _ rfl _ rfl) (by assumption) ?_
          simp only [Act.put, List.setIfInBounds_toArray, List.set_cons_zero, List.set_cons_succ]
          refine wpAnyH_take (i := 3) (oi := ⟨_, _, _, _, _, _⟩) (v := d.val) rfl (by kernel_rfl) (by kernel_rfl) (by kernel_rfl) (fun _ _ _ h => h) (yl_ex (by rfl) _ rfl _ 0 rfl d (fun _ h => h.2.ec)) (by assumption) ?_
          simp only [Act.put, List.setIfInBounds_toArray, List.set_cons_zero, List.set_cons_succ]
          refine held_call (o := ⟨_, _, _, _, _, _⟩) 4 (by kernel_rfl) rfl (by rfl) 37 _ _ rfl #[d.val] rfl (run_call Try.func37 (by kernel_rfl) (by kernel_rfl)) ?_
          have TD := hide (TA.out.on BD.out)
          refine (IH.out (x.sub.getD j noX) d wd (ExAt.on TD.out.b _ HEX.out) HCJ.out).mono ?_
          rintro r w5 ⟨⟨d', rfl, hN⟩, b5⟩
          have s5 : wr.heap.size + 1 ≤ wd.heap.size := by have h1 := BD.out.size; have h2 := sA.out; omega
          refine ⟨d'.val, rfl, ⟨(b5.cell (p := ⟨w.heap.size, 6, none⟩) (by have := TD.out.size; dsimp only; omega)).trans hHeld.1, hHeld.2.on b5⟩, fun hHeld => ?_⟩
          simp only [Act.put, List.setIfInBounds_toArray, List.set_cons_zero, List.set_cons_succ]
          have T5 := hide (TD.out.on b5)
          have bw : b < wd.heap.size := by have h1 := R4.out.1; omega
          have R5 := RA.out.ofBlock (BD.out.block b (by have h1 := R4.out.1; have h2 := sA.out; omega))
          replace R5 := R5.ofBlock (b5.block b bw)
          refine wpAnyH_take (i := 5) (oi := ⟨_, _, _, _, _, _⟩) (v := .pointer (some ⟨b, j * 7, none⟩)) rfl (by kernel_rfl) (by kernel_rfl) (by kernel_rfl) (fun _ _ _ h => h) (yl_exAt (by rfl) _ _ rfl b c.n k j rfl rfl hlt) (by assumption) ?_
          simp only [Act.put, List.setIfInBounds_toArray, List.set_cons_zero, List.set_cons_succ]
          refine wpAnyH_all (rs := [6]) (by kernel_rfl) (by simp) ?_
          intro jj hj'
          have hj' := List.mem_singleton.1 hj'
          subst hj'
          refine op_storeEx (o := ⟨_, _, _, _, _, _⟩) rfl (by rfl) _ _ rfl b (j * 7) d' rfl rfl (R5.there j hlt) ?_
          have R6 := R5.put j hlt d'
          have h0 := HB1.out
          have hK0 := K0.out
          have hK1 := K1.out
          have b6 := Below.setCells (B := w.heap.size) (w0 := w) b (by omega) d'.list (j * 7) w5 T5.out.b
          have T6 : Hid (Pair w (w5.setCells b (j * 7) d'.list) _ _) := hide ⟨(World.heap_setCells_other w5 b (j * 7) d'.list (by have := T5.out.size; omega) (by omega)).trans T5.out.e1, (World.heap_setCells_other w5 b (j * 7) d'.list T5.out.size (by omega)).trans T5.out.e2, b6⟩
          have k5 : Kept W0.heap.size wr w5 := ((Kept.ofBelow BA.out).trans (Kept.ofBelow BD.out)).trans (Kept.ofBelow b5)
          have kb6 : Kept (b + 1) w5 (w5.setCells b (j * 7) d'.list) := Kept.setCells w5 (j * 7) d'.list (by omega)
          have KW6 : Hid (Kept W0.heap.size w1 (w5.setCells b (j * 7) d'.list)) := hide ⟨by rw [size_setCells]; exact Nat.le_trans KW.out.size k5.size, fun g hg hs => by
            rw [World.heap_setCells_other w5 b (j * 7) d'.list (Nat.lt_of_lt_of_le hs (Nat.le_trans KW.out.size k5.size)) (by omega), k5.block g hg (Nat.lt_of_lt_of_le hs KW.out.size)]
            exact KW.out.block g hg hs⟩
          have HD6 : Hid (∀ m, m < j + 1 → ∀ w'', Kept (b + 1) (w5.setCells b (j * 7) d'.list) w'' → ExAt n w'' ((fun i => if i = j then d' else fs i) m).val (x.sub.getD m noX)) := hide (fun m hm w'' hk => by
            have hk2 := kb6.trans hk
            by_cases e : m = j
            · subst e
              simp only [if_pos]
              exact hN w'' (hk2.mono (by have := R4.out.1; omega))
            · simp only [if_neg e]
              exact HD.out m (by omega) w'' ((k5.mono (by omega)).trans hk2))
          have HO6 : Hid (∀ m, j + 1 ≤ m → m < c.n → (fun i => if i = j then d' else fs i) m = es m) := hide (fun m hm hl => by
            dsimp only
            rw [if_neg (by omega)]
            exact HO.out m (by omega) hl)
          have s6 : b < (w5.setCells b (j * 7) d'.list).heap.size := by rw [size_setCells]; have := b5.size; omega
          have R7 := hide (And.intro s6 R6)
          have hS6 : (w5.setCells b (j * 7) d'.list).cell? ⟨w.heap.size, 6, none⟩ = some (.slice (some ⟨b, 0, none⟩) c.n k) ∧ ExIn (w5.setCells b (j * 7) d'.list) wr.heap.size d := ⟨(ecCells1 T6.out.e1).2.2.2.2.2.2, (World.heap_setCells_other w5 b (j * 7) d'.list (lt_heap hHeld.2) (by have h1 := R4.out.1; omega)).trans hHeld.2⟩
          refine ⟨hS6, ?_⟩
          simp only [Act.put, List.setIfInBounds_toArray, List.set_cons_zero, List.set_cons_succ]
          refine wpAnyH_done (by kernel_rfl) ?_ _
          clear hHeld hS6 R6 R5 b6 k5 kb6 s6 bw s5 h0 hK0 hK1 TD T5 b5 hN BD TA XA RA sA BA c0 c1 c2 c3 c4 c5 c6 HEX HCJ HD HO R4 KW T4
          generalize w5.setCells b (j * 7) d'.list = w6 at T6 KW6 HD6 R7 ⊢
          go_wp2
          exact ⟨⟨j + 1, _, by go_num, by omega, T6, KW6, R7, HD6, HO6⟩, by simp [intOf]; omega⟩
        · have hge : decide ((j : Int) < (c.n : Int)) = false := by simp; omega
          obtain ⟨c0, c1, c2, c3, c4, c5, c6⟩ := ecCells1 T4.out.e1
          obtain ⟨d0, d1, d2, d3, d4, d5, d6⟩ := ecCells1 T4.out.e2
          have z0 := soft_heap T4.out.e2 0
          have z1 := soft_heap T4.out.e2 1
          have z2 := soft_heap T4.out.e2 2
          have z3 := soft_heap T4.out.e2 3
          have z4 := soft_heap T4.out.e2 4
          have z5 := soft_heap T4.out.e2 5
          have z6 := soft_heap T4.out.e2 6
          have T5 : Hid (Pair w (((((((wr.setCell ⟨w.heap.size + 1, 0, none⟩ (.int .i64 c.k)).setCell ⟨w.heap.size + 1, 1, none⟩ (.int .i64 c.t)).setCell ⟨w.heap.size + 1, 2, none⟩ (.bool y.a)).setCell ⟨w.heap.size + 1, 3, none⟩ (.slice y.p y.n y.c)).setCell ⟨w.heap.size + 1, 4, none⟩ (.bool y.d)).setCell ⟨w.heap.size + 1, 5, none⟩ (.slice y.q y.m y.e)).setCell ⟨w.heap.size + 1, 6, none⟩ (.slice (some ⟨b, 0, none⟩) c.n k)) (.cells #[.int .i64 c.k, .int .i64 c.t, .bool y.a, .slice y.p y.n y.c, .bool y.d, .slice y.q y.m y.e, .slice (some ⟨b, 0, none⟩) c.n k] 28 (0, 0)) (.cells #[.int .i64 c.k, .int .i64 c.t, .bool y.a, .slice y.p y.n y.c, .bool y.d, .slice y.q y.m y.e, .slice (some ⟨b, 0, none⟩) c.n k] 28 (0, 0))) := hide (((((((T4.out.put2 0 (.int .i64 c.k)).put2 1 (.int .i64 c.t)).put2 2 (.bool y.a)).put2 3 (.slice y.p y.n y.c)).put2 4 (.bool y.d)).put2 5 (.slice y.q y.m y.e)).put2 6 (.slice (some ⟨b, 0, none⟩) c.n k))
          have K5 := hide (((((((Kept.setCell wr (w.heap.size + 1) 0 (.int .i64 c.k) (m := W0.heap.size) K1.out).trans (Kept.setCell _ (w.heap.size + 1) 1 (.int .i64 c.t) K1.out)).trans (Kept.setCell _ (w.heap.size + 1) 2 (.bool y.a) K1.out)).trans (Kept.setCell _ (w.heap.size + 1) 3 (.slice y.p y.n y.c) K1.out)).trans (Kept.setCell _ (w.heap.size + 1) 4 (.bool y.d) K1.out)).trans (Kept.setCell _ (w.heap.size + 1) 5 (.slice y.q y.m y.e) K1.out)).trans (Kept.setCell _ (w.heap.size + 1) 6 (.slice (some ⟨b, 0, none⟩) c.n k) K1.out))
          go_wp2
          refine bodyPost_ret (results_cell_row rfl _ _ (w.heap.size + 1) 28 _ (0, 0) _ rfl T5.out.e2 Try.underlying28 rfl infoEx) rfl ⟨⟨⟨c.k, c.t, y, some ⟨b, 0, none⟩, c.n, k⟩, rfl, fun w'' hk => ?_⟩, T5.out.b⟩
          have hk' := K5.out.trans (hk.mono (m' := W0.heap.size) (by have := K1.out; omega))
          refine ⟨⟨c.k, c.t, y, some ⟨b, 0, none⟩, c.n, k⟩, rfl, ⟨HC.out.k, HC.out.t, HC.out.n, HC.out.k0, HC.out.k1, HC.out.t0, HC.out.t1, HY.out w'' (KW.out.trans hk'), hk1, hk2, HK3.out⟩, fun i hi => ?_⟩
          have hi' : i < c.n := by rw [HN.out]; exact hi
          have kb : b < w''.heap.size := by have h1 := hk'.size; have h2 := R4.out.1; omega
          have blk : w''.heap[b]? = wr.heap[b]? := hk'.block b (by have h1 := HB1.out; have h2 := K0.out; omega) R4.out.1
          refine ⟨b, 0, fs i, rfl, kb, ?_, HD.out i (by omega) w'' (hk'.mono (by have h1 := HB1.out; have h2 := K0.out; omega))⟩
          rw [Nat.zero_add]
          exact (R4.out.2.els i hi').ofBlock blk
end Go.Proofs.Ytoplmioejebnnaa
