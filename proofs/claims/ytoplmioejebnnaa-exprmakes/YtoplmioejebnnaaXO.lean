/-
  The program's roomLeft and copiedList.
-/
import Derived.Test.YtoplmioejebnnaaXN
set_option linter.unusedSimpArgs false
set_option linter.unusedVariables false
namespace Go.Proofs.Ytoplmioejebnnaa
open Go.RowKit

/-- The value is a row of just these expressions. -/
def RowsX (n : Nat) (w : World) (v : Value) (l : List ExV) : Prop :=
  ∃ (p : Option Addr) (k : Nat), v = .slice p l.length k ∧ l.length ≤ k ∧ k ≤ 9223372036854775807 ∧ (p = none → l.length = 0 ∧ k = 0) ∧
    ∀ i, i < l.length → ∃ (g off : Nat) (d : EC), p = some ⟨g, off, none⟩ ∧ g < w.heap.size ∧ EcAt w g (off + i * 7) d ∧ ExAt n w d.val (l.getD i noX)
theorem RowsX.on {n : Nat} {w w' : World} {v : Value} {l : List ExV} (h : RowsX n w v l) (hb : Below w.heap.size w w') : RowsX n w' v l := by
  obtain ⟨p, k, e, h1, h2, h3, h4⟩ := h
  refine ⟨p, k, e, h1, h2, h3, fun i hi => ?_⟩
  obtain ⟨g, off, d, hp, hg, hd, hx⟩ := h4 i hi
  exact ⟨g, off, d, hp, Nat.lt_of_lt_of_le hg hb.size, hd.on hg hb, ExAt.on hb n hx⟩
theorem RowsX.nil (n : Nat) (w : World) : RowsX n w (.slice none 0 0) [] := ⟨none, 0, rfl, by simp, by omega, fun _ => ⟨rfl, rfl⟩, fun i h => by simp at h⟩

set_option maxHeartbeats 4000000 in
set_option maxRecDepth 100000 in
theorem roomLeft_any : ∀ (n : Nat) (x : ExV) (c : EC) (w : World) (z : Int), ExAt n w c.val x → cpX n x → 0 ≤ z → z ≤ 1024 →
    Calls Try.prog 58 #[.int .i64 z, .slice c.p c.n c.c] w fun r w' => (∃ y : Int, r = .returned (.int .i64 y) ∧ -1000 ≤ y ∧ y ≤ 1024) ∧ Below w.heap.size w w' := by
  intro n
  induction n with
  | zero => intro x c w z h; cases h
  | succ n ih =>
    intro x c w z hx hcp z0 z1
    obtain ⟨c', hv, hc, hs⟩ := id hx
    obtain rfl := ec_inj hv
    have HX := hide hx
    have HI := hide ih
    have HN := hide hc.n
    have HCP := hide hcp
    have nle : c.n ≤ 1000 := by rw [hc.n]; exact hcp.2.2.1
    clear hx hv hc hs hcp ih
    go_enter Try.func58, Try.ntmps58
    go_wp2
    go_loopw [0, 12] (fun a i wr => ∃ (k : Nat) (y : Int), a = .int .i64 y ∧ i = .int .i64 k ∧ k ≤ c.n ∧ -1000 ≤ y ∧ y ≤ 1024 ∧ Hid (Below w.heap.size w wr)) (fun _ i _ => c.n - (intOf i).toNat)
    case atStart => exact ⟨0, z - c.n, rfl, rfl, by omega, by omega, by omega, hide (Below.refl _ _)⟩
    case round =>
      obtain ⟨k, y, rfl, rfl, hk, y0, y1, HB⟩ := hrel
      by_cases hlt : k < c.n
      · by_cases hy : y < 0
        · have dy : decide (y < 0) = true := decide_eq_true hy
          go_wp2
          go_ret
          exact ⟨⟨y, rfl, y0, y1⟩, HB.out⟩
        · have dy : decide (y < 0) = false := decide_eq_false hy
          have hk' : k < x.sub.length := by rw [← HN.out]; exact hlt
          obtain ⟨g, off, d, hp, hg, hd, hyy⟩ := (ExAt.on HB.out _ HX.out).part k hk'
          have X := hide (HI.out _ d wr y hyy (HCP.out.2.2.2 _ (getD_mem hk')) (by omega) y1)
          have d6 := hd.c6
          clear hyy HX HI hd
          rw [hp]
          go_wp2_with fail
          refine (unhide X).mono ?_
          rintro r w2 ⟨⟨y', rfl, q0, q1⟩, b2⟩
          have HB2 := hide (HB.out.trans (b2.mono HB.out.size))
          clear X b2 HB d6
          go_wp2
          exact ⟨⟨k + 1, y', rfl, by go_num, by omega, q0, q1, HB2⟩, by simp [intOf]; omega⟩
      · have hge : decide ((k : Int) < (c.n : Int)) = false := by simp; omega
        go_wp2
        go_ret
        exact ⟨⟨y, rfl, y0, y1⟩, HB.out⟩

/-- A row whose cells lie in the second world, and what they are is told in the first one. -/
def RowsY (n : Nat) (w0 w : World) (v : Value) (l : List ExV) : Prop :=
  ∃ (p : Option Addr) (k : Nat), v = .slice p l.length k ∧ (p = none → l.length = 0 ∧ k = 0) ∧
    ∀ i, i < l.length → ∃ (g off : Nat) (d : EC), p = some ⟨g, off, none⟩ ∧ EcAt w g (off + i * 7) d ∧ ExAt n w0 d.val (l.getD i noX)
theorem RowsX.y {n : Nat} {w w' : World} {v : Value} {l : List ExV} (h : RowsX n w v l) (hb : Below w.heap.size w w') : RowsY n w w' v l := by
  obtain ⟨p, k, e, h1, h2, h3, h4⟩ := h
  refine ⟨p, k, e, h3, fun i hi => ?_⟩
  obtain ⟨g, off, d, hp, hg, hd, hx⟩ := h4 i hi
  exact ⟨g, off, d, hp, hd.on hg hb, hx⟩
theorem RowsY.grow {n : Nat} {w0 w w' : World} {v : Value} {l : List ExV} (h : RowsY n w0 w v l) (hb : Below w.heap.size w w') : RowsY n w0 w' v l := by
  obtain ⟨p, k, e, h3, h4⟩ := h
  refine ⟨p, k, e, h3, fun i hi => ?_⟩
  obtain ⟨g, off, d, hp, hd, hx⟩ := h4 i hi
  exact ⟨g, off, d, hp, hd.on (lt_cell (a := ⟨g, _, none⟩) hd.c0) hb, hx⟩

set_option maxHeartbeats 8000000 in
set_option maxRecDepth 100000 in
theorem copiedList_any (n : Nat) (v : Value) (l : List ExV) (w0 w : World) (hv : RowsY n w0 w v l) (hb0 : Below w0.heap.size w0 w) (hl : l.length ≤ 1000) (hcp : ∀ y ∈ l, cpX n y) :
    Calls Try.prog 35 #[v] w fun r w' => (∃ u, r = .returned u ∧ ∀ w'', Kept w.heap.size w' w'' → Below w0.heap.size w0 w'' → RowsX n w'' u l) ∧ Below w.heap.size w w' := by
  have HB0 : Hid (∀ W, Below w.heap.size w W → Below w0.heap.size w0 W) := hide (fun W h => hb0.trans (h.mono hb0.size))
  obtain ⟨p, cc, rfl, h3, h4⟩ := hv
  have : Inhabited EC := ⟨ec0⟩
  obtain ⟨es, hes⟩ := Go.Deep.choose_lt (p := fun i d => (∃ g off, p = some ⟨g, off, none⟩ ∧ EcAt w g (off + i * 7) d) ∧ ExAt n w0 d.val (l.getD i noX)) (fun i hi => by
    obtain ⟨g, off, d, hp, hd, hy⟩ := h4 i hi
    exact ⟨d, ⟨g, off, hp, hd⟩, hy⟩)
  have HES := hide hes
  have HCP := hide hcp
  obtain ⟨N, hN⟩ : ∃ N, N = l.length := ⟨_, rfl⟩
  have X := hide (cloneX_new p N cc es w (by omega) (by rw [hN]; exact h3) (fun j hj => by
    obtain ⟨⟨g, off, hp, hd⟩, _⟩ := hes j (by omega)
    exact ⟨g, off, hp, hd⟩))
  rw [← hN] at hl ⊢
  have HN := hide hN
  clear h3 h4 hes hcp hN hb0
  go_enter Try.func35, Try.ntmps35
  go_wp2_with fail
  refine (unhide X).mono ?_
  rintro r w3 ⟨⟨q, k, rfl, hk1, hk2, hk3, hrow⟩, b3⟩
  have B3 := hide b3
  have HK3 := hide hk3
  have HROW := hide hrow
  clear X b3 hk3 hrow
  rcases Nat.eq_zero_or_pos N with hz | hpos
  · have HZ := hide hz
    clear hz HROW
    go_wp2
    go_loopw [10] (fun i wr => ∃ j : Nat, i = .int .i64 j ∧ wr = w3) (fun i _ => 0)
    case atStart => exact ⟨0, rfl, rfl⟩
    case round =>
      obtain ⟨j, rfl, rfl⟩ := hrel
      have hlt : ¬ j < N := by have := HZ.out; omega
      have hge : decide ((j : Int) < (N : Int)) = false := by simp; omega
      go_wp2
      go_ret
      refine ⟨⟨.slice q N k, rfl, fun w'' hkk hBB => ⟨q, k, by rw [← HN.out], by rw [← HN.out]; exact hk1, hk2, by rw [← HN.out]; exact HK3.out, fun i hi => ?_⟩⟩, B3.out⟩
      have h1 := HZ.out
      have h2 := HN.out
      omega
  · obtain ⟨b, rfl, hb1, hb2, hb3⟩ := HROW.out hpos
    have HB1 := hide hb1
    have R3 : Hid (b < w3.heap.size ∧ RowX w3 b N es) := hide ⟨hb2, hb3⟩
    clear HROW hb1 hb2 hb3
    go_wp2
    go_loopw [10] (fun i wr => ∃ (j : Nat) (fs : Nat → EC), i = .int .i64 j ∧ j ≤ N ∧ Hid (Below w.heap.size w wr) ∧ Hid (b < wr.heap.size ∧ RowX wr b N fs) ∧ Hid (∀ m, m < j → ∀ w'', Kept (b + 1) wr w'' → Below w0.heap.size w0 w'' → ExAt n w'' (fs m).val (l.getD m noX)) ∧ Hid (∀ m, j ≤ m → m < N → fs m = es m)) (fun i _ => N - (intOf i).toNat)
    case atStart => exact ⟨0, es, rfl, by omega, B3, R3, hide (fun m h => by omega), hide (fun _ _ _ => rfl)⟩
    case round =>
      clear B3 R3
      obtain ⟨j, fs, rfl, hj, B4, R4, HD, HO⟩ := hrel
      by_cases hlt : j < N
      · obtain ⟨d0, d1, d2, d3, d4, d5, d6⟩ := R4.out.2.els j hlt
        have HEX : Hid (ExAt n w0 (fs j).val (l.getD j noX)) := hide (by
          rw [HO.out j (Nat.le_refl _) hlt]
          exact (HES.out j (by rw [← HN.out]; exact hlt)).2)
        have HCJ : Hid (cpX n (l.getD j noX)) := hide (HCP.out _ (getD_mem (by rw [← HN.out]; exact hlt)))
        obtain ⟨d, hd⟩ : ∃ d, d = fs j := ⟨_, rfl⟩
        rw [← hd] at d0 d1 d2 d3 d4 d5 d6 HEX
        have HDD := hide hd
        clear hd
        have bA := (Below.refl _ wr).alloc (Nat.le_refl _) (exObj d)
        have DA := hide (B4.out.trans (bA.mono B4.out.size))
        have XA := hide (show ExIn (wr.alloc (exObj d)) wr.heap.size d from heap_new wr _)
        have RA := hide (R4.out.2.ofBlock (bA.block b R4.out.1))
        have sA := hide (show (wr.alloc (exObj d)).heap.size = wr.heap.size + 1 by simp)
        have BA := hide bA
        clear bA
        unfold exObj at DA XA RA sA BA
        go_upto_region 5 with fail
        generalize wr.alloc (Obj.cells #[.int .i64 d.k, .int .i64 d.t, .bool d.s.a, .slice d.s.p d.s.n d.s.c, .bool d.s.d, .slice d.s.q d.s.m d.s.e, .slice d.p d.n d.c] 28) = wa at DA XA RA sA BA ⊢
        clear d0 d1 d2 d3 d4 d5 d6
        obtain ⟨c0, c1, c2, c3, c4, c5, c6⟩ := ecCells1 XA.out
        go_wp2_with fail
        refine (roomLeft_any n (l.getD j noX) d wa 1024 (ExAt.on (HB0.out _ DA.out) _ HEX.out) HCJ.out (by omega) (by omega)).mono ?_
        rintro r wd ⟨⟨y, rfl, y0, y1⟩, bD⟩
        have BD := hide bD
        have TD := hide (DA.out.trans (bD.mono DA.out.size))
        have XD := hide (XA.out.on bD)
        have sD : wr.heap.size + 1 ≤ wd.heap.size := by have h1 := bD.size; have h2 := sA.out; omega
        have RD := hide (RA.out.ofBlock (bD.block b (by have h1 := R4.out.1; have h2 := sA.out; omega)))
        have kd : Hid (Kept (b + 1) wr wd) := hide ((Kept.ofBelow BA.out).trans (Kept.ofBelow bD))
        clear bD c0 c1 c2 c3 c4 c5 c6 DA RA BA BD
        by_cases hy : 0 ≤ y
        · have dy : decide (0 ≤ y) = true := decide_eq_true hy
          go_upto_region 6 with fail
          refine wp_region_lit ?_
          refine wl_yield (o := ⟨_, _, _, _, _, _⟩) (.slice (some ⟨b, 0, none⟩) N k) (yl_move (by rfl) _ rfl _ rfl) ?_
          simp only [Act.put, List.setIfInBounds_toArray, List.set_cons_zero, List.set_cons_succ]
          refine wl_yield (o := ⟨_, _, _, _, _, _⟩) (.int .i64 j) (yl_move (by rfl) _ rfl _ rfl) ?_
          simp only [Act.put, List.setIfInBounds_toArray, List.set_cons_zero, List.set_cons_succ]
          refine wl_yield (o := ⟨_, _, _, _, _, _⟩) d.val (yl_ex (by rfl) _ rfl _ 0 rfl d (fun _ h => by subst h; exact XD.out.ec)) ?_
          simp only [Act.put, List.setIfInBounds_toArray, List.set_cons_zero, List.set_cons_succ]
          refine wl_call (o := ⟨_, _, _, _, _, _⟩) (by rfl) 37 _ _ rfl #[d.val] rfl (run_call Try.func37 (by kernel_rfl) (by kernel_rfl)) ?_
          refine (copied_any n (l.getD j noX) d wd (ExAt.on (HB0.out _ TD.out) _ HEX.out) HCJ.out).mono ?_
          rintro r w5 ⟨⟨d', rfl, hN⟩, b5⟩
          refine ⟨d'.val, rfl, ?_⟩
          simp only [Act.put, List.setIfInBounds_toArray, List.set_cons_zero, List.set_cons_succ]
          refine wl_yield (o := ⟨_, _, _, _, _, _⟩) (.pointer (some ⟨b, j * 7, none⟩)) (yl_exAt (by rfl) _ _ rfl b N k j rfl rfl hlt) ?_
          simp only [Act.put, List.setIfInBounds_toArray, List.set_cons_zero, List.set_cons_succ]
          have T5 := hide (TD.out.trans (b5.mono TD.out.size))
          have bw : b < wd.heap.size := by have h1 := R4.out.1; omega
          have R5 := RD.out.ofBlock (b5.block b bw)
          refine wpList_store_mid (op := ⟨_, _, _, _, _, _⟩) rfl 28 _ _ rfl b (j * 7) d'.list.toArray rfl rfl (R5.there j hlt) (by rw [infoEx]; rfl) (all_oneCell_toArray d'.list_one) ?_
          simp only [Act.put, List.setIfInBounds_toArray, List.set_cons_zero, List.set_cons_succ]
          refine wpList_nil ?_
          have R6 := R5.put j hlt d'
          have h0 := HB1.out
          have T6 := hide (Below.setCells (B := w.heap.size) (w0 := w) b h0 d'.list (j * 7) w5 T5.out)
          have kb6 : Kept (b + 1) w5 (w5.setCells b (j * 7) d'.list) := Kept.setCells w5 (j * 7) d'.list (by omega)
          have k5 : Kept (b + 1) wr w5 := kd.out.trans (Kept.ofBelow b5)
          have HD6 : Hid (∀ m, m < j + 1 → ∀ w'', Kept (b + 1) (w5.setCells b (j * 7) d'.list) w'' → Below w0.heap.size w0 w'' → ExAt n w'' ((fun i => if i = j then d' else fs i) m).val (l.getD m noX)) := hide (fun m hm w'' hk hB => by
            have hk2 := kb6.trans hk
            by_cases e : m = j
            · subst e
              simp only [if_pos]
              exact hN w'' (hk2.mono (by have := R4.out.1; omega))
            · simp only [if_neg e]
              exact HD.out m (by omega) w'' (k5.trans hk2) hB)
          have HO6 : Hid (∀ m, j + 1 ≤ m → m < N → (fun i => if i = j then d' else fs i) m = es m) := hide (fun m hm hl => by
            dsimp only
            rw [if_neg (by omega)]
            exact HO.out m (by omega) hl)
          have s6 : b < (w5.setCells b (j * 7) d'.list).heap.size := by rw [size_setCells]; have := b5.size; omega
          have R7 := hide (And.intro s6 R6)
          clear R6 R5 k5 kb6 s6 bw sD h0 TD T5 b5 hN RD kd XA XD sA HEX HCJ HD HO R4 B4 HDD
          generalize w5.setCells b (j * 7) d'.list = w6 at T6 HD6 R7 ⊢
          go_wp2
          exact ⟨⟨j + 1, _, by go_num, by omega, T6, R7, HD6, HO6⟩, by simp [intOf]; omega⟩
        · have dy : decide (0 ≤ y) = false := decide_eq_false hy
          have HD6 : Hid (∀ m, m < j + 1 → ∀ w'', Kept (b + 1) wd w'' → Below w0.heap.size w0 w'' → ExAt n w'' (fs m).val (l.getD m noX)) := hide (fun m hm w'' hk hB => by
            by_cases e : m = j
            · subst e
              rw [← HDD.out]
              exact ExAt.on hB _ HEX.out
            · exact HD.out m (by omega) w'' (kd.out.trans hk) hB)
          have HO6 : Hid (∀ m, j + 1 ≤ m → m < N → fs m = es m) := hide (fun m hm hl => HO.out m (by omega) hl)
          have R7 : Hid (b < wd.heap.size ∧ RowX wd b N fs) := hide ⟨by have h1 := R4.out.1; omega, RD.out⟩
          clear RD kd XA XD sA HEX HCJ HD HO R4 B4 HDD sD
          go_wp2
          exact ⟨⟨j + 1, fs, by go_num, by omega, TD, R7, HD6, HO6⟩, by simp [intOf]; omega⟩
      · have hge : decide ((j : Int) < (N : Int)) = false := by simp; omega
        go_wp2
        go_ret
        refine ⟨⟨.slice (some ⟨b, 0, none⟩) N k, rfl, fun w'' hkk hBB => ⟨some ⟨b, 0, none⟩, k, by rw [← HN.out], by rw [← HN.out]; exact hk1, hk2, by rw [← HN.out]; exact HK3.out, fun i hi => ?_⟩⟩, B4.out⟩
        have hi' : i < N := by rw [HN.out]; exact hi
        refine ⟨b, 0, fs i, rfl, Nat.lt_of_lt_of_le R4.out.1 hkk.size, ?_, HD.out i (by omega) w'' (hkk.mono (by have := HB1.out; omega)) hBB⟩
        rw [Nat.zero_add]
        exact (R4.out.2.els i hi').ofBlock (hkk.block b HB1.out R4.out.1)
end Go.Proofs.Ytoplmioejebnnaa
