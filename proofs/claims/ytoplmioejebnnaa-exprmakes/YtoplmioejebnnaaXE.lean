/-
  The program's Right.
-/
import Derived.Test.YtoplmioejebnnaaXB
import Derived.Test.YtoplmioejebnnaaXD
set_option linter.unusedSimpArgs false
set_option linter.unusedVariables false
namespace Go.Proofs.Ytoplmioejebnnaa
open Go.RowKit Go.Shelf
attribute [local go_sem] Oper.semAt_some

def cellsOf (c : EC) : Obj := Obj.cells #[.int .i64 c.k, .int .i64 c.t, .bool c.s.a, .slice c.s.p c.s.n c.s.c, .bool c.s.d, .slice c.s.q c.s.m c.s.e, .slice c.p c.n c.c] 28 (0, 0)
/-- Right's answer. -/
def rightP (l : List (Int × ExV)) : Bool := !(decide ((sizeP l).1 = 0)) && l.all fun y => nodeX y.2
theorem size_any (k : Nat) (c : EC) (x : ExV) (w : World) (hx : ExAt k w c.val x) (hk : k ≤ 1000) :
    Calls Try.prog 11 #[c.val] w fun e w' => e = .returned (.tuple #[.int .i64 (sizeP (partsX k 0 x)).1, .int .i64 (sizeP (partsX k 0 x)).2]) ∧ Below w.heap.size w w' :=
  (callsIn_wide (n := 3)).1 (size_in Fence.wide rfl 3 trivial trivial trivial trivial rfl (by omega) k c x w hx hk)

set_option maxRecDepth 100000 in
set_option maxHeartbeats 4000000 in
theorem right_any (k : Nat) (c : EC) (x : ExV) (w : World) (hx : ExAt k w c.val x) (hk : k ≤ 1000) :
    Calls Try.prog 15 #[c.val] w fun e w' => e = .returned (.bool (rightP (partsX k 0 x))) ∧ Below w.heap.size w w' := by
  refine (callsIn_wide (n := 5)).1 ?_
  have HX := hide hx
  obtain ⟨R, hR⟩ : ∃ R, R = rightP (partsX k 0 x) := ⟨_, rfl⟩
  rw [← hR]
  have HR := hide hR
  have B0 := fun (o : Obj) => hide ((Below.refl _ w).alloc (Nat.le_refl _) o)
  have X := fun (W : World) (b : Below w.heap.size w W) => hide (callsIn_wide (n := 5 - 1).2 (size_any k c x W (ExAt.on b _ hx) hk))
  clear hx hR
  refine callsIn_of_wp_marks Try.func15 rfl trivial ?_ rfl
  simp only [Try.ntmps15, List.size_toArray, List.length_cons, List.length_nil, Nat.reduceAdd, Nat.reduceSub, Array.replicate_succ, Array.replicate_zero, List.push_toArray, List.append_toArray, List.nil_append, List.cons_append]
  unfold EC.val at X ⊢
  gi_wp2
  have o1 := Own1.new (w.alloc (Obj.cells #[.int .i64 c.k, .int .i64 c.t, .bool c.s.a, .slice c.s.p c.s.n c.s.c, .bool c.s.d, .slice c.s.q c.s.m c.s.e, .slice c.p c.n c.c] 28 (0, 0))) (.bool false) 4
  have hE := (Below.heap_alloc (w.alloc (Obj.cells #[.int .i64 c.k, .int .i64 c.t, .bool c.s.a, .slice c.s.p c.s.n c.s.c, .bool c.s.d, .slice c.s.q c.s.m c.s.e, .slice c.p c.n c.c] 28 (0, 0))) (Obj.cells #[.bool false] 4) w.heap.size (by simp)).trans (heap_new w _)
  have hBA := ((Below.refl _ w).alloc (Nat.le_refl _) (Obj.cells #[.int .i64 c.k, .int .i64 c.t, .bool c.s.a, .slice c.s.p c.s.n c.s.c, .bool c.s.d, .slice c.s.q c.s.m c.s.e, .slice c.p c.n c.c] 28 (0, 0))).alloc (by simp) (Obj.cells #[.bool false] 4)
  simp only [World.size_alloc] at o1
  have hzA : ((w.alloc (Obj.cells #[.int .i64 c.k, .int .i64 c.t, .bool c.s.a, .slice c.s.p c.s.n c.s.c, .bool c.s.d, .slice c.s.q c.s.m c.s.e, .slice c.p c.n c.c] 28 (0, 0))).alloc (Obj.cells #[.bool false] 4)).heap.size = w.heap.size + 1 + 1 := by simp
  generalize (w.alloc (Obj.cells #[.int .i64 c.k, .int .i64 c.t, .bool c.s.a, .slice c.s.p c.s.n c.s.c, .bool c.s.d, .slice c.s.q c.s.m c.s.e, .slice c.p c.n c.c] 28 (0, 0))).alloc (Obj.cells #[.bool false] 4) = wA at *
  refine ⟨trivial, ?_⟩
  refine (unhide (X _ hBA)).mono ?_
  rintro e wB ⟨rfl, bB⟩
  have oB : Own1 wB (w.heap.size + 1) (.bool false) := ⟨(bB.cell (p := ⟨_, _, none⟩) (by rw [hzA]; simp)).trans o1.cell, (bB.frozen (p := ⟨_, _, none⟩) (by rw [hzA]; simp)).trans o1.soft⟩
  have hEB := (bB.block w.heap.size (by omega)).trans hE
  have hBB := hBA.trans (bB.mono hBA.size)
  have hzB : w.heap.size + 1 + 1 ≤ wB.heap.size := by have := bB.size; omega
  obtain ⟨c0, c1, c2, c3, c4, c5, c6⟩ := ecCells1 hEB
  clear X B0 bB hE hBA o1 hzA hEB
  obtain ⟨P, hP⟩ : ∃ P, P = partsX k 0 x := ⟨_, rfl⟩
  have HP := hide hP
  rw [← hP] at HR ⊢
  clear hP
  obtain ⟨oc, of⟩ := id oB
  have HOB := hide oB
  have HBB := hide hBB
  clear oB hBB
  by_cases hz : (sizeP P).1 = 0
  · have hz' : ((sizeP P).1 == 0) = true := by rw [hz]; rfl
    have E : Hid (R = false) := hide (by rw [HR.out]; unfold rightP; rw [decide_eq_true hz]; rfl)
    have q1 := hide (HOB.out.set (.bool false))
    have b1 := hide (HBB.out.setCell (p := ⟨w.heap.size + 1, 0, none⟩) (by simp) (.bool false))
    generalize (sizeP P).1 = s1 at *
    generalize (sizeP P).2 = s2 at *
    clear hz HR HP
    gi_wp2
    refine ⟨.bool false, ?_, by rw [E.out], b1.out⟩
    simp [results, Try.f15, go_sem, q1.out.cell]
  · have hz' : ((sizeP P).1 == 0) = false := by simpa using hz
    have E : Hid (R = P.all fun y => nodeX y.2) := hide (by rw [HR.out]; unfold rightP; rw [decide_eq_false hz]; rfl)
    generalize (sizeP P).1 = s1 at *
    generalize (sizeP P).2 = s2 at *
    clear hz HR
    have Y := fun (W : World) => hide (each_in Fence.wide (5 - 1) trivial rfl c W)
    unfold EC.val at Y
    gi_wp2
    refine ⟨trivial, ?_⟩
    refine (unhide (Y wB)).mono ?_
    rintro e wC ⟨rfl, hwC⟩
    have hEC := heap_new wB (cellsOf c)
    have oC := HOB.out.alloc (cellsOf c)
    have hBC := HBB.out.alloc HBB.out.size (cellsOf c)
    have hzC : (wB.alloc (cellsOf c)).heap.size = wB.heap.size + 1 := by simp
    rw [show wB.alloc (cellsOf c) = wC from hwC.symm] at hEC oC hBC hzC
    have hfor := fun (m : Nat) (d : EC) (y : ExV) (W : World) (b : Below w.heap.size w W) (h : ExAt m w d.val y) => (show EcFor W d y by
      obtain ⟨m', rfl⟩ := h.pos
      obtain ⟨d', hv, hd, _⟩ := h
      obtain rfl := ec_inj hv
      exact hd.on b)
    have HFOR := hide hfor
    clear hwC Y HOB c0 c1 c2 c3 c4 c5 c6 oc of hfor
    gi_wp2
    refine wpIn_rangeFunc_ownH (α := PartOf w) (w := wC) rfl (by omega) (gf := 44) (lb := #[.pointer (some ⟨wB.heap.size, 0, none⟩)]) rfl trivial (enters_of Try.func44 (by kernel_rfl) rfl)
      (each_stops Fence.wide rfl (5 - 1) trivial trivial rfl wB.heap.size w wC k c x HX.out hk hBC (by omega) hEC) Kp2.trans (Kp2.turn hBC.size) (Below.refl _ _) (fun _ => rfl)
      (fun pre W => (Own1 W (w.heap.size + 1) (.bool false) ∧ ∀ y ∈ pre, nodeX (plainOf y).2 = true) ∧ Below w.heap.size w W)
      (fun c pre W => (c = .ret ∧ Own1 W (w.heap.size + 1) (.bool false) ∧ ∃ y ∈ pre, nodeX (plainOf y).2 = false) ∧ Below w.heap.size w W)
      (OwnFrom.and (Own.from (fun s A B row hs hg hr => ⟨hs.1.kept hg hr, hs.2⟩) _) (ownFrom_below (Nat.le_refl _) hBC.size))
      (fun c => OwnFrom.and (Own.from (fun s A B row hs hg hr => ⟨hs.1, hs.2.1.kept hg hr, hs.2.2⟩) _) (ownFrom_below (Nat.le_refl _) hBC.size))
      ⟨⟨oC, fun y hy => by cases hy⟩, hBC⟩
      (fun y a' W => ∃ bx, W.heap[bx]? = some (cellsOf y.1.2.1) ∧ a' = { tmps := #[.agg #[.int .i64 c.k, .int .i64 c.t, .bool c.s.a, .slice c.s.p c.s.n c.s.c, .bool c.s.d, .slice c.s.q c.s.m c.s.e, .slice c.p c.n c.c], .pointer (some ⟨w.heap.size, 0, none⟩), .pointer (some ⟨w.heap.size + 1, 0, none⟩), .int .i64 s1, .int .i64 s2, undef, .pointer (some ⟨bx, 0, none⟩), .tuple #[.int .i64 s1, .int .i64 s2], .agg #[.int .i64 c.k, .int .i64 c.t, .bool c.s.a, .slice c.s.p c.s.n c.s.c, .bool c.s.d, .slice c.s.q c.s.m c.s.e, .slice c.p c.n c.c], .tuple #[.int .i64 s1, .int .i64 s2], .int .i64 s1, .int .i64 s2, .int .i64 s1, .bool false, .agg #[.int .i64 c.k, .int .i64 c.t, .bool c.s.a, .slice c.s.p c.s.n c.s.c, .bool c.s.d, .slice c.s.q c.s.m c.s.e, .slice c.p c.n c.c], .func (.func 44) #[] #[.pointer (some ⟨wB.heap.size, 0, none⟩)], .int .i64 y.1.1, y.1.2.1.val, undef, undef, undef], defers := [] })
      (fun y a' => fun s A B row hs hg hr => by
        obtain ⟨bx, hbx, ha⟩ := hs
        refine ⟨bx, (hg.block bx (Array.getElem?_eq_some_iff.1 hbx).1 (fun e => ?_)).trans hbx, ha⟩
        obtain ⟨_, o, ho, hc⟩ := hr bx e.symm
        rw [hbx] at ho
        cases ho
        cases hc) ?assign ?body ?done ?stop
    case assign =>
      rintro l pre ⟨⟨yd, yc, yx⟩, hy⟩ W K ⟨⟨p1, hall⟩, hB⟩ hK
      have hK1 := fun a' => hK a' (W.alloc (cellsOf yc)) ((KeepsOthers.alloc _ _).from _) (Kp2.ofBelow hB.size ((Below.refl _ W).alloc (Nat.le_refl _) _)) ⟨⟨p1.alloc _, hall⟩, hB.alloc hB.size _⟩
      have hN := heap_new W (cellsOf yc)
      have hK2 := hide (hK1 _ ⟨W.heap.size, hN, rfl⟩)
      clear hK hK1 hN
      unfold cellsOf at hK2
      dsimp only at hK2
      unfold encOf EC.val at *
      dsimp only
      gi_wp2
      exact hK2.out
    case body =>
      rintro l pre ⟨⟨yd, yc, yx⟩, hy⟩ a' W hl hr ⟨⟨p1, hall⟩, hB⟩ ⟨bx, hbx, rfl⟩ hlt
      have hall' : ∀ y ∈ pre ++ [(⟨(yd, yc, yx), hy⟩ : PartOf w)], nodeX (plainOf y).2 = true ∨ (plainOf y).2 = yx := fun y hy' => by
        rcases List.mem_append.1 hy' with h | h
        · exact .inl (hall y h)
        · simp only [List.mem_singleton] at h
          subst h
          exact .inr rfl
      have hin : ∃ y ∈ pre ++ [(⟨(yd, yc, yx), hy⟩ : PartOf w)], (plainOf y).2 = yx := ⟨⟨(yd, yc, yx), hy⟩, List.mem_append.2 (.inr (List.mem_singleton.2 rfl)), rfl⟩
      obtain ⟨m, hm, hex⟩ := hy.2.2
      have Z := hide (CallsIn.inRound l (callsIn_wide (n := 5 - 1 - 1 - 1).2 (rightPart_any yc yx W (HFOR.out m yc yx W hB hex))))
      obtain ⟨d0, d1, d2, d3, d4, d5, d6⟩ := ecCells1 hbx
      have HB := hide hB
      have P1 := hide p1
      have HA := hide hall'
      have HI := hide hin
      generalize pre ++ [(⟨(yd, yc, yx), hy⟩ : PartOf w)] = pre1 at *
      clear hex hB p1 hall hall' hin HFOR hbx hlt hr hEC oC HX
      unfold EC.val at Z ⊢
      dsimp only
      cases hq : nodeX yx
      · rw [hq] at Z
        gi_wp2
        refine ⟨trivial, ?_⟩
        refine (unhide Z).mono ?_
        rintro e W1 ⟨rfl, bW⟩
        have ko : KeepsOthers W W1 := ⟨bW.size, fun j o h _ => (bW.block j (Array.getElem?_eq_some_iff.1 h).1).trans h⟩
        have kp : Kp2 w.heap.size wC.heap.size W W1 := Kp2.ofBelow HB.out.size bW
        have hl1 : w.heap.size + 1 < W.heap.size := lt_cell (a := ⟨w.heap.size + 1, 0, none⟩) P1.out.cell
        have p2 : Own1 W1 (w.heap.size + 1) (.bool false) := ⟨(bW.cell (p := ⟨_, _, none⟩) hl1).trans P1.out.cell, (bW.frozen (p := ⟨_, _, none⟩) hl1).trans P1.out.soft⟩
        have B1 := hide (HB.out.trans (bW.mono HB.out.size))
        have KO := hide ko
        have KP := hide kp
        have P2 := hide p2
        obtain ⟨pc, pf⟩ := p2
        clear Z d0 d1 d2 d3 d4 d5 d6 ko kp bW P1 HB
        gi_wp2
        obtain ⟨y, hy1, hy2⟩ := HI.out
        exact ⟨(KO.out.trans (KeepsOthers.setCell _ _ _)).from _, ⟨rfl, P2.out.set _, y, hy1, by rw [hy2]; exact hq⟩, B1.out.setCell (p := ⟨w.heap.size + 1, 0, none⟩) (by simp) _⟩
      · rw [hq] at Z
        gi_wp2
        refine ⟨trivial, ?_⟩
        refine (unhide Z).mono ?_
        rintro e W1 ⟨rfl, bW⟩
        have ko : KeepsOthers W W1 := ⟨bW.size, fun j o h _ => (bW.block j (Array.getElem?_eq_some_iff.1 h).1).trans h⟩
        have kp : Kp2 w.heap.size wC.heap.size W W1 := Kp2.ofBelow HB.out.size bW
        have hl1 : w.heap.size + 1 < W.heap.size := lt_cell (a := ⟨w.heap.size + 1, 0, none⟩) P1.out.cell
        have p2 : Own1 W1 (w.heap.size + 1) (.bool false) := ⟨(bW.cell (p := ⟨_, _, none⟩) hl1).trans P1.out.cell, (bW.frozen (p := ⟨_, _, none⟩) hl1).trans P1.out.soft⟩
        have B1 := hide (HB.out.trans (bW.mono HB.out.size))
        have KO := hide ko
        have KP := hide kp
        have P2 := hide p2
        obtain ⟨pc, pf⟩ := p2
        clear Z d0 d1 d2 d3 d4 d5 d6 ko kp bW P1 HB
        gi_wp2
        exact ⟨KO.out.from _, KP.out, ⟨P2.out, fun y hy => (HA.out y hy).elim id (fun e => by rw [e]; exact hq)⟩, B1.out⟩
    case done =>
      rintro D ys W hD hS ⟨⟨p1, hall⟩, hB⟩ hK
      have E2 : Hid (R = true) := hide (by
        rw [E.out, HP.out, ← hS, List.all_eq_true]
        intro z hz
        obtain ⟨y, hy, rfl⟩ := List.mem_map.1 hz
        exact hall y hy)
      have q1 := p1.set (.bool true)
      have hK2 := (KeepsOthers.setCell W ⟨w.heap.size + 1, 0, none⟩ (.bool true)).same D _ hK rfl
      have hB2 := hB.setCell (p := ⟨w.heap.size + 1, 0, none⟩) (by simp) (.bool true)
      have Q1 := hide q1
      have K2 := hide hK2
      have B2 := hide hB2
      obtain ⟨pc, pf⟩ := p1
      clear q1 hK2 hB2 hK hB hall hS hEC oC HX HFOR
      gi_wp2
      refine ⟨by simp, .inl ⟨_, _, rfl, run_takeDeferred K2.out, ?_⟩⟩
      have y1 := Q1.out.kept (grownBy_putObj' _ D (.deferred none)) (fun r e => by cases e; exact ⟨_, K2.out, rfl⟩)
      refine ⟨.bool true, ?_, by rw [E2.out], B2.out.trans (belowK_b (w := w) (Nat.le_refl _) _ D _ _ (by have := hBC.size; omega) K2.out rfl rfl)⟩
      simp [results, Try.f15, go_sem, y1.cell]
    case stop =>
      rintro D c' pre W hD hS ⟨⟨rfl, p1, y, hy, hq⟩, hB⟩ hK
      have E2 : Hid (R = false) := hide (by
        rw [E.out, HP.out, List.all_eq_false]
        exact ⟨_, hS.subset (List.mem_map_of_mem hy), by rw [hq]; simp⟩)
      clear hS hEC oC HX HFOR hy hq
      gi_wp2
      refine ⟨by simp, .inl ⟨_, _, rfl, run_takeDeferred hK, ?_⟩⟩
      have y1 := p1.kept (grownBy_putObj' _ D (.deferred none)) (fun r e => by cases e; exact ⟨_, hK, rfl⟩)
      refine ⟨.bool false, ?_, by rw [E2.out], hB.trans (belowK_b (w := w) (Nat.le_refl _) W D _ _ (by have := hBC.size; omega) hK rfl rfl)⟩
      simp [results, Try.f15, go_sem, y1.cell]
end Go.Proofs.Ytoplmioejebnnaa
