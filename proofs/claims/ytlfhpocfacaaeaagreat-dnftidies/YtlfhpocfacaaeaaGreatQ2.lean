/-
  The program's Size.
-/
import Derived.Test.YtlfhpocfacaaeaaGreatQ1
import Derived.Lib.MinMax
import Derived.BigQuiet
import Derived.Lib.QuietBelow
import Derived.Deep.MidRow
import Derived.Laws.AppendOwnNone
import Derived.Deep.CutRange
import Derived.Deep.RegionHeld3
import Derived.Deep.Upon
import Derived.Laws.OwnMore
set_option linter.unusedSimpArgs false
set_option linter.unusedVariables false
namespace Go.Proofs.YtlfhpocfacaaeaaGreat
open Go.RowKit Go.Shelf
attribute [local go_sem] Oper.semAt_some

def tallD (l : List (Int × ExV)) : Int := l.foldl (fun m y => max m (y.1 + 1)) 0
theorem tallD_snoc (l : List (Int × ExV)) (y : Int × ExV) : tallD (l ++ [y]) = max (tallD l) (y.1 + 1) := by simp [tallD]
theorem tall_ge (l : List (Int × ExV)) : ∀ m : Int, m ≤ l.foldl (fun m y => max m (y.1 + 1)) m := by
  induction l with
  | nil => intro m; simp
  | cons y l ih => intro m; have := ih (max m (y.1 + 1)); rw [List.foldl_cons]; omega
theorem tallD_nonneg (l : List (Int × ExV)) : 0 ≤ tallD l := tall_ge l 0
theorem tallD_pre {a b : List (Int × ExV)} (h : a <+: b) : tallD a ≤ tallD b := by
  obtain ⟨r, rfl⟩ := h
  unfold tallD
  rw [List.foldl_append]
  exact tall_ge r _
/-- Size's answer. -/
def sizeP (l : List (Int × ExV)) : Int × Int := if l.length ≤ 40 ∧ tallD l ≤ 8 then ((l.length : Int), tallD l) else (0, 0)
/-- A variable of one cell. -/
structure Own1 (W : World) (b : Nat) (v : Value) : Prop where
  cell : W.cell? ⟨b, 0, none⟩ = some v
  soft : W.frozen? ⟨b, 0, none⟩ = false
theorem Own1.new (W : World) (v : Value) (t : TypeId) : Own1 (W.alloc (.cells #[v] t)) W.heap.size v := by
  have h := World.alloc_heap_new W (.cells #[v] t)
  constructor
  · unfold World.cell?
    rw [h]
    rfl
  · unfold World.frozen?
    rw [h]
    rfl
theorem Own1.kept {W W' : World} {b : Nat} {v : Value} {row : Option Nat} (h : Own1 W b v) (hg : W.grownBy W' row) (hr : ∀ r, row = some r → ∃ o : Obj, W.heap[r]? = some o ∧ o.isCells = false) : Own1 W' b v :=
  ⟨cell_kept h.cell hg hr, (frozen_kept h.cell hg hr).trans h.soft⟩
theorem Own1.alloc {W : World} {b : Nat} {v : Value} (h : Own1 W b v) (o : Obj) : Own1 (W.alloc o) b v := h.kept (World.grownBy_alloc W o none) (fun r e => by cases e)
theorem Own1.drew {W : World} {b : Nat} {v : Value} (h : Own1 W b v) : Own1 W.drew b v := ⟨h.cell, h.soft⟩
theorem Own1.set {W : World} {b : Nat} {v : Value} (h : Own1 W b v) (u : Value) : Own1 (W.setCell ⟨b, 0, none⟩ u) b u :=
  ⟨World.cell?_setCell_same' _ _ _ (by rw [h.cell]; rfl), by rw [World.frozen?_setCell]; exact h.soft⟩
theorem Own1.other {W : World} {b b' : Nat} {v : Value} (h : Own1 W b v) (u : Value) (hne : b ≠ b') : Own1 (W.setCell ⟨b', 0, none⟩ u) b v :=
  ⟨(World.cell?_setCell_other W _ _ _ (by intro e; cases e; exact hne rfl)).trans h.cell, by rw [World.frozen?_setCell]; exact h.soft⟩
theorem Kp2.setCell {n₀ n₁ : Nat} (W : World) (b : Nat) (v : Value) (h0 : n₀ ≤ b) (h1 : b < n₁) : Kp2 n₀ n₁ W (W.setCell ⟨b, 0, none⟩ v) :=
  ⟨(Below.refl n₀ W).setCell (p := ⟨b, 0, none⟩) h0 v, fun k o hk ho _ => (Below.heap_setCell _ _ _ k (fun e => by dsimp only at e; omega)).trans ho⟩

set_option maxRecDepth 100000 in
set_option maxHeartbeats 4000000 in
theorem size_in (F : Fence) (hd : F.depth = none) (n : Nat) (hs : F.fn 61) (h4 : F.fn 62) (h5 : F.fn 99) (h6 : F.fn 100) (hro : F.round = none) (hn : 3 ≤ n) (k : Nat) (c : EC) (x : ExV) (w : World) (hx : ExAt k w c.val x) (hk : k ≤ 1000) :
    CallsIn F n Tryz.prog 61 #[c.val] w fun e w' => e = .returned (.tuple #[.int .i64 (sizeP (partsX k 0 x)).1, .int .i64 (sizeP (partsX k 0 x)).2]) ∧ Below w.heap.size w w' := by
  have h1 : 1 ≤ n := by omega
  have HX := hide hx
  obtain ⟨R, hR⟩ : ∃ R, R = sizeP (partsX k 0 x) := ⟨_, rfl⟩
  rw [← hR]
  have HR := hide hR
  clear hR
  have hdd : ∀ k : Nat, (F.depth.isSome = true → 1 ≤ k) := fun k h => by rw [hd] at h; cases h
  clear hx
  refine callsIn_of_wp_marks Tryz.func61 rfl hs ?_ hro
  simp only [Tryz.ntmps61, List.size_toArray, List.length_cons, List.length_nil, Nat.reduceAdd, Nat.reduceSub, Array.replicate_succ, Array.replicate_zero, List.push_toArray, List.append_toArray, List.nil_append, List.cons_append]
  unfold EC.val
  gi_wp2_with ((try refine ⟨hdd _, ?_⟩); gi_at_call 62; refine (each_in F (n - 1) h4 hro c _).mono ?_; rintro e w' ⟨rfl, rfl⟩)
  have o1 := (Own1.new (w.alloc (Obj.cells #[.int .i64 c.k, .int .i64 c.t, .bool c.s.a, .slice c.s.p c.s.n c.s.c, .bool c.s.d, .slice c.s.q c.s.m c.s.e, .slice c.p c.n c.c] 28 (0, 0))) (.int .i64 0) 3).alloc (Obj.cells #[.int .i64 0] 3)
  have o2 := Own1.new ((w.alloc (Obj.cells #[.int .i64 c.k, .int .i64 c.t, .bool c.s.a, .slice c.s.p c.s.n c.s.c, .bool c.s.d, .slice c.s.q c.s.m c.s.e, .slice c.p c.n c.c] 28 (0, 0))).alloc (Obj.cells #[.int .i64 0] 3)) (.int .i64 0) 3
  obtain ⟨ob, hob⟩ : ∃ ob, ob = Obj.cells #[.int .i64 c.k, .int .i64 c.t, .bool c.s.a, .slice c.s.p c.s.n c.s.c, .bool c.s.d, .slice c.s.q c.s.m c.s.e, .slice c.p c.n c.c] 28 (0, 0) := ⟨_, rfl⟩
  rw [← hob] at o1 o2 ⊢
  obtain ⟨w3, hw3⟩ : ∃ w3, w3 = ((w.alloc ob).alloc (Obj.cells #[.int .i64 0] 3)).alloc (Obj.cells #[.int .i64 0] 3) := ⟨_, rfl⟩
  have hB3 : Below w.heap.size w w3 := by rw [hw3]; exact (((Below.refl _ w).alloc (Nat.le_refl _) _).alloc (by simp) _).alloc (by simp; omega) _
  have hz3 : w3.heap.size = w.heap.size + 1 + 1 + 1 := by rw [hw3]; simp
  simp only [World.size_alloc] at o1 o2
  rw [← hw3] at o1 o2 ⊢
  have o1 := o1.alloc ob
  have o2 := o2.alloc ob
  have hE := heap_new w3 ob
  obtain ⟨w4, hw4⟩ : ∃ w4, w4 = w3.alloc ob := ⟨_, rfl⟩
  have hB4 : Below w.heap.size w w4 := by rw [hw4]; exact hB3.alloc (by omega) _
  have hz4 : w4.heap.size = w.heap.size + 1 + 1 + 1 + 1 := by rw [hw4]; simp [hz3]
  rw [← hw4] at o1 o2 hE ⊢
  rw [hz3, hob] at hE
  clear hw4 hw3 hB3 hz3
  refine wpIn_rangeFunc_ownF hro h1 (gf := 99) (lb := #[.pointer (some ⟨w.heap.size + 1 + 1 + 1, 0, none⟩)]) rfl h5 (enters_of Tryz.func99 (by kernel_rfl) rfl)
    (each_stops F hd (n - 1) h5 h6 hro (w.heap.size + 1 + 1 + 1) w w4 k c x HX.out hk hB4 (by omega) hE) Kp2.trans (Kp2.turn (by omega)) (Below.refl _ _) (fun _ => rfl)
    (fun pre W => (Own1 W (w.heap.size + 1) (.int .i64 (pre.length : Int)) ∧ Own1 W (w.heap.size + 1 + 1) (.int .i64 (tallD (pre.map plainOf))) ∧ pre.length ≤ 40 ∧ tallD (pre.map plainOf) ≤ 8) ∧ Below w.heap.size w W)
    (fun c pre W => (c = .ret ∧ Own1 W (w.heap.size + 1) (.int .i64 0) ∧ Own1 W (w.heap.size + 1 + 1) (.int .i64 0) ∧ ¬ (pre.length ≤ 40 ∧ tallD (pre.map plainOf) ≤ 8)) ∧ Below w.heap.size w W)
    (OwnFrom.and (Own.from (fun s A B row hs hg hr => ⟨hs.1.kept hg hr, hs.2.1.kept hg hr, hs.2.2⟩) _) (ownFrom_below (Nat.le_refl _) (by omega)))
    (fun c => OwnFrom.and (Own.from (fun s A B row hs hg hr => ⟨hs.1, hs.2.1.kept hg hr, hs.2.2.1.kept hg hr, hs.2.2.2⟩) _) (ownFrom_below (Nat.le_refl _) (by omega)))
    ⟨⟨o1, o2, by simp, by simp [tallD]⟩, hB4⟩
    (fun y => { tmps := #[.agg #[.int .i64 c.k, .int .i64 c.t, .bool c.s.a, .slice c.s.p c.s.n c.s.c, .bool c.s.d, .slice c.s.q c.s.m c.s.e, .slice c.p c.n c.c], .pointer (some ⟨w.heap.size, 0, none⟩), .pointer (some ⟨w.heap.size + 1, 0, none⟩), .pointer (some ⟨w.heap.size + 1 + 1, 0, none⟩), .int .i64 y.1.1,
      .agg #[.int .i64 c.k, .int .i64 c.t, .bool c.s.a, .slice c.s.p c.s.n c.s.c, .bool c.s.d, .slice c.s.q c.s.m c.s.e, .slice c.p c.n c.c], .func (.func 99) #[] #[.pointer (some ⟨w.heap.size + 1 + 1 + 1, 0, none⟩)], .int .i64 y.1.1, y.1.2.1.val, undef, undef, undef, undef, undef, undef, undef, undef, undef, undef, undef, undef, undef, undef], defers := [] }) ?assign ?body ?done ?stop
  case assign =>
    intro l y W K hK
    unfold encOf
    gi_wp2
    exact hK
  case body =>
    rintro l pre ⟨⟨yd, yc, yx⟩, hy0, hy1, hyk⟩ W ⟨⟨p1, p2, hl, ht⟩, hB⟩ _
    dsimp only at hy0 hy1
    have ht0 := tallD_nonneg (pre.map plainOf)
    have hT1 : tallD ((pre ++ [(⟨(yd, yc, yx), hy0, hy1, hyk⟩ : PartOf w)]).map plainOf) = max (tallD (pre.map plainOf)) (yd + 1) := by rw [List.map_append]; exact tallD_snoc _ _
    have hN1 : (pre ++ [(⟨(yd, yc, yx), hy0, hy1, hyk⟩ : PartOf w)]).length = pre.length + 1 := by simp
    generalize (pre ++ [(⟨(yd, yc, yx), hy0, hy1, hyk⟩ : PartOf w)]) = pre1 at *
    generalize tallD (pre.map plainOf) = T at *
    generalize hLL : (pre.length : Int) = L at *
    have hL0 : 0 ≤ L := by omega
    have hL1 : L ≤ 40 := by omega
    have q1 := p1.set (.int .i64 (L + 1))
    have q2 := p2.other (.int .i64 (L + 1)) (b' := w.heap.size + 1) (by omega)
    have r1 := q1.other (.int .i64 (max T (yd + 1))) (b' := w.heap.size + 1 + 1) (by omega)
    have r2 := q2.set (.int .i64 (max T (yd + 1)))
    have s1 := r1.set (.int .i64 0)
    have s2 := r2.other (.int .i64 0) (b' := w.heap.size + 1) (by omega)
    have t1 := s1.other (.int .i64 0) (b' := w.heap.size + 1 + 1) (by omega)
    have t2 := s2.set (.int .i64 0)
    have hk2 := (Kp2.setCell (n₀ := w.heap.size) (n₁ := w4.heap.size) W (w.heap.size + 1) (.int .i64 (L + 1)) (by omega) (by omega)).trans (Kp2.setCell _ (w.heap.size + 1 + 1) (.int .i64 (max T (yd + 1))) (by omega) (by omega))
    have ko2 := (KeepsOthers.setCell W ⟨w.heap.size + 1, 0, none⟩ (.int .i64 (L + 1))).trans (KeepsOthers.setCell _ ⟨w.heap.size + 1 + 1, 0, none⟩ (.int .i64 (max T (yd + 1))))
    have hk4 := hide ((hk2.trans (Kp2.setCell _ (w.heap.size + 1) (.int .i64 0) (by omega) (by omega))).trans (Kp2.setCell _ (w.heap.size + 1 + 1) (.int .i64 0) (by omega) (by omega)))
    have ko4 := hide ((ko2.trans (KeepsOthers.setCell _ ⟨w.heap.size + 1, 0, none⟩ (.int .i64 0))).trans (KeepsOthers.setCell _ ⟨w.heap.size + 1 + 1, 0, none⟩ (.int .i64 0)))
    have hk2 := hide hk2
    have ko2 := hide ko2
    have HB := hide hB
    have T1 := hide t1
    have T2 := hide t2
    have R1 := hide r1
    have R2 := hide r2
    obtain ⟨p1c, p1f⟩ := p1
    obtain ⟨p2c, p2f⟩ := p2
    obtain ⟨q1c, q1f⟩ := q1
    obtain ⟨q2c, q2f⟩ := q2
    obtain ⟨r1c, r1f⟩ := r1
    obtain ⟨r2c, r2f⟩ := r2
    obtain ⟨s1c, s1f⟩ := s1
    obtain ⟨s2c, s2f⟩ := s2
    clear t1 t2 o1 o2 hE HX hB
    dsimp only
    by_cases g1 : 40 < L + 1
    · have g1' : decide (40 < L + 1) = true := by simp; omega
      gi_wp2
      exact ⟨ko4.out, ⟨rfl, T1.out, T2.out, fun h => by omega⟩, HB.out.trans hk4.out.below⟩
    · have g1' : decide (40 < L + 1) = false := by simp; omega
      by_cases g2 : 8 < max T (yd + 1)
      · have g2' : decide (8 < max T (yd + 1)) = true := by simp; omega
        gi_wp2
        exact ⟨ko4.out, ⟨rfl, T1.out, T2.out, fun h => by rw [hT1]; exact g2⟩, HB.out.trans hk4.out.below⟩
      · have g2' : decide (8 < max T (yd + 1)) = false := by simp; omega
        gi_wp2
        exact ⟨ko2.out, hz4 ▸ hk2.out, ⟨by rw [show ((pre1.length : Nat) : Int) = L + 1 by omega]; exact R1.out, by rw [hT1]; exact R2.out, by omega, by rw [hT1]; omega⟩, HB.out.trans hk2.out.below⟩
  case done =>
    rintro D ys W hD hS ⟨⟨p1, p2, hl, ht⟩, hB⟩ hK
    have hLn : ((partsX k 0 x).length : Int) = (ys.length : Int) := by rw [← hS, List.length_map]
    have e1 : sizeP (partsX k 0 x) = ((ys.length : Int), tallD (ys.map plainOf)) := by
      unfold sizeP
      rw [hLn, if_pos ⟨by omega, by rw [← hS]; exact ht⟩, hS]
    have E := hide (HR.out.trans e1)
    clear e1 HR
    have q1 := p1.set (.int .i64 (ys.length : Int))
    have q2 := p2.other (.int .i64 (ys.length : Int)) (b' := w.heap.size + 1) (by omega)
    have r1 := q1.other (.int .i64 (tallD (ys.map plainOf))) (b' := w.heap.size + 1 + 1) (by omega)
    have r2 := q2.set (.int .i64 (tallD (ys.map plainOf)))
    have hk2 := hide ((Kp2.setCell (n₀ := w.heap.size) (n₁ := w4.heap.size) W (w.heap.size + 1) (.int .i64 (ys.length : Int)) (by omega) (by omega)).trans (Kp2.setCell _ (w.heap.size + 1 + 1) (.int .i64 (tallD (ys.map plainOf))) (by omega) (by omega)))
    have hK2 := hide (((KeepsOthers.setCell W ⟨w.heap.size + 1, 0, none⟩ (.int .i64 (ys.length : Int))).trans (KeepsOthers.setCell _ ⟨w.heap.size + 1 + 1, 0, none⟩ (.int .i64 (tallD (ys.map plainOf))))).same D _ hK rfl)
    have R1 := hide r1
    have R2 := hide r2
    have HB := hide hB
    obtain ⟨p1c, p1f⟩ := p1
    obtain ⟨p2c, p2f⟩ := p2
    obtain ⟨q1c, q1f⟩ := q1
    obtain ⟨q2c, q2f⟩ := q2
    clear r1 r2 o1 o2 hE HX hB hK hS hLn
    generalize tallD (ys.map plainOf) = T at *
    generalize (ys.length : Int) = L at *
    gi_wp2
    gi_region
    all_goals gi_wp2
    all_goals
      have hk3 := hK2.out
      have y1 := R1.out.drew.kept (grownBy_putObj' _ D (.deferred none)) (fun r e => by cases e; exact ⟨_, hk3, rfl⟩)
      have y2 := R2.out.drew.kept (grownBy_putObj' _ D (.deferred none)) (fun r e => by cases e; exact ⟨_, hk3, rfl⟩)
      refine ⟨by simp, .inl ⟨_, _, rfl, run_takeDeferred hk3, ?_⟩⟩
      refine ⟨.tuple #[.int .i64 L, .int .i64 T], ?_, by rw [E.out], (HB.out.trans hk2.out.below).trans ((belowK_b (w := w) (Nat.le_refl _) _ D _ _ (by omega) hk3 rfl rfl).drew)⟩
      simp [results, Tryz.f61, go_sem, y1.cell, y2.cell]
  case stop =>
    rintro D c pre W hD hpre ⟨⟨rfl, z1, z2, hne⟩, hB⟩ hK
    have e1 : sizeP (partsX k 0 x) = (0, 0) := by
      unfold sizeP
      rw [if_neg ?_]
      intro h
      apply hne
      have h2 := hpre.length_le
      have h3 := tallD_pre hpre
      rw [List.length_map] at h2
      omega
    have E := hide (HR.out.trans e1)
    clear e1 HR hne hpre
    gi_wp2
    refine ⟨by simp, .inl ⟨_, _, rfl, run_takeDeferred hK, ?_⟩⟩
    have y1 := z1.kept (grownBy_putObj' _ D (.deferred none)) (fun r e => by cases e; exact ⟨_, hK, rfl⟩)
    have y2 := z2.kept (grownBy_putObj' _ D (.deferred none)) (fun r e => by cases e; exact ⟨_, hK, rfl⟩)
    refine ⟨.tuple #[.int .i64 0, .int .i64 0], ?_, by rw [E.out], hB.trans (belowK_b (w := w) (Nat.le_refl _) W D _ _ (by omega) hK rfl rfl)⟩
    simp [results, Tryz.f61, go_sem, y1.cell, y2.cell]
end Go.Proofs.YtlfhpocfacaaeaaGreat
/-
  The program's set: slices.Equal of ranges and of strings; Same.
-/
set_option linter.unusedSimpArgs false
set_option linter.unusedVariables false
namespace Go.Proofs.YtlfhpocfacaaeaaGreat
open Go.RowKit

set_option maxHeartbeats 2000000 in
set_option maxRecDepth 100000 in
theorem equalR_any (v u : Value) (si ti : List Rg) (w : World) (hv : RngsAt w v si) (hu : RngsAt w u ti) :
    Calls Tryz.prog 131 #[v, u] w fun r w' => r = .returned (.bool (rngEqB si ti)) ∧ Below w.heap.size w w' := by
  have HI := hide hv
  have HJ := hide hu
  have nIle := hv.2.1
  have nJle := hu.2.1
  have lI := rngEqB_len si ti
  obtain ⟨ai, ci, rfl⟩ := hv.form
  obtain ⟨bi, di, rfl⟩ := hu.form
  clear hv hu
  obtain ⟨nI, hnI⟩ : ∃ n : Nat, n = si.length := ⟨_, rfl⟩
  obtain ⟨nJ, hnJ⟩ : ∃ n : Nat, n = ti.length := ⟨_, rfl⟩
  rw [← hnI] at nIle lI HI ⊢
  rw [← hnJ] at nJle lI HJ ⊢
  have HnI := hide hnI
  have HnJ := hide hnJ
  have LI := hide lI
  clear hnI hnJ lI
  by_cases eI : nI = nJ
  · subst eI
    clear LI
    have b1 : ((nI : Int) != (nI : Int)) = false := by simp
    go_enter Tryz.func131, Tryz.ntmps131
    go_wp2
    go_loopw [13] (fun i wr => ∃ k : Nat, i = .int .i64 k ∧ k ≤ nI ∧ Hid (rngEqB (si.drop k) (ti.drop k) = rngEqB si ti) ∧ Hid (Below w.heap.size w wr)) (fun i _ => nI - (intOf i).toNat)
    case atStart => exact ⟨0, rfl, by omega, hide rfl, hide (Below.refl _ _)⟩
    case round =>
      obtain ⟨k, rfl, hk, HG, HB⟩ := hrel
      by_cases hlt : k < nI
      · have hk1 : k < si.length := by rw [← HnI.out]; exact hlt
        have hk2 : k < ti.length := by rw [← HnJ.out]; exact hlt
        obtain ⟨b, off, rfl, hb, x0, x1⟩ := (HI.out.on HB.out).at.2 k hk1
        obtain ⟨b', off', rfl, hb', y0, y1⟩ := (HJ.out.on HB.out).at.2 k hk2
        have G0 := HG.out
        rw [drop_getD si k (0, 0) hk1, drop_getD ti k (0, 0) hk2] at G0
        generalize si.getD k (0, 0) = r at *
        generalize ti.getD k (0, 0) = q at *
        simp only [rngEqB] at G0
        have G1 := hide G0
        clear G0 HG
        cases f1 : (r.1 == q.1)
        · have G2 : Hid (rngEqB si ti = false) := hide (by rw [← G1.out, f1]; rfl)
          clear G1
          go_wp2
          go_quiet (fail)
          go_wp2
          go_ret
          exact ⟨ret_bool (by rw [G2.out]), below_drewN HB.out _⟩
        · cases f2 : (r.2 == q.2)
          · have G2 : Hid (rngEqB si ti = false) := hide (by rw [← G1.out, f1, f2]; rfl)
            clear G1
            go_wp2
            go_quiet (fail)
            go_wp2
            go_ret
            exact ⟨ret_bool (by rw [G2.out]), below_drewN HB.out _⟩
          · have G2 : Hid (rngEqB (si.drop (k + 1)) (ti.drop (k + 1)) = rngEqB si ti) := hide (by rw [← G1.out, f1, f2]; rfl)
            clear G1
            go_wp2
            go_quiet (fail)
            go_wp2
            exact ⟨⟨k + 1, by go_num, by omega, G2, hide (below_drewN HB.out _)⟩, by simp [intOf]; omega⟩
      · have hge : (nI : Int) ≤ (k : Int) := by omega
        have G2 : Hid (rngEqB si ti = true) := hide (by
          rw [← HG.out, List.drop_eq_nil_of_le (by have := HnI.out; omega), List.drop_eq_nil_of_le (by have := HnJ.out; omega)]; rfl)
        clear HG
        go_wp2
        go_ret
        exact ⟨ret_bool (by rw [G2.out]), HB.out⟩
  · have b1 : ((nI : Int) != (nJ : Int)) = true := by rw [bne_iff_ne]; omega
    have G := hide (LI.out eI)
    go_enter Tryz.func131, Tryz.ntmps131
    go_wp2
    go_ret
    exact ⟨ret_bool (by rw [G.out]), Below.refl _ _⟩

set_option maxHeartbeats 2000000 in
set_option maxRecDepth 100000 in
theorem equalS_any (v u : Value) (ss ts : List ByteArray) (w : World) (hv : StrsAt w v ss) (hu : StrsAt w u ts) :
    Calls Tryz.prog 132 #[v, u] w fun r w' => r = .returned (.bool (strEqB ss ts)) ∧ Below w.heap.size w w' := by
  have HI := hide hv
  have HJ := hide hu
  have nIle := hv.2.1
  have nJle := hu.2.1
  have lI := strEqB_len ss ts
  obtain ⟨ai, ci, rfl⟩ := hv.form
  obtain ⟨bi, di, rfl⟩ := hu.form
  clear hv hu
  obtain ⟨nI, hnI⟩ : ∃ n : Nat, n = ss.length := ⟨_, rfl⟩
  obtain ⟨nJ, hnJ⟩ : ∃ n : Nat, n = ts.length := ⟨_, rfl⟩
  rw [← hnI] at nIle lI HI ⊢
  rw [← hnJ] at nJle lI HJ ⊢
  have HnI := hide hnI
  have HnJ := hide hnJ
  have LI := hide lI
  clear hnI hnJ lI
  by_cases eI : nI = nJ
  · subst eI
    clear LI
    have b1 : ((nI : Int) != (nI : Int)) = false := by simp
    go_enter Tryz.func132, Tryz.ntmps132
    go_wp2
    go_loopw [13] (fun i wr => ∃ k : Nat, i = .int .i64 k ∧ k ≤ nI ∧ Hid (strEqB (ss.drop k) (ts.drop k) = strEqB ss ts) ∧ Hid (Below w.heap.size w wr)) (fun i _ => nI - (intOf i).toNat)
    case atStart => exact ⟨0, rfl, by omega, hide rfl, hide (Below.refl _ _)⟩
    case round =>
      obtain ⟨k, rfl, hk, HG, HB⟩ := hrel
      by_cases hlt : k < nI
      · have hk1 : k < ss.length := by rw [← HnI.out]; exact hlt
        have hk2 : k < ts.length := by rw [← HnJ.out]; exact hlt
        obtain ⟨b, off, rfl, hb, x0⟩ := (HI.out.on HB.out).at.2 k hk1
        obtain ⟨b', off', rfl, hb', y0⟩ := (HJ.out.on HB.out).at.2 k hk2
        have G0 := HG.out
        rw [drop_getD ss k ⟨#[]⟩ hk1, drop_getD ts k ⟨#[]⟩ hk2] at G0
        generalize ss.getD k ⟨#[]⟩ = r at *
        generalize ts.getD k ⟨#[]⟩ = q at *
        simp only [strEqB] at G0
        have G1 := hide G0
        clear G0 HG
        cases f1 : (r.toList == q.toList)
        · have G2 : Hid (strEqB ss ts = false) := hide (by rw [← G1.out, f1]; rfl)
          clear G1
          go_wp2
          go_quiet (fail)
          go_wp2
          go_ret
          exact ⟨ret_bool (by rw [G2.out]), below_drewN HB.out _⟩
        · have G2 : Hid (strEqB (ss.drop (k + 1)) (ts.drop (k + 1)) = strEqB ss ts) := hide (by rw [← G1.out, f1]; rfl)
          clear G1
          go_wp2
          go_quiet (fail)
          go_wp2
          exact ⟨⟨k + 1, by go_num, by omega, G2, hide (below_drewN HB.out _)⟩, by simp [intOf]; omega⟩
      · have hge : (nI : Int) ≤ (k : Int) := by omega
        have G2 : Hid (strEqB ss ts = true) := hide (by
          rw [← HG.out, List.drop_eq_nil_of_le (by have := HnI.out; omega), List.drop_eq_nil_of_le (by have := HnJ.out; omega)]; rfl)
        clear HG
        go_wp2
        go_ret
        exact ⟨ret_bool (by rw [G2.out]), HB.out⟩
  · have b1 : ((nI : Int) != (nJ : Int)) = true := by rw [bne_iff_ne]; omega
    have G := hide (LI.out eI)
    go_enter Tryz.func132, Tryz.ntmps132
    go_wp2
    go_ret
    exact ⟨ret_bool (by rw [G.out]), Below.refl _ _⟩

set_option maxHeartbeats 2000000 in
set_option maxRecDepth 100000 in
theorem same_any (v u : Value) (A B : SetV) (w : World) (hv : SetAt w v A) (hu : SetAt w u B) :
    Calls Tryz.prog 120 #[v, u] w fun r w' => r = .returned (.bool (sameB A B)) ∧ Below w.heap.size w w' := by
  obtain ⟨vi, vs, rfl, hI, hS⟩ := hv
  obtain ⟨ui, us, rfl, hJ, hT⟩ := hu
  obtain ⟨sa, si, sc, ss⟩ := A
  obtain ⟨ta, ti, tc, ts⟩ := B
  dsimp only at *
  have HI := hide hI
  have HS := hide hS
  have HJ := hide hJ
  have HT := hide hT
  clear hI hS hJ hT
  have HG : Hid (sameB ⟨sa, si, sc, ss⟩ ⟨ta, ti, tc, ts⟩ = (((sa == ta) && rngEqB si ti) && (sc == tc) && strEqB ss ts)) := hide (by
    unfold sameB
    dsimp only
    cases (sa == ta) <;> cases (sc == tc) <;> cases rngEqB si ti <;> cases strEqB ss ts <;> rfl)
  generalize sameB ⟨sa, si, sc, ss⟩ ⟨ta, ti, tc, ts⟩ = G at *
  have ba := fun (o1 o2 : Obj) => hide (two_boxes w o1 o2)
  have hta : ta = sa ∨ ta = !sa := by cases ta <;> cases sa <;> simp
  rcases hta with rfl | rfl
  · have hb1 : (ta == ta) = true := by simp
    obtain ⟨e1, e2, b2⟩ := (ba (.cells #[.bool ta, vi, .bool sc, vs] 25) (.cells #[.bool ta, ui, .bool tc, us] 25)).out
    have X := hide (equalR_any _ _ si ti _ (HI.out.on b2) (HJ.out.on b2))
    have Y := fun (w1 : World) (h : Below w.heap.size w w1) => hide (equalS_any _ _ ss ts w1 (HS.out.on h) (HT.out.on h))
    have B2 := hide b2
    have E1 := hide e1
    have E2 := hide e2
    clear e1 e2 b2 ba HI HJ HS HT
    go_enter Tryz.func120, Tryz.ntmps120
    go_wp2_with fail
    refine (unhide X).mono ?_
    rintro r w1 ⟨rfl, b1⟩
    have c2 := cell_heap ((b1.block _ (lt_heap E1.out)).trans E1.out) 2
    have c3 := cell_heap ((b1.block _ (lt_heap E1.out)).trans E1.out) 3
    have d2 := cell_heap ((b1.block _ (lt_heap E2.out)).trans E2.out) 2
    have d3 := cell_heap ((b1.block _ (lt_heap E2.out)).trans E2.out) 3
    simp only [List.getElem?_toArray, List.getElem?_cons_zero, List.getElem?_cons_succ] at c2 c3 d2 d3
    have B3 := hide (B2.out.trans (b1.mono B2.out.size))
    clear X B2 b1 E1 E2
    cases hr : rngEqB si ti
    · have HE : Hid (G = false) := hide (by rw [HG.out, hr]; simp)
      go_wp2
      go_ret
      exact ⟨ret_bool HE.out.symm, B3.out⟩
    · have htc : tc = sc ∨ tc = !sc := by cases tc <;> cases sc <;> simp
      rcases htc with rfl | rfl
      · have hb2 : (tc == tc) = true := by simp
        have HE : Hid (G = strEqB ss ts) := hide (by rw [HG.out, hr]; simp)
        have Z := Y _ B3.out
        clear Y HG
        go_wp2_with fail
        refine (unhide Z).mono ?_
        rintro r w4 ⟨rfl, b4⟩
        go_wp2
        go_ret
        exact ⟨ret_bool HE.out.symm, B3.out.trans (b4.mono B3.out.size)⟩
      · have HE : Hid (G = false) := hide (by rw [HG.out]; cases sc <;> simp)
        go_wp2
        go_ret
        exact ⟨ret_bool (by rw [HE.out]), B3.out⟩
  · have HE : Hid (G = false) := hide (by rw [HG.out]; cases sa <;> simp)
    go_enter Tryz.func120, Tryz.ntmps120
    go_wp2
    go_ret
    exact ⟨ret_bool (by rw [HE.out]), (ba _ _).out.2.2⟩
end Go.Proofs.YtlfhpocfacaaeaaGreat
/-
  The program's set.Right and set.Small.
-/
set_option linter.unusedSimpArgs false
set_option linter.unusedVariables false
namespace Go.Proofs.YtlfhpocfacaaeaaGreat
open Go.RowKit

set_option maxHeartbeats 4000000 in
set_option maxRecDepth 100000 in
theorem rightRanges_any (v : Value) (l : List Rg) (w : World) (hv : RngsAt w v l) :
    Calls Tryz.prog 118 #[v] w fun r w' => r = .returned (.bool (rgB none l)) ∧ Below w.heap.size w w' := by
  obtain ⟨a, c, rfl⟩ := hv.form
  have HV := hide hv
  have nle := hv.2.1
  obtain ⟨N, hN⟩ : ∃ n : Nat, n = l.length := ⟨_, rfl⟩
  rw [← hN] at nle ⊢
  have HN := hide hN
  clear hv hN
  go_enter Tryz.func118, Tryz.ntmps118
  go_wp2
  go_loopw [7] (fun i wr => ∃ k : Nat, i = .int .i64 k ∧ k ≤ N ∧ Hid (rgB (prevR l k) (l.drop k) = rgB none l) ∧ Hid (Below w.heap.size w wr)) (fun i _ => N - (intOf i).toNat)
  case atStart => exact ⟨0, rfl, by omega, hide rfl, hide (Below.refl _ _)⟩
  case round =>
    obtain ⟨k, rfl, hk, HG, HB⟩ := hrel
    by_cases hlt : k < N
    · have hk' : k < l.length := by rw [← HN.out]; exact hlt
      have IW := HV.out.on HB.out
      obtain ⟨b, off, rfl, hb, d0, d1⟩ := IW.at.2 k hk'
      have bd := IW.bound k hk'
      have G0 := HG.out
      rw [drop_getD l k (0, 0) hk'] at G0
      have prv : k ≠ 0 → ∃ q : Rg, prevR l k = some q.2 ∧ wr.cell? ⟨b, off + (k - 1) * 2, none⟩ = some (.int .i64 q.1) ∧ wr.cell? ⟨b, off + (k - 1) * 2 + 1, none⟩ = some (.int .i64 q.2) ∧ -9223372036854775808 ≤ q.2 ∧ q.2 ≤ 9223372036854775807 := fun h0 => by
        obtain ⟨b', off', ha, _, e0, e1⟩ := IW.at.2 (k - 1) (by omega)
        obtain ⟨_, _, r2, r3⟩ := IW.bound (k - 1) (by omega)
        simp at ha
        obtain ⟨rfl, rfl⟩ := ha
        exact ⟨_, by unfold prevR; rw [if_neg h0], e0, e1, r2, r3⟩
      have PRV := hide prv
      have NXT : Hid (prevR l (k + 1) = some (l.getD k (0, 0)).2) := hide (by unfold prevR; rw [if_neg (by omega)]; rfl)
      generalize l.getD k (0, 0) = r at *
      have G1 := hide G0
      clear IW prv G0 HG
      have n0 := cell_heap (heap_new wr (Obj.cells #[Value.int IntKind.i64 r.1, Value.int IntKind.i64 r.2] 72)) 0
      have n1 := cell_heap (heap_new wr (Obj.cells #[Value.int IntKind.i64 r.1, Value.int IntKind.i64 r.2] 72)) 1
      simp only [List.getElem?_toArray, List.getElem?_cons_zero, List.getElem?_cons_succ] at n0 n1
      have B5 := hide (HB.out.alloc HB.out.size (Obj.cells #[Value.int IntKind.i64 r.1, Value.int IntKind.i64 r.2] 72))
      have C5 := fun {o : Nat} => ((Below.refl _ wr).alloc (Nat.le_refl _) (Obj.cells #[Value.int IntKind.i64 r.1, Value.int IntKind.i64 r.2] 72)).cell (p := ⟨b, o, none⟩) hb
      by_cases h1 : r.1 ≤ r.2
      · have e1 : decide (r.2 < r.1) = false := decide_eq_false (by omega)
        by_cases k0 : k = 0
        · have dk : decide (0 < k) = false := decide_eq_false (by omega)
          have G2 : Hid (rgB (prevR l (k + 1)) (l.drop (k + 1)) = rgB none l) := hide (by
            have := G1.out
            rw [show prevR l k = none by unfold prevR; rw [if_pos k0]] at this
            rw [← this, NXT.out]
            simp [rgB, h1])
          clear G1 PRV NXT C5 k0
          go_wp2
          clear d0 d1
          go_quiet (fail)
          go_wp2
          exact ⟨⟨k + 1, by go_num, by omega, G2, hide (below_drewN B5.out _)⟩, by simp [intOf]; omega⟩
        · obtain ⟨q, hp, pc0, pc1, p0, p1⟩ := PRV.out k0
          have x0 := C5.trans pc0
          have x1 := C5.trans pc1
          have HX := fun (W : World) => hide (apart_any q r W bd.1 bd.2.1 p0)
          have dk : decide (0 < k) = true := decide_eq_true (by omega)
          have k1 : 1 ≤ k := by omega
          have G1' := G1.out
          rw [hp] at G1'
          have HG1 := hide G1'
          clear PRV hp k0 G1 G1' C5 pc0 pc1
          go_wp2
          generalize wr.alloc (Obj.cells #[Value.int IntKind.i64 r.1, Value.int IntKind.i64 r.2] 72) = w5 at *
          clear d0 d1
          have X := fun (d : Nat) (os : Array Obj) => hide (Calls.regrown_of (HX (Sort.grow (redrawn w5 d) os)).out)
          have p0' := cell_regrown n0
          have p1' := cell_regrown n1
          have p2' := cell_regrown x0
          have p3' := cell_regrown x1
          clear HX
          refine wp_region_quiet_below mixed (by kernel_rfl) ?_
          repeat (first | go_big_quiet_step (exact unhide (X _ _)) | quiet_step (exact unhide (X _ _)))
          refine wpQuiet_nil ?_
          intro _ hw'
          obtain ⟨⟨dq, osq⟩, hw''⟩ := hw'
          subst hw''
          have bq := below_regrown w5 dq osq
          have B6 := hide (B5.out.trans (bq.mono B5.out.size))
          clear p0' p1' p2' p3' X x0 x1 n0 n1 B5 bq bd
          dsimp only
          generalize Sort.grow (redrawn w5 dq) osq = w6 at B6 ⊢
          by_cases hap : q.2 + 1 < r.1
          · have da : decide (q.2 + 1 < r.1) = true := decide_eq_true hap
            have G2 : Hid (rgB (prevR l (k + 1)) (l.drop (k + 1)) = rgB none l) := hide (by
              rw [← HG1.out, NXT.out]
              simp [rgB, h1, hap])
            simp only [da, Bool.not_true]
            go_wp2
            exact ⟨⟨k + 1, by go_num, by omega, G2, B6⟩, by simp [intOf]; omega⟩
          · have da : decide (q.2 + 1 < r.1) = false := decide_eq_false hap
            have G2 : Hid (rgB none l = false) := hide (by
              rw [← HG1.out]
              simp [rgB]
              intro _ h
              exact absurd h hap)
            simp only [da, Bool.not_false]
            go_wp2
            go_ret
            exact ⟨ret_bool G2.out.symm, B6.out⟩
      · have e1 : decide (r.2 < r.1) = true := decide_eq_true (by omega)
        have G2 : Hid (rgB none l = false) := hide (by
          rw [← G1.out]
          cases prevR l k <;> simp [rgB] <;> intro h <;> omega)
        clear G1 PRV NXT C5
        go_wp2
        clear d0 d1
        go_quiet (fail)
        go_wp2
        go_ret
        exact ⟨ret_bool G2.out.symm, below_drewN B5.out _⟩
    · have hge : decide ((k : Int) < (N : Int)) = false := by simp; omega
      have G2 : Hid (rgB none l = true) := hide (by
        rw [← HG.out, List.drop_eq_nil_of_le (by have := HN.out; omega)]
        cases prevR l k <;> rfl)
      go_wp2
      go_ret
      exact ⟨ret_bool G2.out.symm, HB.out⟩

set_option maxHeartbeats 4000000 in
set_option maxRecDepth 100000 in
theorem rightStrings_any (v : Value) (ss : List ByteArray) (w : World) (hv : StrsAt w v ss) :
    Calls Tryz.prog 119 #[v] w fun r w' => r = .returned (.bool (stB none ss)) ∧ Below w.heap.size w w' := by
  obtain ⟨a, c, rfl⟩ := hv.form
  have HS := hide hv
  have nle := hv.2.1
  obtain ⟨nS, hnS⟩ : ∃ n : Nat, n = ss.length := ⟨_, rfl⟩
  rw [← hnS] at nle ⊢
  have HnS := hide hnS
  clear hv hnS
  go_enter Tryz.func119, Tryz.ntmps119
  go_wp2
  go_loopw [7] (fun i wr => ∃ k : Nat, i = .int .i64 k ∧ k ≤ nS ∧ Hid (stB (prevS ss k) (ss.drop k) = stB none ss) ∧ Hid (Below w.heap.size w wr)) (fun i _ => nS - (intOf i).toNat)
  case atStart => exact ⟨0, rfl, by omega, hide rfl, hide (Below.refl _ _)⟩
  case round =>
    obtain ⟨j, rfl, hj, HG, HB⟩ := hrel
    by_cases hlt : j < nS
    · have IW := HS.out.on HB.out
      have hj' : j < ss.length := by rw [← HnS.out]; exact hlt
      obtain ⟨b, off, rfl, hb, d0⟩ := IW.at.2 j hj'
      have q0 := IW.bound j hj'
      have G0 := HG.out
      rw [drop_getD ss j ⟨#[]⟩ hj'] at G0
      have prv : j ≠ 0 → ∃ h : ByteArray, prevS ss j = some h ∧ wr.cell? ⟨b, off + (j - 1), none⟩ = some (.string h) := fun h0 => by
        obtain ⟨b', off', ha, _, e1⟩ := IW.at.2 (j - 1) (by omega)
        simp at ha
        obtain ⟨rfl, rfl⟩ := ha
        exact ⟨_, by unfold prevS; rw [if_neg h0], e1⟩
      have PRV := hide prv
      have nxt : prevS ss (j + 1) = some (ss.getD j ⟨#[]⟩) := by unfold prevS; rw [if_neg (by omega)]; rfl
      have NXT := hide nxt
      generalize ss.getD j ⟨#[]⟩ = r at *
      clear IW prv nxt
      have G1 := hide G0
      clear G0 HG
      by_cases h1 : r.size ≤ 8
      · have e1 : decide (8 < r.size) = false := decide_eq_false (by omega)
        have e1' : decide ((8 : Int) < (r.size : Int)) = false := decide_eq_false (by omega)
        by_cases j0 : j = 0
        · have dj : decide (0 < j) = false := decide_eq_false (by omega)
          have G3 : Hid (stB (prevS ss (j + 1)) (ss.drop (j + 1)) = stB none ss) := hide (by
            have := G1.out
            rw [show prevS ss j = none by unfold prevS; rw [if_pos j0]] at this
            rw [← this, NXT.out]
            simp [stB, h1])
          clear G1 j0 PRV NXT
          go_wp2
          exact ⟨⟨j + 1, by go_num, by omega, G3, HB⟩, by simp [intOf]; omega⟩
        · obtain ⟨h, hp, pc⟩ := PRV.out j0
          have dj : decide (0 < j) = true := decide_eq_true (by omega)
          have j1 : 1 ≤ j := by omega
          have G1' := G1.out
          rw [hp] at G1'
          clear PRV hp j0 G1
          cases h2 : Op.bytesLess h.toList r.toList
          · have G3 : Hid (stB none ss = false) := hide (by rw [← G1']; simp [stB, h2])
            clear G1' NXT
            go_wp2
            go_ret
            exact ⟨ret_bool G3.out.symm, HB.out⟩
          · have G3 : Hid (stB (prevS ss (j + 1)) (ss.drop (j + 1)) = stB none ss) := hide (by rw [← G1', NXT.out]; simp [stB, h1, h2])
            clear G1' NXT
            go_wp2
            exact ⟨⟨j + 1, by go_num, by omega, G3, HB⟩, by simp [intOf]; omega⟩
      · have e1 : decide (8 < r.size) = true := decide_eq_true (by omega)
        have e1' : decide ((8 : Int) < (r.size : Int)) = true := decide_eq_true (by omega)
        have G3 : Hid (stB none ss = false) := hide (by
          rw [← G1.out]
          cases prevS ss j <;> simp [stB, h1])
        clear G1 PRV NXT
        go_wp2
        go_ret
        exact ⟨ret_bool G3.out.symm, HB.out⟩
    · have hge : (nS : Int) ≤ (j : Int) := by omega
      have G3 : Hid (stB none ss = true) := hide (by
        rw [← HG.out, List.drop_eq_nil_of_le (by have := HnS.out; omega)]
        cases prevS ss j <;> rfl)
      clear HG
      go_wp2
      go_ret
      exact ⟨ret_bool G3.out.symm, HB.out⟩

set_option maxHeartbeats 4000000 in
set_option maxRecDepth 100000 in
theorem setRight_any (v : Value) (S : SetV) (w : World) (hv : SetAt w v S) :
    Calls Tryz.prog 90 #[v] w fun r w' => r = .returned (.bool (rightSet S)) ∧ Below w.heap.size w w' := by
  obtain ⟨vi, vs, rfl, hI, hS⟩ := hv
  have HI := hide hI
  have HS := hide hS
  obtain ⟨ai, ci, rfl⟩ := hI.form
  obtain ⟨aq, cq, rfl⟩ := hS.form
  have B0 := fun (o : Obj) => hide ((Below.refl _ w).alloc (Nat.le_refl _) o)
  unfold rightSet
  cases e1 : rgB none S.ints
  · have X := fun (o : Obj) => hide (rightRanges_any _ _ _ (HI.out.on (B0 o).out))
    clear HI HS hI hS
    go_enter Tryz.func90, Tryz.ntmps90
    go_wp2_with fail
    refine (unhide (X _)).mono ?_
    rintro r w1 ⟨rfl, b1⟩
    have B1 := hide ((B0 _).out.trans (b1.mono (B0 _).out.size))
    rw [e1]
    clear X B0 b1
    go_wp2
    go_ret
    exact ⟨rfl, B1.out⟩
  · have X := fun (o : Obj) => hide (rightRanges_any _ _ _ (HI.out.on (B0 o).out))
    have Y := fun (W : World) (b : Below w.heap.size w W) => hide (rightStrings_any _ _ _ (HS.out.on b))
    clear HI HS hI hS
    go_enter Tryz.func90, Tryz.ntmps90
    go_wp2_with fail
    refine (unhide (X _)).mono ?_
    rintro r w1 ⟨rfl, b1⟩
    have B1 := hide ((B0 _).out.trans (b1.mono (B0 _).out.size))
    have hE1 := (b1.block w.heap.size (by simp)).trans (heap_new w _)
    have c3 := cell_heap hE1 3
    simp only [List.getElem?_toArray, List.getElem?_cons_zero, List.getElem?_cons_succ] at c3
    rw [e1]
    clear X B0 b1 hE1
    go_wp2_with fail
    refine (unhide (Y _ B1.out)).mono ?_
    rintro r w2 ⟨rfl, b2⟩
    have B2 := hide (B1.out.trans (b2.mono B1.out.size))
    clear Y b2 B1 c3
    go_wp2
    go_ret
    exact ⟨rfl, B2.out⟩

set_option maxHeartbeats 4000000 in
set_option maxRecDepth 100000 in
theorem small_any (v : Value) (S : SetV) (w : World) (hv : SetAt w v S) :
    Calls Tryz.prog 89 #[v] w fun r w' => r = .returned (.bool (decide (S.ints.length ≤ 6) && decide (S.strs.length ≤ 6))) ∧ Below w.heap.size w w' := by
  obtain ⟨vi, vs, rfl, hI, hS⟩ := hv
  obtain ⟨ai, ci, rfl⟩ := hI.form
  obtain ⟨aq, cq, rfl⟩ := hS.form
  have B0 := fun (o : Obj) => hide ((Below.refl _ w).alloc (Nat.le_refl _) o)
  have n1 := hI.2.1
  have n2 := hS.2.1
  clear hI hS
  generalize S.ints.length = a at *
  generalize S.strs.length = b at *
  by_cases h1 : a ≤ 6
  · have e1 : decide ((a : Int) ≤ 6) = true := decide_eq_true (by omega)
    have e1' : decide (a ≤ 6) = true := decide_eq_true h1
    go_enter Tryz.func89, Tryz.ntmps89
    go_wp2
    go_ret
    exact ⟨ret_bool (by rw [e1', Bool.true_and]; exact decide_eq_decide.2 (by omega)), (B0 _).out⟩
  · have e1 : decide ((a : Int) ≤ 6) = false := decide_eq_false (by omega)
    have e1' : decide (a ≤ 6) = false := decide_eq_false h1
    go_enter Tryz.func89, Tryz.ntmps89
    go_wp2
    go_ret
    exact ⟨ret_bool (by rw [e1', Bool.false_and]), (B0 _).out⟩
end Go.Proofs.YtlfhpocfacaaeaaGreat
/-
  The program's asksNothing and rightPart.
-/
set_option linter.unusedSimpArgs false
set_option linter.unusedVariables false
namespace Go.Proofs.YtlfhpocfacaaeaaGreat
open Go.RowKit

theorem ecCells1 {w : World} {g : Nat} {t : TypeId} {x0 x1 x2 x3 x4 x5 x6 : Value} (h : w.heap[g]? = some (.cells #[x0, x1, x2, x3, x4, x5, x6] t (0, 0))) : w.cell? ⟨g, 0, none⟩ = some x0 ∧ w.cell? ⟨g, 1, none⟩ = some x1 ∧ w.cell? ⟨g, 2, none⟩ = some x2 ∧ w.cell? ⟨g, 3, none⟩ = some x3 ∧ w.cell? ⟨g, 4, none⟩ = some x4 ∧ w.cell? ⟨g, 5, none⟩ = some x5 ∧ w.cell? ⟨g, 6, none⟩ = some x6 :=
  ⟨cell_heap h 0, cell_heap h 1, cell_heap h 2, cell_heap h 3, cell_heap h 4, cell_heap h 5, cell_heap h 6⟩
set_option maxHeartbeats 4000000 in
set_option maxRecDepth 100000 in
theorem asksNothing_any (c : EC) (x : ExV) (w : World) (hc : EcFor w c x) :
    Calls Tryz.prog 101 #[c.val] w fun r w' => r = .returned (.bool (decide (x.attr = 0) && sameB x.set noSet)) ∧ Below w.heap.size w w' := by
  have B0 := fun (o : Obj) => hide ((Below.refl _ w).alloc (Nat.le_refl _) o)
  have X := fun (o : Obj) => hide (same_any _ _ _ _ _ (hc.s.on (B0 o).out) (noSet_at (w.alloc o)))
  have HT := hide hc.t
  clear hc
  unfold SC.val at X
  by_cases h : c.t = 0
  · have E : Hid ((decide (x.attr = 0) && sameB x.set noSet) = sameB x.set noSet) := hide (by rw [← HT.out, h]; simp)
    have h' : (c.t == 0) = true := by rw [h]; rfl
    clear h HT
    unfold EC.val
    go_enter Tryz.func101, Tryz.ntmps101
    go_wp2_with fail
    refine (unhide (X _)).mono ?_
    rintro r w1 ⟨rfl, b1⟩
    have B1 := hide ((B0 _).out.trans (b1.mono (B0 _).out.size))
    clear X B0 b1
    go_wp2
    go_ret
    exact ⟨ret_bool E.out.symm, B1.out⟩
  · have E : Hid ((decide (x.attr = 0) && sameB x.set noSet) = false) := hide (by rw [← HT.out]; simp [h])
    have h' : (c.t == 0) = false := by simpa using h
    clear h HT X
    unfold EC.val
    go_enter Tryz.func101, Tryz.ntmps101
    go_wp2
    go_ret
    exact ⟨ret_bool E.out.symm, (B0 _).out⟩

set_option maxHeartbeats 4000000 in
set_option maxRecDepth 100000 in
theorem rightPart_atom (c : EC) (x : ExV) (w : World) (hc : EcFor w c x) (hk : c.k = 1) :
    Calls Tryz.prog 63 #[c.val] w fun r w' => r = .returned (.bool (nodeX x)) ∧ Below w.heap.size w w' := by
  have B0 := fun (o : Obj) => hide ((Below.refl _ w).alloc (Nat.le_refl _) o)
  have N0 := fun (o : Obj) => hide (heap_new w o)
  have X := fun (o : Obj) => hide (small_any _ _ _ (hc.s.on (B0 o).out))
  have Y := fun (W : World) (b : Below w.heap.size w W) => hide (setRight_any _ _ _ (hc.s.on b))
  have E : Hid (nodeX x = (decide (0 ≤ c.t ∧ c.t ≤ 3 ∧ c.n = 0) && (rightSet x.set && smallB x.set))) := hide (by
    unfold nodeX
    rw [if_pos (by rw [← hc.k, hk]), hc.t, hc.n])
  have big := hc.big
  have room := hc.room
  generalize nodeX x = R at E ⊢
  obtain ⟨ck, ct, cs, cp, cn, cc⟩ := c
  dsimp only at hk E big room
  subst hk
  clear hc
  unfold SC.val at X Y
  unfold EC.val
  dsimp only at X Y ⊢
  by_cases h0 : 0 ≤ ct
  · by_cases h3 : ct ≤ 3
    · have h4 : decide (ct < 4) = true := decide_eq_true (by omega)
      cases hs : smallB x.set
      · have E2 : Hid (R = false) := hide (by rw [E.out, hs]; simp)
        have hs' : (decide (x.set.ints.length ≤ 6) && decide (x.set.strs.length ≤ 6)) = false := hs
        rw [hs'] at X
        clear Y E
        go_enter Tryz.func63, Tryz.ntmps63
        go_wp2_with fail
        refine (unhide (X _)).mono ?_
        rintro r w1 ⟨rfl, b1⟩
        have B1 := hide ((B0 _).out.trans (b1.mono (B0 _).out.size))
        clear X B0 b1 N0
        go_wp2
        go_ret
        exact ⟨ret_bool E2.out.symm, B1.out⟩
      · have hs' : (decide (x.set.ints.length ≤ 6) && decide (x.set.strs.length ≤ 6)) = true := hs
        rw [hs'] at X
        cases hr : rightSet x.set
        · have E2 : Hid (R = false) := hide (by rw [E.out, hr]; simp)
          rw [hr] at Y
          clear E
          go_enter Tryz.func63, Tryz.ntmps63
          go_wp2_with fail
          refine (unhide (X _)).mono ?_
          rintro r w1 ⟨rfl, b1⟩
          have B1 := hide ((B0 _).out.trans (b1.mono (B0 _).out.size))
          obtain ⟨c0, c1, c2, c3, c4, c5, c6⟩ := ecCells1 ((b1.block w.heap.size (by simp)).trans (N0 _).out)
          have Y1 := Y _ B1.out
          clear X B0 b1 N0 Y
          go_wp2_with fail
          refine (unhide Y1).mono ?_
          rintro r w2 ⟨rfl, b2⟩
          have B2 := hide (B1.out.trans (b2.mono B1.out.size))
          clear Y1 b2 B1 c0 c1 c2 c3 c4 c5 c6
          go_wp2
          go_ret
          exact ⟨ret_bool E2.out.symm, B2.out⟩
        · have E2 : Hid (R = decide (cn = 0)) := hide (by rw [E.out, hr, hs]; simp [h0, h3])
          rw [hr] at Y
          clear E
          go_enter Tryz.func63, Tryz.ntmps63
          go_wp2_with fail
          refine (unhide (X _)).mono ?_
          rintro r w1 ⟨rfl, b1⟩
          have B1 := hide ((B0 _).out.trans (b1.mono (B0 _).out.size))
          have E1 := hide ((b1.block w.heap.size (by simp)).trans (N0 _).out)
          obtain ⟨c0, c1, c2, c3, c4, c5, c6⟩ := ecCells1 E1.out
          have Y1 := Y _ B1.out
          clear X B0 b1 N0 Y
          go_wp2_with fail
          refine (unhide Y1).mono ?_
          rintro r w2 ⟨rfl, b2⟩
          have B2 := hide (B1.out.trans (b2.mono B1.out.size))
          clear c0 c1 c2 c3 c4 c5 c6
          obtain ⟨c0, c1, c2, c3, c4, c5, c6⟩ := ecCells1 ((b2.block w.heap.size (lt_heap E1.out)).trans E1.out)
          clear Y1 b2 B1
          go_wp2
          go_ret
          exact ⟨ret_bool (by rw [E2.out]; by_cases hz : cn = 0 <;> simp [hz]), B2.out⟩
    · have h4 : decide (ct < 4) = false := decide_eq_false (by omega)
      have E2 : Hid (R = false) := hide (by rw [E.out]; simp; intro _ h; omega)
      clear X Y E
      go_enter Tryz.func63, Tryz.ntmps63
      go_wp2
      go_ret
      exact ⟨ret_bool E2.out.symm, (B0 _).out⟩
  · have h4 : decide (0 ≤ ct) = false := decide_eq_false h0
    have E2 : Hid (R = false) := hide (by rw [E.out]; simp; intro h; omega)
    clear X Y E
    go_enter Tryz.func63, Tryz.ntmps63
    go_wp2
    go_ret
    exact ⟨ret_bool E2.out.symm, (B0 _).out⟩

set_option maxHeartbeats 4000000 in
set_option maxRecDepth 100000 in
theorem rightPart_any (c : EC) (x : ExV) (w : World) (hc : EcFor w c x) :
    Calls Tryz.prog 63 #[c.val] w fun r w' => r = .returned (.bool (nodeX x)) ∧ Below w.heap.size w w' := by
  by_cases k1 : c.k = 1
  · exact rightPart_atom c x w hc k1
  have B0 := fun (o : Obj) => hide ((Below.refl _ w).alloc (Nat.le_refl _) o)
  have N0 := fun (o : Obj) => hide (heap_new w o)
  have X := fun (o : Obj) => hide (asksNothing_any c x _ (hc.on (B0 o).out))
  have big := hc.big
  have room := hc.room
  have hn := hc.n
  have hkk := hc.k
  have e1 : (c.k == 1) = false := by simpa using k1
  unfold EC.val at X
  by_cases k23 : c.k = 2 ∨ c.k = 3
  · have E : Hid (nodeX x = (decide (x.attr = 0) && sameB x.set noSet)) := hide (by
      unfold nodeX
      rw [if_neg (by rw [← hkk]; exact k1), if_pos (by rw [← hkk]; omega), show decide (x.kind = 4 → x.sub.length = 1) = true from decide_eq_true (fun h => absurd h (by rw [← hkk]; omega)), Bool.and_true])
    generalize nodeX x = R at E ⊢
    generalize (decide (x.attr = 0) && sameB x.set noSet) = Q at E X
    rcases k23 with k2 | k3
    · have e2 : (c.k == 2) = true := by rw [k2]; rfl
      clear k1 k2 hkk hn hc
      unfold EC.val
      go_enter Tryz.func63, Tryz.ntmps63
      go_wp2_with fail
      refine (unhide (X _)).mono ?_
      rintro r w1 ⟨rfl, b1⟩
      have B1 := hide ((B0 _).out.trans (b1.mono (B0 _).out.size))
      clear X B0 b1 N0
      go_wp2
      go_ret
      exact ⟨ret_bool E.out.symm, B1.out⟩
    · have e2 : (c.k == 2) = false := by rw [k3]; rfl
      have e3 : (c.k == 3) = true := by rw [k3]; rfl
      clear k1 k3 hkk hn hc
      unfold EC.val
      go_enter Tryz.func63, Tryz.ntmps63
      go_wp2_with fail
      refine (unhide (X _)).mono ?_
      rintro r w1 ⟨rfl, b1⟩
      have B1 := hide ((B0 _).out.trans (b1.mono (B0 _).out.size))
      clear X B0 b1 N0
      go_wp2
      go_ret
      exact ⟨ret_bool E.out.symm, B1.out⟩
  · have e2 : (c.k == 2) = false := by simp; omega
    have e3 : (c.k == 3) = false := by simp; omega
    by_cases k4 : c.k = 4
    · have e4 : (c.k == 4) = true := by rw [k4]; rfl
      have E : Hid (nodeX x = ((decide (x.attr = 0) && sameB x.set noSet) && decide (c.n = 1))) := hide (by
        unfold nodeX
        rw [if_neg (by rw [← hkk]; exact k1), if_pos (by rw [← hkk]; omega), hn]
        congr 1
        exact decide_eq_decide.2 ⟨fun h => h (by rw [← hkk]; exact k4), fun h _ => h⟩)
      generalize nodeX x = R at E ⊢
      cases hq : (decide (x.attr = 0) && sameB x.set noSet)
      · rw [hq] at X
        have E2 : Hid (R = false) := hide (by rw [E.out, hq]; rfl)
        clear k1 k4 k23 hkk hn hc E
        unfold EC.val
        go_enter Tryz.func63, Tryz.ntmps63
        go_wp2_with fail
        refine (unhide (X _)).mono ?_
        rintro r w1 ⟨rfl, b1⟩
        have B1 := hide ((B0 _).out.trans (b1.mono (B0 _).out.size))
        clear X B0 b1 N0
        go_wp2
        go_ret
        exact ⟨ret_bool E2.out.symm, B1.out⟩
      · rw [hq] at X
        have E2 : Hid (R = decide (c.n = 1)) := hide (by rw [E.out, hq]; rfl)
        clear k1 k4 k23 hkk hn hc E
        unfold EC.val
        go_enter Tryz.func63, Tryz.ntmps63
        go_wp2_with fail
        refine (unhide (X _)).mono ?_
        rintro r w1 ⟨rfl, b1⟩
        have B1 := hide ((B0 _).out.trans (b1.mono (B0 _).out.size))
        obtain ⟨c0, c1, c2, c3, c4, c5, c6⟩ := ecCells1 ((b1.block w.heap.size (by simp)).trans (N0 _).out)
        clear X B0 b1 N0
        go_wp2
        go_ret
        exact ⟨ret_bool (by rw [E2.out]; by_cases hz : c.n = 1 <;> simp [hz] <;> omega), B1.out⟩
    · have e4 : (c.k == 4) = false := by simpa using k4
      have E2 : Hid (nodeX x = false) := hide (by
        unfold nodeX
        rw [if_neg (by rw [← hkk]; exact k1), if_neg (by rw [← hkk]; omega)])
      generalize nodeX x = R at E2 ⊢
      clear k1 k4 k23 hkk hn hc X
      unfold EC.val
      go_enter Tryz.func63, Tryz.ntmps63
      go_wp2
      go_ret
      exact ⟨ret_bool E2.out.symm, (B0 _).out⟩
end Go.Proofs.YtlfhpocfacaaeaaGreat
/-
  The program's Right.
-/
set_option linter.unusedSimpArgs false
set_option linter.unusedVariables false
namespace Go.Proofs.YtlfhpocfacaaeaaGreat
open Go.RowKit Go.Shelf
attribute [local go_sem] Oper.semAt_some

def cellsOf (c : EC) : Obj := Obj.cells #[.int .i64 c.k, .int .i64 c.t, .bool c.s.a, .slice c.s.p c.s.n c.s.c, .bool c.s.d, .slice c.s.q c.s.m c.s.e, .slice c.p c.n c.c] 28 (0, 0)
/-- Right's answer. -/
def rightP (l : List (Int × ExV)) : Bool := !(decide ((sizeP l).1 = 0)) && l.all fun y => nodeX y.2
theorem size_any (k : Nat) (c : EC) (x : ExV) (w : World) (hx : ExAt k w c.val x) (hk : k ≤ 1000) :
    Calls Tryz.prog 61 #[c.val] w fun e w' => e = .returned (.tuple #[.int .i64 (sizeP (partsX k 0 x)).1, .int .i64 (sizeP (partsX k 0 x)).2]) ∧ Below w.heap.size w w' :=
  (callsIn_wide (n := 3)).1 (size_in Fence.wide rfl 3 trivial trivial trivial trivial rfl (by omega) k c x w hx hk)

set_option maxRecDepth 100000 in
set_option maxHeartbeats 4000000 in
theorem right_any (k : Nat) (c : EC) (x : ExV) (w : World) (hx : ExAt k w c.val x) (hk : k ≤ 1000) :
    Calls Tryz.prog 34 #[c.val] w fun e w' => e = .returned (.bool (rightP (partsX k 0 x))) ∧ Below w.heap.size w w' := by
  refine (callsIn_wide (n := 5)).1 ?_
  have HX := hide hx
  obtain ⟨R, hR⟩ : ∃ R, R = rightP (partsX k 0 x) := ⟨_, rfl⟩
  rw [← hR]
  have HR := hide hR
  have B0 := fun (o : Obj) => hide ((Below.refl _ w).alloc (Nat.le_refl _) o)
  have X := fun (W : World) (b : Below w.heap.size w W) => hide (callsIn_wide (n := 5 - 1).2 (size_any k c x W (ExAt.on b _ hx) hk))
  clear hx hR
  refine callsIn_of_wp_marks Tryz.func34 rfl trivial ?_ rfl
  simp only [Tryz.ntmps34, List.size_toArray, List.length_cons, List.length_nil, Nat.reduceAdd, Nat.reduceSub, Array.replicate_succ, Array.replicate_zero, List.push_toArray, List.append_toArray, List.nil_append, List.cons_append]
  unfold EC.val at X ⊢
  gi_wp2
  have o1 := Own1.new (w.alloc (Obj.cells #[.int .i64 c.k, .int .i64 c.t, .bool c.s.a, .slice c.s.p c.s.n c.s.c, .bool c.s.d, .slice c.s.q c.s.m c.s.e, .slice c.p c.n c.c] 28 (0, 0))) (.bool false) 4
  have hE := (Below.heap_alloc (w.alloc (Obj.cells #[.int .i64 c.k, .int .i64 c.t, .bool c.s.a, .slice c.s.p c.s.n c.s.c, .bool c.s.d, .slice c.s.q c.s.m c.s.e, .slice c.p c.n c.c] 28 (0, 0))) (Obj.cells #[.bool false] 4) w.heap.size (by simp)).trans (heap_new w _)
  have hBA := ((Below.refl _ w).alloc (Nat.le_refl _) (Obj.cells #[.int .i64 c.k, .int .i64 c.t, .bool c.s.a, .slice c.s.p c.s.n c.s.c, .bool c.s.d, .slice c.s.q c.s.m c.s.e, .slice c.p c.n c.c] 28 (0, 0))).alloc (by simp) (Obj.cells #[.bool false] 4)
  simp only [World.size_alloc] at o1
  have hzA : ((w.alloc (Obj.cells #[.int .i64 c.k, .int .i64 c.t, .bool c.s.a, .slice c.s.p c.s.n c.s.c, .bool c.s.d, .slice c.s.q c.s.m c.s.e, .slice c.p c.n c.c] 28 (0, 0))).alloc (Obj.cells #[.bool false] 4)).heap.size = w.heap.size + 1 + 1 := by simp
  generalize (w.alloc (Obj.cells #[.int .i64 c.k, .int .i64 c.t, .bool c.s.a, .slice c.s.p c.s.n c.s.c, .bool c.s.d, .slice c.s.q c.s.m c.s.e, .slice c.p c.n c.c] 28 (0, 0))).alloc (Obj.cells #[.bool false] 4) = wA at *
  refine ⟨trivial, ?_⟩
  refine (unhide (X _ hBA)).mono ?_
  rintro e wB ⟨rfl, bB⟩
  have oB : Own1 wB (w.heap.size + 1) (.bool false) := ⟨(bB.cell (p := ⟨_, _, none⟩) (by rw [hzA]; simp)).trans o1.cell, (bB.frozen (p := ⟨_, _, none⟩) (by rw [hzA]; simp)).trans o1.soft⟩
  have hEB := (bB.block w.heap.size (by omega)).trans hE
  have hBB := hBA.trans (bB.mono hBA.size)
  have hzB : w.heap.size + 1 + 1 ≤ wB.heap.size := by have := bB.size; omega
  obtain ⟨c0, c1, c2, c3, c4, c5, c6⟩ := ecCells1 hEB
  clear X B0 bB hE hBA o1 hzA hEB
  obtain ⟨P, hP⟩ : ∃ P, P = partsX k 0 x := ⟨_, rfl⟩
  have HP := hide hP
  rw [← hP] at HR ⊢
  clear hP
  obtain ⟨oc, of⟩ := id oB
  have HOB := hide oB
  have HBB := hide hBB
  clear oB hBB
  by_cases hz : (sizeP P).1 = 0
  · have hz' : ((sizeP P).1 == 0) = true := by rw [hz]; rfl
    have E : Hid (R = false) := hide (by rw [HR.out]; unfold rightP; rw [decide_eq_true hz]; rfl)
    have q1 := hide (HOB.out.set (.bool false))
    have b1 := hide (HBB.out.setCell (p := ⟨w.heap.size + 1, 0, none⟩) (by simp) (.bool false))
    generalize (sizeP P).1 = s1 at *
    generalize (sizeP P).2 = s2 at *
    clear hz HR HP
    gi_wp2
    refine ⟨.bool false, ?_, by rw [E.out], b1.out⟩
    simp [results, Tryz.f34, go_sem, q1.out.cell]
  · have hz' : ((sizeP P).1 == 0) = false := by simpa using hz
    have E : Hid (R = P.all fun y => nodeX y.2) := hide (by rw [HR.out]; unfold rightP; rw [decide_eq_false hz]; rfl)
    generalize (sizeP P).1 = s1 at *
    generalize (sizeP P).2 = s2 at *
    clear hz HR
    have Y := fun (W : World) => hide (each_in Fence.wide (5 - 1) trivial rfl c W)
    unfold EC.val at Y
    gi_wp2
    refine ⟨trivial, ?_⟩
    refine (unhide (Y wB)).mono ?_
    rintro e wC ⟨rfl, hwC⟩
    have hEC := heap_new wB (cellsOf c)
    have oC := HOB.out.alloc (cellsOf c)
    have hBC := HBB.out.alloc HBB.out.size (cellsOf c)
    have hzC : (wB.alloc (cellsOf c)).heap.size = wB.heap.size + 1 := by simp
    rw [show wB.alloc (cellsOf c) = wC from hwC.symm] at hEC oC hBC hzC
    have hfor := fun (m : Nat) (d : EC) (y : ExV) (W : World) (b : Below w.heap.size w W) (h : ExAt m w d.val y) => (show EcFor W d y by
      obtain ⟨m', rfl⟩ := h.pos
      obtain ⟨d', hv, hd, _⟩ := h
      obtain rfl := ec_inj hv
      exact hd.on b)
    have HFOR := hide hfor
    clear hwC Y HOB c0 c1 c2 c3 c4 c5 c6 oc of hfor
    gi_wp2
    refine wpIn_rangeFunc_ownH (α := PartOf w) (w := wC) rfl (by omega) (gf := 99) (lb := #[.pointer (some ⟨wB.heap.size, 0, none⟩)]) rfl trivial (enters_of Tryz.func99 (by kernel_rfl) rfl)
      (each_stops Fence.wide rfl (5 - 1) trivial trivial rfl wB.heap.size w wC k c x HX.out hk hBC (by omega) hEC) Kp2.trans (Kp2.turn hBC.size) (Below.refl _ _) (fun _ => rfl)
      (fun pre W => (Own1 W (w.heap.size + 1) (.bool false) ∧ ∀ y ∈ pre, nodeX (plainOf y).2 = true) ∧ Below w.heap.size w W)
      (fun c pre W => (c = .ret ∧ Own1 W (w.heap.size + 1) (.bool false) ∧ ∃ y ∈ pre, nodeX (plainOf y).2 = false) ∧ Below w.heap.size w W)
      (OwnFrom.and (Own.from (fun s A B row hs hg hr => ⟨hs.1.kept hg hr, hs.2⟩) _) (ownFrom_below (Nat.le_refl _) hBC.size))
      (fun c => OwnFrom.and (Own.from (fun s A B row hs hg hr => ⟨hs.1, hs.2.1.kept hg hr, hs.2.2⟩) _) (ownFrom_below (Nat.le_refl _) hBC.size))
      ⟨⟨oC, fun y hy => by cases hy⟩, hBC⟩
      (fun y a' W => ∃ bx, W.heap[bx]? = some (cellsOf y.1.2.1) ∧ a' = { tmps := #[.agg #[.int .i64 c.k, .int .i64 c.t, .bool c.s.a, .slice c.s.p c.s.n c.s.c, .bool c.s.d, .slice c.s.q c.s.m c.s.e, .slice c.p c.n c.c], .pointer (some ⟨w.heap.size, 0, none⟩), .pointer (some ⟨w.heap.size + 1, 0, none⟩), .int .i64 s1, .int .i64 s2, undef, .pointer (some ⟨bx, 0, none⟩), .tuple #[.int .i64 s1, .int .i64 s2], .agg #[.int .i64 c.k, .int .i64 c.t, .bool c.s.a, .slice c.s.p c.s.n c.s.c, .bool c.s.d, .slice c.s.q c.s.m c.s.e, .slice c.p c.n c.c], .tuple #[.int .i64 s1, .int .i64 s2], .int .i64 s1, .int .i64 s2, .int .i64 s1, .bool false, .agg #[.int .i64 c.k, .int .i64 c.t, .bool c.s.a, .slice c.s.p c.s.n c.s.c, .bool c.s.d, .slice c.s.q c.s.m c.s.e, .slice c.p c.n c.c], .func (.func 99) #[] #[.pointer (some ⟨wB.heap.size, 0, none⟩)], .int .i64 y.1.1, y.1.2.1.val, undef, undef, undef], defers := [] })
      (fun y a' => fun s A B row hs hg hr => by
        obtain ⟨bx, hbx, ha⟩ := hs
        refine ⟨bx, (hg.block bx (Array.getElem?_eq_some_iff.1 hbx).1 (fun e => ?_)).trans hbx, ha⟩
        obtain ⟨_, o, ho, hc⟩ := hr bx e.symm
        rw [hbx] at ho
        cases ho
        cases hc) ?assign ?body ?done ?stop
    case assign =>
      rintro l pre ⟨⟨yd, yc, yx⟩, hy⟩ W K ⟨⟨p1, hall⟩, hB⟩ hK
      have hK1 := fun a' => hK a' (W.alloc (cellsOf yc)) ((KeepsOthers.alloc _ _).from _) (Kp2.ofBelow hB.size ((Below.refl _ W).alloc (Nat.le_refl _) _)) ⟨⟨p1.alloc _, hall⟩, hB.alloc hB.size _⟩
      have hN := heap_new W (cellsOf yc)
      have hK2 := hide (hK1 _ ⟨W.heap.size, hN, rfl⟩)
      clear hK hK1 hN
      unfold cellsOf at hK2
      dsimp only at hK2
      unfold encOf EC.val at *
      dsimp only
      gi_wp2
      exact hK2.out
    case body =>
      rintro l pre ⟨⟨yd, yc, yx⟩, hy⟩ a' W hl hr ⟨⟨p1, hall⟩, hB⟩ ⟨bx, hbx, rfl⟩ hlt
      have hall' : ∀ y ∈ pre ++ [(⟨(yd, yc, yx), hy⟩ : PartOf w)], nodeX (plainOf y).2 = true ∨ (plainOf y).2 = yx := fun y hy' => by
        rcases List.mem_append.1 hy' with h | h
        · exact .inl (hall y h)
        · simp only [List.mem_singleton] at h
          subst h
          exact .inr rfl
      have hin : ∃ y ∈ pre ++ [(⟨(yd, yc, yx), hy⟩ : PartOf w)], (plainOf y).2 = yx := ⟨⟨(yd, yc, yx), hy⟩, List.mem_append.2 (.inr (List.mem_singleton.2 rfl)), rfl⟩
      obtain ⟨m, hm, hex⟩ := hy.2.2
      have Z := hide (CallsIn.inRound l (callsIn_wide (n := 5 - 1 - 1 - 1).2 (rightPart_any yc yx W (HFOR.out m yc yx W hB hex))))
      obtain ⟨d0, d1, d2, d3, d4, d5, d6⟩ := ecCells1 hbx
      have HB := hide hB
      have P1 := hide p1
      have HA := hide hall'
      have HI := hide hin
      generalize pre ++ [(⟨(yd, yc, yx), hy⟩ : PartOf w)] = pre1 at *
      clear hex hB p1 hall hall' hin HFOR hbx hlt hr hEC oC HX
      unfold EC.val at Z ⊢
      dsimp only
      cases hq : nodeX yx
      · rw [hq] at Z
        gi_wp2
        refine ⟨trivial, ?_⟩
        refine (unhide Z).mono ?_
        rintro e W1 ⟨rfl, bW⟩
        have ko : KeepsOthers W W1 := ⟨bW.size, fun j o h _ => (bW.block j (Array.getElem?_eq_some_iff.1 h).1).trans h⟩
        have kp : Kp2 w.heap.size wC.heap.size W W1 := Kp2.ofBelow HB.out.size bW
        have hl1 : w.heap.size + 1 < W.heap.size := lt_cell (a := ⟨w.heap.size + 1, 0, none⟩) P1.out.cell
        have p2 : Own1 W1 (w.heap.size + 1) (.bool false) := ⟨(bW.cell (p := ⟨_, _, none⟩) hl1).trans P1.out.cell, (bW.frozen (p := ⟨_, _, none⟩) hl1).trans P1.out.soft⟩
        have B1 := hide (HB.out.trans (bW.mono HB.out.size))
        have KO := hide ko
        have KP := hide kp
        have P2 := hide p2
        obtain ⟨pc, pf⟩ := p2
        clear Z d0 d1 d2 d3 d4 d5 d6 ko kp bW P1 HB
        gi_wp2
        obtain ⟨y, hy1, hy2⟩ := HI.out
        exact ⟨(KO.out.trans (KeepsOthers.setCell _ _ _)).from _, ⟨rfl, P2.out.set _, y, hy1, by rw [hy2]; exact hq⟩, B1.out.setCell (p := ⟨w.heap.size + 1, 0, none⟩) (by simp) _⟩
      · rw [hq] at Z
        gi_wp2
        refine ⟨trivial, ?_⟩
        refine (unhide Z).mono ?_
        rintro e W1 ⟨rfl, bW⟩
        have ko : KeepsOthers W W1 := ⟨bW.size, fun j o h _ => (bW.block j (Array.getElem?_eq_some_iff.1 h).1).trans h⟩
        have kp : Kp2 w.heap.size wC.heap.size W W1 := Kp2.ofBelow HB.out.size bW
        have hl1 : w.heap.size + 1 < W.heap.size := lt_cell (a := ⟨w.heap.size + 1, 0, none⟩) P1.out.cell
        have p2 : Own1 W1 (w.heap.size + 1) (.bool false) := ⟨(bW.cell (p := ⟨_, _, none⟩) hl1).trans P1.out.cell, (bW.frozen (p := ⟨_, _, none⟩) hl1).trans P1.out.soft⟩
        have B1 := hide (HB.out.trans (bW.mono HB.out.size))
        have KO := hide ko
        have KP := hide kp
        have P2 := hide p2
        obtain ⟨pc, pf⟩ := p2
        clear Z d0 d1 d2 d3 d4 d5 d6 ko kp bW P1 HB
        gi_wp2
        exact ⟨KO.out.from _, KP.out, ⟨P2.out, fun y hy => (HA.out y hy).elim id (fun e => by rw [e]; exact hq)⟩, B1.out⟩
    case done =>
      rintro D ys W hD hS ⟨⟨p1, hall⟩, hB⟩ hK
      have E2 : Hid (R = true) := hide (by
        rw [E.out, HP.out, ← hS, List.all_eq_true]
        intro z hz
        obtain ⟨y, hy, rfl⟩ := List.mem_map.1 hz
        exact hall y hy)
      have q1 := p1.set (.bool true)
      have hK2 := (KeepsOthers.setCell W ⟨w.heap.size + 1, 0, none⟩ (.bool true)).same D _ hK rfl
      have hB2 := hB.setCell (p := ⟨w.heap.size + 1, 0, none⟩) (by simp) (.bool true)
      have Q1 := hide q1
      have K2 := hide hK2
      have B2 := hide hB2
      obtain ⟨pc, pf⟩ := p1
      clear q1 hK2 hB2 hK hB hall hS hEC oC HX HFOR
      gi_wp2
      refine ⟨by simp, .inl ⟨_, _, rfl, run_takeDeferred K2.out, ?_⟩⟩
      have y1 := Q1.out.kept (grownBy_putObj' _ D (.deferred none)) (fun r e => by cases e; exact ⟨_, K2.out, rfl⟩)
      refine ⟨.bool true, ?_, by rw [E2.out], B2.out.trans (belowK_b (w := w) (Nat.le_refl _) _ D _ _ (by have := hBC.size; omega) K2.out rfl rfl)⟩
      simp [results, Tryz.f34, go_sem, y1.cell]
    case stop =>
      rintro D c' pre W hD hS ⟨⟨rfl, p1, y, hy, hq⟩, hB⟩ hK
      have E2 : Hid (R = false) := hide (by
        rw [E.out, HP.out, List.all_eq_false]
        exact ⟨_, hS.subset (List.mem_map_of_mem hy), by rw [hq]; simp⟩)
      clear hS hEC oC HX HFOR hy hq
      gi_wp2
      refine ⟨by simp, .inl ⟨_, _, rfl, run_takeDeferred hK, ?_⟩⟩
      have y1 := p1.kept (grownBy_putObj' _ D (.deferred none)) (fun r e => by cases e; exact ⟨_, hK, rfl⟩)
      refine ⟨.bool false, ?_, by rw [E2.out], hB.trans (belowK_b (w := w) (Nat.le_refl _) W D _ _ (by have := hBC.size; omega) hK rfl rfl)⟩
      simp [results, Tryz.f34, go_sem, y1.cell]
end Go.Proofs.YtlfhpocfacaaeaaGreat
/-
  Plain mathematics: the parts of an expression, one behind the other, against the reference's counts.
-/
set_option linter.unusedSimpArgs false
set_option linter.unusedVariables false
namespace Go.Proofs.YtlfhpocfacaaeaaGreat

def sizeX : Nat → ExV → Nat
  | 0, _ => 0
  | k + 1, x => 1 + (x.sub.map (sizeX k)).sum
def depthX : Nat → ExV → Int
  | 0, _ => 0
  | k + 1, x => x.sub.foldl (fun m y => max m (depthX k y)) 0 + 1
theorem parts_len : ∀ (k : Nat) (D : Int) (x : ExV), (partsX k D x).length = sizeX k x
  | 0, _, _ => rfl
  | k + 1, D, x => by
    unfold partsX sizeX
    rw [List.length_cons, List.length_flatMap, show (List.map (fun a => (partsX k (D + 1) a).length) x.sub) = x.sub.map (sizeX k) from List.map_congr_left fun y _ => parts_len k (D + 1) y]
    omega
theorem foldl_max_init {α : Type} (h : α → Int) : ∀ (l : List α) (a b : Int), max a (l.foldl (fun m y => max m (h y)) b) = l.foldl (fun m y => max m (h y)) (max a b)
  | [], a, b => rfl
  | y :: l, a, b => by
    rw [List.foldl_cons, List.foldl_cons, foldl_max_init h l]
    congr 1
    omega
theorem foldl_max_shift {α : Type} (g : α → Int) (c : Int) : ∀ (l : List α) (m : Int), l.foldl (fun m y => max m (c + g y)) (c + m) = c + l.foldl (fun m y => max m (g y)) m
  | [], m => rfl
  | y :: l, m => by
    rw [List.foldl_cons, List.foldl_cons, show max (c + m) (c + g y) = c + max m (g y) by omega, foldl_max_shift g c l]
theorem foldl_max_congr {α : Type} (g h : α → Int) : ∀ (l : List α) (m : Int), (∀ y ∈ l, g y = h y) → l.foldl (fun m y => max m (g y)) m = l.foldl (fun m y => max m (h y)) m
  | [], m, _ => rfl
  | y :: l, m, H => by
    rw [List.foldl_cons, List.foldl_cons, H y (by simp), foldl_max_congr g h l _ fun z hz => H z (by simp [hz])]
theorem tallD_append (a b : List (Int × ExV)) : tallD (a ++ b) = max (tallD a) (tallD b) := by
  unfold tallD
  rw [List.foldl_append, foldl_max_init (fun y : Int × ExV => y.1 + 1)]
  congr 1
  have := tallD_nonneg a
  unfold tallD at this
  omega
theorem tallD_flat (g : ExV → List (Int × ExV)) : ∀ (l : List ExV), tallD (l.flatMap g) = l.foldl (fun m y => max m (tallD (g y))) 0
  | [] => rfl
  | y :: l => by
    rw [List.flatMap_cons, tallD_append, tallD_flat g l, List.foldl_cons, foldl_max_init (fun y => tallD (g y))]
    congr 1
    have := tallD_nonneg (g y)
    omega
theorem parts_tall : ∀ (k : Nat) (D : Int) (x : ExV), 0 ≤ D → tallD (partsX (k + 1) D x) = D + depthX (k + 1) x
  | 0, D, x, hD => by
    unfold partsX depthX
    have : ∀ l : List ExV, l.foldl (fun (m : Int) (y : ExV) => max m (depthX 0 y)) 0 = 0 := by
      intro l
      induction l with
      | nil => rfl
      | cons y l ih => exact ih
    rw [show (x.sub.flatMap (partsX 0 (D + 1))) = [] by simp [partsX], this]
    simp [tallD]
    omega
  | k + 1, D, x, hD => by
    rw [show partsX (k + 1 + 1) D x = [(D, x)] ++ x.sub.flatMap (partsX (k + 1) (D + 1)) from rfl, tallD_append, tallD_flat, foldl_max_congr _ (fun y => (D + 1) + depthX (k + 1) y) x.sub 0 (fun y _ => parts_tall k (D + 1) y (by omega)), foldl_max_init,
      show max (tallD [(D, x)]) 0 = (D + 1) + 0 by simp [tallD]; omega, foldl_max_shift]
    rw [show depthX (k + 1 + 1) x = x.sub.foldl (fun m y => max m (depthX (k + 1) y)) 0 + 1 from rfl]
    omega
theorem sizeX_fuel : ∀ (n m : Nat) (x : ExV), lowX n x → n ≤ m → sizeX m x = sizeX n x
  | 0, _, _, h, _ => by cases h
  | n + 1, m, x, h, hm => by
    obtain ⟨k, rfl⟩ : ∃ k, m = k + 1 := ⟨m - 1, by omega⟩
    unfold sizeX
    rw [List.map_congr_left fun y hy => sizeX_fuel n k y (h y hy) (by omega)]
theorem depthX_fuel : ∀ (n m : Nat) (x : ExV), lowX n x → n ≤ m → depthX m x = depthX n x
  | 0, _, _, h, _ => by cases h
  | n + 1, m, x, h, hm => by
    obtain ⟨k, rfl⟩ : ∃ k, m = k + 1 := ⟨m - 1, by omega⟩
    unfold depthX
    rw [foldl_max_congr _ _ _ _ fun y hy => depthX_fuel n k y (h y hy) (by omega)]
theorem eachX_fuel : ∀ (n m : Nat) (x : ExV), lowX n x → n ≤ m → eachX m x = eachX n x
  | 0, _, _, h, _ => by cases h
  | n + 1, m, x, h, hm => by
    obtain ⟨k, rfl⟩ : ∃ k, m = k + 1 := ⟨m - 1, by omega⟩
    unfold eachX
    rw [all_congr_mem _ _ _ fun y hy => eachX_fuel n k y (h y hy) (by omega)]
/-- With enough levels on both sides the number of levels does not matter. -/
theorem eachX_any {n m : Nat} {x : ExV} (hn : lowX n x) (hm : lowX m x) : eachX m x = eachX n x := by
  rcases Nat.le_total n m with h | h
  · exact eachX_fuel n m x hn h
  · exact (eachX_fuel m n x hm h).symm
theorem depth_low : ∀ (k m : Nat) (x : ExV), lowX k x → depthX k x ≤ (m : Int) → lowX m x
  | 0, _, _, h, _ => by cases h
  | k + 1, 0, x, _, h => by
    have := foldl_max_ge (depthX k) x.sub 0
    unfold depthX at h
    omega
  | k + 1, m + 1, x, hl, h => fun y hy => by
    have h1 := foldl_max_mem (depthX k) x.sub 0 y hy
    unfold depthX at h
    exact depth_low k m y (hl y hy) (by omega)
theorem count_size : ∀ (f : Nat) (x : ExV), lowX f x → countX f x = min (sizeX f x : Int) 100
  | 0, _, h => by cases h
  | f + 1, x, h => by
    have H : ∀ (l : List ExV), (∀ y ∈ l, lowX f y) → ∀ n : Int, 0 ≤ n → min (l.foldl (fun n y => if n < 100 then n + countX f y else n) n) 100 = min (n + ((l.map (sizeX f)).sum : Int)) 100 := by
      intro l
      induction l with
      | nil => intro _ n _; simp
      | cons y l ih =>
        intro hy n hn
        have h1 := count_size f y (hy y (by simp))
        have h2 := countX_pos f y
        rw [List.foldl_cons, ih (fun z hz => hy z (by simp [hz])) _ (by split <;> omega), List.map_cons, List.sum_cons]
        split
        · rw [h1]
          omega
        · omega
    have := H x.sub h 1 (by omega)
    unfold countX sizeX
    rw [this]
    omega
theorem sub_size {f : Nat} {y : ExV} : ∀ {l : List ExV}, y ∈ l → sizeX f y ≤ (l.map (sizeX f)).sum
  | z :: l, h => by
    rw [List.map_cons, List.sum_cons]
    rcases List.mem_cons.1 h with rfl | h
    · omega
    · have := sub_size (f := f) h
      omega
theorem sizeX_pos {f : Nat} {x : ExV} (h : lowX f x) : 1 ≤ sizeX f x := by
  cases f with
  | zero => cases h
  | succ f => unfold sizeX; omega
theorem sum_len {f : Nat} : ∀ {l : List ExV}, (∀ y ∈ l, lowX f y) → l.length ≤ (l.map (sizeX f)).sum
  | [], _ => by simp
  | z :: l, h => by
    have h1 := sizeX_pos (h z (by simp))
    have h2 := sum_len (f := f) (l := l) fun y hy => h y (by simp [hy])
    rw [List.map_cons, List.sum_cons, List.length_cons]
    omega
theorem deep_depth : ∀ (f : Nat) (x : ExV), lowX f x → sizeX f x < 100 → deepX f x = min (depthX f x) 20
  | 0, _, h, _ => by cases h
  | f + 1, x, h, hs => by
    unfold sizeX at hs
    have hl := sum_len h
    unfold deepX depthX
    rw [List.take_of_length_le (by omega), foldl_max_congr _ (fun y => min (depthX f y) 20) x.sub 0 fun y hy => deep_depth f y (h y hy) (by have := sub_size (f := f) hy; omega)]
    have H : ∀ (l : List ExV) (a b : Int), min a 20 = min b 20 → min (l.foldl (fun m y => max m (min (depthX f y) 20)) a) 20 = min (l.foldl (fun m y => max m (depthX f y)) b) 20 := by
      intro l
      induction l with
      | nil => intro a b h; exact h
      | cons y l ih =>
        intro a b h
        rw [List.foldl_cons, List.foldl_cons]
        exact ih _ _ (by omega)
    have := H x.sub 0 0 rfl
    omega
theorem fits_plain {k : Nat} {x : ExV} (hl : lowX k x) : fitsX x = decide (sizeX k x ≤ 40 ∧ depthX k x ≤ 8) := by
  by_cases h : sizeX k x ≤ 40 ∧ depthX k x ≤ 8
  · rw [decide_eq_true h]
    have l8 : lowX 8 x := depth_low k 8 x hl (by omega)
    have l21 := lowX_mono 8 21 x (by omega) l8
    have e1 : sizeX 21 x = sizeX k x := by
      rcases Nat.le_total k 21 with g | g
      · exact sizeX_fuel k 21 x hl g
      · exact (sizeX_fuel 21 k x l21 g).symm
    have e2 : depthX 21 x = depthX k x := by
      rcases Nat.le_total k 21 with g | g
      · exact depthX_fuel k 21 x hl g
      · exact (depthX_fuel 21 k x l21 g).symm
    unfold fitsX
    rw [count_size 21 x l21, deep_depth 21 x l21 (by omega), e1, e2, Bool.and_eq_true, decide_eq_true_eq, decide_eq_true_eq]
    omega
  · rw [decide_eq_false h]
    cases hf : fitsX x
    · rfl
    · exfalso
      apply h
      have l8 := fits_low hf
      have l21 := lowX_mono 8 21 x (by omega) l8
      unfold fitsX at hf
      rw [Bool.and_eq_true, decide_eq_true_eq, decide_eq_true_eq, count_size 21 x l21] at hf
      have hs : sizeX 21 x ≤ 40 := by omega
      rw [deep_depth 21 x l21 (by omega)] at hf
      have e1 : sizeX 21 x = sizeX k x := by
        rcases Nat.le_total k 21 with g | g
        · exact sizeX_fuel k 21 x hl g
        · exact (sizeX_fuel 21 k x l21 g).symm
      have e2 : depthX 21 x = depthX k x := by
        rcases Nat.le_total k 21 with g | g
        · exact depthX_fuel k 21 x hl g
        · exact (depthX_fuel 21 k x l21 g).symm
      omega
theorem fits_nums {k : Nat} {x : ExV} (hl : lowX k x) (hf : fitsX x = true) : countX 21 x = (sizeX k x : Int) ∧ deepX 21 x = depthX k x := by
  have l8 := fits_low hf
  have l21 := lowX_mono 8 21 x (by omega) l8
  have h := hf
  rw [fits_plain hl, decide_eq_true_eq] at h
  have e1 : sizeX 21 x = sizeX k x := by
    rcases Nat.le_total k 21 with g | g
    · exact sizeX_fuel k 21 x hl g
    · exact (sizeX_fuel 21 k x l21 g).symm
  have e2 : depthX 21 x = depthX k x := by
    rcases Nat.le_total k 21 with g | g
    · exact depthX_fuel k 21 x hl g
    · exact (depthX_fuel 21 k x l21 g).symm
  rw [count_size 21 x l21, deep_depth 21 x l21 (by omega), e1, e2]
  omega
theorem size_plain {k : Nat} {x : ExV} (hl : lowX k x) : sizeP (partsX k 0 x) = if fitsX x then (countX 21 x, deepX 21 x) else (0, 0) := by
  obtain ⟨m, rfl⟩ : ∃ m, k = m + 1 := by
    cases k with
    | zero => cases hl
    | succ m => exact ⟨m, rfl⟩
  unfold sizeP
  rw [parts_len, parts_tall m 0 x (by omega), Int.zero_add]
  have hf := fits_plain hl
  by_cases h : sizeX (m + 1) x ≤ 40 ∧ depthX (m + 1) x ≤ 8
  · rw [decide_eq_true h] at hf
    obtain ⟨e1, e2⟩ := fits_nums hl hf
    rw [if_pos h, hf, if_pos rfl, e1, e2]
  · rw [decide_eq_false h] at hf
    rw [if_neg h, hf, if_neg (by simp)]
theorem parts_each : ∀ (k : Nat) (D : Int) (x : ExV), lowX k x → ((partsX k D x).all fun y => nodeX y.2) = eachX k x
  | 0, _, _, h => by cases h
  | k + 1, D, x, h => by
    unfold partsX eachX
    rw [List.all_cons, List.all_flatMap]
    congr 1
    exact all_congr_mem _ _ _ fun y hy => parts_each k (D + 1) y (h y hy)
theorem right_plain {k : Nat} {x : ExV} (hl : lowX k x) : rightP (partsX k 0 x) = rightX x := by
  unfold rightP rightX
  rw [size_plain hl, parts_each k 0 x hl]
  cases hf : fitsX x
  · rfl
  · have := countX_pos 21 x
    rw [if_pos rfl, decide_eq_false (by dsimp only; omega), eachX_any (fits_low hf) hl]
    rfl
theorem ExAt.shrink {w : World} : ∀ (n m : Nat) {v : Value} {x : ExV}, ExAt n w v x → lowX m x → ExAt m w v x
  | 0, _, _, _, h, _ => by cases h
  | n + 1, 0, v, x, _, h => by cases h
  | n + 1, m + 1, v, x, ⟨c, hv, hc, hs⟩, hl => by
    refine ⟨c, hv, hc, fun i hi => ?_⟩
    obtain ⟨g, off, d, hp, hg, hd, hx⟩ := hs i hi
    exact ⟨g, off, d, hp, hg, hd, ExAt.shrink n m hx (hl _ (getD_mem hi))⟩
end Go.Proofs.YtlfhpocfacaaeaaGreat
/-
  The program's set: slices.BinarySearch of strings; hasString.
-/
set_option linter.unusedSimpArgs false
set_option linter.unusedVariables false
namespace Go.Proofs.YtlfhpocfacaaeaaGreat
open Go.RowKit

set_option maxHeartbeats 400000 in
theorem nanC_any (s : ByteArray) (w : World) : Calls Tryz.prog 141 #[.string s] w fun e w' => e = .returned (.bool false) ∧ w' = w := by
  have h : (s.toList != s.toList) = false := by simp
  go_enter Tryz.func141, Tryz.ntmps141
  go_wp2
  go_ret
  exact ⟨ret_bool (by simp), rfl⟩
set_option maxHeartbeats 400000 in
theorem nanS_any (s : ByteArray) (w : World) : Calls Tryz.prog 137 #[.string s] w fun e w' => e = .returned (.bool false) ∧ w' = w := by
  have h : (s.toList != s.toList) = false := by simp
  go_enter Tryz.func137, Tryz.ntmps137
  go_wp2
  go_ret
  exact ⟨ret_bool (by simp), rfl⟩
set_option maxHeartbeats 400000 in
theorem lessC_any (a b : ByteArray) (w : World) : Calls Tryz.prog 136 #[.string a, .string b] w fun e w' => e = .returned (.bool (Op.bytesLess a.toList b.toList)) ∧ w' = w := by
  have X := hide (nanC_any a w)
  go_enter Tryz.func136, Tryz.ntmps136
  go_wp2_with fail
  refine (unhide X).mono ?_
  rintro r w1 ⟨rfl, rfl⟩
  go_wp2
  go_ret
  exact ⟨rfl, rfl⟩
theorem risesS_at : ∀ (l : List St) (i j : Nat), risesS l → i < j → j < l.length → Op.bytesLess (l.getD i []) (l.getD j []) = true
  | [], i, j, _, _, h => by simp at h
  | a :: l, 0, 0, _, h, _ => by omega
  | a :: l, 0, j + 1, h, _, hj => by
    have hj' : j < l.length := by simpa using hj
    simp only [List.getD_cons_zero, List.getD_cons_succ]
    refine h.1 _ ?_
    rw [List.getD_eq_getElem?_getD, List.getElem?_eq_getElem hj']
    exact List.getElem_mem _
  | a :: l, i + 1, 0, _, h, _ => by omega
  | a :: l, i + 1, j + 1, h, hij, hj => by
    simp only [List.getD_cons_succ]
    exact risesS_at l i j h.2 (by omega) (by simpa using hj)
theorem getD_map_toList (l : List ByteArray) (i : Nat) (hi : i < l.length) : (l.map fun b => b.toList).getD i [] = (l.getD i ⟨#[]⟩).toList := by
  simp [List.getD_eq_getElem?_getD, hi]
/-- Where the search has come to. -/
structure Sought (l : List ByteArray) (s : ByteArray) (i j : Nat) : Prop where
  le : i ≤ j
  top : j ≤ l.length
  low : ∀ k, k < i → Op.bytesLess (l.getD k ⟨#[]⟩).toList s.toList = true
  high : ∀ k, j ≤ k → k < l.length → Op.bytesLess (l.getD k ⟨#[]⟩).toList s.toList = false
theorem sought_start (l : List ByteArray) (s : ByteArray) : Sought l s 0 l.length := ⟨Nat.zero_le _, Nat.le_refl _, fun k h => by omega, fun k h1 h2 => by omega⟩
theorem rises_lt {l : List ByteArray} (h : risesS (l.map fun b => b.toList)) {i j : Nat} (hij : i < j) (hj : j < l.length) : Op.bytesLess (l.getD i ⟨#[]⟩).toList (l.getD j ⟨#[]⟩).toList = true := by
  have := risesS_at _ i j h hij (by simpa using hj)
  rwa [getD_map_toList l i (by omega), getD_map_toList l j hj] at this
theorem sought_low {l : List ByteArray} {s : ByteArray} {i j h : Nat} (hr : risesS (l.map fun b => b.toList)) (hS : Sought l s i j) (h1 : i ≤ h) (h2 : h < j) (hl : Op.bytesLess (l.getD h ⟨#[]⟩).toList s.toList = true) : Sought l s (h + 1) j := by
  refine ⟨by omega, hS.top, fun k hk => ?_, hS.high⟩
  by_cases e : k = h
  · rw [e]; exact hl
  · exact lessB_trans _ _ _ (rises_lt hr (show k < h by omega) (by have := hS.top; omega)) hl
theorem sought_high {l : List ByteArray} {s : ByteArray} {i j h : Nat} (hr : risesS (l.map fun b => b.toList)) (hS : Sought l s i j) (h1 : i ≤ h) (h2 : h < j) (hl : Op.bytesLess (l.getD h ⟨#[]⟩).toList s.toList = false) : Sought l s i h := by
  refine ⟨h1, by have := hS.top; omega, hS.low, fun k hk1 hk2 => ?_⟩
  by_cases e : k = h
  · rw [e]; exact hl
  · cases hx : Op.bytesLess (l.getD k ⟨#[]⟩).toList s.toList
    · rfl
    · have := lessB_trans _ _ _ (rises_lt hr (show h < k by omega) hk2) hx
      rw [hl] at this
      cases this
theorem sought_end {l : List ByteArray} {s : ByteArray} {i : Nat} (hr : risesS (l.map fun b => b.toList)) (hS : Sought l s i i) : inStrsB l s = (decide (i < l.length) && ((l.getD i ⟨#[]⟩).toList == s.toList)) := by
  apply bool_of_iff
  rw [inStrs_iff, Bool.and_eq_true, decide_eq_true_iff, bytes_eq]
  constructor
  · intro hm
    obtain ⟨k, hk, e⟩ := List.getElem_of_mem hm
    have e' : l.getD k ⟨#[]⟩ = s := by rw [List.getD_eq_getElem?_getD, List.getElem?_eq_getElem hk]; exact e
    have h1 : i ≤ k := Classical.byContradiction fun hn => by
      have := hS.low k (by omega)
      rw [e', lessB_irrefl] at this
      cases this
    have h2 : ¬ i < k := fun hn => by
      have h3 := rises_lt hr hn hk
      rw [e', hS.high i (Nat.le_refl _) (by omega)] at h3
      cases h3
    have : i = k := by omega
    subst this
    exact ⟨hk, e'⟩
  · rintro ⟨h1, h2⟩
    rw [← h2, List.getD_eq_getElem?_getD, List.getElem?_eq_getElem h1]
    exact List.getElem_mem _

set_option maxHeartbeats 2000000 in
set_option maxRecDepth 100000 in
theorem search_any (v : Value) (l : List ByteArray) (s : ByteArray) (w : World) (hv : StrsAt w v l) (hr : risesS (l.map fun b => b.toList)) (hn : l.length ≤ 100000) :
    Calls Tryz.prog 127 #[v, .string s] w fun r w' => (∃ i, r = .returned (.tuple #[.int .i64 i, .bool (inStrsB l s)])) ∧ w' = w := by
  have HV := hide hv
  have HR := hide hr
  have hlen := hv.2.1
  obtain ⟨a, cap, rfl⟩ := hv.form
  clear hv hr
  have HS0 := hide (sought_start l s)
  obtain ⟨N, hN⟩ : ∃ N : Nat, N = l.length := ⟨_, rfl⟩
  rw [← hN] at hlen hn HV HS0 ⊢
  have HN := hide hN
  clear hN
  have LS := fun (a : ByteArray) => hide (lessC_any a s w)
  have NS := fun (a : ByteArray) => hide (nanS_any a w)
  go_enter Tryz.func127, Tryz.ntmps127
  go_wp2
  go_loopw [7, 8] (fun iv jv wr => ∃ (i j : Nat), iv = .int .i64 i ∧ jv = .int .i64 j ∧ i ≤ j ∧ j ≤ N ∧ wr = w ∧ Hid (Sought l s i j)) (fun iv jv _ => (intOf jv).toNat - (intOf iv).toNat)
  case atStart => exact ⟨0, N, rfl, rfl, by omega, by omega, rfl, HS0⟩
  case round =>
    obtain ⟨i, j, rfl, rfl, hij, hj, rfl, HS⟩ := hrel
    by_cases hlt : i < j
    · have hw1 : IntKind.i64.wrap ((i : Int) + (j : Int)) = (i : Int) + (j : Int) := by rw [IntKind.wrap_i64]; omega
      obtain ⟨b, off, ha, hb, c0⟩ := HV.out.at.2 ((i + j) / 2) (by rw [← HN.out]; omega)
      subst ha
      have SL := hide (fun h => sought_low HR.out HS.out (h := (i + j) / 2) (by omega) (by omega) h)
      have SH := hide (fun h => sought_high HR.out HS.out (h := (i + j) / 2) (by omega) (by omega) h)
      generalize l.getD ((i + j) / 2) ⟨#[]⟩ = q at c0 SL SH
      have X := LS q
      clear LS NS HS0 HS
      cases hq : Op.bytesLess q.toList s.toList
      · rw [hq] at X
        go_wp2_with fail
        refine (unhide X).mono ?_
        rintro r w2 ⟨rfl, rfl⟩
        go_wp2
        exact ⟨⟨i, (i + j) / 2, rfl, by simp, by omega, by omega, trivial, hide (SH.out hq)⟩, by simp [intOf]; omega⟩
      · rw [hq] at X
        go_wp2_with fail
        refine (unhide X).mono ?_
        rintro r w2 ⟨rfl, rfl⟩
        go_wp2
        exact ⟨⟨(i + j) / 2 + 1, j, by simp, rfl, by omega, by omega, trivial, hide (SL.out hq)⟩, by simp [intOf]; omega⟩
    · have hij' : i = j := by omega
      subst hij'
      have E := hide (sought_end HR.out HS.out)
      rw [← HN.out] at E
      clear LS HS0 HS hlt hij
      by_cases hiN : i < N
      · obtain ⟨b, off, ha, hb, c0⟩ := HV.out.at.2 i (by rw [← HN.out]; omega)
        subst ha
        generalize l.getD i ⟨#[]⟩ = q at c0 E
        have X := NS q
        cases hq : (q.toList == s.toList)
        · have E1 : Hid (inStrsB l s = false) := hide (by rw [E.out, hq]; simp)
          go_wp2_with fail
          refine (unhide X).mono ?_
          rintro r w2 ⟨rfl, rfl⟩
          go_wp2
          go_ret2
          exact ⟨⟨i, by rw [E1.out]; rfl⟩, rfl⟩
        · have E1 : Hid (inStrsB l s = true) := hide (by rw [E.out, hq, decide_eq_true hiN]; rfl)
          go_wp2
          go_ret2
          exact ⟨⟨i, by rw [E1.out]; rfl⟩, rfl⟩
      · have E1 : Hid (inStrsB l s = false) := hide (by rw [E.out, decide_eq_false hiN]; rfl)
        have hge : (N : Int) ≤ (i : Int) := by omega
        go_wp2
        go_ret2
        exact ⟨⟨i, by rw [E1.out]; rfl⟩, rfl⟩

set_option maxHeartbeats 400000 in
theorem hasString_any (v : Value) (l : List ByteArray) (s : ByteArray) (w : World) (hv : StrsAt w v l) (hr : risesS (l.map fun b => b.toList)) (hn : l.length ≤ 100000) :
    Calls Tryz.prog 109 #[v, .string s] w fun r w' => r = .returned (.bool (inStrsB l s)) ∧ w' = w := by
  have X := hide (search_any v l s w hv hr hn)
  obtain ⟨a, cap, rfl⟩ := hv.form
  clear hv hr hn
  generalize inStrsB l s = IB at *
  generalize l.length = N at *
  go_enter Tryz.func109, Tryz.ntmps109
  go_wp2_with fail
  refine (unhide X).mono ?_
  rintro r w1 ⟨⟨i, rfl⟩, rfl⟩
  go_wp2
  go_ret
  exact ⟨rfl, rfl⟩
end Go.Proofs.YtlfhpocfacaaeaaGreat
/-
  The program's set: Has.
-/
set_option linter.unusedSimpArgs false
set_option linter.unusedVariables false
namespace Go.Proofs.YtlfhpocfacaaeaaGreat
open Go.RowKit

set_option maxHeartbeats 2000000 in
set_option maxRecDepth 100000 in
theorem has_any (v : Value) (S : SetV) (k n : Int) (s : ByteArray) (w : World) (hv : SetAt w v S) (hf : Fit S) (hs : s.size ≤ maxLen) :
    Calls Tryz.prog 76 #[v, .agg #[.int .i64 k, .int .i64 n, .string s]] w fun r w' => r = .returned (.bool (hasB S k n s)) ∧ Below w.heap.size w w' := by
  have HR1 := hide hf.good.rs.2
  have HL1 := hide hf.ns
  clear hf
  obtain ⟨vi, vs, rfl, hI, hS⟩ := hv
  obtain ⟨ai, ci, rfl⟩ := hI.form
  obtain ⟨aq, cq, rfl⟩ := hS.form
  obtain ⟨sa, si, sc, ss⟩ := S
  dsimp only at *
  have HI := hide hI
  have HS := hide hS
  have HR := fun (W : World) => hide (valRight_any k n s W hs)
  have HSX := fun (W : World) (h : StrsAt W (.slice aq ss.length cq) ss) => hide (hasString_any _ _ s W h HR1.out (Nat.le_trans HL1.out (by omega)))
  clear HL1
  generalize hH : hasB ⟨sa, si, sc, ss⟩ k n s = B
  have HH := hide hH
  have R2 : rightB k n s = true → k ≠ 0 → k ≠ 1 → k = 2 := fun h h0 h1 => by
    unfold rightB at h
    rw [if_neg h0, if_neg h1] at h
    split at h
    · assumption
    · simp at h
  have HR2 := hide R2
  clear hI hS hH R2
  generalize si.length = nI at *
  generalize ss.length = nS at *
  cases hr : rightB k n s
  · rw [hr] at HR
    have E : Hid (B = false) := hide (by rw [← HH.out]; unfold hasB; rw [hr]; rfl)
    clear HH hr
    go_enter Tryz.func76, Tryz.ntmps76
    go_wp2_with fail
    refine (unhide (HR _)).mono ?_
    rintro r w1 ⟨rfl, b1⟩
    have B1 := hide b1
    clear b1
    go_wp2
    go_ret
    exact ⟨ret_bool E.out.symm, (two_new B1.out).2.2⟩
  · rw [hr] at HR
    have hB := HH.out
    unfold hasB at hB
    rw [hr, Bool.true_and] at hB
    have HB := hide hB
    have k2 := HR2.out hr
    have K2 := hide k2
    clear HH hr hB k2 HR2
    go_enter Tryz.func76, Tryz.ntmps76
    go_wp2_with fail
    refine (unhide (HR _)).mono ?_
    rintro r w1 ⟨rfl, b1⟩
    obtain ⟨e1, e2, b2⟩ := two_new b1
    have c0 := cell_heap e1 0
    have c1 := cell_heap e1 1
    have c2 := cell_heap e1 2
    have c3 := cell_heap e1 3
    have d0 := cell_heap e2 0
    have d1 := cell_heap e2 1
    have d2 := cell_heap e2 2
    simp only [List.getElem?_toArray, List.getElem?_cons_zero, List.getElem?_cons_succ] at c0 c1 c2 c3 d0 d1 d2
    have B2 := hide b2
    have I1 := hide (HI.out.on b2)
    have S1 := hide (HS.out.on b2)
    clear b1 b2 e1 e2 HR HI HS
    by_cases k0 : k = 0
    · subst k0
      have E : Hid (B = sa) := hide (by rw [← HB.out, if_pos rfl])
      clear HB
      go_wp2
      go_ret
      exact ⟨ret_bool E.out.symm, B2.out⟩
    · have kb : (k == 0) = false := beq_eq_false_iff_ne.2 k0
      by_cases k1 : k = 1
      · subst k1
        have E : Hid (B = inIntsB si n) := hide (by rw [← HB.out, if_neg (by omega), if_pos rfl])
        have X := hide (hasNumber_any _ _ n _ I1.out)
        clear HB I1 S1
        go_wp2_with fail
        refine (unhide X).mono ?_
        rintro r w2 ⟨rfl, b2⟩
        go_wp2
        go_ret
        exact ⟨ret_bool E.out.symm, B2.out.trans (b2.mono B2.out.size)⟩
      · have kb1 : (k == 1) = false := beq_eq_false_iff_ne.2 k1
        have kk : k = 2 := K2.out k0 k1
        subst kk
        have E : Hid (B = (inStrsB ss s != sc)) := hide (by rw [← HB.out, if_neg k0, if_neg k1])
        have X := fun (d : Nat) (os : Array Obj) => hide (Calls.regrown_of ((HSX (Sort.grow (redrawn w1 d) os) (S1.out.on (below_regrown w1 d os))).out.mono (by rintro r w2 ⟨rfl, rfl⟩; exact ⟨rfl, Below.refl _ _⟩)))
        clear HSX
        generalize inStrsB ss s = IB at *
        have p0 := cell_regrown c2
        have p1 := cell_regrown c3
        have p2 := cell_regrown d2
        have p3 := cell_regrown d0
        have p4 := cell_regrown d1
        clear HB I1 S1
        go_wp2
        clear c0 c1 c2 c3 d0 d1 d2
        refine wp_region_quiet_below mixed (by kernel_rfl) ?_
        repeat (first | go_big_quiet_step (exact unhide (X _ _)) | quiet_step (exact unhide (X _ _)))
        refine wpQuiet_nil ?_
        intro _ hw'
        obtain ⟨⟨dq, osq⟩, hw''⟩ := hw'
        subst hw''
        go_wp2
        go_ret
        refine ⟨ret_bool (by rw [E.out]; cases IB <;> cases sc <;> rfl), B2.out.trans ((below_regrown w1 dq osq).mono B2.out.size)⟩
end Go.Proofs.YtlfhpocfacaaeaaGreat
/-
  The program's isSo, with the library's IndexFunc and ContainsFunc over the parts of an expression.
-/
set_option linter.unusedSimpArgs false
set_option linter.unusedVariables false
namespace Go.Proofs.YtlfhpocfacaaeaaGreat
open Go.RowKit

/-- What a function value of one captured variable answers of each part. -/
def PartFn (fid : Nat) (cap : Value) (n : Nat) (x : ExV) (p : Nat → Bool) (w : World) : Prop :=
  ∀ i, i < x.sub.length → ∀ (d : EC) (W : World), Below w.heap.size w W → ExAt n W d.val (x.sub.getD i noX) → Calls Tryz.prog fid #[d.val, cap] W fun r W' => r = .returned (.bool (p i)) ∧ Below W.heap.size W W'

set_option maxHeartbeats 4000000 in
set_option maxRecDepth 100000 in
theorem indexFunc1_any (cap : Value) (n : Nat) (c : EC) (x : ExV) (p : Nat → Bool) (w : World) (hx : ExAt (n + 1) w c.val x) (H : PartFn 97 cap n x p w) :
    Calls Tryz.prog 121 #[.slice c.p c.n c.c, .func (.func 97) #[] #[cap]] w fun r w' => (∃ z : Int, r = .returned (.int .i64 z) ∧ decide (0 ≤ z) = (List.range x.sub.length).any p ∧ z < 9223372036854775807) ∧ Below w.heap.size w w' := by
  obtain ⟨c', hv, hc, _⟩ := id hx
  obtain rfl := ec_inj hv
  have HX := hide hx
  have HH := hide H
  have HN := hide hc.n
  have big := hc.big
  have room := hc.room
  clear hx hv hc H
  go_enter Tryz.func121, Tryz.ntmps121
  go_wp2
  go_loopw [8] (fun i wr => ∃ k : Nat, i = .int .i64 k ∧ k ≤ c.n ∧ Hid (∀ j, j < k → p j = false) ∧ Hid (Below w.heap.size w wr)) (fun i _ => c.n - (intOf i).toNat)
  case atStart => exact ⟨0, rfl, by omega, hide (fun j h => by omega), hide (Below.refl _ _)⟩
  case round =>
    obtain ⟨k, rfl, hk, HF, HB⟩ := hrel
    by_cases hlt : k < c.n
    · have hk' : k < x.sub.length := by rw [← HN.out]; exact hlt
      obtain ⟨g, off, d, hp, hg, hd, hy⟩ := (ExAt.on HB.out _ HX.out).part k hk'
      have X := hide (HH.out k hk' d wr HB.out hy)
      obtain ⟨d0, d1, d2, d3, d4, d5, d6⟩ := hd
      clear hy HX HH
      unfold EC.val at X
      rw [hp]
      cases hq : p k
      · rw [hq] at X
        have HF2 : Hid (∀ j, j < k + 1 → p j = false) := hide (fun j hj => by
          rcases Nat.lt_succ_iff_lt_or_eq.1 hj with h | rfl
          · exact HF.out j h
          · exact hq)
        go_wp2_with fail
        refine (unhide X).mono ?_
        rintro r w2 ⟨rfl, b2⟩
        have HB2 := hide (HB.out.trans (b2.mono HB.out.size))
        clear X b2 HB d0 d1 d2 d3 d4 d5 d6 HF hq
        go_wp2
        exact ⟨⟨k + 1, by go_num, by omega, HF2, HB2⟩, by simp [intOf]; omega⟩
      · rw [hq] at X
        have E : Hid ((List.range x.sub.length).any p = true) := hide (List.any_eq_true.2 ⟨k, List.mem_range.2 hk', hq⟩)
        go_wp2_with fail
        refine (unhide X).mono ?_
        rintro r w2 ⟨rfl, b2⟩
        have HB2 := hide (HB.out.trans (b2.mono HB.out.size))
        clear X b2 HB d0 d1 d2 d3 d4 d5 d6 HF hq
        go_wp2
        go_ret
        exact ⟨⟨k, rfl, by rw [E.out]; simp, by omega⟩, HB2.out⟩
    · have hge : decide ((k : Int) < (c.n : Int)) = false := by simp; omega
      have E : Hid ((List.range x.sub.length).any p = false) := hide (List.any_eq_false.2 fun j hj => by
        have := List.mem_range.1 hj
        have h2 := HN.out
        rw [HF.out j (by omega)]
        simp)
      go_wp2
      go_ret
      exact ⟨⟨-1, rfl, by rw [E.out]; simp, by omega⟩, HB.out⟩
set_option maxHeartbeats 4000000 in
set_option maxRecDepth 100000 in
theorem containsFunc1_any (cap : Value) (n : Nat) (c : EC) (x : ExV) (p : Nat → Bool) (w : World) (hx : ExAt (n + 1) w c.val x) (H : PartFn 97 cap n x p w) :
    Calls Tryz.prog 96 #[.slice c.p c.n c.c, .func (.func 97) #[] #[cap]] w fun r w' => r = .returned (.bool ((List.range x.sub.length).any p)) ∧ Below w.heap.size w w' := by
  have X := hide (indexFunc1_any cap n c x p w hx H)
  generalize (List.range x.sub.length).any p = q at X ⊢
  clear hx H
  go_enter Tryz.func96, Tryz.ntmps96
  go_wp2_with fail
  refine (unhide X).mono ?_
  rintro r w2 ⟨⟨z, rfl, hz, _⟩, b2⟩
  have B2 := hide b2
  have HZ := hide hz
  clear X b2 hz
  go_wp2
  go_ret
  exact ⟨ret_bool (by have := HZ.out; simpa using this), B2.out⟩
set_option maxHeartbeats 4000000 in
set_option maxRecDepth 100000 in
theorem indexFunc2_any (cap : Value) (n : Nat) (c : EC) (x : ExV) (p : Nat → Bool) (w : World) (hx : ExAt (n + 1) w c.val x) (H : PartFn 98 cap n x p w) :
    Calls Tryz.prog 121 #[.slice c.p c.n c.c, .func (.func 98) #[] #[cap]] w fun r w' => (∃ z : Int, r = .returned (.int .i64 z) ∧ decide (0 ≤ z) = (List.range x.sub.length).any p ∧ z < 9223372036854775807) ∧ Below w.heap.size w w' := by
  obtain ⟨c', hv, hc, _⟩ := id hx
  obtain rfl := ec_inj hv
  have HX := hide hx
  have HH := hide H
  have HN := hide hc.n
  have big := hc.big
  have room := hc.room
  clear hx hv hc H
  go_enter Tryz.func121, Tryz.ntmps121
  go_wp2
  go_loopw [8] (fun i wr => ∃ k : Nat, i = .int .i64 k ∧ k ≤ c.n ∧ Hid (∀ j, j < k → p j = false) ∧ Hid (Below w.heap.size w wr)) (fun i _ => c.n - (intOf i).toNat)
  case atStart => exact ⟨0, rfl, by omega, hide (fun j h => by omega), hide (Below.refl _ _)⟩
  case round =>
    obtain ⟨k, rfl, hk, HF, HB⟩ := hrel
    by_cases hlt : k < c.n
    · have hk' : k < x.sub.length := by rw [← HN.out]; exact hlt
      obtain ⟨g, off, d, hp, hg, hd, hy⟩ := (ExAt.on HB.out _ HX.out).part k hk'
      have X := hide (HH.out k hk' d wr HB.out hy)
      obtain ⟨d0, d1, d2, d3, d4, d5, d6⟩ := hd
      clear hy HX HH
      unfold EC.val at X
      rw [hp]
      cases hq : p k
      · rw [hq] at X
        have HF2 : Hid (∀ j, j < k + 1 → p j = false) := hide (fun j hj => by
          rcases Nat.lt_succ_iff_lt_or_eq.1 hj with h | rfl
          · exact HF.out j h
          · exact hq)
        go_wp2_with fail
        refine (unhide X).mono ?_
        rintro r w2 ⟨rfl, b2⟩
        have HB2 := hide (HB.out.trans (b2.mono HB.out.size))
        clear X b2 HB d0 d1 d2 d3 d4 d5 d6 HF hq
        go_wp2
        exact ⟨⟨k + 1, by go_num, by omega, HF2, HB2⟩, by simp [intOf]; omega⟩
      · rw [hq] at X
        have E : Hid ((List.range x.sub.length).any p = true) := hide (List.any_eq_true.2 ⟨k, List.mem_range.2 hk', hq⟩)
        go_wp2_with fail
        refine (unhide X).mono ?_
        rintro r w2 ⟨rfl, b2⟩
        have HB2 := hide (HB.out.trans (b2.mono HB.out.size))
        clear X b2 HB d0 d1 d2 d3 d4 d5 d6 HF hq
        go_wp2
        go_ret
        exact ⟨⟨k, rfl, by rw [E.out]; simp, by omega⟩, HB2.out⟩
    · have hge : decide ((k : Int) < (c.n : Int)) = false := by simp; omega
      have E : Hid ((List.range x.sub.length).any p = false) := hide (List.any_eq_false.2 fun j hj => by
        have := List.mem_range.1 hj
        have h2 := HN.out
        rw [HF.out j (by omega)]
        simp)
      go_wp2
      go_ret
      exact ⟨⟨-1, rfl, by rw [E.out]; simp, by omega⟩, HB.out⟩
set_option maxHeartbeats 4000000 in
set_option maxRecDepth 100000 in
theorem containsFunc2_any (cap : Value) (n : Nat) (c : EC) (x : ExV) (p : Nat → Bool) (w : World) (hx : ExAt (n + 1) w c.val x) (H : PartFn 98 cap n x p w) :
    Calls Tryz.prog 96 #[.slice c.p c.n c.c, .func (.func 98) #[] #[cap]] w fun r w' => r = .returned (.bool ((List.range x.sub.length).any p)) ∧ Below w.heap.size w w' := by
  have X := hide (indexFunc2_any cap n c x p w hx H)
  generalize (List.range x.sub.length).any p = q at X ⊢
  clear hx H
  go_enter Tryz.func96, Tryz.ntmps96
  go_wp2_with fail
  refine (unhide X).mono ?_
  rintro r w2 ⟨⟨z, rfl, hz, _⟩, b2⟩
  have B2 := hide b2
  have HZ := hide hz
  clear X b2 hz
  go_wp2
  go_ret
  exact ⟨ret_bool (by have := HZ.out; simpa using this), B2.out⟩
theorem range_any (f : ExV → Bool) (l : List ExV) : (List.range l.length).any (fun i => f (l.getD i noX)) = l.any f := by
  rw [Bool.eq_iff_iff, List.any_eq_true, List.any_eq_true]
  constructor
  · rintro ⟨i, hi, h⟩
    exact ⟨_, getD_mem (List.mem_range.1 hi), h⟩
  · rintro ⟨y, hy, h⟩
    obtain ⟨i, hi, rfl⟩ := List.getElem_of_mem hy
    refine ⟨i, List.mem_range.2 hi, ?_⟩
    rwa [List.getD_eq_getElem?_getD, List.getElem?_eq_getElem hi, Option.getD_some]
theorem setAt_i64 {w : World} {v : Value} {s : SetV} (h : SetAt w v s) : inI64 s.ints := by
  obtain ⟨vi, vs, rfl, hI, _⟩ := h
  intro r hr
  obtain ⟨i, hi, rfl⟩ := List.getElem_of_mem hr
  have := hI.bound i hi
  rwa [List.getD_eq_getElem?_getD, List.getElem?_eq_getElem hi, Option.getD_some] at this
theorem node_atom {w : World} {c : EC} {x : ExV} (h : nodeX x = true) (hk : x.kind = 1) (hc : EcFor w c x) : 0 ≤ x.attr ∧ x.attr ≤ 3 ∧ Fit x.set := by
  unfold nodeX at h
  rw [if_pos hk, Bool.and_eq_true, decide_eq_true_eq, Bool.and_eq_true] at h
  obtain ⟨⟨h0, h1, _⟩, h2, h3⟩ := h
  unfold smallB at h3
  rw [Bool.and_eq_true, decide_eq_true_eq, decide_eq_true_eq] at h3
  exact ⟨h0, h1, ⟨h2, setAt_i64 hc.s⟩, by omega, by omega⟩
theorem node_not {x : ExV} (h : nodeX x = true) (k1 : ¬ x.kind = 1) (k2 : ¬ x.kind = 2) (k3 : ¬ x.kind = 3) : x.sub.length = 1 := by
  unfold nodeX at h
  rw [if_neg k1] at h
  by_cases k4 : x.kind = 4
  · rw [if_pos (by omega), Bool.and_eq_true, decide_eq_true_eq] at h
    exact h.2 k4
  · rw [if_neg (by omega)] at h
    cases h
theorem evFit_get {e : EvV} (h : evFit e) (i : Nat) (hi : i < 4) : (e.get i).2.2.size ≤ maxLen := by
  match i, hi with
  | 0, _ => exact h.1
  | 1, _ => exact h.2.1
  | 2, _ => exact h.2.2.1
  | 3, _ => exact h.2.2.2

set_option maxHeartbeats 4000000 in
set_option maxRecDepth 100000 in
theorem isSo1_fn (e : EvV) (g n : Nat) (x : ExV) (w : World) (hE : EvIn w g e) (IH : ∀ y ∈ x.sub, ∀ (d : EC) (W : World), ExAt n W d.val y → Calls Tryz.prog 58 #[d.val, evVal e] W fun r W' => r = .returned (.bool (isX n y e)) ∧ Below W.heap.size W W') :
    PartFn 97 (.pointer (some ⟨g, 0, none⟩)) n x (fun i => !isX n (x.sub.getD i noX) e) w := by
  intro i hi d W hB hy
  dsimp only
  have hE1 := (hE.on hB)
  have b1 := (Below.refl _ W).alloc (Nat.le_refl _) (Obj.cells #[.int .i64 d.k, .int .i64 d.t, .bool d.s.a, .slice d.s.p d.s.n d.s.c, .bool d.s.d, .slice d.s.q d.s.m d.s.e, .slice d.p d.n d.c] 28)
  have X := hide (IH _ (getD_mem hi) d _ (ExAt.on b1 _ hy))
  obtain ⟨e0, e1, e2, e3, e4, e5, e6, e7, e8, e9, e10, e11⟩ := evCells (hE1.on b1)
  have B1 := hide b1
  generalize isX n (x.sub.getD i noX) e = q at X ⊢
  clear IH hy hE hE1 b1
  unfold EC.val evVal at *
  go_enter Tryz.func97, Tryz.ntmps97
  go_wp2_with fail
  refine (unhide X).mono ?_
  rintro r w2 ⟨rfl, b2⟩
  have B2 := hide (B1.out.trans (b2.mono B1.out.size))
  clear X b2 B1 e0 e1 e2 e3 e4 e5 e6 e7 e8 e9 e10 e11
  go_wp2
  go_ret
  exact ⟨rfl, B2.out⟩
set_option maxHeartbeats 4000000 in
set_option maxRecDepth 100000 in
theorem isSo2_fn (e : EvV) (g n : Nat) (x : ExV) (w : World) (hE : EvIn w g e) (IH : ∀ y ∈ x.sub, ∀ (d : EC) (W : World), ExAt n W d.val y → Calls Tryz.prog 58 #[d.val, evVal e] W fun r W' => r = .returned (.bool (isX n y e)) ∧ Below W.heap.size W W') :
    PartFn 98 (.pointer (some ⟨g, 0, none⟩)) n x (fun i => isX n (x.sub.getD i noX) e) w := by
  intro i hi d W hB hy
  dsimp only
  have hE1 := (hE.on hB)
  have b1 := (Below.refl _ W).alloc (Nat.le_refl _) (Obj.cells #[.int .i64 d.k, .int .i64 d.t, .bool d.s.a, .slice d.s.p d.s.n d.s.c, .bool d.s.d, .slice d.s.q d.s.m d.s.e, .slice d.p d.n d.c] 28)
  have X := hide (IH _ (getD_mem hi) d _ (ExAt.on b1 _ hy))
  obtain ⟨e0, e1, e2, e3, e4, e5, e6, e7, e8, e9, e10, e11⟩ := evCells (hE1.on b1)
  have B1 := hide b1
  generalize isX n (x.sub.getD i noX) e = q at X ⊢
  clear IH hy hE hE1 b1
  unfold EC.val evVal at *
  go_enter Tryz.func98, Tryz.ntmps98
  go_wp2_with fail
  refine (unhide X).mono ?_
  rintro r w2 ⟨rfl, b2⟩
  have B2 := hide (B1.out.trans (b2.mono B1.out.size))
  clear X b2 B1 e0 e1 e2 e3 e4 e5 e6 e7 e8 e9 e10 e11
  go_wp2
  go_ret
  exact ⟨rfl, B2.out⟩
theorem each_sub {n : Nat} {x : ExV} (h : eachX (n + 1) x = true) : nodeX x = true ∧ ∀ y ∈ x.sub, eachX n y = true := by
  unfold eachX at h
  rw [Bool.and_eq_true, List.all_eq_true] at h
  exact h
end Go.Proofs.YtlfhpocfacaaeaaGreat
/-
  The program's isSo.
-/
set_option linter.unusedSimpArgs false
set_option linter.unusedVariables false
namespace Go.Proofs.YtlfhpocfacaaeaaGreat
open Go.RowKit

def exObj (c : EC) : Obj := Obj.cells #[.int .i64 c.k, .int .i64 c.t, .bool c.s.a, .slice c.s.p c.s.n c.s.c, .bool c.s.d, .slice c.s.q c.s.m c.s.e, .slice c.p c.n c.c] 28
def evObj (e : EvV) : Obj := Obj.cells #[.int .i64 e.v0.1, .int .i64 e.v0.2.1, .string e.v0.2.2, .int .i64 e.v1.1, .int .i64 e.v1.2.1, .string e.v1.2.2, .int .i64 e.v2.1, .int .i64 e.v2.2.1, .string e.v2.2.2, .int .i64 e.v3.1, .int .i64 e.v3.2.1, .string e.v3.2.2] 42
/-- An expression and an event, each in a new block. -/
structure XeAt (w W : World) (c : EC) (e : EvV) : Prop where
  x : W.heap[w.heap.size]? = some (exObj c)
  e : EvIn W (w.heap.size + 1) e
  b : Below w.heap.size w W
theorem XeAt.new (w : World) (c : EC) (e : EvV) : XeAt w ((w.alloc (exObj c)).alloc (evObj e)) c e := by
  refine ⟨?_, ?_, ?_⟩
  · exact (Below.heap_alloc (w.alloc (exObj c)) (evObj e) w.heap.size (by simp)).trans (heap_new w _)
  · have := heap_new (w.alloc (exObj c)) (evObj e)
    rw [World.size_alloc] at this
    exact this
  · exact ((Below.refl _ w).alloc (Nat.le_refl _) _).alloc (by simp) _
theorem XeAt.on {w W W' : World} {c : EC} {e : EvV} (h : XeAt w W c e) (hb : Below W.heap.size W W') : XeAt w W' c e := ⟨(hb.block _ (lt_heap h.x)).trans h.x, h.e.on hb, h.b.trans (hb.mono h.b.size)⟩

theorem isX_step (n : Nat) (x : ExV) (e : EvV) : isX (n + 1) x e = if x.kind = 1 then hasP x.set (e.get x.attr.toNat) else if x.kind = 2 then x.sub.all fun y => isX n y e else if x.kind = 3 then x.sub.any fun y => isX n y e else !(x.sub.head?.elim false fun y => isX n y e) := rfl
set_option maxHeartbeats 8000000 in
set_option maxRecDepth 100000 in
theorem isSo_atom (n : Nat) (x : ExV) (c : EC) (e : EvV) (w : World) (hx : ExAt (n + 1) w c.val x) (hn : nodeX x = true) (hk : x.kind = 1) (hf : evFit e) :
    Calls Tryz.prog 58 #[c.val, evVal e] w fun r w' => r = .returned (.bool (isX (n + 1) x e)) ∧ Below w.heap.size w w' := by
  obtain ⟨c', hv, hc, _⟩ := id hx
  obtain rfl := ec_inj hv
  obtain ⟨a0, a3, fs⟩ := node_atom hn hk hc
  have ec : (c.k == 1) = true := by rw [hc.k, hk]; rfl
  have R := fun (i : Nat) (hi : i < 4) (W : World) (hb : Below w.heap.size w W) => hide (has_any _ x.set (e.get i).1 (e.get i).2.1 (e.get i).2.2 W (hc.s.on hb) fs (evFit_get hf i hi))
  have EQ : Hid (isX (n + 1) x e = hasP x.set (e.get x.attr.toNat)) := hide (by rw [isX_step, if_pos hk])
  have HT := hide (XeAt.new w c e)
  have HTT := hide hc.t
  have b0 : 0 ≤ c.t := by rw [hc.t]; exact a0
  have b3 : c.t ≤ 3 := by rw [hc.t]; exact a3
  clear hx hv hc hn hk hf fs a0 a3
  unfold exObj evObj at HT
  unfold SC.val at R
  unfold EC.val evVal
  go_enter Tryz.func58, Tryz.ntmps58
  go_wp2
  generalize (w.alloc (Obj.cells #[.int .i64 c.k, .int .i64 c.t, .bool c.s.a, .slice c.s.p c.s.n c.s.c, .bool c.s.d, .slice c.s.q c.s.m c.s.e, .slice c.p c.n c.c] 28)).alloc (Obj.cells #[.int .i64 e.v0.1, .int .i64 e.v0.2.1, .string e.v0.2.2, .int .i64 e.v1.1, .int .i64 e.v1.2.1, .string e.v1.2.2, .int .i64 e.v2.1, .int .i64 e.v2.2.1, .string e.v2.2.2, .int .i64 e.v3.1, .int .i64 e.v3.2.1, .string e.v3.2.2] 42) = wr at HT ⊢
  obtain ⟨c0, c1, c2, c3, c4, c5, c6⟩ := ecCells1 HT.out.x
  obtain ⟨d0, d1, d2, d3, d4, d5, d6, d7, d8, d9, d10, d11⟩ := evCells HT.out.e
  have hcase : c.t = 0 ∨ c.t = 1 ∨ c.t = 2 ∨ c.t = 3 := by omega
  rcases hcase with h | h | h | h
  · have X := fun (d : Nat) (os : Array Obj) => hide (Calls.regrown_of (R 0 (by omega) (Sort.grow (redrawn wr d) os) (HT.out.b.trans ((below_regrown wr d os).mono HT.out.b.size))).out)
    rw [h] at c1
    have q1 := cell_regrown c1
    have q2 := cell_regrown c2
    have q3 := cell_regrown c3
    have q4 := cell_regrown c4
    have q5 := cell_regrown c5
    have p0 := cell_regrown d0
    have p1 := cell_regrown d1
    have p2 := cell_regrown d2
    have EQ2 : Hid (isX (n + 1) x e = hasP x.set (e.get 0)) := hide (by rw [EQ.out, ← HTT.out, h]; rfl)
    clear R c0 c1 c2 c3 c4 c5 c6 d0 d1 d2 d3 d4 d5 d6 d7 d8 d9 d10 d11 EQ HTT
    refine wp_region_quiet_below mixed (by kernel_rfl) ?_
    repeat (first | go_big_quiet_step (exact unhide (X _ _)) | quiet_step (exact unhide (X _ _)))
    refine wpQuiet_nil ?_
    intro _ hw'
    obtain ⟨⟨dq, osq⟩, hw''⟩ := hw'
    subst hw''
    have HT2 := hide (HT.out.on (below_regrown wr dq osq))
    clear X p0 p1 p2 q1 q2 q3 q4 q5
    dsimp only
    generalize Sort.grow (redrawn wr dq) osq = w2 at HT2 ⊢
    go_wp2
    go_ret
    exact ⟨ret_bool EQ2.out.symm, HT2.out.b⟩
  · have X := fun (d : Nat) (os : Array Obj) => hide (Calls.regrown_of (R 1 (by omega) (Sort.grow (redrawn wr d) os) (HT.out.b.trans ((below_regrown wr d os).mono HT.out.b.size))).out)
    rw [h] at c1
    have q1 := cell_regrown c1
    have q2 := cell_regrown c2
    have q3 := cell_regrown c3
    have q4 := cell_regrown c4
    have q5 := cell_regrown c5
    have p0 := cell_regrown d3
    have p1 := cell_regrown d4
    have p2 := cell_regrown d5
    have EQ2 : Hid (isX (n + 1) x e = hasP x.set (e.get 1)) := hide (by rw [EQ.out, ← HTT.out, h]; rfl)
    clear R c0 c1 c2 c3 c4 c5 c6 d0 d1 d2 d3 d4 d5 d6 d7 d8 d9 d10 d11 EQ HTT
    refine wp_region_quiet_below mixed (by kernel_rfl) ?_
    repeat (first | go_big_quiet_step (exact unhide (X _ _)) | quiet_step (exact unhide (X _ _)))
    refine wpQuiet_nil ?_
    intro _ hw'
    obtain ⟨⟨dq, osq⟩, hw''⟩ := hw'
    subst hw''
    have HT2 := hide (HT.out.on (below_regrown wr dq osq))
    clear X p0 p1 p2 q1 q2 q3 q4 q5
    dsimp only
    generalize Sort.grow (redrawn wr dq) osq = w2 at HT2 ⊢
    go_wp2
    go_ret
    exact ⟨ret_bool EQ2.out.symm, HT2.out.b⟩
  · have X := fun (d : Nat) (os : Array Obj) => hide (Calls.regrown_of (R 2 (by omega) (Sort.grow (redrawn wr d) os) (HT.out.b.trans ((below_regrown wr d os).mono HT.out.b.size))).out)
    rw [h] at c1
    have q1 := cell_regrown c1
    have q2 := cell_regrown c2
    have q3 := cell_regrown c3
    have q4 := cell_regrown c4
    have q5 := cell_regrown c5
    have p0 := cell_regrown d6
    have p1 := cell_regrown d7
    have p2 := cell_regrown d8
    have EQ2 : Hid (isX (n + 1) x e = hasP x.set (e.get 2)) := hide (by rw [EQ.out, ← HTT.out, h]; rfl)
    clear R c0 c1 c2 c3 c4 c5 c6 d0 d1 d2 d3 d4 d5 d6 d7 d8 d9 d10 d11 EQ HTT
    refine wp_region_quiet_below mixed (by kernel_rfl) ?_
    repeat (first | go_big_quiet_step (exact unhide (X _ _)) | quiet_step (exact unhide (X _ _)))
    refine wpQuiet_nil ?_
    intro _ hw'
    obtain ⟨⟨dq, osq⟩, hw''⟩ := hw'
    subst hw''
    have HT2 := hide (HT.out.on (below_regrown wr dq osq))
    clear X p0 p1 p2 q1 q2 q3 q4 q5
    dsimp only
    generalize Sort.grow (redrawn wr dq) osq = w2 at HT2 ⊢
    go_wp2
    go_ret
    exact ⟨ret_bool EQ2.out.symm, HT2.out.b⟩
  · have X := fun (d : Nat) (os : Array Obj) => hide (Calls.regrown_of (R 3 (by omega) (Sort.grow (redrawn wr d) os) (HT.out.b.trans ((below_regrown wr d os).mono HT.out.b.size))).out)
    rw [h] at c1
    have q1 := cell_regrown c1
    have q2 := cell_regrown c2
    have q3 := cell_regrown c3
    have q4 := cell_regrown c4
    have q5 := cell_regrown c5
    have p0 := cell_regrown d9
    have p1 := cell_regrown d10
    have p2 := cell_regrown d11
    have EQ2 : Hid (isX (n + 1) x e = hasP x.set (e.get 3)) := hide (by rw [EQ.out, ← HTT.out, h]; rfl)
    clear R c0 c1 c2 c3 c4 c5 c6 d0 d1 d2 d3 d4 d5 d6 d7 d8 d9 d10 d11 EQ HTT
    refine wp_region_quiet_below mixed (by kernel_rfl) ?_
    repeat (first | go_big_quiet_step (exact unhide (X _ _)) | quiet_step (exact unhide (X _ _)))
    refine wpQuiet_nil ?_
    intro _ hw'
    obtain ⟨⟨dq, osq⟩, hw''⟩ := hw'
    subst hw''
    have HT2 := hide (HT.out.on (below_regrown wr dq osq))
    clear X p0 p1 p2 q1 q2 q3 q4 q5
    dsimp only
    generalize Sort.grow (redrawn wr dq) osq = w2 at HT2 ⊢
    go_wp2
    go_ret
    exact ⟨ret_bool EQ2.out.symm, HT2.out.b⟩
set_option maxHeartbeats 8000000 in
set_option maxRecDepth 100000 in
theorem isSo_and (n : Nat) (x : ExV) (c : EC) (e : EvV) (w : World) (hx : ExAt (n + 1) w c.val x) (hk : x.kind = 2)
    (IH : ∀ y ∈ x.sub, ∀ (d : EC) (W : World), ExAt n W d.val y → Calls Tryz.prog 58 #[d.val, evVal e] W fun r W' => r = .returned (.bool (isX n y e)) ∧ Below W.heap.size W W') :
    Calls Tryz.prog 58 #[c.val, evVal e] w fun r w' => r = .returned (.bool (isX (n + 1) x e)) ∧ Below w.heap.size w w' := by
  obtain ⟨c', hv, hc, _⟩ := id hx
  obtain rfl := ec_inj hv
  have e1 : (c.k == 1) = false := by rw [hc.k, hk]; rfl
  have e2 : (c.k == 2) = true := by rw [hc.k, hk]; rfl
  have e3 : (c.k == 3) = false := by rw [hc.k, hk]; rfl
  have HT := hide (XeAt.new w c e)
  have X := hide (containsFunc1_any (.pointer (some ⟨w.heap.size + 1, 0, none⟩)) n c x _ _ (ExAt.on HT.out.b _ hx) (isSo1_fn e (w.heap.size + 1) n x _ HT.out.e IH))
  have EQ : Hid (isX (n + 1) x e = !((List.range x.sub.length).any fun i => !isX n (x.sub.getD i noX) e)) := hide (by rw [isX_step, if_neg (by omega), if_pos hk, range_any (fun y => !isX n y e) x.sub, ← List.not_all_eq_any_not, Bool.not_not])
  generalize ((List.range x.sub.length).any fun i => !isX n (x.sub.getD i noX) e) = q at X EQ
  clear hx hv hc hk IH
  unfold exObj evObj at HT X
  unfold EC.val evVal
  go_enter Tryz.func58, Tryz.ntmps58
  go_wp2_with fail
  refine (unhide X).mono ?_
  rintro r w2 ⟨rfl, b2⟩
  have HT2 := hide (HT.out.on b2)
  clear X b2 HT
  go_wp2
  go_ret
  exact ⟨ret_bool EQ.out.symm, HT2.out.b⟩
set_option maxHeartbeats 8000000 in
set_option maxRecDepth 100000 in
theorem isSo_or (n : Nat) (x : ExV) (c : EC) (e : EvV) (w : World) (hx : ExAt (n + 1) w c.val x) (hk : x.kind = 3)
    (IH : ∀ y ∈ x.sub, ∀ (d : EC) (W : World), ExAt n W d.val y → Calls Tryz.prog 58 #[d.val, evVal e] W fun r W' => r = .returned (.bool (isX n y e)) ∧ Below W.heap.size W W') :
    Calls Tryz.prog 58 #[c.val, evVal e] w fun r w' => r = .returned (.bool (isX (n + 1) x e)) ∧ Below w.heap.size w w' := by
  obtain ⟨c', hv, hc, _⟩ := id hx
  obtain rfl := ec_inj hv
  have e1 : (c.k == 1) = false := by rw [hc.k, hk]; rfl
  have e2 : (c.k == 2) = false := by rw [hc.k, hk]; rfl
  have e3 : (c.k == 3) = true := by rw [hc.k, hk]; rfl
  have HT := hide (XeAt.new w c e)
  have X := hide (containsFunc2_any (.pointer (some ⟨w.heap.size + 1, 0, none⟩)) n c x _ _ (ExAt.on HT.out.b _ hx) (isSo2_fn e (w.heap.size + 1) n x _ HT.out.e IH))
  have EQ : Hid (isX (n + 1) x e = (List.range x.sub.length).any fun i => isX n (x.sub.getD i noX) e) := hide (by rw [isX_step, if_neg (by omega), if_neg (by omega), if_pos hk, range_any (fun y => isX n y e) x.sub])
  generalize ((List.range x.sub.length).any fun i => isX n (x.sub.getD i noX) e) = q at X EQ
  clear hx hv hc hk IH
  unfold exObj evObj at HT X
  unfold EC.val evVal
  go_enter Tryz.func58, Tryz.ntmps58
  go_wp2_with fail
  refine (unhide X).mono ?_
  rintro r w2 ⟨rfl, b2⟩
  have HT2 := hide (HT.out.on b2)
  clear X b2 HT
  go_wp2
  go_ret
  exact ⟨ret_bool EQ.out.symm, HT2.out.b⟩
set_option maxHeartbeats 8000000 in
set_option maxRecDepth 100000 in
theorem isSo_not (n : Nat) (x : ExV) (c : EC) (e : EvV) (w : World) (hx : ExAt (n + 1) w c.val x) (k1 : ¬ x.kind = 1) (k2 : ¬ x.kind = 2) (k3 : ¬ x.kind = 3) (h1 : x.sub.length = 1)
    (IH : ∀ y ∈ x.sub, ∀ (d : EC) (W : World), ExAt n W d.val y → Calls Tryz.prog 58 #[d.val, evVal e] W fun r W' => r = .returned (.bool (isX n y e)) ∧ Below W.heap.size W W') :
    Calls Tryz.prog 58 #[c.val, evVal e] w fun r w' => r = .returned (.bool (isX (n + 1) x e)) ∧ Below w.heap.size w w' := by
  obtain ⟨c', hv, hc, _⟩ := id hx
  obtain rfl := ec_inj hv
  have e1 : (c.k == 1) = false := by rw [hc.k]; simpa using k1
  have e2 : (c.k == 2) = false := by rw [hc.k]; simpa using k2
  have e3 : (c.k == 3) = false := by rw [hc.k]; simpa using k3
  have hn : Hid (c.n = 1) := hide (by rw [hc.n, h1])
  have HT := hide (XeAt.new w c e)
  have hl : 0 < x.sub.length := by omega
  obtain ⟨g, off, d, hp, hg, hd, hy⟩ := hx.part 0 hl
  have R := fun (W : World) (hb : Below w.heap.size w W) => hide (IH _ (getD_mem hl) d W (ExAt.on hb _ hy))
  have EQ : Hid (isX (n + 1) x e = !isX n (x.sub.getD 0 noX) e) := hide (by
    rw [isX_step, if_neg k1, if_neg k2, if_neg k3]
    match hs : x.sub, hl with
    | y :: l, _ => rfl)
  generalize isX n (x.sub.getD 0 noX) e = q at R EQ
  have room := hc.room
  have big := hc.big
  clear hx hv hc IH k1 k2 k3 h1 hy hl
  unfold exObj evObj at HT
  unfold EC.val evVal at R ⊢
  have HC := hide hp
  clear hp
  go_enter Tryz.func58, Tryz.ntmps58
  go_wp2
  generalize (w.alloc (Obj.cells #[.int .i64 c.k, .int .i64 c.t, .bool c.s.a, .slice c.s.p c.s.n c.s.c, .bool c.s.d, .slice c.s.q c.s.m c.s.e, .slice c.p c.n c.c] 28)).alloc (Obj.cells #[.int .i64 e.v0.1, .int .i64 e.v0.2.1, .string e.v0.2.2, .int .i64 e.v1.1, .int .i64 e.v1.2.1, .string e.v1.2.2, .int .i64 e.v2.1, .int .i64 e.v2.2.1, .string e.v2.2.2, .int .i64 e.v3.1, .int .i64 e.v3.2.1, .string e.v3.2.2] 42) = wr at HT ⊢
  obtain ⟨c0, c1, c2, c3, c4, c5, c6⟩ := ecCells1 HT.out.x
  obtain ⟨d0, d1, d2, d3, d4, d5, d6, d7, d8, d9, d10, d11⟩ := evCells HT.out.e
  obtain ⟨f0, f1, f2, f3, f4, f5, f6⟩ := hd.on hg HT.out.b
  have X := fun (d : Nat) (os : Array Obj) => hide (Calls.regrown_of (R (Sort.grow (redrawn wr d) os) (HT.out.b.trans ((below_regrown wr d os).mono HT.out.b.size))).out)
  rw [HC.out, hn.out] at c6
  simp only [Nat.zero_mul, Nat.add_zero] at f0 f1 f2 f3 f4 f5 f6
  have q6 := cell_regrown c6
  have r0 := cell_regrown d0
  have r1 := cell_regrown d1
  have r2 := cell_regrown d2
  have r3 := cell_regrown d3
  have r4 := cell_regrown d4
  have r5 := cell_regrown d5
  have r6 := cell_regrown d6
  have r7 := cell_regrown d7
  have r8 := cell_regrown d8
  have r9 := cell_regrown d9
  have r10 := cell_regrown d10
  have r11 := cell_regrown d11
  have s0 := cell_regrown f0
  have s1 := cell_regrown f1
  have s2 := cell_regrown f2
  have s3 := cell_regrown f3
  have s4 := cell_regrown f4
  have s5 := cell_regrown f5
  have s6 := cell_regrown f6
  rw [hn.out] at room
  clear R c0 c1 c2 c3 c4 c5 c6 d0 d1 d2 d3 d4 d5 d6 d7 d8 d9 d10 d11 f0 f1 f2 f3 f4 f5 f6 hd hg HC hn
  refine wp_region_quiet_below mixed (by kernel_rfl) ?_
  repeat (first | go_big_quiet_step (exact unhide (X _ _)) | quiet_step (exact unhide (X _ _)))
  refine wpQuiet_nil ?_
  intro _ hw'
  obtain ⟨⟨dq, osq⟩, hw''⟩ := hw'
  subst hw''
  have HT2 := hide (HT.out.on (below_regrown wr dq osq))
  clear X q6 r0 r1 r2 r3 r4 r5 r6 r7 r8 r9 r10 r11 s0 s1 s2 s3 s4 s5 s6
  dsimp only
  generalize Sort.grow (redrawn wr dq) osq = w2 at HT2 ⊢
  go_wp2
  go_ret
  exact ⟨ret_bool EQ.out.symm, HT2.out.b⟩
theorem isSo_any (e : EvV) (hf : evFit e) : ∀ (n : Nat) (x : ExV) (c : EC) (w : World), ExAt n w c.val x → eachX n x = true →
    Calls Tryz.prog 58 #[c.val, evVal e] w fun r w' => r = .returned (.bool (isX n x e)) ∧ Below w.heap.size w w' := by
  intro n
  induction n with
  | zero => intro x c w h; cases h
  | succ n ih =>
    intro x c w hx he
    obtain ⟨hn, hs⟩ := each_sub he
    have IH : ∀ y ∈ x.sub, ∀ (d : EC) (W : World), ExAt n W d.val y → Calls Tryz.prog 58 #[d.val, evVal e] W fun r W' => r = .returned (.bool (isX n y e)) ∧ Below W.heap.size W W' := fun y hy d W h => ih y d W h (hs y hy)
    by_cases k1 : x.kind = 1
    · exact isSo_atom n x c e w hx hn k1 hf
    · by_cases k2 : x.kind = 2
      · exact isSo_and n x c e w hx k2 IH
      · by_cases k3 : x.kind = 3
        · exact isSo_or n x c e w hx k3 IH
        · exact isSo_not n x c e w hx k1 k2 k3 (node_not hn k1 k2 k3) IH
end Go.Proofs.YtlfhpocfacaaeaaGreat
/-
  An expression, opened from its reading.
-/
set_option linter.unusedSimpArgs false
set_option linter.unusedVariables false
namespace Go.Proofs.YtlfhpocfacaaeaaGreat
open Go.Deep Go.ChangeShapes Go.WideShapes Go.ChangeAt Go.WideMaps Go.WideElems Go.RowKit Go.Joins

theorem cellsEx : Tryz.prog.cellsOf 28 = 7 := by kernel_rfl
theorem cellsExs : Tryz.prog.cellsOf 26 = 1 := by kernel_rfl
def EC.list (c : EC) : List Value := [.int .i64 c.k, .int .i64 c.t, .bool c.s.a, .slice c.s.p c.s.n c.s.c, .bool c.s.d, .slice c.s.q c.s.m c.s.e, .slice c.p c.n c.c]
theorem seven {α : Type} {l : List α} (h : l.length = 7) : ∃ a0 a1 a2 a3 a4 a5 a6, l = [a0, a1, a2, a3, a4, a5, a6] := by
  match l, h with
  | [a0, a1, a2, a3, a4, a5, a6], _ => exact ⟨a0, a1, a2, a3, a4, a5, a6, rfl⟩
section
variable {H : Type} {enc : TypeId × Value → H} {W : World}
set_option maxHeartbeats 1000000 in
set_option maxRecDepth 100000 in
theorem open_exprc : ∀ (fuel : Nat) (cs : List Value) (y : DataW H × List MemPlace), DataW.trod enc Tryz.prog W 0 (fun _ => true) true fuel 28 cs = some y → ∃ (c : EC) (x : ExV), cs = c.list ∧ ExAt fuel W c.val x := by
  intro fuel
  induction fuel using Nat.strongRecOn with
  | ind fuel ih =>
  intro cs y h
  obtain ⟨xs, n, rfl, _, hlen, hl, hf⟩ := DataW.trod_struct Tryz.underlying28 h
  rw [cellsEx] at hlen
  obtain ⟨a0, a1, a2, a3, a4, a5, a6, rfl⟩ := seven hlen
  match xs, hl with
  | [y0, y1, y2, y3], _ =>
    have g0 := hf 0 _ rfl
    have g1 := hf 1 _ rfl
    have g2 := hf 2 _ rfl
    have g3 := hf 3 _ rfl
    simp only [cellsI, cellsSet, cellsExs, List.drop_zero, List.drop_succ_cons, List.take_succ_cons, List.take_zero, List.getElem?_cons_zero, List.getElem?_cons_succ] at g0 g1 g2 g3
    obtain ⟨k, e0, _, wk⟩ := DataW.trod_int Tryz.underlying3 g0
    obtain ⟨t, e1, _, wt⟩ := DataW.trod_int Tryz.underlying3 g1
    obtain ⟨S, hS⟩ := open_setc g2
    obtain ⟨s, es⟩ := hS.sc
    have hS' := hS
    rw [es] at hS'
    unfold SC.val at es
    simp [cellsI] at e0 e1 es
    obtain ⟨rfl, rfl, rfl, rfl⟩ := es
    subst e0 e1
    obtain ⟨k0, k1⟩ := bounds_i64 wk
    obtain ⟨t0, t1⟩ := bounds_i64 wt
    rcases DataW.trod_slice Tryz.underlying26 g3 with ⟨h0, _⟩ | ⟨a, len, cap, elems, rest, n', rfl, h0, _, hb, hlc, hm, hel, he, _, _⟩
    · simp [cellsExs] at h0
      subst h0
      exact ⟨⟨k, t, s, none, 0, 0⟩, ⟨k, t, S, []⟩, rfl, ⟨k, t, s, none, 0, 0⟩, rfl, ⟨rfl, rfl, rfl, k0, k1, t0, t1, hS', Nat.le_refl _, by simp, fun _ => ⟨rfl, rfl⟩⟩, fun i hi => by simp at hi⟩
    · simp [cellsExs] at h0
      subst h0
      have hone : ∀ i, i < len → ∃ cs' z, W.cells? 0 (a.add (i * 7)) 7 = some cs' ∧ DataW.trod enc Tryz.prog W 0 (fun _ => true) true n' 28 cs' = some z := fun i hi => by
        have h1 := he i hi
        rw [cellsEx, List.getElem?_eq_getElem (by omega), Option.bind_eq_some_iff] at h1
        obtain ⟨cs', h2, h3⟩ := h1
        exact ⟨cs', _, h2, h3⟩
      have hspot : 0 < len → a.spot = none := fun hpos => by
        obtain ⟨cs0, _, z1, _⟩ := hone 0 hpos
        obtain ⟨_, zl, zc⟩ := World.cells?_some z1
        have z0 := zc 0 (by omega)
        rw [List.getElem?_eq_getElem (by omega)] at z0
        simpa [Addr.add] using World.cell?_spot z0
      have hall : ∀ i, i < len → ∃ q : EC × ExV, EcAt W a.block (a.off + i * 7) q.1 ∧ ExAt n' W q.1.val q.2 := fun i hi => by
        obtain ⟨cs', z, h1, h2⟩ := hone i hi
        obtain ⟨d, x, hd, hx⟩ := ih n' (by omega) cs' z h2
        obtain ⟨_, zl, zc⟩ := World.cells?_some h1
        obtain ⟨bk, off, spot⟩ := a
        have hs : spot = none := hspot (by omega)
        subst hs hd
        have fj : ∀ j, ((Addr.mk bk off none).add (i * 7)).add j = ⟨bk, off + i * 7 + j, none⟩ := fun j => by rw [Go.Deep.add_add, Go.WideShapes.add_plain]; congr 1; omega
        have q0 := zc 0 (by omega)
        have q1 := zc 1 (by omega)
        have q2 := zc 2 (by omega)
        have q3 := zc 3 (by omega)
        have q4 := zc 4 (by omega)
        have q5 := zc 5 (by omega)
        have q6 := zc 6 (by omega)
        rw [fj] at q0 q1 q2 q3 q4 q5 q6
        exact ⟨(d, x), ⟨q0, q1, q2, q3, q4, q5, q6⟩, hx⟩
      have : Inhabited (EC × ExV) := ⟨(⟨0, 0, SC.zero, none, 0, 0⟩, noX)⟩
      obtain ⟨f, hf'⟩ := choose_lt hall
      refine ⟨⟨k, t, s, some a, len, cap⟩, ⟨k, t, S, (List.range len).map fun i => (f i).2⟩, rfl, ⟨k, t, s, some a, len, cap⟩, rfl, ⟨rfl, rfl, by simp, k0, k1, t0, t1, hS', hlc, by unfold maxLen at hm; dsimp only; omega, fun e => by cases e⟩, fun i hi => ?_⟩
      simp at hi
      obtain ⟨q1, q2⟩ := hf' i hi
      have hsp := hspot (by omega)
      refine ⟨a.block, a.off, (f i).1, by rw [← hsp], lt_cell (a := ⟨a.block, _, none⟩) q1.c0, q1, ?_⟩
      have hg : ((List.range len).map fun i => (f i).2).getD i noX = (f i).2 := by
        rw [List.getD_eq_getElem?_getD, List.getElem?_map, List.getElem?_range hi]
        rfl
      dsimp only
      rw [hg]
      exact ExAt.more n' (n' + 1) (by omega) q2
set_option maxRecDepth 100000 in
theorem open_exprA {r : Reach} {b0 : Nat} {v : Value} {d : DataW H} {p : List MemPlace} (hv : Value.okWide Tryz.prog W r b0 28 v) (h : DataW.Trod enc Tryz.prog W 0 (fun _ => true) true 28 v d p) :
    ∃ (n : Nat) (x : ExV), ExAt n W v x := by
  obtain ⟨cs, rfl, hsz⟩ := okWide_struct Tryz.underlying28 hv
  obtain ⟨l⟩ := cs
  obtain ⟨fuel, hf⟩ := h
  obtain ⟨c, x, hc, hx⟩ := open_exprc fuel _ _ hf
  refine ⟨fuel, x, ?_⟩
  have : l = c.list := by simpa [Value.cells] using hc
  subst this
  exact hx
end
end Go.Proofs.YtlfhpocfacaaeaaGreat
/-
  slices.Clone of ranges, of strings, of expressions; what lies in new blocks alone; the program's copiedSet.
-/
set_option linter.unusedSimpArgs false
set_option linter.unusedVariables false
namespace Go.Proofs.YtlfhpocfacaaeaaGreat
open Go.RowKit

/-! ### From a block on all is as it was -/
structure Kept (m : Nat) (w w' : World) : Prop where
  size : w.heap.size ≤ w'.heap.size
  block : ∀ g, m ≤ g → g < w.heap.size → w'.heap[g]? = w.heap[g]?
theorem Kept.refl (m : Nat) (w : World) : Kept m w w := ⟨Nat.le_refl _, fun _ _ _ => rfl⟩
theorem Kept.ofBelow {m : Nat} {w w' : World} (h : Below w.heap.size w w') : Kept m w w' := ⟨h.size, fun g _ hg => h.block g hg⟩
theorem Kept.trans {m : Nat} {w w' w'' : World} (h : Kept m w w') (k : Kept m w' w'') : Kept m w w'' := ⟨Nat.le_trans h.size k.size, fun g hm hg => (k.block g hm (Nat.lt_of_lt_of_le hg h.size)).trans (h.block g hm hg)⟩
theorem Kept.mono {m m' : Nat} {w w' : World} (h : Kept m w w') (hm : m ≤ m') : Kept m' w w' := ⟨h.size, fun g hg => h.block g (Nat.le_trans hm hg)⟩
theorem Kept.cell {m : Nat} {w w' : World} (h : Kept m w w') {p : Addr} (hm : m ≤ p.block) (hp : p.block < w.heap.size) : w'.cell? p = w.cell? p := World.cell?_of_block (h.block _ hm hp)
theorem Kept.setCell {m : Nat} (w : World) (g i : Nat) (v : Value) (h : g < m) : Kept m w (w.setCell ⟨g, i, none⟩ v) := ⟨by simp, fun k hk _ => Below.heap_setCell _ _ _ k (fun e => by dsimp only at e; omega)⟩
theorem ownsRow_kept {w w' : World} {B : Nat} {e : TypeId} {size : Nat} {v : Value} {n : Nat} {xs : List Value} (h : w.ownsRow B e size v n xs) (hk : Kept B w w') : w'.ownsRow B e size v n xs := by
  refine ⟨h.1, ?_⟩
  rcases h.2 with h2 | ⟨g, cap, cur, e1, hg, hc, hr⟩
  · exact Or.inl h2
  · exact Or.inr ⟨g, cap, cur, e1, hg, (hk.block g hg (Array.getElem?_eq_some_iff.1 hc).1).trans hc, hr⟩
theorem soft_heap {w : World} {g : Nat} {cs : Array Value} {t : TypeId} (h : w.heap[g]? = some (.cells cs t (0, 0))) (i : Nat) : w.frozen? ⟨g, i, none⟩ = false := by
  unfold World.frozen?
  rw [h]
  simp
theorem ownsRow_form {w : World} {B : Nat} {e : TypeId} {size : Nat} {v : Value} {n : Nat} {xs : List Value} (h : w.ownsRow B e size v n xs) : ∃ p c, v = .slice p n c ∧ n ≤ c ∧ c ≤ maxLen ∧ (p = none → n = 0 ∧ c = 0) := by
  rcases h.2 with ⟨rfl, rfl⟩ | ⟨g, cap, cur, rfl, _, _, h1, h2, _⟩
  · exact ⟨none, 0, rfl, Nat.le_refl _, by unfold maxLen; omega, fun _ => ⟨rfl, rfl⟩⟩
  · exact ⟨_, cap, rfl, h1, h2, fun e => by cases e⟩
theorem ownsRow_cell {w : World} {B : Nat} {e : TypeId} {size : Nat} {g n c : Nat} {xs : List Value} (h : w.ownsRow B e size (.slice (some ⟨g, 0, none⟩) n c) n xs) (i : Nat) (u : Value) (hi : xs[i]? = some u) : w.cell? ⟨g, i, none⟩ = some u := by
  rcases h.2 with ⟨h0, _⟩ | ⟨g', cap, cur, e1, _, hc, _, _, _, ht⟩
  · cases h0
  · injection e1 with e1 _ _
    injection e1 with e1
    injection e1 with e1 _ _
    subst e1
    have hl : i < n * size := by rw [← h.1]; exact (List.getElem?_eq_some_iff.1 hi).1
    rw [cell_heap hc, ← hi, ← ht, List.getElem?_take, if_pos hl]
    simp
theorem ownsRow_at {w : World} {B : Nat} {e : TypeId} {size : Nat} {a : Addr} {n c : Nat} {xs : List Value} (h : w.ownsRow B e size (.slice (some a) n c) n xs) : ∃ g cur, a = ⟨g, 0, none⟩ ∧ B ≤ g ∧ w.heap[g]? = some (.cells cur e (0, 0)) := by
  rcases h.2 with ⟨h0, _⟩ | ⟨g', cap, cur, e1, hb, hc, _⟩
  · cases h0
  · injection e1 with e1 _ _
    injection e1 with e1
    exact ⟨g', cur, e1, hb, hc⟩
theorem cInfoR : (Tryz.prog.info? 72).map (fun i => (i.zero, i.size, i.bytes)) = some (some (.agg #[.int .i64 0, .int .i64 0]), 2, 16) := by kernel_rfl
set_option maxHeartbeats 1000000 in
set_option maxRecDepth 100000 in
theorem cloneR_nil (w : World) : Calls Tryz.prog 85 #[.slice none 0 0] w fun r w' => r = .returned (.slice none 0 0) ∧ w' = w := by
  have QN := fun (W : World) => Lib.run_eql_slice_nil W _ _ none 0 0 0 0 Tryz.underlying22
  simp only [Option.isNone_none] at QN
  go_enter Tryz.func85, Tryz.ntmps85
  go_wp2
  go_ret
  exact ⟨rfl, rfl⟩
set_option maxHeartbeats 1000000 in
set_option maxRecDepth 100000 in
theorem cloneR_some (ad : Addr) (m c : Nat) (news : List Value) (w : World) (hl : news.length = m * 2) (hnews : ∀ j u, news[j]? = some u → w.cell? (ad.add j) = some u) (h1 : ∀ u ∈ news, u.oneCell' = true) (hb : m * 16 ≤ 140737488355328) :
    Calls Tryz.prog 85 #[.slice (some ad) m c] w fun r w' => (∃ v, r = .returned v ∧ w'.ownsRow w.heap.size 72 2 v m news) ∧ Below w.heap.size w w' := by
  obtain ⟨i0, hi, hz0, hz1, hz2⟩ := info_parts cInfoR
  have HI := hide hi
  have HZ0 := hide hz0
  have HZ1 := hide hz1
  have HZ2 := hide hz2
  have HL := hide hl
  have H1 := hide h1
  have HB := hide hb
  have HN : Hid (∀ j u, news[j]? = some u → (w.alloc (Obj.cells #[] 72)).cell? (ad.add j) = some u) := hide (fun j u hj => (World.grownBy_alloc w (Obj.cells #[] 72) none).cell (hnews j u hj) (by simp))
  have HO : Hid ((w.alloc (Obj.cells #[] 72)).ownsRow w.heap.size 72 2 (.slice (some ⟨w.heap.size, 0, none⟩) 0 0) 0 []) := hide ⟨rfl, Or.inr ⟨w.heap.size, 0, #[], rfl, Nat.le_refl _, heap_top _ _, Nat.le_refl _, by unfold maxLen; omega, rfl, rfl⟩⟩
  have b0 := (Below.refl _ w).alloc (Nat.le_refl _) (Obj.cells #[] 72)
  have B0 := hide b0
  have QN := fun (W : World) => Lib.run_eql_slice_nil W _ _ (some ad) m c 0 0 Tryz.underlying22
  simp only [Option.isNone_some] at QN
  clear hi hz0 hz1 hz2 hl h1 hb hnews b0
  go_enter Tryz.func85, Tryz.ntmps85
  go_wp2_with (at_builtin; refine wpList_append_own _ rfl _ _ 22 rfl w.heap.size 72 i0 _ 2 16 Tryz.underlying22 HI.out HZ0.out HZ1.out HZ2.out rfl (by decide) _ 0 [] rfl HO.out ad m c news rfl HL.out HN.out H1.out (by have := HB.out; unfold maxLen; omega) (by have := HB.out; omega) B0.out.size ?_; intro v8 w8 h8 g8 _; have O8 := hide h8; have B8 := hide (B0.out.grown g8 B0.out.size (fun k hk => by cases hk; exact Nat.le_refl _)); clear h8 g8)
  go_ret
  have := O8.out
  rw [Nat.zero_add, List.nil_append] at this
  exact ⟨⟨_, rfl, this⟩, B8.out⟩
theorem cInfoS : (Tryz.prog.info? 9).map (fun i => (i.zero, i.size, i.bytes)) = some (some (.string ⟨#[]⟩), 1, 16) := by kernel_rfl
set_option maxHeartbeats 1000000 in
set_option maxRecDepth 100000 in
theorem cloneS_nil (w : World) : Calls Tryz.prog 86 #[.slice none 0 0] w fun r w' => r = .returned (.slice none 0 0) ∧ w' = w := by
  have QN := fun (W : World) => Lib.run_eql_slice_nil W _ _ none 0 0 0 0 Tryz.underlying23
  simp only [Option.isNone_none] at QN
  go_enter Tryz.func86, Tryz.ntmps86
  go_wp2
  go_ret
  exact ⟨rfl, rfl⟩
set_option maxHeartbeats 1000000 in
set_option maxRecDepth 100000 in
theorem cloneS_some (ad : Addr) (m c : Nat) (news : List Value) (w : World) (hl : news.length = m * 1) (hnews : ∀ j u, news[j]? = some u → w.cell? (ad.add j) = some u) (h1 : ∀ u ∈ news, u.oneCell' = true) (hb : m * 16 ≤ 140737488355328) :
    Calls Tryz.prog 86 #[.slice (some ad) m c] w fun r w' => (∃ v, r = .returned v ∧ w'.ownsRow w.heap.size 9 1 v m news) ∧ Below w.heap.size w w' := by
  obtain ⟨i0, hi, hz0, hz1, hz2⟩ := info_parts cInfoS
  have HI := hide hi
  have HZ0 := hide hz0
  have HZ1 := hide hz1
  have HZ2 := hide hz2
  have HL := hide hl
  have H1 := hide h1
  have HB := hide hb
  have HN : Hid (∀ j u, news[j]? = some u → (w.alloc (Obj.cells #[] 9)).cell? (ad.add j) = some u) := hide (fun j u hj => (World.grownBy_alloc w (Obj.cells #[] 9) none).cell (hnews j u hj) (by simp))
  have HO : Hid ((w.alloc (Obj.cells #[] 9)).ownsRow w.heap.size 9 1 (.slice (some ⟨w.heap.size, 0, none⟩) 0 0) 0 []) := hide ⟨rfl, Or.inr ⟨w.heap.size, 0, #[], rfl, Nat.le_refl _, heap_top _ _, Nat.le_refl _, by unfold maxLen; omega, rfl, rfl⟩⟩
  have b0 := (Below.refl _ w).alloc (Nat.le_refl _) (Obj.cells #[] 9)
  have B0 := hide b0
  have QN := fun (W : World) => Lib.run_eql_slice_nil W _ _ (some ad) m c 0 0 Tryz.underlying23
  simp only [Option.isNone_some] at QN
  clear hi hz0 hz1 hz2 hl h1 hb hnews b0
  go_enter Tryz.func86, Tryz.ntmps86
  go_wp2_with (at_builtin; refine wpList_append_own _ rfl _ _ 23 rfl w.heap.size 9 i0 _ 1 16 Tryz.underlying23 HI.out HZ0.out HZ1.out HZ2.out rfl (by decide) _ 0 [] rfl HO.out ad m c news rfl HL.out HN.out H1.out (by have := HB.out; unfold maxLen; omega) (by have := HB.out; omega) B0.out.size ?_; intro v8 w8 h8 g8 _; have O8 := hide h8; have B8 := hide (B0.out.grown g8 B0.out.size (fun k hk => by cases hk; exact Nat.le_refl _)); clear h8 g8)
  go_ret
  have := O8.out
  rw [Nat.zero_add, List.nil_append] at this
  exact ⟨⟨_, rfl, this⟩, B8.out⟩
theorem cInfoX : (Tryz.prog.info? 28).map (fun i => (i.zero, i.size, i.bytes)) = some (some (.agg #[.int .i64 0, .int .i64 0, .bool false, .slice none 0 0, .bool false, .slice none 0 0, .slice none 0 0]), 7, 104) := by kernel_rfl
set_option maxHeartbeats 1000000 in
set_option maxRecDepth 100000 in
theorem cloneX_nil (w : World) : Calls Tryz.prog 92 #[.slice none 0 0] w fun r w' => r = .returned (.slice none 0 0) ∧ w' = w := by
  have QN := fun (W : World) => Lib.run_eql_slice_nil W _ _ none 0 0 0 0 Tryz.underlying26
  simp only [Option.isNone_none] at QN
  go_enter Tryz.func92, Tryz.ntmps92
  go_wp2
  go_ret
  exact ⟨rfl, rfl⟩
set_option maxHeartbeats 1000000 in
set_option maxRecDepth 100000 in
theorem cloneX_some (ad : Addr) (m c : Nat) (news : List Value) (w : World) (hl : news.length = m * 7) (hnews : ∀ j u, news[j]? = some u → w.cell? (ad.add j) = some u) (h1 : ∀ u ∈ news, u.oneCell' = true) (hb : m * 104 ≤ 140737488355328) :
    Calls Tryz.prog 92 #[.slice (some ad) m c] w fun r w' => (∃ v, r = .returned v ∧ w'.ownsRow w.heap.size 28 7 v m news) ∧ Below w.heap.size w w' := by
  obtain ⟨i0, hi, hz0, hz1, hz2⟩ := info_parts cInfoX
  have HI := hide hi
  have HZ0 := hide hz0
  have HZ1 := hide hz1
  have HZ2 := hide hz2
  have HL := hide hl
  have H1 := hide h1
  have HB := hide hb
  have HN : Hid (∀ j u, news[j]? = some u → (w.alloc (Obj.cells #[] 28)).cell? (ad.add j) = some u) := hide (fun j u hj => (World.grownBy_alloc w (Obj.cells #[] 28) none).cell (hnews j u hj) (by simp))
  have HO : Hid ((w.alloc (Obj.cells #[] 28)).ownsRow w.heap.size 28 7 (.slice (some ⟨w.heap.size, 0, none⟩) 0 0) 0 []) := hide ⟨rfl, Or.inr ⟨w.heap.size, 0, #[], rfl, Nat.le_refl _, heap_top _ _, Nat.le_refl _, by unfold maxLen; omega, rfl, rfl⟩⟩
  have b0 := (Below.refl _ w).alloc (Nat.le_refl _) (Obj.cells #[] 28)
  have B0 := hide b0
  have QN := fun (W : World) => Lib.run_eql_slice_nil W _ _ (some ad) m c 0 0 Tryz.underlying26
  simp only [Option.isNone_some] at QN
  clear hi hz0 hz1 hz2 hl h1 hb hnews b0
  go_enter Tryz.func92, Tryz.ntmps92
  go_wp2_with (at_builtin; refine wpList_append_own _ rfl _ _ 26 rfl w.heap.size 28 i0 _ 7 104 Tryz.underlying26 HI.out HZ0.out HZ1.out HZ2.out rfl (by decide) _ 0 [] rfl HO.out ad m c news rfl HL.out HN.out H1.out (by have := HB.out; unfold maxLen; omega) (by have := HB.out; omega) B0.out.size ?_; intro v8 w8 h8 g8 _; have O8 := hide h8; have B8 := hide (B0.out.grown g8 B0.out.size (fun k hk => by cases hk; exact Nat.le_refl _)); clear h8 g8)
  go_ret
  have := O8.out
  rw [Nat.zero_add, List.nil_append] at this
  exact ⟨⟨_, rfl, this⟩, B8.out⟩

/-! ### Rows of ranges and of strings, in new memory -/
theorem cloneR_new (v : Value) (l : List Rg) (w : World) (hv : RngsAt w v l) (hl : l.length * 16 ≤ 140737488355328) :
    Calls Tryz.prog 85 #[v] w fun r w' => (∃ p n c, r = .returned (.slice p n c) ∧ ∀ w'', Kept w.heap.size w' w'' → RngsAt w'' (.slice p n c) l) ∧ Below w.heap.size w w' := by
  have hi := hv.1
  obtain ⟨a, cap, rfl⟩ := hv.form
  have hr := hv.room
  cases a with
  | none =>
    obtain ⟨e1, e2⟩ := hr.2 rfl
    have e3 : l = [] := List.length_eq_zero_iff.1 e1
    subst e3
    simp only [List.length_nil] at *
    subst e2
    refine (cloneR_nil w).mono ?_
    rintro r w' ⟨rfl, rfl⟩
    exact ⟨⟨none, 0, 0, rfl, fun w'' _ => (ownR_none w'' 0).rngs (by intro r h; cases h) (by simp)⟩, Below.refl _ _⟩
  | some ad =>
    obtain ⟨_, _, ad', cap', e0, hel⟩ := hv
    simp at e0
    obtain ⟨e0, rfl⟩ := e0
    subst e0
    refine (cloneR_some ad l.length _ (rgCells l) w (rgCells_len l) ?_ (rgCells_one l) hl).mono ?_
    · intro j u hj
      have hjl : j < l.length * 2 := by
        have := (List.getElem?_eq_some_iff.1 hj).1
        rwa [rgCells_len] at this
      obtain ⟨b, off, e, _, c0, c1⟩ := hel (j / 2) (by omega)
      obtain ⟨a0, a1⟩ := rgCells_at l (j / 2) (by omega)
      simp at e
      subst e
      rw [Go.WideShapes.add_plain]
      rcases Nat.mod_two_eq_zero_or_one j with h | h
      · rw [show j = j / 2 * 2 by omega] at hj ⊢
        rw [← hj, a0]
        exact c0
      · rw [show j = j / 2 * 2 + 1 by omega] at hj ⊢
        rw [← hj, a1, ← Nat.add_assoc]
        exact c1
    · rintro r w' ⟨⟨v, rfl, ho⟩, hb⟩
      obtain ⟨p, c, rfl, _⟩ := ownsRow_form ho
      exact ⟨⟨p, l.length, c, rfl, fun w'' hk => OwnR.rngs (B := w.heap.size) (ownsRow_kept ho hk) hi (by omega)⟩, hb⟩
theorem strs_cells_at (l : List ByteArray) (i : Nat) (h : i < l.length) : (l.map Value.string)[i]? = some (.string (l.getD i ⟨#[]⟩)) := by
  rw [List.getElem?_map, List.getElem?_eq_getElem h, List.getD_eq_getElem?_getD, List.getElem?_eq_getElem h]
  rfl
theorem cloneS_new (v : Value) (l : List ByteArray) (w : World) (hv : StrsAt w v l) (hl : l.length * 16 ≤ 140737488355328) :
    Calls Tryz.prog 86 #[v] w fun r w' => (∃ p n c, r = .returned (.slice p n c) ∧ ∀ w'', Kept w.heap.size w' w'' → StrsAt w'' (.slice p n c) l) ∧ Below w.heap.size w w' := by
  have hi := hv.1
  obtain ⟨a, cap, rfl⟩ := hv.form
  have hr := hv.room
  cases a with
  | none =>
    obtain ⟨e1, e2⟩ := hr.2 rfl
    have e3 : l = [] := List.length_eq_zero_iff.1 e1
    subst e3
    simp only [List.length_nil] at *
    subst e2
    refine (cloneS_nil w).mono ?_
    rintro r w' ⟨rfl, rfl⟩
    exact ⟨⟨none, 0, 0, rfl, fun w'' _ => ⟨hi, hv.2.1, none, 0, rfl, fun i h => by simp at h⟩⟩, Below.refl _ _⟩
  | some ad =>
    have h2 := hv.2.1
    obtain ⟨_, _, ad', cap', e0, hel⟩ := hv
    simp at e0
    obtain ⟨e0, rfl⟩ := e0
    subst e0
    refine (cloneS_some ad l.length _ (l.map Value.string) w (by simp) ?_ (fun u hu => by obtain ⟨s, _, rfl⟩ := List.mem_map.1 hu; rfl) hl).mono ?_
    · intro j u hj
      have hjl : j < l.length := by
        have := (List.getElem?_eq_some_iff.1 hj).1
        simpa using this
      obtain ⟨b, off, e, _, c0⟩ := hel j hjl
      simp at e
      subst e
      rw [Go.WideShapes.add_plain, c0, ← hj, strs_cells_at l j hjl]
    · rintro r w' ⟨⟨v, rfl, ho⟩, hb⟩
      obtain ⟨p, c, rfl, _, _⟩ := ownsRow_form ho
      refine ⟨⟨p, l.length, c, rfl, fun w'' hk => ?_⟩, hb⟩
      have ho' := ownsRow_kept ho hk
      refine ⟨hi, h2, ?_⟩
      rcases ho'.2 with ⟨e, h0⟩ | ⟨g, cap, cur, e, _, hg, hc, _⟩
      · exact ⟨none, 0, by rw [e, h0]; rfl, fun i hi' => by omega⟩
      · obtain ⟨sp, hsp⟩ := capOf_of (a := some ⟨g, 0, none⟩) hc (fun e => by cases e)
        rw [e] at ho' ⊢
        refine ⟨_, sp, by rw [← hsp], fun i hi' => ⟨g, 0, rfl, lt_heap hg, ?_⟩⟩
        rw [Nat.zero_add]
        exact ownsRow_cell ho' i _ (strs_cells_at l i hi')
end Go.Proofs.YtlfhpocfacaaeaaGreat
/-
  The program's copiedSet: a set in new memory.
-/
set_option linter.unusedSimpArgs false
set_option linter.unusedVariables false
namespace Go.Proofs.YtlfhpocfacaaeaaGreat
open Go.RowKit

theorem setAt_ints {w : World} {s : SC} {S : SetV} (h : SetAt w s.val S) : RngsAt w (.slice s.p s.n s.c) S.ints := by
  obtain ⟨vi, vs, e, hI, hS⟩ := h
  unfold SC.val at e
  simp at e
  obtain ⟨e1, e2, e3, e4⟩ := e
  rw [e2]; exact hI
theorem setAt_strs {w : World} {s : SC} {S : SetV} (h : SetAt w s.val S) : StrsAt w (.slice s.q s.m s.e) S.strs := by
  obtain ⟨vi, vs, e, hI, hS⟩ := h
  unfold SC.val at e
  simp at e
  obtain ⟨e1, e2, e3, e4⟩ := e
  rw [e4]; exact hS
theorem setAt_mk {w : World} {s : SC} {S : SetV} (h : SetAt w s.val S) {w' : World} {p q : Option Addr} {n c m e : Nat} (hr : RngsAt w' (.slice p n c) S.ints) (hs : StrsAt w' (.slice q m e) S.strs) : SetAt w' (SC.mk s.a p n c s.d q m e).val S := by
  obtain ⟨vi, vs, ee, hI, hS⟩ := h
  unfold SC.val at ee
  simp at ee
  obtain ⟨e1, e2, e3, e4⟩ := ee
  refine ⟨_, _, ?_, hr, hs⟩
  unfold SC.val
  rw [← e1, ← e3]
def stObj (s : SC) : Obj := Obj.cells #[.bool s.a, .slice s.p s.n s.c, .bool s.d, .slice s.q s.m s.e] 25
theorem stCells {w : World} {g : Nat} {t : TypeId} {x0 x1 x2 x3 : Value} (h : w.heap[g]? = some (.cells #[x0, x1, x2, x3] t (0, 0))) : w.cell? ⟨g, 0, none⟩ = some x0 ∧ w.cell? ⟨g, 1, none⟩ = some x1 ∧ w.cell? ⟨g, 2, none⟩ = some x2 ∧ w.cell? ⟨g, 3, none⟩ = some x3 :=
  ⟨cell_heap h 0, cell_heap h 1, cell_heap h 2, cell_heap h 3⟩
theorem infoSet4 : (Tryz.prog.info? 25).map (·.size) = some 4 := by kernel_rfl
/-- Two blocks of a call's own, the first ones. -/
structure Pair (w W : World) (o1 o2 : Obj) : Prop where
  e1 : W.heap[w.heap.size]? = some o1
  e2 : W.heap[w.heap.size + 1]? = some o2
  b : Below w.heap.size w W
theorem Pair.new (w : World) (o1 o2 : Obj) : Pair w ((w.alloc o1).alloc o2) o1 o2 := by
  refine ⟨(Below.heap_alloc (w.alloc o1) o2 w.heap.size (by simp)).trans (heap_new w _), ?_, ((Below.refl _ w).alloc (Nat.le_refl _) _).alloc (by simp) _⟩
  have := heap_new (w.alloc o1) o2
  rw [World.size_alloc] at this
  exact this
theorem Pair.on {w W W' : World} {o1 o2 : Obj} (h : Pair w W o1 o2) (hb : Below W.heap.size W W') : Pair w W' o1 o2 := ⟨(hb.block _ (lt_heap h.e1)).trans h.e1, (hb.block _ (lt_heap h.e2)).trans h.e2, h.b.trans (hb.mono h.b.size)⟩
theorem Pair.put1 {w W : World} {cs : Array Value} {t : TypeId} {o2 : Obj} (h : Pair w W (.cells cs t (0, 0)) o2) (i : Nat) (v : Value) : Pair w (W.setCell ⟨w.heap.size, i, none⟩ v) (.cells (cs.setIfInBounds i v) t (0, 0)) o2 :=
  ⟨heap_setCell (i := i) v h.e1, (Below.heap_setCell _ _ _ _ (by simp)).trans h.e2, h.b.setCell (p := ⟨w.heap.size, i, none⟩) (Nat.le_refl _) v⟩
theorem Pair.put2 {w W : World} {cs : Array Value} {t : TypeId} {o1 : Obj} (h : Pair w W o1 (.cells cs t (0, 0))) (i : Nat) (v : Value) : Pair w (W.setCell ⟨w.heap.size + 1, i, none⟩ v) o1 (.cells (cs.setIfInBounds i v) t (0, 0)) :=
  ⟨(Below.heap_setCell _ _ _ _ (by simp)).trans h.e1, heap_setCell (i := i) v h.e2, h.b.setCell (p := ⟨w.heap.size + 1, i, none⟩) (by simp) v⟩
theorem Pair.size {w W : World} {o1 o2 : Obj} (h : Pair w W o1 o2) : w.heap.size + 1 < W.heap.size := lt_heap h.e2

set_option maxHeartbeats 4000000 in
set_option maxRecDepth 100000 in
theorem copiedSet_any (s : SC) (S : SetV) (w : World) (hv : SetAt w s.val S) (h1 : S.ints.length * 16 ≤ 140737488355328) (h2 : S.strs.length * 16 ≤ 140737488355328) :
    Calls Tryz.prog 59 #[s.val] w fun r w' => (∃ y : SC, r = .returned y.val ∧ ∀ w'', Kept w.heap.size w' w'' → SetAt w'' y.val S) ∧ Below w.heap.size w w' := by
  have HV := hide hv
  have H1 := hide h1
  have H2 := hide h2
  have T0 := hide (Pair.new w (stObj s) (stObj SC.zero))
  clear hv h1 h2
  unfold stObj SC.zero at T0
  unfold SC.val
  go_enter Tryz.func59, Tryz.ntmps59
  go_wp2_with fail
  generalize (w.alloc (Obj.cells #[.bool s.a, .slice s.p s.n s.c, .bool s.d, .slice s.q s.m s.e] 25)).alloc (Obj.cells #[.bool false, .slice none 0 0, .bool false, .slice none 0 0] 25) = W0 at T0 ⊢
  refine (cloneR_new _ S.ints W0 (setAt_ints (HV.out.on T0.out.b)) H1.out).mono ?_
  rintro r w1 ⟨⟨p, n, c, rfl, hR⟩, b1⟩
  have T1 := hide (T0.out.on b1)
  have HR := hide hR
  have K1 := hide T0.out.size
  have K0 := hide b1.size
  obtain ⟨c0, c1, c2, c3⟩ := stCells T1.out.e1
  have z1 := soft_heap T1.out.e1 1
  have T2 := hide (T1.out.put1 1 (.slice p n c))
  clear hR b1 T0
  go_wp2_with fail
  refine (cloneS_new _ S.strs _ (setAt_strs (HV.out.on T2.out.b)) H2.out).mono ?_
  rintro r w2 ⟨⟨q, m, e, rfl, hS⟩, b2⟩
  have T3 := hide (T2.out.on b2)
  have K2 := hide (Kept.trans (Kept.setCell w1 w.heap.size 1 (.slice p n c) (m := W0.heap.size) (by have := K1.out; omega)) (Kept.ofBelow b2))
  have L2 := hide (show W0.heap.size ≤ (w1.setCell ⟨w.heap.size, 1, none⟩ (.slice p n c)).heap.size by have := K0.out; simp; omega)
  have HS := hide hS
  have e1 : w2.heap[w.heap.size]? = some (.cells #[.bool s.a, .slice p n c, .bool s.d, .slice s.q s.m s.e] 25 (0, 0)) := T3.out.e1
  obtain ⟨d0, d1, d2, d3⟩ := stCells e1
  have y3 := soft_heap e1 3
  have T4 : Hid (Pair w (w2.setCell ⟨w.heap.size, 3, none⟩ (.slice q m e)) (.cells #[.bool s.a, .slice p n c, .bool s.d, .slice q m e] 25 (0, 0)) (.cells #[.bool false, .slice none 0 0, .bool false, .slice none 0 0] 25 (0, 0))) := hide (T3.out.put1 3 (.slice q m e))
  have K3 := hide (Kept.setCell w2 w.heap.size 3 (.slice q m e) (m := W0.heap.size) (by have := K1.out; omega))
  clear hS b2 T2 c0 c1 c2 c3 z1 e1 T3 T1
  go_upto_region 3 with fail
  generalize w2.setCell ⟨w.heap.size, 3, none⟩ (.slice q m e) = w3 at T4 K3 ⊢
  clear d0 d1 d2 d3 y3
  obtain ⟨c0, c1, c2, c3⟩ := stCells T4.out.e1
  obtain ⟨d0, d1, d2, d3⟩ := stCells T4.out.e2
  have z0 := soft_heap T4.out.e2 0
  have z1 := soft_heap T4.out.e2 1
  have z2 := soft_heap T4.out.e2 2
  have z3 := soft_heap T4.out.e2 3
  have T5 : Hid (Pair w ((((w3.setCell ⟨w.heap.size + 1, 0, none⟩ (.bool s.a)).setCell ⟨w.heap.size + 1, 1, none⟩ (.slice p n c)).setCell ⟨w.heap.size + 1, 2, none⟩ (.bool s.d)).setCell ⟨w.heap.size + 1, 3, none⟩ (.slice q m e)) (.cells #[.bool s.a, .slice p n c, .bool s.d, .slice q m e] 25 (0, 0)) (.cells #[.bool s.a, .slice p n c, .bool s.d, .slice q m e] 25 (0, 0))) := hide ((((T4.out.put2 0 (.bool s.a)).put2 1 (.slice p n c)).put2 2 (.bool s.d)).put2 3 (.slice q m e))
  have K4 := hide ((((Kept.setCell w3 (w.heap.size + 1) 0 (.bool s.a) (m := W0.heap.size) K1.out).trans (Kept.setCell _ (w.heap.size + 1) 1 (.slice p n c) K1.out)).trans (Kept.setCell _ (w.heap.size + 1) 2 (.bool s.d) K1.out)).trans (Kept.setCell _ (w.heap.size + 1) 3 (.slice q m e) K1.out))
  go_wp2
  refine bodyPost_ret (results_cell_row rfl _ _ (w.heap.size + 1) 25 _ (0, 0) _ rfl T5.out.e2 Tryz.underlying25 rfl infoSet4) rfl ⟨⟨⟨s.a, p, n, c, s.d, q, m, e⟩, rfl, fun w'' hk => ?_⟩, T5.out.b⟩
  have hk' := hk.mono (m' := W0.heap.size) (by have := K1.out; omega)
  have k3 := (K3.out.trans K4.out).trans hk'
  exact setAt_mk HV.out (HR.out w'' (K2.out.trans k3)) (HS.out w'' (k3.mono L2.out))
end Go.Proofs.YtlfhpocfacaaeaaGreat
/-
  Steps of a region that draws its order, one law for each kind of operation: what yields its value in every world that meets S, and a call of a Go function.
-/
set_option linter.unusedSimpArgs false
set_option linter.unusedVariables false
namespace Go.Proofs.YtlfhpocfacaaeaaGreat
open Go.RowKit

section
variable {ops : Array Oper} {Q : Exit → Act → World → Prop} {S : World → Prop} {o : Oper} {a : Act}
theorem yl_move (hw : Region.wanted o (yielded ops a.tmps) = true) (x : Operand) (ho : o.op = .move x) (v : Value) (hx : a.eval x = v) : YieldsIf Tryz.prog ops S o v a :=
  Or.inl ⟨hw, fun w _ => by simp [execOp, ho, hx]⟩
theorem yl_assign (hw : Region.wanted o (yielded ops a.tmps) = true) (x : Operand) (ho : o.op = .assign x) (v : Value) (hx : a.eval x = v) : YieldsIf Tryz.prog ops S o v a :=
  Or.inl ⟨hw, fun w _ => by simp [execOp, ho, hx]⟩
theorem yl_not (hw : Region.wanted o (yielded ops a.tmps) = true) (t : TypeId) (x : Operand) (ho : o.op = .unOp .not t x) (b : Bool) (hx : a.eval x = .bool b) : YieldsIf Tryz.prog ops S o (.bool (!b)) a :=
  Or.inl ⟨hw, fun w _ => by simp [execOp, ho, hx]; go_simp⟩
theorem yl_pickT (hw : Region.wanted o (yielded ops a.tmps) = true) (c x y : Operand) (ho : o.op = .pick c x y) (hc : a.eval c = .bool true) (v : Value) (hx : a.eval x = v) : YieldsIf Tryz.prog ops S o v a :=
  Or.inl ⟨hw, fun w _ => by simp [execOp, ho, hc, hx]; go_simp⟩
theorem yl_pickF (hw : Region.wanted o (yielded ops a.tmps) = true) (c x y : Operand) (ho : o.op = .pick c x y) (hc : a.eval c = .bool false) (v : Value) (hx : a.eval y = v) : YieldsIf Tryz.prog ops S o v a :=
  Or.inl ⟨hw, fun w _ => by simp [execOp, ho, hc, hx]; go_simp⟩
theorem yl_undef (hw : Region.wanted o (yielded ops a.tmps) = false) : YieldsIf Tryz.prog ops S o undef a := Or.inr ⟨hw, rfl⟩

theorem run_call {f : Nat} {fn : Func} (hf : Tryz.prog.funcs[f]? = some fn) (hn : (fn.name == "runtime.NumGoroutine") = false) (hb : fn.body.isNone = false) (W : World) (A : Array Value) : (callFunc f A).run Tryz.prog W = .ok (.enter f A) W := by
  simp [callFunc, go_sem, hf, -beq_iff_eq, -Option.isNone_iff_eq_none, hn, hb]
/-- A call of a Go function, the only one that may come up now. -/
theorem held_call {md : Region.Mode} {fuel : Nat} {listed : Array Bool} {w : World} (i : Nat) (hr : Region.ready md ops listed = [i]) (hi : ops[i]? = some o) (hw : Region.wanted o (yielded ops a.tmps) = true)
    (f : Nat) (xs : Array Operand) (ts : Array TypeId) (ho : o.op = .call { callee := .value (.func f), args := xs, argTypes := ts }) (vs : Array Value) (hv : xs.toList.map a.eval = vs.toList)
    (hrun : ∀ (W : World) (A : Array Value), (callFunc f A).run Tryz.prog W = .ok (.enter f A) W)
    (hc : Calls Tryz.prog f vs w fun r w' => ∃ v, r = .returned v ∧ S w' ∧ (S w' → wpAnyH Tryz.prog md ops Q S fuel (listed.setIfInBounds i true) (a.put o.dst v) w')) :
    wpAnyH Tryz.prog md ops Q S (fuel + 1) listed a w := by
  refine wpAnyH_all hr (by simp) ?_
  intro j hj
  simp at hj
  subst hj
  unfold wpOp
  simp only [hi]
  rw [if_pos hw]
  refine Or.inl ?_
  have hv : xs.map a.eval = vs := by
    rw [← Array.toList_inj, Array.toList_map]
    exact hv
  have he : a.eval (.func f) = .func (.func f) #[] #[] := rfl
  have hx : (execOp a.eval o).run Tryz.prog w = .ok (.enter f vs) w := by
    have := hrun w vs
    simp [execOp, ho, resolve, he, hv, Deferred.ofValue, invoke, this]
  unfold Oper.wp
  rw [hx, Oper.upon_enter]
  refine hc.mono ?_
  rintro e w' ⟨v, rfl, h1, h2⟩
  exact ⟨h1, h2 h1⟩
/-! ### Steps of a region that keeps its order -/
theorem wl_yield {rest : List Oper} {w : World} (v : Value) (hy : YieldsIf Tryz.prog ops (fun x => x = w) o v a) (h : wpList Tryz.prog ops Q rest (a.put o.dst v) w) : wpList Tryz.prog ops Q (o :: rest) a w := by
  unfold wpList
  rcases hy with ⟨hw, hv⟩ | ⟨hw, rfl⟩
  · rw [if_pos hw]
    left
    unfold Oper.wp
    rw [hv w rfl]
    exact h
  · rw [if_neg (by rw [hw]; simp)]
    exact h
theorem wl_run {rest : List Oper} {w : World} (hw : Region.wanted o (yielded ops a.tmps) = true) (v : Value) (w' : World) (hr : (execOp a.eval o).run Tryz.prog w = .ok (.value v) w') (h : wpList Tryz.prog ops Q rest (a.put o.dst v) w') : wpList Tryz.prog ops Q (o :: rest) a w := by
  unfold wpList
  rw [if_pos hw]
  left
  unfold Oper.wp
  rw [hr]
  exact h
theorem wl_call {rest : List Oper} {w : World} (hw : Region.wanted o (yielded ops a.tmps) = true)
    (f : Nat) (xs : Array Operand) (ts : Array TypeId) (ho : o.op = .call { callee := .value (.func f), args := xs, argTypes := ts }) (vs : Array Value) (hv : xs.toList.map a.eval = vs.toList)
    (hrun : ∀ (W : World) (A : Array Value), (callFunc f A).run Tryz.prog W = .ok (.enter f A) W)
    (hc : Calls Tryz.prog f vs w fun r w' => ∃ v, r = .returned v ∧ wpList Tryz.prog ops Q rest (a.put o.dst v) w') : wpList Tryz.prog ops Q (o :: rest) a w := by
  unfold wpList
  rw [if_pos hw]
  left
  have hv : xs.map a.eval = vs := by
    rw [← Array.toList_inj, Array.toList_map]
    exact hv
  have he : a.eval (.func f) = .func (.func f) #[] #[] := rfl
  have hx : (execOp a.eval o).run Tryz.prog w = .ok (.enter f vs) w := by
    have := hrun w vs
    simp [execOp, ho, resolve, he, hv, Deferred.ofValue, invoke, this]
  unfold Oper.wp
  rw [hx, Oper.upon_enter]
  refine hc.mono ?_
  rintro e w' ⟨v, rfl, h1⟩
  exact h1
end
end Go.Proofs.YtlfhpocfacaaeaaGreat
/-
  Steps of regions: loads of sets, values, events; places in an event; ==.
-/
set_option linter.unusedSimpArgs false
set_option linter.unusedVariables false
namespace Go.Proofs.YtlfhpocfacaaeaaGreat
open Go.RowKit

section
variable {ops : Array Oper} {Q : Exit → Act → World → Prop} {S : World → Prop} {o : Oper} {a : Act}
set_option maxHeartbeats 1000000 in
set_option maxRecDepth 100000 in
theorem yl_set (hw : Region.wanted o (yielded ops a.tmps) = true) (x : Operand) (ho : o.op = .load 25 x) (g : Nat) (k : Nat) (hx : a.eval x = .pointer (some ⟨g, k, none⟩)) (x0 x1 x2 x3 : Value)
    (h : ∀ w, S w → w.cell? ⟨g, k, none⟩ = some x0 ∧ w.cell? ⟨g, k + 1, none⟩ = some x1 ∧ w.cell? ⟨g, k + 2, none⟩ = some x2 ∧ w.cell? ⟨g, k + 3, none⟩ = some x3) : YieldsIf Tryz.prog ops S o (.agg #[x0, x1, x2, x3]) a :=
  Or.inl ⟨hw, fun w hS => by
    obtain ⟨c0, c1, c2, c3⟩ := h w hS
    simp only [execOp, ho, hx]
    go_simp⟩
set_option maxHeartbeats 1000000 in
set_option maxRecDepth 100000 in
theorem yl_val (hw : Region.wanted o (yielded ops a.tmps) = true) (x : Operand) (ho : o.op = .load 40 x) (g : Nat) (k : Nat) (hx : a.eval x = .pointer (some ⟨g, k, none⟩)) (x0 x1 x2 : Value)
    (h : ∀ w, S w → w.cell? ⟨g, k, none⟩ = some x0 ∧ w.cell? ⟨g, k + 1, none⟩ = some x1 ∧ w.cell? ⟨g, k + 2, none⟩ = some x2) : YieldsIf Tryz.prog ops S o (.agg #[x0, x1, x2]) a :=
  Or.inl ⟨hw, fun w hS => by
    obtain ⟨c0, c1, c2⟩ := h w hS
    simp only [execOp, ho, hx]
    go_simp⟩
set_option maxHeartbeats 1000000 in
set_option maxRecDepth 100000 in
theorem yl_ev (hw : Region.wanted o (yielded ops a.tmps) = true) (x : Operand) (ho : o.op = .load 42 x) (g : Nat) (k : Nat) (hx : a.eval x = .pointer (some ⟨g, k, none⟩)) (x0 x1 x2 x3 x4 x5 x6 x7 x8 x9 x10 x11 : Value)
    (h : ∀ w, S w → w.cell? ⟨g, k, none⟩ = some x0 ∧ w.cell? ⟨g, k + 1, none⟩ = some x1 ∧ w.cell? ⟨g, k + 2, none⟩ = some x2 ∧ w.cell? ⟨g, k + 3, none⟩ = some x3 ∧ w.cell? ⟨g, k + 4, none⟩ = some x4 ∧ w.cell? ⟨g, k + 5, none⟩ = some x5 ∧ w.cell? ⟨g, k + 6, none⟩ = some x6 ∧ w.cell? ⟨g, k + 7, none⟩ = some x7 ∧ w.cell? ⟨g, k + 8, none⟩ = some x8 ∧ w.cell? ⟨g, k + 9, none⟩ = some x9 ∧ w.cell? ⟨g, k + 10, none⟩ = some x10 ∧ w.cell? ⟨g, k + 11, none⟩ = some x11) : YieldsIf Tryz.prog ops S o (.agg #[x0, x1, x2, x3, x4, x5, x6, x7, x8, x9, x10, x11]) a :=
  Or.inl ⟨hw, fun w hS => by
    obtain ⟨c0, c1, c2, c3, c4, c5, c6, c7, c8, c9, c10, c11⟩ := h w hS
    simp only [execOp, ho, hx]
    go_simp⟩
set_option maxHeartbeats 1000000 in
set_option maxRecDepth 100000 in
theorem yl_atEv (hw : Region.wanted o (yielded ops a.tmps) = true) (x y : Operand) (ho : o.op = .indexAddr 42 x y) (g : Nat) (i : Nat) (hx : a.eval x = .pointer (some ⟨g, 0, none⟩)) (hy : a.eval y = .int .i64 i) (hi : i < 4) : YieldsIf Tryz.prog ops S o (.pointer (some ⟨g, i * 3, none⟩)) a :=
  Or.inl ⟨hw, fun w hS => by
    simp only [execOp, ho, hx, hy]
    match i, hi with
    | 0, _ => go_simp
    | 1, _ => go_simp
    | 2, _ => go_simp
    | 3, _ => go_simp⟩
theorem yl_eqB (hw : Region.wanted o (yielded ops a.tmps) = true) (x y : Operand) (t : TypeId) (ho : o.op = .binOp .eql 4 x y t) (p q : Bool) (hx : a.eval x = .bool p) (hy : a.eval y = .bool q) : YieldsIf Tryz.prog ops S o (.bool (p == q)) a :=
  Or.inl ⟨hw, fun w hS => by
    simp only [execOp, ho, hx, hy]
    go_simp⟩
theorem yl_eqI (hw : Region.wanted o (yielded ops a.tmps) = true) (x y : Operand) (t : TypeId) (ho : o.op = .binOp .eql 3 x y t) (p q : Int) (hx : a.eval x = .int .i64 p) (hy : a.eval y = .int .i64 q) : YieldsIf Tryz.prog ops S o (.bool (p == q)) a :=
  Or.inl ⟨hw, fun w hS => by
    simp only [execOp, ho, hx, hy]
    go_simp⟩
end
end Go.Proofs.YtlfhpocfacaaeaaGreat
/-
  More steps by laws, of any program: comparisons of numbers, parts of a tuple; a call among what a region draws.
-/
set_option linter.unusedSimpArgs false
set_option linter.unusedVariables false
namespace Go.Proofs.YtlfhpocfacaaeaaGreat
open Go.RowKit

section
variable {ops : Array Oper} {Q : Exit → Act → World → Prop} {S : World → Prop} {o : Oper} {a : Act}
theorem yl_lssI (hw : Region.wanted o (yielded ops a.tmps) = true) (x y : Operand) (t : TypeId) (ho : o.op = .binOp .lss 3 x y t) (p q : Int) (r : Bool) (hx : a.eval x = .int .i64 p) (hy : a.eval y = .int .i64 q) (hr : decide (p < q) = r) : YieldsIf Tryz.prog ops S o (.bool r) a :=
  Or.inl ⟨hw, fun w hS => by
    subst hr
    simp only [execOp, ho, hx, hy]
    go_simp⟩
theorem yl_gtrI (hw : Region.wanted o (yielded ops a.tmps) = true) (x y : Operand) (t : TypeId) (ho : o.op = .binOp .gtr 3 x y t) (p q : Int) (r : Bool) (hx : a.eval x = .int .i64 p) (hy : a.eval y = .int .i64 q) (hr : decide (q < p) = r) : YieldsIf Tryz.prog ops S o (.bool r) a :=
  Or.inl ⟨hw, fun w hS => by
    subst hr
    simp only [execOp, ho, hx, hy]
    go_simp⟩
theorem yl_leqI (hw : Region.wanted o (yielded ops a.tmps) = true) (x y : Operand) (t : TypeId) (ho : o.op = .binOp .leq 3 x y t) (p q : Int) (r : Bool) (hx : a.eval x = .int .i64 p) (hy : a.eval y = .int .i64 q) (hr : decide (p ≤ q) = r) : YieldsIf Tryz.prog ops S o (.bool r) a :=
  Or.inl ⟨hw, fun w hS => by
    subst hr
    simp only [execOp, ho, hx, hy]
    go_simp⟩
theorem yl_extract0 (hw : Region.wanted o (yielded ops a.tmps) = true) (x : Operand) (ho : o.op = .extract x 0) (p q : Value) (hx : a.eval x = .tuple #[p, q]) : YieldsIf Tryz.prog ops S o p a :=
  Or.inl ⟨hw, fun w hS => by
    simp only [execOp, ho, hx]
    go_simp⟩
theorem yl_extract1 (hw : Region.wanted o (yielded ops a.tmps) = true) (x : Operand) (ho : o.op = .extract x 1) (p q : Value) (hx : a.eval x = .tuple #[p, q]) : YieldsIf Tryz.prog ops S o q a :=
  Or.inl ⟨hw, fun w hS => by
    simp only [execOp, ho, hx]
    go_simp⟩
/-! ### One operation of a region that draws its order, and is not taken first -/
end
end Go.Proofs.YtlfhpocfacaaeaaGreat
/-
  Steps of regions, of the fifth layer: expressions in blocks and in rows, loaded and stored whole.
-/
set_option linter.unusedSimpArgs false
set_option linter.unusedVariables false
namespace Go.Proofs.YtlfhpocfacaaeaaGreat
open Go.RowKit

def ec0 : EC := ⟨0, 0, SC.zero, none, 0, 0⟩
theorem EC.val_list (c : EC) : c.val = .agg c.list.toArray := rfl
theorem EC.list_len (c : EC) : c.list.length = 7 := rfl
theorem EC.list_one (c : EC) : ∀ v ∈ c.list, v.oneCell' = true := by
  intro v hv
  unfold EC.list at hv
  simp only [List.mem_cons, List.not_mem_nil, or_false] at hv
  rcases hv with rfl | rfl | rfl | rfl | rfl | rfl | rfl <;> rfl
theorem infoEx : (Tryz.prog.info? 28).map (·.size) = some 7 := by kernel_rfl
theorem EcAt.range {w : World} {g o : Nat} {c : EC} (h : EcAt w g o c) : w.rangeAt g o c.list := by
  intro j v hv
  match j, hv with
  | 0, hv => simp [EC.list] at hv; subst hv; exact h.c0
  | 1, hv => simp [EC.list] at hv; subst hv; exact h.c1
  | 2, hv => simp [EC.list] at hv; subst hv; exact h.c2
  | 3, hv => simp [EC.list] at hv; subst hv; exact h.c3
  | 4, hv => simp [EC.list] at hv; subst hv; exact h.c4
  | 5, hv => simp [EC.list] at hv; subst hv; exact h.c5
  | 6, hv => simp [EC.list] at hv; subst hv; exact h.c6
  | n + 7, hv => simp [EC.list] at hv
theorem EcAt.ofRange {w : World} {g o : Nat} {c : EC} (h : w.rangeAt g o c.list) : EcAt w g o c :=
  ⟨h 0 _ rfl, h 1 _ rfl, h 2 _ rfl, h 3 _ rfl, h 4 _ rfl, h 5 _ rfl, h 6 _ rfl⟩
/-- An expression in a block of its own. -/
def ExIn (w : World) (g : Nat) (c : EC) : Prop := w.heap[g]? = some (exObj c)
theorem ExIn.on {w w' : World} {g : Nat} {c : EC} (h : ExIn w g c) (hb : Below w.heap.size w w') : ExIn w' g c := (hb.block _ (lt_heap h)).trans h
theorem ExIn.ec {w : World} {g : Nat} {c : EC} (h : ExIn w g c) : EcAt w g 0 c := by
  obtain ⟨c0, c1, c2, c3, c4, c5, c6⟩ := ecCells1 h
  exact ⟨c0, c1, c2, c3, c4, c5, c6⟩
/-- A row of expressions in a block that may be written. -/
structure RowX (w : World) (b n : Nat) (es : Nat → EC) : Prop where
  els : ∀ j, j < n → EcAt w b (j * 7) (es j)
  soft : ∀ i, w.frozen? ⟨b, i, none⟩ = false
theorem EcAt.ofBlock {w w' : World} {g o : Nat} {c : EC} (h : EcAt w g o c) (hb : w'.heap[g]? = w.heap[g]?) : EcAt w' g o c :=
  ⟨(World.cell?_of_block (a := ⟨g, _, none⟩) hb).trans h.c0, (World.cell?_of_block (a := ⟨g, _, none⟩) hb).trans h.c1, (World.cell?_of_block (a := ⟨g, _, none⟩) hb).trans h.c2, (World.cell?_of_block (a := ⟨g, _, none⟩) hb).trans h.c3, (World.cell?_of_block (a := ⟨g, _, none⟩) hb).trans h.c4, (World.cell?_of_block (a := ⟨g, _, none⟩) hb).trans h.c5, (World.cell?_of_block (a := ⟨g, _, none⟩) hb).trans h.c6⟩
theorem RowX.ofBlock {w w' : World} {b n : Nat} {es : Nat → EC} (h : RowX w b n es) (hb : w'.heap[b]? = w.heap[b]?) : RowX w' b n es :=
  ⟨fun j hj => (h.els j hj).ofBlock hb, fun i => (World.frozen?_of_block (a := ⟨b, i, none⟩) hb).trans (h.soft i)⟩
theorem RowX.there {w : World} {b n : Nat} {es : Nat → EC} (h : RowX w b n es) (k : Nat) (hk : k < n) : w.there b (k * 7) 7 := fun j hj => by
  refine ⟨?_, h.soft _⟩
  have := (h.els k hk).range j
  have hl : j < (es k).list.length := hj
  rw [this _ (List.getElem?_eq_getElem hl)]
  rfl
theorem RowX.put {w : World} {b n : Nat} {es : Nat → EC} (h : RowX w b n es) (k : Nat) (hk : k < n) (d : EC) : RowX (w.setCells b (k * 7) d.list) b n (fun j => if j = k then d else es j) := by
  refine ⟨fun j hj => ?_, fun i => ?_⟩
  · by_cases e : j = k
    · subst e
      rw [if_pos rfl]
      exact EcAt.ofRange (World.rangeAt_setCells_same w b (j * 7) d.list (h.there j hk))
    · rw [if_neg e]
      refine EcAt.ofRange (World.rangeAt_setCells_apart (h.els j hj).range b (k * 7) d.list ?_)
      rw [EC.list_len, EC.list_len]
      right
      omega
  · rw [World.frozen?_setCells]; exact h.soft i
theorem size_setCells (b : Nat) : ∀ (vs : List Value) (o : Nat) (w : World), (w.setCells b o vs).heap.size = w.heap.size
  | [], _, _ => rfl
  | v :: r, o, w => by
    rw [World.setCells, size_setCells b r (o + 1)]
    simp
theorem Below.setCells {B : Nat} {w0 : World} (b : Nat) (hb : B ≤ b) : ∀ (vs : List Value) (o : Nat) (w : World), Below B w0 w → Below B w0 (w.setCells b o vs)
  | [], _, _, h => h
  | v :: r, o, w, h => by
    rw [World.setCells]
    exact Below.setCells b hb r (o + 1) _ (h.setCell (p := ⟨b, o, none⟩) hb v)
theorem Kept.setCells {m b : Nat} (w : World) (o : Nat) (vs : List Value) (h : b < m) : Kept m w (w.setCells b o vs) :=
  ⟨Nat.le_of_eq (size_setCells b vs o w).symm, fun g hg hs => World.heap_setCells_other w b o vs hs (by omega)⟩

section
variable {ops : Array Oper} {Q : Exit → Act → World → Prop} {S : World → Prop} {o : Oper} {a : Act}
/-- An expression loaded whole, from a block of its own or out of a row. -/
theorem yl_ex (hw : Region.wanted o (yielded ops a.tmps) = true) (x : Operand) (ho : o.op = .load 28 x) (g k : Nat) (hx : a.eval x = .pointer (some ⟨g, k, none⟩)) (c : EC)
    (h : ∀ w, S w → EcAt w g k c) : YieldsIf Tryz.prog ops S o c.val a := by
  rw [EC.val_list]
  exact yieldsIf_load_mid hw 28 x ho g k hx c.list _ (fun w hS => (h w hS).range) Tryz.underlying28 rfl (by rw [infoEx]; rfl)
theorem yl_exSub (hw : Region.wanted o (yielded ops a.tmps) = true) (x : Operand) (ho : o.op = .fieldAddr 28 x 3) (g : Nat) (hx : a.eval x = .pointer (some ⟨g, 0, none⟩)) : YieldsIf Tryz.prog ops S o (.pointer (some ⟨g, 6, none⟩)) a :=
  Or.inl ⟨hw, fun w hS => by
    simp only [execOp, ho, hx]
    go_simp⟩
theorem yl_exRow (hw : Region.wanted o (yielded ops a.tmps) = true) (x : Operand) (ho : o.op = .load 26 x) (g k : Nat) (hx : a.eval x = .pointer (some ⟨g, k, none⟩)) (p : Option Addr) (n c : Nat) (h : ∀ w, S w → w.cell? ⟨g, k, none⟩ = some (.slice p n c)) : YieldsIf Tryz.prog ops S o (.slice p n c) a :=
  Or.inl ⟨hw, fun w hS => by
    have := h w hS
    simp only [execOp, ho, hx]
    go_simp⟩
set_option maxRecDepth 100000 in
theorem yl_exAt (hw : Region.wanted o (yielded ops a.tmps) = true) (x y : Operand) (ho : o.op = .indexAddr 26 x y) (b n c i : Nat) (hx : a.eval x = .slice (some ⟨b, 0, none⟩) n c) (hy : a.eval y = .int .i64 i) (hi : i < n) : YieldsIf Tryz.prog ops S o (.pointer (some ⟨b, i * 7, none⟩)) a :=
  Or.inl ⟨hw, fun w hS => by
    simp only [execOp, ho, hx, hy]
    go_simp⟩
theorem op_storeEx {i : Nat} {w : World} {K : Act → World → Prop} (hi : ops[i]? = some o) (hw : Region.wanted o (yielded ops a.tmps) = true) (x y : Operand) (ho : o.op = .store 28 x y) (b k : Nat) (d : EC) (hx : a.eval x = .pointer (some ⟨b, k, none⟩)) (hy : a.eval y = d.val) (ht : w.there b k 7)
    (h : K (a.put o.dst undef) (w.setCells b k d.list)) : wpOp Tryz.prog ops Q i K a w := by
  unfold wpOp
  simp only [hi]
  rw [if_pos hw]
  refine Or.inl ?_
  refine wp_store_mid 28 x y ho b k d.list.toArray hx hy ht (by rw [infoEx]; rfl) (all_oneCell_toArray d.list_one) ?_
  exact h
end
end Go.Proofs.YtlfhpocfacaaeaaGreat
/-
  Plain mathematics of filters, for the sixth layer: no program in sight.
-/
set_option linter.unusedSimpArgs false
set_option linter.unusedVariables false
namespace Go.Proofs.YtlfhpocfacaaeaaGreat

def zBox : BoxV := ⟨noSet, noSet, noSet, noSet⟩
/-- Box k is better than box i: i is left out for it. -/
def betterL (l : List BoxV) (k i : Nat) : Bool := (k != i) && (inBx (l.getD i zBox) (l.getD k zBox) && (decide (k < i) || !inBx (l.getD k zBox) (l.getD i zBox)))
def keepL (l : List BoxV) (i : Nat) : Bool := !emptyBx (l.getD i zBox) && (List.range l.length).all fun k => !betterL l k i
def tidyL (l : List BoxV) : List BoxV := ((List.range l.length).filter (keepL l)).map fun i => l.getD i zBox
def hasL (l : List BoxV) (e : EvV) : Bool := l.any fun b => hasE b e
theorem getB_mem {l : List BoxV} {i : Nat} (h : i < l.length) : l.getD i zBox ∈ l := by
  rw [List.getD_eq_getElem?_getD, List.getElem?_eq_getElem h]
  exact List.getElem_mem _
theorem tidy_sub {l : List BoxV} {b : BoxV} (h : b ∈ tidyL l) : b ∈ l := by
  obtain ⟨i, hi, rfl⟩ := List.mem_map.1 h
  exact getB_mem (List.mem_range.1 (List.mem_filter.1 hi).1)
theorem better_trans {l : List BoxV} (hg : ∀ b ∈ l, GoodB b) {i j k : Nat} (hi : i < l.length) (hj : j < l.length) (hk : k < l.length) (h1 : betterL l j i = true) (h2 : betterL l k j = true) : betterL l k i = true := by
  unfold betterL at *
  simp only [Bool.and_eq_true, Bool.or_eq_true, bne_iff_ne, decide_eq_true_eq, Bool.not_eq_true'] at *
  obtain ⟨n1, a1, b1⟩ := h1
  obtain ⟨n2, a2, b2⟩ := h2
  have gi := hg _ (getB_mem hi)
  have gj := hg _ (getB_mem hj)
  have gk := hg _ (getB_mem hk)
  have h3 := inBx_trans gi gj gk a1 a2
  by_cases hc : inBx (l.getD k zBox) (l.getD i zBox) = true
  · have hkj := inBx_trans gk gi gj hc a1
    have hji := inBx_trans gj gk gi a2 hc
    have c1 : j < i := by
      rcases b1 with h | h
      · exact h
      · rw [hji] at h; cases h
    have c2 : k < j := by
      rcases b2 with h | h
      · exact h
      · rw [hkj] at h; cases h
    exact ⟨by omega, h3, Or.inl (by omega)⟩
  · have hc' : inBx (l.getD k zBox) (l.getD i zBox) = false := by simpa using hc
    exact ⟨fun e => (by subst e; rw [inBx_refl gk] at hc'; cases hc'), h3, Or.inr hc'⟩
theorem better_irr (l : List BoxV) (i : Nat) : betterL l i i = false := by unfold betterL; simp
/-- Above each box there is one that nothing is better than. -/
theorem best_exists {l : List BoxV} (hg : ∀ b ∈ l, GoodB b) : ∀ (n i : Nat), i < l.length → ((List.range l.length).countP fun k => betterL l k i) ≤ n → ∃ j, j < l.length ∧ ((List.range l.length).all fun k => !betterL l k j) = true ∧ inBx (l.getD i zBox) (l.getD j zBox) = true := by
  intro n
  induction n with
  | zero =>
    intro i hi hc
    refine ⟨i, hi, ?_, inBx_refl (hg _ (getB_mem hi))⟩
    rw [List.all_eq_true]
    intro k hk
    have := List.countP_eq_zero.1 (Nat.le_zero.1 hc) k hk
    simpa using this
  | succ n ih =>
    intro i hi hc
    by_cases hb : ∃ k, k < l.length ∧ betterL l k i = true
    · obtain ⟨k, hk, hbk⟩ := hb
      have hlt : ((List.range l.length).countP fun j => betterL l j k) < (List.range l.length).countP fun j => betterL l j i := by
        have H : ∀ (m : List Nat), (∀ j ∈ m, j < l.length) → (m.countP fun j => betterL l j k) ≤ (m.countP fun j => betterL l j i) ∧ (k ∈ m → (m.countP fun j => betterL l j k) < m.countP fun j => betterL l j i) := by
          intro m
          induction m with
          | nil => intro _; exact ⟨Nat.le_refl _, fun h => by cases h⟩
          | cons j m ihm =>
            intro hm
            obtain ⟨q1, q2⟩ := ihm (fun z hz => hm z (by simp [hz]))
            have himp : betterL l j k = true → betterL l j i = true := fun h => better_trans hg hi hk (hm j (by simp)) hbk h
            rw [List.countP_cons, List.countP_cons]
            refine ⟨?_, fun hmem => ?_⟩
            · by_cases hjk : betterL l j k = true
              · rw [if_pos hjk, if_pos (himp hjk)]; omega
              · rw [if_neg hjk]; split <;> omega
            · rcases List.mem_cons.1 hmem with rfl | hmem
              · rw [if_neg (by rw [better_irr]; simp), if_pos hbk]; omega
              · have := q2 hmem
                by_cases hjk : betterL l j k = true
                · rw [if_pos hjk, if_pos (himp hjk)]; omega
                · rw [if_neg hjk]; split <;> omega
        exact (H (List.range l.length) (fun j hj => List.mem_range.1 hj)).2 (List.mem_range.2 hk)
      obtain ⟨j, hj, h1, h2⟩ := ih k hk (by omega)
      refine ⟨j, hj, h1, inBx_trans (hg _ (getB_mem hi)) (hg _ (getB_mem hk)) (hg _ (getB_mem hj)) ?_ h2⟩
      unfold betterL at hbk
      simp only [Bool.and_eq_true] at hbk
      exact hbk.2.1
    · refine ⟨i, hi, ?_, inBx_refl (hg _ (getB_mem hi))⟩
      rw [List.all_eq_true]
      intro k hk
      cases hq : betterL l k i
      · rfl
      · exact absurd ⟨k, List.mem_range.1 hk, hq⟩ hb
theorem empty_none {b : BoxV} (h : emptyBx b = true) (e : EvV) : hasE b e = false := by
  cases hh : hasE b e
  · rfl
  · have h1 := (hasE_iff b e).1 hh
    have h2 : emptyBx b = false := (emptyBx_iff b).2 fun i hi => by
      cases hq : emptyB (b.get i)
      · rfl
      · have := h1 i hi
        rw [(empty_iff _).1 hq, noSet_has] at this
        cases this
    rw [h] at h2
    cases h2
theorem tidy_has {l : List BoxV} (hg : ∀ b ∈ l, GoodB b) {e : EvV} (he : inE e) : hasL (tidyL l) e = hasL l e := by
  rw [Bool.eq_iff_iff]
  unfold hasL
  rw [List.any_eq_true, List.any_eq_true]
  constructor
  · rintro ⟨b, hb, h⟩
    exact ⟨b, tidy_sub hb, h⟩
  · rintro ⟨b, hb, h⟩
    obtain ⟨i, hi, rfl⟩ := List.getElem_of_mem hb
    obtain ⟨j, hj, h1, h2⟩ := best_exists hg _ i hi (Nat.le_refl _)
    have e1 : l.getD i zBox = l[i] := by rw [List.getD_eq_getElem?_getD, List.getElem?_eq_getElem hi]; rfl
    have hj2 : hasE (l.getD j zBox) e = true := (inBx_iff (hg _ (getB_mem hi)) (hg _ (getB_mem hj))).1 h2 e he (by rw [e1]; exact h)
    refine ⟨l.getD j zBox, List.mem_map.2 ⟨j, List.mem_filter.2 ⟨List.mem_range.2 hj, ?_⟩, rfl⟩, hj2⟩
    unfold keepL
    rw [h1, Bool.and_true]
    cases hq : emptyBx (l.getD j zBox)
    · rfl
    · rw [empty_none hq] at hj2; cases hj2
/-! ### Tidied again it is the same -/
/-! ### The boxes of an expression, or of its not -/
def prodL (out l : List BoxV) : List BoxV := out.flatMap fun a => l.map fun b => andBx a b
def foldX (f : ExV → Option (List BoxV)) (prod : Bool) : List ExV → List BoxV → Option (List BoxV)
  | [], out => some out
  | y :: ys, out => match f y with
    | none => none
    | some l => if (tidyL (if prod then prodL out l else out ++ l)).length ≤ 16 then foldX f prod ys (tidyL (if prod then prodL out l else out ++ l)) else none
def boxesX : Nat → ExV → Bool → Option (List BoxV)
  | 0, _, _ => none
  | n + 1, x, neg =>
    if x.kind = 1 then some (tidyL [allBx.put x.attr.toNat (if neg then notV x.set else x.set)])
    else if x.kind = 4 then boxesX n (x.sub.headD ⟨0, 0, noSet, []⟩) !neg
    else foldX (fun y => boxesX n y neg) ((decide (x.kind = 2) && !neg) || (decide (x.kind = 3) && neg)) x.sub (if (decide (x.kind = 2) && !neg) || (decide (x.kind = 3) && neg) then [allBx] else [])
theorem prod_has {out l : List BoxV} (ho : ∀ b ∈ out, GoodB b) (hl : ∀ b ∈ l, GoodB b) {e : EvV} (he : inE e) : hasL (prodL out l) e = (hasL out e && hasL l e) := by
  rw [Bool.eq_iff_iff, Bool.and_eq_true]
  unfold hasL prodL
  simp only [List.any_eq_true, List.mem_flatMap, List.mem_map]
  constructor
  · rintro ⟨b, ⟨a, ha, c, hc, rfl⟩, h⟩
    rw [andBx_has (ho a ha) (hl c hc) he, Bool.and_eq_true] at h
    exact ⟨⟨a, ha, h.1⟩, c, hc, h.2⟩
  · rintro ⟨⟨a, ha, h1⟩, c, hc, h2⟩
    exact ⟨andBx a c, ⟨a, ha, c, hc, rfl⟩, by rw [andBx_has (ho a ha) (hl c hc) he, h1, h2]; rfl⟩
theorem sum_has (out l : List BoxV) (e : EvV) : hasL (out ++ l) e = (hasL out e || hasL l e) := by
  unfold hasL
  rw [List.any_append]
/-- Right boxes, with at most so many strings for an attribute. -/
def FineL (M : Nat) (l : List BoxV) : Prop := ∀ b ∈ l, GoodB b ∧ ∀ i, i < 4 → (b.get i).strs.length ≤ M
theorem FineL.good {M : Nat} {l : List BoxV} (h : FineL M l) : ∀ b ∈ l, GoodB b := fun b hb => (h b hb).1
theorem FineL.mono {M M' : Nat} {l : List BoxV} (h : FineL M l) (hm : M ≤ M') : FineL M' l := fun b hb => ⟨(h b hb).1, fun i hi => Nat.le_trans ((h b hb).2 i hi) hm⟩
theorem FineL.tidy {M : Nat} {l : List BoxV} (h : FineL M l) : FineL M (tidyL l) := fun b hb => h b (tidy_sub hb)
theorem fine_prod {A B : Nat} {out l : List BoxV} (ho : FineL A out) (hl : FineL B l) (hA : A ≤ 400) (hB : B ≤ 400) : FineL (A + B) (prodL out l) := by
  intro b hb
  unfold prodL at hb
  obtain ⟨a, ha, hb⟩ := List.mem_flatMap.1 hb
  obtain ⟨c, hc, rfl⟩ := List.mem_map.1 hb
  have ga := ho a ha
  have gc := hl c hc
  refine ⟨andBx_good ga.1 gc.1 (fun i hi => Nat.le_trans (ga.2 i hi) hA) (fun i hi => Nat.le_trans (gc.2 i hi) hB), fun i hi => ?_⟩
  rw [andBx_get a c i hi]
  have h1 := (andV_len (ga.1.g i hi) (gc.1.g i hi)).2
  have h2 := ga.2 i hi
  have h3 := gc.2 i hi
  omega
theorem fine_sum {A B : Nat} {out l : List BoxV} (ho : FineL A out) (hl : FineL B l) : FineL (A + B) (out ++ l) := fun b hb => by
  rcases List.mem_append.1 hb with h | h
  · exact ho.mono (by omega) b h
  · exact hl.mono (by omega) b h
/-- How many parts. -/
def wX : Nat → ExV → Nat
  | 0, _ => 0
  | n + 1, x => 1 + (x.sub.map (wX n)).sum
/-- All numbers of its sets are the machine's. -/
def i64X : Nat → ExV → Prop
  | 0, _ => True
  | n + 1, x => inI64 x.set.ints ∧ ∀ y ∈ x.sub, i64X n y
theorem fold_plain (f : ExV → Option (List BoxV)) (prod : Bool) (wt : ExV → Nat) (v : ExV → EvV → Bool) : ∀ (ys : List ExV) (out l : List BoxV) (B : Nat),
    (∀ y ∈ ys, ∀ ly, f y = some ly → FineL (6 * wt y) ly ∧ ∀ e, inE e → hasL ly e = (rightE e && v y e)) → FineL B out → B + 6 * (ys.map wt).sum ≤ 400 → foldX f prod ys out = some l →
    FineL (B + 6 * (ys.map wt).sum) l ∧ ∀ e, inE e → hasL l e = if prod then (hasL out e && ys.all fun y => rightE e && v y e) else (hasL out e || ys.any fun y => rightE e && v y e)
  | [], out, l, B, _, ho, _, h => by
    unfold foldX at h
    cases h
    refine ⟨ho.mono (by simp), fun e he => ?_⟩
    cases prod <;> simp
  | y :: ys, out, l, B, hf, ho, hB, h => by
    unfold foldX at h
    rw [List.map_cons, List.sum_cons] at hB ⊢
    cases hy : f y with
    | none => rw [hy] at h; cases h
    | some ly =>
      rw [hy] at h
      dsimp only at h
      obtain ⟨h1, h2⟩ := hf y (by simp) ly hy
      obtain ⟨nx, hnx⟩ : ∃ nx, nx = if prod = true then prodL out ly else out ++ ly := ⟨_, rfl⟩
      rw [← hnx] at h
      split at h
      · have hfine : FineL (B + 6 * wt y) nx := by
          rw [hnx]
          cases prod
          · exact fine_sum ho h1
          · exact fine_prod ho h1 (by omega) (by omega)
        obtain ⟨k1, k2⟩ := fold_plain f prod wt v ys _ l (B + 6 * wt y) (fun z hz => hf z (by simp [hz])) hfine.tidy (by omega) h
        refine ⟨k1.mono (by omega), fun e he => ?_⟩
        rw [k2 e he, tidy_has hfine.good he, hnx]
        cases prod
        · simp only [Bool.false_eq_true, if_false]
          rw [sum_has, h2 e he, List.any_cons, Bool.or_assoc]
        · simp only [if_true]
          rw [prod_has ho.good h1.good he, h2 e he, List.all_cons, Bool.and_assoc]
      · cases h
theorem rightE_at {e : EvV} (h : rightE e = true) (i : Nat) (hi : i < 4) : rightB (e.get i).1 (e.get i).2.1 (e.get i).2.2 = true := (all4_iff _).1 h i hi
theorem and_all_right (r : Bool) (p : ExV → Bool) : ∀ l : List ExV, (r && l.all fun y => r && p y) = (r && l.all p)
  | [] => rfl
  | y :: l => by
    have := and_all_right r p l
    cases r
    · rfl
    · simp only [Bool.true_and] at this ⊢
theorem any_right (r : Bool) (p : ExV → Bool) : ∀ l : List ExV, (l.any fun y => r && p y) = (r && l.any p)
  | [] => by cases r <;> rfl
  | y :: l => by
    rw [List.any_cons, List.any_cons, any_right r p l]
    cases r <;> rfl
theorem isX_step' (n : Nat) (x : ExV) (e : EvV) : isX (n + 1) x e = if x.kind = 1 then hasP x.set (e.get x.attr.toNat) else if x.kind = 2 then x.sub.all fun y => isX n y e else if x.kind = 3 then x.sub.any fun y => isX n y e else !(x.sub.head?.elim false fun y => isX n y e) := rfl
/-- THE SIXTH LAYER's THEOREM, in plain words: an expression's boxes have just the events of which it is so (or is not so). -/
theorem boxes_plain : ∀ (n : Nat) (x : ExV) (neg : Bool) (l : List BoxV), eachX n x = true → i64X n x → wX n x ≤ 60 → boxesX n x neg = some l →
    FineL (6 * wX n x) l ∧ ∀ e, inE e → hasL l e = (rightE e && (isX n x e != neg))
  | 0, _, _, _, h, _, _, _ => by cases h
  | n + 1, x, neg, l, he, hi, hw, h => by
    have hnode : nodeX x = true ∧ ∀ y ∈ x.sub, eachX n y = true := by
      unfold eachX at he
      rw [Bool.and_eq_true, List.all_eq_true] at he
      exact he
    have hwd : wX (n + 1) x = 1 + (x.sub.map (wX n)).sum := rfl
    unfold boxesX at h
    by_cases k1 : x.kind = 1
    · rw [if_pos k1] at h
      have hn := hnode.1
      unfold nodeX at hn
      rw [if_pos k1, Bool.and_eq_true, decide_eq_true_eq, Bool.and_eq_true] at hn
      obtain ⟨⟨a0, a3, _⟩, hr, hs⟩ := hn
      unfold smallB at hs
      rw [Bool.and_eq_true, decide_eq_true_eq, decide_eq_true_eq] at hs
      have hgood : Good x.set := ⟨hr, hi.1⟩
      have ha : x.attr.toNat < 4 := by omega
      have hG : Good (if neg then notV x.set else x.set) ∧ (if neg then notV x.set else x.set).strs.length ≤ 6 := by
        cases neg
        · exact ⟨hgood, hs.2⟩
        · refine ⟨notV_good hgood, ?_⟩
          have := (notV_len x.set hgood).2
          simp only [if_true]
          omega
      have hfine : FineL 6 [allBx.put x.attr.toNat (if neg then notV x.set else x.set)] := fun b hb => by
        rw [List.mem_singleton] at hb
        subst hb
        refine ⟨put_good all_good ha hG.1 (Nat.le_trans hG.2 (by omega)), fun i hi => ?_⟩
        rw [BoxV.get_put _ _ _ _ ha hi]
        split
        · exact hG.2
        · rw [allBx_get]; simp [allV]
      cases h
      refine ⟨hfine.tidy.mono (by omega), fun e hin => ?_⟩
      rw [tidy_has hfine.good hin, isX_step', if_pos k1]
      unfold hasL
      rw [List.any_cons, List.any_nil, Bool.or_false, atom_has ha hin, all_has hin]
      cases hre : rightE e
      · rfl
      · cases neg
        · simp
        · have hb := rightE_at hre _ ha
          have hin' := hin _ ha
          simp only [if_true]
          rw [notV_has hgood _ hin'.1 hin'.2, hb]
          simp
    · rw [if_neg k1] at h
      by_cases k4 : x.kind = 4
      · rw [if_pos k4] at h
        have hn := hnode.1
        unfold nodeX at hn
        rw [if_neg k1, if_pos (by omega), Bool.and_eq_true, decide_eq_true_eq] at hn
        have hlen := hn.2 k4
        match hx : x.sub, hlen with
        | [y], _ =>
          rw [hx] at h hnode hwd
          simp only [List.headD_cons] at h
          obtain ⟨q1, q2⟩ := boxes_plain n y (!neg) l (hnode.2 y (by simp)) (hi.2 y (by rw [hx]; simp)) (by simp at hwd; omega) h
          refine ⟨q1.mono (by simp at hwd; omega), fun e hin => ?_⟩
          rw [q2 e hin, isX_step', if_neg k1, if_neg (by omega), if_neg (by omega), hx]
          simp only [List.head?_cons, Option.elim_some]
          cases isX n y e <;> cases neg <;> rfl
      · rw [if_neg k4] at h
        have hsub : ∀ y ∈ x.sub, wX n y ≤ (x.sub.map (wX n)).sum := fun y hy => by
          have H : ∀ (m : List ExV), y ∈ m → wX n y ≤ (m.map (wX n)).sum := by
            intro m
            induction m with
            | nil => intro h; cases h
            | cons z m ihm =>
              intro h
              rw [List.map_cons, List.sum_cons]
              rcases List.mem_cons.1 h with rfl | h
              · omega
              · have := ihm h
                omega
          exact H x.sub hy
        have hfs : ∀ y ∈ x.sub, ∀ ly, boxesX n y neg = some ly → FineL (6 * wX n y) ly ∧ ∀ e, inE e → hasL ly e = (rightE e && (isX n y e != neg)) := fun y hy ly hl => boxes_plain n y neg ly (hnode.2 y hy) (hi.2 y hy) (by have := hsub y hy; omega) hl
        have hk : x.kind = 2 ∨ x.kind = 3 := by
          have hn := hnode.1
          unfold nodeX at hn
          rw [if_neg k1] at hn
          by_cases hq : x.kind = 2 ∨ x.kind = 3 ∨ x.kind = 4
          · omega
          · rw [if_neg hq] at hn; cases hn
        have hall : FineL 0 [allBx] := fun b hb => by
          rw [List.mem_singleton] at hb
          subst hb
          exact ⟨all_good, fun i _ => by rw [allBx_get]; simp [allV]⟩
        have hnone : FineL 0 [] := fun b hb => by cases hb
        generalize hp : ((decide (x.kind = 2) && !neg) || (decide (x.kind = 3) && neg)) = prod at h
        have hfine0 : FineL 0 (if prod then [allBx] else []) := by cases prod <;> assumption
        obtain ⟨q1, q2⟩ := fold_plain (fun y => boxesX n y neg) prod (wX n) (fun y e => isX n y e != neg) x.sub _ l 0 hfs hfine0 (by omega) h
        refine ⟨q1.mono (by omega), fun e hin => ?_⟩
        rw [q2 e hin, isX_step', if_neg k1]
        rcases hk with hk | hk
        · rw [if_pos hk]
          cases neg
          · have : prod = true := by rw [← hp]; simp [hk]
            subst this
            simp only [if_true]
            unfold hasL
            rw [List.any_cons, List.any_nil, Bool.or_false, all_has hin, and_all_right (rightE e) (fun y => isX n y e != false)]
            simp
          · have : prod = false := by rw [← hp]; simp [hk]
            subst this
            simp only [Bool.false_eq_true, if_false]
            unfold hasL
            rw [List.any_nil, Bool.false_or, any_right (rightE e) (fun y => isX n y e != true)]
            congr 1
            rw [show (fun y => isX n y e != true) = fun y => !isX n y e from funext fun y => by cases isX n y e <;> rfl, ← List.not_all_eq_any_not]
            cases (x.sub.all fun y => isX n y e) <;> rfl
        · have h2 : ¬ x.kind = 2 := by omega
          rw [if_neg h2, if_pos hk]
          cases neg
          · have : prod = false := by rw [← hp]; simp [hk]
            subst this
            simp only [Bool.false_eq_true, if_false]
            unfold hasL
            rw [List.any_nil, Bool.false_or, any_right (rightE e) (fun y => isX n y e != false)]
            simp
          · have : prod = true := by rw [← hp]; simp [hk]
            subst this
            simp only [if_true]
            unfold hasL
            rw [List.any_cons, List.any_nil, Bool.or_false, all_has hin, and_all_right (rightE e) (fun y => isX n y e != true)]
            congr 1
            rw [show (fun y => isX n y e != true) = fun y => !isX n y e from funext fun y => by cases isX n y e <;> rfl, ← List.not_any_eq_all_not]
            cases (x.sub.any fun y => isX n y e) <;> rfl
end Go.Proofs.YtlfhpocfacaaeaaGreat
/-
  The laws of the sixth layer in plain words, over what an expression's boxes are.
-/
set_option linter.unusedSimpArgs false
set_option linter.unusedVariables false
namespace Go.Proofs.YtlfhpocfacaaeaaGreat

theorem wX_size : ∀ (n : Nat) (x : ExV), wX n x = sizeX n x
  | 0, _ => rfl
  | n + 1, x => by
    unfold wX sizeX
    rw [List.map_congr_left fun y _ => wX_size n y]
theorem right_parts {x : ExV} (h : rightX x = true) : wX 8 x ≤ 40 ∧ eachX 8 x = true := by
  have h8 := rightX_low h
  unfold rightX at h
  rw [Bool.and_eq_true] at h
  have hf := h.1
  rw [fits_plain h8, decide_eq_true_eq] at hf
  exact ⟨by rw [wX_size]; exact hf.1, h.2⟩
/-- An expression's boxes have just the events of which it is so. -/
theorem boxes_eval {x : ExV} {l : List BoxV} {e : EvV} (hr : rightX x = true) (hi : i64X 8 x) (h : boxesX 8 x false = some l) (he : inE e) : hasL l e = evalX x e := by
  obtain ⟨h1, h2⟩ := right_parts hr
  rw [(boxes_plain 8 x false l h2 hi (by omega) h).2 e he, evalX_right hr]
  simp
/-- Where an expression, and its not, both have boxes, each event that may be has just one of them. -/
theorem dnf_not {x : ExV} {f g : List BoxV} {e : EvV} (hx : rightX x = true) (hn : rightX (notX x) = true) (hf : hasL f e = evalX x e) (hg : hasL g e = evalX (notX x) e) : ((hasL f e != hasL g e) || (!evalX (andX []) e && !hasL f e)) = true := by
  rw [hf, hg, makes_not hx hn, eval_none, evalX_right hx]
  cases rightE e <;> cases isX 8 x e <;> rfl
theorem dnf_or {x y : ExV} {f g o : List BoxV} {e : EvV} (hx : rightX x = true) (hy : rightX y = true) (ho : rightX (orX [x, y]) = true) (hf : hasL f e = evalX x e) (hg : hasL g e = evalX y e) (h : hasL o e = evalX (orX [x, y]) e) : hasL o e = (hasL f e || hasL g e) := by
  rw [h, hf, hg, makes_or hx hy ho]
theorem dnf_and {x y : ExV} {f g o : List BoxV} {e : EvV} (hx : rightX x = true) (hy : rightX y = true) (ho : rightX (andX [x, y]) = true) (hf : hasL f e = evalX x e) (hg : hasL g e = evalX y e) (h : hasL o e = evalX (andX [x, y]) e) : hasL o e = (hasL f e && hasL g e) := by
  rw [h, hf, hg, makes_and hx hy ho]
/-! ### A box's own expression -/
theorem tidy_len (l : List BoxV) : (tidyL l).length ≤ l.length := by
  unfold tidyL
  rw [List.length_map]
  refine Nat.le_trans (List.length_filter_le _ _) ?_
  simp
end Go.Proofs.YtlfhpocfacaaeaaGreat
/-
  Filters in plain words, for the program's own way: tidied one by one; and how long its sets grow.
-/
set_option linter.unusedSimpArgs false
set_option linter.unusedVariables false
namespace Go.Proofs.YtlfhpocfacaaeaaGreat

/-- One box more: it is left out, or those that lie in it are. -/
def stepT (kept : List BoxV) (b : BoxV) : List BoxV := if (emptyBx b || kept.any fun k => inBx b k) = true then kept else (kept.filter fun k => !inBx k b) ++ [b]
def tidP (l : List BoxV) : List BoxV := l.foldl stepT []
theorem getB_lt {l : List BoxV} {b : BoxV} {i : Nat} (h : i < l.length) : (l ++ [b]).getD i zBox = l.getD i zBox := by
  rw [List.getD_eq_getElem?_getD, List.getD_eq_getElem?_getD, List.getElem?_append_left h]
theorem getB_end (l : List BoxV) (b : BoxV) : (l ++ [b]).getD l.length zBox = b := by
  rw [List.getD_eq_getElem?_getD, List.getElem?_append_right (Nat.le_refl _)]
  simp
theorem range_anyB (f : BoxV → Bool) (l : List BoxV) : (List.range l.length).any (fun i => f (l.getD i zBox)) = l.any f := by
  rw [Bool.eq_iff_iff, List.any_eq_true, List.any_eq_true]
  constructor
  · rintro ⟨i, hi, h⟩
    exact ⟨_, getB_mem (List.mem_range.1 hi), h⟩
  · rintro ⟨y, hy, h⟩
    obtain ⟨i, hi, rfl⟩ := List.getElem_of_mem hy
    refine ⟨i, List.mem_range.2 hi, ?_⟩
    rwa [List.getD_eq_getElem?_getD, List.getElem?_eq_getElem hi, Option.getD_some]
theorem better_lt {l : List BoxV} {b : BoxV} {i k : Nat} (hi : i < l.length) (hk : k < l.length) : betterL (l ++ [b]) k i = betterL l k i := by
  unfold betterL
  rw [getB_lt hi, getB_lt hk]
theorem better_end {l : List BoxV} {b : BoxV} {i : Nat} (hi : i < l.length) : betterL (l ++ [b]) l.length i = (inBx (l.getD i zBox) b && !inBx b (l.getD i zBox)) := by
  unfold betterL
  rw [getB_lt hi, getB_end, show (l.length != i) = true by simp; omega, decide_eq_false (by omega : ¬ l.length < i), Bool.true_and, Bool.false_or]
theorem better_of {l : List BoxV} {b : BoxV} {k : Nat} (hk : k < l.length) : betterL (l ++ [b]) k l.length = inBx b (l.getD k zBox) := by
  unfold betterL
  rw [getB_lt hk, getB_end, show (k != l.length) = true by simp; omega, decide_eq_true hk, Bool.true_and, Bool.true_or, Bool.and_true]
theorem keep_lt {l : List BoxV} {b : BoxV} {i : Nat} (hi : i < l.length) : keepL (l ++ [b]) i = (keepL l i && !(inBx (l.getD i zBox) b && !inBx b (l.getD i zBox))) := by
  unfold keepL
  rw [getB_lt hi, List.length_append, List.length_singleton, List.range_succ, List.all_append, List.all_cons, List.all_nil, Bool.and_true, better_end hi, ← Bool.and_assoc]
  congr 2
  rw [Bool.eq_iff_iff, List.all_eq_true, List.all_eq_true]
  exact ⟨fun h k hk => by rw [← better_lt hi (List.mem_range.1 hk)]; exact h k hk, fun h k hk => by rw [better_lt hi (List.mem_range.1 hk)]; exact h k hk⟩
theorem keep_end (l : List BoxV) (b : BoxV) : keepL (l ++ [b]) l.length = !(emptyBx b || l.any fun k => inBx b k) := by
  unfold keepL
  rw [getB_end, List.length_append, List.length_singleton, List.range_succ, List.all_append, List.all_cons, List.all_nil, Bool.and_true, better_irr, Bool.not_false, Bool.and_true, Bool.not_or]
  congr 1
  rw [← range_anyB (fun k => inBx b k) l, Bool.eq_iff_iff, List.all_eq_true]
  constructor
  · intro h
    rw [Bool.not_eq_true', List.any_eq_false]
    intro k hk
    have := h k hk
    rw [better_of (List.mem_range.1 hk)] at this
    simpa using this
  · intro h k hk
    rw [Bool.not_eq_true', List.any_eq_false] at h
    have := h k hk
    rw [better_of (List.mem_range.1 hk)]
    simpa using this
theorem tidy_snoc (l : List BoxV) (b : BoxV) : tidyL (l ++ [b]) = ((tidyL l).filter fun k => !(inBx k b && !inBx b k)) ++ (if (emptyBx b || l.any fun k => inBx b k) = true then [] else [b]) := by
  unfold tidyL
  rw [List.length_append, List.length_singleton, List.range_succ, List.filter_append, List.map_append]
  congr 1
  · rw [List.filter_map]
    have h1 : (List.range l.length).filter (keepL (l ++ [b])) = ((List.range l.length).filter (keepL l)).filter ((fun k => !(inBx k b && !inBx b k)) ∘ fun i => l.getD i zBox) := by
      rw [List.filter_filter]
      refine List.filter_congr fun i hi => ?_
      rw [keep_lt (List.mem_range.1 hi), Bool.and_comm]
      rfl
    rw [h1]
    refine List.map_congr_left fun i hi => ?_
    exact getB_lt (List.mem_range.1 (List.mem_filter.1 (List.mem_filter.1 hi).1).1)
  · rw [List.filter_cons, List.filter_nil, keep_end]
    cases hq : (emptyBx b || l.any fun k => inBx b k)
    · simp only [Bool.not_false, if_true, List.map_cons, List.map_nil, Bool.false_eq_true, if_false]
      rw [getB_end]
    · simp
theorem tidy_get {l : List BoxV} {t : BoxV} (h : t ∈ tidyL l) : ∃ i, i < l.length ∧ keepL l i = true ∧ l.getD i zBox = t := by
  unfold tidyL at h
  obtain ⟨i, hi, rfl⟩ := List.mem_map.1 h
  obtain ⟨h1, h2⟩ := List.mem_filter.1 hi
  exact ⟨i, List.mem_range.1 h1, h2, rfl⟩
theorem tidy_live {l : List BoxV} {t : BoxV} (h : t ∈ tidyL l) : emptyBx t = false := by
  obtain ⟨i, hi, hk, rfl⟩ := tidy_get h
  unfold keepL at hk
  rw [Bool.and_eq_true, Bool.not_eq_true'] at hk
  exact hk.1
/-- Of two that are kept, one that lies strictly in the other one is not. -/
theorem tidy_apart {l : List BoxV} {k t : BoxV} (hk : k ∈ tidyL l) (ht : t ∈ tidyL l) (h1 : inBx k t = true) (h2 : inBx t k = false) : False := by
  obtain ⟨i, hi, ki, rfl⟩ := tidy_get hk
  obtain ⟨j, hj, kj, rfl⟩ := tidy_get ht
  unfold keepL at ki
  rw [Bool.and_eq_true, List.all_eq_true] at ki
  have := ki.2 j (List.mem_range.2 hj)
  unfold betterL at this
  have hne : j ≠ i := fun e => by subst e; rw [h1] at h2; cases h2
  rw [h1, h2, show (j != i) = true by simpa using hne] at this
  simp at this
theorem inBx_empty {a b : BoxV} (hb : GoodB b) (ha : GoodB a) (h : inBx a b = true) (he : emptyBx b = true) : emptyBx a = true := by
  unfold inBx at h
  rw [Bool.or_eq_true] at h
  rcases h with h | h
  · exact h
  · cases hq : emptyBx a
    · exfalso
      have h4 := (emptyBx_iff a).1 hq
      have hall : emptyBx b = false := (emptyBx_iff b).2 fun i hi => by
        cases hz : emptyB (b.get i)
        · rfl
        · exfalso
          obtain ⟨p, p0, p1, hp⟩ := some_has (ha.g i hi) (ha.l i hi) (h4 i hi)
          have := (inB_has (ha.g i hi) (hb.g i hi) (ha.l i hi) (hb.l i hi)).1 ((all4_iff _).1 h i hi) p p0 p1 hp
          rw [(empty_iff _).1 hz, noSet_has] at this
          cases this
      rw [he] at hall
      cases hall
    · rfl
theorem tidy_step {l : List BoxV} {b : BoxV} (hg : ∀ c ∈ l, GoodB c) (hb : GoodB b) : tidyL (l ++ [b]) = stepT (tidyL l) b := by
  have hgt : ∀ c ∈ tidyL l, GoodB c := fun c hc => hg c (tidy_sub hc)
  rw [tidy_snoc]
  unfold stepT
  by_cases hc : (emptyBx b || (tidyL l).any fun k => inBx b k) = true
  · rw [if_pos hc]
    have hl : (emptyBx b || l.any fun k => inBx b k) = true := by
      rw [Bool.or_eq_true] at hc ⊢
      rcases hc with h | h
      · exact Or.inl h
      · right
        rw [List.any_eq_true] at h ⊢
        obtain ⟨t, ht, h⟩ := h
        exact ⟨t, tidy_sub ht, h⟩
    rw [if_pos hl, List.append_nil, List.filter_eq_self]
    intro k hk
    rw [Bool.not_eq_true']
    cases hq : (inBx k b && !inBx b k)
    · rfl
    · exfalso
      rw [Bool.and_eq_true, Bool.not_eq_true'] at hq
      rw [Bool.or_eq_true] at hc
      rcases hc with h | h
      · have := inBx_empty hb (hgt k hk) hq.1 h
        rw [tidy_live hk] at this
        cases this
      · rw [List.any_eq_true] at h
        obtain ⟨t, ht, h⟩ := h
        have h1 := inBx_trans (hgt k hk) hb (hgt t ht) hq.1 h
        refine tidy_apart hk ht h1 ?_
        cases hz : inBx t k
        · rfl
        · have := inBx_trans hb (hgt t ht) (hgt k hk) h hz
          rw [hq.2] at this
          cases this
  · rw [if_neg hc]
    rw [Bool.or_eq_true, not_or] at hc
    obtain ⟨he, hn⟩ := hc
    have hn' : ∀ k ∈ tidyL l, inBx b k = false := fun k hk => by
      cases hq : inBx b k
      · rfl
      · exact absurd (List.any_eq_true.2 ⟨k, hk, hq⟩) hn
    have hl : ¬ (emptyBx b || l.any fun k => inBx b k) = true := by
      rw [Bool.or_eq_true, not_or]
      refine ⟨he, fun h => ?_⟩
      rw [List.any_eq_true] at h
      obtain ⟨k, hk, h⟩ := h
      obtain ⟨i, hi, rfl⟩ := List.getElem_of_mem hk
      have e1 : l.getD i zBox = l[i] := by rw [List.getD_eq_getElem?_getD, List.getElem?_eq_getElem hi]; rfl
      obtain ⟨j, hj, h1, h2⟩ := best_exists hg _ i hi (Nat.le_refl _)
      rw [e1] at h2
      have h3 := inBx_trans hb (hg _ hk) (hg _ (getB_mem hj)) h h2
      have h4 : emptyBx (l.getD j zBox) = false := by
        cases hz : emptyBx (l.getD j zBox)
        · rfl
        · exact absurd (inBx_empty (hg _ (getB_mem hj)) hb h3 hz) he
      have hmem : l.getD j zBox ∈ tidyL l := List.mem_map.2 ⟨j, List.mem_filter.2 ⟨List.mem_range.2 hj, by unfold keepL; rw [h1, h4]; rfl⟩, rfl⟩
      rw [hn' _ hmem] at h3
      cases h3
    rw [if_neg hl]
    congr 1
    refine List.filter_congr fun k hk => ?_
    rw [hn' k hk]
    simp
theorem tidP_eq {l : List BoxV} (hg : ∀ c ∈ l, GoodB c) : tidP l = tidyL l := by
  have H : ∀ (m k : List BoxV), (∀ c ∈ k ++ m, GoodB c) → m.foldl stepT (tidyL k) = tidyL (k ++ m) := by
    intro m
    induction m with
    | nil => intro k _; rw [List.append_nil]; rfl
    | cons b m ih =>
      intro k h
      rw [List.foldl_cons, ← tidy_step (fun c hc => h c (by simp [hc])) (h b (by simp)), ih (k ++ [b]) (fun c hc => h c (by simpa using hc)), List.append_assoc]
      rfl
  exact H l [] (by simpa using hg)
/-! ### How many ranges -/
def IntsL (M : Nat) (l : List BoxV) : Prop := ∀ b ∈ l, ∀ i, i < 4 → (b.get i).ints.length ≤ M
theorem IntsL.mono {M M' : Nat} {l : List BoxV} (h : IntsL M l) (hm : M ≤ M') : IntsL M' l := fun b hb i hi => Nat.le_trans (h b hb i hi) hm
theorem IntsL.tidy {M : Nat} {l : List BoxV} (h : IntsL M l) : IntsL M (tidyL l) := fun b hb => h b (tidy_sub hb)
theorem ints_prod {A B : Nat} {out l : List BoxV} (ho : IntsL A out) (hl : IntsL B l) (go : ∀ b ∈ out, GoodB b) (gl : ∀ b ∈ l, GoodB b) : IntsL (A + B + 3) (prodL out l) := by
  intro b hb i hi
  unfold prodL at hb
  obtain ⟨a, ha, hb⟩ := List.mem_flatMap.1 hb
  obtain ⟨c, hc, rfl⟩ := List.mem_map.1 hb
  rw [andBx_get a c i hi]
  have h1 := (andV_len ((go a ha).g i hi) ((gl c hc).g i hi)).1
  have h2 := ho a ha i hi
  have h3 := hl c hc i hi
  omega
theorem ints_sum {A B : Nat} {out l : List BoxV} (ho : IntsL A out) (hl : IntsL B l) : IntsL (A + B + 3) (out ++ l) := fun b hb => by
  rcases List.mem_append.1 hb with h | h
  · exact ho.mono (by omega) b h
  · exact hl.mono (by omega) b h
/-- What is put together of so many parts. -/
structure Fits (A : Nat) (l : List BoxV) : Prop where
  f : FineL (6 * A) l
  i : IntsL (1 + 10 * A) l
/-- The boxes of an expression of so many parts. -/
structure Res (w : Nat) (l : List BoxV) : Prop where
  f : FineL (6 * w) l
  i : IntsL (10 * w - 3) l
theorem Fits.res {A w : Nat} {l : List BoxV} (h : Fits A l) (hw : A + 1 ≤ w) : Res w l := ⟨h.f.mono (by omega), h.i.mono (by omega)⟩
theorem Fits.tidy {A : Nat} {l : List BoxV} (h : Fits A l) : Fits A (tidyL l) := ⟨h.f.tidy, h.i.tidy⟩
theorem Res.tidy {A : Nat} {l : List BoxV} (h : Res A l) : Res A (tidyL l) := ⟨h.f.tidy, h.i.tidy⟩
def joinL (prod : Bool) (out l : List BoxV) : List BoxV := if prod then prodL out l else out ++ l
theorem fits_join {A w : Nat} {prod : Bool} {out l : List BoxV} (ho : Fits A out) (hl : Res w l) (hw : 1 ≤ w) (h : A + w ≤ 60) : Fits (A + w) (joinL prod out l) := by
  unfold joinL
  cases prod
  · exact ⟨(fine_sum ho.f hl.f).mono (by omega), (ints_sum ho.i hl.i).mono (by omega)⟩
  · exact ⟨(fine_prod ho.f hl.f (by omega) (by omega)).mono (by omega), (ints_prod ho.i hl.i ho.f.good hl.f.good).mono (by omega)⟩
theorem fits_all : Fits 0 [allBx] := by
  refine ⟨fun b hb => ?_, fun b hb i hi => ?_⟩
  · rw [List.mem_singleton] at hb
    subst hb
    exact ⟨all_good, fun i _ => by rw [allBx_get]; simp [allV]⟩
  · rw [List.mem_singleton] at hb
    subst hb
    rw [allBx_get]; simp [allV]
theorem fits_nil : Fits 0 [] := ⟨fun b hb => (by cases hb), fun b hb => (by cases hb)⟩
theorem fold_fits (f : ExV → Option (List BoxV)) (prod : Bool) (wt : ExV → Nat) : ∀ (ys : List ExV) (out l : List BoxV) (A : Nat),
    (∀ y ∈ ys, ∀ ly, f y = some ly → Res (wt y) ly ∧ 1 ≤ wt y) → Fits A out → A + (ys.map wt).sum ≤ 60 → foldX f prod ys out = some l → Fits (A + (ys.map wt).sum) l
  | [], out, l, A, _, ho, _, h => by
    unfold foldX at h
    cases h
    simpa using ho
  | y :: ys, out, l, A, hf, ho, hA, h => by
    unfold foldX at h
    rw [List.map_cons, List.sum_cons] at hA ⊢
    cases hy : f y with
    | none => rw [hy] at h; cases h
    | some ly =>
      rw [hy] at h
      dsimp only at h
      obtain ⟨h1, h2⟩ := hf y (by simp) ly hy
      obtain ⟨nx, hnx⟩ : ∃ nx, nx = if prod = true then prodL out ly else out ++ ly := ⟨_, rfl⟩
      rw [← hnx] at h
      have hj : joinL prod out ly = nx := by rw [hnx]; rfl
      have hF := fits_join (prod := prod) ho h1 h2 (by omega)
      rw [hj] at hF
      split at h
      · have := fold_fits f prod wt ys _ l (A + wt y) (fun z hz => hf z (by simp [hz])) hF.tidy (by omega) h
        rwa [Nat.add_assoc] at this
      · cases h
theorem atom_res {x : ExV} {neg : Bool} (hn : nodeX x = true) (hk : x.kind = 1) (hi : inI64 x.set.ints) : Res 1 [allBx.put x.attr.toNat (if neg then notV x.set else x.set)] ∧ x.attr.toNat < 4 ∧ 0 ≤ x.attr ∧ x.attr ≤ 3 ∧ Good x.set ∧ x.set.ints.length ≤ 6 ∧ x.set.strs.length ≤ 6 := by
  unfold nodeX at hn
  rw [if_pos hk, Bool.and_eq_true, decide_eq_true_eq, Bool.and_eq_true] at hn
  obtain ⟨⟨a0, a3, _⟩, hr, hs⟩ := hn
  unfold smallB at hs
  rw [Bool.and_eq_true, decide_eq_true_eq, decide_eq_true_eq] at hs
  have hgood : Good x.set := ⟨hr, hi⟩
  have ha : x.attr.toNat < 4 := by omega
  have hG : Good (if neg then notV x.set else x.set) ∧ (if neg then notV x.set else x.set).strs.length ≤ 6 ∧ (if neg then notV x.set else x.set).ints.length ≤ 7 := by
    cases neg
    · exact ⟨hgood, hs.2, Nat.le_trans hs.1 (by omega)⟩
    · have := notV_len x.set hgood
      refine ⟨notV_good hgood, ?_, ?_⟩
      · simp only [if_true]; omega
      · simp only [if_true]; omega
  refine ⟨⟨fun b hb => ?_, fun b hb i hi => ?_⟩, ha, a0, a3, hgood, hs.1, hs.2⟩
  · rw [List.mem_singleton] at hb
    subst hb
    refine ⟨put_good all_good ha hG.1 (Nat.le_trans hG.2.1 (by omega)), fun i hi => ?_⟩
    rw [BoxV.get_put _ _ _ _ ha hi]
    split
    · exact hG.2.1
    · rw [allBx_get]; simp [allV]
  · rw [List.mem_singleton] at hb
    subst hb
    rw [BoxV.get_put _ _ _ _ ha hi]
    split
    · exact hG.2.2
    · rw [allBx_get]; simp [allV]
def prodX (x : ExV) (neg : Bool) : Bool := (decide (x.kind = 2) && !neg) || (decide (x.kind = 3) && neg)
theorem wX_pos (n : Nat) (x : ExV) : 1 ≤ wX (n + 1) x := by
  show 1 ≤ 1 + _
  omega
theorem wX_sub {n : Nat} {x y : ExV} (hy : y ∈ x.sub) : wX n y + 1 ≤ wX (n + 1) x := by
  show wX n y + 1 ≤ 1 + (x.sub.map (wX n)).sum
  have H : ∀ (m : List ExV), y ∈ m → wX n y ≤ (m.map (wX n)).sum := by
    intro m
    induction m with
    | nil => intro h; cases h
    | cons z m ihm =>
      intro h
      rw [List.map_cons, List.sum_cons]
      rcases List.mem_cons.1 h with rfl | h
      · omega
      · have := ihm h
        omega
  have := H x.sub hy
  omega
theorem boxes_pos {n : Nat} {x : ExV} {neg : Bool} {l : List BoxV} (h : boxesX n x neg = some l) : 1 ≤ wX n x := by
  cases n with
  | zero => cases h
  | succ n => exact wX_pos n x
theorem boxes_res : ∀ (n : Nat) (x : ExV) (neg : Bool) (l : List BoxV), eachX n x = true → i64X n x → wX n x ≤ 60 → boxesX n x neg = some l → Res (wX n x) l
  | 0, _, _, _, h, _, _, _ => by cases h
  | n + 1, x, neg, l, he, hi, hw, h => by
    have hnode : nodeX x = true ∧ ∀ y ∈ x.sub, eachX n y = true := by
      unfold eachX at he
      rw [Bool.and_eq_true, List.all_eq_true] at he
      exact he
    unfold boxesX at h
    by_cases k1 : x.kind = 1
    · rw [if_pos k1] at h
      cases h
      have := (atom_res (neg := neg) hnode.1 k1 hi.1).1.tidy
      have hp := wX_pos n x
      exact ⟨this.f.mono (by omega), this.i.mono (by omega)⟩
    · rw [if_neg k1] at h
      by_cases k4 : x.kind = 4
      · rw [if_pos k4] at h
        have hn := hnode.1
        unfold nodeX at hn
        rw [if_neg k1, if_pos (by omega), Bool.and_eq_true, decide_eq_true_eq] at hn
        have hlen := hn.2 k4
        match hx : x.sub, hlen with
        | [y], _ =>
          have hy : y ∈ x.sub := by rw [hx]; simp
          rw [hx] at h
          have hs := wX_sub (n := n) hy
          have := boxes_res n y (!neg) l (hnode.2 y hy) (hi.2 y hy) (by omega) h
          exact ⟨this.f.mono (by omega), this.i.mono (by omega)⟩
      · rw [if_neg k4] at h
        have hfs : ∀ y ∈ x.sub, ∀ ly, boxesX n y neg = some ly → Res (wX n y) ly ∧ 1 ≤ wX n y := fun y hy ly hl => ⟨boxes_res n y neg ly (hnode.2 y hy) (hi.2 y hy) (by have := wX_sub (n := n) hy; omega) hl, boxes_pos hl⟩
        have hwd : wX (n + 1) x = 1 + (x.sub.map (wX n)).sum := rfl
        have h0 : Fits 0 (if prodX x neg then [allBx] else []) := by
          split
          · exact fits_all
          · exact fits_nil
        exact (fold_fits (fun y => boxesX n y neg) (prodX x neg) (wX n) x.sub _ l 0 hfs h0 (by omega) h).res (by omega)
end Go.Proofs.YtlfhpocfacaaeaaGreat
/-
  Rows of boxes: a box's cells, rows that are read, rows of the call's own.
-/
set_option linter.unusedSimpArgs false
set_option linter.unusedVariables false
namespace Go.Proofs.YtlfhpocfacaaeaaGreat
open Go.RowKit

/-- The cells of a box. -/
structure BxC where
  s0 : SC
  s1 : SC
  s2 : SC
  s3 : SC
def BxC.val (c : BxC) : Value := bxVal c.s0 c.s1 c.s2 c.s3
def BxC.list (c : BxC) : List Value := [.bool c.s0.a, .slice c.s0.p c.s0.n c.s0.c, .bool c.s0.d, .slice c.s0.q c.s0.m c.s0.e, .bool c.s1.a, .slice c.s1.p c.s1.n c.s1.c, .bool c.s1.d, .slice c.s1.q c.s1.m c.s1.e, .bool c.s2.a, .slice c.s2.p c.s2.n c.s2.c, .bool c.s2.d, .slice c.s2.q c.s2.m c.s2.e, .bool c.s3.a, .slice c.s3.p c.s3.n c.s3.c, .bool c.s3.d, .slice c.s3.q c.s3.m c.s3.e]
def bc0 : BxC := ⟨SC.zero, SC.zero, SC.zero, SC.zero⟩
theorem BxC.val_list (c : BxC) : c.val = .agg c.list.toArray := rfl
theorem BxC.list_len (c : BxC) : c.list.length = 16 := rfl
theorem BxC.list_one (c : BxC) : ∀ v ∈ c.list, v.oneCell' = true := by
  intro v hv
  unfold BxC.list at hv
  simp only [List.mem_cons, List.not_mem_nil, or_false] at hv
  rcases hv with rfl | rfl | rfl | rfl | rfl | rfl | rfl | rfl | rfl | rfl | rfl | rfl | rfl | rfl | rfl | rfl <;> rfl
def bcObj (c : BxC) : Obj := .cells c.list.toArray 47
/-- A box in a block of its own. -/
def BcIn (w : World) (g : Nat) (c : BxC) : Prop := w.heap[g]? = some (bcObj c)
theorem BcIn.on {w w' : World} {g : Nat} {c : BxC} (h : BcIn w g c) (hb : Below w.heap.size w w') : BcIn w' g c := (hb.block _ (lt_heap h)).trans h
theorem BcIn.bx {w : World} {g : Nat} {c : BxC} (h : BcIn w g c) : BxIn w g c.s0 c.s1 c.s2 c.s3 := h
theorem BcIn.range {w : World} {g : Nat} {c : BxC} (h : BcIn w g c) : w.rangeAt g 0 c.list := fun j v hv => by
  rw [cell_heap h, Nat.zero_add, List.getElem?_toArray]
  exact hv
theorem BoxAt.bc {w : World} {v : Value} {b : BoxV} (h : BoxAt w v b) : ∃ c : BxC, v = c.val := by
  obtain ⟨s0, s1, s2, s3, rfl, _⟩ := h.scs
  exact ⟨⟨s0, s1, s2, s3⟩, rfl⟩
theorem infoB16 : (Tryz.prog.info? 47).map (·.size) = some 16 := by kernel_rfl
theorem cInfoB : (Tryz.prog.info? 47).map (fun i => (i.zero, i.size, i.bytes)) = some (some bc0.val, 16, 256) := by kernel_rfl
/-- A row of boxes that is read. -/
def BxRow (w : World) (v : Value) (cs : List BxC) : Prop :=
  cs.length ≤ 9223372036854775807 ∧ ∃ (a : Option Addr) (cap : Nat), v = .slice a cs.length cap ∧ ∀ i, i < cs.length → ∃ g off, a = some ⟨g, off, none⟩ ∧ g < w.heap.size ∧ w.rangeAt g (off + i * 16) (cs.getD i bc0).list
theorem rangeAt_on {w w' : World} {g o : Nat} {l : List Value} (h : w.rangeAt g o l) (hb : w'.heap[g]? = w.heap[g]?) : w'.rangeAt g o l := fun j v hv => (World.cell?_of_block (a := ⟨g, _, none⟩) hb).trans (h j v hv)
theorem BxRow.on {w w' : World} {v : Value} {cs : List BxC} (h : BxRow w v cs) (hb : Below w.heap.size w w') : BxRow w' v cs := by
  obtain ⟨h1, a, cap, rfl, h⟩ := h
  refine ⟨h1, a, cap, rfl, fun i hi => ?_⟩
  obtain ⟨g, off, e, hg, hr⟩ := h i hi
  exact ⟨g, off, e, Nat.lt_of_lt_of_le hg hb.size, rangeAt_on hr (hb.block _ hg)⟩
/-- These cells are these boxes. -/
def AllBx (w : World) (cs : List BxC) (l : List BoxV) : Prop := cs.length = l.length ∧ ∀ i, i < l.length → BoxAt w (cs.getD i bc0).val (l.getD i zBox)
theorem AllBx.on {w w' : World} {cs : List BxC} {l : List BoxV} (h : AllBx w cs l) (hb : Below w.heap.size w w') : AllBx w' cs l := ⟨h.1, fun i hi => (h.2 i hi).on hb⟩
/-- The value is a row of just these boxes. -/
def Bxs (w : World) (v : Value) (l : List BoxV) : Prop := ∃ cs, BxRow w v cs ∧ AllBx w cs l
theorem Bxs.on {w w' : World} {v : Value} {l : List BoxV} (h : Bxs w v l) (hb : Below w.heap.size w w') : Bxs w' v l := by
  obtain ⟨cs, h1, h2⟩ := h
  exact ⟨cs, h1.on hb, h2.on hb⟩
theorem bxs_nil (w : World) : Bxs w (.slice none 0 0) [] := ⟨[], ⟨by simp, none, 0, rfl, fun i h => by simp at h⟩, rfl, fun i h => by simp at h⟩
/-! ### Rows of the call's own -/
def bcCells (cs : List BxC) : List Value := cs.flatMap BxC.list
theorem bcCells_append (a b : List BxC) : bcCells (a ++ b) = bcCells a ++ bcCells b := by unfold bcCells; rw [List.flatMap_append]
theorem bcCells_len : ∀ cs : List BxC, (bcCells cs).length = cs.length * 16
  | [] => rfl
  | c :: cs => by
    have := bcCells_len cs
    unfold bcCells at this ⊢
    rw [List.flatMap_cons, List.length_append, this, BxC.list_len, List.length_cons]
    omega
theorem bcCells_one (cs : List BxC) : ∀ u ∈ bcCells cs, u.oneCell' = true := by
  intro u hu
  unfold bcCells at hu
  obtain ⟨c, _, hu⟩ := List.mem_flatMap.1 hu
  exact c.list_one u hu
theorem bcCells_at : ∀ (cs : List BxC) (i r : Nat), i < cs.length → r < 16 → (bcCells cs)[i * 16 + r]? = (cs.getD i bc0).list[r]?
  | [], i, r, h, _ => by simp at h
  | c :: cs, 0, r, _, hr => by
    unfold bcCells
    rw [List.flatMap_cons, Nat.zero_mul, Nat.zero_add, List.getElem?_append_left (by rw [BxC.list_len]; exact hr)]
    rfl
  | c :: cs, i + 1, r, h, hr => by
    have := bcCells_at cs i r (by simpa using h) hr
    unfold bcCells at this ⊢
    rw [List.flatMap_cons, List.getElem?_append_right (by rw [BxC.list_len]; omega), BxC.list_len, show (i + 1) * 16 + r - 16 = i * 16 + r by omega, this]
    rfl
def OwnB (w : World) (B : Nat) (v : Value) (cs : List BxC) : Prop := w.ownsRow B 47 16 v cs.length (bcCells cs)
theorem OwnB.on {w w' : World} {B : Nat} {v : Value} {cs : List BxC} (h : OwnB w B v cs) (hb : Below w.heap.size w w') : OwnB w' B v cs := by
  refine ⟨h.1, ?_⟩
  rcases h.2 with h | ⟨g, cap, cur, e, hB, hg, r⟩
  · exact Or.inl h
  · exact Or.inr ⟨g, cap, cur, e, hB, (hb.block _ (lt_heap hg)).trans hg, r⟩
theorem OwnB.mono {w : World} {B B' : Nat} {v : Value} {cs : List BxC} (h : OwnB w B v cs) (hb : B' ≤ B) : OwnB w B' v cs := by
  refine ⟨h.1, ?_⟩
  rcases h.2 with h | ⟨g, cap, cur, e, hB, r⟩
  · exact Or.inl h
  · exact Or.inr ⟨g, cap, cur, e, Nat.le_trans hb hB, r⟩
theorem ownB_nil (w : World) (B : Nat) : OwnB w B (.slice none 0 0) [] := ⟨rfl, Or.inl ⟨rfl, rfl⟩⟩
theorem take_at {α : Type} {l m : List α} {n j : Nat} {v : α} (h : l.take n = m) (hj : m[j]? = some v) : l[j]? = some v := by
  rw [← h, List.getElem?_take] at hj
  split at hj
  · exact hj
  · cases hj
theorem OwnB.range {w : World} {B g n cap : Nat} {cs : List BxC} (h : OwnB w B (.slice (some ⟨g, 0, none⟩) n cap) cs) (i : Nat) (hi : i < cs.length) : w.rangeAt g (i * 16) (cs.getD i bc0).list := by
  rcases h.2 with ⟨h, _⟩ | ⟨g', cap', cur, e, hB, hg, hn, hm, hs, ht⟩
  · cases h
  · cases e
    intro j v hv
    have hj : j < 16 := by
      have := (List.getElem?_eq_some_iff.1 hv).1
      rwa [BxC.list_len] at this
    rw [cell_heap hg]
    have := take_at ht ((bcCells_at cs i j hi hj).trans hv)
    rw [← Array.getElem?_toList]
    exact this
/-- The block of such a row. -/
theorem OwnB.form {w : World} {B : Nat} {v : Value} {cs : List BxC} (h : OwnB w B v cs) : (v = .slice none 0 0 ∧ cs = []) ∨ ∃ g cap cur, v = .slice (some ⟨g, 0, none⟩) cs.length cap ∧ B ≤ g ∧ w.heap[g]? = some (.cells cur 47 (0, 0)) ∧ cs.length ≤ cap ∧ cap ≤ maxLen ∧ cur.size = cap * 16 := by
  rcases h.2 with ⟨h, h'⟩ | ⟨g, cap, cur, e, hB, hg, hn, hm, hs, ht⟩
  · exact Or.inl ⟨h, List.eq_nil_of_length_eq_zero h'⟩
  · exact Or.inr ⟨g, cap, cur, e, hB, hg, hn, hm, hs⟩
theorem ownB_of {w : World} {B g cap : Nat} {cur : Array Value} {cs : List BxC} (hg : w.heap[g]? = some (.cells cur 47 (0, 0))) (hB : B ≤ g) (hn : cs.length ≤ cap) (hm : cap ≤ maxLen) (hs : cur.size = cap * 16) (h : ∀ i, i < cs.length → w.rangeAt g (i * 16) (cs.getD i bc0).list) : OwnB w B (.slice (some ⟨g, 0, none⟩) cs.length cap) cs := by
  refine ⟨bcCells_len cs, Or.inr ⟨g, cap, cur, rfl, hB, hg, hn, hm, hs, ?_⟩⟩
  apply List.ext_getElem?
  intro j
  rw [List.getElem?_take]
  split
  · rename_i hj
    have hi : j / 16 < cs.length := by omega
    have hr : j % 16 < 16 := by omega
    have e : j = j / 16 * 16 + j % 16 := by omega
    have h1 := bcCells_at cs (j / 16) (j % 16) hi hr
    rw [← e] at h1
    rw [h1]
    have hl : j % 16 < (cs.getD (j / 16) bc0).list.length := hr
    have h2 := h (j / 16) hi (j % 16) _ (List.getElem?_eq_getElem hl)
    rw [← e, cell_heap hg] at h2
    rw [Array.getElem?_toList, h2, List.getElem?_eq_getElem hl]
  · rename_i hj
    rw [List.getElem?_eq_none (by rw [bcCells_len]; omega)]
theorem OwnB.row {w : World} {B : Nat} {v : Value} {cs : List BxC} (h : OwnB w B v cs) (hl : cs.length ≤ 1000000) : BxRow w v cs := by
  refine ⟨by omega, ?_⟩
  rcases h.form with ⟨rfl, rfl⟩ | ⟨g, cap, cur, rfl, hB, hg, _⟩
  · exact ⟨none, 0, rfl, fun i hi => by simp at hi⟩
  · exact ⟨_, cap, rfl, fun i hi => ⟨g, 0, rfl, lt_heap hg, by rw [Nat.zero_add]; exact h.range i hi⟩⟩
/-- All but one block is as it was. -/
structure Asd (o : Option Nat) (B : Nat) (w W : World) : Prop where
  b : Below B w W
  s : w.heap.size ≤ W.heap.size
  k : ∀ k, k < w.heap.size → some k ≠ o → W.heap[k]? = w.heap[k]?
theorem Asd.refl (o : Option Nat) (B : Nat) (w : World) : Asd o B w w := ⟨Below.refl B w, Nat.le_refl _, fun _ _ _ => rfl⟩
theorem Asd.trans {o : Option Nat} {B : Nat} {w W V : World} (h : Asd o B w W) (h' : Asd o B W V) : Asd o B w V :=
  ⟨h.b.trans h'.b, Nat.le_trans h.s h'.s, fun k hk hne => (h'.k k (Nat.lt_of_lt_of_le hk h.s) hne).trans (h.k k hk hne)⟩
theorem Asd.grow {o : Option Nat} {B : Nat} {w W V : World} (h : Asd o B w W) (hB : B ≤ W.heap.size) (hb : Below W.heap.size W V) : Asd o B w V :=
  ⟨h.b.trans (hb.mono hB), Nat.le_trans h.s hb.size, fun k hk hne => (hb.block k (Nat.lt_of_lt_of_le hk h.s)).trans (h.k k hk hne)⟩
theorem setCells_cur (g : Nat) {t : TypeId} {fz : Nat × Nat} : ∀ (vs : List Value) (o : Nat) (w : World) (cur : Array Value), w.heap[g]? = some (.cells cur t fz) → ∃ cur', (w.setCells g o vs).heap[g]? = some (.cells cur' t fz) ∧ cur'.size = cur.size
  | [], _, w, cur, h => ⟨cur, h, rfl⟩
  | v :: vs, o, w, cur, h => by
    obtain ⟨cur', h1, h2⟩ := setCells_cur g vs (o + 1) _ _ (heap_setCell (i := o) v h)
    exact ⟨cur', h1, by rw [h2]; simp⟩
theorem there_of {w : World} {g o n : Nat} {cur : Array Value} {t : TypeId} (h : w.heap[g]? = some (.cells cur t (0, 0))) (hn : o + n ≤ cur.size) : w.there g o n := fun j hj => by
  refine ⟨?_, soft_heap h _⟩
  rw [cell_heap h, Array.getElem?_eq_getElem (by omega)]
  rfl
theorem asd_put {g B : Nat} (w : World) (o : Nat) (vs : List Value) (hB : B ≤ g) : Asd (some g) B w (w.setCells g o vs) :=
  ⟨Below.setCells g hB vs o w (Below.refl B w), Nat.le_of_eq (size_setCells g vs o w).symm, fun k hk hne => World.heap_setCells_other w g o vs hk (fun e => hne (by rw [e]))⟩
end Go.Proofs.YtlfhpocfacaaeaaGreat
/-
  Steps of regions, of the fourth layer: a box loaded whole; places in a box.
-/
set_option linter.unusedSimpArgs false
set_option linter.unusedVariables false
namespace Go.Proofs.YtlfhpocfacaaeaaGreat
open Go.RowKit

section
variable {ops : Array Oper} {Q : Exit → Act → World → Prop} {S : World → Prop} {o : Oper} {a : Act}
set_option maxHeartbeats 1000000 in
set_option maxRecDepth 100000 in
theorem yl_atBox (hw : Region.wanted o (yielded ops a.tmps) = true) (x y : Operand) (ho : o.op = .indexAddr 47 x y) (g : Nat) (i : Nat) (hx : a.eval x = .pointer (some ⟨g, 0, none⟩)) (hy : a.eval y = .int .i64 i) (hi : i < 4) : YieldsIf Tryz.prog ops S o (.pointer (some ⟨g, i * 4, none⟩)) a :=
  Or.inl ⟨hw, fun w hS => by
    simp only [execOp, ho, hx, hy]
    match i, hi with
    | 0, _ => go_simp
    | 1, _ => go_simp
    | 2, _ => go_simp
    | 3, _ => go_simp⟩
end
end Go.Proofs.YtlfhpocfacaaeaaGreat
/-
  The program's box: All, And.
-/
set_option linter.unusedSimpArgs false
set_option linter.unusedVariables false
namespace Go.Proofs.YtlfhpocfacaaeaaGreat
open Go.RowKit

theorem FitBx.fit {b : BoxV} (h : FitBx b) (i : Nat) (hi : i < 4) : Fit (b.get i) := ⟨h.good.g i hi, Nat.le_trans (h.ni i hi) (by omega), Nat.le_trans (h.ns i hi) (by omega)⟩
/-- Two new blocks of zero boxes. -/
theorem two_zero (w : World) : BxIn ((w.alloc (.cells #[.bool false, .slice none 0 0, .bool false, .slice none 0 0, .bool false, .slice none 0 0, .bool false, .slice none 0 0, .bool false, .slice none 0 0, .bool false, .slice none 0 0, .bool false, .slice none 0 0, .bool false, .slice none 0 0] 47)).alloc (.cells #[.bool false, .slice none 0 0, .bool false, .slice none 0 0, .bool false, .slice none 0 0, .bool false, .slice none 0 0, .bool false, .slice none 0 0, .bool false, .slice none 0 0, .bool false, .slice none 0 0, .bool false, .slice none 0 0] 47)) w.heap.size SC.zero SC.zero SC.zero SC.zero ∧ BxIn ((w.alloc (.cells #[.bool false, .slice none 0 0, .bool false, .slice none 0 0, .bool false, .slice none 0 0, .bool false, .slice none 0 0, .bool false, .slice none 0 0, .bool false, .slice none 0 0, .bool false, .slice none 0 0, .bool false, .slice none 0 0] 47)).alloc (.cells #[.bool false, .slice none 0 0, .bool false, .slice none 0 0, .bool false, .slice none 0 0, .bool false, .slice none 0 0, .bool false, .slice none 0 0, .bool false, .slice none 0 0, .bool false, .slice none 0 0, .bool false, .slice none 0 0] 47)) (w.heap.size + 1) SC.zero SC.zero SC.zero SC.zero ∧ Below w.heap.size w ((w.alloc (.cells #[.bool false, .slice none 0 0, .bool false, .slice none 0 0, .bool false, .slice none 0 0, .bool false, .slice none 0 0, .bool false, .slice none 0 0, .bool false, .slice none 0 0, .bool false, .slice none 0 0, .bool false, .slice none 0 0] 47)).alloc (.cells #[.bool false, .slice none 0 0, .bool false, .slice none 0 0, .bool false, .slice none 0 0, .bool false, .slice none 0 0, .bool false, .slice none 0 0, .bool false, .slice none 0 0, .bool false, .slice none 0 0, .bool false, .slice none 0 0] 47)) := by
  have T := Two.start w (.cells #[.bool false, .slice none 0 0, .bool false, .slice none 0 0, .bool false, .slice none 0 0, .bool false, .slice none 0 0, .bool false, .slice none 0 0, .bool false, .slice none 0 0, .bool false, .slice none 0 0, .bool false, .slice none 0 0] 47) (.cells #[.bool false, .slice none 0 0, .bool false, .slice none 0 0, .bool false, .slice none 0 0, .bool false, .slice none 0 0, .bool false, .slice none 0 0, .bool false, .slice none 0 0, .bool false, .slice none 0 0, .bool false, .slice none 0 0] 47)
  exact ⟨T.e1, T.e2, T.b⟩

set_option maxHeartbeats 4000000 in
set_option maxRecDepth 100000 in
theorem boxAll_any (P : SetProg) (w : World) : Calls Tryz.prog 66 #[] w fun r w' => (∃ u, r = .returned u ∧ BoxAt w' u allBx) ∧ Below w.heap.size w w' := by
  have AL := fun (W : World) => hide (P.all W)
  obtain ⟨t1, t2, t3⟩ := two_zero w
  have T1 := hide t1
  have T2 := hide t2
  have T3 := hide t3
  clear t1 t2 t3
  go_enter Tryz.func66, Tryz.ntmps66
  go_wp2
  go_loopw [3] (fun i wr => ∃ k : Int, i = .int .i64 k ∧ ∃ s0 s1 s2 s3 : SC, Hid (BxIn wr (w.heap.size + 1) s0 s1 s2 s3) ∧ Hid (BxIn wr w.heap.size SC.zero SC.zero SC.zero SC.zero) ∧ Hid (Below w.heap.size w wr) ∧ (k = 0 ∨ (k = 1 ∧ Hid (SetAt wr s0.val allV)) ∨ (k = 2 ∧ Hid (SetAt wr s0.val allV ∧ SetAt wr s1.val allV)) ∨ (k = 3 ∧ Hid (SetAt wr s0.val allV ∧ SetAt wr s1.val allV ∧ SetAt wr s2.val allV)) ∨ (k = 4 ∧ Hid (SetAt wr s0.val allV ∧ SetAt wr s1.val allV ∧ SetAt wr s2.val allV ∧ SetAt wr s3.val allV)))) (fun i _ => 4 - (intOf i).toNat)
  case atStart => exact ⟨0, rfl, SC.zero, SC.zero, SC.zero, SC.zero, T2, T1, T3, Or.inl rfl⟩
  case round =>
    clear T1 T2 T3
    obtain ⟨k, rfl, s0, s1, s2, s3, HI, HZ, HB, hk⟩ := hrel
    rcases hk with rfl | ⟨rfl, HP⟩ | ⟨rfl, HP⟩ | ⟨rfl, HP⟩ | ⟨rfl, HP⟩
    · have X := AL wr
      go_wp2_with fail
      refine (unhide X).mono ?_
      rintro r w2 ⟨⟨u, rfl, hu⟩, b2⟩
      obtain ⟨x, rfl⟩ := hu.sc
      have I2 := HI.out.on b2
      obtain ⟨c0, c1, c2, c3, c4, c5, c6, c7, c8, c9, c10, c11, c12, c13, c14, c15⟩ := I2.cells
      have z0 := I2.soft 0
      have z1 := I2.soft 1
      have z2 := I2.soft 2
      have z3 := I2.soft 3
      obtain ⟨q1, q2⟩ := put_bx0 x I2
      have Q1 := hide q1
      have QZ := hide (q2.box (HZ.out.on b2) (by omega))
      have QB := hide (q2.below _ _ (by omega) (HB.out.trans (b2.mono HB.out.size)))
      have QS : Hid (SetAt (((((w2).setCell ⟨w.heap.size + 1, 0, none⟩ (.bool x.a)).setCell ⟨w.heap.size + 1, 1, none⟩ (.slice x.p x.n x.c)).setCell ⟨w.heap.size + 1, 2, none⟩ (.bool x.d)).setCell ⟨w.heap.size + 1, 3, none⟩ (.slice x.q x.m x.e)) x.val allV) := hide (q2.set I2 hu)
      clear q1 q2 X AL I2 hu b2
      unfold SC.val
      go_wp2
      exact ⟨⟨1, rfl, x, s1, s2, s3, Q1, QZ, QB, Or.inr (Or.inl ⟨rfl, hide QS.out⟩)⟩, by simp [intOf]⟩
    · have X := AL wr
      go_wp2_with fail
      refine (unhide X).mono ?_
      rintro r w2 ⟨⟨u, rfl, hu⟩, b2⟩
      obtain ⟨x, rfl⟩ := hu.sc
      have I2 := HI.out.on b2
      obtain ⟨c0, c1, c2, c3, c4, c5, c6, c7, c8, c9, c10, c11, c12, c13, c14, c15⟩ := I2.cells
      have z4 := I2.soft 4
      have z5 := I2.soft 5
      have z6 := I2.soft 6
      have z7 := I2.soft 7
      obtain ⟨q1, q2⟩ := put_bx1 x I2
      have Q1 := hide q1
      have QZ := hide (q2.box (HZ.out.on b2) (by omega))
      have QB := hide (q2.below _ _ (by omega) (HB.out.trans (b2.mono HB.out.size)))
      have QS : Hid (SetAt (((((w2).setCell ⟨w.heap.size + 1, 4, none⟩ (.bool x.a)).setCell ⟨w.heap.size + 1, 5, none⟩ (.slice x.p x.n x.c)).setCell ⟨w.heap.size + 1, 6, none⟩ (.bool x.d)).setCell ⟨w.heap.size + 1, 7, none⟩ (.slice x.q x.m x.e)) s0.val allV ∧ SetAt (((((w2).setCell ⟨w.heap.size + 1, 4, none⟩ (.bool x.a)).setCell ⟨w.heap.size + 1, 5, none⟩ (.slice x.p x.n x.c)).setCell ⟨w.heap.size + 1, 6, none⟩ (.bool x.d)).setCell ⟨w.heap.size + 1, 7, none⟩ (.slice x.q x.m x.e)) x.val allV) := hide (⟨q2.set I2 (HP.out.on b2), q2.set I2 hu⟩)
      clear q1 q2 X AL I2 hu b2
      unfold SC.val
      go_wp2
      exact ⟨⟨2, rfl, s0, x, s2, s3, Q1, QZ, QB, Or.inr (Or.inr (Or.inl ⟨rfl, hide QS.out⟩))⟩, by simp [intOf]⟩
    · have X := AL wr
      go_wp2_with fail
      refine (unhide X).mono ?_
      rintro r w2 ⟨⟨u, rfl, hu⟩, b2⟩
      obtain ⟨x, rfl⟩ := hu.sc
      have I2 := HI.out.on b2
      obtain ⟨c0, c1, c2, c3, c4, c5, c6, c7, c8, c9, c10, c11, c12, c13, c14, c15⟩ := I2.cells
      have z8 := I2.soft 8
      have z9 := I2.soft 9
      have z10 := I2.soft 10
      have z11 := I2.soft 11
      obtain ⟨q1, q2⟩ := put_bx2 x I2
      have Q1 := hide q1
      have QZ := hide (q2.box (HZ.out.on b2) (by omega))
      have QB := hide (q2.below _ _ (by omega) (HB.out.trans (b2.mono HB.out.size)))
      have QS : Hid (SetAt (((((w2).setCell ⟨w.heap.size + 1, 8, none⟩ (.bool x.a)).setCell ⟨w.heap.size + 1, 9, none⟩ (.slice x.p x.n x.c)).setCell ⟨w.heap.size + 1, 10, none⟩ (.bool x.d)).setCell ⟨w.heap.size + 1, 11, none⟩ (.slice x.q x.m x.e)) s0.val allV ∧ SetAt (((((w2).setCell ⟨w.heap.size + 1, 8, none⟩ (.bool x.a)).setCell ⟨w.heap.size + 1, 9, none⟩ (.slice x.p x.n x.c)).setCell ⟨w.heap.size + 1, 10, none⟩ (.bool x.d)).setCell ⟨w.heap.size + 1, 11, none⟩ (.slice x.q x.m x.e)) s1.val allV ∧ SetAt (((((w2).setCell ⟨w.heap.size + 1, 8, none⟩ (.bool x.a)).setCell ⟨w.heap.size + 1, 9, none⟩ (.slice x.p x.n x.c)).setCell ⟨w.heap.size + 1, 10, none⟩ (.bool x.d)).setCell ⟨w.heap.size + 1, 11, none⟩ (.slice x.q x.m x.e)) x.val allV) := hide (⟨q2.set I2 (HP.out.1.on b2), q2.set I2 (HP.out.2.on b2), q2.set I2 hu⟩)
      clear q1 q2 X AL I2 hu b2
      unfold SC.val
      go_wp2
      exact ⟨⟨3, rfl, s0, s1, x, s3, Q1, QZ, QB, Or.inr (Or.inr (Or.inr (Or.inl ⟨rfl, hide QS.out⟩)))⟩, by simp [intOf]⟩
    · have X := AL wr
      go_wp2_with fail
      refine (unhide X).mono ?_
      rintro r w2 ⟨⟨u, rfl, hu⟩, b2⟩
      obtain ⟨x, rfl⟩ := hu.sc
      have I2 := HI.out.on b2
      obtain ⟨c0, c1, c2, c3, c4, c5, c6, c7, c8, c9, c10, c11, c12, c13, c14, c15⟩ := I2.cells
      have z12 := I2.soft 12
      have z13 := I2.soft 13
      have z14 := I2.soft 14
      have z15 := I2.soft 15
      obtain ⟨q1, q2⟩ := put_bx3 x I2
      have Q1 := hide q1
      have QZ := hide (q2.box (HZ.out.on b2) (by omega))
      have QB := hide (q2.below _ _ (by omega) (HB.out.trans (b2.mono HB.out.size)))
      have QS : Hid (SetAt (((((w2).setCell ⟨w.heap.size + 1, 12, none⟩ (.bool x.a)).setCell ⟨w.heap.size + 1, 13, none⟩ (.slice x.p x.n x.c)).setCell ⟨w.heap.size + 1, 14, none⟩ (.bool x.d)).setCell ⟨w.heap.size + 1, 15, none⟩ (.slice x.q x.m x.e)) s0.val allV ∧ SetAt (((((w2).setCell ⟨w.heap.size + 1, 12, none⟩ (.bool x.a)).setCell ⟨w.heap.size + 1, 13, none⟩ (.slice x.p x.n x.c)).setCell ⟨w.heap.size + 1, 14, none⟩ (.bool x.d)).setCell ⟨w.heap.size + 1, 15, none⟩ (.slice x.q x.m x.e)) s1.val allV ∧ SetAt (((((w2).setCell ⟨w.heap.size + 1, 12, none⟩ (.bool x.a)).setCell ⟨w.heap.size + 1, 13, none⟩ (.slice x.p x.n x.c)).setCell ⟨w.heap.size + 1, 14, none⟩ (.bool x.d)).setCell ⟨w.heap.size + 1, 15, none⟩ (.slice x.q x.m x.e)) s2.val allV ∧ SetAt (((((w2).setCell ⟨w.heap.size + 1, 12, none⟩ (.bool x.a)).setCell ⟨w.heap.size + 1, 13, none⟩ (.slice x.p x.n x.c)).setCell ⟨w.heap.size + 1, 14, none⟩ (.bool x.d)).setCell ⟨w.heap.size + 1, 15, none⟩ (.slice x.q x.m x.e)) x.val allV) := hide (⟨q2.set I2 (HP.out.1.on b2), q2.set I2 (HP.out.2.1.on b2), q2.set I2 (HP.out.2.2.on b2), q2.set I2 hu⟩)
      clear q1 q2 X AL I2 hu b2
      unfold SC.val
      go_wp2
      exact ⟨⟨4, rfl, s0, s1, s2, x, Q1, QZ, QB, Or.inr (Or.inr (Or.inr (Or.inr (⟨rfl, hide QS.out⟩))))⟩, by simp [intOf]⟩
    · obtain ⟨c0, c1, c2, c3, c4, c5, c6, c7, c8, c9, c10, c11, c12, c13, c14, c15⟩ := HI.out.cells
      obtain ⟨d0, d1, d2, d3, d4, d5, d6, d7, d8, d9, d10, d11, d12, d13, d14, d15⟩ := HZ.out.cells
      have z0 := HZ.out.soft 0
      have z1 := HZ.out.soft 1
      have z2 := HZ.out.soft 2
      have z3 := HZ.out.soft 3
      have z4 := HZ.out.soft 4
      have z5 := HZ.out.soft 5
      have z6 := HZ.out.soft 6
      have z7 := HZ.out.soft 7
      have z8 := HZ.out.soft 8
      have z9 := HZ.out.soft 9
      have z10 := HZ.out.soft 10
      have z11 := HZ.out.soft 11
      have z12 := HZ.out.soft 12
      have z13 := HZ.out.soft 13
      have z14 := HZ.out.soft 14
      have z15 := HZ.out.soft 15
      obtain ⟨q1, q2⟩ := put_whole s0 s1 s2 s3 HZ.out
      have HQ := hide q1
      have HR : Hid (BoxAt (((((((((((((((((wr).setCell ⟨w.heap.size, 0, none⟩ (.bool s0.a)).setCell ⟨w.heap.size, 1, none⟩ (.slice s0.p s0.n s0.c)).setCell ⟨w.heap.size, 2, none⟩ (.bool s0.d)).setCell ⟨w.heap.size, 3, none⟩ (.slice s0.q s0.m s0.e)).setCell ⟨w.heap.size, 4, none⟩ (.bool s1.a)).setCell ⟨w.heap.size, 5, none⟩ (.slice s1.p s1.n s1.c)).setCell ⟨w.heap.size, 6, none⟩ (.bool s1.d)).setCell ⟨w.heap.size, 7, none⟩ (.slice s1.q s1.m s1.e)).setCell ⟨w.heap.size, 8, none⟩ (.bool s2.a)).setCell ⟨w.heap.size, 9, none⟩ (.slice s2.p s2.n s2.c)).setCell ⟨w.heap.size, 10, none⟩ (.bool s2.d)).setCell ⟨w.heap.size, 11, none⟩ (.slice s2.q s2.m s2.e)).setCell ⟨w.heap.size, 12, none⟩ (.bool s3.a)).setCell ⟨w.heap.size, 13, none⟩ (.slice s3.p s3.n s3.c)).setCell ⟨w.heap.size, 14, none⟩ (.bool s3.d)).setCell ⟨w.heap.size, 15, none⟩ (.slice s3.q s3.m s3.e)) (bxVal s0 s1 s2 s3) allBx) := hide (boxAt_of (q2.set HZ.out HP.out.1) (q2.set HZ.out HP.out.2.1) (q2.set HZ.out HP.out.2.2.1) (q2.set HZ.out HP.out.2.2.2))
      have HW := hide (q2.below _ _ (Nat.le_refl _) HB.out)
      clear q1 q2 AL
      go_wp2
      exact bodyPost_ret (results_cell_row rfl _ _ w.heap.size 47 _ (0, 0) _ rfl HQ.out Tryz.underlying47 rfl infoBx) rfl ⟨⟨_, rfl, HR.out⟩, HW.out⟩
end Go.Proofs.YtlfhpocfacaaeaaGreat
