/-
  The program's Size.
-/
import Derived.Test.YtoplmioejebnnaaXA
import Derived.Lib.MinMax
set_option linter.unusedSimpArgs false
set_option linter.unusedVariables false
namespace Go.Proofs.Ytoplmioejebnnaa
open Go.RowKit Go.Shelf
attribute [local go_sem] Oper.semAt_some

def tallD (l : List (Int × ExV)) : Int := l.foldl (fun m y => max m (y.1 + 1)) 0
theorem tallD_snoc (l : List (Int × ExV)) (y : Int × ExV) : tallD (l ++ [y]) = max (tallD l) (y.1 + 1) := by simp [tallD]
theorem tall_ge (l : List (Int × ExV)) : ∀ m : Int, m ≤ l.foldl (fun m y => max m (y.1 + 1)) m := by
  induction l with
  | nil => intro m; simp
  | cons y l ih => intro m; have := ih (max m (y.1 + 1)); rw [List.foldl_cons]; omega
theorem tallD_nonneg (l : List (Int × ExV)) : 0 ≤ tallD l := tall_ge l 0
theorem tallD_pre {a b : List (Int × ExV)} (h : a <+: b) : tallD a ≤ tallD b := by
  obtain ⟨r, rfl⟩ := h
  unfold tallD
  rw [List.foldl_append]
  exact tall_ge r _
/-- Size's answer. -/
def sizeP (l : List (Int × ExV)) : Int × Int := if l.length ≤ 40 ∧ tallD l ≤ 8 then ((l.length : Int), tallD l) else (0, 0)
/-- A variable of one cell. -/
structure Own1 (W : World) (b : Nat) (v : Value) : Prop where
  cell : W.cell? ⟨b, 0, none⟩ = some v
  soft : W.frozen? ⟨b, 0, none⟩ = false
theorem Own1.new (W : World) (v : Value) (t : TypeId) : Own1 (W.alloc (.cells #[v] t)) W.heap.size v := by
  have h := World.alloc_heap_new W (.cells #[v] t)
  constructor
  · unfold World.cell?
    rw [h]
    rfl
  · unfold World.frozen?
    rw [h]
    rfl
theorem Own1.kept {W W' : World} {b : Nat} {v : Value} {row : Option Nat} (h : Own1 W b v) (hg : W.grownBy W' row) (hr : ∀ r, row = some r → ∃ o : Obj, W.heap[r]? = some o ∧ o.isCells = false) : Own1 W' b v :=
  ⟨cell_kept h.cell hg hr, (frozen_kept h.cell hg hr).trans h.soft⟩
theorem Own1.alloc {W : World} {b : Nat} {v : Value} (h : Own1 W b v) (o : Obj) : Own1 (W.alloc o) b v := h.kept (World.grownBy_alloc W o none) (fun r e => by cases e)
theorem Own1.drew {W : World} {b : Nat} {v : Value} (h : Own1 W b v) : Own1 W.drew b v := ⟨h.cell, h.soft⟩
theorem Own1.set {W : World} {b : Nat} {v : Value} (h : Own1 W b v) (u : Value) : Own1 (W.setCell ⟨b, 0, none⟩ u) b u :=
  ⟨World.cell?_setCell_same' _ _ _ (by rw [h.cell]; rfl), by rw [World.frozen?_setCell]; exact h.soft⟩
theorem Own1.other {W : World} {b b' : Nat} {v : Value} (h : Own1 W b v) (u : Value) (hne : b ≠ b') : Own1 (W.setCell ⟨b', 0, none⟩ u) b v :=
  ⟨(World.cell?_setCell_other W _ _ _ (by intro e; cases e; exact hne rfl)).trans h.cell, by rw [World.frozen?_setCell]; exact h.soft⟩
theorem Kp2.setCell {n₀ n₁ : Nat} (W : World) (b : Nat) (v : Value) (h0 : n₀ ≤ b) (h1 : b < n₁) : Kp2 n₀ n₁ W (W.setCell ⟨b, 0, none⟩ v) :=
  ⟨(Below.refl n₀ W).setCell (p := ⟨b, 0, none⟩) h0 v, fun k o hk ho _ => (Below.heap_setCell _ _ _ k (fun e => by dsimp only at e; omega)).trans ho⟩

set_option maxRecDepth 100000 in
set_option maxHeartbeats 4000000 in
theorem size_in (F : Fence) (hd : F.depth = none) (n : Nat) (hs : F.fn 11) (h4 : F.fn 29) (h5 : F.fn 44) (h6 : F.fn 45) (hro : F.round = none) (hn : 3 ≤ n) (k : Nat) (c : EC) (x : ExV) (w : World) (hx : ExAt k w c.val x) (hk : k ≤ 1000) :
    CallsIn F n Try.prog 11 #[c.val] w fun e w' => e = .returned (.tuple #[.int .i64 (sizeP (partsX k 0 x)).1, .int .i64 (sizeP (partsX k 0 x)).2]) ∧ Below w.heap.size w w' := by
  have h1 : 1 ≤ n := by omega
  have HX := hide hx
  obtain ⟨R, hR⟩ : ∃ R, R = sizeP (partsX k 0 x) := ⟨_, rfl⟩
  rw [← hR]
  have HR := hide hR
  clear hR
  have hdd : ∀ k : Nat, (F.depth.isSome = true → 1 ≤ k) := fun k h => by rw [hd] at h; cases h
  clear hx
  refine callsIn_of_wp_marks Try.func11 rfl hs ?_ hro
  simp only [Try.ntmps11, List.size_toArray, List.length_cons, List.length_nil, Nat.reduceAdd, Nat.reduceSub, Array.replicate_succ, Array.replicate_zero, List.push_toArray, List.append_toArray, List.nil_append, List.cons_append]
  unfold EC.val
  gi_wp2_with ((try refine ⟨hdd _, ?_⟩); gi_at_call 29; refine (each_in F (n - 1) h4 hro c _).mono ?_; rintro e w' ⟨rfl, rfl⟩)
  have o1 := (Own1.new (w.alloc (Obj.cells #[.int .i64 c.k, .int .i64 c.t, .bool c.s.a, .slice c.s.p c.s.n c.s.c, .bool c.s.d, .slice c.s.q c.s.m c.s.e, .slice c.p c.n c.c] 28 (0, 0))) (.int .i64 0) 3).alloc (Obj.cells #[.int .i64 0] 3)
  have o2 := Own1.new ((w.alloc (Obj.cells #[.int .i64 c.k, .int .i64 c.t, .bool c.s.a, .slice c.s.p c.s.n c.s.c, .bool c.s.d, .slice c.s.q c.s.m c.s.e, .slice c.p c.n c.c] 28 (0, 0))).alloc (Obj.cells #[.int .i64 0] 3)) (.int .i64 0) 3
  obtain ⟨ob, hob⟩ : ∃ ob, ob = Obj.cells #[.int .i64 c.k, .int .i64 c.t, .bool c.s.a, .slice c.s.p c.s.n c.s.c, .bool c.s.d, .slice c.s.q c.s.m c.s.e, .slice c.p c.n c.c] 28 (0, 0) := ⟨_, rfl⟩
  rw [← hob] at o1 o2 ⊢
  obtain ⟨w3, hw3⟩ : ∃ w3, w3 = ((w.alloc ob).alloc (Obj.cells #[.int .i64 0] 3)).alloc (Obj.cells #[.int .i64 0] 3) := ⟨_, rfl⟩
  have hB3 : Below w.heap.size w w3 := by rw [hw3]; exact (((Below.refl _ w).alloc (Nat.le_refl _) _).alloc (by simp) _).alloc (by simp; omega) _
  have hz3 : w3.heap.size = w.heap.size + 1 + 1 + 1 := by rw [hw3]; simp
  simp only [World.size_alloc] at o1 o2
  rw [← hw3] at o1 o2 ⊢
  have o1 := o1.alloc ob
  have o2 := o2.alloc ob
  have hE := heap_new w3 ob
  obtain ⟨w4, hw4⟩ : ∃ w4, w4 = w3.alloc ob := ⟨_, rfl⟩
  have hB4 : Below w.heap.size w w4 := by rw [hw4]; exact hB3.alloc (by omega) _
  have hz4 : w4.heap.size = w.heap.size + 1 + 1 + 1 + 1 := by rw [hw4]; simp [hz3]
  rw [← hw4] at o1 o2 hE ⊢
  rw [hz3, hob] at hE
  clear hw4 hw3 hB3 hz3
  refine wpIn_rangeFunc_ownF hro h1 (gf := 44) (lb := #[.pointer (some ⟨w.heap.size + 1 + 1 + 1, 0, none⟩)]) rfl h5 (enters_of Try.func44 (by kernel_rfl) rfl)
    (each_stops F hd (n - 1) h5 h6 hro (w.heap.size + 1 + 1 + 1) w w4 k c x HX.out hk hB4 (by omega) hE) Kp2.trans (Kp2.turn (by omega)) (Below.refl _ _) (fun _ => rfl)
    (fun pre W => (Own1 W (w.heap.size + 1) (.int .i64 (pre.length : Int)) ∧ Own1 W (w.heap.size + 1 + 1) (.int .i64 (tallD (pre.map plainOf))) ∧ pre.length ≤ 40 ∧ tallD (pre.map plainOf) ≤ 8) ∧ Below w.heap.size w W)
    (fun c pre W => (c = .ret ∧ Own1 W (w.heap.size + 1) (.int .i64 0) ∧ Own1 W (w.heap.size + 1 + 1) (.int .i64 0) ∧ ¬ (pre.length ≤ 40 ∧ tallD (pre.map plainOf) ≤ 8)) ∧ Below w.heap.size w W)
    (OwnFrom.and (Own.from (fun s A B row hs hg hr => ⟨hs.1.kept hg hr, hs.2.1.kept hg hr, hs.2.2⟩) _) (ownFrom_below (Nat.le_refl _) (by omega)))
    (fun c => OwnFrom.and (Own.from (fun s A B row hs hg hr => ⟨hs.1, hs.2.1.kept hg hr, hs.2.2.1.kept hg hr, hs.2.2.2⟩) _) (ownFrom_below (Nat.le_refl _) (by omega)))
    ⟨⟨o1, o2, by simp, by simp [tallD]⟩, hB4⟩
    (fun y => { tmps := #[.agg #[.int .i64 c.k, .int .i64 c.t, .bool c.s.a, .slice c.s.p c.s.n c.s.c, .bool c.s.d, .slice c.s.q c.s.m c.s.e, .slice c.p c.n c.c], .pointer (some ⟨w.heap.size, 0, none⟩), .pointer (some ⟨w.heap.size + 1, 0, none⟩), .pointer (some ⟨w.heap.size + 1 + 1, 0, none⟩), .int .i64 y.1.1,
      .agg #[.int .i64 c.k, .int .i64 c.t, .bool c.s.a, .slice c.s.p c.s.n c.s.c, .bool c.s.d, .slice c.s.q c.s.m c.s.e, .slice c.p c.n c.c], .func (.func 44) #[] #[.pointer (some ⟨w.heap.size + 1 + 1 + 1, 0, none⟩)], .int .i64 y.1.1, y.1.2.1.val, undef, undef, undef, undef, undef, undef, undef, undef, undef, undef, undef, undef, undef, undef], defers := [] }) ?assign ?body ?done ?stop
  case assign =>
    intro l y W K hK
    unfold encOf
    gi_wp2
    exact hK
  case body =>
    rintro l pre ⟨⟨yd, yc, yx⟩, hy0, hy1, hyk⟩ W ⟨⟨p1, p2, hl, ht⟩, hB⟩ _
    dsimp only at hy0 hy1
    have ht0 := tallD_nonneg (pre.map plainOf)
    have hT1 : tallD ((pre ++ [(⟨(yd, yc, yx), hy0, hy1, hyk⟩ : PartOf w)]).map plainOf) = max (tallD (pre.map plainOf)) (yd + 1) := by rw [List.map_append]; exact tallD_snoc _ _
    have hN1 : (pre ++ [(⟨(yd, yc, yx), hy0, hy1, hyk⟩ : PartOf w)]).length = pre.length + 1 := by simp
    generalize (pre ++ [(⟨(yd, yc, yx), hy0, hy1, hyk⟩ : PartOf w)]) = pre1 at *
    generalize tallD (pre.map plainOf) = T at *
    generalize hLL : (pre.length : Int) = L at *
    have hL0 : 0 ≤ L := by omega
    have hL1 : L ≤ 40 := by omega
    have q1 := p1.set (.int .i64 (L + 1))
    have q2 := p2.other (.int .i64 (L + 1)) (b' := w.heap.size + 1) (by omega)
    have r1 := q1.other (.int .i64 (max T (yd + 1))) (b' := w.heap.size + 1 + 1) (by omega)
    have r2 := q2.set (.int .i64 (max T (yd + 1)))
    have s1 := r1.set (.int .i64 0)
    have s2 := r2.other (.int .i64 0) (b' := w.heap.size + 1) (by omega)
    have t1 := s1.other (.int .i64 0) (b' := w.heap.size + 1 + 1) (by omega)
    have t2 := s2.set (.int .i64 0)
    have hk2 := (Kp2.setCell (n₀ := w.heap.size) (n₁ := w4.heap.size) W (w.heap.size + 1) (.int .i64 (L + 1)) (by omega) (by omega)).trans (Kp2.setCell _ (w.heap.size + 1 + 1) (.int .i64 (max T (yd + 1))) (by omega) (by omega))
    have ko2 := (KeepsOthers.setCell W ⟨w.heap.size + 1, 0, none⟩ (.int .i64 (L + 1))).trans (KeepsOthers.setCell _ ⟨w.heap.size + 1 + 1, 0, none⟩ (.int .i64 (max T (yd + 1))))
    have hk4 := hide ((hk2.trans (Kp2.setCell _ (w.heap.size + 1) (.int .i64 0) (by omega) (by omega))).trans (Kp2.setCell _ (w.heap.size + 1 + 1) (.int .i64 0) (by omega) (by omega)))
    have ko4 := hide ((ko2.trans (KeepsOthers.setCell _ ⟨w.heap.size + 1, 0, none⟩ (.int .i64 0))).trans (KeepsOthers.setCell _ ⟨w.heap.size + 1 + 1, 0, none⟩ (.int .i64 0)))
    have hk2 := hide hk2
    have ko2 := hide ko2
    have HB := hide hB
    have T1 := hide t1
    have T2 := hide t2
    have R1 := hide r1
    have R2 := hide r2
    obtain ⟨p1c, p1f⟩ := p1
    obtain ⟨p2c, p2f⟩ := p2
    obtain ⟨q1c, q1f⟩ := q1
    obtain ⟨q2c, q2f⟩ := q2
    obtain ⟨r1c, r1f⟩ := r1
    obtain ⟨r2c, r2f⟩ := r2
    obtain ⟨s1c, s1f⟩ := s1
    obtain ⟨s2c, s2f⟩ := s2
    clear t1 t2 o1 o2 hE HX hB
    dsimp only
    by_cases g1 : 40 < L + 1
    · have g1' : decide (40 < L + 1) = true := by simp; omega
      gi_wp2
      exact ⟨ko4.out, ⟨rfl, T1.out, T2.out, fun h => by omega⟩, HB.out.trans hk4.out.below⟩
    · have g1' : decide (40 < L + 1) = false := by simp; omega
      by_cases g2 : 8 < max T (yd + 1)
      · have g2' : decide (8 < max T (yd + 1)) = true := by simp; omega
        gi_wp2
        exact ⟨ko4.out, ⟨rfl, T1.out, T2.out, fun h => by rw [hT1]; exact g2⟩, HB.out.trans hk4.out.below⟩
      · have g2' : decide (8 < max T (yd + 1)) = false := by simp; omega
        gi_wp2
        exact ⟨ko2.out, hz4 ▸ hk2.out, ⟨by rw [show ((pre1.length : Nat) : Int) = L + 1 by omega]; exact R1.out, by rw [hT1]; exact R2.out, by omega, by rw [hT1]; omega⟩, HB.out.trans hk2.out.below⟩
  case done =>
    rintro D ys W hD hS ⟨⟨p1, p2, hl, ht⟩, hB⟩ hK
    have hLn : ((partsX k 0 x).length : Int) = (ys.length : Int) := by rw [← hS, List.length_map]
    have e1 : sizeP (partsX k 0 x) = ((ys.length : Int), tallD (ys.map plainOf)) := by
      unfold sizeP
      rw [hLn, if_pos ⟨by omega, by rw [← hS]; exact ht⟩, hS]
    have E := hide (HR.out.trans e1)
    clear e1 HR
    have q1 := p1.set (.int .i64 (ys.length : Int))
    have q2 := p2.other (.int .i64 (ys.length : Int)) (b' := w.heap.size + 1) (by omega)
    have r1 := q1.other (.int .i64 (tallD (ys.map plainOf))) (b' := w.heap.size + 1 + 1) (by omega)
    have r2 := q2.set (.int .i64 (tallD (ys.map plainOf)))
    have hk2 := hide ((Kp2.setCell (n₀ := w.heap.size) (n₁ := w4.heap.size) W (w.heap.size + 1) (.int .i64 (ys.length : Int)) (by omega) (by omega)).trans (Kp2.setCell _ (w.heap.size + 1 + 1) (.int .i64 (tallD (ys.map plainOf))) (by omega) (by omega)))
    have hK2 := hide (((KeepsOthers.setCell W ⟨w.heap.size + 1, 0, none⟩ (.int .i64 (ys.length : Int))).trans (KeepsOthers.setCell _ ⟨w.heap.size + 1 + 1, 0, none⟩ (.int .i64 (tallD (ys.map plainOf))))).same D _ hK rfl)
    have R1 := hide r1
    have R2 := hide r2
    have HB := hide hB
    obtain ⟨p1c, p1f⟩ := p1
    obtain ⟨p2c, p2f⟩ := p2
    obtain ⟨q1c, q1f⟩ := q1
    obtain ⟨q2c, q2f⟩ := q2
    clear r1 r2 o1 o2 hE HX hB hK hS hLn
    generalize tallD (ys.map plainOf) = T at *
    generalize (ys.length : Int) = L at *
    gi_wp2
    gi_region
    all_goals gi_wp2
    all_goals
      have hk3 := hK2.out
      have y1 := R1.out.drew.kept (grownBy_putObj' _ D (.deferred none)) (fun r e => by cases e; exact ⟨_, hk3, rfl⟩)
      have y2 := R2.out.drew.kept (grownBy_putObj' _ D (.deferred none)) (fun r e => by cases e; exact ⟨_, hk3, rfl⟩)
      refine ⟨by simp, .inl ⟨_, _, rfl, run_takeDeferred hk3, ?_⟩⟩
      refine ⟨.tuple #[.int .i64 L, .int .i64 T], ?_, by rw [E.out], (HB.out.trans hk2.out.below).trans ((belowK_b (w := w) (Nat.le_refl _) _ D _ _ (by omega) hk3 rfl rfl).drew)⟩
      simp [results, Try.f11, go_sem, y1.cell, y2.cell]
  case stop =>
    rintro D c pre W hD hpre ⟨⟨rfl, z1, z2, hne⟩, hB⟩ hK
    have e1 : sizeP (partsX k 0 x) = (0, 0) := by
      unfold sizeP
      rw [if_neg ?_]
      intro h
      apply hne
      have h2 := hpre.length_le
      have h3 := tallD_pre hpre
      rw [List.length_map] at h2
      omega
    have E := hide (HR.out.trans e1)
    clear e1 HR hne hpre
    gi_wp2
    refine ⟨by simp, .inl ⟨_, _, rfl, run_takeDeferred hK, ?_⟩⟩
    have y1 := z1.kept (grownBy_putObj' _ D (.deferred none)) (fun r e => by cases e; exact ⟨_, hK, rfl⟩)
    have y2 := z2.kept (grownBy_putObj' _ D (.deferred none)) (fun r e => by cases e; exact ⟨_, hK, rfl⟩)
    refine ⟨.tuple #[.int .i64 0, .int .i64 0], ?_, by rw [E.out], hB.trans (belowK_b (w := w) (Nat.le_refl _) W D _ _ (by omega) hK rfl rfl)⟩
    simp [results, Try.f11, go_sem, y1.cell, y2.cell]
end Go.Proofs.Ytoplmioejebnnaa
