/-
  The program's iterator over the parts of an expression: visit, eachPart and its closure.
-/
import Derived.Test.YtoplmioejebnnaaEA
import Derived.RangeFuncNested
import Derived.RangeFuncBound
import Derived.RangeFuncCalls
import Derived.RangeFuncLeaves
import Derived.Shelf.Abstract
import Derived.Shelf.RegionOpen
import Derived.WalkKit
import Derived.OwnWalkIn
import Derived.TacticsInMore
import Derived.LoopNIn
import Derived.LoopIn
set_option linter.unusedSimpArgs false
set_option linter.unusedVariables false
namespace Go.Proofs.Ytoplmioejebnnaa
open Go.RowKit Go.Shelf
attribute [local go_sem] Oper.semAt_some

/-- All parts, each ahead of its Sub, with their depths. -/
def partsX : Nat → Int → ExV → List (Int × ExV)
  | 0, _, _ => []
  | k + 1, D, x => (D, x) :: x.sub.flatMap (partsX k (D + 1))

theorem roomOf_none {F : Fence} (hd : F.depth = none) (k : Nat) : F.room k := fun d h => by rw [hd] at h; cases h
theorem round_anyDepth {F : Fence} (hd : F.depth = none) {m m' : Nat} {P : Program} {l : Nat} {f : FuncId} {tmps : Array Value} {assign body : Code} {w : World} {R : Ending → World → Prop}
    (h : RoundIn F m P l f tmps assign body w R) : RoundIn F m' P l f tmps assign body w R := ⟨h.1, fun c cs _ => h.2 c cs (roomOf_none hd _)⟩
theorem yield_anyDepth {F : Fence} (hd : F.depth = none) {m : Nat} (m' : Nat) {P : Program} {l : Nat} {args : Array Value} {W : World} {R : Ending → World → Prop} (h : YieldAt F m P l args W R) : YieldAt F m' P l args W R := by
  obtain ⟨fn, tmps, assign, body, hy, hR⟩ := h
  exact ⟨fn, tmps, assign, body, hy, round_anyDepth hd hR⟩

/-- What lies below the one number, and what cells lie from the other one on, stay. -/
structure Kp2 (n₀ n₁ : Nat) (A B : World) : Prop where
  below : Below n₀ A B
  cells : ∀ b o, n₁ ≤ b → A.heap[b]? = some o → o.isCells = true → B.heap[b]? = some o
theorem Kp2.trans {n₀ n₁ : Nat} {A B C : World} (h : Kp2 n₀ n₁ A B) (k : Kp2 n₀ n₁ B C) : Kp2 n₀ n₁ A C :=
  ⟨h.below.trans k.below, fun b o hb ho hc => k.cells b o hb (h.cells b o hb ho hc) hc⟩
theorem Kp2.ofBelow {n₀ n₁ : Nat} {A B : World} (hn : n₀ ≤ A.heap.size) (h : Below A.heap.size A B) : Kp2 n₀ n₁ A B :=
  ⟨h.mono hn, fun b o _ ho _ => (h.block b (Array.getElem?_eq_some_iff.1 ho).1).trans ho⟩
theorem Kp2.refl (n₀ n₁ : Nat) (A : World) : Kp2 n₀ n₁ A A := ⟨Below.refl _ _, fun _ _ _ h _ => h⟩
theorem Kp2.turn {n₀ n₁ : Nat} {w : World} (hn : n₀ ≤ w.heap.size) (W : World) (l : Nat) (o o' : Obj) (hl : w.heap.size ≤ l) (h : W.heap[l]? = some o) (hc : o.isCells = false) (hw : o.isWalk = false) : Kp2 n₀ n₁ W (W.putObj l o') := by
  refine ⟨belowK_b hn W l o o' hl h hc hw, fun b ob hb hob hcb => ?_⟩
  by_cases e : b = l
  · subst e
    rw [h] at hob
    cases hob
    rw [hc] at hcb
    cases hcb
  · have := (grownBy_putObj' W l o')
    have h2 := this.2
    simp only [World.putObj]
    rw [Array.getElem?_setIfInBounds]
    rw [if_neg (fun q => e q.symm)]
    exact hob

theorem ecCells0 {w : World} {g : Nat} {t : TypeId} {x0 x1 x2 x3 x4 x5 x6 : Value} (h : w.heap[g]? = some (.cells #[x0, x1, x2, x3, x4, x5, x6] t (0, 0))) : w.cell? ⟨g, 0, none⟩ = some x0 ∧ w.cell? ⟨g, 1, none⟩ = some x1 ∧ w.cell? ⟨g, 2, none⟩ = some x2 ∧ w.cell? ⟨g, 3, none⟩ = some x3 ∧ w.cell? ⟨g, 4, none⟩ = some x4 ∧ w.cell? ⟨g, 5, none⟩ = some x5 ∧ w.cell? ⟨g, 6, none⟩ = some x6 :=
  ⟨cell_heap h 0, cell_heap h 1, cell_heap h 2, cell_heap h 3, cell_heap h 4, cell_heap h 5, cell_heap h 6⟩
/-- A part as it is handed on: its depth, its cells, what it is; it lies in the world w. -/
abbrev PartOf (w : World) := { y : Int × EC × ExV // 0 ≤ y.1 ∧ y.1 ≤ 1000 ∧ ∃ k, k ≤ 1000 ∧ ExAt k w y.2.1.val y.2.2 }
def plainOf {w : World} (y : PartOf w) : Int × ExV := (y.1.1, y.1.2.2)
def encOf {w : World} (y : PartOf w) : Array Value := #[.int .i64 y.1.1, y.1.2.1.val]

theorem ExAt.pos {k : Nat} {w : World} {v : Value} {x : ExV} (h : ExAt k w v x) : ∃ m, k = m + 1 := by
  cases k with
  | zero => cases h
  | succ m => exact ⟨m, rfl⟩
theorem parts_take (k : Nat) (D : Int) (x : ExV) (i : Nat) (h : i < x.sub.length) : (x.sub.take (i + 1)).flatMap (partsX k D) = (x.sub.take i).flatMap (partsX k D) ++ partsX k D (x.sub.getD i noX) := by
  rw [List.take_add_one, List.getElem?_eq_getElem h, List.getD_eq_getElem?_getD, List.getElem?_eq_getElem h, List.flatMap_append]
  simp
theorem flat_pre (k : Nat) (D : Int) (l : List ExV) (i : Nat) : (l.take i).flatMap (partsX k D) <+: l.flatMap (partsX k D) := by
  conv => rhs; rw [← List.take_append_drop i l, List.flatMap_append]
  exact List.prefix_append _ _

set_option maxHeartbeats 4000000 in
set_option maxRecDepth 100000 in
theorem visit_in (F : Fence) (hd : F.depth = none) (hv : F.fn 45) (hro : F.round = none) (l n₁ N B : Nat) (w : World) (J Jx : List (PartOf w) → World → Prop)
    (hJ : ∀ s W W', J s W → W.grownBy W' none → J s W')
    (hY : ∀ m pre x W, J pre W → pre.length < N → YieldAt F m Try.prog l (encOf x) W fun e W' =>
      (e = .returned (.bool true) ∧ J (pre ++ [x]) W' ∧ Kp2 w.heap.size n₁ W W') ∨ (e = .returned (.bool false) ∧ Jx (pre ++ [x]) W')) :
    ∀ (k n : Nat) (c : EC) (x : ExV) (D : Int) (pre : List (PartOf w)) (W : World), ExAt k w c.val x → Below w.heap.size w W → n₁ ≤ W.heap.size → 0 ≤ D → D + k ≤ 1000 → J pre W → pre.length + (partsX k D x).length ≤ N →
      CallsIn F n Try.prog 45 #[.int .i64 D, c.val, .func (.yield l) #[] #[]] W fun e W' =>
        (e = .returned (.bool true) ∧ ∃ ys : List (PartOf w), ys.map plainOf = partsX k D x ∧ J (pre ++ ys) W' ∧ Kp2 w.heap.size n₁ W W') ∨
        (e = .returned (.bool false) ∧ ∃ ys : List (PartOf w), ys.map plainOf <+: partsX k D x ∧ Jx (pre ++ ys) W') := by
  intro k
  induction k with
  | zero => intro n c x D pre W h; cases h
  | succ k ih =>
    intro n c x D pre W hx hB hn hD hDk hJp hN
    have hdd : ∀ k : Nat, (F.depth.isSome = true → 1 ≤ k) := fun k h => by rw [hd] at h; cases h
    obtain ⟨c', hcv, hc, hs⟩ := id hx
    obtain rfl := ec_inj hcv
    obtain ⟨o, ho⟩ : ∃ o, o = Obj.cells #[.int .i64 c.k, .int .i64 c.t, .bool c.s.a, .slice c.s.p c.s.n c.s.c, .bool c.s.d, .slice c.s.q c.s.m c.s.e, .slice c.p c.n c.c] 28 (0, 0) := ⟨_, rfl⟩
    have hB1 : Below w.heap.size w (W.alloc o) := hB.trans ((Below.refl _ W).alloc hB.size o)
    have hJ1 : J pre (W.alloc o) := hJ _ _ _ hJp (World.grownBy_alloc W o none)
    have hK0 : Kp2 w.heap.size n₁ W (W.alloc o) := Kp2.ofBelow hB.size ((Below.refl _ W).alloc (Nat.le_refl _) o)
    have hl1 : 1 ≤ (partsX (k + 1) D x).length := by simp [partsX]
    obtain ⟨y0, hy0, hy1⟩ : ∃ y0 : PartOf w, encOf y0 = #[.int .i64 D, c.val] ∧ plainOf y0 = (D, x) := ⟨⟨(D, c, x), hD, by show D ≤ 1000; omega, k + 1, by omega, hx⟩, rfl, rfl⟩
    have hE1 := heap_new W o
    obtain ⟨fn, tmps, assign, body, hy, hR⟩ := YieldAt.mono (R' := fun e W2 => (e = .returned (.bool true) ∧ J (pre ++ [y0]) W2 ∧ Kp2 w.heap.size n₁ W W2 ∧ Hid (W2.heap[W.heap.size]? = some o) ∧ W2.cell? ⟨W.heap.size, 6, none⟩ = some (.slice c.p c.n c.c)) ∨ (e = .returned (.bool false) ∧ Jx (pre ++ [y0]) W2)) (hY (n - 1) pre y0 (W.alloc o) hJ1 (by omega)) (fun e W2 h => h.elim (fun ⟨he, hj, hk⟩ => .inl ⟨he, hj, hK0.trans hk, hide (hk.cells _ _ hn hE1 (by rw [ho]; rfl)), by
      have := hk.cells _ _ hn hE1 (by rw [ho]; rfl)
      rw [ho] at this
      exact (ecCells0 this).2.2.2.2.2.2⟩) .inr)
    rw [hy0] at hy
    have HS := hide hs
    have HIH := hide ih
    have HHN := hide hN
    have HDK := hide hDk
    have big := hc.big
    have room := hc.room
    have HN := hide hc.n
    have hD2 : D ≤ 1000 := by omega
    clear hs ih hN hc hx hJp hDk
    clear hcv hy0 hl1 hJ1 hE1
    unfold EC.val at hy
    refine callsIn_of_wp Try.func45 rfl hv ?_ hro
    simp only [Try.ntmps45, List.size_toArray, List.length_cons, List.length_nil, Nat.reduceAdd, Nat.reduceSub, Array.replicate_succ, Array.replicate_zero, List.push_toArray, List.append_toArray, List.nil_append, List.cons_append]
    unfold EC.val
    subst ho
    gi_wp2_with ((try refine ⟨hdd _, ?_⟩); refine hR.mono ?_; clear hR; rintro e W2 (⟨rfl, hJ2, hk2, hE2, c6⟩ | ⟨rfl, hx2⟩))
    · gi_loopw [17] (fun p wr => ∃ (i : Nat) (ys : List (PartOf w)), p = .int .i64 i ∧ i ≤ c.n ∧ Hid (ys.map plainOf = (D, x) :: (x.sub.take i).flatMap (partsX k (D + 1))) ∧ Hid (J (pre ++ ys) wr) ∧ Hid (Kp2 w.heap.size n₁ W wr)) (fun p wr => c.n - (intOf p).toNat)
      case atStart => exact ⟨0, [y0], rfl, by omega, hide (by simp [hy1]), hide hJ2, hide hk2⟩
      case round =>
        obtain ⟨i, ys, rfl, hi, HY, HJ, HK⟩ := hrel
        by_cases hlt : i < c.n
        · have hk' : i < x.sub.length := by rw [← HN.out]; exact hlt
          obtain ⟨g, off, d, hp, hg, hd', hyy⟩ := HS.out i hk'
          have HBw : Below w.heap.size w wr := hB.trans HK.out.below
          obtain ⟨d0, d1, d2, d3, d4, d5, d6⟩ := hd'.on hg HBw
          have hl2 : (pre ++ ys).length + (partsX k (D + 1) (x.sub.getD i noX)).length ≤ N := by
            have e1 := congrArg List.length HY.out
            have e2 := (flat_pre k (D + 1) x.sub (i + 1)).length_le
            rw [parts_take k (D + 1) x i hk', List.length_append] at e2
            have e3 := HHN.out
            simp only [partsX, List.length_cons, List.length_map] at e1 e3
            rw [List.length_append]
            omega
          have X := hide (HIH.out (n - 1) d (x.sub.getD i noX) (D + 1) (pre ++ ys) (wr.alloc (Obj.cells #[.int .i64 d.k, .int .i64 d.t, .bool d.s.a, .slice d.s.p d.s.n d.s.c, .bool d.s.d, .slice d.s.q d.s.m d.s.e, .slice d.p d.n d.c] 28 (0, 0))) hyy
            (HBw.trans ((Below.refl _ wr).alloc HBw.size _)) (by have := HK.out.below.size; simp; omega) (by omega) (by have := HDK.out; omega) (hJ _ _ _ HJ.out (World.grownBy_alloc _ _ none)) hl2)
          have HKA := hide (HK.out.trans (Kp2.ofBelow (n₁ := n₁) HBw.size ((Below.refl _ wr).alloc (Nat.le_refl _) (Obj.cells #[.int .i64 d.k, .int .i64 d.t, .bool d.s.a, .slice d.s.p d.s.n d.s.c, .bool d.s.d, .slice d.s.q d.s.m d.s.e, .slice d.p d.n d.c] 28 (0, 0)))))
          clear hl2 hyy HBw c6 hJ hY HIH HS HJ HK
          unfold EC.val at X
          rw [hp]
          gi_wp2_with fail
          refine (unhide X).mono ?_
          clear X d0 d1 d2 d3 d4 d5 d6
          rintro e W3 (⟨rfl, zs, hz, hJ3, hk3⟩ | ⟨rfl, zs, hz, hx3⟩)
          · have HZ : Hid ((ys ++ zs).map plainOf = (D, x) :: (x.sub.take (i + 1)).flatMap (partsX k (D + 1))) := hide (by
              rw [List.map_append, HY.out, hz, parts_take k (D + 1) x i hk']; rfl)
            have HJ3 := hide hJ3
            have HK3 := hide (HKA.out.trans hk3)
            clear hz hJ3 hk3 HKA HY
            gi_wp2
            go_roundw
            case rel => exact ⟨i + 1, ys ++ zs, by go_num, by omega, HZ, hide (by rw [← List.append_assoc]; exact HJ3.out), HK3⟩
            case measure => simp [intOf]; omega
          · gi_wp2
            go_ret
            refine .inr ⟨rfl, ys ++ zs, ?_, by rw [← List.append_assoc]; exact hx3⟩
            obtain ⟨r, hr⟩ := hz
            obtain ⟨r2, hr2⟩ := flat_pre k (D + 1) x.sub (i + 1)
            refine ⟨r ++ r2, ?_⟩
            rw [List.map_append, HY.out]
            show _ = (D, x) :: x.sub.flatMap (partsX k (D + 1))
            rw [← hr2, parts_take k (D + 1) x i hk', ← hr]
            simp
        · have hge : decide ((i : Int) < (c.n : Int)) = false := by simp; omega
          gi_wp2
          go_ret
          refine .inl ⟨rfl, ys, ?_, HJ.out, HK.out⟩
          rw [HY.out, List.take_of_length_le (by have := HN.out; omega)]
          rfl
    · go_ret
      exact .inr ⟨rfl, [y0], by simp [hy1, partsX], hx2⟩

set_option maxHeartbeats 2000000 in
set_option maxRecDepth 100000 in
theorem each1_in (F : Fence) (hd : F.depth = none) (n : Nat) (he : F.fn 44) (hv : F.fn 45) (hro : F.round = none) (l n₁ b : Nat) (w : World) (J Jx : List (PartOf w) → World → Prop) (k : Nat) (c : EC) (x : ExV)
    (hJ : ∀ s W W', J s W → W.grownBy W' none → J s W')
    (hY : ∀ pre y W, J pre W → pre.length < (partsX k 0 x).length → YieldAt F (n - 1) Try.prog l (encOf y) W fun e W' =>
      (e = .returned (.bool true) ∧ J (pre ++ [y]) W' ∧ Kp2 w.heap.size n₁ W W') ∨ (e = .returned (.bool false) ∧ Jx (pre ++ [y]) W'))
    (W : World) (hx : ExAt k w c.val x) (hk : k ≤ 1000) (hB : Below w.heap.size w W) (hn : n₁ ≤ W.heap.size) (hE : W.heap[b]? = some (Obj.cells #[.int .i64 c.k, .int .i64 c.t, .bool c.s.a, .slice c.s.p c.s.n c.s.c, .bool c.s.d, .slice c.s.q c.s.m c.s.e, .slice c.p c.n c.c] 28 (0, 0))) (h0 : J [] W) :
    CallsIn F n Try.prog 44 #[.func (.yield l) #[] #[], .pointer (some ⟨b, 0, none⟩)] W fun e W' => (∃ v, e = .returned v) ∧
      ((∃ ys, ys.map plainOf = partsX k 0 x ∧ J ys W') ∨ (∃ pre, pre.map plainOf <+: partsX k 0 x ∧ Jx pre W')) := by
  have hdd : ∀ k : Nat, (F.depth.isSome = true → 1 ≤ k) := fun k h => by rw [hd] at h; cases h
  have hp := hide (visit_in F hd hv hro l n₁ (partsX k 0 x).length 0 w J Jx hJ (fun m pre x W hj hl => yield_anyDepth hd m (hY pre x W hj hl)) k (n - 1) c x 0 [] W hx hB hn (by omega) (by omega) h0 (by simp))
  obtain ⟨c0, c1, c2, c3, c4, c5, c6⟩ := ecCells0 hE
  clear hY hJ hx hE h0
  refine callsIn_of_wp Try.func44 rfl he ?_ hro
  simp only [Try.ntmps44, List.size_toArray, List.length_cons, List.length_nil, Nat.reduceAdd, Nat.reduceSub, Array.replicate_succ, Array.replicate_zero, List.push_toArray, List.append_toArray, List.nil_append, List.cons_append]
  unfold EC.val at hp
  gi_wp2_with ((try refine ⟨hdd _, ?_⟩); gi_at_call 45; refine (unhide hp).mono ?_; clear hp; rintro e W1 (⟨rfl, ys, hz, hJ1, _⟩ | ⟨rfl, ys, hq, hx⟩))
  · go_end0
    exact ⟨⟨_, rfl⟩, .inl ⟨ys, hz, by simpa using hJ1⟩⟩
  · go_end0
    exact ⟨⟨_, rfl⟩, .inr ⟨ys, hq, by simpa using hx⟩⟩

set_option maxHeartbeats 1000000 in
theorem each_in (F : Fence) (n : Nat) (he : F.fn 29) (hro : F.round = none) (c : EC) (w : World) :
    CallsIn F n Try.prog 29 #[c.val] w fun e w' => e = .returned (.func (.func 44) #[] #[.pointer (some ⟨w.heap.size, 0, none⟩)]) ∧ w' = w.alloc (Obj.cells #[.int .i64 c.k, .int .i64 c.t, .bool c.s.a, .slice c.s.p c.s.n c.s.c, .bool c.s.d, .slice c.s.q c.s.m c.s.e, .slice c.p c.n c.c] 28 (0, 0)) := by
  refine callsIn_of_wp Try.func29 rfl he ?_ hro
  simp only [Try.ntmps29, List.size_toArray, List.length_cons, List.length_nil, Nat.reduceAdd, Nat.reduceSub, Array.replicate_succ, Array.replicate_zero, List.push_toArray, List.append_toArray, List.nil_append, List.cons_append]
  unfold EC.val
  gi_wp2
  go_ret
  exact ⟨rfl, rfl⟩

/-- What eachPart hands back: all parts, or the first ones. w: where the expression lies; w0: where the loop begins. -/
theorem each_stops (F : Fence) (hd : F.depth = none) (n : Nat) (he : F.fn 44) (hv : F.fn 45) (hro : F.round = none) (b : Nat) (w w0 : World) (k : Nat) (c : EC) (x : ExV) (hx : ExAt k w c.val x) (hk : k ≤ 1000) (hB : Below w.heap.size w w0) (hb : b < w0.heap.size)
    (hE : w0.heap[b]? = some (Obj.cells #[.int .i64 c.k, .int .i64 c.t, .bool c.s.a, .slice c.s.p c.s.n c.s.c, .bool c.s.d, .slice c.s.q c.s.m c.s.e, .slice c.p c.n c.c] 28 (0, 0))) :
    SeqStopsK F n Try.prog 44 #[.pointer (some ⟨b, 0, none⟩)] (encOf (w := w)) (Kp2 w.heap.size w0.heap.size) (fun ys => ys.map plainOf = partsX k 0 x) (fun pre => pre.map plainOf <+: partsX k 0 x) (partsX k 0 x).length w0 := fun l J Jx W hW hJ hJx hY h0 =>
  each1_in F hd n he hv hro l w0.heap.size b w J Jx k c x (fun s W W' hs hg => hJ s W W' none hs hg (fun r e => by cases e)) hY W hx hk (hB.trans (hW.mono hB.size)) hW.size ((hW.block b hb).trans hE) h0
end Go.Proofs.Ytoplmioejebnnaa
