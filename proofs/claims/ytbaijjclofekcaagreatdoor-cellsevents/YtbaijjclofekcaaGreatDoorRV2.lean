import Derived.Test.YtbaijjclofekcaaGreatDoorRV1
import Derived.Lib.QuietBelow
import Derived.Laws.OwnMore
import Derived.Test.YtbaijjclofekcaaGreatDoorRows
import Derived.WalkKit
import Derived.WalkSpells
import Derived.WalkLawsBesides
import Derived.WalkSmall
import Derived.Lib.SmallJoins
import Derived.Lib.Bytealg
import Derived.Lib.UnsafeStr
import Derived.Lib.ItoaLen
import Derived.Lib.Slices
import Derived.Laws.IdiomStrings
import Derived.OwnWalk
import Derived.BigCall
import Derived.Deep.RegionHeld3
import Derived.Deep.AppendLies
import Derived.Deep.DrawnRows
import Derived.Lib.AppendIntMem
import Derived.Deep.QuietTactic
import Derived.BigQuiet
import Derived.Lib.AppendZeros
import Derived.Laws.AppendOwnNone
import Derived.Laws.MakeOwn
import Derived.Laws.AppendOwn
import Derived.Shelf.SlSortCmp.WholeK
import Derived.Shelf.Small.Bits
import Derived.Shelf.Small.Strs
import Derived.Shelf.Small.Wraps
import Derived.Shelf.Strconv.Itoa0
import Derived.Shelf.Strconv.Itoa1
import Derived.Shelf.LaysM
import Derived.Shelf.Strconv.Itoa2
import Derived.Shelf.Strconv.Itoa3
import Derived.Shelf.LaysC
import Derived.Shelf.Sort.Plain
import Derived.Shelf.Slices.Clone
import Derived.Shelf.Slices.CompactI
import Derived.Shelf.Slices.CompactS
import Derived.Shelf.Slices.In.SortNone
import Derived.Test.YtbaijjclofekcaaGreatDoorProg
import Derived.Sort.OwnSorted
import Derived.Lib.OwnBridge
set_option linter.unusedSimpArgs false
set_option linter.unusedVariables false
namespace Go.Proofs.YtbaijjclofekcaaGreatDoor
open Go.RowKit
set_option maxHeartbeats 4000000 in
set_option maxRecDepth 100000 in
theorem rightRanges_any (v : Value) (l : List Rg) (w : World) (hv : RngsAt w v l) :
    Calls Tryz.prog 53 #[v] w fun r w' => r = .returned (.bool (rgB none l)) ∧ Below w.heap.size w w' := by
  obtain ⟨a, c, rfl⟩ := hv.form
  have HV := hide hv
  have nle := hv.2.1
  obtain ⟨N, hN⟩ : ∃ n : Nat, n = l.length := ⟨_, rfl⟩
  rw [← hN] at nle ⊢
  have HN := hide hN
  clear hv hN
  go_enter Tryz.func53, Tryz.ntmps53
  go_wp2
  go_loopw [7] (fun i wr => ∃ k : Nat, i = .int .i64 k ∧ k ≤ N ∧ Hid (rgB (prevR l k) (l.drop k) = rgB none l) ∧ Hid (Below w.heap.size w wr)) (fun i _ => N - (intOf i).toNat)
  case atStart => exact ⟨0, rfl, by omega, hide rfl, hide (Below.refl _ _)⟩
  case round =>
    obtain ⟨k, rfl, hk, HG, HB⟩ := hrel
    by_cases hlt : k < N
    · have hk' : k < l.length := by rw [← HN.out]; exact hlt
      have IW := HV.out.on HB.out
      obtain ⟨b, off, rfl, hb, d0, d1⟩ := IW.at.2 k hk'
      have bd := IW.bound k hk'
      have G0 := HG.out
      rw [drop_getD l k (0, 0) hk'] at G0
      have prv : k ≠ 0 → ∃ q : Rg, prevR l k = some q.2 ∧ wr.cell? ⟨b, off + (k - 1) * 2, none⟩ = some (.int .i64 q.1) ∧ wr.cell? ⟨b, off + (k - 1) * 2 + 1, none⟩ = some (.int .i64 q.2) ∧ -9223372036854775808 ≤ q.2 ∧ q.2 ≤ 9223372036854775807 := fun h0 => by
        obtain ⟨b', off', ha, _, e0, e1⟩ := IW.at.2 (k - 1) (by omega)
        obtain ⟨_, _, r2, r3⟩ := IW.bound (k - 1) (by omega)
        simp at ha
        obtain ⟨rfl, rfl⟩ := ha
        exact ⟨_, by unfold prevR; rw [if_neg h0], e0, e1, r2, r3⟩
      have PRV := hide prv
      have NXT : Hid (prevR l (k + 1) = some (l.getD k (0, 0)).2) := hide (by unfold prevR; rw [if_neg (by omega)]; rfl)
      generalize l.getD k (0, 0) = r at *
      have G1 := hide G0
      clear IW prv G0 HG
      have n0 := cell_heap (heap_new wr (Obj.cells #[Value.int IntKind.i64 r.1, Value.int IntKind.i64 r.2] 54)) 0
      have n1 := cell_heap (heap_new wr (Obj.cells #[Value.int IntKind.i64 r.1, Value.int IntKind.i64 r.2] 54)) 1
      simp only [List.getElem?_toArray, List.getElem?_cons_zero, List.getElem?_cons_succ] at n0 n1
      have B5 := hide (HB.out.alloc HB.out.size (Obj.cells #[Value.int IntKind.i64 r.1, Value.int IntKind.i64 r.2] 54))
      have C5 := fun {o : Nat} => ((Below.refl _ wr).alloc (Nat.le_refl _) (Obj.cells #[Value.int IntKind.i64 r.1, Value.int IntKind.i64 r.2] 54)).cell (p := ⟨b, o, none⟩) hb
      by_cases h1 : r.1 ≤ r.2
      · have e1 : decide (r.2 < r.1) = false := decide_eq_false (by omega)
        by_cases k0 : k = 0
        · have dk : decide (0 < k) = false := decide_eq_false (by omega)
          have G2 : Hid (rgB (prevR l (k + 1)) (l.drop (k + 1)) = rgB none l) := hide (by
            have := G1.out
            rw [show prevR l k = none by unfold prevR; rw [if_pos k0]] at this
            rw [← this, NXT.out]
            simp [rgB, h1])
          clear G1 PRV NXT C5 k0
          go_wp2
          clear d0 d1
          go_quiet (fail)
          go_wp2
          exact ⟨⟨k + 1, by go_num, by omega, G2, hide (below_drewN B5.out _)⟩, by simp [intOf]; omega⟩
        · obtain ⟨q, hp, pc0, pc1, p0, p1⟩ := PRV.out k0
          have x0 := C5.trans pc0
          have x1 := C5.trans pc1
          have HX := fun (W : World) => hide (apart_any q r W bd.1 bd.2.1 p0)
          have dk : decide (0 < k) = true := decide_eq_true (by omega)
          have k1 : 1 ≤ k := by omega
          have G1' := G1.out
          rw [hp] at G1'
          have HG1 := hide G1'
          clear PRV hp k0 G1 G1' C5 pc0 pc1
          go_wp2
          generalize wr.alloc (Obj.cells #[Value.int IntKind.i64 r.1, Value.int IntKind.i64 r.2] 54) = w5 at *
          clear d0 d1
          have X := fun (d : Nat) (os : Array Obj) => hide (Calls.regrown_of (HX (Sort.grow (redrawn w5 d) os)).out)
          have p0' := cell_regrown n0
          have p1' := cell_regrown n1
          have p2' := cell_regrown x0
          have p3' := cell_regrown x1
          clear HX
          refine wp_region_quiet_below mixed (by kernel_rfl) ?_
          repeat (first | go_big_quiet_step (exact unhide (X _ _)) | quiet_step (exact unhide (X _ _)))
          refine wpQuiet_nil ?_
          intro _ hw'
          obtain ⟨⟨dq, osq⟩, hw''⟩ := hw'
          subst hw''
          have bq := below_regrown w5 dq osq
          have B6 := hide (B5.out.trans (bq.mono B5.out.size))
          clear p0' p1' p2' p3' X x0 x1 n0 n1 B5 bq bd
          dsimp only
          generalize Sort.grow (redrawn w5 dq) osq = w6 at B6 ⊢
          by_cases hap : q.2 + 1 < r.1
          · have da : decide (q.2 + 1 < r.1) = true := decide_eq_true hap
            have G2 : Hid (rgB (prevR l (k + 1)) (l.drop (k + 1)) = rgB none l) := hide (by
              rw [← HG1.out, NXT.out]
              simp [rgB, h1, hap])
            simp only [da, Bool.not_true]
            go_wp2
            exact ⟨⟨k + 1, by go_num, by omega, G2, B6⟩, by simp [intOf]; omega⟩
          · have da : decide (q.2 + 1 < r.1) = false := decide_eq_false hap
            have G2 : Hid (rgB none l = false) := hide (by
              rw [← HG1.out]
              simp [rgB]
              intro _ h
              exact absurd h hap)
            simp only [da, Bool.not_false]
            go_wp2
            go_ret
            exact ⟨ret_bool G2.out.symm, B6.out⟩
      · have e1 : decide (r.2 < r.1) = true := decide_eq_true (by omega)
        have G2 : Hid (rgB none l = false) := hide (by
          rw [← G1.out]
          cases prevR l k <;> simp [rgB] <;> intro h <;> omega)
        clear G1 PRV NXT C5
        go_wp2
        clear d0 d1
        go_quiet (fail)
        go_wp2
        go_ret
        exact ⟨ret_bool G2.out.symm, below_drewN B5.out _⟩
    · have hge : decide ((k : Int) < (N : Int)) = false := by simp; omega
      have G2 : Hid (rgB none l = true) := hide (by
        rw [← HG.out, List.drop_eq_nil_of_le (by have := HN.out; omega)]
        cases prevR l k <;> rfl)
      go_wp2
      go_ret
      exact ⟨ret_bool G2.out.symm, HB.out⟩
set_option maxHeartbeats 4000000 in
set_option maxRecDepth 100000 in
theorem rightStrings_any (v : Value) (ss : List ByteArray) (w : World) (hv : StrsAt w v ss) :
    Calls Tryz.prog 54 #[v] w fun r w' => r = .returned (.bool (stB none ss)) ∧ Below w.heap.size w w' := by
  obtain ⟨a, c, rfl⟩ := hv.form
  have HS := hide hv
  have nle := hv.2.1
  obtain ⟨nS, hnS⟩ : ∃ n : Nat, n = ss.length := ⟨_, rfl⟩
  rw [← hnS] at nle ⊢
  have HnS := hide hnS
  clear hv hnS
  go_enter Tryz.func54, Tryz.ntmps54
  go_wp2
  go_loopw [7] (fun i wr => ∃ k : Nat, i = .int .i64 k ∧ k ≤ nS ∧ Hid (stB (prevS ss k) (ss.drop k) = stB none ss) ∧ Hid (Below w.heap.size w wr)) (fun i _ => nS - (intOf i).toNat)
  case atStart => exact ⟨0, rfl, by omega, hide rfl, hide (Below.refl _ _)⟩
  case round =>
    obtain ⟨j, rfl, hj, HG, HB⟩ := hrel
    by_cases hlt : j < nS
    · have IW := HS.out.on HB.out
      have hj' : j < ss.length := by rw [← HnS.out]; exact hlt
      obtain ⟨b, off, rfl, hb, d0⟩ := IW.at.2 j hj'
      have q0 := IW.bound j hj'
      have G0 := HG.out
      rw [drop_getD ss j ⟨#[]⟩ hj'] at G0
      have prv : j ≠ 0 → ∃ h : ByteArray, prevS ss j = some h ∧ wr.cell? ⟨b, off + (j - 1), none⟩ = some (.string h) := fun h0 => by
        obtain ⟨b', off', ha, _, e1⟩ := IW.at.2 (j - 1) (by omega)
        simp at ha
        obtain ⟨rfl, rfl⟩ := ha
        exact ⟨_, by unfold prevS; rw [if_neg h0], e1⟩
      have PRV := hide prv
      have nxt : prevS ss (j + 1) = some (ss.getD j ⟨#[]⟩) := by unfold prevS; rw [if_neg (by omega)]; rfl
      have NXT := hide nxt
      generalize ss.getD j ⟨#[]⟩ = r at *
      clear IW prv nxt
      have G1 := hide G0
      clear G0 HG
      by_cases h1 : r.size ≤ 8
      · have e1 : decide (8 < r.size) = false := decide_eq_false (by omega)
        have e1' : decide ((8 : Int) < (r.size : Int)) = false := decide_eq_false (by omega)
        by_cases j0 : j = 0
        · have dj : decide (0 < j) = false := decide_eq_false (by omega)
          have G3 : Hid (stB (prevS ss (j + 1)) (ss.drop (j + 1)) = stB none ss) := hide (by
            have := G1.out
            rw [show prevS ss j = none by unfold prevS; rw [if_pos j0]] at this
            rw [← this, NXT.out]
            simp [stB, h1])
          clear G1 j0 PRV NXT
          go_wp2
          exact ⟨⟨j + 1, by go_num, by omega, G3, HB⟩, by simp [intOf]; omega⟩
        · obtain ⟨h, hp, pc⟩ := PRV.out j0
          have dj : decide (0 < j) = true := decide_eq_true (by omega)
          have j1 : 1 ≤ j := by omega
          have G1' := G1.out
          rw [hp] at G1'
          clear PRV hp j0 G1
          cases h2 : Op.bytesLess h.toList r.toList
          · have G3 : Hid (stB none ss = false) := hide (by rw [← G1']; simp [stB, h2])
            clear G1' NXT
            go_wp2
            go_ret
            exact ⟨ret_bool G3.out.symm, HB.out⟩
          · have G3 : Hid (stB (prevS ss (j + 1)) (ss.drop (j + 1)) = stB none ss) := hide (by rw [← G1', NXT.out]; simp [stB, h1, h2])
            clear G1' NXT
            go_wp2
            exact ⟨⟨j + 1, by go_num, by omega, G3, HB⟩, by simp [intOf]; omega⟩
      · have e1 : decide (8 < r.size) = true := decide_eq_true (by omega)
        have e1' : decide ((8 : Int) < (r.size : Int)) = true := decide_eq_true (by omega)
        have G3 : Hid (stB none ss = false) := hide (by
          rw [← G1.out]
          cases prevS ss j <;> simp [stB, h1])
        clear G1 PRV NXT
        go_wp2
        go_ret
        exact ⟨ret_bool G3.out.symm, HB.out⟩
    · have hge : (nS : Int) ≤ (j : Int) := by omega
      have G3 : Hid (stB none ss = true) := hide (by
        rw [← HG.out, List.drop_eq_nil_of_le (by have := HnS.out; omega)]
        cases prevS ss j <;> rfl)
      clear HG
      go_wp2
      go_ret
      exact ⟨ret_bool G3.out.symm, HB.out⟩
set_option maxHeartbeats 4000000 in
set_option maxRecDepth 100000 in
theorem setRight_any (v : Value) (S : SetV) (w : World) (hv : SetAt w v S) :
    Calls Tryz.prog 33 #[v] w fun r w' => r = .returned (.bool (rightSet S)) ∧ Below w.heap.size w w' := by
  obtain ⟨vi, vs, rfl, hI, hS⟩ := hv
  have HI := hide hI
  have HS := hide hS
  obtain ⟨ai, ci, rfl⟩ := hI.form
  obtain ⟨aq, cq, rfl⟩ := hS.form
  have B0 := fun (o : Obj) => hide ((Below.refl _ w).alloc (Nat.le_refl _) o)
  unfold rightSet
  cases e1 : rgB none S.ints
  · have X := fun (o : Obj) => hide (rightRanges_any _ _ _ (HI.out.on (B0 o).out))
    clear HI HS hI hS
    go_enter Tryz.func33, Tryz.ntmps33
    go_wp2_with fail
    refine (unhide (X _)).mono ?_
    rintro r w1 ⟨rfl, b1⟩
    have B1 := hide ((B0 _).out.trans (b1.mono (B0 _).out.size))
    rw [e1]
    clear X B0 b1
    go_wp2
    go_ret
    exact ⟨rfl, B1.out⟩
  · have X := fun (o : Obj) => hide (rightRanges_any _ _ _ (HI.out.on (B0 o).out))
    have Y := fun (W : World) (b : Below w.heap.size w W) => hide (rightStrings_any _ _ _ (HS.out.on b))
    clear HI HS hI hS
    go_enter Tryz.func33, Tryz.ntmps33
    go_wp2_with fail
    refine (unhide (X _)).mono ?_
    rintro r w1 ⟨rfl, b1⟩
    have B1 := hide ((B0 _).out.trans (b1.mono (B0 _).out.size))
    have hE1 := (b1.block w.heap.size (by simp)).trans (heap_new w _)
    have c3 := cell_heap hE1 3
    simp only [List.getElem?_toArray, List.getElem?_cons_zero, List.getElem?_cons_succ] at c3
    rw [e1]
    clear X B0 b1 hE1
    go_wp2_with fail
    refine (unhide (Y _ B1.out)).mono ?_
    rintro r w2 ⟨rfl, b2⟩
    have B2 := hide (B1.out.trans (b2.mono B1.out.size))
    clear Y b2 B1 c3
    go_wp2
    go_ret
    exact ⟨rfl, B2.out⟩
end Go.Proofs.YtbaijjclofekcaaGreatDoor
namespace Go.Proofs.YtbaijjclofekcaaGreatDoor
open Go.RowKit
end Go.Proofs.YtbaijjclofekcaaGreatDoor
namespace Go.Proofs.YtbaijjclofekcaaGreatDoor
open Go.RowKit Go.Shelf
attribute [local go_sem] Oper.semAt_some
end Go.Proofs.YtbaijjclofekcaaGreatDoor
namespace Go.Proofs.YtbaijjclofekcaaGreatDoor
end Go.Proofs.YtbaijjclofekcaaGreatDoor
namespace Go.Proofs.YtbaijjclofekcaaGreatDoor
end Go.Proofs.YtbaijjclofekcaaGreatDoor
namespace Go.Proofs.YtbaijjclofekcaaGreatDoor
def stepT (kept : List BoxV) (b : BoxV) : List BoxV := if (emptyBx b || kept.any fun k => inBx b k) = true then kept else (kept.filter fun k => !inBx k b) ++ [b]
def tidP (l : List BoxV) : List BoxV := l.foldl stepT []
theorem getB_lt {l : List BoxV} {b : BoxV} {i : Nat} (h : i < l.length) : (l ++ [b]).getD i zBox = l.getD i zBox := by
  rw [List.getD_eq_getElem?_getD, List.getD_eq_getElem?_getD, List.getElem?_append_left h]
theorem getB_end (l : List BoxV) (b : BoxV) : (l ++ [b]).getD l.length zBox = b := by
  rw [List.getD_eq_getElem?_getD, List.getElem?_append_right (Nat.le_refl _)]
  simp
theorem range_anyB (f : BoxV → Bool) (l : List BoxV) : (List.range l.length).any (fun i => f (l.getD i zBox)) = l.any f := by
  rw [Bool.eq_iff_iff, List.any_eq_true, List.any_eq_true]
  constructor
  · rintro ⟨i, hi, h⟩
    exact ⟨_, getB_mem (List.mem_range.1 hi), h⟩
  · rintro ⟨y, hy, h⟩
    obtain ⟨i, hi, rfl⟩ := List.getElem_of_mem hy
    refine ⟨i, List.mem_range.2 hi, ?_⟩
    rwa [List.getD_eq_getElem?_getD, List.getElem?_eq_getElem hi, Option.getD_some]
theorem better_lt {l : List BoxV} {b : BoxV} {i k : Nat} (hi : i < l.length) (hk : k < l.length) : betterL (l ++ [b]) k i = betterL l k i := by
  unfold betterL
  rw [getB_lt hi, getB_lt hk]
theorem better_end {l : List BoxV} {b : BoxV} {i : Nat} (hi : i < l.length) : betterL (l ++ [b]) l.length i = (inBx (l.getD i zBox) b && !inBx b (l.getD i zBox)) := by
  unfold betterL
  rw [getB_lt hi, getB_end, show (l.length != i) = true by simp; omega, decide_eq_false (by omega : ¬ l.length < i), Bool.true_and, Bool.false_or]
theorem better_of {l : List BoxV} {b : BoxV} {k : Nat} (hk : k < l.length) : betterL (l ++ [b]) k l.length = inBx b (l.getD k zBox) := by
  unfold betterL
  rw [getB_lt hk, getB_end, show (k != l.length) = true by simp; omega, decide_eq_true hk, Bool.true_and, Bool.true_or, Bool.and_true]
theorem keep_lt {l : List BoxV} {b : BoxV} {i : Nat} (hi : i < l.length) : keepL (l ++ [b]) i = (keepL l i && !(inBx (l.getD i zBox) b && !inBx b (l.getD i zBox))) := by
  unfold keepL
  rw [getB_lt hi, List.length_append, List.length_singleton, List.range_succ, List.all_append, List.all_cons, List.all_nil, Bool.and_true, better_end hi, ← Bool.and_assoc]
  congr 2
  rw [Bool.eq_iff_iff, List.all_eq_true, List.all_eq_true]
  exact ⟨fun h k hk => by rw [← better_lt hi (List.mem_range.1 hk)]; exact h k hk, fun h k hk => by rw [better_lt hi (List.mem_range.1 hk)]; exact h k hk⟩
theorem keep_end (l : List BoxV) (b : BoxV) : keepL (l ++ [b]) l.length = !(emptyBx b || l.any fun k => inBx b k) := by
  unfold keepL
  rw [getB_end, List.length_append, List.length_singleton, List.range_succ, List.all_append, List.all_cons, List.all_nil, Bool.and_true, better_irr, Bool.not_false, Bool.and_true, Bool.not_or]
  congr 1
  rw [← range_anyB (fun k => inBx b k) l, Bool.eq_iff_iff, List.all_eq_true]
  constructor
  · intro h
    rw [Bool.not_eq_true', List.any_eq_false]
    intro k hk
    have := h k hk
    rw [better_of (List.mem_range.1 hk)] at this
    simpa using this
  · intro h k hk
    rw [Bool.not_eq_true', List.any_eq_false] at h
    have := h k hk
    rw [better_of (List.mem_range.1 hk)]
    simpa using this
theorem tidy_snoc (l : List BoxV) (b : BoxV) : tidyL (l ++ [b]) = ((tidyL l).filter fun k => !(inBx k b && !inBx b k)) ++ (if (emptyBx b || l.any fun k => inBx b k) = true then [] else [b]) := by
  unfold tidyL
  rw [List.length_append, List.length_singleton, List.range_succ, List.filter_append, List.map_append]
  congr 1
  · rw [List.filter_map]
    have h1 : (List.range l.length).filter (keepL (l ++ [b])) = ((List.range l.length).filter (keepL l)).filter ((fun k => !(inBx k b && !inBx b k)) ∘ fun i => l.getD i zBox) := by
      rw [List.filter_filter]
      refine List.filter_congr fun i hi => ?_
      rw [keep_lt (List.mem_range.1 hi), Bool.and_comm]
      rfl
    rw [h1]
    refine List.map_congr_left fun i hi => ?_
    exact getB_lt (List.mem_range.1 (List.mem_filter.1 (List.mem_filter.1 hi).1).1)
  · rw [List.filter_cons, List.filter_nil, keep_end]
    cases hq : (emptyBx b || l.any fun k => inBx b k)
    · simp only [Bool.not_false, if_true, List.map_cons, List.map_nil, Bool.false_eq_true, if_false]
      rw [getB_end]
    · simp
theorem tidy_get {l : List BoxV} {t : BoxV} (h : t ∈ tidyL l) : ∃ i, i < l.length ∧ keepL l i = true ∧ l.getD i zBox = t := by
  unfold tidyL at h
  obtain ⟨i, hi, rfl⟩ := List.mem_map.1 h
  obtain ⟨h1, h2⟩ := List.mem_filter.1 hi
  exact ⟨i, List.mem_range.1 h1, h2, rfl⟩
theorem tidy_live {l : List BoxV} {t : BoxV} (h : t ∈ tidyL l) : emptyBx t = false := by
  obtain ⟨i, hi, hk, rfl⟩ := tidy_get h
  unfold keepL at hk
  rw [Bool.and_eq_true, Bool.not_eq_true'] at hk
  exact hk.1
theorem tidy_apart {l : List BoxV} {k t : BoxV} (hk : k ∈ tidyL l) (ht : t ∈ tidyL l) (h1 : inBx k t = true) (h2 : inBx t k = false) : False := by
  obtain ⟨i, hi, ki, rfl⟩ := tidy_get hk
  obtain ⟨j, hj, kj, rfl⟩ := tidy_get ht
  unfold keepL at ki
  rw [Bool.and_eq_true, List.all_eq_true] at ki
  have := ki.2 j (List.mem_range.2 hj)
  unfold betterL at this
  have hne : j ≠ i := fun e => by subst e; rw [h1] at h2; cases h2
  rw [h1, h2, show (j != i) = true by simpa using hne] at this
  simp at this
theorem inBx_empty {a b : BoxV} (hb : GoodB b) (ha : GoodB a) (h : inBx a b = true) (he : emptyBx b = true) : emptyBx a = true := by
  unfold inBx at h
  rw [Bool.or_eq_true] at h
  rcases h with h | h
  · exact h
  · cases hq : emptyBx a
    · exfalso
      have h4 := (emptyBx_iff a).1 hq
      have hall : emptyBx b = false := (emptyBx_iff b).2 fun i hi => by
        cases hz : emptyB (b.get i)
        · rfl
        · exfalso
          obtain ⟨p, p0, p1, hp⟩ := some_has (ha.g i hi) (ha.l i hi) (h4 i hi)
          have := (inB_has (ha.g i hi) (hb.g i hi) (ha.l i hi) (hb.l i hi)).1 ((all4_iff _).1 h i hi) p p0 p1 hp
          rw [(empty_iff _).1 hz, noSet_has] at this
          cases this
      rw [he] at hall
      cases hall
    · rfl
theorem tidy_step {l : List BoxV} {b : BoxV} (hg : ∀ c ∈ l, GoodB c) (hb : GoodB b) : tidyL (l ++ [b]) = stepT (tidyL l) b := by
  have hgt : ∀ c ∈ tidyL l, GoodB c := fun c hc => hg c (tidy_sub hc)
  rw [tidy_snoc]
  unfold stepT
  by_cases hc : (emptyBx b || (tidyL l).any fun k => inBx b k) = true
  · rw [if_pos hc]
    have hl : (emptyBx b || l.any fun k => inBx b k) = true := by
      rw [Bool.or_eq_true] at hc ⊢
      rcases hc with h | h
      · exact Or.inl h
      · right
        rw [List.any_eq_true] at h ⊢
        obtain ⟨t, ht, h⟩ := h
        exact ⟨t, tidy_sub ht, h⟩
    rw [if_pos hl, List.append_nil, List.filter_eq_self]
    intro k hk
    rw [Bool.not_eq_true']
    cases hq : (inBx k b && !inBx b k)
    · rfl
    · exfalso
      rw [Bool.and_eq_true, Bool.not_eq_true'] at hq
      rw [Bool.or_eq_true] at hc
      rcases hc with h | h
      · have := inBx_empty hb (hgt k hk) hq.1 h
        rw [tidy_live hk] at this
        cases this
      · rw [List.any_eq_true] at h
        obtain ⟨t, ht, h⟩ := h
        have h1 := inBx_trans (hgt k hk) hb (hgt t ht) hq.1 h
        refine tidy_apart hk ht h1 ?_
        cases hz : inBx t k
        · rfl
        · have := inBx_trans hb (hgt t ht) (hgt k hk) h hz
          rw [hq.2] at this
          cases this
  · rw [if_neg hc]
    rw [Bool.or_eq_true, not_or] at hc
    obtain ⟨he, hn⟩ := hc
    have hn' : ∀ k ∈ tidyL l, inBx b k = false := fun k hk => by
      cases hq : inBx b k
      · rfl
      · exact absurd (List.any_eq_true.2 ⟨k, hk, hq⟩) hn
    have hl : ¬ (emptyBx b || l.any fun k => inBx b k) = true := by
      rw [Bool.or_eq_true, not_or]
      refine ⟨he, fun h => ?_⟩
      rw [List.any_eq_true] at h
      obtain ⟨k, hk, h⟩ := h
      obtain ⟨i, hi, rfl⟩ := List.getElem_of_mem hk
      have e1 : l.getD i zBox = l[i] := by rw [List.getD_eq_getElem?_getD, List.getElem?_eq_getElem hi]; rfl
      obtain ⟨j, hj, h1, h2⟩ := best_exists hg _ i hi (Nat.le_refl _)
      rw [e1] at h2
      have h3 := inBx_trans hb (hg _ hk) (hg _ (getB_mem hj)) h h2
      have h4 : emptyBx (l.getD j zBox) = false := by
        cases hz : emptyBx (l.getD j zBox)
        · rfl
        · exact absurd (inBx_empty (hg _ (getB_mem hj)) hb h3 hz) he
      have hmem : l.getD j zBox ∈ tidyL l := List.mem_map.2 ⟨j, List.mem_filter.2 ⟨List.mem_range.2 hj, by unfold keepL; rw [h1, h4]; rfl⟩, rfl⟩
      rw [hn' _ hmem] at h3
      cases h3
    rw [if_neg hl]
    congr 1
    refine List.filter_congr fun k hk => ?_
    rw [hn' k hk]
    simp
theorem tidP_eq {l : List BoxV} (hg : ∀ c ∈ l, GoodB c) : tidP l = tidyL l := by
  have H : ∀ (m k : List BoxV), (∀ c ∈ k ++ m, GoodB c) → m.foldl stepT (tidyL k) = tidyL (k ++ m) := by
    intro m
    induction m with
    | nil => intro k _; rw [List.append_nil]; rfl
    | cons b m ih =>
      intro k h
      rw [List.foldl_cons, ← tidy_step (fun c hc => h c (by simp [hc])) (h b (by simp)), ih (k ++ [b]) (fun c hc => h c (by simpa using hc)), List.append_assoc]
      rfl
  exact H l [] (by simpa using hg)
def IntsL (M : Nat) (l : List BoxV) : Prop := ∀ b ∈ l, ∀ i, i < 4 → (b.get i).ints.length ≤ M
theorem IntsL.mono {M M' : Nat} {l : List BoxV} (h : IntsL M l) (hm : M ≤ M') : IntsL M' l := fun b hb i hi => Nat.le_trans (h b hb i hi) hm
end Go.Proofs.YtbaijjclofekcaaGreatDoor
namespace Go.Proofs.YtbaijjclofekcaaGreatDoor
open Go.RowKit
structure BxC where
  s0 : SC
  s1 : SC
  s2 : SC
  s3 : SC
def BxC.val (c : BxC) : Value := bxVal c.s0 c.s1 c.s2 c.s3
def BxC.list (c : BxC) : List Value := [.bool c.s0.a, .slice c.s0.p c.s0.n c.s0.c, .bool c.s0.d, .slice c.s0.q c.s0.m c.s0.e, .bool c.s1.a, .slice c.s1.p c.s1.n c.s1.c, .bool c.s1.d, .slice c.s1.q c.s1.m c.s1.e, .bool c.s2.a, .slice c.s2.p c.s2.n c.s2.c, .bool c.s2.d, .slice c.s2.q c.s2.m c.s2.e, .bool c.s3.a, .slice c.s3.p c.s3.n c.s3.c, .bool c.s3.d, .slice c.s3.q c.s3.m c.s3.e]
def bc0 : BxC := ⟨SC.zero, SC.zero, SC.zero, SC.zero⟩
theorem BxC.val_list (c : BxC) : c.val = .agg c.list.toArray := rfl
theorem BxC.list_len (c : BxC) : c.list.length = 16 := rfl
theorem BxC.list_one (c : BxC) : ∀ v ∈ c.list, v.oneCell' = true := by
  intro v hv
  unfold BxC.list at hv
  simp only [List.mem_cons, List.not_mem_nil, or_false] at hv
  rcases hv with rfl | rfl | rfl | rfl | rfl | rfl | rfl | rfl | rfl | rfl | rfl | rfl | rfl | rfl | rfl | rfl <;> rfl
def bcObj (c : BxC) : Obj := .cells c.list.toArray 50
def BcIn (w : World) (g : Nat) (c : BxC) : Prop := w.heap[g]? = some (bcObj c)
theorem BcIn.on {w w' : World} {g : Nat} {c : BxC} (h : BcIn w g c) (hb : Below w.heap.size w w') : BcIn w' g c := (hb.block _ (lt_heap h)).trans h
theorem BcIn.bx {w : World} {g : Nat} {c : BxC} (h : BcIn w g c) : BxIn w g c.s0 c.s1 c.s2 c.s3 := h
theorem BcIn.range {w : World} {g : Nat} {c : BxC} (h : BcIn w g c) : w.rangeAt g 0 c.list := fun j v hv => by
  rw [cell_heap h, Nat.zero_add, List.getElem?_toArray]
  exact hv
theorem infoB16 : (Tryz.prog.info? 50).map (·.size) = some 16 := by kernel_rfl
theorem cInfoB : (Tryz.prog.info? 50).map (fun i => (i.zero, i.size, i.bytes)) = some (some bc0.val, 16, 256) := by kernel_rfl
def BxRow (w : World) (v : Value) (cs : List BxC) : Prop :=
  cs.length ≤ 9223372036854775807 ∧ ∃ (a : Option Addr) (cap : Nat), v = .slice a cs.length cap ∧ ∀ i, i < cs.length → ∃ g off, a = some ⟨g, off, none⟩ ∧ g < w.heap.size ∧ w.rangeAt g (off + i * 16) (cs.getD i bc0).list
theorem rangeAt_on {w w' : World} {g o : Nat} {l : List Value} (h : w.rangeAt g o l) (hb : w'.heap[g]? = w.heap[g]?) : w'.rangeAt g o l := fun j v hv => (World.cell?_of_block (a := ⟨g, _, none⟩) hb).trans (h j v hv)
theorem BxRow.on {w w' : World} {v : Value} {cs : List BxC} (h : BxRow w v cs) (hb : Below w.heap.size w w') : BxRow w' v cs := by
  obtain ⟨h1, a, cap, rfl, h⟩ := h
  refine ⟨h1, a, cap, rfl, fun i hi => ?_⟩
  obtain ⟨g, off, e, hg, hr⟩ := h i hi
  exact ⟨g, off, e, Nat.lt_of_lt_of_le hg hb.size, rangeAt_on hr (hb.block _ hg)⟩
def AllBx (w : World) (cs : List BxC) (l : List BoxV) : Prop := cs.length = l.length ∧ ∀ i, i < l.length → BoxAt w (cs.getD i bc0).val (l.getD i zBox)
theorem AllBx.on {w w' : World} {cs : List BxC} {l : List BoxV} (h : AllBx w cs l) (hb : Below w.heap.size w w') : AllBx w' cs l := ⟨h.1, fun i hi => (h.2 i hi).on hb⟩
def Bxs (w : World) (v : Value) (l : List BoxV) : Prop := ∃ cs, BxRow w v cs ∧ AllBx w cs l
theorem Bxs.on {w w' : World} {v : Value} {l : List BoxV} (h : Bxs w v l) (hb : Below w.heap.size w w') : Bxs w' v l := by
  obtain ⟨cs, h1, h2⟩ := h
  exact ⟨cs, h1.on hb, h2.on hb⟩
theorem bxs_nil (w : World) : Bxs w (.slice none 0 0) [] := ⟨[], ⟨by simp, none, 0, rfl, fun i h => by simp at h⟩, rfl, fun i h => by simp at h⟩
def bcCells (cs : List BxC) : List Value := cs.flatMap BxC.list
theorem bcCells_append (a b : List BxC) : bcCells (a ++ b) = bcCells a ++ bcCells b := by unfold bcCells; rw [List.flatMap_append]
theorem bcCells_at : ∀ (cs : List BxC) (i r : Nat), i < cs.length → r < 16 → (bcCells cs)[i * 16 + r]? = (cs.getD i bc0).list[r]?
  | [], i, r, h, _ => by simp at h
  | c :: cs, 0, r, _, hr => by
    unfold bcCells
    rw [List.flatMap_cons, Nat.zero_mul, Nat.zero_add, List.getElem?_append_left (by rw [BxC.list_len]; exact hr)]
    rfl
  | c :: cs, i + 1, r, h, hr => by
    have := bcCells_at cs i r (by simpa using h) hr
    unfold bcCells at this ⊢
    rw [List.flatMap_cons, List.getElem?_append_right (by rw [BxC.list_len]; omega), BxC.list_len, show (i + 1) * 16 + r - 16 = i * 16 + r by omega, this]
    rfl
def OwnB (w : World) (B : Nat) (v : Value) (cs : List BxC) : Prop := w.ownsRow B 50 16 v cs.length (bcCells cs)
theorem OwnB.on {w w' : World} {B : Nat} {v : Value} {cs : List BxC} (h : OwnB w B v cs) (hb : Below w.heap.size w w') : OwnB w' B v cs := by
  refine ⟨h.1, ?_⟩
  rcases h.2 with h | ⟨g, cap, cur, e, hB, hg, r⟩
  · exact Or.inl h
  · exact Or.inr ⟨g, cap, cur, e, hB, (hb.block _ (lt_heap hg)).trans hg, r⟩
theorem OwnB.mono {w : World} {B B' : Nat} {v : Value} {cs : List BxC} (h : OwnB w B v cs) (hb : B' ≤ B) : OwnB w B' v cs := by
  refine ⟨h.1, ?_⟩
  rcases h.2 with h | ⟨g, cap, cur, e, hB, r⟩
  · exact Or.inl h
  · exact Or.inr ⟨g, cap, cur, e, Nat.le_trans hb hB, r⟩
theorem ownB_nil (w : World) (B : Nat) : OwnB w B (.slice none 0 0) [] := ⟨rfl, Or.inl ⟨rfl, rfl⟩⟩
theorem take_at {α : Type} {l m : List α} {n j : Nat} {v : α} (h : l.take n = m) (hj : m[j]? = some v) : l[j]? = some v := by
  rw [← h, List.getElem?_take] at hj
  split at hj
  · exact hj
  · cases hj
theorem OwnB.range {w : World} {B g n cap : Nat} {cs : List BxC} (h : OwnB w B (.slice (some ⟨g, 0, none⟩) n cap) cs) (i : Nat) (hi : i < cs.length) : w.rangeAt g (i * 16) (cs.getD i bc0).list := by
  rcases h.2 with ⟨h, _⟩ | ⟨g', cap', cur, e, hB, hg, hn, hm, hs, ht⟩
  · cases h
  · cases e
    intro j v hv
    have hj : j < 16 := by
      have := (List.getElem?_eq_some_iff.1 hv).1
      rwa [BxC.list_len] at this
    rw [cell_heap hg]
    have := take_at ht ((bcCells_at cs i j hi hj).trans hv)
    rw [← Array.getElem?_toList]
    exact this
theorem OwnB.form {w : World} {B : Nat} {v : Value} {cs : List BxC} (h : OwnB w B v cs) : (v = .slice none 0 0 ∧ cs = []) ∨ ∃ g cap cur, v = .slice (some ⟨g, 0, none⟩) cs.length cap ∧ B ≤ g ∧ w.heap[g]? = some (.cells cur 50 (0, 0)) ∧ cs.length ≤ cap ∧ cap ≤ maxLen ∧ cur.size = cap * 16 := by
  rcases h.2 with ⟨h, h'⟩ | ⟨g, cap, cur, e, hB, hg, hn, hm, hs, ht⟩
  · exact Or.inl ⟨h, List.eq_nil_of_length_eq_zero h'⟩
  · exact Or.inr ⟨g, cap, cur, e, hB, hg, hn, hm, hs⟩
theorem OwnB.row {w : World} {B : Nat} {v : Value} {cs : List BxC} (h : OwnB w B v cs) (hl : cs.length ≤ 1000000) : BxRow w v cs := by
  refine ⟨by omega, ?_⟩
  rcases h.form with ⟨rfl, rfl⟩ | ⟨g, cap, cur, rfl, hB, hg, _⟩
  · exact ⟨none, 0, rfl, fun i hi => by simp at hi⟩
  · exact ⟨_, cap, rfl, fun i hi => ⟨g, 0, rfl, lt_heap hg, by rw [Nat.zero_add]; exact h.range i hi⟩⟩
structure Asd (o : Option Nat) (B : Nat) (w W : World) : Prop where
  b : Below B w W
  s : w.heap.size ≤ W.heap.size
  k : ∀ k, k < w.heap.size → some k ≠ o → W.heap[k]? = w.heap[k]?
theorem Asd.refl (o : Option Nat) (B : Nat) (w : World) : Asd o B w w := ⟨Below.refl B w, Nat.le_refl _, fun _ _ _ => rfl⟩
theorem Asd.trans {o : Option Nat} {B : Nat} {w W V : World} (h : Asd o B w W) (h' : Asd o B W V) : Asd o B w V :=
  ⟨h.b.trans h'.b, Nat.le_trans h.s h'.s, fun k hk hne => (h'.k k (Nat.lt_of_lt_of_le hk h.s) hne).trans (h.k k hk hne)⟩
theorem Asd.grow {o : Option Nat} {B : Nat} {w W V : World} (h : Asd o B w W) (hB : B ≤ W.heap.size) (hb : Below W.heap.size W V) : Asd o B w V :=
  ⟨h.b.trans (hb.mono hB), Nat.le_trans h.s hb.size, fun k hk hne => (hb.block k (Nat.lt_of_lt_of_le hk h.s)).trans (h.k k hk hne)⟩
theorem setCells_cur (g : Nat) {t : TypeId} {fz : Nat × Nat} : ∀ (vs : List Value) (o : Nat) (w : World) (cur : Array Value), w.heap[g]? = some (.cells cur t fz) → ∃ cur', (w.setCells g o vs).heap[g]? = some (.cells cur' t fz) ∧ cur'.size = cur.size
  | [], _, w, cur, h => ⟨cur, h, rfl⟩
  | v :: vs, o, w, cur, h => by
    obtain ⟨cur', h1, h2⟩ := setCells_cur g vs (o + 1) _ _ (heap_setCell (i := o) v h)
    exact ⟨cur', h1, by rw [h2]; simp⟩
theorem there_of {w : World} {g o n : Nat} {cur : Array Value} {t : TypeId} (h : w.heap[g]? = some (.cells cur t (0, 0))) (hn : o + n ≤ cur.size) : w.there g o n := fun j hj => by
  refine ⟨?_, soft_heap h _⟩
  rw [cell_heap h, Array.getElem?_eq_getElem (by omega)]
  rfl
end Go.Proofs.YtbaijjclofekcaaGreatDoor
namespace Go.Proofs.YtbaijjclofekcaaGreatDoor
open Go.RowKit
def Own (w : World) (B : Nat) (v : Value) (l : List UInt8) : Prop := w.ownsRow B 5 1 v l.length (Lib.byteCells l)
theorem Own.alloc {w : World} {B : Nat} {v : Value} {l : List UInt8} (h : Own w B v l) (o : Obj) : Own (w.alloc o) B v l := World.ownsRow.alloc h o
theorem Own.drew {w : World} {B : Nat} {v : Value} {l : List UInt8} (h : Own w B v l) : Own w.drew B v l := h
theorem Own.grownB {w w' : World} {B : Nat} {v : Value} {l : List UInt8} (h : Own w B v l) (hB : B ≤ w.heap.size) (hg : w.grownBy w' v.ownBlock) : Below B w w' :=
  (Below.refl _ _).grown hg hB (fun k hk => (World.ownsRow.lt h k hk).1)
theorem Own.on {w w' : World} {B : Nat} {v : Value} {l : List UInt8} (h : Own w B v l) (hb : Below w.heap.size w w') : Own w' B v l :=
  World.ownsRow.kept (row := none) h ⟨hb.os, hb.tape, hb.output, hb.size, fun k hk _ => hb.block k hk⟩ (by cases v.ownBlock <;> simp)
theorem own_len {w : World} {B : Nat} {g n cap : Nat} {l : List UInt8} (hown : Own w B (.slice (some ⟨g, 0, none⟩) n cap) l) : n = l.length := by
  rcases hown.2 with ⟨h, _⟩ | ⟨g', cap', cur, h, _⟩
  · cases h
  · injection h
theorem Own.at {w : World} {B g n cap : Nat} {l : List UInt8} (h : Own w B (.slice (some ⟨g, 0, none⟩) n cap) l) (j : Nat) (hj : j < l.length) : w.cell? ⟨g, j, none⟩ = some (.int .u8 ((l.getD j 0).toNat : Int)) := by
  have hn := own_len h
  subst hn
  have := World.ownsRow.cellAt (size := 1) h j (by omega)
  rw [this]
  simp [Lib.byteCells, List.getElem?_eq_getElem hj, List.getD_eq_getElem?_getD]
theorem Own.put {w : World} {B g n cap : Nat} {l : List UInt8} (h : Own w B (.slice (some ⟨g, 0, none⟩) n cap) l) (j : Nat) (c : UInt8) : Own (w.setCell ⟨g, j, none⟩ (.int .u8 (c.toNat : Int))) B (.slice (some ⟨g, 0, none⟩) n cap) (l.set j c) ∧ Below B w (w.setCell ⟨g, j, none⟩ (.int .u8 (c.toNat : Int))) := by
  have hn := own_len h
  subst hn
  have hlt := (World.ownsRow.lt h g rfl).1
  refine ⟨?_, (Below.refl _ _).setCell hlt _⟩
  have := (World.ownsRow.stored (size := 1) h j (.int .u8 (c.toNat : Int))).1
  unfold Own
  rw [List.length_set]
  have e : Lib.byteCells (l.set j c) = (Lib.byteCells l).set j (.int .u8 (c.toNat : Int)) := by simp [Lib.byteCells, List.map_set]
  rw [e]
  exact this
end Go.Proofs.YtbaijjclofekcaaGreatDoor
namespace Go.Proofs.YtbaijjclofekcaaGreatDoor
open Go.RowKit
theorem grown_refl (w : World) (r : Option Nat) : w.grownBy w r := ⟨rfl, rfl, rfl, Nat.le_refl _, fun _ _ _ => rfl⟩
theorem grown_trans {a b c : World} {r : Option Nat} (h : a.grownBy b r) (k : b.grownBy c r) : a.grownBy c r :=
  ⟨k.os.trans h.os, k.tape.trans h.tape, k.output.trans h.output, Nat.le_trans h.size k.size, fun i hi hr => (k.block i (Nat.lt_of_lt_of_le hi h.size) hr).trans (h.block i hi hr)⟩
theorem grown_setCell {a w : World} {b : Nat} (h : a.grownBy w (some b)) (i : Nat) (v : Value) : a.grownBy (w.setCell ⟨b, i, none⟩ v) (some b) :=
  grown_trans h ⟨rfl, rfl, rfl, by simp [World.setCell], fun k hk hr => Below.heap_setCell _ _ _ _ (fun e => hr (by simp [e]))⟩
theorem grown_drew {a w : World} {r : Option Nat} (h : a.grownBy w r) : a.grownBy w.drew r := ⟨h.os, h.tape, h.output, h.size, h.block⟩
theorem grown_below {a w w' : World} {r : Option Nat} (h : a.grownBy w r) (hb : Below w.heap.size w w') : a.grownBy w' r :=
  grown_trans h ⟨hb.os, hb.tape, hb.output, hb.size, fun k hk _ => hb.block k hk⟩
end Go.Proofs.YtbaijjclofekcaaGreatDoor
namespace Go.Proofs.YtbaijjclofekcaaGreatDoor
open Go.RowKit
def bs (l : List UInt8) : ByteArray := ⟨l.toArray⟩
theorem bs_list (l : List UInt8) : (bs l).data.toList = l := by unfold bs; simp
theorem bs_size (l : List UInt8) : (bs l).size = l.length := by rw [Lib.size_eq, bs_list]
theorem grown_put (w : World) (b i : Nat) (v : Value) : w.grownBy (w.setCell ⟨b, i, none⟩ v) (some b) := grown_setCell (grown_refl _ _) i v
theorem below_none {w w' : World} (h : w.grownBy w' none) : Below w.heap.size w w' := ⟨h.os, h.tape, h.output, h.size, fun i hi => h.block i hi (by simp)⟩
theorem grown_none {w w' : World} (h : Below w.heap.size w w') : w.grownBy w' none := grown_below (grown_refl _ _) h
def vVal (v : Va) : Value := .agg #[.int .i64 v.1, .int .i64 v.2.1, .string v.2.2]
def vObj (v : Va) : Obj := .cells #[.int .i64 v.1, .int .i64 v.2.1, .string v.2.2] 24 (0, 0)
theorem infoV : (Tryz.prog.info? 24).map (·.size) = some 3 := by kernel_rfl
def vaZ : Va := (0, 0, ⟨#[]⟩)
def evZ : EvV := ⟨vaZ, vaZ, vaZ, vaZ⟩
end Go.Proofs.YtbaijjclofekcaaGreatDoor
namespace Go.Proofs.YtbaijjclofekcaaGreatDoor
open Go.RowKit
theorem heap_on {w w' : World} {g : Nat} {x : Obj} (h : w.heap[g]? = some x) (hb : Below w.heap.size w w') : w'.heap[g]? = some x := (hb.block _ (lt_heap h)).trans h
theorem heap_gr {w w' : World} {g b : Nat} {x : Obj} (h : w.heap[g]? = some x) (hg : w.grownBy w' (some b)) (hn : g ≠ b) : w'.heap[g]? = some x := (hg.block _ (lt_heap h) (by intro e; injection e with e; exact hn e)).trans h
theorem gr_new {a w w' : World} {r : Option Nat} {g : Nat} (h : a.grownBy w r) (hg : a.heap.size ≤ g) (k : w.grownBy w' (some g)) : a.grownBy w' r :=
  ⟨k.os.trans h.os, k.tape.trans h.tape, k.output.trans h.output, Nat.le_trans h.size k.size, fun i hi hr => (k.block i (Nat.lt_of_lt_of_le hi h.size) (by intro e; injection e with e; omega)).trans (h.block i hi hr)⟩
theorem put_cells (g : Nat) (t : TypeId) : ∀ (ds cs pre : List Value) (w : World), w.heap[g]? = some (.cells (pre ++ cs).toArray t (0, 0)) → cs.length = ds.length → (w.setCells g pre.length ds).heap[g]? = some (.cells (pre ++ ds).toArray t (0, 0)) ∧ w.grownBy (w.setCells g pre.length ds) (some g)
  | [], [], pre, w, h, _ => ⟨h, grown_refl _ _⟩
  | d :: ds, c :: cs, pre, w, h, hl => by
    have h1 := heap_setCell (i := pre.length) d h
    have e : ((pre ++ c :: cs).toArray).setIfInBounds pre.length d = ((pre ++ [d]) ++ cs).toArray := by simp
    rw [e] at h1
    obtain ⟨h2, h3⟩ := put_cells g t ds cs (pre ++ [d]) _ h1 (by simpa using hl)
    rw [List.length_append, List.length_cons, List.length_nil] at h2 h3
    rw [List.append_assoc, List.cons_append, List.nil_append] at h2
    exact ⟨h2, grown_trans (grown_put _ _ _ _) h3⟩
theorem put_wholeU {w : World} {g : Nat} {t : TypeId} {cs : Array Value} (ds : List Value) (h : w.heap[g]? = some (.cells cs t (0, 0))) (hl : cs.size = ds.length) : (w.setCells g 0 ds).heap[g]? = some (.cells ds.toArray t (0, 0)) ∧ w.grownBy (w.setCells g 0 ds) (some g) :=
  put_cells g t ds cs.toList [] w (by simpa using h) (by simpa using hl)
theorem bs_cat (l m : List UInt8) : bs l ++ bs m = bs (l ++ m) := by
  unfold bs
  apply ByteArray.ext
  simp
theorem bs_toList (l : List UInt8) : (bs l).toList = l := by rw [ByteArray.toList_eq, bs_list]
section
variable {ops : Array Oper} {Q : Exit → Act → World → Prop} {S : World → Prop} {o : Oper} {a : Act}
theorem wt_call {rest : List Oper} {w : World} (hw : Region.wanted o (yielded ops a.tmps) = true)
    (f : Nat) (xs : Array Operand) (ts : Array TypeId) (ho : o.op = .call { callee := .value (.func f), args := xs, argTypes := ts }) (vs : Array Value) (hv : xs.toList.map a.eval = vs.toList)
    (hrun : ∀ (W : World) (A : Array Value), (callFunc f A).run Tryz.prog W = .ok (.enter f A) W)
    (hc : Calls Tryz.prog f vs w fun r w' => (∃ v, r = .returned v ∧ wpList Tryz.prog ops Q rest (a.put o.dst v) w') ∨ (∃ ch, r = .panicked ch ∧ Q (.panic ch) a w')) : wpList Tryz.prog ops Q (o :: rest) a w := by
  unfold wpList
  rw [if_pos hw]
  left
  have hv : xs.map a.eval = vs := by
    rw [← Array.toList_inj, Array.toList_map]
    exact hv
  have he : a.eval (.func f) = .func (.func f) #[] #[] := rfl
  have hx : (execOp a.eval o).run Tryz.prog w = .ok (.enter f vs) w := by
    have := hrun w vs
    simp [execOp, ho, resolve, he, hv, Deferred.ofValue, invoke, this]
  unfold Oper.wp
  rw [hx, Oper.upon_enter]
  refine hc.mono ?_
  rintro e w' (⟨v, rfl, h1⟩ | ⟨ch, rfl, h1⟩)
  · exact h1
  · exact h1
theorem wt_callv {rest : List Oper} {w : World} (hw : Region.wanted o (yielded ops a.tmps) = true)
    (f : Nat) (x : Operand) (xs : Array Operand) (ts : Array TypeId) (ho : o.op = .call { callee := .value x, args := xs, argTypes := ts }) (caps : Array Value) (hx : a.eval x = .func (.func f) #[] caps) (vs : Array Value) (hv : xs.toList.map a.eval = vs.toList)
    (hrun : ∀ (W : World) (A : Array Value), (callFunc f A).run Tryz.prog W = .ok (.enter f A) W)
    (hc : Calls Tryz.prog f (vs ++ caps) w fun r w' => (∃ v, r = .returned v ∧ wpList Tryz.prog ops Q rest (a.put o.dst v) w') ∨ (∃ ch, r = .panicked ch ∧ Q (.panic ch) a w')) : wpList Tryz.prog ops Q (o :: rest) a w := by
  unfold wpList
  rw [if_pos hw]
  left
  have hv : xs.map a.eval = vs := by
    rw [← Array.toList_inj, Array.toList_map]
    exact hv
  have hx : (execOp a.eval o).run Tryz.prog w = .ok (.enter f (vs ++ caps)) w := by
    have := hrun w (vs ++ caps)
    simp [execOp, ho, resolve, hx, hv, Deferred.ofValue, invoke, this]
  unfold Oper.wp
  rw [hx, Oper.upon_enter]
  refine hc.mono ?_
  rintro e w' (⟨v, rfl, h1⟩ | ⟨ch, rfl, h1⟩)
  · exact h1
  · exact h1
theorem yt_nil (hw : Region.wanted o (yielded ops a.tmps) = true) (x : Operand) (ho : o.op = .nilCheck x) (p : Addr) (hx : a.eval x = .pointer (some p)) : YieldsIf Tryz.prog ops S o (.pointer (some p)) a :=
  Or.inl ⟨hw, fun w hS => by
    simp only [execOp, ho, hx]
    go_simp⟩
theorem yt_fn1 (hw : Region.wanted o (yielded ops a.tmps) = true) (f : Nat) (x : Operand) (ho : o.op = .makeFunc (.func f) #[] #[x]) (v : Value) (hx : a.eval x = v) : YieldsIf Tryz.prog ops S o (.func (.func f) #[] #[v]) a :=
  Or.inl ⟨hw, fun w hS => by
    simp only [execOp, ho, List.map_toArray, List.map_cons, List.map_nil, hx]
    go_simp⟩
theorem yt_cat (hw : Region.wanted o (yielded ops a.tmps) = true) (x y : Operand) (t : TypeId) (ho : o.op = .binOp .add 9 x y t) (l m : List UInt8) (hx : a.eval x = .string (bs l)) (hy : a.eval y = .string (bs m)) (hl : l.length + m.length ≤ 9223372036854775807) : YieldsIf Tryz.prog ops S o (.string (bs (l ++ m))) a :=
  Or.inl ⟨hw, fun w hS => by
    have h1 : ¬ 9223372036854775807 < (bs l).size + (bs m).size := by rw [bs_size, bs_size]; omega
    simp only [execOp, ho, hx, hy]
    go_simp
    rw [← bs_cat]⟩
theorem yt_eqS (hw : Region.wanted o (yielded ops a.tmps) = true) (x y : Operand) (t : TypeId) (ho : o.op = .binOp .eql 9 x y t) (l m : List UInt8) (r : Bool) (hx : a.eval x = .string (bs l)) (hy : a.eval y = .string (bs m)) (hr : (l == m) = r) : YieldsIf Tryz.prog ops S o (.bool r) a :=
  Or.inl ⟨hw, fun w hS => by
    subst hr
    simp only [execOp, ho, hx, hy]
    go_simp
    simp [bs_toList]⟩
theorem yt_addI (hw : Region.wanted o (yielded ops a.tmps) = true) (x y : Operand) (t : TypeId) (ho : o.op = .binOp .add 3 x y t) (p q r : Int) (hx : a.eval x = .int .i64 p) (hy : a.eval y = .int .i64 q) (hr : p + q = r) (h0 : -9223372036854775808 ≤ r) (h1 : r ≤ 9223372036854775807) : YieldsIf Tryz.prog ops S o (.int .i64 r) a :=
  Or.inl ⟨hw, fun w hS => by
    subst hr
    simp only [execOp, ho, hx, hy]
    go_simp
    rw [IntKind.wrap_i64]; omega⟩
theorem yt_subI (hw : Region.wanted o (yielded ops a.tmps) = true) (x y : Operand) (t : TypeId) (ho : o.op = .binOp .sub 3 x y t) (p q r : Int) (hx : a.eval x = .int .i64 p) (hy : a.eval y = .int .i64 q) (hr : p - q = r) (h0 : -9223372036854775808 ≤ r) (h1 : r ≤ 9223372036854775807) : YieldsIf Tryz.prog ops S o (.int .i64 r) a :=
  Or.inl ⟨hw, fun w hS => by
    subst hr
    simp only [execOp, ho, hx, hy]
    go_simp
    rw [IntKind.wrap_i64]; omega⟩
theorem yt_eqlI (hw : Region.wanted o (yielded ops a.tmps) = true) (x y : Operand) (t : TypeId) (ho : o.op = .binOp .eql 3 x y t) (p q : Int) (r : Bool) (hx : a.eval x = .int .i64 p) (hy : a.eval y = .int .i64 q) (hr : decide (p = q) = r) : YieldsIf Tryz.prog ops S o (.bool r) a :=
  Or.inl ⟨hw, fun w hS => by
    subst hr
    simp only [execOp, ho, hx, hy]
    go_simp
    all_goals (by_cases h : p = q <;> simp [h] <;> (try omega))⟩
theorem yt_neqI (hw : Region.wanted o (yielded ops a.tmps) = true) (x y : Operand) (t : TypeId) (ho : o.op = .binOp .neq 3 x y t) (p q : Int) (r : Bool) (hx : a.eval x = .int .i64 p) (hy : a.eval y = .int .i64 q) (hr : decide (¬ p = q) = r) : YieldsIf Tryz.prog ops S o (.bool r) a :=
  Or.inl ⟨hw, fun w hS => by
    subst hr
    simp only [execOp, ho, hx, hy]
    go_simp
    all_goals (by_cases h : p = q <;> simp [h] <;> (try omega))⟩
theorem yt_lssI (hw : Region.wanted o (yielded ops a.tmps) = true) (x y : Operand) (t : TypeId) (ho : o.op = .binOp .lss 3 x y t) (p q : Int) (r : Bool) (hx : a.eval x = .int .i64 p) (hy : a.eval y = .int .i64 q) (hr : decide (p < q) = r) : YieldsIf Tryz.prog ops S o (.bool r) a :=
  Or.inl ⟨hw, fun w hS => by
    subst hr
    simp only [execOp, ho, hx, hy]
    go_simp
    all_goals (by_cases h : p < q <;> simp [h] <;> (try omega))⟩
theorem yt_gtrI (hw : Region.wanted o (yielded ops a.tmps) = true) (x y : Operand) (t : TypeId) (ho : o.op = .binOp .gtr 3 x y t) (p q : Int) (r : Bool) (hx : a.eval x = .int .i64 p) (hy : a.eval y = .int .i64 q) (hr : decide (q < p) = r) : YieldsIf Tryz.prog ops S o (.bool r) a :=
  Or.inl ⟨hw, fun w hS => by
    subst hr
    simp only [execOp, ho, hx, hy]
    go_simp
    all_goals (by_cases h : q < p <;> simp [h] <;> (try omega))⟩
theorem yt_leqI (hw : Region.wanted o (yielded ops a.tmps) = true) (x y : Operand) (t : TypeId) (ho : o.op = .binOp .leq 3 x y t) (p q : Int) (r : Bool) (hx : a.eval x = .int .i64 p) (hy : a.eval y = .int .i64 q) (hr : decide (p ≤ q) = r) : YieldsIf Tryz.prog ops S o (.bool r) a :=
  Or.inl ⟨hw, fun w hS => by
    subst hr
    simp only [execOp, ho, hx, hy]
    go_simp
    all_goals (by_cases h : p ≤ q <;> simp [h] <;> (try omega))⟩
theorem yt_geqI (hw : Region.wanted o (yielded ops a.tmps) = true) (x y : Operand) (t : TypeId) (ho : o.op = .binOp .geq 3 x y t) (p q : Int) (r : Bool) (hx : a.eval x = .int .i64 p) (hy : a.eval y = .int .i64 q) (hr : decide (q ≤ p) = r) : YieldsIf Tryz.prog ops S o (.bool r) a :=
  Or.inl ⟨hw, fun w hS => by
    subst hr
    simp only [execOp, ho, hx, hy]
    go_simp
    all_goals (by_cases h : q ≤ p <;> simp [h] <;> (try omega))⟩
set_option maxRecDepth 100000 in
theorem yt_fVa2 (hw : Region.wanted o (yielded ops a.tmps) = true) (x : Operand) (ho : o.op = .fieldAddr 24 x 2) (g k : Nat) (hx : a.eval x = .pointer (some ⟨g, k, none⟩)) : YieldsIf Tryz.prog ops S o (.pointer (some ⟨g, k + 2, none⟩)) a :=
  Or.inl ⟨hw, fun w hS => by
    simp only [execOp, ho, hx]
    go_simp⟩
set_option maxRecDepth 100000 in
theorem yt_fSt0 (hw : Region.wanted o (yielded ops a.tmps) = true) (x : Operand) (ho : o.op = .fieldAddr 43 x 0) (g k : Nat) (hx : a.eval x = .pointer (some ⟨g, k, none⟩)) : YieldsIf Tryz.prog ops S o (.pointer (some ⟨g, k + 0, none⟩)) a :=
  Or.inl ⟨hw, fun w hS => by
    simp only [execOp, ho, hx]
    go_simp⟩
set_option maxRecDepth 100000 in
theorem yt_fSt1 (hw : Region.wanted o (yielded ops a.tmps) = true) (x : Operand) (ho : o.op = .fieldAddr 43 x 1) (g k : Nat) (hx : a.eval x = .pointer (some ⟨g, k, none⟩)) : YieldsIf Tryz.prog ops S o (.pointer (some ⟨g, k + 1, none⟩)) a :=
  Or.inl ⟨hw, fun w hS => by
    simp only [execOp, ho, hx]
    go_simp⟩
set_option maxRecDepth 100000 in
theorem yt_fSt2 (hw : Region.wanted o (yielded ops a.tmps) = true) (x : Operand) (ho : o.op = .fieldAddr 43 x 2) (g k : Nat) (hx : a.eval x = .pointer (some ⟨g, k, none⟩)) : YieldsIf Tryz.prog ops S o (.pointer (some ⟨g, k + 2, none⟩)) a :=
  Or.inl ⟨hw, fun w hS => by
    simp only [execOp, ho, hx]
    go_simp⟩
set_option maxRecDepth 100000 in
theorem yt_fSt3 (hw : Region.wanted o (yielded ops a.tmps) = true) (x : Operand) (ho : o.op = .fieldAddr 43 x 3) (g k : Nat) (hx : a.eval x = .pointer (some ⟨g, k, none⟩)) : YieldsIf Tryz.prog ops S o (.pointer (some ⟨g, k + 3, none⟩)) a :=
  Or.inl ⟨hw, fun w hS => by
    simp only [execOp, ho, hx]
    go_simp⟩
set_option maxRecDepth 100000 in
theorem yt_fRg0 (hw : Region.wanted o (yielded ops a.tmps) = true) (x : Operand) (ho : o.op = .fieldAddr 54 x 0) (g k : Nat) (hx : a.eval x = .pointer (some ⟨g, k, none⟩)) : YieldsIf Tryz.prog ops S o (.pointer (some ⟨g, k + 0, none⟩)) a :=
  Or.inl ⟨hw, fun w hS => by
    simp only [execOp, ho, hx]
    go_simp⟩
set_option maxRecDepth 100000 in
theorem yt_fRg1 (hw : Region.wanted o (yielded ops a.tmps) = true) (x : Operand) (ho : o.op = .fieldAddr 54 x 1) (g k : Nat) (hx : a.eval x = .pointer (some ⟨g, k, none⟩)) : YieldsIf Tryz.prog ops S o (.pointer (some ⟨g, k + 1, none⟩)) a :=
  Or.inl ⟨hw, fun w hS => by
    simp only [execOp, ho, hx]
    go_simp⟩
theorem yt_ldS (hw : Region.wanted o (yielded ops a.tmps) = true) (x : Operand) (ho : o.op = .load 9 x) (g k : Nat) (hx : a.eval x = .pointer (some ⟨g, k, none⟩)) (s : ByteArray) (h : ∀ w, S w → w.cell? ⟨g, k, none⟩ = some (.string s)) : YieldsIf Tryz.prog ops S o (.string s) a :=
  Or.inl ⟨hw, fun w hS => by
    have := h w hS
    simp only [execOp, ho, hx]
    go_simp⟩
theorem yt_ldI (hw : Region.wanted o (yielded ops a.tmps) = true) (x : Operand) (ho : o.op = .load 3 x) (g k : Nat) (hx : a.eval x = .pointer (some ⟨g, k, none⟩)) (z : Int) (h : ∀ w, S w → w.cell? ⟨g, k, none⟩ = some (.int .i64 z)) : YieldsIf Tryz.prog ops S o (.int .i64 z) a :=
  Or.inl ⟨hw, fun w hS => by
    have := h w hS
    simp only [execOp, ho, hx]
    go_simp⟩
theorem yt_ldB (hw : Region.wanted o (yielded ops a.tmps) = true) (x : Operand) (ho : o.op = .load 4 x) (g k : Nat) (hx : a.eval x = .pointer (some ⟨g, k, none⟩)) (z : Bool) (h : ∀ w, S w → w.cell? ⟨g, k, none⟩ = some (.bool z)) : YieldsIf Tryz.prog ops S o (.bool z) a :=
  Or.inl ⟨hw, fun w hS => by
    have := h w hS
    simp only [execOp, ho, hx]
    go_simp⟩
theorem yt_ldLr (hw : Region.wanted o (yielded ops a.tmps) = true) (x : Operand) (ho : o.op = .load 40 x) (g k : Nat) (hx : a.eval x = .pointer (some ⟨g, k, none⟩)) (p : Option Addr) (n c : Nat) (h : ∀ w, S w → w.cell? ⟨g, k, none⟩ = some (.slice p n c)) : YieldsIf Tryz.prog ops S o (.slice p n c) a :=
  Or.inl ⟨hw, fun w hS => by
    have := h w hS
    simp only [execOp, ho, hx]
    go_simp⟩
theorem wt_putLr {rest : List Oper} {w : World} (hw : Region.wanted o (yielded ops a.tmps) = true) (x y : Operand) (ho : o.op = .store 40 x y) (g k : Nat) (hx : a.eval x = .pointer (some ⟨g, k, none⟩)) (p : Option Addr) (n c : Nat) (hy : a.eval y = .slice p n c) {cs : Array Value} {t : TypeId} (hc : w.heap[g]? = some (.cells cs t (0, 0))) (hk : k < cs.size)
    (h : ∀ W, W.heap[g]? = some (.cells (cs.setIfInBounds k (.slice p n c)) t (0, 0)) → w.grownBy W (some g) → wpList Tryz.prog ops Q rest (a.put o.dst undef) W) : wpList Tryz.prog ops Q (o :: rest) a w := by
  have c0 : w.cell? ⟨g, k, none⟩ = some cs[k] := by rw [cell_heap hc, Array.getElem?_eq_getElem hk]
  have f0 := frozen_heap hc k
  refine wl_skip hw (w.setCell ⟨g, k, none⟩ (.slice p n c)) ?_ (h _ (heap_setCell _ hc) (grown_put _ _ _ _))
  simp only [execOp, ho, hx, hy]
  go_simp
theorem yt_ldLs (hw : Region.wanted o (yielded ops a.tmps) = true) (x : Operand) (ho : o.op = .load 41 x) (g k : Nat) (hx : a.eval x = .pointer (some ⟨g, k, none⟩)) (p : Option Addr) (n c : Nat) (h : ∀ w, S w → w.cell? ⟨g, k, none⟩ = some (.slice p n c)) : YieldsIf Tryz.prog ops S o (.slice p n c) a :=
  Or.inl ⟨hw, fun w hS => by
    have := h w hS
    simp only [execOp, ho, hx]
    go_simp⟩
theorem wt_putLs {rest : List Oper} {w : World} (hw : Region.wanted o (yielded ops a.tmps) = true) (x y : Operand) (ho : o.op = .store 41 x y) (g k : Nat) (hx : a.eval x = .pointer (some ⟨g, k, none⟩)) (p : Option Addr) (n c : Nat) (hy : a.eval y = .slice p n c) {cs : Array Value} {t : TypeId} (hc : w.heap[g]? = some (.cells cs t (0, 0))) (hk : k < cs.size)
    (h : ∀ W, W.heap[g]? = some (.cells (cs.setIfInBounds k (.slice p n c)) t (0, 0)) → w.grownBy W (some g) → wpList Tryz.prog ops Q rest (a.put o.dst undef) W) : wpList Tryz.prog ops Q (o :: rest) a w := by
  have c0 : w.cell? ⟨g, k, none⟩ = some cs[k] := by rw [cell_heap hc, Array.getElem?_eq_getElem hk]
  have f0 := frozen_heap hc k
  refine wl_skip hw (w.setCell ⟨g, k, none⟩ (.slice p n c)) ?_ (h _ (heap_setCell _ hc) (grown_put _ _ _ _))
  simp only [execOp, ho, hx, hy]
  go_simp
theorem infoEv12 : (Tryz.prog.info? 26).map (·.size) = some 12 := by kernel_rfl
def vZ : Va := (0, 0, ⟨#[]⟩)
def rgObj (r : Rg) : Obj := .cells #[.int .i64 r.1, .int .i64 r.2] 54 (0, 0)
theorem infoRg2 : (Tryz.prog.info? 54).map (·.size) = some 2 := by kernel_rfl
set_option maxHeartbeats 1000000 in
set_option maxRecDepth 100000 in
theorem wt_putVa {rest : List Oper} {w : World} (hw : o.guard = none) (x y : Operand) (ho : o.op = .store 24 x y) (g : Nat) (hx : a.eval x = .pointer (some ⟨g, 0, none⟩)) (v : Va) (hy : a.eval y = vVal v) {cs : Array Value} (hc : w.heap[g]? = some (.cells cs 24 (0, 0))) (hk : cs.size = 3)
    (h : ∀ W, W.heap[g]? = some (vObj v) → w.grownBy W (some g) → wpList Tryz.prog ops Q rest (a.put o.dst undef) W) : wpList Tryz.prog ops Q (o :: rest) a w := by
  have ht : w.there g 0 3 := fun j hj => ⟨by rw [cell_heap hc, Nat.zero_add, Array.getElem?_eq_getElem (by omega)]; rfl, frozen_heap hc _⟩
  refine wpList_store_mid hw 24 x y ho g 0 #[Value.int .i64 v.1, .int .i64 v.2.1, .string v.2.2] hx hy ht (by rw [infoV]; rfl) (by simp [Value.oneCell']) ?_
  obtain ⟨h1, h2⟩ := put_wholeU [Value.int .i64 v.1, .int .i64 v.2.1, .string v.2.2] hc (by rw [hk]; rfl)
  exact h _ h1 h2
theorem wt_boxVa {rest : List Oper} {w : World} (hw : Region.wanted o (yielded ops a.tmps) = true) (x : Operand) (ho : o.op = .box 24 x) (v : Va) (hx : a.eval x = vVal v)
    (h : ∀ W g, w.heap.size ≤ g → W.heap[g]? = some (vObj v) → Below w.heap.size w W → wpList Tryz.prog ops Q rest (a.put o.dst (.pointer (some ⟨g, 0, none⟩))) W) : wpList Tryz.prog ops Q (o :: rest) a w := by
  refine wl_run hw (.pointer (some ⟨w.heap.size, 0, none⟩)) (w.alloc (vObj v)) ?_ (h _ _ (Nat.le_refl _) (heap_new _ _) ((Below.refl _ w).alloc (Nat.le_refl _) _))
  simp only [execOp, ho, hx, vVal, vObj]
  go_simp
theorem wt_allocVa {rest : List Oper} {w : World} (hw : Region.wanted o (yielded ops a.tmps) = true) (ho : o.op = .alloc 24)
    (h : ∀ W g, w.heap.size ≤ g → W.heap[g]? = some (vObj vZ) → Below w.heap.size w W → wpList Tryz.prog ops Q rest (a.put o.dst (.pointer (some ⟨g, 0, none⟩))) W) : wpList Tryz.prog ops Q (o :: rest) a w := by
  refine wl_run hw (.pointer (some ⟨w.heap.size, 0, none⟩)) (w.alloc (vObj vZ)) ?_ (h _ _ (Nat.le_refl _) (heap_new _ _) ((Below.refl _ w).alloc (Nat.le_refl _) _))
  simp only [execOp, ho, vObj, vZ]
  go_simp
set_option maxHeartbeats 1000000 in
set_option maxRecDepth 100000 in
theorem wt_putSt {rest : List Oper} {w : World} (hw : o.guard = none) (x y : Operand) (ho : o.op = .store 43 x y) (g : Nat) (hx : a.eval x = .pointer (some ⟨g, 0, none⟩)) (s : SC) (hy : a.eval y = s.val) {cs : Array Value} (hc : w.heap[g]? = some (.cells cs 43 (0, 0))) (hk : cs.size = 4)
    (h : ∀ W, W.heap[g]? = some (stObj s) → w.grownBy W (some g) → wpList Tryz.prog ops Q rest (a.put o.dst undef) W) : wpList Tryz.prog ops Q (o :: rest) a w := by
  have ht : w.there g 0 4 := fun j hj => ⟨by rw [cell_heap hc, Nat.zero_add, Array.getElem?_eq_getElem (by omega)]; rfl, frozen_heap hc _⟩
  refine wpList_store_mid hw 43 x y ho g 0 #[Value.bool s.a, .slice s.p s.n s.c, .bool s.d, .slice s.q s.m s.e] hx hy ht (by rw [infoSet4]; rfl) (by simp [Value.oneCell']) ?_
  obtain ⟨h1, h2⟩ := put_wholeU [Value.bool s.a, .slice s.p s.n s.c, .bool s.d, .slice s.q s.m s.e] hc (by rw [hk]; rfl)
  exact h _ h1 h2
theorem wt_boxSt {rest : List Oper} {w : World} (hw : Region.wanted o (yielded ops a.tmps) = true) (x : Operand) (ho : o.op = .box 43 x) (s : SC) (hx : a.eval x = s.val)
    (h : ∀ W g, w.heap.size ≤ g → W.heap[g]? = some (stObj s) → Below w.heap.size w W → wpList Tryz.prog ops Q rest (a.put o.dst (.pointer (some ⟨g, 0, none⟩))) W) : wpList Tryz.prog ops Q (o :: rest) a w := by
  refine wl_run hw (.pointer (some ⟨w.heap.size, 0, none⟩)) (w.alloc (stObj s)) ?_ (h _ _ (Nat.le_refl _) (heap_new _ _) ((Below.refl _ w).alloc (Nat.le_refl _) _))
  simp only [execOp, ho, hx, SC.val, stObj]
  go_simp
theorem wt_allocSt {rest : List Oper} {w : World} (hw : Region.wanted o (yielded ops a.tmps) = true) (ho : o.op = .alloc 43)
    (h : ∀ W g, w.heap.size ≤ g → W.heap[g]? = some (stObj SC.zero) → Below w.heap.size w W → wpList Tryz.prog ops Q rest (a.put o.dst (.pointer (some ⟨g, 0, none⟩))) W) : wpList Tryz.prog ops Q (o :: rest) a w := by
  refine wl_run hw (.pointer (some ⟨w.heap.size, 0, none⟩)) (w.alloc (stObj SC.zero)) ?_ (h _ _ (Nat.le_refl _) (heap_new _ _) ((Below.refl _ w).alloc (Nat.le_refl _) _))
  simp only [execOp, ho, stObj, SC.zero]
  go_simp
set_option maxHeartbeats 1000000 in
set_option maxRecDepth 100000 in
theorem wt_putRg {rest : List Oper} {w : World} (hw : o.guard = none) (x y : Operand) (ho : o.op = .store 54 x y) (g : Nat) (hx : a.eval x = .pointer (some ⟨g, 0, none⟩)) (r : Rg) (hy : a.eval y = .agg #[.int .i64 r.1, .int .i64 r.2]) {cs : Array Value} (hc : w.heap[g]? = some (.cells cs 54 (0, 0))) (hk : cs.size = 2)
    (h : ∀ W, W.heap[g]? = some (rgObj r) → w.grownBy W (some g) → wpList Tryz.prog ops Q rest (a.put o.dst undef) W) : wpList Tryz.prog ops Q (o :: rest) a w := by
  have ht : w.there g 0 2 := fun j hj => ⟨by rw [cell_heap hc, Nat.zero_add, Array.getElem?_eq_getElem (by omega)]; rfl, frozen_heap hc _⟩
  refine wpList_store_mid hw 54 x y ho g 0 #[Value.int .i64 r.1, .int .i64 r.2] hx hy ht (by rw [infoRg2]; rfl) (by simp [Value.oneCell']) ?_
  obtain ⟨h1, h2⟩ := put_wholeU [Value.int .i64 r.1, .int .i64 r.2] hc (by rw [hk]; rfl)
  exact h _ h1 h2
theorem wt_allocRg {rest : List Oper} {w : World} (hw : Region.wanted o (yielded ops a.tmps) = true) (ho : o.op = .alloc 54)
    (h : ∀ W g, w.heap.size ≤ g → W.heap[g]? = some (rgObj (0, 0)) → Below w.heap.size w W → wpList Tryz.prog ops Q rest (a.put o.dst (.pointer (some ⟨g, 0, none⟩))) W) : wpList Tryz.prog ops Q (o :: rest) a w := by
  refine wl_run hw (.pointer (some ⟨w.heap.size, 0, none⟩)) (w.alloc (rgObj (0, 0))) ?_ (h _ _ (Nat.le_refl _) (heap_new _ _) ((Below.refl _ w).alloc (Nat.le_refl _) _))
  simp only [execOp, ho, rgObj]
  go_simp
set_option maxHeartbeats 1000000 in
set_option maxRecDepth 100000 in
theorem wt_putEv {rest : List Oper} {w : World} (hw : o.guard = none) (x y : Operand) (ho : o.op = .store 26 x y) (g : Nat) (hx : a.eval x = .pointer (some ⟨g, 0, none⟩)) (e : EvV) (hy : a.eval y = evVal e) {cs : Array Value} (hc : w.heap[g]? = some (.cells cs 26 (0, 0))) (hk : cs.size = 12)
    (h : ∀ W, W.heap[g]? = some (evObj e) → w.grownBy W (some g) → wpList Tryz.prog ops Q rest (a.put o.dst undef) W) : wpList Tryz.prog ops Q (o :: rest) a w := by
  have ht : w.there g 0 12 := fun j hj => ⟨by rw [cell_heap hc, Nat.zero_add, Array.getElem?_eq_getElem (by omega)]; rfl, frozen_heap hc _⟩
  refine wpList_store_mid hw 26 x y ho g 0 #[Value.int .i64 e.v0.1, .int .i64 e.v0.2.1, .string e.v0.2.2, .int .i64 e.v1.1, .int .i64 e.v1.2.1, .string e.v1.2.2, .int .i64 e.v2.1, .int .i64 e.v2.2.1, .string e.v2.2.2, .int .i64 e.v3.1, .int .i64 e.v3.2.1, .string e.v3.2.2] hx hy ht (by rw [infoEv12]; rfl) (by simp [Value.oneCell']) ?_
  obtain ⟨h1, h2⟩ := put_wholeU [Value.int .i64 e.v0.1, .int .i64 e.v0.2.1, .string e.v0.2.2, .int .i64 e.v1.1, .int .i64 e.v1.2.1, .string e.v1.2.2, .int .i64 e.v2.1, .int .i64 e.v2.2.1, .string e.v2.2.2, .int .i64 e.v3.1, .int .i64 e.v3.2.1, .string e.v3.2.2] hc (by rw [hk]; rfl)
  exact h _ h1 h2
theorem wt_boxEv {rest : List Oper} {w : World} (hw : Region.wanted o (yielded ops a.tmps) = true) (x : Operand) (ho : o.op = .box 26 x) (e : EvV) (hx : a.eval x = evVal e)
    (h : ∀ W g, w.heap.size ≤ g → W.heap[g]? = some (evObj e) → Below w.heap.size w W → wpList Tryz.prog ops Q rest (a.put o.dst (.pointer (some ⟨g, 0, none⟩))) W) : wpList Tryz.prog ops Q (o :: rest) a w := by
  refine wl_run hw (.pointer (some ⟨w.heap.size, 0, none⟩)) (w.alloc (evObj e)) ?_ (h _ _ (Nat.le_refl _) (heap_new _ _) ((Below.refl _ w).alloc (Nat.le_refl _) _))
  simp only [execOp, ho, hx, evVal, evObj]
  go_simp
theorem wt_allocEv {rest : List Oper} {w : World} (hw : Region.wanted o (yielded ops a.tmps) = true) (ho : o.op = .alloc 26)
    (h : ∀ W g, w.heap.size ≤ g → W.heap[g]? = some (evObj evZ) → Below w.heap.size w W → wpList Tryz.prog ops Q rest (a.put o.dst (.pointer (some ⟨g, 0, none⟩))) W) : wpList Tryz.prog ops Q (o :: rest) a w := by
  refine wl_run hw (.pointer (some ⟨w.heap.size, 0, none⟩)) (w.alloc (evObj evZ)) ?_ (h _ _ (Nat.le_refl _) (heap_new _ _) ((Below.refl _ w).alloc (Nat.le_refl _) _))
  simp only [execOp, ho, evObj, evZ, vaZ]
  go_simp
end
end Go.Proofs.YtbaijjclofekcaaGreatDoor
namespace Go.Proofs.YtbaijjclofekcaaGreatDoor
open Go.RowKit
end Go.Proofs.YtbaijjclofekcaaGreatDoor
namespace Go.Proofs.YtbaijjclofekcaaGreatDoor
open Go.RowKit
theorem getD_flip {l : Array Bool} {i : Nat} (h : i < l.size) (d d' : Bool) : l.getD i d = l.getD i d' := by
  rw [Array.getD_eq_getD_getElem?, Array.getD_eq_getD_getElem?, Array.getElem?_eq_getElem h]
  rfl
section
variable {P : Program} {ops : Array Oper} {Q : Exit → Act → World → Prop}
end
end Go.Proofs.YtbaijjclofekcaaGreatDoor
namespace Go.Proofs.YtbaijjclofekcaaGreatDoor
open Go.RowKit
def wpAnyL (P : Program) (ops : Array Oper) (Q : Exit → Act → World → Prop) (S : World → Prop) (late : Nat → Bool) : Nat → Array Bool → Act → World → Prop
  | 0, l, a, w => Region.ready .any ops l = [] ∧ Q .normal a w
  | n + 1, l, a, w => (Region.ready .any ops l = [] → Q .normal a w) ∧ ∀ i ∈ Region.ready .any ops l, wpOp P ops Q i (fun a' w' => (late i = false → S w → S w') ∧ wpAnyL P ops Q S late n (l.setIfInBounds i true) a' w') a w
section
variable {P : Program} {ops : Array Oper} {Q : Exit → Act → World → Prop} {S : World → Prop} {late : Nat → Bool}
theorem wpAny_of_late : ∀ (n : Nat) (l : Array Bool) (a : Act) (w : World), wpAnyL P ops Q S late n l a w → wpAny P .any ops Q n l a w
  | 0, _, _, _, h => h
  | n + 1, l, a, w, h => ⟨h.1, fun i hi => wpOp_mono (fun a' w' k => wpAny_of_late n _ a' w' k.2) (h.2 i hi)⟩
theorem wp_region_late {id : Nat} {a : Act} {w : World} (hm : P.follows .mixedOrders = true) (h : wpAnyL P ops Q S late ops.size (Array.replicate ops.size false) a w.drew) : (Code.region id ops true).wp P Q a w :=
  wp_region_any hm (wpAny_of_late _ _ _ _ h)
theorem wpAnyL_done {l : Array Bool} {a : Act} {w : World} (hr : Region.ready .any ops l = []) (h : Q .normal a w) : ∀ n, wpAnyL P ops Q S late n l a w
  | 0 => ⟨hr, h⟩
  | n + 1 => ⟨fun _ => h, fun i hi => by rw [hr] at hi; cases hi⟩
theorem wpAnyL_all {rs : List Nat} {n : Nat} {l : Array Bool} {a : Act} {w : World} (hr : Region.ready .any ops l = rs) (hne : rs ≠ [])
    (h : ∀ i ∈ rs, wpOp P ops Q i (fun a' w' => (late i = false → S w → S w') ∧ wpAnyL P ops Q S late n (l.setIfInBounds i true) a' w') a w) : wpAnyL P ops Q S late (n + 1) l a w :=
  ⟨fun e => absurd (hr.symm.trans e) hne, fun i hi => h i (hr ▸ hi)⟩
def lateOn (ops : Array Oper) (late : Nat → Bool) (i : Nat) : Bool := (List.range ops.size).all fun j => !late j || ((ops[j]?).map fun o => o.after.any fun e => Region.binds .any e && (e.on == i)).getD true
theorem lateOn_spec {i j : Nat} {o : Oper} (h : lateOn ops late i = true) (ho : ops[j]? = some o) (hl : late j = true) : ∃ e ∈ o.after, Region.binds .any e = true ∧ e.on = i := by
  unfold lateOn at h
  rw [List.all_eq_true] at h
  have hj := h j (List.mem_range.2 (Array.getElem?_eq_some_iff.1 ho).1)
  rw [hl, ho] at hj
  simp only [Bool.not_true, Bool.false_or, Option.map_some, Option.getD_some] at hj
  rw [Array.any_eq_true'] at hj
  obtain ⟨e, he, hb⟩ := hj
  rw [Bool.and_eq_true, beq_iff_eq] at hb
  exact ⟨e, he, hb.1, hb.2⟩
theorem wpAnyL_swap {T : World → Prop} {i : Nat} {oi : Oper} {v : Value} (hi : ops[i]? = some oi) (hs : Region.noSelect ops = true) (hQ : ∀ c a w, Q (.panic c) (a.put oi.dst v) w → Q (.panic c) a w)
    (hT : ∀ (j : Nat) (o : Oper) (w w' : World), ops[j]? = some o → (∀ e ∈ o.after, Region.binds .any e = true → e.on ≠ i) → T w → (late j = false → S w → S w') → T w') :
    ∀ (n : Nat) (l : Array Bool) (a : Act) (w : World), (∀ j o, ops[j]? = some o → j ≠ i → l.getD j true = false → (∀ e ∈ o.after, Region.binds .any e = true → e.on ≠ i) → oi.apart ops o = true) →
      i ∈ Region.ready .any ops l → YieldsIf P ops T oi v a → T w → wpAnyL P ops Q S late n (l.setIfInBounds i true) (a.put oi.dst v) w → wpAnyL P ops Q S late (n + 1) l a w := by
  intro n
  induction n with
  | zero =>
    intro l a w _ hr hy hw H
    refine And.intro (fun e => by rw [e] at hr; cases hr) (fun j hj => ?_)
    by_cases e : j = i
    · subst e
      exact hy.wpOp hi hw (And.intro (fun _ h => h) H)
    · have hm := ready_mono hj e
      rw [H.1] at hm
      cases hm
  | succ n ih =>
    intro l a w hf hr hy hw H
    refine And.intro (fun e => by rw [e] at hr; cases hr) (fun j hj => ?_)
    by_cases e : j = i
    · subst e
      exact hy.wpOp hi hw (And.intro (fun _ h => h) H)
    · obtain ⟨hun, oj, hoj, hall⟩ := mem_ready.1 hj
      have hno : ∀ x ∈ oj.after, Region.binds .any x = true → x.on ≠ i := by
        intro x hx hb hxi
        have h1 := hall x hx hb
        rw [hxi] at h1
        have h0 := (mem_ready.1 hr).1
        by_cases hlt : i < l.size
        · rw [getD_flip hlt true false] at h0
          rw [h0] at h1
          cases h1
        · have : l.getD i false = false := by rw [Array.getD_eq_getD_getElem?, Array.getElem?_eq_none (by omega)]; rfl
          rw [this] at h1
          cases h1
      have hput := wpOp_putIf hoj (hf j oj hoj e hun hno) (fun cs b => Region.noSelect_spec hs i oi cs b hi) (fun cs b => Region.noSelect_spec hs j oj cs b hoj) hQ hy (H.2 j (ready_mono hj e))
      refine wpOp_mono ?_ hput
      rintro a' w' ⟨hy', hS', hH⟩
      refine ⟨hS', ih (l.setIfInBounds j true) a' w' ?_ (ready_mono hr (Ne.symm e)) hy' (hT j oj w w' hoj hno hw hS') ?_⟩
      · intro k ok hk hki hku hkn
        refine hf k ok hk hki ?_ hkn
        by_cases hjk : j = k
        · subst hjk; exact hun
        · rwa [getD_set_ne true hjk] at hku
      · rw [Array.setIfInBounds_comm _ _ e]
        exact hH
theorem wpAnyL_load {i : Nat} {oi : Oper} {v : Value} {n : Nat} {l : Array Bool} {a : Act} {w : World} (hi : ops[i]? = some oi) (hs : Region.noSelect ops = true) (hf : Region.free .any ops l i = true) (hr : (Region.ready .any ops l).contains i = true)
    (hl : lateOn ops late i = true) (hQ : ∀ c a w, Q (.panic c) (a.put oi.dst v) w → Q (.panic c) a w) (hy : YieldsIf P ops S oi v a) (hS : S w)
    (h : wpAnyL P ops Q S late n (l.setIfInBounds i true) (a.put oi.dst v) w) : wpAnyL P ops Q S late (n + 1) l a w :=
  wpAnyL_swap hi hs hQ (fun j o w w' ho hno hw hk => by
    cases e : late j
    · exact hk e hw
    · obtain ⟨x, hx, hb, hxi⟩ := lateOn_spec hl ho e
      exact absurd hxi (hno x hx hb)) n l a w (Region.free_spec hi hf) (by simpa using hr) hy hS h
theorem wpAnyL_pure {i : Nat} {oi : Oper} {v : Value} {n : Nat} {l : Array Bool} {a : Act} {w : World} (hi : ops[i]? = some oi) (hs : Region.noSelect ops = true) (hf : Region.free .any ops l i = true) (hr : (Region.ready .any ops l).contains i = true)
    (hQ : ∀ c a w, Q (.panic c) (a.put oi.dst v) w → Q (.panic c) a w) (hy : YieldsIf P ops (fun _ => True) oi v a)
    (h : wpAnyL P ops Q S late n (l.setIfInBounds i true) (a.put oi.dst v) w) : wpAnyL P ops Q S late (n + 1) l a w :=
  wpAnyL_swap (T := fun _ => True) hi hs hQ (fun _ _ _ _ _ _ _ _ => trivial) n l a w (Region.free_spec hi hf) (by simpa using hr) hy trivial h
end
end Go.Proofs.YtbaijjclofekcaaGreatDoor
namespace Go.Proofs.YtbaijjclofekcaaGreatDoor
open Go.RowKit
theorem app_where (w : World) (base t ty e : TypeId) (i : TypeInfo) (z : Value) (size bytes : Nat) (ht : Tryz.prog.underlying t = some (.slice e)) (hi : Tryz.prog.info? e = some i) (hz : i.zero = some z)
    (hsize : i.size = size) (hby : i.bytes = bytes) (hzs : z.cells.size = size) (hsz : 0 < size) (hb : bytes ≤ 1000) (v : Value) (n : Nat) (xs : List Value) (hown : w.ownsRow base e size v n xs)
    (a : Addr) (c : Nat) (news : List Value) (hl : news.length = size) (hnews : ∀ j u, news[j]? = some u → w.cell? (a.add j) = some u) (h1 : ∀ u ∈ news, u.oneCell' = true) (hn : n ≤ 1000000) (hbase : base ≤ w.heap.size) :
    ∃ v' w', (Builtin.append_ #[t, t] ty #[v, .slice (some a) 1 c]).run Tryz.prog w = .ok v' w' ∧ w'.ownsRow base e size v' (n + 1) (xs ++ news) ∧ w.grownBy w' v.ownBlock ∧ (∀ g, v'.ownBlock = some g → some g = v.ownBlock ∨ w.heap.size ≤ g) := by
  have hb2 : (n + 1) * bytes ≤ 140737488355328 := Nat.le_trans (Nat.mul_le_mul (show n + 1 ≤ 1000001 by omega) hb) (by decide)
  obtain ⟨v', w', hr, ho, hg, _⟩ := run_append_own (P := Tryz.prog) w base t ty e i z size bytes ht hi hz hsize hby hzs hsz v n xs hown a 1 c news (by rw [hl]; omega) hnews h1 (by unfold maxLen; omega) hb2 hbase
  refine ⟨v', w', hr, ho, hg, ?_⟩
  subst hsize
  rcases hown.2 with ⟨rfl, rfl⟩ | ⟨g, cap, cur, rfl, hbg, hgc, hnc, hcm, hcs, htake⟩
  · have hr2 := run_append_nil (P := Tryz.prog) w t ty e i z ht hi hz a 1 c news (by rw [hl]; omega) hnews (by omega) (by omega) (by rw [hby]; omega)
    rw [hr] at hr2
    injection hr2 with e1 e2
    intro g hg'
    rw [e1] at hg'
    simp only [Value.ownBlock, Option.some.injEq] at hg'
    right
    omega
  · by_cases hroom : n + 1 ≤ cap
    · have hr2 := run_append_room (P := Tryz.prog) w t ty e i ht hi g n cap cur hgc a 1 c news (by rw [hl]; omega) hnews h1 hroom (by rw [hl, hcs]; have := Nat.mul_le_mul_right i.size hroom; rw [Nat.add_mul] at this; omega)
      rw [hr] at hr2
      injection hr2 with e1 e2
      intro k hk
      rw [e1] at hk
      left
      simp only [Value.ownBlock] at hk ⊢
      exact hk.symm
    · have hr2 := run_append_grow (P := Tryz.prog) w t ty e i z ht hi hz ⟨g, 0, none⟩ n cap xs hown.1 (hown.cells (g := g) rfl) a 1 c news (by rw [hl]; omega) hnews (by omega) (by omega) (by rw [hby]; exact growslice_fits (by omega) hb2)
      rw [hr] at hr2
      injection hr2 with e1 e2
      intro k hk
      rw [e1] at hk
      simp only [Value.ownBlock, Option.some.injEq] at hk
      right
      omega
def rgCells1 (l : List Rg) : List Value := l.flatMap fun r => [.int .i64 r.1, .int .i64 r.2]
def stCells1 (l : List ByteArray) : List Value := l.flatMap fun s => [.string s]
def RowS (w : World) (B : Nat) (v : Value) (l : List ByteArray) : Prop := w.ownsRow B 9 1 v l.length (stCells1 l)
def RowR (w : World) (B : Nat) (v : Value) (l : List Rg) : Prop := w.ownsRow B 54 2 v l.length (rgCells1 l)
theorem own_ne {w : World} {B : Nat} {e t : TypeId} {size n g : Nat} {v : Value} {xs : List Value} {cs : Array Value} {fz : Nat × Nat} (h : w.ownsRow B e size v n xs) (hg : w.heap[g]? = some (.cells cs t fz)) (hne : t ≠ e) : v.ownBlock ≠ some g := by
  rcases h.2 with ⟨rfl, _⟩ | ⟨k, cap, cur, rfl, _, hk, _⟩
  · simp [Value.ownBlock]
  · intro e1
    simp only [Value.ownBlock, Option.some.injEq] at e1
    rw [e1, hg] at hk
    injection hk with hk
    injection hk with _ hk
    exact hne hk
theorem heap_gro {w w' : World} {g : Nat} {x : Obj} {r : Option Nat} (h : w.heap[g]? = some x) (hg : w.grownBy w' r) (hn : r ≠ some g) : w'.heap[g]? = some x := (hg.block _ (lt_heap h) (Ne.symm hn)).trans h
theorem gr_own {a w w' : World} {r r' : Option Nat} (h : a.grownBy w r) (hg : ∀ g, r' = some g → a.heap.size ≤ g) (k : w.grownBy w' r') : a.grownBy w' r :=
  ⟨k.os.trans h.os, k.tape.trans h.tape, k.output.trans h.output, Nat.le_trans h.size k.size, fun i hi hr => (k.block i (Nat.lt_of_lt_of_le hi h.size) (by intro e; have := hg i e.symm; omega)).trans (h.block i hi hr)⟩
theorem row_gr_heap {w w' : World} {B : Nat} {e t : TypeId} {size n g : Nat} {v : Value} {xs : List Value} {cs : Array Value} {fz : Nat × Nat} (h : w.ownsRow B e size v n xs) (k : w.grownBy w' (some g)) (hg : w.heap[g]? = some (.cells cs t fz)) (hne : t ≠ e) : w'.ownsRow B e size v n xs := by
  refine ⟨h.1, ?_⟩
  have hn := own_ne h hg hne
  rcases h.2 with h2 | ⟨g', cap, cur, e1, hgb, hc, hr⟩
  · exact Or.inl h2
  · refine Or.inr ⟨g', cap, cur, e1, hgb, heap_gr hc k ?_, hr⟩
    intro e2
    subst e2
    exact hn (by rw [e1]; rfl)
theorem row_row {w w' : World} {B B' : Nat} {e e' : TypeId} {size size' n n' : Nat} {v u : Value} {xs ys : List Value} (h : w.ownsRow B e size v n xs) (h' : w.ownsRow B' e' size' u n' ys) (k : w.grownBy w' u.ownBlock) (hne : e ≠ e') : w'.ownsRow B e size v n xs := by
  refine ⟨h.1, ?_⟩
  rcases h.2 with h2 | ⟨g', cap, cur, e1, hgb, hc, hr⟩
  · exact Or.inl h2
  · exact Or.inr ⟨g', cap, cur, e1, hgb, heap_gro hc k (own_ne h' hc hne), hr⟩
theorem ownsRow_on {w w' : World} {B : Nat} {e : TypeId} {size n : Nat} {v : Value} {xs : List Value} (h : w.ownsRow B e size v n xs) (hb : Below w.heap.size w w') : w'.ownsRow B e size v n xs := by
  refine ⟨h.1, ?_⟩
  rcases h.2 with h2 | ⟨g, cap, cur, e1, hg, hc, hr⟩
  · exact Or.inl h2
  · exact Or.inr ⟨g, cap, cur, e1, hg, heap_on hc hb, hr⟩
theorem ownsRow_gr {w w' : World} {B : Nat} {e : TypeId} {size n : Nat} {v : Value} {xs : List Value} {r : Option Nat} (h : w.ownsRow B e size v n xs) (hg : w.grownBy w' r) (hne : ∀ g, v.ownBlock = some g → r ≠ some g) : w'.ownsRow B e size v n xs := by
  refine ⟨h.1, ?_⟩
  rcases h.2 with h2 | ⟨g, cap, cur, e1, hgb, hc, hr⟩
  · exact Or.inl h2
  · exact Or.inr ⟨g, cap, cur, e1, hgb, heap_gro hc hg (hne g (by rw [e1]; rfl)), hr⟩
theorem RowS.nil (w : World) (B : Nat) : RowS w B (.slice none 0 0) [] := World.ownsRow_nil w B _ _
theorem RowS.on {w w' : World} {B : Nat} {v : Value} {l : List ByteArray} (h : RowS w B v l) (hb : Below w.heap.size w w') : RowS w' B v l := ownsRow_on h hb
theorem stCells1_one (d : ByteArray) : stCells1 [d] = [.string d] := by simp [stCells1]
theorem stCells1_app (l : List ByteArray) (d : ByteArray) : stCells1 (l ++ [d]) = stCells1 l ++ [.string d] := by
  rw [← stCells1_one d]
  unfold stCells1
  rw [List.flatMap_append]
theorem rn_appS {o : Oper} {w : World} (a : Act) (s x : Operand) (ho : o.op = .call { callee := .builtin .append, args := #[s, x], argTypes := #[41, 41] }) (B : Nat) (v : Value) (l : List ByteArray) (hs : a.eval s = v) (hown : RowS w B v l)
    (g : Nat) (d : ByteArray) (hx : a.eval x = .slice (some ⟨g, 0, none⟩) 1 1) (hd : w.heap[g]? = some (.cells #[.string d] 9 (0, 0))) (hn : l.length ≤ 1000000) (hB : B ≤ w.heap.size) :
    ∃ v' w', (execOp a.eval o).run Tryz.prog w = .ok (.value v') w' ∧ RowS w' B v' (l ++ [d]) ∧ w.grownBy w' v.ownBlock ∧ (∀ g, v'.ownBlock = some g → some g = v.ownBlock ∨ w.heap.size ≤ g) := by
  obtain ⟨i0, hi, hz0, hz1, hz2⟩ := info_parts cInfoS
  obtain ⟨v', w', hr, h2, h3, h4⟩ := app_where w B 41 o.type 9 i0 _ 1 16 Tryz.underlying41 hi hz0 hz1 hz2 rfl (by decide) (by decide) v l.length _ hown ⟨g, 0, none⟩ 1 [.string d] (by rfl) (fun j u hu => by
    rw [Addr.add_mid, Nat.zero_add, cell_heap hd]
    exact List.getElem?_toArray.trans hu) (fun u hu => by
    first
      | exact d.list_one u hu
      | (simp only [List.mem_cons, List.not_mem_nil, or_false] at hu; rcases hu with rfl | rfl <;> rfl)
      | (simp only [List.mem_cons, List.not_mem_nil, or_false] at hu; rw [hu]; rfl)) hn hB
  refine ⟨v', w', ?_, ?_, h3, h4⟩
  · unfold execOp
    simp only [ho, resolve, invoke, builtin, Sem.run_bind, Sem.run_pure, Result.andThen_ok, List.map_toArray, List.map_cons, List.map_nil, hs, hx, hr]
  · show w'.ownsRow B 9 1 v' (l ++ [d]).length (stCells1 (l ++ [d]))
    rw [stCells1_app, List.length_append]
    exact h2
theorem RowR.nil (w : World) (B : Nat) : RowR w B (.slice none 0 0) [] := World.ownsRow_nil w B _ _
theorem RowR.on {w w' : World} {B : Nat} {v : Value} {l : List Rg} (h : RowR w B v l) (hb : Below w.heap.size w w') : RowR w' B v l := ownsRow_on h hb
theorem rn_row1S {o : Oper} {w : World} (a : Act) (x : Operand) (ho : o.op = .buildSlice 41 1 #[(0, x)]) (d : ByteArray) (hx : a.eval x = .string d) : (execOp a.eval o).run Tryz.prog w = .ok (.value (.slice (some ⟨w.heap.size, 0, none⟩) 1 1)) (w.alloc (.cells #[.string d] 9 (0, 0))) := by
  simp only [execOp, ho, List.map_toArray, List.map_cons, List.map_nil, hx]
  go_simp
theorem rn_row1R {o : Oper} {w : World} (a : Act) (x : Operand) (ho : o.op = .buildSlice 40 1 #[(0, x)]) (d : Rg) (hx : a.eval x = .agg #[.int .i64 d.1, .int .i64 d.2]) : (execOp a.eval o).run Tryz.prog w = .ok (.value (.slice (some ⟨w.heap.size, 0, none⟩) 1 1)) (w.alloc (.cells #[.int .i64 d.1, .int .i64 d.2] 54 (0, 0))) := by
  simp only [execOp, ho, List.map_toArray, List.map_cons, List.map_nil, hx]
  go_simp
theorem yt_buildR {ops : Array Oper} {S : World → Prop} {o : Oper} {a : Act} (hw : Region.wanted o (yielded ops a.tmps) = true) (x y : Operand) (ho : o.op = .build 54 #[(0, x), (1, y)]) (p q : Int) (hx : a.eval x = .int .i64 p) (hy : a.eval y = .int .i64 q) : YieldsIf Tryz.prog ops S o (.agg #[.int .i64 p, .int .i64 q]) a :=
  Or.inl ⟨hw, fun w _ => by
    simp only [execOp, ho, List.map_toArray, List.map_cons, List.map_nil, hx, hy]
    go_simp⟩
section
variable {ops : Array Oper} {Q : Exit → Act → World → Prop} {o : Oper} {a : Act} {i : Nat} {w : World} {K : Act → World → Prop}
theorem ot_run (hi : ops[i]? = some o) (hw : Region.wanted o (yielded ops a.tmps) = true) (v : Value) (w' : World) (hr : (execOp a.eval o).run Tryz.prog w = .ok (.value v) w') (h : K (a.put o.dst v) w') : wpOp Tryz.prog ops Q i K a w := by
  unfold wpOp
  simp only [hi]
  rw [if_pos hw]
  refine Or.inl ?_
  unfold Oper.wp
  rw [hr]
  exact h
theorem ot_skip (hi : ops[i]? = some o) (hw : Region.wanted o (yielded ops a.tmps) = true) (w' : World) (hr : (execOp a.eval o).run Tryz.prog w = .ok .skip w') (h : K (a.put o.dst undef) w') : wpOp Tryz.prog ops Q i K a w := by
  unfold wpOp
  simp only [hi]
  rw [if_pos hw]
  refine Or.inl ?_
  unfold Oper.wp
  rw [hr]
  exact h
theorem ot_call (hi : ops[i]? = some o) (hw : Region.wanted o (yielded ops a.tmps) = true)
    (f : Nat) (xs : Array Operand) (ts : Array TypeId) (ho : o.op = .call { callee := .value (.func f), args := xs, argTypes := ts }) (vs : Array Value) (hv : xs.toList.map a.eval = vs.toList)
    (hrun : ∀ (W : World) (A : Array Value), (callFunc f A).run Tryz.prog W = .ok (.enter f A) W)
    (hc : Calls Tryz.prog f vs w fun r w' => (∃ v, r = .returned v ∧ K (a.put o.dst v) w') ∨ (∃ ch, r = .panicked ch ∧ Q (.panic ch) a w')) : wpOp Tryz.prog ops Q i K a w := by
  unfold wpOp
  simp only [hi]
  rw [if_pos hw]
  refine Or.inl ?_
  have hv : xs.map a.eval = vs := by
    rw [← Array.toList_inj, Array.toList_map]
    exact hv
  have he : a.eval (.func f) = .func (.func f) #[] #[] := rfl
  have hx : (execOp a.eval o).run Tryz.prog w = .ok (.enter f vs) w := by
    have := hrun w vs
    simp [execOp, ho, resolve, he, hv, Deferred.ofValue, invoke, this]
  unfold Oper.wp
  rw [hx, Oper.upon_enter]
  refine hc.mono ?_
  rintro e w' (⟨v, rfl, h1⟩ | ⟨ch, rfl, h1⟩)
  · exact h1
  · exact h1
theorem wt_row1S {rest : List Oper} (hw : Region.wanted o (yielded ops a.tmps) = true) (x : Operand) (ho : o.op = .buildSlice 41 1 #[(0, x)]) (d : ByteArray) (hx : a.eval x = .string d)
    (h : ∀ W g, w.heap.size ≤ g → W.heap[g]? = some (.cells #[.string d] 9 (0, 0)) → Below w.heap.size w W → wpList Tryz.prog ops Q rest (a.put o.dst (.slice (some ⟨g, 0, none⟩) 1 1)) W) : wpList Tryz.prog ops Q (o :: rest) a w :=
  wl_run hw _ _ (rn_row1S a x ho d hx) (h _ _ (Nat.le_refl _) (heap_new _ _) ((Below.refl _ w).alloc (Nat.le_refl _) _))
theorem wt_appS {rest : List Oper} (hw : Region.wanted o (yielded ops a.tmps) = true) (s x : Operand) (ho : o.op = .call { callee := .builtin .append, args := #[s, x], argTypes := #[41, 41] }) (B : Nat) (v : Value) (l : List ByteArray) (hs : a.eval s = v) (hown : RowS w B v l)
    (g : Nat) (d : ByteArray) (hx : a.eval x = .slice (some ⟨g, 0, none⟩) 1 1) (hd : w.heap[g]? = some (.cells #[.string d] 9 (0, 0))) (hn : l.length ≤ 1000000) (hB : B ≤ w.heap.size)
    (h : ∀ v' W, RowS W B v' (l ++ [d]) → w.grownBy W v.ownBlock → (∀ g, v'.ownBlock = some g → some g = v.ownBlock ∨ w.heap.size ≤ g) → wpList Tryz.prog ops Q rest (a.put o.dst v') W) : wpList Tryz.prog ops Q (o :: rest) a w := by
  obtain ⟨v', w', hr, h2, h3, h4⟩ := rn_appS a s x ho B v l hs hown g d hx hd hn hB
  exact wl_run hw v' w' hr (h v' w' h2 h3 h4)
theorem wt_row1R {rest : List Oper} (hw : Region.wanted o (yielded ops a.tmps) = true) (x : Operand) (ho : o.op = .buildSlice 40 1 #[(0, x)]) (d : Rg) (hx : a.eval x = .agg #[.int .i64 d.1, .int .i64 d.2])
    (h : ∀ W g, w.heap.size ≤ g → W.heap[g]? = some (.cells #[.int .i64 d.1, .int .i64 d.2] 54 (0, 0)) → Below w.heap.size w W → wpList Tryz.prog ops Q rest (a.put o.dst (.slice (some ⟨g, 0, none⟩) 1 1)) W) : wpList Tryz.prog ops Q (o :: rest) a w :=
  wl_run hw _ _ (rn_row1R a x ho d hx) (h _ _ (Nat.le_refl _) (heap_new _ _) ((Below.refl _ w).alloc (Nat.le_refl _) _))
end
end Go.Proofs.YtbaijjclofekcaaGreatDoor
namespace Go.Proofs.YtbaijjclofekcaaGreatDoor
open Go.RowKit
def SC.lst (c : SC) : List Value := [.bool c.a, .slice c.p c.n c.c, .bool c.d, .slice c.q c.m c.e]
theorem SC.val_list (c : SC) : c.val = .agg c.lst.toArray := rfl
theorem SC.lst_len (c : SC) : c.lst.length = 4 := rfl
theorem SC.lst_one (c : SC) : ∀ v ∈ c.lst, v.oneCell' = true := by
  intro v hv
  unfold SC.lst at hv
  simp only [List.mem_cons, List.not_mem_nil, or_false] at hv
  rcases hv with rfl | rfl | rfl | rfl <;> rfl
def scObj (c : SC) : Obj := .cells c.lst.toArray 43
theorem StIn.range {w : World} {g : Nat} {c : SC} (h : StIn w g c) : w.rangeAt g 0 c.lst := fun j v hv => by
  rw [cell_heap h, Nat.zero_add, List.getElem?_toArray]
  exact hv
theorem cInfoT : (Tryz.prog.info? 43).map (fun i => (i.zero, i.size, i.bytes)) = some (some SC.zero.val, 4, 64) := by kernel_rfl
def ScRow (w : World) (v : Value) (cs : List SC) : Prop :=
  cs.length ≤ 9223372036854775807 ∧ ∃ (a : Option Addr) (cap : Nat), v = .slice a cs.length cap ∧ ∀ i, i < cs.length → ∃ g off, a = some ⟨g, off, none⟩ ∧ g < w.heap.size ∧ w.rangeAt g (off + i * 4) (cs.getD i SC.zero).lst
theorem ScRow.on {w w' : World} {v : Value} {cs : List SC} (h : ScRow w v cs) (hb : Below w.heap.size w w') : ScRow w' v cs := by
  obtain ⟨h1, a, cap, rfl, h⟩ := h
  refine ⟨h1, a, cap, rfl, fun i hi => ?_⟩
  obtain ⟨g, off, e, hg, hr⟩ := h i hi
  exact ⟨g, off, e, Nat.lt_of_lt_of_le hg hb.size, rangeAt_on hr (hb.block _ hg)⟩
def AllSt (w : World) (cs : List SC) (l : List SetV) : Prop := cs.length = l.length ∧ ∀ i, i < l.length → SetAt w (cs.getD i SC.zero).val (l.getD i noSet)
theorem AllSt.on {w w' : World} {cs : List SC} {l : List SetV} (h : AllSt w cs l) (hb : Below w.heap.size w w') : AllSt w' cs l := ⟨h.1, fun i hi => (h.2 i hi).on hb⟩
def Sts (w : World) (v : Value) (l : List SetV) : Prop := ∃ cs, ScRow w v cs ∧ AllSt w cs l
theorem Sts.on {w w' : World} {v : Value} {l : List SetV} (h : Sts w v l) (hb : Below w.heap.size w w') : Sts w' v l := by
  obtain ⟨cs, h1, h2⟩ := h
  exact ⟨cs, h1.on hb, h2.on hb⟩
def scCells (cs : List SC) : List Value := cs.flatMap SC.lst
theorem scCells_append (a b : List SC) : scCells (a ++ b) = scCells a ++ scCells b := by unfold scCells; rw [List.flatMap_append]
theorem scCells_len : ∀ cs : List SC, (scCells cs).length = cs.length * 4
  | [] => rfl
  | c :: cs => by
    have := scCells_len cs
    unfold scCells at this ⊢
    rw [List.flatMap_cons, List.length_append, this, SC.lst_len, List.length_cons]
    omega
theorem scCells_one (cs : List SC) : ∀ u ∈ scCells cs, u.oneCell' = true := by
  intro u hu
  unfold scCells at hu
  obtain ⟨c, _, hu⟩ := List.mem_flatMap.1 hu
  exact c.lst_one u hu
theorem scCells_at : ∀ (cs : List SC) (i r : Nat), i < cs.length → r < 4 → (scCells cs)[i * 4 + r]? = (cs.getD i SC.zero).lst[r]?
  | [], i, r, h, _ => by simp at h
  | c :: cs, 0, r, _, hr => by
    unfold scCells
    rw [List.flatMap_cons, Nat.zero_mul, Nat.zero_add, List.getElem?_append_left (by rw [SC.lst_len]; exact hr)]
    rfl
  | c :: cs, i + 1, r, h, hr => by
    have := scCells_at cs i r (by simpa using h) hr
    unfold scCells at this ⊢
    rw [List.flatMap_cons, List.getElem?_append_right (by rw [SC.lst_len]; omega), SC.lst_len, show (i + 1) * 4 + r - 4 = i * 4 + r by omega, this]
    rfl
def OwnT (w : World) (B : Nat) (v : Value) (cs : List SC) : Prop := w.ownsRow B 43 4 v cs.length (scCells cs)
theorem OwnT.on {w w' : World} {B : Nat} {v : Value} {cs : List SC} (h : OwnT w B v cs) (hb : Below w.heap.size w w') : OwnT w' B v cs := by
  refine ⟨h.1, ?_⟩
  rcases h.2 with h | ⟨g, cap, cur, e, hB, hg, r⟩
  · exact Or.inl h
  · exact Or.inr ⟨g, cap, cur, e, hB, (hb.block _ (lt_heap hg)).trans hg, r⟩
theorem OwnT.mono {w : World} {B B' : Nat} {v : Value} {cs : List SC} (h : OwnT w B v cs) (hb : B' ≤ B) : OwnT w B' v cs := by
  refine ⟨h.1, ?_⟩
  rcases h.2 with h | ⟨g, cap, cur, e, hB, r⟩
  · exact Or.inl h
  · exact Or.inr ⟨g, cap, cur, e, Nat.le_trans hb hB, r⟩
theorem ownT_nil (w : World) (B : Nat) : OwnT w B (.slice none 0 0) [] := ⟨rfl, Or.inl ⟨rfl, rfl⟩⟩
theorem OwnT.range {w : World} {B g n cap : Nat} {cs : List SC} (h : OwnT w B (.slice (some ⟨g, 0, none⟩) n cap) cs) (i : Nat) (hi : i < cs.length) : w.rangeAt g (i * 4) (cs.getD i SC.zero).lst := by
  rcases h.2 with ⟨h, _⟩ | ⟨g', cap', cur, e, hB, hg, hn, hm, hs, ht⟩
  · cases h
  · cases e
    intro j v hv
    have hj : j < 4 := by
      have := (List.getElem?_eq_some_iff.1 hv).1
      rwa [SC.lst_len] at this
    rw [cell_heap hg]
    have := take_at ht ((scCells_at cs i j hi hj).trans hv)
    rw [← Array.getElem?_toList]
    exact this
theorem OwnT.form {w : World} {B : Nat} {v : Value} {cs : List SC} (h : OwnT w B v cs) : (v = .slice none 0 0 ∧ cs = []) ∨ ∃ g cap cur, v = .slice (some ⟨g, 0, none⟩) cs.length cap ∧ B ≤ g ∧ w.heap[g]? = some (.cells cur 43 (0, 0)) ∧ cs.length ≤ cap ∧ cap ≤ maxLen ∧ cur.size = cap * 4 := by
  rcases h.2 with ⟨h, h'⟩ | ⟨g, cap, cur, e, hB, hg, hn, hm, hs, ht⟩
  · exact Or.inl ⟨h, List.eq_nil_of_length_eq_zero h'⟩
  · exact Or.inr ⟨g, cap, cur, e, hB, hg, hn, hm, hs⟩
theorem ownT_of {w : World} {B g cap : Nat} {cur : Array Value} {cs : List SC} (hg : w.heap[g]? = some (.cells cur 43 (0, 0))) (hB : B ≤ g) (hn : cs.length ≤ cap) (hm : cap ≤ maxLen) (hs : cur.size = cap * 4) (h : ∀ i, i < cs.length → w.rangeAt g (i * 4) (cs.getD i SC.zero).lst) : OwnT w B (.slice (some ⟨g, 0, none⟩) cs.length cap) cs := by
  refine ⟨scCells_len cs, Or.inr ⟨g, cap, cur, rfl, hB, hg, hn, hm, hs, ?_⟩⟩
  apply List.ext_getElem?
  intro j
  rw [List.getElem?_take]
  split
  · rename_i hj
    have hi : j / 4 < cs.length := by omega
    have hr : j % 4 < 4 := by omega
    have e : j = j / 4 * 4 + j % 4 := by omega
    have h1 := scCells_at cs (j / 4) (j % 4) hi hr
    rw [← e] at h1
    rw [h1]
    have hl : j % 4 < (cs.getD (j / 4) SC.zero).lst.length := hr
    have h2 := h (j / 4) hi (j % 4) _ (List.getElem?_eq_getElem hl)
    rw [← e, cell_heap hg] at h2
    rw [Array.getElem?_toList, h2, List.getElem?_eq_getElem hl]
  · rename_i hj
    rw [List.getElem?_eq_none (by rw [scCells_len]; omega)]
theorem OwnT.row {w : World} {B : Nat} {v : Value} {cs : List SC} (h : OwnT w B v cs) (hl : cs.length ≤ 1000000) : ScRow w v cs := by
  refine ⟨by omega, ?_⟩
  rcases h.form with ⟨rfl, rfl⟩ | ⟨g, cap, cur, rfl, hB, hg, _⟩
  · exact ⟨none, 0, rfl, fun i hi => by simp at hi⟩
  · exact ⟨_, cap, rfl, fun i hi => ⟨g, 0, rfl, lt_heap hg, by rw [Nat.zero_add]; exact h.range i hi⟩⟩
def plainQ : Value → Bool
  | .int .i64 _ => false
  | .string _ => false
  | _ => true
theorem plq_list (c : SC) : ∀ x ∈ c.lst, plainQ x = true := by
  intro v hv
  unfold SC.lst at hv
  simp only [List.mem_cons, List.not_mem_nil, or_false] at hv
  rcases hv with rfl | rfl | rfl | rfl <;> rfl
theorem plq_cells (cs : List SC) : ∀ x ∈ scCells cs, plainQ x = true := by
  intro x hx
  unfold scCells at hx
  obtain ⟨c, _, hx⟩ := List.mem_flatMap.1 hx
  exact plq_list c x hx
theorem plq_zero (n : Nat) : ∀ x ∈ (Builtin.zeroCells SC.zero.val.cells n).toList, plainQ x = true := by
  intro v hv
  simp only [Builtin.zeroCells, Array.toList_map, List.mem_map] at hv
  obtain ⟨i, -, rfl⟩ := hv
  have hm : ∀ j : Nat, j < 4 → plainQ (SC.zero.lst.toArray[j]!) = true := by
    intro j hj
    have : SC.zero.lst.toArray[j]! = SC.zero.lst[j]'(by rw [SC.lst_len]; exact hj) := by simp [hj, SC.lst_len]
    rw [this]
    exact plq_list SC.zero _ (List.getElem_mem _)
  exact hm _ (Nat.mod_lt _ (by decide))
theorem plq_made (n : Nat) : ∀ x ∈ (madeCells SC.zero.val.cells n).toList, plainQ x = true := by
  intro v hv
  simp only [madeCells, Array.toList_map, List.mem_map] at hv
  obtain ⟨i, -, rfl⟩ := hv
  have hm : ∀ j : Nat, j < 4 → plainQ (SC.zero.lst.toArray[j]!) = true := by
    intro j hj
    have : SC.zero.lst.toArray[j]! = SC.zero.lst[j]'(by rw [SC.lst_len]; exact hj) := by simp [hj, SC.lst_len]
    rw [this]
    exact plq_list SC.zero _ (List.getElem_mem _)
  exact hm _ (Nat.mod_lt _ (by decide))
structure OwnU (w : World) (B : Nat) (v : Value) (cs : List SC) : Prop where
  own : OwnT w B v cs
  pl : ∀ g, v.ownBlock = some g → ∃ cur, w.heap[g]? = some (.cells cur 43 (0, 0)) ∧ ∀ x ∈ cur.toList, plainQ x = true
theorem OwnU.on {w w' : World} {B : Nat} {v : Value} {cs : List SC} (h : OwnU w B v cs) (hb : Below w.heap.size w w') : OwnU w' B v cs :=
  ⟨h.own.on hb, fun g hg => by
    obtain ⟨cur, h1, h2⟩ := h.pl g hg
    exact ⟨cur, (hb.block _ (lt_heap h1)).trans h1, h2⟩⟩
theorem OwnU.mono {w : World} {B B' : Nat} {v : Value} {cs : List SC} (h : OwnU w B v cs) (hb : B' ≤ B) : OwnU w B' v cs := ⟨h.own.mono hb, h.pl⟩
theorem ownU_nil (w : World) (B : Nat) : OwnU w B (.slice none 0 0) [] := ⟨ownT_nil w B, fun g h => by cases h⟩
theorem RngsAt.asq {w w' : World} {v : Value} {l : List Rg} {p : Nat} {cs : Array Value} {t : TypeId} {fz : Nat × Nat} (h : RngsAt w v l) (hp : w.heap[p]? = some (.cells cs t fz)) (hn : ∀ x ∈ cs.toList, plainQ x = true) (hs : w.heap.size ≤ w'.heap.size) (hk : ∀ k, k < w.heap.size → k ≠ p → w'.heap[k]? = w.heap[k]?) : RngsAt w' v l := by
  obtain ⟨h1, h2, a, cap, hv, h⟩ := h
  refine ⟨h1, h2, a, cap, hv, fun i hi => ?_⟩
  obtain ⟨b, off, ha, hlt, c0, c1⟩ := h i hi
  have hb : b ≠ p := by
    rintro rfl
    rw [cell_heap hp] at c0
    obtain ⟨hj, e⟩ := Array.getElem?_eq_some_iff.1 c0
    have hm := hn _ (Array.getElem_mem_toList hj)
    rw [e] at hm
    cases hm
  have hc : ∀ o, w'.cell? ⟨b, o, none⟩ = w.cell? ⟨b, o, none⟩ := fun o => by unfold World.cell?; simp only [hk b hlt hb]
  exact ⟨b, off, ha, Nat.lt_of_lt_of_le hlt hs, (hc _).trans c0, (hc _).trans c1⟩
theorem StrsAt.asq {w w' : World} {v : Value} {l : List ByteArray} {p : Nat} {cs : Array Value} {t : TypeId} {fz : Nat × Nat} (h : StrsAt w v l) (hp : w.heap[p]? = some (.cells cs t fz)) (hn : ∀ x ∈ cs.toList, plainQ x = true) (hs : w.heap.size ≤ w'.heap.size) (hk : ∀ k, k < w.heap.size → k ≠ p → w'.heap[k]? = w.heap[k]?) : StrsAt w' v l := by
  obtain ⟨h1, h2, a, cap, hv, h⟩ := h
  refine ⟨h1, h2, a, cap, hv, fun i hi => ?_⟩
  obtain ⟨b, off, ha, hlt, c0⟩ := h i hi
  have hb : b ≠ p := by
    rintro rfl
    rw [cell_heap hp] at c0
    obtain ⟨hj, e⟩ := Array.getElem?_eq_some_iff.1 c0
    have hm := hn _ (Array.getElem_mem_toList hj)
    rw [e] at hm
    cases hm
  have hc : ∀ o, w'.cell? ⟨b, o, none⟩ = w.cell? ⟨b, o, none⟩ := fun o => by unfold World.cell?; simp only [hk b hlt hb]
  exact ⟨b, off, ha, Nat.lt_of_lt_of_le hlt hs, (hc _).trans c0⟩
theorem SetAt.asq {w w' : World} {v : Value} {S : SetV} {p : Nat} {cs : Array Value} {t : TypeId} {fz : Nat × Nat} (h : SetAt w v S) (hp : w.heap[p]? = some (.cells cs t fz)) (hn : ∀ x ∈ cs.toList, plainQ x = true) (hs : w.heap.size ≤ w'.heap.size) (hk : ∀ k, k < w.heap.size → k ≠ p → w'.heap[k]? = w.heap[k]?) : SetAt w' v S := by
  obtain ⟨vi, vs, hv, q1, q2⟩ := h
  exact ⟨vi, vs, hv, q1.asq hp hn hs hk, q2.asq hp hn hs hk⟩
theorem OwnU.carry {w w' : World} {B B' : Nat} {v : Value} {cs : List SC} (h : OwnU w B v cs) (ha : Asd v.ownBlock B' w w') {y : Value} {b : SetV} (hb : SetAt w y b) : SetAt w' y b := by
  cases ho : v.ownBlock with
  | none =>
    rw [ho] at ha
    have H : ∀ k, k < w.heap.size → w'.heap[k]? = w.heap[k]? := fun k hk => ha.k k hk (by simp)
    exact hb.on ⟨ha.b.os, ha.b.tape, ha.b.output, ha.s, H⟩
  | some g =>
    obtain ⟨cur, h1, h2⟩ := h.pl g ho
    rw [ho] at ha
    exact hb.asq h1 h2 ha.s (fun k hk hne => ha.k k hk (fun e => hne (Option.some.inj e)))
theorem AllSt.carry {w w' : World} {cs : List SC} {l : List SetV} (h : AllSt w cs l) (c : ∀ {y : Value} {b : SetV}, SetAt w y b → SetAt w' y b) : AllSt w' cs l := ⟨h.1, fun i hi => c (h.2 i hi)⟩
theorem run_appU (w : World) (B ty : Nat) (v : Value) (cs : List SC) (hown : OwnU w B v cs) (g : Nat) (d : SC) (hd : StIn w g d) (hn : cs.length ≤ 1000) (hB : B ≤ w.heap.size) :
    ∃ v' w', (Builtin.append_ #[31, 31] ty #[v, .slice (some ⟨g, 0, none⟩) 1 1]).run Tryz.prog w = .ok v' w' ∧ OwnU w' B v' (cs ++ [d]) ∧ Asd v.ownBlock B w w' ∧ (∀ k, v'.ownBlock = some k → some k = v.ownBlock ∨ w.heap.size ≤ k) := by
  obtain ⟨i0, hi, hz0, hz1, hz2⟩ := info_parts cInfoT
  have hnews : ∀ j u, d.lst[j]? = some u → w.cell? ((⟨g, 0, none⟩ : Addr).add j) = some u := fun j u hu => by rw [Addr.add_mid]; exact hd.range j u hu
  obtain ⟨v', w', hr, ho, hg, _⟩ := run_append_own (P := Tryz.prog) w B 31 ty 43 i0 _ 4 64 Tryz.underlying31 hi hz0 hz1 hz2 rfl (by decide) v cs.length (scCells cs) hown.own ⟨g, 0, none⟩ 1 1 d.lst (by rw [SC.lst_len]) hnews d.lst_one (by unfold maxLen; omega) (by omega) hB
  have hO : OwnT w' B v' (cs ++ [d]) := by
    show w'.ownsRow B 43 4 v' (cs ++ [d]).length (scCells (cs ++ [d]))
    rw [scCells_append, List.length_append]
    have : scCells [d] = d.lst := by unfold scCells; simp
    rw [this]
    exact ho
  have hA : Asd v.ownBlock B w w' := ⟨(Below.refl _ _).grown hg hB (fun k hk => (World.ownsRow.lt hown.own k hk).1), hg.size, fun k hk hne => hg.block k hk hne⟩
  rcases hown.own.2 with ⟨rfl, hlen⟩ | ⟨g0, cap, cur, rfl, hbg, hgc, hnc, hcm, hcs, htake⟩
  · have hr2 := run_append_nil (P := Tryz.prog) w 31 ty 43 i0 _ Tryz.underlying31 hi hz0 ⟨g, 0, none⟩ 1 1 d.lst (by rw [SC.lst_len, hz1]) hnews (by omega) (by omega) (by rw [hz2]; omega)
    rw [hr] at hr2
    injection hr2 with e1 e2
    refine ⟨v', w', hr, ⟨hO, fun k hk => ?_⟩, hA, fun k hk => ?_⟩
    · rw [e1] at hk
      obtain rfl : w.heap.size = k := Option.some.inj hk
      refine ⟨_, by rw [e2]; exact heap_new w.drew _, fun x hx => ?_⟩
      rw [Array.toList_append, List.mem_append] at hx
      rcases hx with hx | hx
      · exact plq_list d x (by simpa using hx)
      · exact plq_zero _ x hx
    · rw [e1] at hk
      obtain rfl : w.heap.size = k := Option.some.inj hk
      exact Or.inr (Nat.le_refl _)
  · by_cases hroom : cs.length + 1 ≤ cap
    · have hr2 := run_append_room (P := Tryz.prog) w 31 ty 43 i0 Tryz.underlying31 hi g0 cs.length cap cur hgc ⟨g, 0, none⟩ 1 1 d.lst (by rw [SC.lst_len, hz1]) hnews d.lst_one hroom (by rw [SC.lst_len, hz1, hcs]; omega)
      rw [hr] at hr2
      injection hr2 with e1 e2
      obtain ⟨cur0, p1, p2⟩ := hown.pl g0 rfl
      rw [hgc] at p1
      injection p1 with p1
      injection p1 with p1 _ _
      subst p1
      refine ⟨v', w', hr, ⟨hO, fun k hk => ?_⟩, hA, fun k hk => ?_⟩
      · rw [e1] at hk
        obtain rfl : g0 = k := Option.some.inj hk
        refine ⟨_, by rw [e2]; exact setRow_heap w g0 cur _ _ _ hgc, fun x hx => ?_⟩
        simp only [List.mem_append] at hx
        rcases hx with (hx | hx) | hx
        · exact p2 x (List.mem_of_mem_take hx)
        · exact plq_list d x hx
        · exact p2 x (List.mem_of_mem_drop hx)
      · rw [e1] at hk
        left
        exact hk.symm
    · have hr2 := run_append_grow (P := Tryz.prog) w 31 ty 43 i0 _ Tryz.underlying31 hi hz0 ⟨g0, 0, none⟩ cs.length cap (scCells cs) (by rw [hz1]; exact hown.own.1) (hown.own.cells (g := g0) rfl) ⟨g, 0, none⟩ 1 1 d.lst (by rw [SC.lst_len, hz1]) hnews (by omega) (by omega) (growslice_fits (by omega) (by rw [hz2]; omega))
      rw [hr] at hr2
      injection hr2 with e1 e2
      refine ⟨v', w', hr, ⟨hO, fun k hk => ?_⟩, hA, fun k hk => ?_⟩
      · rw [e1] at hk
        obtain rfl : w.heap.size = k := Option.some.inj hk
        refine ⟨_, by rw [e2]; exact heap_new w.drew _, fun x hx => ?_⟩
        rw [Array.toList_append, Array.toList_append, List.mem_append, List.mem_append] at hx
        rcases hx with (hx | hx) | hx
        · exact plq_cells cs x (by simpa using hx)
        · exact plq_list d x (by simpa using hx)
        · exact plq_zero _ x hx
      · rw [e1] at hk
        obtain rfl : w.heap.size = k := Option.some.inj hk
        exact Or.inr (Nat.le_refl _)
section
variable {ops : Array Oper} {Q : Exit → Act → World → Prop} {S : World → Prop} {o : Oper} {a : Act}
theorem wl_appU {rest : List Oper} {w : World} (hw : Region.wanted o (yielded ops a.tmps) = true) (s x : Operand) (ho : o.op = .call { callee := .builtin .append, args := #[s, x], argTypes := #[31, 31] })
    (B : Nat) (v : Value) (cs : List SC) (hs : a.eval s = v) (hown : OwnU w B v cs) (g : Nat) (d : SC) (hx : a.eval x = .slice (some ⟨g, 0, none⟩) 1 1) (hd : StIn w g d) (hn : cs.length ≤ 1000) (hB : B ≤ w.heap.size)
    (h : ∀ v' w', OwnU w' B v' (cs ++ [d]) → Asd v.ownBlock B w w' → (∀ k, v'.ownBlock = some k → some k = v.ownBlock ∨ w.heap.size ≤ k) → (∀ {y : Value} {b : SetV}, SetAt w y b → SetAt w' y b) → wpList Tryz.prog ops Q rest (a.put o.dst v') w') : wpList Tryz.prog ops Q (o :: rest) a w := by
  obtain ⟨v', w', hr, h1, h2, h3⟩ := run_appU w B o.type v cs hown g d hd hn hB
  refine wl_run hw v' w' ?_ (h v' w' h1 h2 h3 (fun q => hown.carry h2 q))
  unfold execOp
  simp only [ho, resolve, invoke, builtin, Sem.run_bind, Sem.run_pure, Result.andThen_ok, List.map_toArray, List.map_cons, List.map_nil, hs, hx, hr]
theorem yq_mulI (hw : Region.wanted o (yielded ops a.tmps) = true) (x y : Operand) (t : TypeId) (ho : o.op = .binOp .mul 3 x y t) (p q r : Int) (hx : a.eval x = .int .i64 p) (hy : a.eval y = .int .i64 q) (hr : p * q = r) (h0 : -9223372036854775808 ≤ r) (h1 : r ≤ 9223372036854775807) : YieldsIf Tryz.prog ops S o (.int .i64 r) a :=
  Or.inl ⟨hw, fun w hS => by
    subst hr
    simp only [execOp, ho, hx, hy]
    go_simp
    rw [IntKind.wrap_i64]; omega⟩
theorem madeU {w : World} {i0 : TypeInfo} (hi : Tryz.prog.info? 43 = some i0) (hz0 : i0.zero = some SC.zero.val) (hz1 : i0.size = 4) (hz2 : i0.bytes = 64) (N : Nat) (hN : N ≤ 100000) :
    ∃ w', (Instr.makeSlice 31 (.int .i64 0) (.int .i64 (N : Int))).run Tryz.prog w = .ok (.slice (some ⟨w.heap.size, 0, none⟩) 0 N) w' ∧ OwnU w' w.heap.size (.slice (some ⟨w.heap.size, 0, none⟩) 0 N) [] ∧ Below w.heap.size w w' := by
  have hr := run_make (P := Tryz.prog) w 31 43 i0 _ Tryz.underlying31 hi hz0 .i64 .i64 0 N (Int.le_refl _) (by omega) (by rw [hz2]; omega) (by omega)
  obtain ⟨w', hm1, hm2, hm3⟩ := run_make_own (P := Tryz.prog) w w.heap.size 31 43 i0 _ 4 Tryz.underlying31 hi hz0 hz1 .i64 .i64 N (by rw [hz2]; omega) (by unfold maxLen; omega) (Nat.le_refl _)
  refine ⟨w', hm1, ⟨hm2, fun g hg => ?_⟩, (Below.refl _ w).grown hm3 (Nat.le_refl _) (fun k hk => by cases hk)⟩
  obtain rfl : w.heap.size = g := Option.some.inj hg
  rw [hm1] at hr
  injection hr with e1 e2
  refine ⟨_, by rw [e2]; exact heap_new w _, fun x hx => ?_⟩
  exact plq_made _ x hx
theorem wl_makeU {rest : List Oper} {w : World} (hw : Region.wanted o (yielded ops a.tmps) = true) (y x : Operand) (ho : o.op = .makeSlice 31 y x) (hy : a.eval y = .int .i64 0) (N : Nat) (hx : a.eval x = .int .i64 N) (hN : N ≤ 100000)
    (h : ∀ v W, OwnU W w.heap.size v [] → Below w.heap.size w W → wpList Tryz.prog ops Q rest (a.put o.dst v) W) : wpList Tryz.prog ops Q (o :: rest) a w := by
  obtain ⟨i0, hi, hz0, hz1, hz2⟩ := info_parts cInfoT
  obtain ⟨w', h1, h2, h3⟩ := madeU (w := w) hi hz0 hz1 hz2 N hN
  refine wl_run hw _ w' ?_ (h _ w' h2 h3)
  simp only [execOp, ho, hy, hx, Sem.run_bind, h1, Result.andThen_ok, Sem.run_pure]
end
def nilOkQ (v : Value) : Prop := ∀ n c, v = .slice none n c → v = .slice none 0 0
theorem OwnT.nilOkQ {w : World} {B : Nat} {v : Value} {cs : List SC} (h : OwnT w B v cs) : nilOkQ v := by
  rcases h.form with ⟨rfl, rfl⟩ | ⟨g, cap, cur, rfl, _⟩
  · exact fun _ _ _ => rfl
  · intro n c e; cases e
theorem wpList_appRowT {ops : Array Oper} {rest : List Oper} {o : Oper} {a : Act} {Q : Exit → Act → World → Prop} (w : World) (hgd : o.guard = none) (s x : Operand)
    (ho : o.op = .call { callee := .builtin .append, args := #[s, x], argTypes := #[31, 31] })
    (B : Nat) (v u : Value) (l m : List SC) (hs : a.eval s = v) (hown : OwnT w B v l) (hu : a.eval x = u) (hx : ScRow w u m) (hnil : nilOkQ u) (hlen : l.length + m.length ≤ 1000000) (hB : B ≤ w.heap.size)
    (h : ∀ v' w', OwnT w' B v' (l ++ m) → Below B w w' → wpList Tryz.prog ops Q rest (a.put o.dst v') w') : wpList Tryz.prog ops Q (o :: rest) a w := by
  obtain ⟨i0, hi, hz0, hz1, hz2⟩ := info_parts cInfoT
  obtain ⟨_, ad, cap, rfl, hel⟩ := hx
  cases ad with
  | none =>
    have hm : m = [] := by
      cases m with
      | nil => rfl
      | cons r m =>
        obtain ⟨b, off, e, _⟩ := hel 0 (by simp)
        cases e
    subst hm
    refine wpList_append_own_none hgd s x 31 ho B 43 i0 4 Tryz.underlying31 hi v l.length (scCells l) hs hown (hu.trans (hnil _ _ rfl)) ?_
    refine h v w ?_ (Below.refl _ _)
    rw [List.append_nil]; exact hown
  | some ad =>
    refine wpList_append_own w hgd s x 31 ho B 43 i0 _ 4 64 Tryz.underlying31 hi hz0 hz1 hz2 rfl (by decide) v l.length (scCells l) hs hown ad m.length _ (scCells m) hu (by rw [scCells_len]) ?_ (scCells_one _) (by unfold maxLen; omega) (by omega) hB ?_
    · intro j u hj
      have hjl : j < m.length * 4 := by
        have := (List.getElem?_eq_some_iff.1 hj).1
        rwa [scCells_len] at this
      obtain ⟨b, off, e, _, hr⟩ := hel (j / 4) (by omega)
      have h1 := scCells_at m (j / 4) (j % 4) (by omega) (Nat.mod_lt _ (by decide))
      simp at e
      subst e
      rw [Go.WideShapes.add_plain]
      rw [show j / 4 * 4 + j % 4 = j by omega, hj] at h1
      have := hr (j % 4) u h1.symm
      rwa [show off + j / 4 * 4 + j % 4 = off + j by omega] at this
    · intro v' w' h1 h2 _
      refine h v' w' ?_ ((Below.refl _ _).grown h2 hB (fun k hk => (World.ownsRow.lt hown k hk).1))
      unfold OwnT
      rw [List.length_append, scCells_append]
      exact h1
theorem ownT_grown {w : World} {c : Nat} {cs : Array Value} (hc : c ≤ maxLen) (hs : cs.size = c * 4) : OwnT (w.drew.alloc (.cells cs 43)) w.heap.size (.slice (some ⟨w.heap.size, 0, none⟩) 0 c) [] := by
  refine ⟨rfl, Or.inr ⟨w.heap.size, c, cs, rfl, Nat.le_refl _, ?_, Nat.zero_le _, hc, hs, ?_⟩⟩
  · show (w.heap.push _)[w.heap.size]? = _
    simp
  · show List.take (0 * 4) _ = []
    rw [Nat.zero_mul]; rfl
set_option maxHeartbeats 2000000 in
set_option maxRecDepth 100000 in
theorem growT_any (n : Nat) (w : World) (hn : n ≤ 100000) :
    Calls Tryz.prog 61 #[.slice none 0 0, .int .i64 n] w fun r w' => (∃ u, r = .returned u ∧ OwnT w' w.heap.size u []) ∧ Below w.heap.size w w' := by
  rcases Nat.eq_zero_or_pos n with h0 | h0
  · subst h0
    go_enter Tryz.func61, Tryz.ntmps61
    go_wp2
    go_ret
    exact ⟨⟨_, rfl, ownT_nil _ _⟩, Below.refl _ _⟩
  · obtain ⟨i0, hi, hz0, hz1, hz2⟩ := info_parts cInfoT
    replace hz0 : i0.zero = some (.agg SC.zero.lst.toArray) := hz0
    have A := hide (fun ty => Lib.run_append_nil_zeros (P := Tryz.prog) w 31 3 ty 43 i0 _ .i64 .i64 Tryz.underlying31 Tryz.underlying3 hi hz0 n h0 (by rw [hz1]; omega) (by omega) (by rw [hz2]; omega))
    have hc1 := grownCap_ge w n 0 43
    have hc2 := grownCap_le_maxLen w n 0 43 (by unfold maxLen; omega)
    generalize grownCap w n 0 43 = c at *
    have HC2 := hide hc2
    clear hi hz0 hz1 hz2 hc2
    go_enter Tryz.func61, Tryz.ntmps61
    go_wp2_with (at_builtin; refine Lib.wpList_append_run _ rfl _ _ _ _ rfl _ _ rfl rfl _ _ (A.out _) ?_)
    go_ret
    refine ⟨⟨_, rfl, ownT_grown HC2.out ?_⟩, ((Below.refl _ _).drew).alloc (Nat.le_refl _) _⟩
    rw [Array.size_append, size_zeroCells, size_zeroCells, ← Nat.add_mul, show n + (c - n) = c by omega]
    rfl
theorem allSt_append {w : World} {ks ms : List SC} {K M : List SetV} (h : AllSt w ks K) (h' : AllSt w ms M) : AllSt w (ks ++ ms) (K ++ M) := by
  refine ⟨by rw [List.length_append, List.length_append, h.1, h'.1], fun i hi => ?_⟩
  rw [List.length_append] at hi
  by_cases hi' : i < K.length
  · rw [List.getD_eq_getElem?_getD, List.getD_eq_getElem?_getD, List.getElem?_append_left (by rw [h.1]; exact hi'), List.getElem?_append_left hi', ← List.getD_eq_getElem?_getD, ← List.getD_eq_getElem?_getD]
    exact h.2 i hi'
  · rw [List.getD_eq_getElem?_getD, List.getD_eq_getElem?_getD, List.getElem?_append_right (by rw [h.1]; omega), List.getElem?_append_right (by omega), ← List.getD_eq_getElem?_getD, ← List.getD_eq_getElem?_getD, h.1]
    exact h'.2 (i - K.length) (by omega)
theorem SetsAt.row {w : World} {v : Value} {l : List SetV} (h : SetsAt w v l) : ∃ cs, ScRow w v cs ∧ AllSt w cs l := by
  obtain ⟨hl, a, cap, rfl, h⟩ := h
  have key : ∀ i, i < l.length → ∃ s : SC, SetAt w s.val (l.getD i noSet) ∧ ∃ b off, a = some ⟨b, off, none⟩ ∧ b < w.heap.size ∧ w.rangeAt b (off + i * 4) s.lst := fun i hi => by
    obtain ⟨b, off, vi, vs, e, hb, c0, c1, c2, c3, hI, hS⟩ := h i hi
    obtain ⟨ai, ci, rfl⟩ := hI.form
    obtain ⟨aq, cq, rfl⟩ := hS.form
    refine ⟨⟨_, ai, _, ci, _, aq, _, cq⟩, ⟨_, _, rfl, hI, hS⟩, b, off, e, hb, fun j u hu => ?_⟩
    match j, hu with
    | 0, hu => cases hu; exact c0
    | 1, hu => cases hu; exact c1
    | 2, hu => cases hu; exact c2
    | 3, hu => cases hu; exact c3
  have mk : ∀ n, n ≤ l.length → ∃ cs : List SC, cs.length = n ∧ ∀ i, i < n → SetAt w (cs.getD i SC.zero).val (l.getD i noSet) ∧ ∃ b off, a = some ⟨b, off, none⟩ ∧ b < w.heap.size ∧ w.rangeAt b (off + i * 4) (cs.getD i SC.zero).lst := fun n => by
    induction n with
    | zero => exact fun _ => ⟨[], rfl, fun i hi => absurd hi (Nat.not_lt_zero _)⟩
    | succ n ih =>
      intro hn
      obtain ⟨cs, h1, h2⟩ := ih (by omega)
      obtain ⟨s, hs⟩ := key n (by omega)
      refine ⟨cs ++ [s], by simp; omega, fun i hi => ?_⟩
      by_cases e : i < n
      · rw [List.getD_eq_getElem?_getD, List.getElem?_append_left (by omega), ← List.getD_eq_getElem?_getD]
        exact h2 i e
      · obtain rfl : i = cs.length := by omega
        rw [List.getD_eq_getElem?_getD, List.getElem?_append_right (Nat.le_refl _)]
        simp only [Nat.sub_self, List.getElem?_cons_zero, Option.getD_some]
        rw [h1]
        exact hs
  obtain ⟨cs, h1, h2⟩ := mk _ (Nat.le_refl _)
  refine ⟨cs, ⟨by omega, a, cap, by rw [h1], fun i hi => ?_⟩, h1, fun i hi => (h2 i hi).1⟩
  obtain ⟨b, off, e, hb, hr⟩ := (h2 i (by omega)).2
  exact ⟨b, off, e, hb, hr⟩
theorem sets_of_row {w : World} {v : Value} {cs : List SC} {l : List SetV} (h : ScRow w v cs) (ha : AllSt w cs l) : SetsAt w v l := by
  obtain ⟨hl, a, cap, rfl, h⟩ := h
  refine ⟨by rw [← ha.1]; exact hl, a, cap, by rw [ha.1], fun i hi => ?_⟩
  obtain ⟨b, off, e, hb, hr⟩ := h i (by rw [ha.1]; exact hi)
  obtain ⟨vi, vs, e2, hI, hS⟩ := ha.2 i hi
  have f0 := hr 0 _ rfl
  have f1 := hr 1 _ rfl
  have f2 := hr 2 _ rfl
  have f3 := hr 3 _ rfl
  unfold SC.val at e2
  simp only [Value.agg.injEq, Array.mk.injEq, List.cons.injEq, and_true, Value.bool.injEq] at e2
  obtain ⟨e3, e4, e5, e6⟩ := e2
  refine ⟨b, off, vi, vs, e, hb, ?_, ?_, ?_, ?_, hI, hS⟩
  · rw [← e3]; exact f0
  · rw [← e4]; exact f1
  · rw [← e5]; exact f2
  · rw [← e6]; exact f3
end Go.Proofs.YtbaijjclofekcaaGreatDoor
namespace Go.Proofs.YtbaijjclofekcaaGreatDoor
open Go.RowKit
theorem ScRow.form {w : World} {v : Value} {cs : List SC} (h : ScRow w v cs) : ∃ p cap, v = .slice p cs.length cap := by
  obtain ⟨_, a, cap, e, _⟩ := h
  exact ⟨a, cap, e⟩
set_option maxHeartbeats 4000000 in
set_option maxRecDepth 100000 in
theorem concatT_any (g : Nat) (va vb vd : Value) (la lb ld : List SC) (w : World) (hg : w.heap[g]? = some (.cells #[va, vb, vd] 31 (0, 0))) (ha : ScRow w va la) (hb : ScRow w vb lb) (hd : ScRow w vd ld) (na : nilOkQ va) (nb : nilOkQ vb) (nd : nilOkQ vd) (hl : la.length + lb.length + ld.length ≤ 100000) :
    Calls Tryz.prog 39 #[.slice (some ⟨g, 0, none⟩) 3 3] w fun r w' => (∃ u, r = .returned u ∧ OwnT w' w.heap.size u (la ++ lb ++ ld)) ∧ Below w.heap.size w w' := by
  have HA := hide ha
  have HB := hide hb
  have HD := hide hd
  have hlt := lt_heap hg
  have c0 := cell_heap hg 0
  have c1 := cell_heap hg 1
  have c2 := cell_heap hg 2
  simp only [List.getElem?_toArray, List.getElem?_cons_zero, List.getElem?_cons_succ] at c0 c1 c2
  obtain ⟨pa, ca, rfl⟩ := ha.form
  obtain ⟨pb, cb, rfl⟩ := hb.form
  obtain ⟨pd, cd, rfl⟩ := hd.form
  have HL := hide hl
  clear ha hb hd hg
  have GR := hide (growT_any (la.length + lb.length + ld.length) w hl)
  obtain ⟨x, hx⟩ : ∃ x : Nat, x = la.length := ⟨_, rfl⟩
  obtain ⟨y, hy⟩ : ∃ y : Nat, y = lb.length := ⟨_, rfl⟩
  obtain ⟨z, hz⟩ : ∃ z : Nat, z = ld.length := ⟨_, rfl⟩
  rw [← hx] at hl HL c0 HA GR na
  rw [← hy] at hl HL c1 HB GR nb
  rw [← hz] at hl HL c2 HD GR nd
  have HX := hide hx
  have HY := hide hy
  have HZ := hide hz
  clear hx hy hz
  go_enter Tryz.func39, Tryz.ntmps39
  go_wp2
  go_loopw [3, 11] (fun s i wr => wr = w ∧ ((i = .int .i64 0 ∧ s = .int .i64 0) ∨ (i = .int .i64 1 ∧ s = .int .i64 (x : Int)) ∨ (i = .int .i64 2 ∧ s = .int .i64 ((x : Int) + (y : Int))) ∨ (i = .int .i64 3 ∧ s = .int .i64 ((x : Int) + (y : Int) + (z : Int))))) (fun _ i _ => 3 - (intOf i).toNat)
  case atStart => exact ⟨rfl, Or.inl ⟨rfl, rfl⟩⟩
  case round =>
    obtain ⟨rfl, ⟨rfl, rfl⟩ | ⟨rfl, rfl⟩ | ⟨rfl, rfl⟩ | ⟨rfl, rfl⟩⟩ := hrel
    · go_wp2
      exact ⟨⟨trivial, Or.inr (Or.inl ⟨rfl, by first | rfl | simp⟩)⟩, by simp [intOf]⟩
    · go_wp2
      exact ⟨⟨trivial, Or.inr (Or.inr (Or.inl ⟨rfl, rfl⟩))⟩, by simp [intOf]⟩
    · go_wp2
      exact ⟨⟨trivial, Or.inr (Or.inr (Or.inr ⟨rfl, rfl⟩))⟩, by simp [intOf]⟩
    · rw [Int.natCast_add, Int.natCast_add] at GR
      go_wp2_with fail
      refine (unhide GR).mono ?_
      rintro r w1 ⟨⟨u1, rfl, o1⟩, b1⟩
      have c0' := (b1.cell (p := ⟨g, 0, none⟩) hlt).trans c0
      have O1 := hide o1
      have B1 := hide b1
      clear GR o1 b1
      go_wp2
      go_loopw [6, 27] (fun o i wr' => Hid (Below wr.heap.size wr wr') ∧ ((i = .int .i64 0 ∧ Hid (OwnT wr' wr.heap.size o [])) ∨ (i = .int .i64 1 ∧ Hid (OwnT wr' wr.heap.size o la)) ∨ (i = .int .i64 2 ∧ Hid (OwnT wr' wr.heap.size o (la ++ lb))) ∨ (i = .int .i64 3 ∧ Hid (OwnT wr' wr.heap.size o (la ++ lb ++ ld))))) (fun _ i _ => 3 - (intOf i).toNat)
      case atStart => exact ⟨B1, Or.inl ⟨rfl, O1⟩⟩
      case round =>
        clear c0' B1 O1
        obtain ⟨HW, ⟨rfl, HO⟩ | ⟨rfl, HO⟩ | ⟨rfl, HO⟩ | ⟨rfl, HO⟩⟩ := hrel
        · have d0 := (HW.out.cell (p := ⟨g, 0, none⟩) hlt).trans c0
          have szW := HW.out.size
          have LE : Hid (([] : List SC).length + la.length ≤ 1000000) := hide (by have := HX.out; have := HL.out; simp; omega)
          have VA := hide (HA.out.on HW.out)
          go_wp2_with (at_builtin; refine wpList_appRowT _ rfl _ _ rfl _ _ _ _ la rfl HO.out rfl VA.out na LE.out szW ?_; intro v8 w8 hO8 hb8; have O8 := hide hO8; have B8 := hide (HW.out.trans hb8); clear hO8 hb8)
          rw [List.nil_append] at O8
          exact ⟨⟨B8, Or.inr (Or.inl ⟨rfl, O8⟩)⟩, by simp [intOf]⟩
        · have d0 := (HW.out.cell (p := ⟨g, 1, none⟩) hlt).trans c1
          have szW := HW.out.size
          have LE : Hid (la.length + lb.length ≤ 1000000) := hide (by have := HX.out; have := HY.out; have := HL.out; omega)
          have VA := hide (HB.out.on HW.out)
          go_wp2_with (at_builtin; refine wpList_appRowT _ rfl _ _ rfl _ _ _ _ lb rfl HO.out rfl VA.out nb LE.out szW ?_; intro v8 w8 hO8 hb8; have O8 := hide hO8; have B8 := hide (HW.out.trans hb8); clear hO8 hb8)
          exact ⟨⟨B8, Or.inr (Or.inr (Or.inl ⟨rfl, O8⟩))⟩, by simp [intOf]⟩
        · have d0 := (HW.out.cell (p := ⟨g, 2, none⟩) hlt).trans c2
          have szW := HW.out.size
          have LE : Hid ((la ++ lb).length + ld.length ≤ 1000000) := hide (by have := HX.out; have := HY.out; have := HZ.out; have := HL.out; rw [List.length_append]; omega)
          have VA := hide (HD.out.on HW.out)
          go_wp2_with (at_builtin; refine wpList_appRowT _ rfl _ _ rfl _ _ _ _ ld rfl HO.out rfl VA.out nd LE.out szW ?_; intro v8 w8 hO8 hb8; have O8 := hide hO8; have B8 := hide (HW.out.trans hb8); clear hO8 hb8)
          exact ⟨⟨B8, Or.inr (Or.inr (Or.inr (⟨rfl, O8⟩)))⟩, by simp [intOf]⟩
        · go_wp2
          go_ret
          exact ⟨⟨_, rfl, HO.out⟩, HW.out⟩
section
variable {ops : Array Oper} {Q : Exit → Act → World → Prop} {o : Oper} {a : Act}
theorem wl_rows3 {rest : List Oper} {w : World} (hw : Region.wanted o (yielded ops a.tmps) = true) (x y z : Operand) (ho : o.op = .buildSlice 97 3 #[(0, x), (1, y), (2, z)]) {p q r : Option Addr} {n m l c d e : Nat} (hx : a.eval x = .slice p n c) (hy : a.eval y = .slice q m d) (hz : a.eval z = .slice r l e)
    (h : ∀ W g, W.heap[g]? = some (.cells #[.slice p n c, .slice q m d, .slice r l e] 31 (0, 0)) → Below w.heap.size w W → wpList Tryz.prog ops Q rest (a.put o.dst (.slice (some ⟨g, 0, none⟩) 3 3)) W) : wpList Tryz.prog ops Q (o :: rest) a w := by
  refine wl_run hw (.slice (some ⟨w.heap.size, 0, none⟩) 3 3) (w.alloc (.cells #[.slice p n c, .slice q m d, .slice r l e] 31)) ?_ (h _ _ (heap_new _ _) ((Below.refl _ w).alloc (Nat.le_refl _) _))
  simp only [execOp, ho, List.map_toArray, List.map_cons, List.map_nil, hx, hy, hz]
  go_simp
end
end Go.Proofs.YtbaijjclofekcaaGreatDoor
namespace Go.Proofs.YtbaijjclofekcaaGreatDoor
open Go.RowKit
theorem OwnR.lt {w : World} {B : Nat} {v : Value} {l : List Rg} (h : OwnR w B v l) : ∀ j, v.ownBlock = some j → j ≠ w.heap.size := fun j hj => Nat.ne_of_lt (World.ownsRow.lt h j hj).2
end Go.Proofs.YtbaijjclofekcaaGreatDoor
namespace Go.Proofs.YtbaijjclofekcaaGreatDoor
open Go.RowKit
def OwnS (w : World) (B : Nat) (v : Value) (l : List ByteArray) : Prop := w.ownsRow B 9 1 v l.length (l.map Value.string)
theorem OwnS.alloc {w : World} {B : Nat} {v : Value} {l : List ByteArray} (h : OwnS w B v l) (o : Obj) : OwnS (w.alloc o) B v l := World.ownsRow.alloc h o
theorem OwnS.drewN {w : World} {B : Nat} {v : Value} {l : List ByteArray} (h : OwnS w B v l) (n : Nat) : OwnS (w.drewN n) B v l := h
theorem OwnS.grownB {w w' : World} {B : Nat} {v : Value} {l : List ByteArray} (h : OwnS w B v l) (hB : B ≤ w.heap.size) (hg : w.grownBy w' v.ownBlock) : Below B w w' :=
  (Below.refl _ _).grown hg hB (fun k hk => (World.ownsRow.lt h k hk).1)
theorem OwnS.on {w w' : World} {B : Nat} {v : Value} {l : List ByteArray} (h : OwnS w B v l) (hb : Below w.heap.size w w') : OwnS w' B v l :=
  World.ownsRow.kept (row := none) h ⟨hb.os, hb.tape, hb.output, hb.size, fun k hk _ => hb.block k hk⟩ (by cases v.ownBlock <;> simp)
theorem ownS_none (w : World) (B : Nat) : OwnS w B (.slice none 0 0) [] := ⟨rfl, Or.inl ⟨rfl, rfl⟩⟩
theorem OwnS.cellAt {w : World} {B g n cap : Nat} {l : List ByteArray} (h : OwnS w B (.slice (some ⟨g, 0, none⟩) n cap) l) (i : Nat) (hi : i < l.length) : w.cell? ⟨g, i, none⟩ = some (.string (l.getD i ⟨#[]⟩)) := by
  obtain ⟨hl, hr⟩ := h
  rcases hr with ⟨h0, _⟩ | ⟨g', cap', cur, h1, h2, h3, h4, h5, h6, h7⟩
  · cases h0
  · injection h1 with e1 e2 e3
    injection e1 with e1
    injection e1 with e1
    subst e1
    have hc : w.cell? ⟨g, i, none⟩ = (l.map Value.string)[i]? := by
      rw [cell_heap h3, ← h7, List.getElem?_take, if_pos (by omega)]
      simp
    rw [hc, List.getElem?_map, List.getElem?_eq_getElem hi, List.getD_eq_getElem?_getD, List.getElem?_eq_getElem hi]
    rfl
theorem OwnS.strs {w : World} {B : Nat} {v : Value} {l : List ByteArray} (h : OwnS w B v l) (hi : ∀ s ∈ l, s.size ≤ 9223372036854775807) (hl : l.length ≤ 9223372036854775807) : StrsAt w v l := by
  refine ⟨hi, hl, ?_⟩
  rcases h.2 with ⟨e, h0⟩ | ⟨g, cap, cur, e, _, hg, hc, _⟩
  · exact ⟨none, 0, by rw [e, h0]; rfl, fun i hi' => by omega⟩
  · obtain ⟨sp, hsp⟩ := capOf_of (a := some ⟨g, 0, none⟩) hc (fun e => by cases e)
    subst e
    refine ⟨_, sp, by rw [← hsp], fun i hi' => ⟨g, 0, rfl, lt_heap hg, ?_⟩⟩
    rw [Nat.zero_add]; exact h.cellAt i hi'
end Go.Proofs.YtbaijjclofekcaaGreatDoor
namespace Go.Proofs.YtbaijjclofekcaaGreatDoor
open Go.RowKit
section
variable {ops : Array Oper} {S : World → Prop} {o : Oper} {a : Act}
theorem yt_lenR (hw : Region.wanted o (yielded ops a.tmps) = true) (x : Operand) (ho : o.op = .call { callee := .builtin .len, args := #[x], argTypes := #[40] }) (p : Option Addr) (n c : Nat) (hx : a.eval x = .slice p n c) : YieldsIf Tryz.prog ops S o (.int .i64 n) a :=
  Or.inl ⟨hw, fun w hS => by
    unfold execOp
    simp only [ho, resolve, invoke, builtin, Sem.run_bind, Sem.run_pure, Result.andThen_ok, List.map_toArray, List.map_cons, List.map_nil, hx]
    go_simp⟩
theorem yt_lenT (hw : Region.wanted o (yielded ops a.tmps) = true) (x : Operand) (ho : o.op = .call { callee := .builtin .len, args := #[x], argTypes := #[41] }) (p : Option Addr) (n c : Nat) (hx : a.eval x = .slice p n c) : YieldsIf Tryz.prog ops S o (.int .i64 n) a :=
  Or.inl ⟨hw, fun w hS => by
    unfold execOp
    simp only [ho, resolve, invoke, builtin, Sem.run_bind, Sem.run_pure, Result.andThen_ok, List.map_toArray, List.map_cons, List.map_nil, hx]
    go_simp⟩
theorem yt_lenQ (hw : Region.wanted o (yielded ops a.tmps) = true) (x : Operand) (ho : o.op = .call { callee := .builtin .len, args := #[x], argTypes := #[31] }) (p : Option Addr) (n c : Nat) (hx : a.eval x = .slice p n c) : YieldsIf Tryz.prog ops S o (.int .i64 n) a :=
  Or.inl ⟨hw, fun w hS => by
    unfold execOp
    simp only [ho, resolve, invoke, builtin, Sem.run_bind, Sem.run_pure, Result.andThen_ok, List.map_toArray, List.map_cons, List.map_nil, hx]
    go_simp⟩
theorem yt_lenN (hw : Region.wanted o (yielded ops a.tmps) = true) (x : Operand) (ho : o.op = .call { callee := .builtin .len, args := #[x], argTypes := #[99] }) (p : Option Addr) (n c : Nat) (hx : a.eval x = .slice p n c) : YieldsIf Tryz.prog ops S o (.int .i64 n) a :=
  Or.inl ⟨hw, fun w hS => by
    unfold execOp
    simp only [ho, resolve, invoke, builtin, Sem.run_bind, Sem.run_pure, Result.andThen_ok, List.map_toArray, List.map_cons, List.map_nil, hx]
    go_simp⟩
theorem yt_lenV (hw : Region.wanted o (yielded ops a.tmps) = true) (x : Operand) (ho : o.op = .call { callee := .builtin .len, args := #[x], argTypes := #[46] }) (p : Option Addr) (n c : Nat) (hx : a.eval x = .slice p n c) : YieldsIf Tryz.prog ops S o (.int .i64 n) a :=
  Or.inl ⟨hw, fun w hS => by
    unfold execOp
    simp only [ho, resolve, invoke, builtin, Sem.run_bind, Sem.run_pure, Result.andThen_ok, List.map_toArray, List.map_cons, List.map_nil, hx]
    go_simp⟩
set_option maxRecDepth 100000 in
theorem yt_atR (hw : Region.wanted o (yielded ops a.tmps) = true) (x y : Operand) (ho : o.op = .indexAddr 40 x y) (b off n c i : Nat) (hx : a.eval x = .slice (some ⟨b, off, none⟩) n c) (hy : a.eval y = .int .i64 i) (hi : i < n) : YieldsIf Tryz.prog ops S o (.pointer (some ⟨b, off + i * 2, none⟩)) a :=
  Or.inl ⟨hw, fun w hS => by
    simp only [execOp, ho, hx, hy]
    go_simp⟩
set_option maxRecDepth 100000 in
theorem yt_atT (hw : Region.wanted o (yielded ops a.tmps) = true) (x y : Operand) (ho : o.op = .indexAddr 41 x y) (b off n c i : Nat) (hx : a.eval x = .slice (some ⟨b, off, none⟩) n c) (hy : a.eval y = .int .i64 i) (hi : i < n) : YieldsIf Tryz.prog ops S o (.pointer (some ⟨b, off + i * 1, none⟩)) a :=
  Or.inl ⟨hw, fun w hS => by
    simp only [execOp, ho, hx, hy]
    go_simp⟩
set_option maxRecDepth 100000 in
theorem yt_atQ (hw : Region.wanted o (yielded ops a.tmps) = true) (x y : Operand) (ho : o.op = .indexAddr 31 x y) (b off n c i : Nat) (hx : a.eval x = .slice (some ⟨b, off, none⟩) n c) (hy : a.eval y = .int .i64 i) (hi : i < n) : YieldsIf Tryz.prog ops S o (.pointer (some ⟨b, off + i * 4, none⟩)) a :=
  Or.inl ⟨hw, fun w hS => by
    simp only [execOp, ho, hx, hy]
    go_simp⟩
set_option maxRecDepth 100000 in
theorem yt_atN (hw : Region.wanted o (yielded ops a.tmps) = true) (x y : Operand) (ho : o.op = .indexAddr 99 x y) (b off n c i : Nat) (hx : a.eval x = .slice (some ⟨b, off, none⟩) n c) (hy : a.eval y = .int .i64 i) (hi : i < n) : YieldsIf Tryz.prog ops S o (.pointer (some ⟨b, off + i * 1, none⟩)) a :=
  Or.inl ⟨hw, fun w hS => by
    simp only [execOp, ho, hx, hy]
    go_simp⟩
set_option maxRecDepth 100000 in
theorem yt_atV (hw : Region.wanted o (yielded ops a.tmps) = true) (x y : Operand) (ho : o.op = .indexAddr 46 x y) (b off n c i : Nat) (hx : a.eval x = .slice (some ⟨b, off, none⟩) n c) (hy : a.eval y = .int .i64 i) (hi : i < n) : YieldsIf Tryz.prog ops S o (.pointer (some ⟨b, off + i * 12, none⟩)) a :=
  Or.inl ⟨hw, fun w hS => by
    simp only [execOp, ho, hx, hy]
    go_simp⟩
theorem yt_ldRg (hw : Region.wanted o (yielded ops a.tmps) = true) (x : Operand) (ho : o.op = .load 54 x) (g : Nat) (k : Nat) (hx : a.eval x = .pointer (some ⟨g, k, none⟩)) (p q : Int)
    (h : ∀ w, S w → w.cell? ⟨g, k, none⟩ = some (.int .i64 p) ∧ w.cell? ⟨g, k + 1, none⟩ = some (.int .i64 q)) : YieldsIf Tryz.prog ops S o (.agg #[.int .i64 p, .int .i64 q]) a :=
  Or.inl ⟨hw, fun w hS => by
    obtain ⟨c0, c1⟩ := h w hS
    simp only [execOp, ho, hx]
    go_simp⟩
set_option maxRecDepth 100000 in
theorem yq_bV0 (hw : Region.wanted o (yielded ops a.tmps) = true) (ho : o.op = .build 24 #[])   : YieldsIf Tryz.prog ops S o (vVal (0, 0, ⟨#[]⟩)) a :=
  Or.inl ⟨hw, fun w _ => by
    simp only [execOp, ho, List.map_toArray, List.map_cons, List.map_nil, vVal, SC.val]
    go_simp⟩
set_option maxRecDepth 100000 in
theorem yq_bV1 (hw : Region.wanted o (yielded ops a.tmps) = true) (x : Operand) (ho : o.op = .build 24 #[(0, x)]) (k : Int) (hx : a.eval x = .int .i64 k) : YieldsIf Tryz.prog ops S o (vVal (k, 0, ⟨#[]⟩)) a :=
  Or.inl ⟨hw, fun w _ => by
    simp only [execOp, ho, List.map_toArray, List.map_cons, List.map_nil, hx, vVal, SC.val]
    go_simp⟩
set_option maxRecDepth 100000 in
theorem yq_bV2 (hw : Region.wanted o (yielded ops a.tmps) = true) (x y : Operand) (ho : o.op = .build 24 #[(0, x), (1, y)]) (k z : Int) (hx : a.eval x = .int .i64 k) (hy : a.eval y = .int .i64 z) : YieldsIf Tryz.prog ops S o (vVal (k, z, ⟨#[]⟩)) a :=
  Or.inl ⟨hw, fun w _ => by
    simp only [execOp, ho, List.map_toArray, List.map_cons, List.map_nil, hx, hy, vVal, SC.val]
    go_simp⟩
set_option maxRecDepth 100000 in
theorem yq_bV3 (hw : Region.wanted o (yielded ops a.tmps) = true) (x y : Operand) (ho : o.op = .build 24 #[(0, x), (2, y)]) (k : Int) (s : ByteArray) (hx : a.eval x = .int .i64 k) (hy : a.eval y = .string s) : YieldsIf Tryz.prog ops S o (vVal (k, 0, s)) a :=
  Or.inl ⟨hw, fun w _ => by
    simp only [execOp, ho, List.map_toArray, List.map_cons, List.map_nil, hx, hy, vVal, SC.val]
    go_simp⟩
set_option maxRecDepth 100000 in
theorem yq_bS0 (hw : Region.wanted o (yielded ops a.tmps) = true) (x : Operand) (ho : o.op = .build 43 #[(0, x)]) (b : Bool) (hx : a.eval x = .bool b) : YieldsIf Tryz.prog ops S o (SC.val ⟨b, none, 0, 0, false, none, 0, 0⟩) a :=
  Or.inl ⟨hw, fun w _ => by
    simp only [execOp, ho, List.map_toArray, List.map_cons, List.map_nil, hx, vVal, SC.val]
    go_simp⟩
set_option maxRecDepth 100000 in
theorem yq_bS1 (hw : Region.wanted o (yielded ops a.tmps) = true) (x : Operand) (ho : o.op = .build 43 #[(1, x)]) (p : Option Addr) (n c : Nat) (hx : a.eval x = .slice p n c) : YieldsIf Tryz.prog ops S o (SC.val ⟨false, p, n, c, false, none, 0, 0⟩) a :=
  Or.inl ⟨hw, fun w _ => by
    simp only [execOp, ho, List.map_toArray, List.map_cons, List.map_nil, hx, vVal, SC.val]
    go_simp⟩
set_option maxRecDepth 100000 in
theorem yq_bS3 (hw : Region.wanted o (yielded ops a.tmps) = true) (x : Operand) (ho : o.op = .build 43 #[(3, x)]) (p : Option Addr) (n c : Nat) (hx : a.eval x = .slice p n c) : YieldsIf Tryz.prog ops S o (SC.val ⟨false, none, 0, 0, false, p, n, c⟩) a :=
  Or.inl ⟨hw, fun w _ => by
    simp only [execOp, ho, List.map_toArray, List.map_cons, List.map_nil, hx, vVal, SC.val]
    go_simp⟩
set_option maxRecDepth 100000 in
theorem yq_bS23 (hw : Region.wanted o (yielded ops a.tmps) = true) (x y : Operand) (ho : o.op = .build 43 #[(2, x), (3, y)]) (b : Bool) (p : Option Addr) (n c : Nat) (hx : a.eval x = .bool b) (hy : a.eval y = .slice p n c) : YieldsIf Tryz.prog ops S o (SC.val ⟨false, none, 0, 0, b, p, n, c⟩) a :=
  Or.inl ⟨hw, fun w _ => by
    simp only [execOp, ho, List.map_toArray, List.map_cons, List.map_nil, hx, hy, vVal, SC.val]
    go_simp⟩
end
def RowN (w : World) (B : Nat) (v : Value) (l : List Int) : Prop := w.ownsRow B 3 1 v l.length (l.map (Value.int .i64))
theorem RowN.on {w w' : World} {B : Nat} {v : Value} {l : List Int} (h : RowN w B v l) (hb : Below w.heap.size w w') : RowN w' B v l := ownsRow_on h hb
theorem cInfoN : (Tryz.prog.info? 3).map (fun i => (i.zero, i.size, i.bytes)) = some (some (.int .i64 0), 1, 8) := by kernel_rfl
theorem rn_row1N {o : Oper} {w : World} (a : Act) (x : Operand) (ho : o.op = .buildSlice 99 1 #[(0, x)]) (d : Int) (hx : a.eval x = .int .i64 d) : (execOp a.eval o).run Tryz.prog w = .ok (.value (.slice (some ⟨w.heap.size, 0, none⟩) 1 1)) (w.alloc (.cells #[.int .i64 d] 3 (0, 0))) := by
  simp only [execOp, ho, List.map_toArray, List.map_cons, List.map_nil, hx]
  go_simp
theorem rn_appN {o : Oper} {w : World} (a : Act) (s x : Operand) (ho : o.op = .call { callee := .builtin .append, args := #[s, x], argTypes := #[99, 99] }) (B : Nat) (v : Value) (l : List Int) (hs : a.eval s = v) (hown : RowN w B v l)
    (g : Nat) (d : Int) (hx : a.eval x = .slice (some ⟨g, 0, none⟩) 1 1) (hd : w.heap[g]? = some (.cells #[.int .i64 d] 3 (0, 0))) (hn : l.length ≤ 1000000) (hB : B ≤ w.heap.size) :
    ∃ v' w', (execOp a.eval o).run Tryz.prog w = .ok (.value v') w' ∧ RowN w' B v' (l ++ [d]) ∧ w.grownBy w' v.ownBlock := by
  obtain ⟨i0, hi, hz0, hz1, hz2⟩ := info_parts cInfoN
  obtain ⟨v', w', hr, h2, h3, h4⟩ := app_where w B 99 o.type 3 i0 _ 1 8 Tryz.underlying99 hi hz0 hz1 hz2 rfl (by decide) (by decide) v l.length _ hown ⟨g, 0, none⟩ 1 [.int .i64 d] (by rfl) (fun j u hu => by
    rw [Addr.add_mid, Nat.zero_add, cell_heap hd]
    exact List.getElem?_toArray.trans hu) (fun u hu => by
      simp only [List.mem_cons, List.not_mem_nil, or_false] at hu; rw [hu]; rfl) hn hB
  refine ⟨v', w', ?_, ?_, h3⟩
  · unfold execOp
    simp only [ho, resolve, invoke, builtin, Sem.run_bind, Sem.run_pure, Result.andThen_ok, List.map_toArray, List.map_cons, List.map_nil, hs, hx, hr]
  · show w'.ownsRow B 3 1 v' (l ++ [d]).length ((l ++ [d]).map (Value.int .i64))
    rw [List.map_append, List.length_append]
    exact h2
theorem rn_appRowR {o : Oper} {w : World} (a : Act) (s x : Operand) (ho : o.op = .call { callee := .builtin .append, args := #[s, x], argTypes := #[40, 40] }) (B : Nat) (v u : Value) (l m : List Rg) (hs : a.eval s = v) (hown : OwnR w B v l)
    (hx : a.eval x = u) (hm : RngsAt w u m) (hn : l.length + m.length ≤ 1000000) (hB : B ≤ w.heap.size) :
    ∃ v' w', (execOp a.eval o).run Tryz.prog w = .ok (.value v') w' ∧ OwnR w' B v' (l ++ m) ∧ w.grownBy w' v.ownBlock := by
  obtain ⟨i0, hi, hz0, hz1, hz2⟩ := info_parts infoRg
  have hrm := hm
  obtain ⟨_, _, ad, cap, rfl, hel⟩ := hm
  cases ad with
  | none =>
    obtain ⟨e1, e2⟩ := hrm.room.2 rfl
    have hm0 : m = [] := List.length_eq_zero_iff.1 e1
    subst hm0
    have hr := run_append_owned_none (P := Tryz.prog) (w := w) B 40 o.type 54 i0 2 Tryz.underlying40 hi v l.length (rgCells l) hown
    refine ⟨v, w, ?_, by rw [List.append_nil]; exact hown, grown_refl _ _⟩
    unfold execOp
    simp only [ho, resolve, invoke, builtin, Sem.run_bind, Sem.run_pure, Result.andThen_ok, List.map_toArray, List.map_cons, List.map_nil, hs, hx, List.length_nil, capOf]
    rw [hr]
    rfl
  | some ad =>
    obtain ⟨v', w', hr, h2, h3, _⟩ := run_append_own (P := Tryz.prog) w B 40 o.type 54 i0 _ 2 16 Tryz.underlying40 hi hz0 hz1 hz2 rfl (by decide) v l.length (rgCells l) hown ad m.length (capOf (some ad) m.length cap) (rgCells m) (by rw [rgCells_len]) (fun j u hj => by
      have hjl : j < m.length * 2 := by
        have := (List.getElem?_eq_some_iff.1 hj).1
        rwa [rgCells_len] at this
      obtain ⟨b, off, e, _, c0, c1⟩ := hel (j / 2) (by omega)
      obtain ⟨a0, a1⟩ := rgCells_at m (j / 2) (by omega)
      simp at e
      subst e
      rw [Go.WideShapes.add_plain]
      rcases Nat.mod_two_eq_zero_or_one j with h | h
      · rw [show j = j / 2 * 2 by omega] at hj ⊢
        rw [← hj, a0]
        exact c0
      · rw [show j = j / 2 * 2 + 1 by omega] at hj ⊢
        rw [← hj, a1, ← Nat.add_assoc]
        exact c1) (rgCells_one m) (by unfold maxLen; omega) (by omega) hB
    refine ⟨v', w', ?_, ?_, h3⟩
    · unfold execOp
      simp only [ho, resolve, invoke, builtin, Sem.run_bind, Sem.run_pure, Result.andThen_ok, List.map_toArray, List.map_cons, List.map_nil, hs, hx, hr]
    · show w'.ownsRow B 54 2 v' (l ++ m).length (rgCells (l ++ m))
      rw [rgCells_append, List.length_append]
      exact h2
theorem rn_appRowS {o : Oper} {w : World} (a : Act) (s x : Operand) (ho : o.op = .call { callee := .builtin .append, args := #[s, x], argTypes := #[41, 41] }) (B : Nat) (v u : Value) (l m : List ByteArray) (hs : a.eval s = v) (hown : OwnS w B v l)
    (hx : a.eval x = u) (hm : StrsAt w u m) (hn : l.length + m.length ≤ 1000000) (hB : B ≤ w.heap.size) :
    ∃ v' w', (execOp a.eval o).run Tryz.prog w = .ok (.value v') w' ∧ OwnS w' B v' (l ++ m) ∧ w.grownBy w' v.ownBlock := by
  obtain ⟨i0, hi, hz0, hz1, hz2⟩ := info_parts cInfoS
  have hrm := hm
  obtain ⟨_, _, ad, cap, rfl, hel⟩ := hm
  cases ad with
  | none =>
    obtain ⟨e1, e2⟩ := hrm.room.2 rfl
    have hm0 : m = [] := List.length_eq_zero_iff.1 e1
    subst hm0
    have hr := run_append_owned_none (P := Tryz.prog) (w := w) B 41 o.type 9 i0 1 Tryz.underlying41 hi v l.length (l.map Value.string) hown
    refine ⟨v, w, ?_, by rw [List.append_nil]; exact hown, grown_refl _ _⟩
    unfold execOp
    simp only [ho, resolve, invoke, builtin, Sem.run_bind, Sem.run_pure, Result.andThen_ok, List.map_toArray, List.map_cons, List.map_nil, hs, hx, List.length_nil, capOf]
    rw [hr]
    rfl
  | some ad =>
    obtain ⟨v', w', hr, h2, h3, _⟩ := run_append_own (P := Tryz.prog) w B 41 o.type 9 i0 _ 1 16 Tryz.underlying41 hi hz0 hz1 hz2 rfl (by decide) v l.length (l.map Value.string) hown ad m.length (capOf (some ad) m.length cap) (m.map Value.string) (by simp) (fun j u hj => by
      have hjl : j < m.length := by
        have := (List.getElem?_eq_some_iff.1 hj).1
        simpa using this
      obtain ⟨b, off, e, _, c0⟩ := hel j hjl
      simp at e
      subst e
      rw [Go.WideShapes.add_plain, c0, ← hj, List.getElem?_map, List.getElem?_eq_getElem hjl, List.getD_eq_getElem?_getD, List.getElem?_eq_getElem hjl]
      rfl) (fun u hu => by
      obtain ⟨s, _, rfl⟩ := List.mem_map.1 hu
      rfl) (by unfold maxLen; omega) (by omega) hB
    refine ⟨v', w', ?_, ?_, h3⟩
    · unfold execOp
      simp only [ho, resolve, invoke, builtin, Sem.run_bind, Sem.run_pure, Result.andThen_ok, List.map_toArray, List.map_cons, List.map_nil, hs, hx, hr]
    · show w'.ownsRow B 9 1 v' (l ++ m).length ((l ++ m).map Value.string)
      rw [List.map_append, List.length_append]
      exact h2
theorem rn_row1Q {o : Oper} {w : World} (a : Act) (x : Operand) (ho : o.op = .buildSlice 31 1 #[(0, x)]) (d : SC) (hx : a.eval x = d.val) : (execOp a.eval o).run Tryz.prog w = .ok (.value (.slice (some ⟨w.heap.size, 0, none⟩) 1 1)) (w.alloc (scObj d)) := by
  simp only [execOp, ho, List.map_toArray, List.map_cons, List.map_nil, hx, SC.val, scObj, SC.lst]
  go_simp
section
variable {ops : Array Oper} {Q : Exit → Act → World → Prop} {o : Oper} {a : Act}
theorem wq_row1Q {rest : List Oper} {w : World} (hw : Region.wanted o (yielded ops a.tmps) = true) (x : Operand) (ho : o.op = .buildSlice 31 1 #[(0, x)]) (d : SC) (hx : a.eval x = d.val)
    (h : ∀ W g, w.heap.size ≤ g → StIn W g d → Below w.heap.size w W → wpList Tryz.prog ops Q rest (a.put o.dst (.slice (some ⟨g, 0, none⟩) 1 1)) W) : wpList Tryz.prog ops Q (o :: rest) a w :=
  wl_run hw _ _ (rn_row1Q a x ho d hx) (h _ _ (Nat.le_refl _) (heap_new _ _) ((Below.refl _ w).alloc (Nat.le_refl _) _))
theorem wq_row1N {rest : List Oper} {w : World} (hw : Region.wanted o (yielded ops a.tmps) = true) (x : Operand) (ho : o.op = .buildSlice 99 1 #[(0, x)]) (d : Int) (hx : a.eval x = .int .i64 d)
    (h : ∀ W g, w.heap.size ≤ g → W.heap[g]? = some (.cells #[.int .i64 d] 3 (0, 0)) → Below w.heap.size w W → RowN W w.heap.size (.slice (some ⟨g, 0, none⟩) 1 1) [d] → wpList Tryz.prog ops Q rest (a.put o.dst (.slice (some ⟨g, 0, none⟩) 1 1)) W) : wpList Tryz.prog ops Q (o :: rest) a w :=
  wl_run hw _ _ (rn_row1N a x ho d hx) (h _ _ (Nat.le_refl _) (heap_new _ _) ((Below.refl _ w).alloc (Nat.le_refl _) _) ⟨rfl, Or.inr ⟨_, 1, _, rfl, Nat.le_refl _, heap_new _ _, Nat.le_refl _, by unfold maxLen; omega, rfl, rfl⟩⟩)
theorem wq_appN {rest : List Oper} {w : World} (hw : Region.wanted o (yielded ops a.tmps) = true) (s x : Operand) (ho : o.op = .call { callee := .builtin .append, args := #[s, x], argTypes := #[99, 99] }) (B : Nat) (v : Value) (l : List Int) (hs : a.eval s = v) (hown : RowN w B v l)
    (g : Nat) (d : Int) (hx : a.eval x = .slice (some ⟨g, 0, none⟩) 1 1) (hd : w.heap[g]? = some (.cells #[.int .i64 d] 3 (0, 0))) (hn : l.length ≤ 1000000) (hB : B ≤ w.heap.size)
    (h : ∀ v' W, RowN W B v' (l ++ [d]) → w.grownBy W v.ownBlock → wpList Tryz.prog ops Q rest (a.put o.dst v') W) : wpList Tryz.prog ops Q (o :: rest) a w := by
  obtain ⟨v', w', hr, h1, h2⟩ := rn_appN a s x ho B v l hs hown g d hx hd hn hB
  exact wl_run hw v' w' hr (h v' w' h1 h2)
theorem wq_appRowR {rest : List Oper} {w : World} (hw : Region.wanted o (yielded ops a.tmps) = true) (s x : Operand) (ho : o.op = .call { callee := .builtin .append, args := #[s, x], argTypes := #[40, 40] }) (B : Nat) (v u : Value) (l m : List Rg) (hs : a.eval s = v) (hown : OwnR w B v l)
    (hx : a.eval x = u) (hm : RngsAt w u m) (hn : l.length + m.length ≤ 1000000) (hB : B ≤ w.heap.size)
    (h : ∀ v' W, OwnR W B v' (l ++ m) → w.grownBy W v.ownBlock → wpList Tryz.prog ops Q rest (a.put o.dst v') W) : wpList Tryz.prog ops Q (o :: rest) a w := by
  obtain ⟨v', w', hr, h1, h2⟩ := rn_appRowR a s x ho B v u l m hs hown hx hm hn hB
  exact wl_run hw v' w' hr (h v' w' h1 h2)
theorem wq_appRowS {rest : List Oper} {w : World} (hw : Region.wanted o (yielded ops a.tmps) = true) (s x : Operand) (ho : o.op = .call { callee := .builtin .append, args := #[s, x], argTypes := #[41, 41] }) (B : Nat) (v u : Value) (l m : List ByteArray) (hs : a.eval s = v) (hown : OwnS w B v l)
    (hx : a.eval x = u) (hm : StrsAt w u m) (hn : l.length + m.length ≤ 1000000) (hB : B ≤ w.heap.size)
    (h : ∀ v' W, OwnS W B v' (l ++ m) → w.grownBy W v.ownBlock → wpList Tryz.prog ops Q rest (a.put o.dst v') W) : wpList Tryz.prog ops Q (o :: rest) a w := by
  obtain ⟨v', w', hr, h1, h2⟩ := rn_appRowS a s x ho B v u l m hs hown hx hm hn hB
  exact wl_run hw v' w' hr (h v' w' h1 h2)
end
end Go.Proofs.YtbaijjclofekcaaGreatDoor
namespace Go.Proofs.YtbaijjclofekcaaGreatDoor
open Go.RowKit
def risesI : List Int → Prop
  | [] => True
  | a :: l => (∀ b ∈ l, a < b) ∧ risesI l
theorem risesI_lt : ∀ {l : List Int}, risesI l → ∀ i j, i < j → j < l.length → l.getD i 0 < l.getD j 0
  | [], _, i, j, _, hj => absurd hj (Nat.not_lt_zero _)
  | a :: l, h, 0, j + 1, _, hj => by
    rw [List.getD_cons_zero, List.getD_cons_succ]
    have hj' : j < l.length := by simpa using hj
    exact h.1 _ (by rw [List.getD_eq_getElem?_getD, List.getElem?_eq_getElem hj']; exact List.getElem_mem hj')
  | a :: l, h, i + 1, j + 1, hij, hj => by
    rw [List.getD_cons_succ, List.getD_cons_succ]
    exact risesI_lt h.2 i j (by omega) (by simpa using hj)
theorem gD_mem {α : Type} {l : List α} {i : Nat} {d : α} (h : i < l.length) : l.getD i d ∈ l := by
  rw [List.getD_eq_getElem?_getD, List.getElem?_eq_getElem h]
  exact List.getElem_mem h
theorem mem_getD {α : Type} {l : List α} {x : α} (d : α) (h : x ∈ l) : ∃ i, i < l.length ∧ l.getD i d = x := by
  obtain ⟨i, hi, e⟩ := List.getElem_of_mem h
  exact ⟨i, hi, by rw [List.getD_eq_getElem?_getD, List.getElem?_eq_getElem hi]; exact e⟩
theorem risesI_at : ∀ {l : List Int}, risesI l → ∀ n, 0 < l.length → l.getD 0 0 ≤ n → ∃ i, i < l.length ∧ l.getD i 0 ≤ n ∧ ∀ j, i < j → j < l.length → n < l.getD j 0
  | [], _, n, h, _ => absurd h (Nat.lt_irrefl _)
  | [a], _, n, _, h => ⟨0, Nat.one_pos, h, fun j h1 h2 => by simp at h2; omega⟩
  | a :: b :: l, h, n, _, h0 => by
    by_cases hb : b ≤ n
    · obtain ⟨i, h1, h2, h3⟩ := risesI_at h.2 n (by simp) (by simpa using hb)
      refine ⟨i + 1, by simpa using h1, by rw [List.getD_cons_succ]; exact h2, fun j hj hl => ?_⟩
      obtain ⟨k, rfl⟩ : ∃ k, j = k + 1 := ⟨j - 1, by omega⟩
      rw [List.getD_cons_succ]
      exact h3 k (by omega) (by simpa using hl)
    · refine ⟨0, by simp, h0, fun j hj hl => ?_⟩
      have h1 : (a :: b :: l).getD 1 0 ≤ (a :: b :: l).getD j 0 := by
        by_cases e : j = 1
        · rw [e]; exact Int.le_refl _
        · exact Int.le_of_lt (risesI_lt h 1 j (by omega) hl)
      have h2 : (a :: b :: l).getD 1 0 = b := by simp
      omega
theorem risesI_ext : ∀ {a b : List Int}, risesI a → risesI b → (∀ x, x ∈ a ↔ x ∈ b) → a = b
  | [], [], _, _, _ => rfl
  | [], y :: b, _, _, h => absurd ((h y).2 (by simp)) (by simp)
  | x :: a, [], _, _, h => absurd ((h x).1 (by simp)) (by simp)
  | x :: a, y :: b, ha, hb, h => by
    have hxy : x = y := by
      have h1 := (h x).1 (by simp)
      have h2 := (h y).2 (by simp)
      rcases List.mem_cons.1 h1 with e | e
      · exact e
      · rcases List.mem_cons.1 h2 with e2 | e2
        · exact e2.symm
        · have := hb.1 x e; have := ha.1 y e2; omega
    subst hxy
    rw [risesI_ext ha.2 hb.2 (fun z => by
      have hz := h z
      rw [List.mem_cons, List.mem_cons] at hz
      constructor
      · intro hm
        have := ha.1 z hm
        rcases hz.1 (Or.inr hm) with e | e
        · omega
        · exact e
      · intro hm
        have := hb.1 z hm
        rcases hz.2 (Or.inr hm) with e | e
        · omega
        · exact e)]
def begR (r : Rg) : List Int := r.1 :: (if r.2 < 9223372036854775807 then [r.2 + 1] else [])
def begL (R : List Rg) : List Int := (-9223372036854775808) :: R.flatMap begR
theorem mem_begR {r : Rg} {x : Int} : x ∈ begR r ↔ x = r.1 ∨ (r.2 < 9223372036854775807 ∧ x = r.2 + 1) := by
  unfold begR
  by_cases h : r.2 < 9223372036854775807
  · rw [if_pos h]; simp [h]
  · rw [if_neg h]; simp [h]
theorem mem_begL {R : List Rg} {x : Int} : x ∈ begL R ↔ x = (-9223372036854775808) ∨ ∃ r ∈ R, x = r.1 ∨ (r.2 < 9223372036854775807 ∧ x = r.2 + 1) := by
  unfold begL
  rw [List.mem_cons, List.mem_flatMap]
  simp only [mem_begR]
theorem begL_in {R : List Rg} (h : inI64 R) {x : Int} (hx : x ∈ begL R) : (-9223372036854775808) ≤ x ∧ x ≤ 9223372036854775807 := by
  rcases mem_begL.1 hx with e | ⟨r, hr, e | ⟨h1, e⟩⟩
  · subst e; exact ⟨by omega, by omega⟩
  · have := h r hr; subst e; exact ⟨this.1, this.2.1⟩
  · have := h r hr; subst e; omega
structure Begs (R : List Rg) (B : List Int) : Prop where
  up : risesI B
  mem : ∀ x, x ∈ B ↔ x ∈ begL R
theorem Begs.pos {R : List Rg} {B : List Int} (h : Begs R B) : 0 < B.length := by
  cases B with
  | nil => exact absurd ((h.mem (-9223372036854775808)).2 (by simp [begL])) (by simp)
  | cons a l => simp
theorem Begs.first {R : List Rg} {B : List Int} (h : Begs R B) (hR : inI64 R) : B.getD 0 0 = (-9223372036854775808) := by
  obtain ⟨i, hi, e⟩ := mem_getD 0 ((h.mem (-9223372036854775808)).2 (by simp [begL]))
  by_cases h0 : i = 0
  · rw [h0] at e; exact e
  · have h1 := risesI_lt h.up 0 i (by omega) hi
    have h2 := (begL_in hR ((h.mem _).1 (gD_mem (d := 0) h.pos))).1
    omega
def hiAt (B : List Int) (i : Nat) : Int := if i + 1 < B.length then B.getD (i + 1) 0 - 1 else 9223372036854775807
def cellN (a b : Int) : SetV := ⟨false, [(a, b)], false, []⟩
def numC (B : List Int) : List SetV := (List.range B.length).map fun i => cellN (B.getD i 0) (hiAt B i)
theorem numC_len (B : List Int) : (numC B).length = B.length := by unfold numC; simp
theorem numC_at (B : List Int) (i : Nat) (h : i < B.length) : (numC B).getD i noSet = cellN (B.getD i 0) (hiAt B i) := getD_map_range _ _ _ _ h
def cellS (s : ByteArray) : SetV := ⟨false, [], false, [s]⟩
def strC (N : List ByteArray) : List SetV := N.map cellS ++ [⟨false, [], true, N⟩]
theorem strC_len (N : List ByteArray) : (strC N).length = N.length + 1 := by unfold strC; simp
theorem strC_at (N : List ByteArray) (i : Nat) (h : i < N.length) : (strC N).getD i noSet = cellS (N.getD i ⟨#[]⟩) := by
  unfold strC
  rw [List.getD_eq_getElem?_getD, List.getElem?_append_left (by simpa using h), List.getElem?_map, List.getElem?_eq_getElem h, List.getD_eq_getElem?_getD, List.getElem?_eq_getElem h]
  rfl
theorem strC_last (N : List ByteArray) : (strC N).getD N.length noSet = ⟨false, [], true, N⟩ := by
  unfold strC
  rw [List.getD_eq_getElem?_getD, List.getElem?_append_right (by simp)]
  simp
def cellA : SetV := ⟨true, [], false, []⟩
def cellL (B : List Int) (N : List ByteArray) : List SetV := cellA :: (numC B ++ strC N)
theorem cellL_len (B : List Int) (N : List ByteArray) : (cellL B N).length = B.length + N.length + 2 := by
  unfold cellL; rw [List.length_cons, List.length_append, numC_len, strC_len]; omega
theorem cellL_0 (B : List Int) (N : List ByteArray) : (cellL B N).getD 0 noSet = cellA := rfl
theorem cellL_num (B : List Int) (N : List ByteArray) (i : Nat) (h : i < B.length) : (cellL B N).getD (i + 1) noSet = cellN (B.getD i 0) (hiAt B i) := by
  unfold cellL
  rw [List.getD_cons_succ, List.getD_eq_getElem?_getD, List.getElem?_append_left (by rw [numC_len]; exact h), ← List.getD_eq_getElem?_getD, numC_at B i h]
theorem cellL_str (B : List Int) (N : List ByteArray) (i : Nat) (h : i < N.length) : (cellL B N).getD (B.length + 1 + i) noSet = cellS (N.getD i ⟨#[]⟩) := by
  unfold cellL
  rw [show B.length + 1 + i = (B.length + i) + 1 by omega, List.getD_cons_succ, List.getD_eq_getElem?_getD, List.getElem?_append_right (by rw [numC_len]; omega), numC_len, show B.length + i - B.length = i by omega, ← List.getD_eq_getElem?_getD, strC_at N i h]
theorem cellL_last (B : List Int) (N : List ByteArray) : (cellL B N).getD (B.length + N.length + 1) noSet = ⟨false, [], true, N⟩ := by
  unfold cellL
  rw [List.getD_cons_succ, List.getD_eq_getElem?_getD, List.getElem?_append_right (by rw [numC_len]; omega), numC_len, show B.length + N.length - B.length = N.length by omega, ← List.getD_eq_getElem?_getD, strC_last]
theorem cellL_cases {B : List Int} {N : List ByteArray} {i : Nat} (h : i < (cellL B N).length) : i = 0 ∨ (∃ j, j < B.length ∧ i = j + 1) ∨ (∃ j, j < N.length ∧ i = B.length + 1 + j) ∨ i = B.length + N.length + 1 := by
  rw [cellL_len] at h
  by_cases h0 : i = 0
  · exact Or.inl h0
  by_cases h1 : i ≤ B.length
  · exact Or.inr (Or.inl ⟨i - 1, by omega, by omega⟩)
  by_cases h2 : i ≤ B.length + N.length
  · exact Or.inr (Or.inr (Or.inl ⟨i - B.length - 1, by omega, by omega⟩))
  · exact Or.inr (Or.inr (Or.inr (by omega)))
def allR (l : List SetV) : List Rg := (l.filter rightSet).flatMap (·.ints)
def allS (l : List SetV) : List ByteArray := (l.filter rightSet).flatMap (·.strs)
theorem mem_allR {l : List SetV} {r : Rg} : r ∈ allR l ↔ ∃ S ∈ l, rightSet S = true ∧ r ∈ S.ints := by
  unfold allR
  simp only [List.mem_flatMap, List.mem_filter, and_assoc]
theorem mem_allS {l : List SetV} {s : ByteArray} : s ∈ allS l ↔ ∃ S ∈ l, rightSet S = true ∧ s ∈ S.strs := by
  unfold allS
  simp only [List.mem_flatMap, List.mem_filter, and_assoc]
structure Nams (S : List ByteArray) (N : List ByteArray) : Prop where
  up : risesS (N.map fun b => b.toList)
  mem : ∀ x, x ∈ N ↔ x ∈ S
structure CutOf (l : List SetV) (B : List Int) (N : List ByteArray) : Prop where
  b : Begs (allR l) B
  n : Nams (allS l) N
  i : inI64 (allR l)
theorem CutOf.right8 {l : List SetV} {B : List Int} {N : List ByteArray} (h : CutOf l B N) {s : ByteArray} (hs : s ∈ N) : s.size ≤ 8 := by
  obtain ⟨S, _, hr, hm⟩ := mem_allS.1 ((h.n.mem s).1 hs)
  exact ((rightSet_iff S).1 hr).2.1 s hm
theorem CutOf.rightN {l : List SetV} {B : List Int} {N : List ByteArray} (h : CutOf l B N) : rightS N := ⟨fun _ hs => h.right8 hs, h.n.up⟩
theorem CutOf.uniq {l : List SetV} {B B' : List Int} {N N' : List ByteArray} (h : CutOf l B N) (h' : CutOf l B' N') : B = B' ∧ N = N' :=
  ⟨risesI_ext h.b.up h'.b.up (fun x => (h.b.mem x).trans (h'.b.mem x).symm), rightS_ext _ _ h.rightN h'.rightN (fun x => (h.n.mem x).trans (h'.n.mem x).symm)⟩
theorem CutOf.inB {l : List SetV} {B : List Int} {N : List ByteArray} (h : CutOf l B N) {x : Int} (hx : x ∈ B) : (-9223372036854775808) ≤ x ∧ x ≤ 9223372036854775807 := begL_in h.i ((h.b.mem x).1 hx)
theorem CutOf.hiIn {l : List SetV} {B : List Int} {N : List ByteArray} (h : CutOf l B N) (i : Nat) (hi : i < B.length) : B.getD i 0 ≤ hiAt B i ∧ hiAt B i ≤ 9223372036854775807 ∧ (-9223372036854775808) ≤ B.getD i 0 := by
  have h1 := h.inB (gD_mem (d := 0) hi)
  unfold hiAt
  by_cases e : i + 1 < B.length
  · rw [if_pos e]
    have h2 := risesI_lt h.b.up i (i + 1) (by omega) e
    have h3 := h.inB (gD_mem (d := 0) e)
    omega
  · rw [if_neg e]; exact ⟨h1.2, Int.le_refl _, h1.1⟩
theorem inStrs_mem {l : List ByteArray} {s : ByteArray} : inStrsB l s = true ↔ s ∈ l := by
  unfold inStrsB
  rw [List.any_eq_true]
  constructor
  · rintro ⟨x, hx, e⟩; rw [← bytes_eq.1 e]; exact hx
  · exact fun h => ⟨s, h, bytes_eq.2 rfl⟩
theorem inInts_mem {l : List Rg} {n : Int} : inIntsB l n = true ↔ memR l n := by
  unfold inIntsB memR
  rw [List.any_eq_true]
  simp only [Bool.and_eq_true, decide_eq_true_eq]
theorem has_0 {S : SetV} {n : Int} {s : ByteArray} : hasB S 0 n s = (rightB 0 n s && S.absent) := by unfold hasB; simp
theorem has_1 {S : SetV} {n : Int} {s : ByteArray} : hasB S 1 n s = (rightB 1 n s && inIntsB S.ints n) := by unfold hasB; simp
theorem has_2 {S : SetV} {n : Int} {s : ByteArray} : hasB S 2 n s = (rightB 2 n s && (inStrsB S.strs s != S.co)) := by unfold hasB; simp
theorem rightB_kind {k n : Int} {s : ByteArray} (h : rightB k n s = true) : k = 0 ∨ k = 1 ∨ k = 2 := by
  unfold rightB at h
  by_cases h0 : k = 0
  · exact Or.inl h0
  by_cases h1 : k = 1
  · exact Or.inr (Or.inl h1)
  by_cases h2 : k = 2
  · exact Or.inr (Or.inr h2)
  · rw [if_neg h0, if_neg h1, if_neg h2] at h; cases h
theorem hasB_right {S : SetV} {k n : Int} {s : ByteArray} (h : hasB S k n s = true) : rightB k n s = true := by
  unfold hasB at h; rw [Bool.and_eq_true] at h; exact h.1
theorem cell_has {l : List SetV} {B : List Int} {N : List ByteArray} (h : CutOf l B N) {k n : Int} {s : ByteArray} (hr : rightB k n s = true) {i : Nat} (hi : i < (cellL B N).length) :
    hasB ((cellL B N).getD i noSet) k n s = true ↔ (k = 0 ∧ i = 0) ∨ (k = 1 ∧ ∃ j, j < B.length ∧ i = j + 1 ∧ B.getD j 0 ≤ n ∧ n ≤ hiAt B j) ∨ (k = 2 ∧ ((∃ j, j < N.length ∧ i = B.length + 1 + j ∧ s = N.getD j ⟨#[]⟩) ∨ (i = B.length + N.length + 1 ∧ s ∉ N))) := by
  rcases rightB_kind hr with rfl | rfl | rfl
  · rw [has_0, hr, Bool.true_and]
    rcases cellL_cases hi with rfl | ⟨j, hj, rfl⟩ | ⟨j, hj, rfl⟩ | rfl
    · rw [cellL_0]; simp [cellA]
    · rw [cellL_num _ _ _ hj]; simp [cellN]
    · rw [cellL_str _ _ _ hj]; simp [cellS] <;> omega
    · rw [cellL_last]; simp <;> omega
  · rw [has_1, hr, Bool.true_and, inInts_mem]
    rcases cellL_cases hi with rfl | ⟨j, hj, rfl⟩ | ⟨j, hj, rfl⟩ | rfl
    · rw [cellL_0]; simp [cellA, memR]
    · rw [cellL_num _ _ _ hj]
      have e : memR (cellN (B.getD j 0) (hiAt B j)).ints n ↔ B.getD j 0 ≤ n ∧ n ≤ hiAt B j := by unfold cellN; rw [memR_cons]; simp [memR]
      rw [e]
      constructor
      · exact fun h1 => Or.inr (Or.inl ⟨rfl, j, hj, rfl, h1⟩)
      · rintro (⟨h1, _⟩ | ⟨_, j', hj', e', h1⟩ | ⟨h1, _⟩)
        · exact absurd h1 (by decide)
        · have : j = j' := by omega
          subst this; exact h1
        · exact absurd h1 (by decide)
    · rw [cellL_str _ _ _ hj]
      constructor
      · intro h1; exact absurd h1 (by simp [cellS, memR])
      · rintro (⟨h1, _⟩ | ⟨_, j', hj', e', h1⟩ | ⟨h1, _⟩)
        · exact absurd h1 (by decide)
        · omega
        · exact absurd h1 (by decide)
    · rw [cellL_last]
      constructor
      · intro h1; exact absurd h1 (by simp [memR])
      · rintro (⟨h1, _⟩ | ⟨_, j', hj', e', h1⟩ | ⟨h1, _⟩)
        · exact absurd h1 (by decide)
        · omega
        · exact absurd h1 (by decide)
  · rw [has_2, hr, Bool.true_and]
    rcases cellL_cases hi with rfl | ⟨j, hj, rfl⟩ | ⟨j, hj, rfl⟩ | rfl
    · rw [cellL_0]
      constructor
      · intro h1; exact absurd h1 (by simp [cellA, inStrsB])
      · rintro (⟨h1, _⟩ | ⟨h1, _⟩ | ⟨_, ⟨j', _, e', _⟩ | ⟨e', _⟩⟩)
        · exact absurd h1 (by decide)
        · exact absurd h1 (by decide)
        · omega
        · omega
    · rw [cellL_num _ _ _ hj]
      constructor
      · intro h1; exact absurd h1 (by simp [cellN, inStrsB])
      · rintro (⟨h1, _⟩ | ⟨h1, _⟩ | ⟨_, ⟨j', _, e', _⟩ | ⟨e', _⟩⟩)
        · exact absurd h1 (by decide)
        · exact absurd h1 (by decide)
        · omega
        · omega
    · rw [cellL_str _ _ _ hj]
      have e : (inStrsB (cellS (N.getD j ⟨#[]⟩)).strs s != (cellS (N.getD j ⟨#[]⟩)).co) = true ↔ s = N.getD j ⟨#[]⟩ := by
        show (inStrsB [N.getD j ⟨#[]⟩] s != false) = true ↔ _
        rw [Bool.bne_false, inStrs_mem]; simp
      rw [e]
      constructor
      · exact fun h1 => Or.inr (Or.inr ⟨rfl, Or.inl ⟨j, hj, rfl, h1⟩⟩)
      · rintro (⟨h1, _⟩ | ⟨h1, _⟩ | ⟨_, ⟨j', hj', e', h1⟩ | ⟨e', _⟩⟩)
        · exact absurd h1 (by decide)
        · exact absurd h1 (by decide)
        · have : j = j' := by omega
          subst this; exact h1
        · omega
    · rw [cellL_last]
      have e : (inStrsB N s != true) = true ↔ s ∉ N := by
        rw [← inStrs_mem]; cases inStrsB N s <;> simp
      show (inStrsB N s != true) = true ↔ _
      rw [e]
      constructor
      · exact fun h1 => Or.inr (Or.inr ⟨rfl, Or.inr ⟨rfl, h1⟩⟩)
      · rintro (⟨h1, _⟩ | ⟨h1, _⟩ | ⟨_, ⟨j', hj', e', h1⟩ | ⟨_, h1⟩⟩)
        · exact absurd h1 (by decide)
        · exact absurd h1 (by decide)
        · omega
        · exact h1
theorem hiAt_lt {B : List Int} (h : risesI B) {i j : Nat} (hij : i < j) (hj : j < B.length) : hiAt B i < B.getD j 0 := by
  unfold hiAt
  rw [if_pos (by omega)]
  by_cases e : j = i + 1
  · subst e; omega
  · have := risesI_lt h (i + 1) j (by omega) hj; omega
theorem cell_some {l : List SetV} {B : List Int} {N : List ByteArray} (h : CutOf l B N) {k n : Int} {s : ByteArray} (n0 : (-9223372036854775808) ≤ n) (n1 : n ≤ 9223372036854775807) (hr : rightB k n s = true) : ∃ i, i < (cellL B N).length ∧ hasB ((cellL B N).getD i noSet) k n s = true := by
  rcases rightB_kind hr with rfl | rfl | rfl
  · have hl : 0 < (cellL B N).length := by rw [cellL_len]; omega
    exact ⟨0, hl, (cell_has h hr hl).2 (Or.inl ⟨rfl, rfl⟩)⟩
  · obtain ⟨i, hi, h1, h2⟩ := risesI_at h.b.up n h.b.pos (by rw [h.b.first h.i]; exact n0)
    have hl : i + 1 < (cellL B N).length := by rw [cellL_len]; omega
    refine ⟨i + 1, hl, (cell_has h hr hl).2 (Or.inr (Or.inl ⟨rfl, i, hi, rfl, h1, ?_⟩))⟩
    unfold hiAt
    by_cases e : i + 1 < B.length
    · rw [if_pos e]; have := h2 (i + 1) (by omega) e; omega
    · rw [if_neg e]; exact n1
  · by_cases hm : s ∈ N
    · obtain ⟨j, hj, e⟩ := mem_getD (⟨#[]⟩ : ByteArray) hm
      have hl : B.length + 1 + j < (cellL B N).length := by rw [cellL_len]; omega
      exact ⟨_, hl, (cell_has h hr hl).2 (Or.inr (Or.inr ⟨rfl, Or.inl ⟨j, hj, rfl, e.symm⟩⟩))⟩
    · have hl : B.length + N.length + 1 < (cellL B N).length := by rw [cellL_len]; omega
      exact ⟨_, hl, (cell_has h hr hl).2 (Or.inr (Or.inr ⟨rfl, Or.inr ⟨rfl, hm⟩⟩))⟩
theorem cell_whole {l : List SetV} {B : List Int} {N : List ByteArray} (h : CutOf l B N) {S : SetV} (hS : S ∈ l) (hR : rightSet S = true) {i : Nat} (hi : i < (cellL B N).length) {k n k' n' : Int} {s s' : ByteArray}
    (h1 : hasB ((cellL B N).getD i noSet) k n s = true) (h2 : hasB ((cellL B N).getD i noSet) k' n' s' = true) : hasB S k n s = hasB S k' n' s' := by
  have r1 := hasB_right h1
  have r2 := hasB_right h2
  have a1 := (cell_has h r1 hi).1 h1
  have a2 := (cell_has h r2 hi).1 h2
  have hw := (rightSet_iff S).1 hR
  rcases a1 with ⟨rfl, e1⟩ | ⟨rfl, j, hj, e1, p1, q1⟩ | ⟨rfl, ⟨j, hj, e1, p1⟩ | ⟨e1, p1⟩⟩ <;> rcases a2 with ⟨rfl, e2⟩ | ⟨rfl, j', hj', e2, p2, q2⟩ | ⟨rfl, ⟨j', hj', e2, p2⟩ | ⟨e2, p2⟩⟩ <;> try omega
  · rw [has_0, has_0, r1, r2]
  · have : j = j' := by omega
    subst this
    rw [has_1, has_1, r1, r2, Bool.true_and, Bool.true_and]
    have main : ∀ x y : Int, B.getD j 0 ≤ x → x ≤ hiAt B j → B.getD j 0 ≤ y → y ≤ hiAt B j → memR S.ints x → memR S.ints y := by
      rintro x y a b c d ⟨r, hr, u, v⟩
      refine ⟨r, hr, ?_, ?_⟩
      · refine Classical.byContradiction fun hn => ?_
        have hb : r.1 ∈ B := (h.b.mem _).2 (mem_begL.2 (Or.inr ⟨r, mem_allR.2 ⟨S, hS, hR, hr⟩, Or.inl rfl⟩))
        obtain ⟨q, hq, e⟩ := mem_getD 0 hb
        have hjq : j < q := by
          refine Classical.byContradiction fun hc => ?_
          rcases Nat.lt_or_ge q j with h3 | h3
          · have := risesI_lt h.b.up q j h3 hj; omega
          · have : q = j := by omega
            subst this; omega
        have := hiAt_lt h.b.up hjq hq
        omega
      · refine Classical.byContradiction fun hn => ?_
        have hh := (h.hiIn j hj).2.1
        have hb : r.2 + 1 ∈ B := (h.b.mem _).2 (mem_begL.2 (Or.inr ⟨r, mem_allR.2 ⟨S, hS, hR, hr⟩, Or.inr ⟨by omega, rfl⟩⟩))
        obtain ⟨q, hq, e⟩ := mem_getD 0 hb
        have hjq : j < q := by
          refine Classical.byContradiction fun hc => ?_
          rcases Nat.lt_or_ge q j with h3 | h3
          · have := risesI_lt h.b.up q j h3 hj; omega
          · have : q = j := by omega
            subst this; omega
        have := hiAt_lt h.b.up hjq hq
        omega
    exact Bool.eq_iff_iff.2 (by rw [inInts_mem, inInts_mem]; exact ⟨main n n' p1 q1 p2 q2, main n' n p2 q2 p1 q1⟩)
  · have : j = j' := by omega
    subst this
    rw [has_2, has_2, r1, r2, p1, p2]
  · have c : ∀ x, x ∉ N → inStrsB S.strs x = false := fun x hx => by
      cases e : inStrsB S.strs x
      · rfl
      · exact absurd ((h.n.mem x).2 (mem_allS.2 ⟨S, hS, hR, inStrs_mem.1 e⟩)) hx
    rw [has_2, has_2, r1, r2, c _ p1, c _ p2]
end Go.Proofs.YtbaijjclofekcaaGreatDoor
namespace Go.Proofs.YtbaijjclofekcaaGreatDoor
open Go.RowKit
def tilde : ByteArray := ⟨#[126]⟩
def IsFresh (l : List ByteArray) (n : Nat) : Prop := tryS tilde n ∉ l ∧ ∀ m, m < n → tryS tilde m ∈ l
theorem IsFresh.uniq {l : List ByteArray} {a b : Nat} (h : IsFresh l a) (k : IsFresh l b) : a = b := by
  rcases Nat.lt_trichotomy a b with e | e | e
  · exact absurd (k.2 a e) h.1
  · exact e
  · exact absurd (h.2 b e) k.1
def freshFrom (l : List ByteArray) : Nat → Nat → Nat
  | 0, n => n
  | f + 1, n => if inStrsB l (tryS tilde n) then freshFrom l f (n + 1) else n
theorem freshFrom_spec (l : List ByteArray) : ∀ f n, (∀ m, m < n → tryS tilde m ∈ l) → (tryS tilde (freshFrom l f n) ∉ l ∨ freshFrom l f n = n + f) ∧ (∀ m, m < freshFrom l f n → tryS tilde m ∈ l) ∧ freshFrom l f n ≤ n + f
  | 0, n, h => ⟨Or.inr rfl, h, Nat.le_refl _⟩
  | f + 1, n, h => by
    unfold freshFrom
    by_cases e : inStrsB l (tryS tilde n) = true
    · rw [if_pos e]
      obtain ⟨h1, h2, h3⟩ := freshFrom_spec l f (n + 1) (fun m hm => by
        by_cases e2 : m = n
        · rw [e2]; exact inStrs_mem.1 e
        · exact h m (by omega))
      exact ⟨h1.imp id (fun e => by omega), h2, by omega⟩
    · rw [if_neg e]
      exact ⟨Or.inl (fun hm => e (inStrs_mem.2 hm)), h, by omega⟩
theorem fresh_le (l : List ByteArray) (n : Nat) (h : ∀ m, m < n → tryS tilde m ∈ l) : n ≤ l.length := by
  have := holes (fun i => (tryS tilde i).toList) (fun i j e => tryS_inj _ i j (toList_inj e)) n (l.map fun x => x.toList) (fun i hi => List.mem_map.2 ⟨_, h i hi, rfl⟩)
  simpa using this
def freshC (l : List ByteArray) : Nat := freshFrom l (l.length + 1) 0
theorem freshC_is (l : List ByteArray) : IsFresh l (freshC l) ∧ freshC l ≤ l.length := by
  obtain ⟨h1, h2, h3⟩ := freshFrom_spec l (l.length + 1) 0 (fun m hm => absurd hm (Nat.not_lt_zero _))
  have h4 := fresh_le l _ h2
  refine ⟨⟨h1.elim id (fun e => ?_), h2⟩, h4⟩
  rw [e] at h4; omega
theorem fresh8 (l : List ByteArray) (h : l.length < 100000) : (tryS tilde (freshC l)).size ≤ 8 := fresh_short (by have := (freshC_is l).2; omega)
def sampleV (S : SetV) : Option Va :=
  if rightSet S = true then (if S.absent = true then some (0, 0, noS) else if 0 < S.ints.length then some (1, (S.ints.getD 0 (0, 0)).1, noS) else if S.co = true then some (2, 0, tryS tilde (freshC S.strs)) else if 0 < S.strs.length then some (2, 0, S.strs.getD 0 ⟨#[]⟩) else none) else none
theorem rightB_0 : rightB 0 0 noS = true := rightV_abs
theorem rightB_1 (n : Int) : rightB 1 n noS = true := rightV_num n
theorem rightB_2 {s : ByteArray} (h : s.size ≤ 8) : rightB 2 0 s = true := by unfold rightB; simp; omega
theorem sample_has {S : SetV} {v : Va} (h : sampleV S = some v) (hl : S.strs.length < 100000) : hasP S v = true := by
  unfold sampleV at h
  by_cases hr : rightSet S = true
  · rw [if_pos hr] at h
    obtain ⟨rI, rS⟩ := (rightSet_iff S).1 hr
    by_cases ha : S.absent = true
    · rw [if_pos ha] at h; cases h
      show hasB S 0 0 noS = true
      rw [has_0, ha, rightB_0]; rfl
    · rw [if_neg ha] at h
      by_cases hi : 0 < S.ints.length
      · rw [if_pos hi] at h; cases h
        show hasB S 1 _ noS = true
        rw [has_1, rightB_1, Bool.true_and, inInts_mem]
        refine ⟨_, gD_mem (d := (0, 0)) hi, Int.le_refl _, ?_⟩
        cases e : S.ints with
        | nil => rw [e] at hi; exact absurd hi (Nat.lt_irrefl _)
        | cons r l => rw [e] at rI; exact rI.1
      · rw [if_neg hi] at h
        by_cases hc : S.co = true
        · rw [if_pos hc] at h; cases h
          show hasB S 2 0 _ = true
          rw [has_2, rightB_2 (fresh8 _ hl), hc, inStrs_not (freshC_is S.strs).1.1]; rfl
        · rw [if_neg hc] at h
          by_cases hs : 0 < S.strs.length
          · rw [if_pos hs] at h; cases h
            show hasB S 2 0 _ = true
            have hm := gD_mem (d := (⟨#[]⟩ : ByteArray)) hs
            rw [has_2, rightB_2 (rS.1 _ hm), inStrs_mem.2 hm]
            simpa using hc
          · rw [if_neg hs] at h; cases h
  · rw [if_neg hr] at h; cases h
theorem rightS_one {s : ByteArray} (h : s.size ≤ 8) : rightS [s] := ⟨fun x hx => by simp at hx; rw [hx]; exact h, ⟨fun b hb => by simp at hb, trivial⟩⟩
theorem rightS_nil : rightS [] := ⟨fun x hx => by simp at hx, trivial⟩
theorem cell_right {l : List SetV} {B : List Int} {N : List ByteArray} (h : CutOf l B N) {i : Nat} (hi : i < (cellL B N).length) : rightSet ((cellL B N).getD i noSet) = true := by
  rcases cellL_cases hi with rfl | ⟨j, hj, rfl⟩ | ⟨j, hj, rfl⟩ | rfl
  · rw [cellL_0]; rfl
  · rw [cellL_num _ _ _ hj]; exact (rightSet_iff _).2 ⟨⟨(h.hiIn j hj).1, trivial⟩, rightS_nil⟩
  · rw [cellL_str _ _ _ hj]; exact (rightSet_iff _).2 ⟨trivial, rightS_one (h.right8 (gD_mem hj))⟩
  · rw [cellL_last]; exact (rightSet_iff _).2 ⟨trivial, h.rightN⟩
theorem cell_sample {l : List SetV} {B : List Int} {N : List ByteArray} (h : CutOf l B N) {i : Nat} (hi : i < (cellL B N).length) : ∃ v, sampleV ((cellL B N).getD i noSet) = some v := by
  have hr := cell_right h hi
  unfold sampleV
  rw [if_pos hr]
  rcases cellL_cases hi with rfl | ⟨j, hj, rfl⟩ | ⟨j, hj, rfl⟩ | rfl
  · exact ⟨_, rfl⟩
  · rw [cellL_num _ _ _ hj]; exact ⟨_, rfl⟩
  · rw [cellL_str _ _ _ hj]; exact ⟨_, rfl⟩
  · rw [cellL_last]; exact ⟨_, rfl⟩
theorem cell_strs {B : List Int} {N : List ByteArray} {i : Nat} (hi : i < (cellL B N).length) : ((cellL B N).getD i noSet).strs.length ≤ N.length + 1 ∧ ((cellL B N).getD i noSet).ints.length ≤ 1 := by
  rcases cellL_cases hi with rfl | ⟨j, hj, rfl⟩ | ⟨j, hj, rfl⟩ | rfl
  · rw [cellL_0]; simp [cellA]
  · rw [cellL_num _ _ _ hj]; simp [cellN]
  · rw [cellL_str _ _ _ hj]; simp [cellS]
  · rw [cellL_last]; simp
def whichN (l : List SetV) (p : Va) : Nat := (l.takeWhile fun S => !hasP S p).length
theorem which_before {l : List SetV} {p : Va} : ∀ {i : Nat}, i < whichN l p → hasP (l.getD i noSet) p = false := by
  unfold whichN
  induction l with
  | nil => intro i hi; exact absurd hi (Nat.not_lt_zero _)
  | cons S l ih =>
    intro i hi
    rw [List.takeWhile_cons] at hi
    by_cases e : hasP S p = true
    · rw [e] at hi; simp at hi
    · rw [Bool.not_eq_true] at e
      rw [e] at hi
      cases i with
      | zero => exact e
      | succ i => rw [List.getD_cons_succ]; exact ih (by simpa using hi)
theorem which_at {l : List SetV} {p : Va} : ∀ (h : whichN l p < l.length), hasP (l.getD (whichN l p) noSet) p = true := by
  unfold whichN
  induction l with
  | nil => intro h; exact absurd h (Nat.not_lt_zero _)
  | cons S l ih =>
    intro h
    rw [List.takeWhile_cons] at h ⊢
    by_cases e : hasP S p = true
    · rw [e]; simpa using e
    · rw [Bool.not_eq_true] at e
      rw [e] at h ⊢
      simp only [Bool.not_false, if_true, List.length_cons] at h ⊢
      rw [List.getD_cons_succ]
      exact ih (by omega)
def whichI (l : List SetV) (p : Va) : Int := if whichN l p < l.length then (whichN l p : Int) else -1
theorem which_uniq {l : List SetV} {p : Va} {i : Nat} (hi : i < l.length) (h : hasP (l.getD i noSet) p = true) (hb : ∀ j, j < i → hasP (l.getD j noSet) p = false) : whichI l p = (i : Int) := by
  have : whichN l p = i := by
    rcases Nat.lt_trichotomy (whichN l p) i with e | e | e
    · have := hb _ e; rw [which_at (by omega)] at this; cases this
    · exact e
    · rw [which_before e] at h; cases h
  unfold whichI
  rw [this, if_pos hi]
theorem which_none {l : List SetV} {p : Va} (h : ∀ j, j < l.length → hasP (l.getD j noSet) p = false) : whichI l p = -1 := by
  unfold whichI
  rw [if_neg]
  intro hl
  have := h _ hl
  rw [which_at hl] at this; cases this
end Go.Proofs.YtbaijjclofekcaaGreatDoor
namespace Go.Proofs.YtbaijjclofekcaaGreatDoor
open Go.RowKit
set_option maxHeartbeats 400000 in
theorem nanC_any (s : ByteArray) (w : World) : Calls Tryz.prog 131 #[.string s] w fun e w' => e = .returned (.bool false) ∧ w' = w := by
  have h : (s.toList != s.toList) = false := by simp
  go_enter Tryz.func131, Tryz.ntmps131
  go_wp2
  go_ret
  exact ⟨ret_bool (by simp), rfl⟩
set_option maxHeartbeats 400000 in
theorem nanS_any (s : ByteArray) (w : World) : Calls Tryz.prog 110 #[.string s] w fun e w' => e = .returned (.bool false) ∧ w' = w := by
  have h : (s.toList != s.toList) = false := by simp
  go_enter Tryz.func110, Tryz.ntmps110
  go_wp2
  go_ret
  exact ⟨ret_bool (by simp), rfl⟩
set_option maxHeartbeats 400000 in
theorem lessC_any (a b : ByteArray) (w : World) : Calls Tryz.prog 100 #[.string a, .string b] w fun e w' => e = .returned (.bool (Op.bytesLess a.toList b.toList)) ∧ w' = w := by
  have X := hide (nanC_any a w)
  go_enter Tryz.func100, Tryz.ntmps100
  go_wp2_with fail
  refine (unhide X).mono ?_
  rintro r w1 ⟨rfl, rfl⟩
  go_wp2
  go_ret
  exact ⟨rfl, rfl⟩
theorem risesS_at : ∀ (l : List St) (i j : Nat), risesS l → i < j → j < l.length → Op.bytesLess (l.getD i []) (l.getD j []) = true
  | [], i, j, _, _, h => by simp at h
  | a :: l, 0, 0, _, h, _ => by omega
  | a :: l, 0, j + 1, h, _, hj => by
    have hj' : j < l.length := by simpa using hj
    simp only [List.getD_cons_zero, List.getD_cons_succ]
    refine h.1 _ ?_
    rw [List.getD_eq_getElem?_getD, List.getElem?_eq_getElem hj']
    exact List.getElem_mem _
  | a :: l, i + 1, 0, _, h, _ => by omega
  | a :: l, i + 1, j + 1, h, hij, hj => by
    simp only [List.getD_cons_succ]
    exact risesS_at l i j h.2 (by omega) (by simpa using hj)
theorem getD_map_toList (l : List ByteArray) (i : Nat) (hi : i < l.length) : (l.map fun b => b.toList).getD i [] = (l.getD i ⟨#[]⟩).toList := by
  simp [List.getD_eq_getElem?_getD, hi]
structure Sought (l : List ByteArray) (s : ByteArray) (i j : Nat) : Prop where
  le : i ≤ j
  top : j ≤ l.length
  low : ∀ k, k < i → Op.bytesLess (l.getD k ⟨#[]⟩).toList s.toList = true
  high : ∀ k, j ≤ k → k < l.length → Op.bytesLess (l.getD k ⟨#[]⟩).toList s.toList = false
theorem sought_start (l : List ByteArray) (s : ByteArray) : Sought l s 0 l.length := ⟨Nat.zero_le _, Nat.le_refl _, fun k h => by omega, fun k h1 h2 => by omega⟩
theorem rises_lt {l : List ByteArray} (h : risesS (l.map fun b => b.toList)) {i j : Nat} (hij : i < j) (hj : j < l.length) : Op.bytesLess (l.getD i ⟨#[]⟩).toList (l.getD j ⟨#[]⟩).toList = true := by
  have := risesS_at _ i j h hij (by simpa using hj)
  rwa [getD_map_toList l i (by omega), getD_map_toList l j hj] at this
theorem sought_low {l : List ByteArray} {s : ByteArray} {i j h : Nat} (hr : risesS (l.map fun b => b.toList)) (hS : Sought l s i j) (h1 : i ≤ h) (h2 : h < j) (hl : Op.bytesLess (l.getD h ⟨#[]⟩).toList s.toList = true) : Sought l s (h + 1) j := by
  refine ⟨by omega, hS.top, fun k hk => ?_, hS.high⟩
  by_cases e : k = h
  · rw [e]; exact hl
  · exact lessB_trans _ _ _ (rises_lt hr (show k < h by omega) (by have := hS.top; omega)) hl
theorem sought_high {l : List ByteArray} {s : ByteArray} {i j h : Nat} (hr : risesS (l.map fun b => b.toList)) (hS : Sought l s i j) (h1 : i ≤ h) (h2 : h < j) (hl : Op.bytesLess (l.getD h ⟨#[]⟩).toList s.toList = false) : Sought l s i h := by
  refine ⟨h1, by have := hS.top; omega, hS.low, fun k hk1 hk2 => ?_⟩
  by_cases e : k = h
  · rw [e]; exact hl
  · cases hx : Op.bytesLess (l.getD k ⟨#[]⟩).toList s.toList
    · rfl
    · have := lessB_trans _ _ _ (rises_lt hr (show h < k by omega) hk2) hx
      rw [hl] at this
      cases this
theorem sought_end {l : List ByteArray} {s : ByteArray} {i : Nat} (hr : risesS (l.map fun b => b.toList)) (hS : Sought l s i i) : inStrsB l s = (decide (i < l.length) && ((l.getD i ⟨#[]⟩).toList == s.toList)) := by
  apply bool_of_iff
  rw [inStrs_iff, Bool.and_eq_true, decide_eq_true_iff, bytes_eq]
  constructor
  · intro hm
    obtain ⟨k, hk, e⟩ := List.getElem_of_mem hm
    have e' : l.getD k ⟨#[]⟩ = s := by rw [List.getD_eq_getElem?_getD, List.getElem?_eq_getElem hk]; exact e
    have h1 : i ≤ k := Classical.byContradiction fun hn => by
      have := hS.low k (by omega)
      rw [e', lessB_irrefl] at this
      cases this
    have h2 : ¬ i < k := fun hn => by
      have h3 := rises_lt hr hn hk
      rw [e', hS.high i (Nat.le_refl _) (by omega)] at h3
      cases h3
    have : i = k := by omega
    subst this
    exact ⟨hk, e'⟩
  · rintro ⟨h1, h2⟩
    rw [← h2, List.getD_eq_getElem?_getD, List.getElem?_eq_getElem h1]
    exact List.getElem_mem _
set_option maxHeartbeats 2000000 in
set_option maxRecDepth 100000 in
theorem search_any (v : Value) (l : List ByteArray) (s : ByteArray) (w : World) (hv : StrsAt w v l) (hr : risesS (l.map fun b => b.toList)) (hn : l.length ≤ 100000) :
    Calls Tryz.prog 86 #[v, .string s] w fun r w' => (∃ i, r = .returned (.tuple #[.int .i64 i, .bool (inStrsB l s)])) ∧ w' = w := by
  have HV := hide hv
  have HR := hide hr
  have hlen := hv.2.1
  obtain ⟨a, cap, rfl⟩ := hv.form
  clear hv hr
  have HS0 := hide (sought_start l s)
  obtain ⟨N, hN⟩ : ∃ N : Nat, N = l.length := ⟨_, rfl⟩
  rw [← hN] at hlen hn HV HS0 ⊢
  have HN := hide hN
  clear hN
  have LS := fun (a : ByteArray) => hide (lessC_any a s w)
  have NS := fun (a : ByteArray) => hide (nanS_any a w)
  go_enter Tryz.func86, Tryz.ntmps86
  go_wp2
  go_loopw [7, 8] (fun iv jv wr => ∃ (i j : Nat), iv = .int .i64 i ∧ jv = .int .i64 j ∧ i ≤ j ∧ j ≤ N ∧ wr = w ∧ Hid (Sought l s i j)) (fun iv jv _ => (intOf jv).toNat - (intOf iv).toNat)
  case atStart => exact ⟨0, N, rfl, rfl, by omega, by omega, rfl, HS0⟩
  case round =>
    obtain ⟨i, j, rfl, rfl, hij, hj, rfl, HS⟩ := hrel
    by_cases hlt : i < j
    · have hw1 : IntKind.i64.wrap ((i : Int) + (j : Int)) = (i : Int) + (j : Int) := by rw [IntKind.wrap_i64]; omega
      obtain ⟨b, off, ha, hb, c0⟩ := HV.out.at.2 ((i + j) / 2) (by rw [← HN.out]; omega)
      subst ha
      have SL := hide (fun h => sought_low HR.out HS.out (h := (i + j) / 2) (by omega) (by omega) h)
      have SH := hide (fun h => sought_high HR.out HS.out (h := (i + j) / 2) (by omega) (by omega) h)
      generalize l.getD ((i + j) / 2) ⟨#[]⟩ = q at c0 SL SH
      have X := LS q
      clear LS NS HS0 HS
      cases hq : Op.bytesLess q.toList s.toList
      · rw [hq] at X
        go_wp2_with fail
        refine (unhide X).mono ?_
        rintro r w2 ⟨rfl, rfl⟩
        go_wp2
        exact ⟨⟨i, (i + j) / 2, rfl, by simp, by omega, by omega, trivial, hide (SH.out hq)⟩, by simp [intOf]; omega⟩
      · rw [hq] at X
        go_wp2_with fail
        refine (unhide X).mono ?_
        rintro r w2 ⟨rfl, rfl⟩
        go_wp2
        exact ⟨⟨(i + j) / 2 + 1, j, by simp, rfl, by omega, by omega, trivial, hide (SL.out hq)⟩, by simp [intOf]; omega⟩
    · have hij' : i = j := by omega
      subst hij'
      have E := hide (sought_end HR.out HS.out)
      rw [← HN.out] at E
      clear LS HS0 HS hlt hij
      by_cases hiN : i < N
      · obtain ⟨b, off, ha, hb, c0⟩ := HV.out.at.2 i (by rw [← HN.out]; omega)
        subst ha
        generalize l.getD i ⟨#[]⟩ = q at c0 E
        have X := NS q
        cases hq : (q.toList == s.toList)
        · have E1 : Hid (inStrsB l s = false) := hide (by rw [E.out, hq]; simp)
          go_wp2_with fail
          refine (unhide X).mono ?_
          rintro r w2 ⟨rfl, rfl⟩
          go_wp2
          go_ret2
          exact ⟨⟨i, by rw [E1.out]; rfl⟩, rfl⟩
        · have E1 : Hid (inStrsB l s = true) := hide (by rw [E.out, hq, decide_eq_true hiN]; rfl)
          go_wp2
          go_ret2
          exact ⟨⟨i, by rw [E1.out]; rfl⟩, rfl⟩
      · have E1 : Hid (inStrsB l s = false) := hide (by rw [E.out, decide_eq_false hiN]; rfl)
        have hge : (N : Int) ≤ (i : Int) := by omega
        go_wp2
        go_ret2
        exact ⟨⟨i, by rw [E1.out]; rfl⟩, rfl⟩
set_option maxHeartbeats 400000 in
theorem hasString_any (v : Value) (l : List ByteArray) (s : ByteArray) (w : World) (hv : StrsAt w v l) (hr : risesS (l.map fun b => b.toList)) (hn : l.length ≤ 100000) :
    Calls Tryz.prog 70 #[v, .string s] w fun r w' => r = .returned (.bool (inStrsB l s)) ∧ w' = w := by
  have X := hide (search_any v l s w hv hr hn)
  obtain ⟨a, cap, rfl⟩ := hv.form
  clear hv hr hn
  generalize inStrsB l s = IB at *
  generalize l.length = N at *
  go_enter Tryz.func70, Tryz.ntmps70
  go_wp2_with fail
  refine (unhide X).mono ?_
  rintro r w1 ⟨⟨i, rfl⟩, rfl⟩
  go_wp2
  go_ret
  exact ⟨rfl, rfl⟩
end Go.Proofs.YtbaijjclofekcaaGreatDoor
namespace Go.Proofs.YtbaijjclofekcaaGreatDoor
open Go.RowKit
end Go.Proofs.YtbaijjclofekcaaGreatDoor
namespace Go.Proofs
open Go.Shelf
open Go.RowKit in
def Tryz.laysM171_ren : Go.Shelf.Ren := ⟨fun | 171 => 55 | 243 => 75 | 246 => 92 | 283 => 113 | 284 => 114 | 285 => 115 | 286 => 116 | 129 => 104 | 317 => 148 | 318 => 149 | 319 => 150 | 320 => 151 | 337 => 166 | 338 => 167 | n => n, fun | 3 => 3 | 9 => 9 | 2 => 2 | 4 => 4 | 171 => 145 | 0 => 0 | 53 => 107 | 37 => 127 | 5 => 5 | 173 => 147 | 212 => 175 | 51 => 61 | 20 => 20 | 213 => 176 | 46 => 113 | 232 => 189 | 233 => 190 | n => n, fun | 17 => 0 | 18 => 1 | 19 => 2 | n => n⟩
theorem Tryz.laysM171 : Go.Proofs.LaysM.n171 Tryz.prog Tryz.laysM171_ren := {
  mixed := by kernel_rfl
  f129 := Tryz.func104.trans (congrArg some (by kernel_rfl))
  f171 := Tryz.func55.trans (congrArg some (by kernel_rfl))
  f243 := Tryz.func75.trans (congrArg some (by kernel_rfl))
  f246 := Tryz.func92.trans (congrArg some (by kernel_rfl))
  f283 := Tryz.func113.trans (congrArg some (by kernel_rfl))
  f284 := Tryz.func114.trans (congrArg some (by kernel_rfl))
  f285 := Tryz.func115.trans (congrArg some (by kernel_rfl))
  f286 := Tryz.func116.trans (congrArg some (by kernel_rfl))
  f317 := Tryz.func148.trans (congrArg some (by kernel_rfl))
  f318 := Tryz.func149.trans (congrArg some (by kernel_rfl))
  f319 := Tryz.func150.trans (congrArg some (by kernel_rfl))
  f320 := Tryz.func151.trans (congrArg some (by kernel_rfl))
  f337 := Tryz.func166.trans (congrArg some (by kernel_rfl))
  f338 := Tryz.func167.trans (congrArg some (by kernel_rfl))
  t0 := Tryz.underlying0
  a0 := Tryz.isAgg0
  z0 := Tryz.sizeOf0
  v0 := Tryz.zeroValue0
  t2 := Tryz.underlying2
  a2 := Tryz.isAgg2
  z2 := Tryz.sizeOf2
  v2 := Tryz.zeroValue2
  t3 := Tryz.underlying3
  a3 := Tryz.isAgg3
  z3 := Tryz.sizeOf3
  v3 := Tryz.zeroValue3
  t4 := Tryz.underlying4
  a4 := Tryz.isAgg4
  z4 := Tryz.sizeOf4
  v4 := Tryz.zeroValue4
  t5 := Tryz.underlying5
  a5 := Tryz.isAgg5
  z5 := Tryz.sizeOf5
  v5 := Tryz.zeroValue5
  t9 := Tryz.underlying9
  a9 := Tryz.isAgg9
  z9 := Tryz.sizeOf9
  v9 := Tryz.zeroValue9
  t20 := Tryz.underlying20
  a20 := Tryz.isAgg20
  z20 := Tryz.sizeOf20
  v20 := Tryz.zeroValue20
  t37 := Tryz.underlying127
  a37 := Tryz.isAgg127
  z37 := Tryz.sizeOf127
  v37 := Tryz.zeroValue127
  t46 := Tryz.underlying113
  a46 := Tryz.isAgg113
  z46 := Tryz.sizeOf113
  v46 := Tryz.zeroValue113
  t51 := Tryz.underlying61
  a51 := Tryz.isAgg61
  z51 := Tryz.sizeOf61
  v51 := Tryz.zeroValue61
  t53 := Tryz.underlying107
  a53 := Tryz.isAgg107
  z53 := Tryz.sizeOf107
  v53 := Tryz.zeroValue107
  t171 := Tryz.underlying145
  a171 := Tryz.isAgg145
  z171 := Tryz.sizeOf145
  v171 := Tryz.zeroValue145
  t173 := Tryz.underlying147
  a173 := Tryz.isAgg147
  z173 := Tryz.sizeOf147
  v173 := Tryz.zeroValue147
  t212 := Tryz.underlying175
  a212 := Tryz.isAgg175
  z212 := Tryz.sizeOf175
  v212 := Tryz.zeroValue175
  t213 := Tryz.underlying176
  a213 := Tryz.isAgg176
  z213 := Tryz.sizeOf176
  t232 := Tryz.underlying189
  a232 := Tryz.isAgg189
  z232 := Tryz.sizeOf189
  v232 := Tryz.zeroValue189
  t233 := Tryz.underlying190
  a233 := Tryz.isAgg190
  z233 := Tryz.sizeOf190
  v233 := Tryz.zeroValue190
  g17 := by kernel_rfl
  g18 := by kernel_rfl
  g19 := by kernel_rfl
  i0 := by kernel_rfl
  i2 := by kernel_rfl
  i3 := by kernel_rfl
  i4 := by kernel_rfl
  i5 := by kernel_rfl
  i9 := by kernel_rfl
  i20 := by kernel_rfl
  i37 := by kernel_rfl
  i46 := by kernel_rfl
  i51 := by kernel_rfl
  i53 := by kernel_rfl
  i171 := by kernel_rfl
  i173 := by kernel_rfl
  i212 := by kernel_rfl
  i232 := by kernel_rfl
  i233 := by kernel_rfl
  m17 := by kernel_rfl
  m18 := by kernel_rfl
  m19 := by kernel_rfl }
open Go.RowKit Go.Sort Go.Lib in
theorem Tryz.strconv_Itoa (n : Int) (h0 : -9223372036854775808 ≤ n) (h1 : n ≤ 9223372036854775807) (w : World) (htab : Lib.TabIs Tryz.prog w "internal/strconv.uint64pow10" .u64 Lib.pow10Tab) :
    Calls Tryz.prog 55 #[.int .i64 n] w fun e w' => e = .returned (.string ⟨(Lib.itoa n).toArray⟩) ∧ ∃ k os, w' = grow (w.drewN k) os := Any.strconv_Itoa Tryz.laysM171 n h0 h1 w htab
def Tryz.lays189_ren : Go.Shelf.Ren := ⟨fun | 189 => 77 | 125 => 80 | 257 => 93 | 128 => 103 | 129 => 104 | 294 => 117 | 295 => 118 | 296 => 119 | 297 => 120 | 298 => 121 | 299 => 122 | 216 => 123 | 300 => 124 | 301 => 125 | 328 => 152 | 329 => 127 | 330 => 128 | 331 => 153 | 332 => 154 | 215 => 112 | 343 => 168 | n => n, fun | 28 => 99 | 3 => 3 | 46 => 113 | 0 => 0 | 51 => 61 | 53 => 107 | 4 => 4 | 183 => 131 | 182 => 130 | 131 => 120 | 5 => 5 | 9 => 9 | 218 => 155 | 222 => 159 | 228 => 179 | 229 => 180 | n => n, fun | n => n⟩
theorem Tryz.lays189 : Go.Proofs.Lays.n189 Tryz.prog Tryz.lays189_ren := {
  mixed := by kernel_rfl
  f125 := Tryz.func80.trans (congrArg some (by kernel_rfl))
  f128 := Tryz.func103.trans (congrArg some (by kernel_rfl))
  f129 := Tryz.func104.trans (congrArg some (by kernel_rfl))
  f189 := Tryz.func77.trans (congrArg some (by kernel_rfl))
  f215 := Tryz.func112.trans (congrArg some (by kernel_rfl))
  f216 := Tryz.func123.trans (congrArg some (by kernel_rfl))
  f257 := Tryz.func93.trans (congrArg some (by kernel_rfl))
  f294 := Tryz.func117.trans (congrArg some (by kernel_rfl))
  f295 := Tryz.func118.trans (congrArg some (by kernel_rfl))
  f296 := Tryz.func119.trans (congrArg some (by kernel_rfl))
  f297 := Tryz.func120.trans (congrArg some (by kernel_rfl))
  f298 := Tryz.func121.trans (congrArg some (by kernel_rfl))
  f299 := Tryz.func122.trans (congrArg some (by kernel_rfl))
  f300 := Tryz.func124.trans (congrArg some (by kernel_rfl))
  f301 := Tryz.func125.trans (congrArg some (by kernel_rfl))
  f328 := Tryz.func152.trans (congrArg some (by kernel_rfl))
  f329 := Tryz.func127.trans (congrArg some (by kernel_rfl))
  f330 := Tryz.func128.trans (congrArg some (by kernel_rfl))
  f331 := Tryz.func153.trans (congrArg some (by kernel_rfl))
  f332 := Tryz.func154.trans (congrArg some (by kernel_rfl))
  f343 := Tryz.func168.trans (congrArg some (by kernel_rfl))
  t0 := Tryz.underlying0
  a0 := Tryz.isAgg0
  z0 := Tryz.sizeOf0
  v0 := Tryz.zeroValue0
  t3 := Tryz.underlying3
  a3 := Tryz.isAgg3
  z3 := Tryz.sizeOf3
  v3 := Tryz.zeroValue3
  t4 := Tryz.underlying4
  a4 := Tryz.isAgg4
  z4 := Tryz.sizeOf4
  v4 := Tryz.zeroValue4
  t5 := Tryz.underlying5
  a5 := Tryz.isAgg5
  z5 := Tryz.sizeOf5
  v5 := Tryz.zeroValue5
  t9 := Tryz.underlying9
  a9 := Tryz.isAgg9
  z9 := Tryz.sizeOf9
  v9 := Tryz.zeroValue9
  t28 := Tryz.underlying99
  a28 := Tryz.isAgg99
  z28 := Tryz.sizeOf99
  v28 := Tryz.zeroValue99
  t46 := Tryz.underlying113
  a46 := Tryz.isAgg113
  z46 := Tryz.sizeOf113
  v46 := Tryz.zeroValue113
  t51 := Tryz.underlying61
  a51 := Tryz.isAgg61
  z51 := Tryz.sizeOf61
  v51 := Tryz.zeroValue61
  t53 := Tryz.underlying107
  a53 := Tryz.isAgg107
  z53 := Tryz.sizeOf107
  v53 := Tryz.zeroValue107
  t131 := Tryz.underlying120
  a131 := Tryz.isAgg120
  z131 := Tryz.sizeOf120
  v131 := Tryz.zeroValue120
  t182 := Tryz.underlying130
  a182 := Tryz.isAgg130
  z182 := Tryz.sizeOf130
  v182 := Tryz.zeroValue130
  t183 := Tryz.underlying131
  a183 := Tryz.isAgg131
  z183 := Tryz.sizeOf131
  v183 := Tryz.zeroValue131
  t218 := Tryz.underlying155
  a218 := Tryz.isAgg155
  z218 := Tryz.sizeOf155
  v218 := Tryz.zeroValue155
  t222 := Tryz.underlying159
  a222 := Tryz.isAgg159
  z222 := Tryz.sizeOf159
  v222 := Tryz.zeroValue159
  t228 := Tryz.underlying179
  a228 := Tryz.isAgg179
  z228 := Tryz.sizeOf179
  v228 := Tryz.zeroValue179
  t229 := Tryz.underlying180
  a229 := Tryz.isAgg180
  z229 := Tryz.sizeOf180
  v229 := Tryz.zeroValue180 }
open Go.Sort Go.RowKit in
theorem Tryz.slices_Sort_int (blk off cap : Nat) (zs : List Int) (w : World) (hH : Holds (Value.int .i64) w blk off zs.toArray) (hblk : blk < w.heap.size) (hsz : zs.length < 4611686018427387904) :
    Calls Tryz.prog 77 #[.slice (some ⟨blk, off, none⟩) zs.length cap] w fun e w' =>
      e = .returned (.tuple #[]) ∧ ∃ n os, w' = grow (putRow (Value.int .i64) (Sort.ahead w n) blk off (zs.mergeSort fun x y => decide (x ≤ y)).toArray) os := Any.slices_Sort_int Tryz.lays189 blk off cap zs w hH hblk hsz
def Tryz.lays190_ren : Go.Shelf.Ren := ⟨fun | 190 => 63 | 125 => 80 | 258 => 79 | 128 => 103 | 129 => 104 | 302 => 94 | 303 => 95 | 304 => 96 | 305 => 97 | 306 => 98 | 307 => 99 | 308 => 100 | 309 => 101 | 310 => 102 | 333 => 126 | 329 => 127 | 330 => 128 | 334 => 129 | 335 => 130 | 336 => 131 | 344 => 155 | n => n, fun | 31 => 41 | 9 => 9 | 3 => 3 | 46 => 113 | 0 => 0 | 51 => 61 | 53 => 107 | 4 => 4 | 183 => 131 | 182 => 130 | 131 => 120 | 5 => 5 | 218 => 155 | 222 => 159 | 228 => 179 | 229 => 180 | n => n, fun | n => n⟩
theorem Tryz.lays190 : Go.Proofs.Lays.n190 Tryz.prog Tryz.lays190_ren := {
  mixed := by kernel_rfl
  f125 := Tryz.func80.trans (congrArg some (by kernel_rfl))
  f128 := Tryz.func103.trans (congrArg some (by kernel_rfl))
  f129 := Tryz.func104.trans (congrArg some (by kernel_rfl))
  f190 := Tryz.func63.trans (congrArg some (by kernel_rfl))
  f258 := Tryz.func79.trans (congrArg some (by kernel_rfl))
  f302 := Tryz.func94.trans (congrArg some (by kernel_rfl))
  f303 := Tryz.func95.trans (congrArg some (by kernel_rfl))
  f304 := Tryz.func96.trans (congrArg some (by kernel_rfl))
  f305 := Tryz.func97.trans (congrArg some (by kernel_rfl))
  f306 := Tryz.func98.trans (congrArg some (by kernel_rfl))
  f307 := Tryz.func99.trans (congrArg some (by kernel_rfl))
  f308 := Tryz.func100.trans (congrArg some (by kernel_rfl))
  f309 := Tryz.func101.trans (congrArg some (by kernel_rfl))
  f310 := Tryz.func102.trans (congrArg some (by kernel_rfl))
  f329 := Tryz.func127.trans (congrArg some (by kernel_rfl))
  f330 := Tryz.func128.trans (congrArg some (by kernel_rfl))
  f333 := Tryz.func126.trans (congrArg some (by kernel_rfl))
  f334 := Tryz.func129.trans (congrArg some (by kernel_rfl))
  f335 := Tryz.func130.trans (congrArg some (by kernel_rfl))
  f336 := Tryz.func131.trans (congrArg some (by kernel_rfl))
  f344 := Tryz.func155.trans (congrArg some (by kernel_rfl))
  t0 := Tryz.underlying0
  a0 := Tryz.isAgg0
  z0 := Tryz.sizeOf0
  v0 := Tryz.zeroValue0
  t3 := Tryz.underlying3
  a3 := Tryz.isAgg3
  z3 := Tryz.sizeOf3
  v3 := Tryz.zeroValue3
  t4 := Tryz.underlying4
  a4 := Tryz.isAgg4
  z4 := Tryz.sizeOf4
  v4 := Tryz.zeroValue4
  t5 := Tryz.underlying5
  a5 := Tryz.isAgg5
  z5 := Tryz.sizeOf5
  v5 := Tryz.zeroValue5
  t9 := Tryz.underlying9
  a9 := Tryz.isAgg9
  z9 := Tryz.sizeOf9
  v9 := Tryz.zeroValue9
  t31 := Tryz.underlying41
  a31 := Tryz.isAgg41
  z31 := Tryz.sizeOf41
  v31 := Tryz.zeroValue41
  t46 := Tryz.underlying113
  a46 := Tryz.isAgg113
  z46 := Tryz.sizeOf113
  v46 := Tryz.zeroValue113
  t51 := Tryz.underlying61
  a51 := Tryz.isAgg61
  z51 := Tryz.sizeOf61
  v51 := Tryz.zeroValue61
  t53 := Tryz.underlying107
  a53 := Tryz.isAgg107
  z53 := Tryz.sizeOf107
  v53 := Tryz.zeroValue107
  t131 := Tryz.underlying120
  a131 := Tryz.isAgg120
  z131 := Tryz.sizeOf120
  v131 := Tryz.zeroValue120
  t182 := Tryz.underlying130
  a182 := Tryz.isAgg130
  z182 := Tryz.sizeOf130
  v182 := Tryz.zeroValue130
  t183 := Tryz.underlying131
  a183 := Tryz.isAgg131
  z183 := Tryz.sizeOf131
  v183 := Tryz.zeroValue131
  t218 := Tryz.underlying155
  a218 := Tryz.isAgg155
  z218 := Tryz.sizeOf155
  v218 := Tryz.zeroValue155
  t222 := Tryz.underlying159
  a222 := Tryz.isAgg159
  z222 := Tryz.sizeOf159
  v222 := Tryz.zeroValue159
  t228 := Tryz.underlying179
  a228 := Tryz.isAgg179
  z228 := Tryz.sizeOf179
  v228 := Tryz.zeroValue179
  t229 := Tryz.underlying180
  a229 := Tryz.isAgg180
  z229 := Tryz.sizeOf180
  v229 := Tryz.zeroValue180 }
open Go.Sort Go.RowKit in
theorem Tryz.slices_Sort_string (blk off cap : Nat) (ss : List (List UInt8)) (w : World) (hH : Holds encStr w blk off ss.toArray) (hblk : blk < w.heap.size) (hsz : ss.length < 4611686018427387904) :
    Calls Tryz.prog 63 #[.slice (some ⟨blk, off, none⟩) ss.length cap] w fun e w' =>
      e = .returned (.tuple #[]) ∧ ∃ n os, w' = grow (putRow encStr (Sort.ahead w n) blk off (ss.mergeSort fun x y => decide (x ≤ y)).toArray) os := Any.slices_Sort_string Tryz.lays190 blk off cap ss w hH hblk hsz
open Go.RowKit Go.Lib in
open Go.RowKit Go.Lib in
open Go.RowKit Go.Lib in
def Tryz.laysNm220_ren : Go.Shelf.Ren := ⟨fun | 20 => 78 | n => n, fun | 22 => 99 | 3 => 3 | 4 => 4 | 0 => 0 | n => n, fun | n => n⟩
theorem Tryz.laysNm220 : Go.Proofs.Lays2.n20 Tryz.prog Tryz.laysNm220_ren := {
  mixed := by kernel_rfl
  f20 := Tryz.func78.trans (congrArg some (by kernel_rfl))
  t0 := Tryz.underlying0
  a0 := Tryz.isAgg0
  z0 := Tryz.sizeOf0
  v0 := Tryz.zeroValue0
  t3 := Tryz.underlying3
  a3 := Tryz.isAgg3
  z3 := Tryz.sizeOf3
  v3 := Tryz.zeroValue3
  t4 := Tryz.underlying4
  a4 := Tryz.isAgg4
  z4 := Tryz.sizeOf4
  v4 := Tryz.zeroValue4
  t22 := Tryz.underlying99
  a22 := Tryz.isAgg99
  z22 := Tryz.sizeOf99
  v22 := Tryz.zeroValue99
  i3 := by kernel_rfl }
open Go.RowKit Go.Lib Go.Sort in
theorem Tryz.slices_Compact_int (blk off cap : Nat) (zs : List Int) (w : World) (hH : Holds (Value.int .i64) w blk off zs.toArray) (hsz : zs.length ≤ 9223372036854775807) (hcap : zs.length ≤ cap) :
    Calls Tryz.prog 78 #[.slice (some ⟨blk, off, none⟩) zs.length cap] w fun e w' => e = .returned (.slice (some ⟨blk, off, none⟩) (Lib.compact zs).length cap) ∧ ∃ q, w' = putRow (Value.int .i64) (Sort.ahead w q) blk off (Lib.compact zs ++ List.replicate (zs.length - (Lib.compact zs).length) 0).toArray := Any.slices_Compact_int Tryz.laysNm220 blk off cap zs w hH hsz hcap
open Go.RowKit Go.Lib Go.Sort in
theorem Tryz.slices_Compact_int_empty (a : Option Addr) (cap : Nat) (w : World) :
    Calls Tryz.prog 78 #[.slice a 0 cap] w fun e w' => e = .returned (.slice a 0 cap) ∧ w' = w := Any.slices_Compact_int_empty Tryz.laysNm220 a cap w
def Tryz.lays194_ren : Go.Shelf.Ren := ⟨fun | 194 => 64 | n => n, fun | 31 => 41 | 9 => 9 | 3 => 3 | 4 => 4 | 0 => 0 | n => n, fun | n => n⟩
theorem Tryz.lays194 : Go.Proofs.Lays.n194 Tryz.prog Tryz.lays194_ren := {
  mixed := by kernel_rfl
  f194 := Tryz.func64.trans (congrArg some (by kernel_rfl))
  t0 := Tryz.underlying0
  a0 := Tryz.isAgg0
  z0 := Tryz.sizeOf0
  v0 := Tryz.zeroValue0
  t3 := Tryz.underlying3
  a3 := Tryz.isAgg3
  z3 := Tryz.sizeOf3
  v3 := Tryz.zeroValue3
  t4 := Tryz.underlying4
  a4 := Tryz.isAgg4
  z4 := Tryz.sizeOf4
  v4 := Tryz.zeroValue4
  t9 := Tryz.underlying9
  a9 := Tryz.isAgg9
  z9 := Tryz.sizeOf9
  v9 := Tryz.zeroValue9
  t31 := Tryz.underlying41
  a31 := Tryz.isAgg41
  z31 := Tryz.sizeOf41
  v31 := Tryz.zeroValue41 }
open Go.RowKit Go.Lib Go.Sort in
theorem Tryz.slices_Compact_string (blk off cap : Nat) (zs : List (List UInt8)) (w : World) (hH : Holds encStr w blk off zs.toArray) (hsz : zs.length ≤ 9223372036854775807) (hcap : zs.length ≤ cap) :
    Calls Tryz.prog 64 #[.slice (some ⟨blk, off, none⟩) zs.length cap] w fun e w' => e = .returned (.slice (some ⟨blk, off, none⟩) (Lib.compact zs).length cap) ∧ ∃ q, w' = putRow encStr (Sort.ahead w q) blk off (Lib.compact zs ++ List.replicate (zs.length - (Lib.compact zs).length) []).toArray := Any.slices_Compact_string Tryz.lays194 blk off cap zs w hH hsz hcap
open Go.RowKit Go.Lib Go.Sort in
theorem Tryz.slices_Compact_string_empty (a : Option Addr) (cap : Nat) (w : World) :
    Calls Tryz.prog 64 #[.slice a 0 cap] w fun e w' => e = .returned (.slice a 0 cap) ∧ w' = w := Any.slices_Compact_string_empty Tryz.lays194 a cap w
open Go.RowKit Go.Sort in
theorem Tryz.slices_Sort_string_none (p : Option Addr) (cap : Nat) (w : World) :
    Calls Tryz.prog 63 #[.slice p 0 cap] w fun e w' => e = .returned (.tuple #[]) ∧ w' = w := Any.slices_Sort_string_none Tryz.lays190 p cap w
open Go.RowKit Go.Sort in
theorem Tryz.slices_Sort_int_none (p : Option Addr) (cap : Nat) (w : World) :
    Calls Tryz.prog 77 #[.slice p 0 cap] w fun e w' => e = .returned (.tuple #[]) ∧ w' = w := Any.slices_Sort_int_none Tryz.lays189 p cap w
end Go.Proofs
namespace Go.Proofs.YtbaijjclofekcaaGreatDoor
open Go.RowKit
theorem lt_less : ∀ a b : St, a < b ↔ Op.bytesLess a b = true
  | [], [] => by simp [Op.bytesLess]
  | [], _ :: _ => by simp [Op.bytesLess]
  | _ :: _, [] => by simp [Op.bytesLess]
  | x :: a, y :: b => by
    rw [List.cons_lt_cons_iff, lt_less a b]
    simp [Op.bytesLess]
theorem le_less {a b : St} (h : a ≤ b) : Op.bytesLess a b = true ∨ a = b := by
  rcases lessB_tri a b with h1 | h1 | h1
  · exact Or.inl h1
  · exact Or.inr h1
  · exact absurd ((lt_less b a).2 h1) (List.not_lt.2 h)
theorem risesS_concat : ∀ (l : List St) (x : St), risesS l → (∀ y ∈ l, Op.bytesLess y x = true) → risesS (l ++ [x])
  | [], x, _, _ => ⟨fun b h => by simp at h, trivial⟩
  | a :: l, x, ⟨h1, h2⟩, h => by
    refine ⟨fun b hb => ?_, risesS_concat l x h2 (fun y hy => h y (by simp [hy]))⟩
    rcases List.mem_append.1 hb with hb | hb
    · exact h1 b hb
    · simp at hb; rw [hb]; exact h a (by simp)
theorem compact_upto (d : Array St) (hs : ∀ i j, i < j → j < d.size → d[i]! ≤ d[j]!) : ∀ m, m ≤ d.size → risesS (Lib.compactUpTo d m) ∧ (∀ x, x ∈ Lib.compactUpTo d m ↔ ∃ j, j < m ∧ d[j]! = x) ∧ (Lib.compactUpTo d m).length ≤ m
  | 0, _ => by
    refine ⟨trivial, fun x => ?_, by simp [Lib.compactUpTo]⟩
    simp [Lib.compactUpTo]
  | m + 1, hm => by
    obtain ⟨h1, h2, h3⟩ := compact_upto d hs m (by omega)
    rw [Lib.compactUpTo_succ]
    cases hk : Lib.keeps d m
    · have hk' : ¬ (m = 0 ∨ d[m]! ≠ d[m - 1]!) := by
        unfold Lib.keeps at hk
        exact of_decide_eq_false hk
      have h0 : m ≠ 0 := fun e => hk' (Or.inl e)
      have he : d[m]! = d[m - 1]! := Classical.byContradiction fun e => hk' (Or.inr e)
      rw [if_neg (by simp), List.append_nil]
      refine ⟨h1, fun x => ?_, by omega⟩
      rw [h2 x]
      constructor
      · rintro ⟨j, hj, e⟩; exact ⟨j, by omega, e⟩
      · rintro ⟨j, hj, e⟩
        by_cases hjm : j = m
        · subst hjm; exact ⟨j - 1, by omega, by rw [← he]; exact e⟩
        · exact ⟨j, by omega, e⟩
    · have hk' : m = 0 ∨ d[m]! ≠ d[m - 1]! := by
        unfold Lib.keeps at hk
        exact of_decide_eq_true hk
      rw [if_pos rfl]
      refine ⟨risesS_concat _ _ h1 (fun y hy => ?_), fun x => ?_, by simp; omega⟩
      · obtain ⟨j, hj, rfl⟩ := (h2 y).1 hy
        have hne : d[m]! ≠ d[m - 1]! := by
          rcases hk' with e | e
          · omega
          · exact e
        have hA : Op.bytesLess d[m - 1]! d[m]! = true := by
          rcases le_less (hs (m - 1) m (by omega) (by omega)) with h | h
          · exact h
          · exact absurd h.symm hne
        by_cases hjm : j = m - 1
        · rw [hjm]; exact hA
        · rcases le_less (hs j (m - 1) (by omega) (by omega)) with h | h
          · exact lessB_trans _ _ _ h hA
          · rw [h]; exact hA
      · rw [List.mem_append, h2 x]
        constructor
        · rintro (⟨j, hj, e⟩ | h)
          · exact ⟨j, by omega, e⟩
          · simp at h; exact ⟨m, by omega, by simp [h]⟩
        · rintro ⟨j, hj, e⟩
          by_cases hjm : j = m
          · subst hjm; exact Or.inr (by simp [e])
          · exact Or.inl ⟨j, by omega, e⟩
theorem compact_sorted (zs : List St) : risesS (Lib.compact (zs.mergeSort fun x y => decide (x ≤ y))) ∧ (∀ x, x ∈ Lib.compact (zs.mergeSort fun x y => decide (x ≤ y)) ↔ x ∈ zs) ∧ (Lib.compact (zs.mergeSort fun x y => decide (x ≤ y))).length ≤ zs.length := by
  have tr : ∀ a b c : St, decide (a ≤ b) = true → decide (b ≤ c) = true → decide (a ≤ c) = true := fun a b c h1 h2 => by
    simp only [decide_eq_true_eq] at *; exact List.le_trans h1 h2
  have tot : ∀ a b : St, (decide (a ≤ b) || decide (b ≤ a)) = true := fun a b => by
    simp only [Bool.or_eq_true, decide_eq_true_eq]; exact List.le_total a b
  have hp := List.pairwise_mergeSort tr tot zs
  have hm := List.mergeSort_perm zs (fun x y => decide (x ≤ y))
  generalize zs.mergeSort (fun x y => decide (x ≤ y)) = ts at hp hm ⊢
  have hg : ∀ j, j < ts.length → ts.toArray[j]! = ts.getD j [] := fun j hj => by simp [List.getD_eq_getElem?_getD, hj]
  obtain ⟨h1, h2, h3⟩ := compact_upto ts.toArray (fun i j hij hj => by
    have hj' : j < ts.length := by simpa using hj
    rw [hg i (by omega), hg j hj']
    have := List.pairwise_iff_getElem.1 hp i j (by omega) hj' hij
    simpa [List.getD_eq_getElem?_getD, hj', show i < ts.length by omega] using this) ts.length (by simp)
  refine ⟨h1, fun x => ?_, by have := hm.length_eq; unfold Lib.compact; omega⟩
  rw [← hm.mem_iff]
  unfold Lib.compact
  rw [h2 x]
  constructor
  · rintro ⟨j, hj, e⟩
    rw [← e, hg j hj, List.getD_eq_getElem?_getD, List.getElem?_eq_getElem hj]
    exact List.getElem_mem _
  · intro h
    obtain ⟨j, hj, e⟩ := List.getElem_of_mem h
    exact ⟨j, hj, by rw [hg j hj, List.getD_eq_getElem?_getD, List.getElem?_eq_getElem hj]; exact e⟩
def ofSt (l : St) : ByteArray := ⟨l.toArray⟩
theorem ofSt_toList (l : St) : (ofSt l).toList = l := by rw [ByteArray.toList_eq]; rfl
theorem data_toList (s : ByteArray) : s.data.toList = s.toList := (ByteArray.toList_eq s).symm
theorem map_ofSt (l : List St) : (l.map ofSt).map Value.string = l.map encStr := by rw [List.map_map]; rfl
end Go.Proofs.YtbaijjclofekcaaGreatDoor
namespace Go.Proofs.YtbaijjclofekcaaGreatDoor
open Go.RowKit
open Go.Sort
theorem compact_len {α : Type} [Inhabited α] [DecidableEq α] (l : List α) : (Lib.compact l).length ≤ l.length := by
  unfold Lib.compact Lib.compactUpTo
  rw [List.length_map]
  exact Nat.le_trans (List.length_filter_le _ _) (by simp)
theorem putRow_grown {α : Type} [Inhabited α] (enc : α → Value) (w : World) (q g : Nat) (d : Array α) : w.grownBy (Sort.putRow enc (Sort.ahead w q) g 0 d) (some g) := by
  refine ⟨rfl, rfl, rfl, by simp [Sort.putRow, Sort.mapBlock, Sort.ahead], fun k hk hne => ?_⟩
  have : g ≠ k := fun e => hne (by rw [e])
  simp [Sort.putRow, Sort.mapBlock, Sort.ahead, Array.getElem?_modify, this]
theorem grow_below (w : World) (os : Array Obj) : Below w.heap.size w (Sort.grow w os) :=
  ⟨rfl, rfl, rfl, by simp, fun k hk => Sort.heap_grow_old _ _ hk⟩
theorem OwnS.st {w : World} {B : Nat} {v : Value} {l : List ByteArray} (h : OwnS w B v l) : w.ownsRow B 9 1 v l.length ((l.map (·.data.toList)).map encStr) := by
  rw [Lib.map_encStr]; exact h
set_option maxHeartbeats 1000000 in
theorem sortS_any (v : Value) (l : List ByteArray) (B : Nat) (w : World) (h : OwnS w B v l) (hl : l.length ≤ 1000000) (hB : B ≤ w.heap.size) :
    Calls Tryz.prog 63 #[v] w fun r w' => r = .returned (.tuple #[]) ∧ OwnS w' B v (((l.map (·.data.toList)).mergeSort fun x y => decide (x ≤ y)).map ofSt) ∧ w.grownBy w' v.ownBlock := by
  have hs := h.st
  generalize hz : l.map (·.data.toList) = zs at hs
  have hzl : l.length = zs.length := by rw [← hz]; simp
  rw [hzl] at hs hl
  have hml : (zs.mergeSort fun x y => decide (x ≤ y)).length = zs.length := List.length_mergeSort _
  generalize hts : zs.mergeSort (fun x y => decide (x ≤ y)) = ts at hml
  rcases hs.2 with ⟨rfl, h0⟩ | ⟨g, cap, cur, rfl, hg, hcur, hcap, hmx, hcs, hct⟩
  · have hz0 : zs = [] := List.eq_nil_of_length_eq_zero h0
    subst hz0
    refine (Tryz.slices_Sort_string_none none 0 w).mono ?_
    rintro r w' ⟨rfl, rfl⟩
    refine ⟨rfl, ?_, grown_refl _ _⟩
    have : ts = [] := List.eq_nil_of_length_eq_zero hml
    subst this
    exact ownS_none _ _
  · refine (Tryz.slices_Sort_string g 0 cap zs w (holds_of_block hcur (by rw [Nat.mul_one] at hct; exact hct)) (lt_heap hcur) (by omega)).mono ?_
    rintro r w' ⟨rfl, n, os, rfl⟩
    rw [hts]
    refine ⟨rfl, ?_, grownBy_sorted ts.toArray⟩
    have := ownsRow_sorted (w := w) (n := n) (os := os) hml hg hcur hcap hmx hcs
    unfold OwnS
    rw [map_ofSt, List.length_map, hml]
    exact this
set_option maxHeartbeats 1000000 in
theorem compactS_any (v : Value) (ts : List St) (B : Nat) (w : World) (h : OwnS w B v (ts.map ofSt)) (hl : ts.length ≤ 1000000) (hB : B ≤ w.heap.size) :
    Calls Tryz.prog 64 #[v] w fun r w' => (∃ u, r = .returned u ∧ OwnS w' B u ((Lib.compact ts).map ofSt)) ∧ w.grownBy w' v.ownBlock := by
  have hs : w.ownsRow B 9 1 v ts.length (ts.map encStr) := by
    have := h
    unfold OwnS at this
    rw [map_ofSt, List.length_map] at this
    exact this
  rcases hs.2 with ⟨rfl, h0⟩ | ⟨g, cap, cur, rfl, hg, hcur, hcap, hmx, hcs, hct⟩
  · have hz0 : ts = [] := List.eq_nil_of_length_eq_zero h0
    subst hz0
    refine (Tryz.slices_Compact_string_empty none 0 w).mono ?_
    rintro r w' ⟨rfl, rfl⟩
    exact ⟨⟨_, rfl, ownS_none _ _⟩, grown_refl _ _⟩
  · have hcl : (Lib.compact ts).length ≤ ts.length := compact_len ts
    refine (Tryz.slices_Compact_string g 0 cap ts w (holds_of_block hcur (by rw [Nat.mul_one] at hct; exact hct)) (by omega) (by omega)).mono ?_
    rintro r w' ⟨rfl, q, rfl⟩
    have hyl : (Lib.compact ts ++ List.replicate (ts.length - (Lib.compact ts).length) []).length = ts.length := by simp; omega
    have O := Lib.ownsRow_putRow (q := q) hs hyl hcl
    rw [List.take_append_of_le_length (Nat.le_refl _), List.take_length] at O
    refine ⟨⟨_, rfl, ?_⟩, ?_⟩
    · unfold OwnS
      rw [map_ofSt, List.length_map]
      exact O
    · exact putRow_grown encStr w q g _
theorem RowN.holds {w : World} {B g n cap : Nat} {l : List Int} (h : RowN w B (.slice (some ⟨g, 0, none⟩) n cap) l) : Holds (Value.int .i64) w g 0 l.toArray := by
  have hn : n = l.length := by
    rcases h.2 with ⟨e, _⟩ | ⟨g', cap', cur, e, _⟩
    · cases e
    · injection e
  subst hn
  obtain ⟨g', cap', e, _, _, _, _, _, hH⟩ := Lib.holds_of_ownsRow h (by simp)
  injection e with e1 e2 e3
  injection e1 with e1
  injection e1 with e1
  subst e1
  exact hH
set_option maxHeartbeats 1000000 in
theorem sortN_any (v : Value) (l : List Int) (B : Nat) (w : World) (h : RowN w B v l) (hl : l.length ≤ 1000000) (hB : B ≤ w.heap.size) :
    Calls Tryz.prog 77 #[v] w fun r w' => r = .returned (.tuple #[]) ∧ RowN w' B v (l.mergeSort fun x y => decide (x ≤ y)) ∧ w.grownBy w' v.ownBlock := by
  have hml : (l.mergeSort fun x y => decide (x ≤ y)).length = l.length := List.length_mergeSort _
  have hs := h
  rcases h.2 with ⟨rfl, h0⟩ | ⟨g, cap, cur, rfl, hg, hcur, hcap, hmx, hcs, hct⟩
  · have hz0 : l = [] := List.eq_nil_of_length_eq_zero h0
    subst hz0
    refine (Tryz.slices_Sort_int_none none 0 w).mono ?_
    rintro r w' ⟨rfl, rfl⟩
    exact ⟨rfl, by rw [List.mergeSort_nil]; exact h, grown_refl _ _⟩
  · refine (Tryz.slices_Sort_int g 0 cap l w hs.holds (lt_heap hcur) (by omega)).mono ?_
    rintro r w' ⟨rfl, n, os, rfl⟩
    have O := Lib.ownsRow_putRow (q := n) hs hml (Nat.le_refl _)
    rw [List.take_of_length_le (by omega)] at O
    refine ⟨rfl, ?_, ?_⟩
    · unfold RowN
      rw [hml]
      exact ownsRow_on O (grow_below _ os)
    · exact grown_below (putRow_grown (Value.int .i64) w n g _) (grow_below _ os)
set_option maxHeartbeats 1000000 in
theorem compactN_any (v : Value) (l : List Int) (B : Nat) (w : World) (h : RowN w B v l) (hl : l.length ≤ 1000000) (hB : B ≤ w.heap.size) :
    Calls Tryz.prog 78 #[v] w fun r w' => (∃ u, r = .returned u ∧ RowN w' B u (Lib.compact l)) ∧ w.grownBy w' v.ownBlock := by
  have hs := h
  rcases h.2 with ⟨rfl, h0⟩ | ⟨g, cap, cur, rfl, hg, hcur, hcap, hmx, hcs, hct⟩
  · have hz0 : l = [] := List.eq_nil_of_length_eq_zero h0
    subst hz0
    refine (Tryz.slices_Compact_int_empty none 0 w).mono ?_
    rintro r w' ⟨rfl, rfl⟩
    exact ⟨⟨_, rfl, h⟩, grown_refl _ _⟩
  · have hcl : (Lib.compact l).length ≤ l.length := compact_len l
    refine (Tryz.slices_Compact_int g 0 cap l w hs.holds (by omega) (by omega)).mono ?_
    rintro r w' ⟨rfl, q, rfl⟩
    have hyl : (Lib.compact l ++ List.replicate (l.length - (Lib.compact l).length) 0).length = l.length := by simp; omega
    have O := Lib.ownsRow_putRow (q := q) hs hyl hcl
    rw [List.take_append_of_le_length (Nat.le_refl _), List.take_length] at O
    exact ⟨⟨_, rfl, O⟩, putRow_grown (Value.int .i64) w q g _⟩
end Go.Proofs.YtbaijjclofekcaaGreatDoor
