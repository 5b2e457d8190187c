/-
  The program's asksNothing and rightPart.
-/
import Derived.Test.YtoplmioejebnnaaEA
import Derived.Test.YtoplmioejebnnaaXC
set_option linter.unusedSimpArgs false
set_option linter.unusedVariables false
namespace Go.Proofs.Ytoplmioejebnnaa
open Go.RowKit

theorem ecCells1 {w : World} {g : Nat} {t : TypeId} {x0 x1 x2 x3 x4 x5 x6 : Value} (h : w.heap[g]? = some (.cells #[x0, x1, x2, x3, x4, x5, x6] t (0, 0))) : w.cell? ⟨g, 0, none⟩ = some x0 ∧ w.cell? ⟨g, 1, none⟩ = some x1 ∧ w.cell? ⟨g, 2, none⟩ = some x2 ∧ w.cell? ⟨g, 3, none⟩ = some x3 ∧ w.cell? ⟨g, 4, none⟩ = some x4 ∧ w.cell? ⟨g, 5, none⟩ = some x5 ∧ w.cell? ⟨g, 6, none⟩ = some x6 :=
  ⟨cell_heap h 0, cell_heap h 1, cell_heap h 2, cell_heap h 3, cell_heap h 4, cell_heap h 5, cell_heap h 6⟩
set_option maxHeartbeats 4000000 in
set_option maxRecDepth 100000 in
theorem asksNothing_any (c : EC) (x : ExV) (w : World) (hc : EcFor w c x) :
    Calls Try.prog 48 #[c.val] w fun r w' => r = .returned (.bool (decide (x.attr = 0) && sameB x.set noSet)) ∧ Below w.heap.size w w' := by
  have B0 := fun (o : Obj) => hide ((Below.refl _ w).alloc (Nat.le_refl _) o)
  have X := fun (o : Obj) => hide (same_any _ _ _ _ _ (hc.s.on (B0 o).out) (noSet_at (w.alloc o)))
  have HT := hide hc.t
  clear hc
  unfold SC.val at X
  by_cases h : c.t = 0
  · have E : Hid ((decide (x.attr = 0) && sameB x.set noSet) = sameB x.set noSet) := hide (by rw [← HT.out, h]; simp)
    have h' : (c.t == 0) = true := by rw [h]; rfl
    clear h HT
    unfold EC.val
    go_enter Try.func48, Try.ntmps48
    go_wp2_with fail
    refine (unhide (X _)).mono ?_
    rintro r w1 ⟨rfl, b1⟩
    have B1 := hide ((B0 _).out.trans (b1.mono (B0 _).out.size))
    clear X B0 b1
    go_wp2
    go_ret
    exact ⟨ret_bool E.out.symm, B1.out⟩
  · have E : Hid ((decide (x.attr = 0) && sameB x.set noSet) = false) := hide (by rw [← HT.out]; simp [h])
    have h' : (c.t == 0) = false := by simpa using h
    clear h HT X
    unfold EC.val
    go_enter Try.func48, Try.ntmps48
    go_wp2
    go_ret
    exact ⟨ret_bool E.out.symm, (B0 _).out⟩

set_option maxHeartbeats 4000000 in
set_option maxRecDepth 100000 in
theorem rightPart_atom (c : EC) (x : ExV) (w : World) (hc : EcFor w c x) (hk : c.k = 1) :
    Calls Try.prog 30 #[c.val] w fun r w' => r = .returned (.bool (nodeX x)) ∧ Below w.heap.size w w' := by
  have B0 := fun (o : Obj) => hide ((Below.refl _ w).alloc (Nat.le_refl _) o)
  have N0 := fun (o : Obj) => hide (heap_new w o)
  have X := fun (o : Obj) => hide (small_any _ _ _ (hc.s.on (B0 o).out))
  have Y := fun (W : World) (b : Below w.heap.size w W) => hide (setRight_any _ _ _ (hc.s.on b))
  have E : Hid (nodeX x = (decide (0 ≤ c.t ∧ c.t ≤ 3 ∧ c.n = 0) && (rightSet x.set && smallB x.set))) := hide (by
    unfold nodeX
    rw [if_pos (by rw [← hc.k, hk]), hc.t, hc.n])
  have big := hc.big
  have room := hc.room
  generalize nodeX x = R at E ⊢
  obtain ⟨ck, ct, cs, cp, cn, cc⟩ := c
  dsimp only at hk E big room
  subst hk
  clear hc
  unfold SC.val at X Y
  unfold EC.val
  dsimp only at X Y ⊢
  by_cases h0 : 0 ≤ ct
  · by_cases h3 : ct ≤ 3
    · have h4 : decide (ct < 4) = true := decide_eq_true (by omega)
      cases hs : smallB x.set
      · have E2 : Hid (R = false) := hide (by rw [E.out, hs]; simp)
        have hs' : (decide (x.set.ints.length ≤ 6) && decide (x.set.strs.length ≤ 6)) = false := hs
        rw [hs'] at X
        clear Y E
        go_enter Try.func30, Try.ntmps30
        go_wp2_with fail
        refine (unhide (X _)).mono ?_
        rintro r w1 ⟨rfl, b1⟩
        have B1 := hide ((B0 _).out.trans (b1.mono (B0 _).out.size))
        clear X B0 b1 N0
        go_wp2
        go_ret
        exact ⟨ret_bool E2.out.symm, B1.out⟩
      · have hs' : (decide (x.set.ints.length ≤ 6) && decide (x.set.strs.length ≤ 6)) = true := hs
        rw [hs'] at X
        cases hr : rightSet x.set
        · have E2 : Hid (R = false) := hide (by rw [E.out, hr]; simp)
          rw [hr] at Y
          clear E
          go_enter Try.func30, Try.ntmps30
          go_wp2_with fail
          refine (unhide (X _)).mono ?_
          rintro r w1 ⟨rfl, b1⟩
          have B1 := hide ((B0 _).out.trans (b1.mono (B0 _).out.size))
          obtain ⟨c0, c1, c2, c3, c4, c5, c6⟩ := ecCells1 ((b1.block w.heap.size (by simp)).trans (N0 _).out)
          have Y1 := Y _ B1.out
          clear X B0 b1 N0 Y
          go_wp2_with fail
          refine (unhide Y1).mono ?_
          rintro r w2 ⟨rfl, b2⟩
          have B2 := hide (B1.out.trans (b2.mono B1.out.size))
          clear Y1 b2 B1 c0 c1 c2 c3 c4 c5 c6
          go_wp2
          go_ret
          exact ⟨ret_bool E2.out.symm, B2.out⟩
        · have E2 : Hid (R = decide (cn = 0)) := hide (by rw [E.out, hr, hs]; simp [h0, h3])
          rw [hr] at Y
          clear E
          go_enter Try.func30, Try.ntmps30
          go_wp2_with fail
          refine (unhide (X _)).mono ?_
          rintro r w1 ⟨rfl, b1⟩
          have B1 := hide ((B0 _).out.trans (b1.mono (B0 _).out.size))
          have E1 := hide ((b1.block w.heap.size (by simp)).trans (N0 _).out)
          obtain ⟨c0, c1, c2, c3, c4, c5, c6⟩ := ecCells1 E1.out
          have Y1 := Y _ B1.out
          clear X B0 b1 N0 Y
          go_wp2_with fail
          refine (unhide Y1).mono ?_
          rintro r w2 ⟨rfl, b2⟩
          have B2 := hide (B1.out.trans (b2.mono B1.out.size))
          clear c0 c1 c2 c3 c4 c5 c6
          obtain ⟨c0, c1, c2, c3, c4, c5, c6⟩ := ecCells1 ((b2.block w.heap.size (lt_heap E1.out)).trans E1.out)
          clear Y1 b2 B1
          go_wp2
          go_ret
          exact ⟨ret_bool (by rw [E2.out]; by_cases hz : cn = 0 <;> simp [hz]), B2.out⟩
    · have h4 : decide (ct < 4) = false := decide_eq_false (by omega)
      have E2 : Hid (R = false) := hide (by rw [E.out]; simp; intro _ h; omega)
      clear X Y E
      go_enter Try.func30, Try.ntmps30
      go_wp2
      go_ret
      exact ⟨ret_bool E2.out.symm, (B0 _).out⟩
  · have h4 : decide (0 ≤ ct) = false := decide_eq_false h0
    have E2 : Hid (R = false) := hide (by rw [E.out]; simp; intro h; omega)
    clear X Y E
    go_enter Try.func30, Try.ntmps30
    go_wp2
    go_ret
    exact ⟨ret_bool E2.out.symm, (B0 _).out⟩

set_option maxHeartbeats 4000000 in
set_option maxRecDepth 100000 in
theorem rightPart_any (c : EC) (x : ExV) (w : World) (hc : EcFor w c x) :
    Calls Try.prog 30 #[c.val] w fun r w' => r = .returned (.bool (nodeX x)) ∧ Below w.heap.size w w' := by
  by_cases k1 : c.k = 1
  · exact rightPart_atom c x w hc k1
  have B0 := fun (o : Obj) => hide ((Below.refl _ w).alloc (Nat.le_refl _) o)
  have N0 := fun (o : Obj) => hide (heap_new w o)
  have X := fun (o : Obj) => hide (asksNothing_any c x _ (hc.on (B0 o).out))
  have big := hc.big
  have room := hc.room
  have hn := hc.n
  have hkk := hc.k
  have e1 : (c.k == 1) = false := by simpa using k1
  unfold EC.val at X
  by_cases k23 : c.k = 2 ∨ c.k = 3
  · have E : Hid (nodeX x = (decide (x.attr = 0) && sameB x.set noSet)) := hide (by
      unfold nodeX
      rw [if_neg (by rw [← hkk]; exact k1), if_pos (by rw [← hkk]; omega), show decide (x.kind = 4 → x.sub.length = 1) = true from decide_eq_true (fun h => absurd h (by rw [← hkk]; omega)), Bool.and_true])
    generalize nodeX x = R at E ⊢
    generalize (decide (x.attr = 0) && sameB x.set noSet) = Q at E X
    rcases k23 with k2 | k3
    · have e2 : (c.k == 2) = true := by rw [k2]; rfl
      clear k1 k2 hkk hn hc
      unfold EC.val
      go_enter Try.func30, Try.ntmps30
      go_wp2_with fail
      refine (unhide (X _)).mono ?_
      rintro r w1 ⟨rfl, b1⟩
      have B1 := hide ((B0 _).out.trans (b1.mono (B0 _).out.size))
      clear X B0 b1 N0
      go_wp2
      go_ret
      exact ⟨ret_bool E.out.symm, B1.out⟩
    · have e2 : (c.k == 2) = false := by rw [k3]; rfl
      have e3 : (c.k == 3) = true := by rw [k3]; rfl
      clear k1 k3 hkk hn hc
      unfold EC.val
      go_enter Try.func30, Try.ntmps30
      go_wp2_with fail
      refine (unhide (X _)).mono ?_
      rintro r w1 ⟨rfl, b1⟩
      have B1 := hide ((B0 _).out.trans (b1.mono (B0 _).out.size))
      clear X B0 b1 N0
      go_wp2
      go_ret
      exact ⟨ret_bool E.out.symm, B1.out⟩
  · have e2 : (c.k == 2) = false := by simp; omega
    have e3 : (c.k == 3) = false := by simp; omega
    by_cases k4 : c.k = 4
    · have e4 : (c.k == 4) = true := by rw [k4]; rfl
      have E : Hid (nodeX x = ((decide (x.attr = 0) && sameB x.set noSet) && decide (c.n = 1))) := hide (by
        unfold nodeX
        rw [if_neg (by rw [← hkk]; exact k1), if_pos (by rw [← hkk]; omega), hn]
        congr 1
        exact decide_eq_decide.2 ⟨fun h => h (by rw [← hkk]; exact k4), fun h _ => h⟩)
      generalize nodeX x = R at E ⊢
      cases hq : (decide (x.attr = 0) && sameB x.set noSet)
      · rw [hq] at X
        have E2 : Hid (R = false) := hide (by rw [E.out, hq]; rfl)
        clear k1 k4 k23 hkk hn hc E
        unfold EC.val
        go_enter Try.func30, Try.ntmps30
        go_wp2_with fail
        refine (unhide (X _)).mono ?_
        rintro r w1 ⟨rfl, b1⟩
        have B1 := hide ((B0 _).out.trans (b1.mono (B0 _).out.size))
        clear X B0 b1 N0
        go_wp2
        go_ret
        exact ⟨ret_bool E2.out.symm, B1.out⟩
      · rw [hq] at X
        have E2 : Hid (R = decide (c.n = 1)) := hide (by rw [E.out, hq]; rfl)
        clear k1 k4 k23 hkk hn hc E
        unfold EC.val
        go_enter Try.func30, Try.ntmps30
        go_wp2_with fail
        refine (unhide (X _)).mono ?_
        rintro r w1 ⟨rfl, b1⟩
        have B1 := hide ((B0 _).out.trans (b1.mono (B0 _).out.size))
        obtain ⟨c0, c1, c2, c3, c4, c5, c6⟩ := ecCells1 ((b1.block w.heap.size (by simp)).trans (N0 _).out)
        clear X B0 b1 N0
        go_wp2
        go_ret
        exact ⟨ret_bool (by rw [E2.out]; by_cases hz : c.n = 1 <;> simp [hz] <;> omega), B1.out⟩
    · have e4 : (c.k == 4) = false := by simpa using k4
      have E2 : Hid (nodeX x = false) := hide (by
        unfold nodeX
        rw [if_neg (by rw [← hkk]; exact k1), if_neg (by rw [← hkk]; omega)])
      generalize nodeX x = R at E2 ⊢
      clear k1 k4 k23 hkk hn hc X
      unfold EC.val
      go_enter Try.func30, Try.ntmps30
      go_wp2
      go_ret
      exact ⟨ret_bool E2.out.symm, (B0 _).out⟩
end Go.Proofs.Ytoplmioejebnnaa
