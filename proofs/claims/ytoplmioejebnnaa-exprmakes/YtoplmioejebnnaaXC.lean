/-
  The program's set.Right and set.Small.
-/
import Derived.Test.YtoplmioejebnnaaTE1
import Derived.Test.YtoplmioejebnnaaSC
import Derived.Lib.QuietBelow
set_option linter.unusedSimpArgs false
set_option linter.unusedVariables false
namespace Go.Proofs.Ytoplmioejebnnaa
open Go.RowKit

set_option maxHeartbeats 4000000 in
set_option maxRecDepth 100000 in
theorem rightRanges_any (v : Value) (l : List Rg) (w : World) (hv : RngsAt w v l) :
    Calls Try.prog 65 #[v] w fun r w' => r = .returned (.bool (rgB none l)) ∧ Below w.heap.size w w' := by
  obtain ⟨a, c, rfl⟩ := hv.form
  have HV := hide hv
  have nle := hv.2.1
  obtain ⟨N, hN⟩ : ∃ n : Nat, n = l.length := ⟨_, rfl⟩
  rw [← hN] at nle ⊢
  have HN := hide hN
  clear hv hN
  go_enter Try.func65, Try.ntmps65
  go_wp2
  go_loopw [7] (fun i wr => ∃ k : Nat, i = .int .i64 k ∧ k ≤ N ∧ Hid (rgB (prevR l k) (l.drop k) = rgB none l) ∧ Hid (Below w.heap.size w wr)) (fun i _ => N - (intOf i).toNat)
  case atStart => exact ⟨0, rfl, by omega, hide rfl, hide (Below.refl _ _)⟩
  case round =>
    obtain ⟨k, rfl, hk, HG, HB⟩ := hrel
    by_cases hlt : k < N
    · have hk' : k < l.length := by rw [← HN.out]; exact hlt
      have IW := HV.out.on HB.out
      obtain ⟨b, off, rfl, hb, d0, d1⟩ := IW.at.2 k hk'
      have bd := IW.bound k hk'
      have G0 := HG.out
      rw [drop_getD l k (0, 0) hk'] at G0
      have prv : k ≠ 0 → ∃ q : Rg, prevR l k = some q.2 ∧ wr.cell? ⟨b, off + (k - 1) * 2, none⟩ = some (.int .i64 q.1) ∧ wr.cell? ⟨b, off + (k - 1) * 2 + 1, none⟩ = some (.int .i64 q.2) ∧ -9223372036854775808 ≤ q.2 ∧ q.2 ≤ 9223372036854775807 := fun h0 => by
        obtain ⟨b', off', ha, _, e0, e1⟩ := IW.at.2 (k - 1) (by omega)
        obtain ⟨_, _, r2, r3⟩ := IW.bound (k - 1) (by omega)
        simp at ha
        obtain ⟨rfl, rfl⟩ := ha
        exact ⟨_, by unfold prevR; rw [if_neg h0], e0, e1, r2, r3⟩
      have PRV := hide prv
      have NXT : Hid (prevR l (k + 1) = some (l.getD k (0, 0)).2) := hide (by unfold prevR; rw [if_neg (by omega)]; rfl)
      generalize l.getD k (0, 0) = r at *
      have G1 := hide G0
      clear IW prv G0 HG
      have n0 := cell_heap (heap_new wr (Obj.cells #[Value.int IntKind.i64 r.1, Value.int IntKind.i64 r.2] 54)) 0
      have n1 := cell_heap (heap_new wr (Obj.cells #[Value.int IntKind.i64 r.1, Value.int IntKind.i64 r.2] 54)) 1
      simp only [List.getElem?_toArray, List.getElem?_cons_zero, List.getElem?_cons_succ] at n0 n1
      have B5 := hide (HB.out.alloc HB.out.size (Obj.cells #[Value.int IntKind.i64 r.1, Value.int IntKind.i64 r.2] 54))
      have C5 := fun {o : Nat} => ((Below.refl _ wr).alloc (Nat.le_refl _) (Obj.cells #[Value.int IntKind.i64 r.1, Value.int IntKind.i64 r.2] 54)).cell (p := ⟨b, o, none⟩) hb
      by_cases h1 : r.1 ≤ r.2
      · have e1 : decide (r.2 < r.1) = false := decide_eq_false (by omega)
        by_cases k0 : k = 0
        · have dk : decide (0 < k) = false := decide_eq_false (by omega)
          have G2 : Hid (rgB (prevR l (k + 1)) (l.drop (k + 1)) = rgB none l) := hide (by
            have := G1.out
            rw [show prevR l k = none by unfold prevR; rw [if_pos k0]] at this
            rw [← this, NXT.out]
            simp [rgB, h1])
          clear G1 PRV NXT C5 k0
          go_wp2
          clear d0 d1
          go_quiet (fail)
          go_wp2
          exact ⟨⟨k + 1, by go_num, by omega, G2, hide (below_drewN B5.out _)⟩, by simp [intOf]; omega⟩
        · obtain ⟨q, hp, pc0, pc1, p0, p1⟩ := PRV.out k0
          have x0 := C5.trans pc0
          have x1 := C5.trans pc1
          have HX := fun (W : World) => hide (apart_any q r W bd.1 bd.2.1 p0)
          have dk : decide (0 < k) = true := decide_eq_true (by omega)
          have k1 : 1 ≤ k := by omega
          have G1' := G1.out
          rw [hp] at G1'
          have HG1 := hide G1'
          clear PRV hp k0 G1 G1' C5 pc0 pc1
          go_wp2
          generalize wr.alloc (Obj.cells #[Value.int IntKind.i64 r.1, Value.int IntKind.i64 r.2] 54) = w5 at *
          clear d0 d1
          have X := fun (d : Nat) (os : Array Obj) => hide (Calls.regrown_of (HX (Sort.grow (redrawn w5 d) os)).out)
          have p0' := cell_regrown n0
          have p1' := cell_regrown n1
          have p2' := cell_regrown x0
          have p3' := cell_regrown x1
          clear HX
          refine wp_region_quiet_below mixed (by kernel_rfl) ?_
          repeat (first | go_big_quiet_step (exact unhide (X _ _)) | quiet_step (exact unhide (X _ _)))
          refine wpQuiet_nil ?_
          intro _ hw'
          obtain ⟨⟨dq, osq⟩, hw''⟩ := hw'
          subst hw''
          have bq := below_regrown w5 dq osq
          have B6 := hide (B5.out.trans (bq.mono B5.out.size))
          clear p0' p1' p2' p3' X x0 x1 n0 n1 B5 bq bd
          dsimp only
          generalize Sort.grow (redrawn w5 dq) osq = w6 at B6 ⊢
          by_cases hap : q.2 + 1 < r.1
          · have da : decide (q.2 + 1 < r.1) = true := decide_eq_true hap
            have G2 : Hid (rgB (prevR l (k + 1)) (l.drop (k + 1)) = rgB none l) := hide (by
              rw [← HG1.out, NXT.out]
              simp [rgB, h1, hap])
            simp only [da, Bool.not_true]
            go_wp2
            exact ⟨⟨k + 1, by go_num, by omega, G2, B6⟩, by simp [intOf]; omega⟩
          · have da : decide (q.2 + 1 < r.1) = false := decide_eq_false hap
            have G2 : Hid (rgB none l = false) := hide (by
              rw [← HG1.out]
              simp [rgB]
              intro _ h
              exact absurd h hap)
            simp only [da, Bool.not_false]
            go_wp2
            go_ret
            exact ⟨ret_bool G2.out.symm, B6.out⟩
      · have e1 : decide (r.2 < r.1) = true := decide_eq_true (by omega)
        have G2 : Hid (rgB none l = false) := hide (by
          rw [← G1.out]
          cases prevR l k <;> simp [rgB] <;> intro h <;> omega)
        clear G1 PRV NXT C5
        go_wp2
        clear d0 d1
        go_quiet (fail)
        go_wp2
        go_ret
        exact ⟨ret_bool G2.out.symm, below_drewN B5.out _⟩
    · have hge : decide ((k : Int) < (N : Int)) = false := by simp; omega
      have G2 : Hid (rgB none l = true) := hide (by
        rw [← HG.out, List.drop_eq_nil_of_le (by have := HN.out; omega)]
        cases prevR l k <;> rfl)
      go_wp2
      go_ret
      exact ⟨ret_bool G2.out.symm, HB.out⟩

set_option maxHeartbeats 4000000 in
set_option maxRecDepth 100000 in
theorem rightStrings_any (v : Value) (ss : List ByteArray) (w : World) (hv : StrsAt w v ss) :
    Calls Try.prog 66 #[v] w fun r w' => r = .returned (.bool (stB none ss)) ∧ Below w.heap.size w w' := by
  obtain ⟨a, c, rfl⟩ := hv.form
  have HS := hide hv
  have nle := hv.2.1
  obtain ⟨nS, hnS⟩ : ∃ n : Nat, n = ss.length := ⟨_, rfl⟩
  rw [← hnS] at nle ⊢
  have HnS := hide hnS
  clear hv hnS
  go_enter Try.func66, Try.ntmps66
  go_wp2
  go_loopw [7] (fun i wr => ∃ k : Nat, i = .int .i64 k ∧ k ≤ nS ∧ Hid (stB (prevS ss k) (ss.drop k) = stB none ss) ∧ Hid (Below w.heap.size w wr)) (fun i _ => nS - (intOf i).toNat)
  case atStart => exact ⟨0, rfl, by omega, hide rfl, hide (Below.refl _ _)⟩
  case round =>
    obtain ⟨j, rfl, hj, HG, HB⟩ := hrel
    by_cases hlt : j < nS
    · have IW := HS.out.on HB.out
      have hj' : j < ss.length := by rw [← HnS.out]; exact hlt
      obtain ⟨b, off, rfl, hb, d0⟩ := IW.at.2 j hj'
      have q0 := IW.bound j hj'
      have G0 := HG.out
      rw [drop_getD ss j ⟨#[]⟩ hj'] at G0
      have prv : j ≠ 0 → ∃ h : ByteArray, prevS ss j = some h ∧ wr.cell? ⟨b, off + (j - 1), none⟩ = some (.string h) := fun h0 => by
        obtain ⟨b', off', ha, _, e1⟩ := IW.at.2 (j - 1) (by omega)
        simp at ha
        obtain ⟨rfl, rfl⟩ := ha
        exact ⟨_, by unfold prevS; rw [if_neg h0], e1⟩
      have PRV := hide prv
      have nxt : prevS ss (j + 1) = some (ss.getD j ⟨#[]⟩) := by unfold prevS; rw [if_neg (by omega)]; rfl
      have NXT := hide nxt
      generalize ss.getD j ⟨#[]⟩ = r at *
      clear IW prv nxt
      have G1 := hide G0
      clear G0 HG
      by_cases h1 : r.size ≤ 8
      · have e1 : decide (8 < r.size) = false := decide_eq_false (by omega)
        have e1' : decide ((8 : Int) < (r.size : Int)) = false := decide_eq_false (by omega)
        by_cases j0 : j = 0
        · have dj : decide (0 < j) = false := decide_eq_false (by omega)
          have G3 : Hid (stB (prevS ss (j + 1)) (ss.drop (j + 1)) = stB none ss) := hide (by
            have := G1.out
            rw [show prevS ss j = none by unfold prevS; rw [if_pos j0]] at this
            rw [← this, NXT.out]
            simp [stB, h1])
          clear G1 j0 PRV NXT
          go_wp2
          exact ⟨⟨j + 1, by go_num, by omega, G3, HB⟩, by simp [intOf]; omega⟩
        · obtain ⟨h, hp, pc⟩ := PRV.out j0
          have dj : decide (0 < j) = true := decide_eq_true (by omega)
          have j1 : 1 ≤ j := by omega
          have G1' := G1.out
          rw [hp] at G1'
          clear PRV hp j0 G1
          cases h2 : Op.bytesLess h.toList r.toList
          · have G3 : Hid (stB none ss = false) := hide (by rw [← G1']; simp [stB, h2])
            clear G1' NXT
            go_wp2
            go_ret
            exact ⟨ret_bool G3.out.symm, HB.out⟩
          · have G3 : Hid (stB (prevS ss (j + 1)) (ss.drop (j + 1)) = stB none ss) := hide (by rw [← G1', NXT.out]; simp [stB, h1, h2])
            clear G1' NXT
            go_wp2
            exact ⟨⟨j + 1, by go_num, by omega, G3, HB⟩, by simp [intOf]; omega⟩
      · have e1 : decide (8 < r.size) = true := decide_eq_true (by omega)
        have e1' : decide ((8 : Int) < (r.size : Int)) = true := decide_eq_true (by omega)
        have G3 : Hid (stB none ss = false) := hide (by
          rw [← G1.out]
          cases prevS ss j <;> simp [stB, h1])
        clear G1 PRV NXT
        go_wp2
        go_ret
        exact ⟨ret_bool G3.out.symm, HB.out⟩
    · have hge : (nS : Int) ≤ (j : Int) := by omega
      have G3 : Hid (stB none ss = true) := hide (by
        rw [← HG.out, List.drop_eq_nil_of_le (by have := HnS.out; omega)]
        cases prevS ss j <;> rfl)
      clear HG
      go_wp2
      go_ret
      exact ⟨ret_bool G3.out.symm, HB.out⟩

set_option maxHeartbeats 4000000 in
set_option maxRecDepth 100000 in
theorem setRight_any (v : Value) (S : SetV) (w : World) (hv : SetAt w v S) :
    Calls Try.prog 47 #[v] w fun r w' => r = .returned (.bool (rightSet S)) ∧ Below w.heap.size w w' := by
  obtain ⟨vi, vs, rfl, hI, hS⟩ := hv
  have HI := hide hI
  have HS := hide hS
  obtain ⟨ai, ci, rfl⟩ := hI.form
  obtain ⟨aq, cq, rfl⟩ := hS.form
  have B0 := fun (o : Obj) => hide ((Below.refl _ w).alloc (Nat.le_refl _) o)
  unfold rightSet
  cases e1 : rgB none S.ints
  · have X := fun (o : Obj) => hide (rightRanges_any _ _ _ (HI.out.on (B0 o).out))
    clear HI HS hI hS
    go_enter Try.func47, Try.ntmps47
    go_wp2_with fail
    refine (unhide (X _)).mono ?_
    rintro r w1 ⟨rfl, b1⟩
    have B1 := hide ((B0 _).out.trans (b1.mono (B0 _).out.size))
    rw [e1]
    clear X B0 b1
    go_wp2
    go_ret
    exact ⟨rfl, B1.out⟩
  · have X := fun (o : Obj) => hide (rightRanges_any _ _ _ (HI.out.on (B0 o).out))
    have Y := fun (W : World) (b : Below w.heap.size w W) => hide (rightStrings_any _ _ _ (HS.out.on b))
    clear HI HS hI hS
    go_enter Try.func47, Try.ntmps47
    go_wp2_with fail
    refine (unhide (X _)).mono ?_
    rintro r w1 ⟨rfl, b1⟩
    have B1 := hide ((B0 _).out.trans (b1.mono (B0 _).out.size))
    have hE1 := (b1.block w.heap.size (by simp)).trans (heap_new w _)
    have c3 := cell_heap hE1 3
    simp only [List.getElem?_toArray, List.getElem?_cons_zero, List.getElem?_cons_succ] at c3
    rw [e1]
    clear X B0 b1 hE1
    go_wp2_with fail
    refine (unhide (Y _ B1.out)).mono ?_
    rintro r w2 ⟨rfl, b2⟩
    have B2 := hide (B1.out.trans (b2.mono B1.out.size))
    clear Y b2 B1 c3
    go_wp2
    go_ret
    exact ⟨rfl, B2.out⟩

set_option maxHeartbeats 4000000 in
set_option maxRecDepth 100000 in
theorem small_any (v : Value) (S : SetV) (w : World) (hv : SetAt w v S) :
    Calls Try.prog 46 #[v] w fun r w' => r = .returned (.bool (decide (S.ints.length ≤ 6) && decide (S.strs.length ≤ 6))) ∧ Below w.heap.size w w' := by
  obtain ⟨vi, vs, rfl, hI, hS⟩ := hv
  obtain ⟨ai, ci, rfl⟩ := hI.form
  obtain ⟨aq, cq, rfl⟩ := hS.form
  have B0 := fun (o : Obj) => hide ((Below.refl _ w).alloc (Nat.le_refl _) o)
  have n1 := hI.2.1
  have n2 := hS.2.1
  clear hI hS
  generalize S.ints.length = a at *
  generalize S.strs.length = b at *
  by_cases h1 : a ≤ 6
  · have e1 : decide ((a : Int) ≤ 6) = true := decide_eq_true (by omega)
    have e1' : decide (a ≤ 6) = true := decide_eq_true h1
    go_enter Try.func46, Try.ntmps46
    go_wp2
    go_ret
    exact ⟨ret_bool (by rw [e1', Bool.true_and]; exact decide_eq_decide.2 (by omega)), (B0 _).out⟩
  · have e1 : decide ((a : Int) ≤ 6) = false := decide_eq_false (by omega)
    have e1' : decide (a ≤ 6) = false := decide_eq_false h1
    go_enter Try.func46, Try.ntmps46
    go_wp2
    go_ret
    exact ⟨ret_bool (by rw [e1', Bool.false_and]), (B0 _).out⟩
end Go.Proofs.Ytoplmioejebnnaa
