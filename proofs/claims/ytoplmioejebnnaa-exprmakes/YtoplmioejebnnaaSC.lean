/-
  The walk of the third reference's Right.
-/
import Derived.Test.YtoplmioejebnnaaM0
import Derived.Test.YtoplmioejebnnaaSB
import Derived.BigQuiet
set_option linter.unusedSimpArgs false
set_option linter.unusedVariables false
namespace Go.Proofs.Ytoplmioejebnnaa
open Go.RowKit

set_option maxHeartbeats 4000000 in
set_option maxRecDepth 100000 in
theorem refRightSet_any (v : Value) (S : SetV) (w : World) (hv : SetAt w v S) :
    Calls Try.prog 49 #[v] w fun r w' => r = .returned (.bool (rightSet S)) ∧ Below w.heap.size w w' := by
  obtain ⟨vi, vs, rfl, hI, hS⟩ := hv
  obtain ⟨ai, ci, rfl⟩ := hI.form
  obtain ⟨aq, cq, rfl⟩ := hS.form
  obtain ⟨sa, si, sc, ss⟩ := S
  dsimp only at *
  have HI := hide hI
  have HS := hide hS
  have nIle := hI.2.1
  have nSle := hS.2.1
  clear hI hS
  unfold rightSet
  dsimp only
  obtain ⟨nI, hnI⟩ : ∃ n : Nat, n = si.length := ⟨_, rfl⟩
  obtain ⟨nS, hnS⟩ : ∃ n : Nat, n = ss.length := ⟨_, rfl⟩
  rw [← hnI] at nIle ⊢
  rw [← hnS] at nSle ⊢
  have HnI := hide hnI
  have HnS := hide hnS
  clear hnI hnS
  go_enter Try.func49, Try.ntmps49
  go_wp2
  go_loopw [3] (fun i wr => ∃ k : Nat, i = .int .i64 k ∧ k ≤ nI ∧ Hid (rgB (prevR si k) (si.drop k) = rgB none si) ∧ Hid (wr.heap[w.heap.size]? = some (.cells #[.bool sa, .slice ai nI ci, .bool sc, .slice aq nS cq] 25 (0, 0))) ∧ Hid (Below w.heap.size w wr)) (fun i _ => nI - (intOf i).toNat)
  case atStart => exact ⟨0, rfl, by omega, hide rfl, hide (heap_new _ _), hide ((Below.refl _ _).alloc (Nat.le_refl _) _)⟩
  case round =>
    obtain ⟨k, rfl, hk, HG, HH, HB⟩ := hrel
    have c0 := cell_heap HH.out 0
    have c1 := cell_heap HH.out 1
    have c2 := cell_heap HH.out 2
    have c3 := cell_heap HH.out 3
    simp only [List.getElem?_toArray, List.getElem?_cons_zero, List.getElem?_cons_succ] at c0 c1 c2 c3
    have ltB := lt_heap HH.out
    by_cases hlt : k < nI
    · have IW := HI.out.on HB.out
      have hk' : k < si.length := by rw [← HnI.out]; exact hlt
      obtain ⟨b, off, rfl, hb, d0, d1⟩ := IW.at.2 k hk'
      obtain ⟨q0, q1, q2, q3⟩ := IW.bound k hk'
      have G0 := HG.out
      rw [drop_getD si k (0, 0) hk'] at G0
      have prv : k ≠ 0 → ∃ h : Int, prevR si k = some h ∧ wr.cell? ⟨b, off + (k - 1) * 2 + 1, none⟩ = some (.int .i64 h) ∧ -9223372036854775808 ≤ h ∧ h ≤ 9223372036854775807 := fun h0 => by
        obtain ⟨b', off', ha, _, _, e1⟩ := IW.at.2 (k - 1) (by omega)
        obtain ⟨_, _, r2, r3⟩ := IW.bound (k - 1) (by omega)
        simp at ha
        obtain ⟨rfl, rfl⟩ := ha
        exact ⟨_, by unfold prevR; rw [if_neg h0], e1, r2, r3⟩
      have PRV := hide prv
      have nxt : prevR si (k + 1) = some (si.getD k (0, 0)).2 := by unfold prevR; rw [if_neg (by omega)]; rfl
      have NXT := hide nxt
      generalize si.getD k (0, 0) = r at *
      clear IW prv nxt
      have G1 := hide G0
      clear G0 HG
      have hb5 := fun (o : Obj) => (Below.refl _ wr).alloc (Nat.le_refl _) o
      clear c0 c2 c3
      by_cases h1 : r.1 ≤ r.2
      · by_cases k0 : k = 0
        · have dk : decide (0 < k) = false := decide_eq_false (by omega)
          have G2 : Hid (rgB (prevR si (k + 1)) (si.drop (k + 1)) = rgB none si) := hide (by
            have := G1.out
            rw [show prevR si k = none by unfold prevR; rw [if_pos k0]] at this
            rw [← this, NXT.out]
            simp [rgB, h1])
          clear G1 k0 PRV NXT
          go_wp2
          have HH5 := (hb5 (Obj.cells #[Value.int IntKind.i64 r.1, Value.int IntKind.i64 r.2] 54)).block _ ltB
          rw [HH.out] at HH5
          have N5 := heap_new wr (Obj.cells #[Value.int IntKind.i64 r.1, Value.int IntKind.i64 r.2] 54)
          have B5 := hide (HB.out.alloc HB.out.size (Obj.cells #[Value.int IntKind.i64 r.1, Value.int IntKind.i64 r.2] 54))
          clear c1
          generalize wr.alloc (Obj.cells #[Value.int IntKind.i64 r.1, Value.int IntKind.i64 r.2] 54) = w5 at *
          have c1 := cell_heap HH5 1
          have n0 := cell_heap N5 0
          simp only [List.getElem?_toArray, List.getElem?_cons_zero, List.getElem?_cons_succ] at c1 n0
          have H5 := hide HH5
          clear HH5 N5 hb5 HH HB d0 d1
          go_quiet (fail)
          go_wp2
          exact ⟨⟨k + 1, by go_num, by omega, G2, H5, hide (below_drewN B5.out _)⟩, by simp [intOf]; omega⟩
        · obtain ⟨h, hp, pc, p0, p1⟩ := PRV.out k0
          have dk : decide (0 < k) = true := decide_eq_true (by omega)
          have k1 : 1 ≤ k := by omega
          have G1' := G1.out
          rw [hp] at G1'
          clear PRV hp k0 G1
          by_cases h2 : r.1 ≤ h
          · have e2 : decide (r.1 ≤ h) = true := decide_eq_true h2
            have G2 : Hid (rgB none si = false) := hide (by rw [← G1']; simp [rgB]; intro _ h3; omega)
            clear G1' NXT
            go_wp2
            have HH5 := (hb5 (Obj.cells #[Value.int IntKind.i64 r.1, Value.int IntKind.i64 r.2] 54)).block _ ltB
            rw [HH.out] at HH5
            have N5 := heap_new wr (Obj.cells #[Value.int IntKind.i64 r.1, Value.int IntKind.i64 r.2] 54)
            have B5 := hide (HB.out.alloc HB.out.size (Obj.cells #[Value.int IntKind.i64 r.1, Value.int IntKind.i64 r.2] 54))
            have pc5 := (hb5 (Obj.cells #[Value.int IntKind.i64 r.1, Value.int IntKind.i64 r.2] 54)).cell (p := ⟨b, off + (k - 1) * 2 + 1, none⟩) hb
            rw [pc] at pc5
            clear c1 pc
            generalize wr.alloc (Obj.cells #[Value.int IntKind.i64 r.1, Value.int IntKind.i64 r.2] 54) = w5 at *
            have c1 := cell_heap HH5 1
            have n0 := cell_heap N5 0
            simp only [List.getElem?_toArray, List.getElem?_cons_zero, List.getElem?_cons_succ] at c1 n0
            have H5 := hide HH5
            clear HH5 N5 hb5 HH HB d0 d1
            go_quiet (fail)
            go_wp2
            go_ret
            exact ⟨ret_bool (by rw [G2.out]; rfl), below_drewN B5.out _⟩
          · have e2 : decide (r.1 ≤ h) = false := decide_eq_false h2
            by_cases h3 : r.1 ≤ h + 1
            · have e3 : decide (r.1 ≤ h + 1) = true := decide_eq_true h3
              have G2 : Hid (rgB none si = false) := hide (by rw [← G1']; simp [rgB]; intro _ h3; omega)
              clear G1' NXT
              go_wp2
              have HH5 := (hb5 (Obj.cells #[Value.int IntKind.i64 r.1, Value.int IntKind.i64 r.2] 54)).block _ ltB
              rw [HH.out] at HH5
              have N5 := heap_new wr (Obj.cells #[Value.int IntKind.i64 r.1, Value.int IntKind.i64 r.2] 54)
              have B5 := hide (HB.out.alloc HB.out.size (Obj.cells #[Value.int IntKind.i64 r.1, Value.int IntKind.i64 r.2] 54))
              have pc5 := (hb5 (Obj.cells #[Value.int IntKind.i64 r.1, Value.int IntKind.i64 r.2] 54)).cell (p := ⟨b, off + (k - 1) * 2 + 1, none⟩) hb
              rw [pc] at pc5
              clear c1 pc
              generalize wr.alloc (Obj.cells #[Value.int IntKind.i64 r.1, Value.int IntKind.i64 r.2] 54) = w5 at *
              have c1 := cell_heap HH5 1
              have n0 := cell_heap N5 0
              simp only [List.getElem?_toArray, List.getElem?_cons_zero, List.getElem?_cons_succ] at c1 n0
              have H5 := hide HH5
              clear HH5 N5 hb5 HH HB d0 d1
              go_quiet (fail)
              go_wp2
              go_ret
              exact ⟨ret_bool (by rw [G2.out]; rfl), below_drewN B5.out _⟩
            · have e3 : decide (r.1 ≤ h + 1) = false := decide_eq_false h3
              have G2 : Hid (rgB (prevR si (k + 1)) (si.drop (k + 1)) = rgB none si) := hide (by
                rw [← G1', NXT.out]
                have h4 : h + 1 < r.1 := by omega
                simp [rgB, h1, h4])
              clear G1' NXT
              go_wp2
              have HH5 := (hb5 (Obj.cells #[Value.int IntKind.i64 r.1, Value.int IntKind.i64 r.2] 54)).block _ ltB
              rw [HH.out] at HH5
              have N5 := heap_new wr (Obj.cells #[Value.int IntKind.i64 r.1, Value.int IntKind.i64 r.2] 54)
              have B5 := hide (HB.out.alloc HB.out.size (Obj.cells #[Value.int IntKind.i64 r.1, Value.int IntKind.i64 r.2] 54))
              have pc5 := (hb5 (Obj.cells #[Value.int IntKind.i64 r.1, Value.int IntKind.i64 r.2] 54)).cell (p := ⟨b, off + (k - 1) * 2 + 1, none⟩) hb
              rw [pc] at pc5
              clear c1 pc
              generalize wr.alloc (Obj.cells #[Value.int IntKind.i64 r.1, Value.int IntKind.i64 r.2] 54) = w5 at *
              have c1 := cell_heap HH5 1
              have n0 := cell_heap N5 0
              simp only [List.getElem?_toArray, List.getElem?_cons_zero, List.getElem?_cons_succ] at c1 n0
              have H5 := hide HH5
              clear HH5 N5 hb5 HH HB d0 d1
              go_quiet (fail)
              go_wp2
              exact ⟨⟨k + 1, by go_num, by omega, G2, H5, hide (below_drewN B5.out _)⟩, by simp [intOf]; omega⟩
      · have G2 : Hid (rgB none si = false) := hide (by
          rw [← G1.out]
          cases prevR si k <;> simp [rgB, h1])
        have B5 := fun (o : Obj) => hide (HB.out.alloc HB.out.size o)
        clear G1 PRV NXT
        go_wp2
        go_ret
        exact ⟨ret_bool (by rw [G2.out]; rfl), (B5 _).out⟩
    · have hge : (nI : Int) ≤ (k : Int) := by omega
      have G2 : Hid (rgB none si = true) := hide (by
        rw [← HG.out, List.drop_eq_nil_of_le (by have := HnI.out; omega)]
        cases prevR si k <;> rfl)
      clear HG
      go_wp2
      go_loopw [5] (fun i wr => ∃ k : Nat, i = .int .i64 k ∧ k ≤ nS ∧ Hid (stB (prevS ss k) (ss.drop k) = stB none ss) ∧ Hid (wr.heap[w.heap.size]? = some (.cells #[.bool sa, .slice ai nI ci, .bool sc, .slice aq nS cq] 25 (0, 0))) ∧ Hid (Below w.heap.size w wr)) (fun i _ => nS - (intOf i).toNat)
      case atStart => exact ⟨0, rfl, by omega, hide rfl, HH, HB⟩
      case round =>
        clear HH HB c0 c1 c2 c3 ltB hge hlt hk
        obtain ⟨j, rfl, hj, HG, HH, HB⟩ := hrel
        have c0 := cell_heap HH.out 0
        have c1 := cell_heap HH.out 1
        have c2 := cell_heap HH.out 2
        have c3 := cell_heap HH.out 3
        simp only [List.getElem?_toArray, List.getElem?_cons_zero, List.getElem?_cons_succ] at c0 c1 c2 c3
        have ltB := lt_heap HH.out
        by_cases hlt : j < nS
        · have IW := HS.out.on HB.out
          have hj' : j < ss.length := by rw [← HnS.out]; exact hlt
          obtain ⟨b, off, rfl, hb, d0⟩ := IW.at.2 j hj'
          have q0 := IW.bound j hj'
          have G0 := HG.out
          rw [drop_getD ss j ⟨#[]⟩ hj'] at G0
          have prv : j ≠ 0 → ∃ h : ByteArray, prevS ss j = some h ∧ wr.cell? ⟨b, off + (j - 1), none⟩ = some (.string h) := fun h0 => by
            obtain ⟨b', off', ha, _, e1⟩ := IW.at.2 (j - 1) (by omega)
            simp at ha
            obtain ⟨rfl, rfl⟩ := ha
            exact ⟨_, by unfold prevS; rw [if_neg h0], e1⟩
          have PRV := hide prv
          have nxt : prevS ss (j + 1) = some (ss.getD j ⟨#[]⟩) := by unfold prevS; rw [if_neg (by omega)]; rfl
          have NXT := hide nxt
          generalize ss.getD j ⟨#[]⟩ = r at *
          clear IW prv nxt
          have G1 := hide G0
          clear G0 HG
          by_cases h1 : r.size ≤ 8
          · have e1 : decide (8 < r.size) = false := decide_eq_false (by omega)
            have e1' : decide ((8 : Int) < (r.size : Int)) = false := decide_eq_false (by omega)
            by_cases j0 : j = 0
            · have dj : decide (0 < j) = false := decide_eq_false (by omega)
              have G3 : Hid (stB (prevS ss (j + 1)) (ss.drop (j + 1)) = stB none ss) := hide (by
                have := G1.out
                rw [show prevS ss j = none by unfold prevS; rw [if_pos j0]] at this
                rw [← this, NXT.out]
                simp [stB, h1])
              clear G1 j0 PRV NXT
              go_wp2
              go_quiet (fail)
              go_wp2
              exact ⟨⟨j + 1, by go_num, by omega, G3, HH, hide (below_drewN HB.out _)⟩, by simp [intOf]; omega⟩
            · obtain ⟨h, hp, pc⟩ := PRV.out j0
              have dj : decide (0 < j) = true := decide_eq_true (by omega)
              have j1 : 1 ≤ j := by omega
              have G1' := G1.out
              rw [hp] at G1'
              clear PRV hp j0 G1
              cases h2 : Op.bytesLess h.toList r.toList
              · have G3 : Hid (stB none ss = false) := hide (by rw [← G1']; simp [stB, h2])
                clear G1' NXT
                go_wp2
                go_quiet (fail)
                go_wp2
                go_ret
                exact ⟨ret_bool (by rw [G3.out]; cases rgB none si <;> rfl), below_drewN HB.out _⟩
              · have G3 : Hid (stB (prevS ss (j + 1)) (ss.drop (j + 1)) = stB none ss) := hide (by rw [← G1', NXT.out]; simp [stB, h1, h2])
                clear G1' NXT
                go_wp2
                go_quiet (fail)
                go_wp2
                exact ⟨⟨j + 1, by go_num, by omega, G3, HH, hide (below_drewN HB.out _)⟩, by simp [intOf]; omega⟩
          · have e1 : decide (8 < r.size) = true := decide_eq_true (by omega)
            have e1' : decide ((8 : Int) < (r.size : Int)) = true := decide_eq_true (by omega)
            have G3 : Hid (stB none ss = false) := hide (by
              rw [← G1.out]
              cases prevS ss j <;> simp [stB, h1])
            clear G1 PRV NXT
            go_wp2
            go_quiet (fail)
            go_wp2
            go_ret
            exact ⟨ret_bool (by rw [G3.out]; cases rgB none si <;> rfl), below_drewN HB.out _⟩
        · have hge : (nS : Int) ≤ (j : Int) := by omega
          have G3 : Hid (stB none ss = true) := hide (by
            rw [← HG.out, List.drop_eq_nil_of_le (by have := HnS.out; omega)]
            cases prevS ss j <;> rfl)
          clear HG
          go_wp2
          go_ret
          exact ⟨ret_bool (by rw [G2.out, G3.out]; rfl), HB.out⟩
end Go.Proofs.Ytoplmioejebnnaa
