/-
  The walk of the third reference's Same.
-/
import Derived.Test.YtoplmioejebnnaaM0
import Derived.Test.YtoplmioejebnnaaSC
set_option linter.unusedSimpArgs false
set_option linter.unusedVariables false
namespace Go.Proofs.Ytoplmioejebnnaa
open Go.RowKit

set_option maxHeartbeats 4000000 in
set_option maxRecDepth 100000 in
theorem refSame_any (v u : Value) (A B : SetV) (w : World) (hv : SetAt w v A) (hu : SetAt w u B) :
    Calls Try.prog 39 #[v, u] w fun r w' => r = .returned (.bool (sameB A B)) ∧ Below w.heap.size w w' := by
  obtain ⟨vi, vs, rfl, hI, hS⟩ := hv
  obtain ⟨ui, us, rfl, hJ, hT⟩ := hu
  obtain ⟨ai, ci, rfl⟩ := hI.form
  obtain ⟨aq, cq, rfl⟩ := hS.form
  obtain ⟨bi, di, rfl⟩ := hJ.form
  obtain ⟨bq, dq, rfl⟩ := hT.form
  obtain ⟨sa, si, sc, ss⟩ := A
  obtain ⟨ta, ti, tc, ts⟩ := B
  dsimp only at *
  have HI := hide hI
  have HS := hide hS
  have HJ := hide hJ
  have HT := hide hT
  have nIle := hI.2.1
  have nSle := hS.2.1
  have nJle := hJ.2.1
  have nTle := hT.2.1
  clear hI hS hJ hT
  unfold sameB
  dsimp only
  have lI := rngEqB_len si ti
  have lS := strEqB_len ss ts
  obtain ⟨nI, hnI⟩ : ∃ n : Nat, n = si.length := ⟨_, rfl⟩
  obtain ⟨nS, hnS⟩ : ∃ n : Nat, n = ss.length := ⟨_, rfl⟩
  obtain ⟨nJ, hnJ⟩ : ∃ n : Nat, n = ti.length := ⟨_, rfl⟩
  obtain ⟨nT, hnT⟩ : ∃ n : Nat, n = ts.length := ⟨_, rfl⟩
  rw [← hnI] at nIle lI ⊢
  rw [← hnS] at nSle lS ⊢
  rw [← hnJ] at nJle lI ⊢
  rw [← hnT] at nTle lS ⊢
  have HnI := hide hnI
  have HnS := hide hnS
  have HnJ := hide hnJ
  have HnT := hide hnT
  have LI := hide lI
  have LS := hide lS
  clear hnI hnS hnJ hnT lI lS
  have ba := fun (o1 o2 : Obj) => hide (two_boxes w o1 o2)
  have hta : ta = sa ∨ ta = !sa := by cases ta <;> cases sa <;> simp
  rcases hta with rfl | rfl
  · have htc : tc = sc ∨ tc = !sc := by cases tc <;> cases sc <;> simp
    rcases htc with rfl | rfl
    · by_cases eI : nI = nJ
      · by_cases eS : nS = nT
        · subst eI
          subst eS
          have b1 : ((nI : Int) != (nI : Int)) = false := by simp
          have b2 : ((nS : Int) != (nS : Int)) = false := by simp
          go_enter Try.func39, Try.ntmps39
          go_wp2
          obtain ⟨e1, e2, e3⟩ := (ba (.cells #[.bool ta, .slice ai nI ci, .bool tc, .slice aq nS cq] 25) (.cells #[.bool ta, .slice bi nI di, .bool tc, .slice bq nS dq] 25)).out
          have E1 := hide e1
          have E2 := hide e2
          have E3 := hide e3
          clear e1 e2 e3 ba
          go_loopw [5] (fun i wr => ∃ k : Nat, i = .int .i64 k ∧ k ≤ nI ∧ Hid (rngEqB (si.drop k) (ti.drop k) = rngEqB si ti) ∧ Hid (wr.heap[w.heap.size]? = some (.cells #[.bool ta, .slice ai nI ci, .bool tc, .slice aq nS cq] 25 (0, 0))) ∧ Hid (wr.heap[w.heap.size + 1]? = some (.cells #[.bool ta, .slice bi nI di, .bool tc, .slice bq nS dq] 25 (0, 0))) ∧ Hid (Below w.heap.size w wr)) (fun i _ => nI - (intOf i).toNat)
          case atStart => exact ⟨0, rfl, by omega, hide rfl, E1, E2, E3⟩
          case round =>
            clear E1 E2 E3
            obtain ⟨k, rfl, hk, HG, H1, H2, HB⟩ := hrel
            have c1 := cell_heap H1.out 1
            have c3 := cell_heap H1.out 3
            have d1 := cell_heap H2.out 1
            have d3 := cell_heap H2.out 3
            simp only [List.getElem?_toArray, List.getElem?_cons_zero, List.getElem?_cons_succ] at c1 c3 d1 d3
            by_cases hlt : k < nI
            · have hk1 : k < si.length := by rw [← HnI.out]; exact hlt
              have hk2 : k < ti.length := by rw [← HnJ.out]; exact hlt
              obtain ⟨b, off, rfl, hb, x0, x1⟩ := (HI.out.on HB.out).at.2 k hk1
              obtain ⟨b', off', rfl, hb', y0, y1⟩ := (HJ.out.on HB.out).at.2 k hk2
              have G0 := HG.out
              rw [drop_getD si k (0, 0) hk1, drop_getD ti k (0, 0) hk2] at G0
              generalize si.getD k (0, 0) = r at *
              generalize ti.getD k (0, 0) = q at *
              simp only [rngEqB] at G0
              have G1 := hide G0
              clear G0 HG
              cases f1 : (r.1 == q.1)
              · have G2 : Hid (rngEqB si ti = false) := hide (by rw [← G1.out, f1]; rfl)
                clear G1
                go_wp2
                go_quiet (fail)
                go_wp2
                go_ret
                exact ⟨ret_bool (by rw [G2.out]; simp), below_drewN HB.out _⟩
              · cases f2 : (r.2 == q.2)
                · have G2 : Hid (rngEqB si ti = false) := hide (by rw [← G1.out, f1, f2]; rfl)
                  clear G1
                  go_wp2
                  go_quiet (fail)
                  go_wp2
                  go_ret
                  exact ⟨ret_bool (by rw [G2.out]; simp), below_drewN HB.out _⟩
                · have G2 : Hid (rngEqB (si.drop (k + 1)) (ti.drop (k + 1)) = rngEqB si ti) := hide (by rw [← G1.out, f1, f2]; rfl)
                  clear G1
                  go_wp2
                  go_quiet (fail)
                  go_wp2
                  exact ⟨⟨k + 1, by go_num, by omega, G2, H1, H2, hide (below_drewN HB.out _)⟩, by simp [intOf]; omega⟩
            · have hge : (nI : Int) ≤ (k : Int) := by omega
              have G2 : Hid (rngEqB si ti = true) := hide (by
                rw [← HG.out, List.drop_eq_nil_of_le (by have := HnI.out; omega), List.drop_eq_nil_of_le (by have := HnJ.out; omega)]; rfl)
              clear HG
              go_wp2
              go_loopw [6] (fun i wr => ∃ k : Nat, i = .int .i64 k ∧ k ≤ nS ∧ Hid (strEqB (ss.drop k) (ts.drop k) = strEqB ss ts) ∧ Hid (wr.heap[w.heap.size]? = some (.cells #[.bool ta, .slice ai nI ci, .bool tc, .slice aq nS cq] 25 (0, 0))) ∧ Hid (wr.heap[w.heap.size + 1]? = some (.cells #[.bool ta, .slice bi nI di, .bool tc, .slice bq nS dq] 25 (0, 0))) ∧ Hid (Below w.heap.size w wr)) (fun i _ => nS - (intOf i).toNat)
              case atStart => exact ⟨0, rfl, by omega, hide rfl, H1, H2, HB⟩
              case round =>
                clear H1 H2 HB c1 c3 d1 d3 hge hlt hk
                obtain ⟨j, rfl, hj, HG, H1, H2, HB⟩ := hrel
                have c1 := cell_heap H1.out 1
                have c3 := cell_heap H1.out 3
                have d1 := cell_heap H2.out 1
                have d3 := cell_heap H2.out 3
                simp only [List.getElem?_toArray, List.getElem?_cons_zero, List.getElem?_cons_succ] at c1 c3 d1 d3
                by_cases hlt : j < nS
                · have hj1 : j < ss.length := by rw [← HnS.out]; exact hlt
                  have hj2 : j < ts.length := by rw [← HnT.out]; exact hlt
                  obtain ⟨b, off, rfl, hb, x0⟩ := (HS.out.on HB.out).at.2 j hj1
                  obtain ⟨b', off', rfl, hb', y0⟩ := (HT.out.on HB.out).at.2 j hj2
                  have G0 := HG.out
                  rw [drop_getD ss j ⟨#[]⟩ hj1, drop_getD ts j ⟨#[]⟩ hj2] at G0
                  generalize ss.getD j ⟨#[]⟩ = r at *
                  generalize ts.getD j ⟨#[]⟩ = q at *
                  simp only [strEqB] at G0
                  have G1 := hide G0
                  clear G0 HG
                  cases f1 : (r.toList == q.toList)
                  · have G3 : Hid (strEqB ss ts = false) := hide (by rw [← G1.out, f1]; rfl)
                    clear G1
                    go_wp2
                    go_quiet (fail)
                    go_wp2
                    go_ret
                    exact ⟨ret_bool (by rw [G3.out]; simp), below_drewN HB.out _⟩
                  · have G3 : Hid (strEqB (ss.drop (j + 1)) (ts.drop (j + 1)) = strEqB ss ts) := hide (by rw [← G1.out, f1]; rfl)
                    clear G1
                    go_wp2
                    go_quiet (fail)
                    go_wp2
                    exact ⟨⟨j + 1, by go_num, by omega, G3, H1, H2, hide (below_drewN HB.out _)⟩, by simp [intOf]; omega⟩
                · have hge : (nS : Int) ≤ (j : Int) := by omega
                  have G3 : Hid (strEqB ss ts = true) := hide (by
                    rw [← HG.out, List.drop_eq_nil_of_le (by have := HnS.out; omega), List.drop_eq_nil_of_le (by have := HnT.out; omega)]; rfl)
                  clear HG
                  go_wp2
                  go_ret
                  exact ⟨ret_bool (by rw [G2.out, G3.out]; simp), HB.out⟩
        · have b2 : ((nS : Int) != (nT : Int)) = true := by rw [bne_iff_ne]; omega
          have G := hide (LS.out eS)
          subst eI
          go_enter Try.func39, Try.ntmps39
          go_wp2
          go_ret
          exact ⟨ret_bool (by rw [G.out]; simp), (ba _ _).out.2.2⟩
      · have b1 : ((nI : Int) != (nJ : Int)) = true := by rw [bne_iff_ne]; omega
        have G := hide (LI.out eI)
        go_enter Try.func39, Try.ntmps39
        go_wp2
        go_ret
        exact ⟨ret_bool (by rw [G.out]; simp), (ba _ _).out.2.2⟩
    · go_enter Try.func39, Try.ntmps39
      go_wp2
      go_ret
      exact ⟨ret_bool (by cases sc <;> simp), (ba _ _).out.2.2⟩
  · go_enter Try.func39, Try.ntmps39
    go_wp2
    go_ret
    exact ⟨ret_bool (by cases sa <;> simp), (ba _ _).out.2.2⟩
end Go.Proofs.Ytoplmioejebnnaa
