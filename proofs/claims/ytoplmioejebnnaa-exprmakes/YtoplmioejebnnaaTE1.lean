/-
  The program's set: slices.Equal of ranges and of strings; Same.
-/
import Derived.Test.YtoplmioejebnnaaTA1
import Derived.BigQuiet
set_option linter.unusedSimpArgs false
set_option linter.unusedVariables false
namespace Go.Proofs.Ytoplmioejebnnaa
open Go.RowKit

set_option maxHeartbeats 2000000 in
set_option maxRecDepth 100000 in
theorem equalR_any (v u : Value) (si ti : List Rg) (w : World) (hv : RngsAt w v si) (hu : RngsAt w u ti) :
    Calls Try.prog 70 #[v, u] w fun r w' => r = .returned (.bool (rngEqB si ti)) ∧ Below w.heap.size w w' := by
  have HI := hide hv
  have HJ := hide hu
  have nIle := hv.2.1
  have nJle := hu.2.1
  have lI := rngEqB_len si ti
  obtain ⟨ai, ci, rfl⟩ := hv.form
  obtain ⟨bi, di, rfl⟩ := hu.form
  clear hv hu
  obtain ⟨nI, hnI⟩ : ∃ n : Nat, n = si.length := ⟨_, rfl⟩
  obtain ⟨nJ, hnJ⟩ : ∃ n : Nat, n = ti.length := ⟨_, rfl⟩
  rw [← hnI] at nIle lI HI ⊢
  rw [← hnJ] at nJle lI HJ ⊢
  have HnI := hide hnI
  have HnJ := hide hnJ
  have LI := hide lI
  clear hnI hnJ lI
  by_cases eI : nI = nJ
  · subst eI
    clear LI
    have b1 : ((nI : Int) != (nI : Int)) = false := by simp
    go_enter Try.func70, Try.ntmps70
    go_wp2
    go_loopw [13] (fun i wr => ∃ k : Nat, i = .int .i64 k ∧ k ≤ nI ∧ Hid (rngEqB (si.drop k) (ti.drop k) = rngEqB si ti) ∧ Hid (Below w.heap.size w wr)) (fun i _ => nI - (intOf i).toNat)
    case atStart => exact ⟨0, rfl, by omega, hide rfl, hide (Below.refl _ _)⟩
    case round =>
      obtain ⟨k, rfl, hk, HG, HB⟩ := hrel
      by_cases hlt : k < nI
      · have hk1 : k < si.length := by rw [← HnI.out]; exact hlt
        have hk2 : k < ti.length := by rw [← HnJ.out]; exact hlt
        obtain ⟨b, off, rfl, hb, x0, x1⟩ := (HI.out.on HB.out).at.2 k hk1
        obtain ⟨b', off', rfl, hb', y0, y1⟩ := (HJ.out.on HB.out).at.2 k hk2
        have G0 := HG.out
        rw [drop_getD si k (0, 0) hk1, drop_getD ti k (0, 0) hk2] at G0
        generalize si.getD k (0, 0) = r at *
        generalize ti.getD k (0, 0) = q at *
        simp only [rngEqB] at G0
        have G1 := hide G0
        clear G0 HG
        cases f1 : (r.1 == q.1)
        · have G2 : Hid (rngEqB si ti = false) := hide (by rw [← G1.out, f1]; rfl)
          clear G1
          go_wp2
          go_quiet (fail)
          go_wp2
          go_ret
          exact ⟨ret_bool (by rw [G2.out]), below_drewN HB.out _⟩
        · cases f2 : (r.2 == q.2)
          · have G2 : Hid (rngEqB si ti = false) := hide (by rw [← G1.out, f1, f2]; rfl)
            clear G1
            go_wp2
            go_quiet (fail)
            go_wp2
            go_ret
            exact ⟨ret_bool (by rw [G2.out]), below_drewN HB.out _⟩
          · have G2 : Hid (rngEqB (si.drop (k + 1)) (ti.drop (k + 1)) = rngEqB si ti) := hide (by rw [← G1.out, f1, f2]; rfl)
            clear G1
            go_wp2
            go_quiet (fail)
            go_wp2
            exact ⟨⟨k + 1, by go_num, by omega, G2, hide (below_drewN HB.out _)⟩, by simp [intOf]; omega⟩
      · have hge : (nI : Int) ≤ (k : Int) := by omega
        have G2 : Hid (rngEqB si ti = true) := hide (by
          rw [← HG.out, List.drop_eq_nil_of_le (by have := HnI.out; omega), List.drop_eq_nil_of_le (by have := HnJ.out; omega)]; rfl)
        clear HG
        go_wp2
        go_ret
        exact ⟨ret_bool (by rw [G2.out]), HB.out⟩
  · have b1 : ((nI : Int) != (nJ : Int)) = true := by rw [bne_iff_ne]; omega
    have G := hide (LI.out eI)
    go_enter Try.func70, Try.ntmps70
    go_wp2
    go_ret
    exact ⟨ret_bool (by rw [G.out]), Below.refl _ _⟩

set_option maxHeartbeats 2000000 in
set_option maxRecDepth 100000 in
theorem equalS_any (v u : Value) (ss ts : List ByteArray) (w : World) (hv : StrsAt w v ss) (hu : StrsAt w u ts) :
    Calls Try.prog 71 #[v, u] w fun r w' => r = .returned (.bool (strEqB ss ts)) ∧ Below w.heap.size w w' := by
  have HI := hide hv
  have HJ := hide hu
  have nIle := hv.2.1
  have nJle := hu.2.1
  have lI := strEqB_len ss ts
  obtain ⟨ai, ci, rfl⟩ := hv.form
  obtain ⟨bi, di, rfl⟩ := hu.form
  clear hv hu
  obtain ⟨nI, hnI⟩ : ∃ n : Nat, n = ss.length := ⟨_, rfl⟩
  obtain ⟨nJ, hnJ⟩ : ∃ n : Nat, n = ts.length := ⟨_, rfl⟩
  rw [← hnI] at nIle lI HI ⊢
  rw [← hnJ] at nJle lI HJ ⊢
  have HnI := hide hnI
  have HnJ := hide hnJ
  have LI := hide lI
  clear hnI hnJ lI
  by_cases eI : nI = nJ
  · subst eI
    clear LI
    have b1 : ((nI : Int) != (nI : Int)) = false := by simp
    go_enter Try.func71, Try.ntmps71
    go_wp2
    go_loopw [13] (fun i wr => ∃ k : Nat, i = .int .i64 k ∧ k ≤ nI ∧ Hid (strEqB (ss.drop k) (ts.drop k) = strEqB ss ts) ∧ Hid (Below w.heap.size w wr)) (fun i _ => nI - (intOf i).toNat)
    case atStart => exact ⟨0, rfl, by omega, hide rfl, hide (Below.refl _ _)⟩
    case round =>
      obtain ⟨k, rfl, hk, HG, HB⟩ := hrel
      by_cases hlt : k < nI
      · have hk1 : k < ss.length := by rw [← HnI.out]; exact hlt
        have hk2 : k < ts.length := by rw [← HnJ.out]; exact hlt
        obtain ⟨b, off, rfl, hb, x0⟩ := (HI.out.on HB.out).at.2 k hk1
        obtain ⟨b', off', rfl, hb', y0⟩ := (HJ.out.on HB.out).at.2 k hk2
        have G0 := HG.out
        rw [drop_getD ss k ⟨#[]⟩ hk1, drop_getD ts k ⟨#[]⟩ hk2] at G0
        generalize ss.getD k ⟨#[]⟩ = r at *
        generalize ts.getD k ⟨#[]⟩ = q at *
        simp only [strEqB] at G0
        have G1 := hide G0
        clear G0 HG
        cases f1 : (r.toList == q.toList)
        · have G2 : Hid (strEqB ss ts = false) := hide (by rw [← G1.out, f1]; rfl)
          clear G1
          go_wp2
          go_quiet (fail)
          go_wp2
          go_ret
          exact ⟨ret_bool (by rw [G2.out]), below_drewN HB.out _⟩
        · have G2 : Hid (strEqB (ss.drop (k + 1)) (ts.drop (k + 1)) = strEqB ss ts) := hide (by rw [← G1.out, f1]; rfl)
          clear G1
          go_wp2
          go_quiet (fail)
          go_wp2
          exact ⟨⟨k + 1, by go_num, by omega, G2, hide (below_drewN HB.out _)⟩, by simp [intOf]; omega⟩
      · have hge : (nI : Int) ≤ (k : Int) := by omega
        have G2 : Hid (strEqB ss ts = true) := hide (by
          rw [← HG.out, List.drop_eq_nil_of_le (by have := HnI.out; omega), List.drop_eq_nil_of_le (by have := HnJ.out; omega)]; rfl)
        clear HG
        go_wp2
        go_ret
        exact ⟨ret_bool (by rw [G2.out]), HB.out⟩
  · have b1 : ((nI : Int) != (nJ : Int)) = true := by rw [bne_iff_ne]; omega
    have G := hide (LI.out eI)
    go_enter Try.func71, Try.ntmps71
    go_wp2
    go_ret
    exact ⟨ret_bool (by rw [G.out]), Below.refl _ _⟩

set_option maxHeartbeats 2000000 in
set_option maxRecDepth 100000 in
theorem same_any (v u : Value) (A B : SetV) (w : World) (hv : SetAt w v A) (hu : SetAt w u B) :
    Calls Try.prog 59 #[v, u] w fun r w' => r = .returned (.bool (sameB A B)) ∧ Below w.heap.size w w' := by
  obtain ⟨vi, vs, rfl, hI, hS⟩ := hv
  obtain ⟨ui, us, rfl, hJ, hT⟩ := hu
  obtain ⟨sa, si, sc, ss⟩ := A
  obtain ⟨ta, ti, tc, ts⟩ := B
  dsimp only at *
  have HI := hide hI
  have HS := hide hS
  have HJ := hide hJ
  have HT := hide hT
  clear hI hS hJ hT
  have HG : Hid (sameB ⟨sa, si, sc, ss⟩ ⟨ta, ti, tc, ts⟩ = (((sa == ta) && rngEqB si ti) && (sc == tc) && strEqB ss ts)) := hide (by
    unfold sameB
    dsimp only
    cases (sa == ta) <;> cases (sc == tc) <;> cases rngEqB si ti <;> cases strEqB ss ts <;> rfl)
  generalize sameB ⟨sa, si, sc, ss⟩ ⟨ta, ti, tc, ts⟩ = G at *
  have ba := fun (o1 o2 : Obj) => hide (two_boxes w o1 o2)
  have hta : ta = sa ∨ ta = !sa := by cases ta <;> cases sa <;> simp
  rcases hta with rfl | rfl
  · have hb1 : (ta == ta) = true := by simp
    obtain ⟨e1, e2, b2⟩ := (ba (.cells #[.bool ta, vi, .bool sc, vs] 25) (.cells #[.bool ta, ui, .bool tc, us] 25)).out
    have X := hide (equalR_any _ _ si ti _ (HI.out.on b2) (HJ.out.on b2))
    have Y := fun (w1 : World) (h : Below w.heap.size w w1) => hide (equalS_any _ _ ss ts w1 (HS.out.on h) (HT.out.on h))
    have B2 := hide b2
    have E1 := hide e1
    have E2 := hide e2
    clear e1 e2 b2 ba HI HJ HS HT
    go_enter Try.func59, Try.ntmps59
    go_wp2_with fail
    refine (unhide X).mono ?_
    rintro r w1 ⟨rfl, b1⟩
    have c2 := cell_heap ((b1.block _ (lt_heap E1.out)).trans E1.out) 2
    have c3 := cell_heap ((b1.block _ (lt_heap E1.out)).trans E1.out) 3
    have d2 := cell_heap ((b1.block _ (lt_heap E2.out)).trans E2.out) 2
    have d3 := cell_heap ((b1.block _ (lt_heap E2.out)).trans E2.out) 3
    simp only [List.getElem?_toArray, List.getElem?_cons_zero, List.getElem?_cons_succ] at c2 c3 d2 d3
    have B3 := hide (B2.out.trans (b1.mono B2.out.size))
    clear X B2 b1 E1 E2
    cases hr : rngEqB si ti
    · have HE : Hid (G = false) := hide (by rw [HG.out, hr]; simp)
      go_wp2
      go_ret
      exact ⟨ret_bool HE.out.symm, B3.out⟩
    · have htc : tc = sc ∨ tc = !sc := by cases tc <;> cases sc <;> simp
      rcases htc with rfl | rfl
      · have hb2 : (tc == tc) = true := by simp
        have HE : Hid (G = strEqB ss ts) := hide (by rw [HG.out, hr]; simp)
        have Z := Y _ B3.out
        clear Y HG
        go_wp2_with fail
        refine (unhide Z).mono ?_
        rintro r w4 ⟨rfl, b4⟩
        go_wp2
        go_ret
        exact ⟨ret_bool HE.out.symm, B3.out.trans (b4.mono B3.out.size)⟩
      · have HE : Hid (G = false) := hide (by rw [HG.out]; cases sc <;> simp)
        go_wp2
        go_ret
        exact ⟨ret_bool (by rw [HE.out]), B3.out⟩
  · have HE : Hid (G = false) := hide (by rw [HG.out]; cases sa <;> simp)
    go_enter Try.func59, Try.ntmps59
    go_wp2
    go_ret
    exact ⟨ret_bool (by rw [HE.out]), (ba _ _).out.2.2⟩
end Go.Proofs.Ytoplmioejebnnaa
