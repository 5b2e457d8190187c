/-
  Rows of sets; the walks of the third reference's Few and Fresh.
-/
import Derived.Test.YtoplmioejebnnaaM0
import Derived.Test.YtoplmioejebnnaaSB
set_option linter.unusedSimpArgs false
set_option linter.unusedVariables false
namespace Go.Proofs.Ytoplmioejebnnaa
open Go.RowKit

set_option maxHeartbeats 2000000 in
set_option maxRecDepth 100000 in
theorem refFew_any (v : Value) (l : List SetV) (w : World) (hv : SetsAt w v l) :
    Calls Try.prog 43 #[v] w fun r w' => r = .returned (.bool (l.all fewB)) ∧ w' = w := by
  obtain ⟨hlen, a, cap, rfl, hel⟩ := hv
  have HE := hide hel
  clear hel
  generalize hB : l.all fewB = B
  have HB : Hid ((l.drop 0).all fewB = B) := hide (by rw [List.drop_zero]; exact hB)
  clear hB
  obtain ⟨N, hN⟩ : ∃ N : Nat, N = l.length := ⟨_, rfl⟩
  rw [← hN] at hlen ⊢
  have HN := hide hN
  clear hN
  go_enter Try.func43, Try.ntmps43
  go_wp2
  go_loopw [3] (fun i wr => ∃ k : Nat, i = .int .i64 k ∧ k ≤ N ∧ wr = w ∧ Hid ((l.drop k).all fewB = B)) (fun i _ => N - (intOf i).toNat)
  case atStart => exact ⟨0, rfl, by omega, rfl, HB⟩
  case round =>
    obtain ⟨k, rfl, hk, rfl, HD⟩ := hrel
    clear HB
    by_cases hlt : k < N
    · obtain ⟨b, off, vi, vs, rfl, hb, c0, c1, c2, c3, hI, hS⟩ := HE.out k (by rw [← HN.out]; exact hlt)
      have D0 := HD.out
      rw [drop_getD l k noSet (by rw [← HN.out]; exact hlt), List.all_cons] at D0
      generalize l.getD k noSet = S at *
      obtain ⟨ai, ci, rfl⟩ := hI.form
      obtain ⟨aq, cq, rfl⟩ := hS.form
      obtain ⟨sa, si, sc, ss⟩ := S
      dsimp only at *
      have nIle := hI.2.1
      have nSle := hS.2.1
      have HS := hide hS
      have HD0 := hide D0
      clear D0 HD hI hS
      have few1 : ¬ (si.length ≤ 40 ∧ ss.length ≤ 40) → fewB ⟨sa, si, sc, ss⟩ = false := fun h => by
        unfold fewB
        dsimp only
        rw [Bool.and_eq_false_iff]
        left
        rw [Bool.and_eq_false_iff, decide_eq_false_iff_not, decide_eq_false_iff_not]
        omega
      have few2 : si.length ≤ 40 ∧ ss.length ≤ 40 → fewB ⟨sa, si, sc, ss⟩ = (ss.all fun s => decide (s.size ≤ 100)) := fun h => by
        unfold fewB
        dsimp only
        rw [decide_eq_true h.1, decide_eq_true h.2]; rfl
      obtain ⟨nI, hnI⟩ : ∃ n : Nat, n = si.length := ⟨_, rfl⟩
      obtain ⟨nS, hnS⟩ : ∃ n : Nat, n = ss.length := ⟨_, rfl⟩
      rw [← hnI] at nIle few1 few2 c1
      rw [← hnS] at nSle few1 few2 c3
      have HnS := hide hnS
      have F1 := hide few1
      have F2 := hide few2
      clear hnI hnS few1 few2
      by_cases big : nI ≤ 40 ∧ nS ≤ 40
      · have g1 : ¬ (40 : Int) < (nI : Int) := by omega
        have g2 : ¬ (40 : Int) < (nS : Int) := by omega
        have F3 := hide (F2.out big)
        clear F1 F2 big
        go_wp2
        go_loopw [4] (fun i wr' => ∃ j : Nat, i = .int .i64 j ∧ j ≤ nS ∧ wr' = wr ∧ Hid ((ss.drop j).all (fun s => decide (s.size ≤ 100)) = ss.all fun s => decide (s.size ≤ 100))) (fun i _ => nS - (intOf i).toNat)
        case atStart => exact ⟨0, rfl, by omega, rfl, hide rfl⟩
        case round =>
          obtain ⟨j, rfl, hj, rfl, HG⟩ := hrel
          by_cases hjt : j < nS
          · obtain ⟨b', off', rfl, hb', d0⟩ := HS.out.at.2 j (by rw [← HnS.out]; exact hjt)
            have q0 := HS.out.bound j (by rw [← HnS.out]; exact hjt)
            have G0 := HG.out
            rw [drop_getD ss j ⟨#[]⟩ (by rw [← HnS.out]; exact hjt), List.all_cons] at G0
            generalize ss.getD j ⟨#[]⟩ = q at *
            have G1 := hide G0
            clear G0 HG
            by_cases hq : q.size ≤ 100
            · have G2 : Hid ((ss.drop (j + 1)).all (fun s => decide (s.size ≤ 100)) = ss.all fun s => decide (s.size ≤ 100)) := hide (by rw [← G1.out, decide_eq_true hq]; rfl)
              have hq' : ¬ (100 : Int) < (q.size : Int) := by omega
              clear G1
              go_wp2
              exact ⟨⟨j + 1, by go_num, by omega, trivial, G2⟩, by simp [intOf]; omega⟩
            · have G2 : Hid (B = false) := hide (by rw [← HD0.out, F3.out, ← G1.out, decide_eq_false hq]; rfl)
              have hq' : (100 : Int) < (q.size : Int) := by omega
              clear G1
              go_wp2
              go_ret
              exact ⟨ret_bool G2.out.symm, rfl⟩
          · have hge : (nS : Int) ≤ (j : Int) := by omega
            have G2 : Hid ((l.drop (k + 1)).all fewB = B) := hide (by
              rw [← HD0.out, F3.out, ← HG.out, List.drop_eq_nil_of_le (show ss.length ≤ j by have := HnS.out; omega)]; rfl)
            go_wp2
            exact ⟨⟨k + 1, by go_num, by omega, trivial, G2⟩, by simp [intOf]; omega⟩
      · have G2 : Hid (B = false) := hide (by rw [← HD0.out, F1.out big]; rfl)
        have gg : (40 : Int) < (nI : Int) ∨ (¬ (40 : Int) < (nI : Int) ∧ (40 : Int) < (nS : Int)) := by omega
        clear big F1 F2
        rcases gg with g1 | ⟨g1, g2⟩
        all_goals
          go_wp2
          go_ret
          exact ⟨ret_bool G2.out.symm, rfl⟩
    · have hge : (N : Int) ≤ (k : Int) := by omega
      have E : Hid (B = true) := hide (by rw [← HD.out, List.drop_eq_nil_of_le (by have := HN.out; omega)]; rfl)
      go_wp2
      go_ret
      exact ⟨ret_bool E.out.symm, rfl⟩
end Go.Proofs.Ytoplmioejebnnaa
