/-
  The walks of the third reference: InInts, InStrs, Has.
-/
import Derived.Test.YtoplmioejebnnaaM0
import Derived.Test.YtoplmioejebnnaaSV1
set_option linter.unusedSimpArgs false
set_option linter.unusedVariables false
namespace Go.Proofs.Ytoplmioejebnnaa
open Go.RowKit

set_option maxHeartbeats 1000000 in
set_option maxRecDepth 100000 in
theorem inInts_any (v : Value) (l : List Rg) (n : Int) (w : World) (hv : RngsAt w v l) :
    Calls Try.prog 63 #[v, .int .i64 n] w fun r w' => r = .returned (.bool (inIntsB l n)) ∧ w' = w := by
  have HV := hide hv
  obtain ⟨_, hlen, a, cap, rfl, hel⟩ := hv
  have HE := hide hel
  clear hel
  generalize hB : inIntsB l n = B
  have HB : Hid ((l.drop 0).any (fun r => decide (r.1 ≤ n) && decide (n ≤ r.2)) = B) := hide (by rw [List.drop_zero]; exact hB)
  clear hB
  obtain ⟨N, hN⟩ : ∃ N : Nat, N = l.length := ⟨_, rfl⟩
  rw [← hN] at hlen ⊢
  have HN := hide hN
  clear hN
  go_enter Try.func63, Try.ntmps63
  go_wp2
  go_loopw [5] (fun i wr => ∃ k : Nat, i = .int .i64 k ∧ k ≤ N ∧ wr = w ∧ Hid ((l.drop k).any (fun r => decide (r.1 ≤ n) && decide (n ≤ r.2)) = B)) (fun i _ => N - (intOf i).toNat)
  case atStart => exact ⟨0, rfl, by omega, rfl, HB⟩
  case round =>
    obtain ⟨k, rfl, hk, rfl, HD⟩ := hrel
    clear HB
    by_cases hlt : k < N
    · obtain ⟨b, off, rfl, hb, c0, c1⟩ := HE.out k (by rw [← HN.out]; exact hlt)
      have D0 := HD.out
      rw [drop_getD l k (0, 0) (by rw [← HN.out]; exact hlt), List.any_cons] at D0
      generalize l.getD k (0, 0) = q at *
      have HD0 := hide D0
      clear D0 HD
      by_cases h1 : q.1 ≤ n
      · by_cases h2 : n ≤ q.2
        · go_wp2
          go_ret
          exact ⟨ret_bool (by rw [← HD0.out]; simp [h1, h2]), rfl⟩
        · go_wp2
          exact ⟨⟨k + 1, by go_num, by omega, trivial, hide (by rw [← HD0.out]; simp [h1]; omega)⟩, by simp [intOf]; omega⟩
      · go_wp2
        exact ⟨⟨k + 1, by go_num, by omega, trivial, hide (by rw [← HD0.out]; simp; omega)⟩, by simp [intOf]; omega⟩
    · have hge : (N : Int) ≤ (k : Int) := by omega
      have E : Hid (B = false) := hide (by rw [← HD.out, List.drop_eq_nil_of_le (by have := HN.out; omega)]; rfl)
      go_wp2
      go_ret
      exact ⟨ret_bool E.out.symm, rfl⟩

set_option maxHeartbeats 1000000 in
set_option maxRecDepth 100000 in
theorem inStrs_any (v : Value) (l : List ByteArray) (s : ByteArray) (w : World) (hv : StrsAt w v l) :
    Calls Try.prog 64 #[v, .string s] w fun r w' => r = .returned (.bool (inStrsB l s)) ∧ w' = w := by
  obtain ⟨_, hlen, a, cap, rfl, hel⟩ := hv
  have HE := hide hel
  clear hel
  generalize hB : inStrsB l s = B
  have HB : Hid ((l.drop 0).any (fun t => t.toList == s.toList) = B) := hide (by rw [List.drop_zero]; exact hB)
  clear hB
  obtain ⟨N, hN⟩ : ∃ N : Nat, N = l.length := ⟨_, rfl⟩
  rw [← hN] at hlen ⊢
  have HN := hide hN
  clear hN
  go_enter Try.func64, Try.ntmps64
  go_wp2
  go_loopw [5] (fun i wr => ∃ k : Nat, i = .int .i64 k ∧ k ≤ N ∧ wr = w ∧ Hid ((l.drop k).any (fun t => t.toList == s.toList) = B)) (fun i _ => N - (intOf i).toNat)
  case atStart => exact ⟨0, rfl, by omega, rfl, HB⟩
  case round =>
    obtain ⟨k, rfl, hk, rfl, HD⟩ := hrel
    clear HB
    by_cases hlt : k < N
    · obtain ⟨b, off, rfl, hb, c0⟩ := HE.out k (by rw [← HN.out]; exact hlt)
      have D0 := HD.out
      rw [drop_getD l k ⟨#[]⟩ (by rw [← HN.out]; exact hlt), List.any_cons] at D0
      generalize l.getD k ⟨#[]⟩ = q at *
      have HD0 := hide D0
      clear D0 HD
      cases h1 : (q.toList == s.toList)
      · go_wp2
        exact ⟨⟨k + 1, by go_num, by omega, trivial, hide (by rw [← HD0.out, h1]; rfl)⟩, by simp [intOf]; omega⟩
      · go_wp2
        go_ret
        exact ⟨ret_bool (by rw [← HD0.out, h1]; rfl), rfl⟩
    · have hge : (N : Int) ≤ (k : Int) := by omega
      have E : Hid (B = false) := hide (by rw [← HD.out, List.drop_eq_nil_of_le (by have := HN.out; omega)]; rfl)
      go_wp2
      go_ret
      exact ⟨ret_bool E.out.symm, rfl⟩

set_option maxHeartbeats 2000000 in
set_option maxRecDepth 100000 in
theorem refHas_any (v : Value) (S : SetV) (k n : Int) (s : ByteArray) (w : World) (hv : SetAt w v S) (hs : s.size ≤ maxLen) :
    Calls Try.prog 42 #[v, .agg #[.int .i64 k, .int .i64 n, .string s]] w fun r w' => r = .returned (.bool (hasB S k n s)) ∧ Below w.heap.size w w' := by
  obtain ⟨vi, vs, rfl, hI, hS⟩ := hv
  obtain ⟨ai, ci, rfl⟩ := hI.form
  obtain ⟨aq, cq, rfl⟩ := hS.form
  obtain ⟨sa, si, sc, ss⟩ := S
  dsimp only at *
  have HI := hide hI
  have HS := hide hS
  have HR := fun (W : World) => hide (refRight_any k n s W hs)
  generalize hH : hasB ⟨sa, si, sc, ss⟩ k n s = B
  have HH := hide hH
  have R2 : rightB k n s = true → k ≠ 0 → k ≠ 1 → k = 2 := fun h h0 h1 => by
    unfold rightB at h
    rw [if_neg h0, if_neg h1] at h
    split at h
    · assumption
    · simp at h
  have HR2 := hide R2
  clear hI hS hH R2
  generalize si.length = nI at *
  generalize ss.length = nS at *
  cases hr : rightB k n s
  · rw [hr] at HR
    have E : Hid (B = false) := hide (by rw [← HH.out]; unfold hasB; rw [hr]; rfl)
    clear HH hr
    go_enter Try.func42, Try.ntmps42
    go_wp2_with fail
    refine (unhide (HR _)).mono ?_
    rintro r w1 ⟨rfl, b1⟩
    have B1 := hide b1
    clear b1
    go_wp2
    go_ret
    exact ⟨ret_bool E.out.symm, (two_new B1.out).2.2⟩
  · rw [hr] at HR
    have hB := HH.out
    unfold hasB at hB
    rw [hr, Bool.true_and] at hB
    have HB := hide hB
    have k2 := HR2.out hr
    have K2 := hide k2
    clear HH hr hB k2 HR2
    go_enter Try.func42, Try.ntmps42
    go_wp2_with fail
    refine (unhide (HR _)).mono ?_
    rintro r w1 ⟨rfl, b1⟩
    obtain ⟨e1, e2, b2⟩ := two_new b1
    have c0 := cell_heap e1 0
    have c1 := cell_heap e1 1
    have c2 := cell_heap e1 2
    have c3 := cell_heap e1 3
    have d0 := cell_heap e2 0
    have d1 := cell_heap e2 1
    have d2 := cell_heap e2 2
    simp only [List.getElem?_toArray, List.getElem?_cons_zero, List.getElem?_cons_succ] at c0 c1 c2 c3 d0 d1 d2
    have B2 := hide b2
    have I1 := hide (HI.out.on b2)
    have S1 := hide (HS.out.on b2)
    clear b1 b2 e1 e2 HR HI HS
    by_cases k0 : k = 0
    · subst k0
      have E : Hid (B = sa) := hide (by rw [← HB.out, if_pos rfl])
      clear HB
      go_wp2
      go_ret
      exact ⟨ret_bool E.out.symm, B2.out⟩
    · have kb : (k == 0) = false := beq_eq_false_iff_ne.2 k0
      by_cases k1 : k = 1
      · subst k1
        have E : Hid (B = inIntsB si n) := hide (by rw [← HB.out, if_neg (by omega), if_pos rfl])
        have X := hide (inInts_any _ _ n _ I1.out)
        clear HB I1 S1
        go_wp2_with fail
        refine (unhide X).mono ?_
        rintro r w2 ⟨rfl, rfl⟩
        go_wp2
        go_ret
        exact ⟨ret_bool E.out.symm, B2.out⟩
      · have kb1 : (k == 1) = false := beq_eq_false_iff_ne.2 k1
        have E : Hid (B = (inStrsB ss s != sc)) := hide (by rw [← HB.out, if_neg k0, if_neg k1])
        have X := fun (d : Nat) (os : Array Obj) => hide (Calls.regrown_of ((inStrs_any _ _ s (Sort.grow (redrawn w1 d) os) (S1.out.on (below_regrown w1 d os))).mono (by rintro r w2 ⟨rfl, rfl⟩; exact ⟨rfl, Below.refl _ _⟩)))
        generalize inStrsB ss s = IB at *
        have p0 := cell_regrown c2
        have p1 := cell_regrown c3
        have p2 := cell_regrown d2
        have p3 := cell_regrown d0
        have p4 := cell_regrown d1
        clear HB I1 S1
        go_wp2
        clear c0 c1 c2 c3 d0 d1 d2
        refine wp_region_quiet_below mixed (by kernel_rfl) ?_
        repeat (first | go_big_quiet_step (exact unhide (X _ _)) | quiet_step (exact unhide (X _ _)))
        refine wpQuiet_nil ?_
        intro _ hw'
        obtain ⟨⟨dq, osq⟩, hw''⟩ := hw'
        subst hw''
        go_wp2
        go_ret
        refine ⟨ret_bool (by rw [E.out]; cases IB <;> cases sc <;> rfl), B2.out.trans ((below_regrown w1 dq osq).mono B2.out.size)⟩
end Go.Proofs.Ytoplmioejebnnaa
