/-
  The program's set: Has.
-/
import Derived.Test.YtoplmioejebnnaaTG1
import Derived.Test.YtoplmioejebnnaaM0
set_option linter.unusedSimpArgs false
set_option linter.unusedVariables false
namespace Go.Proofs.Ytoplmioejebnnaa
open Go.RowKit

set_option maxHeartbeats 2000000 in
set_option maxRecDepth 100000 in
theorem has_any (v : Value) (S : SetV) (k n : Int) (s : ByteArray) (w : World) (hv : SetAt w v S) (hf : Fit S) (hs : s.size ≤ maxLen) :
    Calls Try.prog 52 #[v, .agg #[.int .i64 k, .int .i64 n, .string s]] w fun r w' => r = .returned (.bool (hasB S k n s)) ∧ Below w.heap.size w w' := by
  have HR1 := hide hf.good.rs.2
  have HL1 := hide hf.ns
  clear hf
  obtain ⟨vi, vs, rfl, hI, hS⟩ := hv
  obtain ⟨ai, ci, rfl⟩ := hI.form
  obtain ⟨aq, cq, rfl⟩ := hS.form
  obtain ⟨sa, si, sc, ss⟩ := S
  dsimp only at *
  have HI := hide hI
  have HS := hide hS
  have HR := fun (W : World) => hide (valRight_any k n s W hs)
  have HSX := fun (W : World) (h : StrsAt W (.slice aq ss.length cq) ss) => hide (hasString_any _ _ s W h HR1.out (Nat.le_trans HL1.out (by omega)))
  clear HL1
  generalize hH : hasB ⟨sa, si, sc, ss⟩ k n s = B
  have HH := hide hH
  have R2 : rightB k n s = true → k ≠ 0 → k ≠ 1 → k = 2 := fun h h0 h1 => by
    unfold rightB at h
    rw [if_neg h0, if_neg h1] at h
    split at h
    · assumption
    · simp at h
  have HR2 := hide R2
  clear hI hS hH R2
  generalize si.length = nI at *
  generalize ss.length = nS at *
  cases hr : rightB k n s
  · rw [hr] at HR
    have E : Hid (B = false) := hide (by rw [← HH.out]; unfold hasB; rw [hr]; rfl)
    clear HH hr
    go_enter Try.func52, Try.ntmps52
    go_wp2_with fail
    refine (unhide (HR _)).mono ?_
    rintro r w1 ⟨rfl, b1⟩
    have B1 := hide b1
    clear b1
    go_wp2
    go_ret
    exact ⟨ret_bool E.out.symm, (two_new B1.out).2.2⟩
  · rw [hr] at HR
    have hB := HH.out
    unfold hasB at hB
    rw [hr, Bool.true_and] at hB
    have HB := hide hB
    have k2 := HR2.out hr
    have K2 := hide k2
    clear HH hr hB k2 HR2
    go_enter Try.func52, Try.ntmps52
    go_wp2_with fail
    refine (unhide (HR _)).mono ?_
    rintro r w1 ⟨rfl, b1⟩
    obtain ⟨e1, e2, b2⟩ := two_new b1
    have c0 := cell_heap e1 0
    have c1 := cell_heap e1 1
    have c2 := cell_heap e1 2
    have c3 := cell_heap e1 3
    have d0 := cell_heap e2 0
    have d1 := cell_heap e2 1
    have d2 := cell_heap e2 2
    simp only [List.getElem?_toArray, List.getElem?_cons_zero, List.getElem?_cons_succ] at c0 c1 c2 c3 d0 d1 d2
    have B2 := hide b2
    have I1 := hide (HI.out.on b2)
    have S1 := hide (HS.out.on b2)
    clear b1 b2 e1 e2 HR HI HS
    by_cases k0 : k = 0
    · subst k0
      have E : Hid (B = sa) := hide (by rw [← HB.out, if_pos rfl])
      clear HB
      go_wp2
      go_ret
      exact ⟨ret_bool E.out.symm, B2.out⟩
    · have kb : (k == 0) = false := beq_eq_false_iff_ne.2 k0
      by_cases k1 : k = 1
      · subst k1
        have E : Hid (B = inIntsB si n) := hide (by rw [← HB.out, if_neg (by omega), if_pos rfl])
        have X := hide (hasNumber_any _ _ n _ I1.out)
        clear HB I1 S1
        go_wp2_with fail
        refine (unhide X).mono ?_
        rintro r w2 ⟨rfl, b2⟩
        go_wp2
        go_ret
        exact ⟨ret_bool E.out.symm, B2.out.trans (b2.mono B2.out.size)⟩
      · have kb1 : (k == 1) = false := beq_eq_false_iff_ne.2 k1
        have kk : k = 2 := K2.out k0 k1
        subst kk
        have E : Hid (B = (inStrsB ss s != sc)) := hide (by rw [← HB.out, if_neg k0, if_neg k1])
        have X := fun (d : Nat) (os : Array Obj) => hide (Calls.regrown_of ((HSX (Sort.grow (redrawn w1 d) os) (S1.out.on (below_regrown w1 d os))).out.mono (by rintro r w2 ⟨rfl, rfl⟩; exact ⟨rfl, Below.refl _ _⟩)))
        clear HSX
        generalize inStrsB ss s = IB at *
        have p0 := cell_regrown c2
        have p1 := cell_regrown c3
        have p2 := cell_regrown d2
        have p3 := cell_regrown d0
        have p4 := cell_regrown d1
        clear HB I1 S1
        go_wp2
        clear c0 c1 c2 c3 d0 d1 d2
        refine wp_region_quiet_below mixed (by kernel_rfl) ?_
        repeat (first | go_big_quiet_step (exact unhide (X _ _)) | quiet_step (exact unhide (X _ _)))
        refine wpQuiet_nil ?_
        intro _ hw'
        obtain ⟨⟨dq, osq⟩, hw''⟩ := hw'
        subst hw''
        go_wp2
        go_ret
        refine ⟨ret_bool (by rw [E.out]; cases IB <;> cases sc <;> rfl), B2.out.trans ((below_regrown w1 dq osq).mono B2.out.size)⟩
end Go.Proofs.Ytoplmioejebnnaa
