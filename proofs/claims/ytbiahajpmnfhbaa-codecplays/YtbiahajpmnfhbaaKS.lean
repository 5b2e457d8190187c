/-
  The walk of the second reference's reader: Str.
-/
import Derived.Test.YtbiahajpmnfhbaaKU
import Derived.Laws.DeepStrings4
set_option linter.unusedSimpArgs false
set_option linter.unusedVariables false
namespace Go.Proofs.Ytbiahajpmnfhbaa
open Go.RowKit

set_option maxHeartbeats 1000000 in
set_option maxRecDepth 100000 in
theorem refRStr_off (b : Nat) (s : ByteArray) (k e most : Int) (w : World) (h : Rd w b s k e) (e0 : ¬ e = 0) :
    Calls Try.prog 25 #[.pointer (some ⟨b, 0, none⟩), .int .i64 most] w fun r w' => r = .returned (.string ⟨#[]⟩) ∧ Below w.heap.size w w' := by
  have HU := hide (refRUint_off b s k e w h e0)
  have eb : (e == 0) = false := beq_eq_false_iff_ne.2 e0
  have eb2 : (e != 0) = true := by rw [bne_iff_ne]; exact e0
  have H := hide h
  clear h e0
  go_enter Try.func25, Try.ntmps25
  go_wp2_with fail
  refine (unhide HU).mono ?_
  rintro r w1 ⟨rfl, hb1⟩
  have HB1 := hide hb1
  have HR := hide (H.out.on hb1)
  clear hb1
  have hz1 := HB1.out.size
  obtain ⟨c0, c1, c2, f1, f2⟩ := HR.out.cells
  go_wp2
  have p0 := cell_regrown c0
  have p1 := cell_regrown c1
  have p2 := cell_regrown c2
  clear c0 c1 c2
  refine wp_region_quiet_below mixed (by kernel_rfl) ?_
  repeat (first | go_big_quiet_step (fail) | quiet_step (fail))
  refine wpQuiet_nil ?_
  intro _ hw'
  obtain ⟨⟨dq, osq⟩, hw''⟩ := hw'
  subst hw''
  go_wp2
  go_ret
  exact ⟨rfl, HB1.out.trans ((below_regrown w1 dq osq).mono hz1)⟩

set_option maxHeartbeats 1000000 in
set_option maxRecDepth 100000 in
theorem refRStr_bad (b : Nat) (s : ByteArray) (k : Nat) (most : Int) (w : World) (h : Rd w b s k 0) (hk : k ≤ s.size) (hz : s.size ≤ 1048576) (he : (decL true 0 (s.data.toList.drop k)).err ≠ 0) :
    Calls Try.prog 25 #[.pointer (some ⟨b, 0, none⟩), .int .i64 most] w fun r w' => r = .returned (.string ⟨#[]⟩) ∧ (∃ k' : Nat, k' ≤ s.size ∧ Rd w' b s (k' : Int) ((decL true 0 (s.data.toList.drop k)).err : Int)) ∧ w.grownBy w' (some b) := by
  have HU := hide (refRUint_ok b s k w h hk hz)
  generalize decL true 0 (s.data.toList.drop k) = G at *
  clear h
  obtain ⟨e, hE⟩ : ∃ e : Int, e = (G.err : Int) := ⟨_, rfl⟩
  have eb : (e == 0) = false := beq_eq_false_iff_ne.2 (by omega)
  have eb2 : (e != 0) = true := by rw [bne_iff_ne]; omega
  have HEE := hide hE
  have He := hide he
  clear hE he
  go_enter Try.func25, Try.ntmps25
  go_wp2_with fail
  refine (unhide HU).mono ?_
  rintro r w1 ⟨⟨g0, _⟩ | ⟨g0, rfl, k', hk', gR⟩, gw⟩
  · exact absurd g0 He.out
  rw [← HEE.out] at gR
  have HR := hide gR
  have HW := hide gw
  have HK := hide hk'
  clear gR gw hk' g0
  obtain ⟨c0, c1, c2, f1, f2⟩ := HR.out.cells
  go_wp2
  have p0 := cell_regrown c0
  have p1 := cell_regrown c1
  have p2 := cell_regrown c2
  clear c0 c1 c2
  refine wp_region_quiet_below mixed (by kernel_rfl) ?_
  repeat (first | go_big_quiet_step (fail) | quiet_step (fail))
  refine wpQuiet_nil ?_
  intro _ hw'
  obtain ⟨⟨dq, osq⟩, hw''⟩ := hw'
  subst hw''
  go_wp2
  go_ret
  refine ⟨rfl, ⟨k', HK.out, ?_⟩, grown_below HW.out (below_regrown w1 dq osq)⟩
  rw [← HEE.out]
  exact HR.out.on (below_regrown w1 dq osq)

set_option maxHeartbeats 1000000 in
set_option maxRecDepth 100000 in
theorem refRStr_long (b : Nat) (s : ByteArray) (k : Nat) (most : Int) (w : World) (h : Rd w b s k 0) (hk : k ≤ s.size) (hz : s.size ≤ 1048576) (m0 : -9223372036854775808 ≤ most) (m1 : most ≤ 9223372036854775807) (G : Got) (hG : decL true 0 (s.data.toList.drop k) = G) (he : G.err = 0) (hl : max most 0 < (G.n : Int)) :
    Calls Try.prog 25 #[.pointer (some ⟨b, 0, none⟩), .int .i64 most] w fun r w' => (r = .returned (.string ⟨#[]⟩) ∧ Rd w' b s ((s.size - G.rest.length : Nat) : Int) 9) ∧ w.grownBy w' (some b) := by
  have HU0 := refRUint_ok b s k w h hk hz
  rw [hG] at HU0
  have HU := hide HU0
  obtain ⟨A, hA⟩ : ∃ A : Nat, A = s.size - G.rest.length := ⟨_, rfl⟩
  have hAs : (A : Int) ≤ (s.size : Int) := by omega
  obtain ⟨N, hN⟩ : ∃ N : Int, N = (G.n : Int) := ⟨_, rfl⟩
  have n0 : 0 ≤ N := by omega
  have hl' : max most 0 < N := by omega
  have HA := hide hA
  have HN := hide hN
  have He := hide he
  have HX := hide True.intro
  clear HU0 h hG he hA hN hl
  have HS := fun (W : World) (h' : Rd W b s A 0) => hide (refStop_ok b s A 9 W h')
  by_cases hm : 0 ≤ most
  · have hl2 : most < N := by omega
    clear hl'
    go_enter Try.func25, Try.ntmps25
    go_wp2_with fail
    refine (unhide HU).mono ?_
    rintro r w1 ⟨⟨g0, rfl, gb, gR⟩ | ⟨g0, _⟩, gw⟩
    rotate_left
    · exact absurd He.out g0
    rw [← HA.out] at gR
    rw [← HN.out]
    have n1 : N < 18446744073709551616 := by have := HN.out; omega
    have HR := hide gR
    have HW := hide gw
    clear gR gw g0 gb
    obtain ⟨c0, c1, c2, f1, f2⟩ := HR.out.cells
    go_wp2_with fail
    refine (unhide (HS _ HR.out)).mono ?_
    rintro r w2 ⟨rfl, hR2, hg2⟩
    have HR2 := hide hR2
    have HW2 := hide (grown_trans HW.out hg2)
    clear hR2 hg2 c0 c1 c2 f1 f2
    obtain ⟨c0, c1, c2, f1, f2⟩ := HR2.out.cells
    go_wp2
    have p0 := cell_regrown c0
    have p1 := cell_regrown c1
    have p2 := cell_regrown c2
    clear c0 c1 c2
    refine wp_region_quiet_below mixed (by kernel_rfl) ?_
    repeat (first | go_big_quiet_step (fail) | quiet_step (fail))
    refine wpQuiet_nil ?_
    intro _ hw'
    obtain ⟨⟨dq, osq⟩, hw''⟩ := hw'
    subst hw''
    go_wp2
    go_ret
    refine ⟨⟨rfl, ?_⟩, grown_below HW2.out (below_regrown w2 dq osq)⟩
    rw [← HA.out]
    exact HR2.out.on (below_regrown w2 dq osq)
  · have hl2 : 0 < N := by omega
    clear hl'
    go_enter Try.func25, Try.ntmps25
    go_wp2_with fail
    refine (unhide HU).mono ?_
    rintro r w1 ⟨⟨g0, rfl, gb, gR⟩ | ⟨g0, _⟩, gw⟩
    rotate_left
    · exact absurd He.out g0
    rw [← HA.out] at gR
    rw [← HN.out]
    have n1 : N < 18446744073709551616 := by have := HN.out; omega
    have HR := hide gR
    have HW := hide gw
    clear gR gw g0 gb
    obtain ⟨c0, c1, c2, f1, f2⟩ := HR.out.cells
    go_wp2_with fail
    refine (unhide (HS _ HR.out)).mono ?_
    rintro r w2 ⟨rfl, hR2, hg2⟩
    have HR2 := hide hR2
    have HW2 := hide (grown_trans HW.out hg2)
    clear hR2 hg2 c0 c1 c2 f1 f2
    obtain ⟨c0, c1, c2, f1, f2⟩ := HR2.out.cells
    go_wp2
    have p0 := cell_regrown c0
    have p1 := cell_regrown c1
    have p2 := cell_regrown c2
    clear c0 c1 c2
    refine wp_region_quiet_below mixed (by kernel_rfl) ?_
    repeat (first | go_big_quiet_step (fail) | quiet_step (fail))
    refine wpQuiet_nil ?_
    intro _ hw'
    obtain ⟨⟨dq, osq⟩, hw''⟩ := hw'
    subst hw''
    go_wp2
    go_ret
    refine ⟨⟨rfl, ?_⟩, grown_below HW2.out (below_regrown w2 dq osq)⟩
    rw [← HA.out]
    exact HR2.out.on (below_regrown w2 dq osq)

set_option maxHeartbeats 1000000 in
set_option maxRecDepth 100000 in
theorem refRStr_torn (b : Nat) (s : ByteArray) (k : Nat) (most : Int) (w : World) (h : Rd w b s k 0) (hk : k ≤ s.size) (hz : s.size ≤ 1048576) (m0 : -9223372036854775808 ≤ most) (m1 : most ≤ 9223372036854775807) (G : Got) (hG : decL true 0 (s.data.toList.drop k) = G) (he : G.err = 0) (hl : ¬ max most 0 < (G.n : Int)) (hr : G.rest.length < G.n) :
    Calls Try.prog 25 #[.pointer (some ⟨b, 0, none⟩), .int .i64 most] w fun r w' => (r = .returned (.string ⟨#[]⟩) ∧ Rd w' b s ((s.size - G.rest.length : Nat) : Int) 3) ∧ w.grownBy w' (some b) := by
  have HU0 := refRUint_ok b s k w h hk hz
  rw [hG] at HU0
  have HU := hide HU0
  have hrest : G.rest.length ≤ s.size := by
    have hd := (dec_inv (s.data.toList.drop k) G.n G.rest (by rw [hG]; cases G; simp at he; subst he; rfl)).1
    have := congrArg List.length hd
    rw [List.length_append, List.length_drop, ← Lib.size_eq] at this
    omega
  obtain ⟨A, hA⟩ : ∃ A : Nat, A = s.size - G.rest.length := ⟨_, rfl⟩
  have hAs : (A : Int) ≤ (s.size : Int) := by omega
  obtain ⟨N, hN⟩ : ∃ N : Int, N = (G.n : Int) := ⟨_, rfl⟩
  have n0 : 0 ≤ N := by omega
  have hl' : N ≤ max most 0 := by omega
  have hr' : (s.size : Int) - (A : Int) < N := by omega
  have hw1 : IntKind.u64.wrap ((s.size : Int) - (A : Int)) = (s.size : Int) - (A : Int) := by rw [IntKind.wrap_u64]; omega
  have HA := hide hA
  have HN := hide hN
  have He := hide he
  clear HU0 h hG he hA hN hl hr hrest
  have HS := fun (W : World) (h' : Rd W b s A 0) => hide (refStop_ok b s A 3 W h')
  by_cases hm : 0 ≤ most
  · have hl2 : N ≤ most := by omega
    clear hl'
    go_enter Try.func25, Try.ntmps25
    go_wp2_with fail
    refine (unhide HU).mono ?_
    rintro r w1 ⟨⟨g0, rfl, gb, gR⟩ | ⟨g0, _⟩, gw⟩
    rotate_left
    · exact absurd He.out g0
    rw [← HA.out] at gR
    rw [← HN.out]
    have n1 : N < 18446744073709551616 := by have := HN.out; omega
    have HR := hide gR
    have HW := hide gw
    clear gR gw g0 gb
    obtain ⟨c0, c1, c2, f1, f2⟩ := HR.out.cells
    go_wp2
    have p0 := cell_regrown c0
    have p1 := cell_regrown c1
    have p2 := cell_regrown c2
    clear c0 c1 c2
    refine wp_region_quiet_below mixed (by kernel_rfl) ?_
    repeat (first | go_big_quiet_step (fail) | quiet_step (fail))
    refine wpQuiet_nil ?_
    intro _ hw'
    obtain ⟨⟨dq, osq⟩, hw''⟩ := hw'
    subst hw''
    have HR2 := hide (HR.out.on (below_regrown w1 dq osq))
    have HW2 := hide (grown_below HW.out (below_regrown w1 dq osq))
    clear p0 p1 p2 f1 f2 HR HW
    generalize Sort.grow (redrawn w1 dq) osq = w2 at *
    obtain ⟨c0, c1, c2, f1, f2⟩ := HR2.out.cells
    go_wp2_with fail
    refine (unhide (HS _ HR2.out)).mono ?_
    rintro r w3 ⟨rfl, hR3, hg3⟩
    have HR3 := hide hR3
    have HW3 := hide (grown_trans HW2.out hg3)
    clear hR3 hg3 c0 c1 c2 f1 f2
    obtain ⟨c0, c1, c2, f1, f2⟩ := HR3.out.cells
    go_wp2
    go_ret
    refine ⟨⟨rfl, ?_⟩, HW3.out⟩
    rw [← HA.out]
    exact HR3.out
  · exfalso; omega

set_option maxHeartbeats 1000000 in
set_option maxRecDepth 100000 in
theorem refRStr_ok (b : Nat) (s : ByteArray) (k : Nat) (most : Int) (w : World) (h : Rd w b s k 0) (hk : k ≤ s.size) (hz : s.size ≤ 1048576) (m0 : -9223372036854775808 ≤ most) (m1 : most ≤ 9223372036854775807) (G : Got) (hG : decL true 0 (s.data.toList.drop k) = G) (he : G.err = 0) (hl : ¬ max most 0 < (G.n : Int)) (hr : G.n ≤ G.rest.length) :
    Calls Try.prog 25 #[.pointer (some ⟨b, 0, none⟩), .int .i64 most] w fun r w' => (r = .returned (.string (s.extract (s.size - G.rest.length) ((s.size - G.rest.length) + G.n))) ∧ Rd w' b s (((s.size - G.rest.length) + G.n : Nat) : Int) 0) ∧ w.grownBy w' (some b) := by
  have HU0 := refRUint_ok b s k w h hk hz
  rw [hG] at HU0
  have HU := hide HU0
  have hrest : G.rest.length ≤ s.size := by
    have hd := (dec_inv (s.data.toList.drop k) G.n G.rest (by rw [hG]; cases G; simp at he; subst he; rfl)).1
    have := congrArg List.length hd
    rw [List.length_append, List.length_drop, ← Lib.size_eq] at this
    omega
  obtain ⟨A, hA⟩ : ∃ A : Nat, A = s.size - G.rest.length := ⟨_, rfl⟩
  have hAs : (A : Int) ≤ (s.size : Int) := by omega
  obtain ⟨N, hN⟩ : ∃ N : Int, N = (G.n : Int) := ⟨_, rfl⟩
  have n0 : 0 ≤ N := by omega
  have hl' : N ≤ max most 0 := by omega
  have hr' : N ≤ (s.size : Int) - (A : Int) := by omega
  have hw1 : IntKind.u64.wrap ((s.size : Int) - (A : Int)) = (s.size : Int) - (A : Int) := by rw [IntKind.wrap_u64]; omega
  have hN8 : N ≤ 1048576 := by omega
  have hAN : (A : Int) + N ≤ (s.size : Int) := by omega
  have hw2 : IntKind.i64.wrap N = N := by rw [IntKind.wrap_i64]; omega
  have hw3 : IntKind.i64.wrap ((A : Int) + N) = (A : Int) + N := by rw [IntKind.wrap_i64]; omega
  have hw4 : IntKind.i64.wrap ((A : Int) + N - N) = (A : Int) := by rw [IntKind.wrap_i64]; omega
  have HX : Hid (s.extract A ((A : Int) + N).toNat = s.extract A (A + G.n)) := hide (by congr 1; omega)
  have hsl : ∀ W, (Instr.slice 9 (.string s) (some (.int .i64 (A : Int))) (some (.int .i64 ((A : Int) + N))) none).run Try.prog W = .ok (.string (s.extract A ((A : Int) + N).toNat)) W := fun W => by
    rw [run_slice_string_if (h := Try.underlying9), if_pos (by omega), if_pos (by omega)]; rfl
  have HA := hide hA
  have HN := hide hN
  have He := hide he
  clear HU0 h hG he hA hN hl hr hrest
  have HS := fun (W : World) (h' : Rd W b s A 0) => hide (refStop_ok b s A 3 W h')
  by_cases hm : 0 ≤ most
  · have hl2 : N ≤ most := by omega
    clear hl'
    go_enter Try.func25, Try.ntmps25
    go_wp2_with fail
    refine (unhide HU).mono ?_
    rintro r w1 ⟨⟨g0, rfl, gb, gR⟩ | ⟨g0, _⟩, gw⟩
    rotate_left
    · exact absurd He.out g0
    rw [← HA.out] at gR
    rw [← HN.out]
    have n1 : N < 18446744073709551616 := by have := HN.out; omega
    have HR := hide gR
    have HW := hide gw
    clear gR gw g0 gb
    obtain ⟨c0, c1, c2, f1, f2⟩ := HR.out.cells
    go_wp2
    have p0 := cell_regrown c0
    have p1 := cell_regrown c1
    have p2 := cell_regrown c2
    clear c0 c1 c2
    refine wp_region_quiet_below mixed (by kernel_rfl) ?_
    repeat (first | go_big_quiet_step (fail) | quiet_step (fail))
    refine wpQuiet_nil ?_
    intro _ hw'
    obtain ⟨⟨dq, osq⟩, hw''⟩ := hw'
    subst hw''
    have HR2 := hide (HR.out.on (below_regrown w1 dq osq))
    have HW2 := hide (grown_below HW.out (below_regrown w1 dq osq))
    clear p0 p1 p2 f1 f2 HR HW
    generalize Sort.grow (redrawn w1 dq) osq = w2 at *
    obtain ⟨c0, c1, c2, f1, f2⟩ := HR2.out.cells
    have HR3 := hide (HR2.out.go ((A : Int) + N))
    have HW3 := hide (grown_setCell HW2.out 1 (.int .i64 ((A : Int) + N)))
    obtain ⟨d0, d1, d2, _, _⟩ := HR3.out.cells
    have p0 := cell_regrown d0
    have p1 := cell_regrown d1
    go_wp2
    refine wp_region_quiet_below mixed (by kernel_rfl) ?_
    repeat (first | go_big_quiet_step (fail) | quiet_step (fail))
    refine wpQuiet_nil ?_
    intro _ hw'
    obtain ⟨⟨dq, osq⟩, hw''⟩ := hw'
    subst hw''
    go_wp2
    go_ret
    refine ⟨⟨?_, ?_⟩, grown_below HW3.out (below_regrown _ dq osq)⟩
    · rw [← HA.out]; exact ret_str (by rw [HX.out])
    · have e : (((s.size - G.rest.length) + G.n : Nat) : Int) = (A : Int) + N := by have := HA.out; have := HN.out; omega
      rw [e]
      exact HR3.out.on (below_regrown _ dq osq)
  · have hl2 : N ≤ 0 := by omega
    clear hl'
    go_enter Try.func25, Try.ntmps25
    go_wp2_with fail
    refine (unhide HU).mono ?_
    rintro r w1 ⟨⟨g0, rfl, gb, gR⟩ | ⟨g0, _⟩, gw⟩
    rotate_left
    · exact absurd He.out g0
    rw [← HA.out] at gR
    rw [← HN.out]
    have n1 : N < 18446744073709551616 := by have := HN.out; omega
    have HR := hide gR
    have HW := hide gw
    clear gR gw g0 gb
    obtain ⟨c0, c1, c2, f1, f2⟩ := HR.out.cells
    go_wp2
    have p0 := cell_regrown c0
    have p1 := cell_regrown c1
    have p2 := cell_regrown c2
    clear c0 c1 c2
    refine wp_region_quiet_below mixed (by kernel_rfl) ?_
    repeat (first | go_big_quiet_step (fail) | quiet_step (fail))
    refine wpQuiet_nil ?_
    intro _ hw'
    obtain ⟨⟨dq, osq⟩, hw''⟩ := hw'
    subst hw''
    have HR2 := hide (HR.out.on (below_regrown w1 dq osq))
    have HW2 := hide (grown_below HW.out (below_regrown w1 dq osq))
    clear p0 p1 p2 f1 f2 HR HW
    generalize Sort.grow (redrawn w1 dq) osq = w2 at *
    obtain ⟨c0, c1, c2, f1, f2⟩ := HR2.out.cells
    have HR3 := hide (HR2.out.go ((A : Int) + N))
    have HW3 := hide (grown_setCell HW2.out 1 (.int .i64 ((A : Int) + N)))
    obtain ⟨d0, d1, d2, _, _⟩ := HR3.out.cells
    have p0 := cell_regrown d0
    have p1 := cell_regrown d1
    go_wp2
    refine wp_region_quiet_below mixed (by kernel_rfl) ?_
    repeat (first | go_big_quiet_step (fail) | quiet_step (fail))
    refine wpQuiet_nil ?_
    intro _ hw'
    obtain ⟨⟨dq, osq⟩, hw''⟩ := hw'
    subst hw''
    go_wp2
    go_ret
    refine ⟨⟨?_, ?_⟩, grown_below HW3.out (below_regrown _ dq osq)⟩
    · rw [← HA.out]; exact ret_str (by rw [HX.out])
    · have e : (((s.size - G.rest.length) + G.n : Nat) : Int) = (A : Int) + N := by have := HA.out; have := HN.out; omega
      rw [e]
      exact HR3.out.on (below_regrown _ dq osq)
end Go.Proofs.Ytbiahajpmnfhbaa
