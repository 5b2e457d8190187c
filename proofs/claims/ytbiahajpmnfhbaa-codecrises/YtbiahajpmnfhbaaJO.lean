/-
  The walk of the law CodecOne.
-/
import Derived.Test.YtbiahajpmnfhbaaJB
set_option linter.unusedSimpArgs false
set_option linter.unusedVariables false
namespace Go.Proofs.Ytbiahajpmnfhbaa
open Go.RowKit

theorem mk_list (s : ByteArray) : s = ⟨s.data.toList.toArray⟩ := by cases s; simp

set_option maxHeartbeats 1000000 in
set_option maxRecDepth 100000 in
theorem one_walk (s : ByteArray) (w : World) (hs : s.size ≤ maxLen) :
    Calls Try.prog 8 #[.string s] w fun e w' => e = .returned (.bool true) ∧ Below w.heap.size w w' := by
  have hs' : s.size ≤ 9223372036854775807 := by unfold maxLen at hs; omega
  clear hs
  by_cases big : s.size ≤ 2000
  · have hb' : ¬ (2000 : Int) < (s.size : Int) := by omega
    have hinv := hide (dec_inv s.data.toList)
    have HL := hide (mk_list s)
    have hll : s.data.toList.length ≤ 1048576 := by rw [← Lib.size_eq]; omega
    generalize s.data.toList = l at *
    have hrl : (decL true 0 l).rest.length ≤ 1048576 := Nat.le_trans (dec_rest_le l true 0) hll
    have hU := fun b W h => hide (uintR_ok b l W h hll)
    have hI := fun b W h => hide (intR_ok b l W h hll)
    generalize decL true 0 l = G at *
    obtain ⟨ge, gn, gr⟩ := G
    dsimp only at *
    go_enter Try.func8, Try.ntmps8
    go_wp2_with fail
    refine (awake_any _).mono ?_
    rintro r w1 ⟨rfl, b1⟩
    have B1 := hide b1
    clear b1
    go_wp2_with fail
    refine (read_any _ _).mono ?_
    rintro r w2 ⟨rfl, p2, b2⟩
    have lt2 := lt_heap p2
    have s1 := B1.out.size
    have P2 := hide p2
    have B2 := hide (B1.out.trans (b2.mono s1))
    clear p2 b2 B1
    go_wp2_with fail
    refine (read_any _ _).mono ?_
    rintro r w3 ⟨rfl, p3, b3⟩
    have lt3 := lt_heap p3
    have P2' := P2.out.on b3
    rw [HL.out] at P2' p3
    have u1 := hU _ _ P2'
    have P3 := hide p3
    have B3 := hide (B2.out.trans (b3.mono B2.out.size))
    clear p3 b3 B2 P2 P2' hU
    go_wp2_with fail
    refine (unhide u1).mono ?_
    rintro r w4 ⟨rfl, gb, q1, g1⟩
    dsimp only at gb q1 ⊢
    have u2 := hI _ _ (P3.out.keep g1 (by omega))
    have B4 := hide (below_row B3.out g1 (by omega))
    have Q1 := hide q1
    have GB := hide gb
    clear q1 g1 gb u1 hI P3 B3
    go_wp2_with fail
    refine (unhide u2).mono ?_
    rintro r w5 ⟨rfl, q2, g2⟩
    have q1 := Q1.out.keep g2 (by omega)
    have B5 := hide (below_row B4.out g2 (by omega))
    have e1 := hide (err_any _ _ _ _ q1)
    have l1 := hide (left_any _ _ _ _ q1 (by rw [mk_size]; exact hrl))
    have P5 := hide q2
    rw [mk_size] at l1
    clear q1 q2 g2 u2 Q1 B4
    by_cases he : ge = 0
    · subst he
      by_cases hr : gr = []
      · subst hr
        obtain ⟨hi1, hi2⟩ := hinv.out gn [] rfl
        rw [List.append_nil] at hi1
        have hu3 := fun W => uint_any gn W hi2
        have hi3 := fun W => int_any (unzz gn) W (unzz_bd gn hi2).1 (unzz_bd gn hi2).2
        rw [zz_unzz] at hi3
        rw [← hi1, ← HL.out] at hu3 hi3
        have HU3 := fun W => hide (hu3 W)
        have HI3 := fun W => hide (hi3 W)
        clear hu3 hi3 hi1 hi2 hinv HL
        go_wp2_with fail
        refine (unhide e1).mono ?_
        rintro r w6 ⟨rfl, rfl⟩
        go_wp2_with fail
        refine (unhide l1).mono ?_
        rintro r w6 ⟨rfl, rfl⟩
        go_wp2_with fail
        refine (unhide (HU3 _)).mono ?_
        rintro r w7 ⟨rfl, b7⟩
        have B7 := hide (B5.out.trans (b7.mono B5.out.size))
        have q7 := P5.out.on b7
        clear b7 B5
        go_wp2_with fail
        refine (unhide (HI3 _)).mono ?_
        rintro r w8 ⟨rfl, b8⟩
        have B8 := hide (B7.out.trans (b8.mono B7.out.size))
        have l3 := hide (left_any _ _ _ _ (q7.on b8) (by rw [mk_size]; simp))
        rw [mk_size] at l3
        clear b8 B7 q7
        go_wp2_with fail
        refine (unhide l3).mono ?_
        rintro r w9 ⟨rfl, rfl⟩
        go_wp2
        go_ret
        exact ⟨rfl, B8.out⟩
      · have hr' : 0 < gr.length := List.length_pos_iff.2 hr
        clear hr
        go_wp2_with fail
        refine (unhide e1).mono ?_
        rintro r w6 ⟨rfl, rfl⟩
        go_wp2_with fail
        refine (unhide l1).mono ?_
        rintro r w6 ⟨rfl, rfl⟩
        go_wp2
        go_ret
        exact ⟨rfl, B5.out⟩
    · have eb : ((ge : Int) == 0) = false := beq_eq_false_iff_ne.2 (by omega)
      have eb2 : ((ge : Int) != 0) = true := by rw [bne_iff_ne]; omega
      clear he
      go_wp2_with fail
      refine (unhide e1).mono ?_
      rintro r w6 ⟨rfl, rfl⟩
      go_wp2
      go_ret
      exact ⟨rfl, B5.out⟩
  · have hb' : (2000 : Int) < (s.size : Int) := by omega
    go_enter Try.func8, Try.ntmps8
    go_wp2_with fail
    refine (awake_any _).mono ?_
    rintro r w1 ⟨rfl, b1⟩
    go_wp2_with fail
    refine (awake_any _).mono ?_
    rintro r w2 ⟨rfl, b2⟩
    have c2 := hide (b1.trans (b2.mono b1.size))
    clear b1 b2
    go_wp2
    go_ret
    exact ⟨rfl, c2.out⟩
end Go.Proofs.Ytbiahajpmnfhbaa
