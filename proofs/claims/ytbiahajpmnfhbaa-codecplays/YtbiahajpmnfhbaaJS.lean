/-
  The walk of the law CodecStops.
-/
import Derived.Test.YtbiahajpmnfhbaaKO
set_option linter.unusedSimpArgs false
set_option linter.unusedVariables false
namespace Go.Proofs.Ytbiahajpmnfhbaa
open Go.RowKit

set_option maxRecDepth 100000 in
theorem long_no (s : ByteArray) (a : Option Addr) (n cap : Nat) (w : World) (hs : s.size ≤ 2000) (hn : n ≤ 200) :
    Calls Try.prog 16 #[.string s, .slice a n cap] w fun r w' => r = .returned (.bool false) ∧ w' = w := by
  have h1 : ¬ (2000 : Int) < (s.size : Int) := by omega
  have h2 : ¬ (200 : Int) < (n : Int) := by omega
  go_enter Try.func16, Try.ntmps16
  go_wp2
  go_ret
  exact ⟨rfl, rfl⟩
set_option maxRecDepth 100000 in
theorem long_yes (s : ByteArray) (a : Option Addr) (n cap : Nat) (w : World) (hs : s.size ≤ 9223372036854775807) (hn : n ≤ 9223372036854775807) (h : ¬ (s.size ≤ 2000 ∧ n ≤ 200)) :
    Calls Try.prog 16 #[.string s, .slice a n cap] w fun r w' => r = .returned (.bool true) ∧ w' = w := by
  have hc : (2000 : Int) < (s.size : Int) ∨ (¬ (2000 : Int) < (s.size : Int) ∧ (200 : Int) < (n : Int)) := by omega
  rcases hc with h1 | ⟨h1, h2⟩
  all_goals
    go_enter Try.func16, Try.ntmps16
    go_wp2
    go_ret
    exact ⟨rfl, rfl⟩

set_option maxHeartbeats 4000000 in
set_option maxRecDepth 100000 in
theorem stops_walk (s : ByteArray) (e : Int) (v : Value) (n : Nat) (w : World) (e0 : -9223372036854775808 ≤ e) (e1 : e ≤ 9223372036854775807) (hs : s.size ≤ maxLen) (hv : OpsIn w v n) :
    Calls Try.prog 7 #[.string s, .int .i64 e, v] w fun r w' => r = .returned (.bool true) ∧ Below w.heap.size w w' := by
  have hs' : s.size ≤ 9223372036854775807 := by unfold maxLen at hs; omega
  clear hs
  have HV := hide hv
  obtain ⟨hn, a, cap, rfl, hel⟩ := hv
  clear hel
  by_cases big : s.size ≤ 2000 ∧ n ≤ 200
  · have HL := fun W => hide (long_no s a n cap W big.1 big.2)
    by_cases ez : e = 0
    · subst ez
      go_enter Try.func7, Try.ntmps7
      go_wp2_with fail
      refine (awake_any _).mono ?_
      rintro r w1 ⟨rfl, b1⟩
      go_wp2_with fail
      refine (unhide (HL _)).mono ?_
      rintro r w2 ⟨rfl, rfl⟩
      go_wp2_with fail
      refine (awake_any _).mono ?_
      rintro r w2 ⟨rfl, b2⟩
      have c2 := hide (b1.trans (b2.mono b1.size))
      clear b1 b2
      go_wp2
      go_ret
      exact ⟨rfl, c2.out⟩
    · have eb : (e == 0) = false := beq_eq_false_iff_ne.2 ez
      have eb2 : (e != 0) = true := by rw [bne_iff_ne]; exact ez
      have EZ := hide ez
      have hn2 : n ≤ 200 := big.2
      clear ez big
      go_enter Try.func7, Try.ntmps7
      go_wp2_with fail
      refine (awake_any _).mono ?_
      rintro r w1 ⟨rfl, b1⟩
      go_wp2_with fail
      refine (unhide (HL _)).mono ?_
      rintro r w2 ⟨rfl, rfl⟩
      have s1 := b1.size
      have B1 := hide b1
      clear b1 HL
      go_wp2_with fail
      refine (read_any _ _).mono ?_
      rintro r w3 ⟨rfl, p3, b3⟩
      have B3 := hide (B1.out.trans (b3.mono s1))
      have HF := hide (fail_ok _ s e w3 p3 EZ.out)
      clear b3 B1 p3
      go_wp2_with fail
      refine (unhide HF).mono ?_
      rintro r w4 ⟨⟨v4, rfl⟩, p4, g4⟩
      have P4 := hide p4
      have B4 := hide (below_row B3.out g4 s1)
      clear p4 g4 B3 HF
      go_wp2
      go_loopw [30] (fun i wr => ∃ k : Nat, i = .int .i64 k ∧ k ≤ n ∧ Hid (Pd wr w2.heap.size ⟨#[]⟩ e) ∧ Hid (Below w.heap.size w wr)) (fun i _ => n - (intOf i).toNat)
      case atStart => exact ⟨0, rfl, by omega, P4, B4⟩
      case round =>
        obtain ⟨k, rfl, hk, HP, HB⟩ := hrel
        clear P4 B4
        by_cases hlt : k < n
        · obtain ⟨_, a', cap', hva, hel⟩ := HV.out.on HB.out
          obtain ⟨rfl, _, rfl⟩ : a = a' ∧ n = n ∧ cap = cap' := by injection hva with h1 h2 h3; exact ⟨h1, rfl, h3⟩
          obtain ⟨b, off, kd, m, rfl, hblt, c0, c1, k0, k1, m0, m1⟩ := hel k hlt
          clear hva hel
          have HP5 := fun (o : Obj) => hide (HP.out.on ((Below.refl _ wr).alloc (Nat.le_refl _) o))
          have HB5 := fun (o : Obj) => hide (HB.out.alloc HB.out.size o)
          have t1 := fun (o : Obj) => hide (fail_off _ _ e 8 _ (HP5 o).out EZ.out)
          have t2 := fun (o : Obj) => hide (byte_off _ e _ (HP5 o).out EZ.out)
          have t3 := fun (o : Obj) => hide (uintR_off _ e _ (HP5 o).out EZ.out)
          have t4 := fun (o : Obj) => hide (intR_off _ e _ (HP5 o).out EZ.out)
          have t5 := fun (o : Obj) => hide (strR_off _ e m _ (HP5 o).out EZ.out m0 m1)
          have t6 := fun (o : Obj) => hide (left_any _ _ e _ (HP5 o).out (by simp [ByteArray.size]))
          have t7 := fun (o : Obj) => hide (err_any _ _ e _ (HP5 o).out)
          go_wp2_with fail
          refine (unhide (t1 _)).mono ?_
          rintro r w5 ⟨⟨v5, rfl⟩, rfl⟩
          go_wp2_with fail
          refine (unhide (t2 _)).mono ?_
          rintro r w5 ⟨rfl, rfl⟩
          go_wp2_with fail
          refine (unhide (t3 _)).mono ?_
          rintro r w5 ⟨rfl, rfl⟩
          go_wp2_with fail
          refine (unhide (t4 _)).mono ?_
          rintro r w5 ⟨rfl, rfl⟩
          go_wp2_with fail
          refine (unhide (t5 _)).mono ?_
          rintro r w5 ⟨rfl, rfl⟩
          go_wp2_with fail
          refine (unhide (t6 _)).mono ?_
          rintro r w5 ⟨rfl, rfl⟩
          go_wp2_with fail
          refine (unhide (t7 _)).mono ?_
          rintro r w5 ⟨rfl, rfl⟩
          go_wp2
          exact ⟨⟨k + 1, by go_num, by omega, HP5 _, HB5 _⟩, by simp [intOf]; omega⟩
        · have hge : (n : Int) ≤ (k : Int) := by omega
          have t7 := hide (err_any _ _ e _ HP.out)
          go_wp2_with fail
          refine (fail_nil 3 _).mono ?_
          rintro r w5 ⟨⟨v5, rfl⟩, rfl⟩
          go_wp2_with fail
          refine (unhide t7).mono ?_
          rintro r w6 ⟨rfl, rfl⟩
          go_wp2_with fail
          refine (byte_nil _).mono ?_
          rintro r w6 ⟨rfl, rfl⟩
          go_wp2_with fail
          refine (uintR_nil _).mono ?_
          rintro r w6 ⟨rfl, rfl⟩
          go_wp2_with fail
          refine (intR_nil _).mono ?_
          rintro r w6 ⟨rfl, rfl⟩
          go_wp2_with fail
          refine (strR_nil 5 _ (by omega) (by omega)).mono ?_
          rintro r w6 ⟨rfl, rfl⟩
          go_wp2_with fail
          refine (left_nil _).mono ?_
          rintro r w6 ⟨rfl, rfl⟩
          go_wp2_with fail
          refine (err_nil _).mono ?_
          rintro r w6 ⟨rfl, rfl⟩
          go_wp2
          go_ret
          exact ⟨rfl, HB.out⟩
  · have HL := fun W => hide (long_yes s a n cap W hs' hn big)
    clear big
    go_enter Try.func7, Try.ntmps7
    go_wp2_with fail
    refine (awake_any _).mono ?_
    rintro r w1 ⟨rfl, b1⟩
    go_wp2_with fail
    refine (unhide (HL _)).mono ?_
    rintro r w2 ⟨rfl, rfl⟩
    go_wp2_with fail
    refine (awake_any _).mono ?_
    rintro r w2 ⟨rfl, b2⟩
    have c2 := hide (b1.trans (b2.mono b1.size))
    clear b1 b2
    go_wp2
    go_ret
    exact ⟨rfl, c2.out⟩
end Go.Proofs.Ytbiahajpmnfhbaa
