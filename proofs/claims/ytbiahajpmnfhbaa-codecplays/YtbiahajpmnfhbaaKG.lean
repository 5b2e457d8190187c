/-
  The walk of the program's reader: Uint and Int.
-/
import Derived.Test.YtbiahajpmnfhbaaKF
import Derived.Test.YtbiahajpmnfhbaaKU
set_option linter.unusedSimpArgs false
set_option linter.unusedVariables false
namespace Go.Proofs.Ytbiahajpmnfhbaa
open Go.RowKit

theorem mk_size (l : List UInt8) : (⟨l.toArray⟩ : ByteArray).size = l.length := by simp [ByteArray.size]
theorem mk_tail (c : UInt8) (t : List UInt8) : (⟨(c :: t).toArray⟩ : ByteArray).extract 1 (⟨(c :: t).toArray⟩ : ByteArray).size = ⟨t.toArray⟩ := by
  apply ByteArray.ext
  rw [ByteArray.data_extract, mk_size]
  simp
theorem byte_cons (b : Nat) (c : UInt8) (t : List UInt8) (e : Int) (w : World) (h : Pd w b ⟨(c :: t).toArray⟩ e) (hz : (c :: t).length ≤ 1048576) :
    Calls Try.prog 18 #[.pointer (some ⟨b, 0, none⟩)] w fun r w' => r = .returned (.int .u8 (c.toNat : Int)) ∧ Pd w' b ⟨t.toArray⟩ e ∧ w.grownBy w' (some b) := by
  have := byte_next b _ e w h (by rw [mk_size]; simp) (by rw [mk_size]; exact hz)
  rw [mk_tail] at this
  exact this

/-- How much is left to a reader. -/
def restLen (w : World) (b : Nat) : Nat := match w.cell? ⟨b, 0, none⟩ with
  | some (.string s) => s.size
  | _ => 0
theorem Pd.len {w : World} {b : Nat} {s : ByteArray} {e : Int} (h : Pd w b s e) : restLen w b = s.size := by
  unfold restLen; rw [h.cells.1]

/-- How the reading of a number ends. -/
def UPost (g : Got) (b : Nat) (w : World) (r : Ending) (w' : World) : Prop :=
  r = .returned (.int .u64 (g.n : Int)) ∧ g.n < 18446744073709551616 ∧ Pd w' b ⟨g.rest.toArray⟩ (g.err : Int) ∧ w.grownBy w' (some b)

set_option maxHeartbeats 2000000 in
set_option maxRecDepth 100000 in
theorem uintR_off (b : Nat) (e : Int) (w : World) (h : Pd w b ⟨#[]⟩ e) (e0 : ¬ e = 0) :
    Calls Try.prog 20 #[.pointer (some ⟨b, 0, none⟩)] w fun r w' => r = .returned (.int .u64 0) ∧ w' = w := by
  have HB := hide (byte_off b e w h e0)
  have HE := hide (err_any b ⟨#[]⟩ e w h)
  have eb : (e == 0) = false := beq_eq_false_iff_ne.2 e0
  have eb2 : (e != 0) = true := by rw [bne_iff_ne]; exact e0
  clear h e0
  go_enter Try.func20, Try.ntmps20
  go_wp2
  go_loopw [3, 4, 5] (fun nv _ _ wr => nv = .int .u64 0 ∧ wr = w) (fun _ _ _ _ => 0)
  case atStart => exact ⟨rfl, rfl⟩
  case round =>
    obtain ⟨rfl, rfl⟩ := hrel
    go_wp2_with fail
    refine (unhide HB).mono ?_
    rintro r w1 ⟨rfl, rfl⟩
    go_wp2_with fail
    refine (unhide HE).mono ?_
    rintro r w1 ⟨rfl, rfl⟩
    go_wp2
    go_ret
    exact ⟨rfl, rfl⟩
set_option maxHeartbeats 2000000 in
set_option maxRecDepth 100000 in
theorem uintR_nil (w : World) :
    Calls Try.prog 20 #[.pointer none] w fun r w' => r = .returned (.int .u64 0) ∧ w' = w := by
  have HB := hide (byte_nil w)
  have HE := hide (err_nil w)
  go_enter Try.func20, Try.ntmps20
  go_wp2
  go_loopw [3, 4, 5] (fun nv _ _ wr => nv = .int .u64 0 ∧ wr = w) (fun _ _ _ _ => 0)
  case atStart => exact ⟨rfl, rfl⟩
  case round =>
    obtain ⟨rfl, rfl⟩ := hrel
    go_wp2_with fail
    refine (unhide HB).mono ?_
    rintro r w1 ⟨rfl, rfl⟩
    go_wp2_with fail
    refine (unhide HE).mono ?_
    rintro r w1 ⟨rfl, rfl⟩
    go_wp2
    go_ret
    exact ⟨rfl, rfl⟩

set_option maxHeartbeats 4000000 in
set_option maxRecDepth 100000 in
theorem uintR_ok (b : Nat) (l : List UInt8) (w : World) (h : Pd w b ⟨l.toArray⟩ 0) (hz : l.length ≤ 1048576) :
    Calls Try.prog 20 #[.pointer (some ⟨b, 0, none⟩)] w fun r w' => UPost (decL true 0 l) b w r w' := by
  have H := hide h
  have Hz := hide hz
  clear h hz
  generalize hG : decL true 0 l = G
  have HG := hide hG
  clear hG
  go_enter Try.func20, Try.ntmps20
  go_wp2
  go_loopw [3, 4, 5] (fun nv _ _ wr => ∃ (M : Int) (l : List UInt8), nv = .int .u64 M ∧ 0 ≤ M ∧ M < 18446744073709551616 ∧ Hid (l.length ≤ 1048576) ∧ Hid (Pd wr b ⟨l.toArray⟩ 0) ∧ Hid (decL (decide (M = 0)) M.toNat l = G) ∧ Hid (w.grownBy wr (some b))) (fun _ _ _ wr => restLen wr b)
  case atStart => exact ⟨0, l, rfl, by omega, by omega, Hz, H, HG, grown_refl _ _⟩
  case round =>
    clear H Hz HG
    obtain ⟨M, l, rfl, hM0, hm, Hz, HR, HD, HW⟩ := hrel
    cases l with
    | nil =>
      have E : Hid (⟨3, 0, []⟩ = G) := hide (by rw [← HD.out]; rfl)
      have HB := hide (byte_end b wr HR.out)
      have mb : ((M == 0) = true ∧ M ≤ 144115188075855871) ∨ ((M == 0) = false ∧ M ≤ 144115188075855871) ∨ ((M == 0) = false ∧ ¬ M ≤ 144115188075855871) := by
        simp only [beq_iff_eq, beq_eq_false_iff_ne, ne_eq]; omega
      clear HD
      rcases mb with ⟨mb, m57⟩ | ⟨mb, m57⟩ | ⟨mb, m57⟩
      rotate_left 2
      · have HF := fun W h => hide (fail_off b ⟨#[]⟩ 3 2 W h (by omega))
        go_wp2_with fail
        refine (unhide HB).mono ?_
        rintro r w1 ⟨rfl, hR1, hg1⟩
        have HF1 := HF _ hR1
        have HE1 := hide (err_any b _ _ _ hR1)
        have HR1 := hide hR1
        have HW1 := hide (grown_trans HW.out hg1)
        clear hR1 hg1 HF
        go_wp2_with fail
        refine (unhide HF1).mono ?_
        rintro r w2 ⟨⟨v, rfl⟩, rfl⟩
        go_wp2_with fail
        refine (unhide HE1).mono ?_
        rintro r w2 ⟨rfl, rfl⟩
        go_wp2
        go_ret
        rw [← E.out]
        exact ⟨rfl, by show 0 < _; omega, HR1.out, HW1.out⟩
      all_goals
        go_wp2_with fail
        refine (unhide HB).mono ?_
        rintro r w1 ⟨rfl, hR1, hg1⟩
        have HE1 := hide (err_any b _ _ _ hR1)
        have HR1 := hide hR1
        have HW1 := hide (grown_trans HW.out hg1)
        clear hR1 hg1
        go_wp2_with fail
        refine (unhide HE1).mono ?_
        rintro r w2 ⟨rfl, rfl⟩
        go_wp2
        go_ret
        rw [← E.out]
        exact ⟨rfl, by show 0 < _; omega, HR1.out, HW1.out⟩
    | cons c t =>
      have HB := hide (byte_cons b c t 0 wr HR.out Hz.out)
      have hc := c.toNat_lt
      have D0 := HD.out
      have HL0 : Hid (restLen wr b = t.length + 1) := hide (by rw [HR.out.len, mk_size]; rfl)
      have Hz2 : Hid (t.length ≤ 1048576) := hide (by have := Hz.out; simp at this; omega)
      clear HD HR Hz
      by_cases bad : (decide (M = 0) = true ∧ c.toNat = 128) ∨ 144115188075855872 ≤ M.toNat
      · have E := hide ((dec_form _ M.toNat c t bad).symm.trans D0)
        have cs : (((M == 0) = true ∧ ((c.toNat : Int) == 128) = true) ∧ M ≤ 144115188075855871) ∨ ((M == 0) = false ∧ ¬ M ≤ 144115188075855871) := by
          simp only [beq_iff_eq, beq_eq_false_iff_ne, ne_eq]
          simp only [decide_eq_true_eq] at bad
          omega
        clear bad D0
        rcases cs with ⟨⟨mb, cb⟩, m57⟩ | ⟨mb, m57⟩
        all_goals
          go_wp2_with fail
          refine (unhide HB).mono ?_
          rintro r w1 ⟨rfl, hR1, hg1⟩
          have HF1 := hide (fail_ok b _ 2 _ hR1 (by omega))
          have HW1 := hide (grown_trans HW.out hg1)
          clear hR1 hg1
          go_wp2_with fail
          refine (unhide HF1).mono ?_
          rintro r w2 ⟨⟨v, rfl⟩, hR2, hg2⟩
          have HE2 := hide (err_any b _ _ _ hR2)
          have HR2 := hide hR2
          have HW2 := hide (grown_trans HW1.out hg2)
          clear hR2 hg2
          go_wp2_with fail
          refine (unhide HE2).mono ?_
          rintro r w3 ⟨rfl, rfl⟩
          go_wp2
          go_ret
          rw [← E.out]
          exact ⟨rfl, by show 0 < _; omega, HR2.out, HW2.out⟩
      · have m57' : M.toNat < 144115188075855872 := by
          rcases Nat.lt_or_ge M.toNat 144115188075855872 with h' | h'
          · exact h'
          · exact absurd (Or.inr h') bad
        have m57 : M ≤ 144115188075855871 := by omega
        have hnf : ¬ (decide (M = 0) = true ∧ c.toNat = 128) := fun h => bad (Or.inl h)
        by_cases c128 : c.toNat < 128
        · have E := hide ((dec_last (decide (M = 0)) M.toNat c t m57' c128).symm.trans D0)
          have cb : ((c.toNat : Int) == 128) = false := beq_eq_false_iff_ne.2 (by omega)
          have c128' : (c.toNat : Int) < 128 := by omega
          have hw1 : IntKind.u64.wrap (M * 128) = M * 128 := by rw [IntKind.wrap_u64]; omega
          have hr : (c.toNat : Int) % 128 = (c.toNat : Int) := by omega
          have hw2 : IntKind.u64.wrap (M * 128 + (c.toNat : Int)) = M * 128 + (c.toNat : Int) := by rw [IntKind.wrap_u64]; omega
          have hv : Hid (((M.toNat * 128 + c.toNat % 128 : Nat) : Int) = M * 128 + (c.toNat : Int)) := hide (by omega)
          have hv2 : Hid (M.toNat * 128 + c.toNat % 128 < 18446744073709551616) := hide (by omega)
          have mb : (M == 0) = true ∨ (M == 0) = false := by cases (M == 0) <;> simp
          clear m57' bad hnf D0 c128 hm
          rcases mb with mb | mb
          all_goals
            go_wp2_with fail
            refine (unhide HB).mono ?_
            rintro r w1 ⟨rfl, hR1, hg1⟩
            have HE1 := hide (err_any b _ _ _ hR1)
            have HR1 := hide hR1
            have HW1 := hide (grown_trans HW.out hg1)
            clear hR1 hg1
            go_wp2_with fail
            refine (unhide HE1).mono ?_
            rintro r w2 ⟨rfl, rfl⟩
            go_wp2
            go_ret
            rw [← E.out]
            exact ⟨ret_int hv.out.symm, hv2.out, HR1.out, HW1.out⟩
        · have E := hide ((dec_go (decide (M = 0)) M.toNat c t m57' hnf c128).symm.trans D0)
          have c128' : ¬ (c.toNat : Int) < 128 := by omega
          have hc2 : (c.toNat : Int) < 256 := by omega
          have hw1 : IntKind.u64.wrap (M * 128) = M * 128 := by rw [IntKind.wrap_u64]; omega
          have hr : (c.toNat : Int) % 128 = (c.toNat : Int) - 128 := by omega
          have hw2 : IntKind.u64.wrap (M * 128 + ((c.toNat : Int) - 128)) = M * 128 + ((c.toNat : Int) - 128) := by rw [IntKind.wrap_u64]; omega
          have hpos : Hid (0 < M * 128 + ((c.toNat : Int) - 128)) := hide (by
            rcases Int.lt_or_le 0 M with h' | h'
            · omega
            · have : ¬ c.toNat = 128 := fun h => hnf ⟨by simp; omega, h⟩
              omega)
          have hlt : Hid (M * 128 + ((c.toNat : Int) - 128) < 18446744073709551616) := hide (by omega)
          have hv : Hid ((M * 128 + ((c.toNat : Int) - 128)).toNat = M.toNat * 128 + c.toNat % 128) := hide (by omega)
          have mb : ((M == 0) = true ∧ ((c.toNat : Int) == 128) = false) ∨ (M == 0) = false := by
            simp only [beq_iff_eq, beq_eq_false_iff_ne, ne_eq]
            simp only [decide_eq_true_eq] at hnf
            omega
          clear m57' bad hnf D0 c128 hm
          rcases mb with ⟨mb, cb⟩ | mb
          all_goals
            go_wp2_with fail
            refine (unhide HB).mono ?_
            rintro r w1 ⟨rfl, hR1, hg1⟩
            have HE1 := hide (err_any b _ _ _ hR1)
            have HR1 := hide hR1
            have HW1 := hide (grown_trans HW.out hg1)
            clear hR1 hg1
            go_wp2_with fail
            refine (unhide HE1).mono ?_
            rintro r w2 ⟨rfl, rfl⟩
            go_wp2
            refine ⟨⟨M * 128 + ((c.toNat : Int) - 128), t, rfl, Int.le_of_lt hpos.out, hlt.out, Hz2, HR1, hide ?_, HW1⟩, ?_⟩
            · rw [hv.out, show decide (M * 128 + ((c.toNat : Int) - 128) = 0) = false from decide_eq_false (by have := hpos.out; omega)]; exact E.out
            · rw [HL0.out, HR1.out.len, mk_size]; omega
end Go.Proofs.Ytbiahajpmnfhbaa
