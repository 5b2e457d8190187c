/-
  The walk of the second reference's reader: Uint and Int.
-/
import Derived.Test.YtbiahajpmnfhbaaKR
set_option linter.unusedSimpArgs false
set_option linter.unusedVariables false
namespace Go.Proofs.Ytbiahajpmnfhbaa
open Go.RowKit

theorem drop_at (s : ByteArray) (k : Nat) (hk : k < s.size) : s.data.toList.drop k = s[k] :: s.data.toList.drop (k + 1) := by
  rw [List.drop_eq_getElem_cons (by simpa using hk)]; rfl
theorem drop_end (s : ByteArray) (k : Nat) (hk : k = s.size) : s.data.toList.drop k = [] := by
  subst hk; rw [List.drop_eq_nil_iff]; simp

/-- How the reading of a number ends. -/
def UintPost (g : Got) (b : Nat) (s : ByteArray) (w : World) (r : Ending) (w' : World) : Prop :=
  ((g.err = 0 ∧ r = .returned (.int .u64 (g.n : Int)) ∧ g.n < 18446744073709551616 ∧ Rd w' b s ((s.size - g.rest.length : Nat) : Int) 0) ∨
   (g.err ≠ 0 ∧ r = .returned (.int .u64 0) ∧ ∃ k : Nat, k ≤ s.size ∧ Rd w' b s (k : Int) (g.err : Int))) ∧ w.grownBy w' (some b)

theorem dec_nil (f : Bool) (m : Nat) : decL f m [] = ⟨3, 0, []⟩ := rfl
theorem dec_form (f : Bool) (m : Nat) (c : UInt8) (l : List UInt8) (h : (f = true ∧ c.toNat = 128) ∨ 144115188075855872 ≤ m) : decL f m (c :: l) = ⟨2, 0, []⟩ := by
  unfold decL; rw [if_pos h]
theorem dec_last (f : Bool) (m : Nat) (c : UInt8) (l : List UInt8) (h : m < 144115188075855872) (hc : c.toNat < 128) : decL f m (c :: l) = ⟨0, m * 128 + c.toNat % 128, l⟩ := by
  unfold decL; rw [if_neg (by omega), if_pos hc]
theorem dec_go (f : Bool) (m : Nat) (c : UInt8) (l : List UInt8) (h : m < 144115188075855872) (hf : ¬ (f = true ∧ c.toNat = 128)) (hc : ¬ c.toNat < 128) : decL f m (c :: l) = decL false (m * 128 + c.toNat % 128) l := by
  conv => lhs; unfold decL
  rw [if_neg (fun h' => by rcases h' with h' | h'; exact hf h'; omega), if_neg hc]

set_option maxHeartbeats 2000000 in
set_option maxRecDepth 100000 in
theorem refRUint_off (b : Nat) (s : ByteArray) (k e : Int) (w : World) (h : Rd w b s k e) (e0 : ¬ e = 0) :
    Calls Try.prog 21 #[.pointer (some ⟨b, 0, none⟩)] w fun r w' => r = .returned (.int .u64 0) ∧ Below w.heap.size w w' := by
  have HB := fun (W : World) (h' : Rd W b s k e) => hide (refByte_off b s k e W h' e0)
  have eb : (e == 0) = false := beq_eq_false_iff_ne.2 e0
  have eb2 : (e != 0) = true := by rw [bne_iff_ne]; exact e0
  have H := hide h
  clear h e0
  go_enter Try.func21, Try.ntmps21
  go_wp2
  go_loopw [3, 4, 5] (fun _ _ _ wr => wr = w) (fun _ _ _ _ => 0)
  case atStart => rfl
  case round =>
    subst hrel
    go_wp2_with fail
    refine (unhide (HB _ H.out)).mono ?_
    rintro r w1 ⟨rfl, hb1⟩
    obtain ⟨c0, c1, c2, f1, f2⟩ := (H.out.on hb1).cells
    have HB1 := hide hb1
    clear hb1
    go_wp2
    go_ret
    exact ⟨rfl, HB1.out⟩

set_option maxHeartbeats 4000000 in
set_option maxRecDepth 100000 in
theorem refRUint_ok (b : Nat) (s : ByteArray) (k : Nat) (w : World) (h : Rd w b s k 0) (hk : k ≤ s.size) (hz : s.size ≤ 1048576) :
    Calls Try.prog 21 #[.pointer (some ⟨b, 0, none⟩)] w fun r w' => UintPost (decL true 0 (s.data.toList.drop k)) b s w r w' := by
  have HE := fun (W : World) (h' : Rd W b s s.size 0) => hide (refByte_end b s W h' hz)
  have HN := fun (j : Nat) (hj : j < s.size) (W : World) (h' : Rd W b s j 0) => hide (refByte_next b s j W h' hj hz)
  have HS := fun (j : Int) (W : World) (h' : Rd W b s j 0) => hide (refStop_ok b s j 2 W h')
  have H := hide h
  clear h
  generalize hG : decL true 0 (s.data.toList.drop k) = G
  have HG := hide hG
  clear hG
  go_enter Try.func21, Try.ntmps21
  go_wp2
  go_loopw [3, 4, 5] (fun nv i _ wr => ∃ (j : Nat) (M : Int), i = .int .i64 j ∧ nv = .int .u64 M ∧ k + j ≤ s.size ∧ 0 ≤ M ∧ M < 18446744073709551616 ∧ Hid (Rd wr b s ((k + j : Nat) : Int) 0) ∧ Hid (decL (decide (j = 0)) M.toNat (s.data.toList.drop (k + j)) = G) ∧ Hid (w.grownBy wr (some b))) (fun _ i _ _ => s.size - (intOf i).toNat)
  case atStart => exact ⟨0, 0, rfl, rfl, by omega, by omega, by omega, H, HG, grown_refl _ _⟩
  case round =>
    obtain ⟨j, M, rfl, rfl, hj, hM0, hm, HR, HD, HW⟩ := hrel
    clear H HG
    by_cases hlt : k + j < s.size
    · have D0 := HD.out
      rw [drop_at s (k + j) hlt] at D0
      have HNj := fun W h' => HN (k + j) hlt W h'
      have hc := s[k + j].toNat_lt
      have hdl : (s.data.toList.drop (k + j + 1)).length = s.size - (k + j + 1) := by rw [List.length_drop, ← Lib.size_eq]
      have HDL := hide hdl
      generalize hL : s.data.toList.drop (k + j + 1) = L at *
      have HL := hide hL
      clear hL
      generalize s[k + j] = c at *
      clear HN HE HD hdl
      by_cases bad : (decide (j = 0) = true ∧ c.toNat = 128) ∨ 144115188075855872 ≤ M.toNat
      · have E := hide ((dec_form _ M.toNat c L bad).symm.trans D0)
        by_cases m57 : (144115188075855872 : Int) ≤ M
        · by_cases both : j = 0 ∧ c.toNat = 128
          · have jb : ((j : Int) == 0) = true := by rw [both.1]; rfl
            have cb : ((c.toNat : Int) == 128) = true := by rw [both.2]; rfl
            clear bad both D0
            go_wp2_with fail
            refine (unhide (HNj _ HR.out)).mono ?_
            rintro r w1 ⟨rfl, hR1, hg1⟩
            obtain ⟨c0, c1, c2, f1, f2⟩ := hR1.cells
            have HR1 := hide hR1
            have HW1 := hide (grown_trans HW.out hg1)
            clear hR1 hg1
            go_wp2_with fail
            refine (unhide (HS _ _ HR1.out)).mono ?_
            rintro r w2 ⟨rfl, hR2, hg2⟩
            have HR2 := hide hR2
            have HW2 := hide (grown_trans HW1.out hg2)
            clear hR2 hg2
            go_wp2
            go_ret
            refine ⟨Or.inr ⟨?_, rfl, k + j + 1, by omega, ?_⟩, HW2.out⟩
            · rw [← E.out]; simp
            · rw [← E.out]; exact HR2.out
          · by_cases j0 : j = 0
            · have jb : ((j : Int) == 0) = true := by rw [j0]; rfl
              have cb : ((c.toNat : Int) == 128) = false := beq_eq_false_iff_ne.2 (fun e => both ⟨j0, by omega⟩)
              clear bad both D0 j0
              go_wp2_with fail
              refine (unhide (HNj _ HR.out)).mono ?_
              rintro r w1 ⟨rfl, hR1, hg1⟩
              obtain ⟨c0, c1, c2, f1, f2⟩ := hR1.cells
              have HR1 := hide hR1
              have HW1 := hide (grown_trans HW.out hg1)
              clear hR1 hg1
              go_wp2_with fail
              refine (unhide (HS _ _ HR1.out)).mono ?_
              rintro r w2 ⟨rfl, hR2, hg2⟩
              have HR2 := hide hR2
              have HW2 := hide (grown_trans HW1.out hg2)
              clear hR2 hg2
              go_wp2
              go_ret
              refine ⟨Or.inr ⟨?_, rfl, k + j + 1, by omega, ?_⟩, HW2.out⟩
              · rw [← E.out]; simp
              · rw [← E.out]; exact HR2.out
            · have jb : ((j : Int) == 0) = false := beq_eq_false_iff_ne.2 (by omega)
              clear bad both D0 j0
              go_wp2_with fail
              refine (unhide (HNj _ HR.out)).mono ?_
              rintro r w1 ⟨rfl, hR1, hg1⟩
              obtain ⟨c0, c1, c2, f1, f2⟩ := hR1.cells
              have HR1 := hide hR1
              have HW1 := hide (grown_trans HW.out hg1)
              clear hR1 hg1
              go_wp2_with fail
              refine (unhide (HS _ _ HR1.out)).mono ?_
              rintro r w2 ⟨rfl, hR2, hg2⟩
              have HR2 := hide hR2
              have HW2 := hide (grown_trans HW1.out hg2)
              clear hR2 hg2
              go_wp2
              go_ret
              refine ⟨Or.inr ⟨?_, rfl, k + j + 1, by omega, ?_⟩, HW2.out⟩
              · rw [← E.out]; simp
              · rw [← E.out]; exact HR2.out
        · have both : j = 0 ∧ c.toNat = 128 := by
            rcases bad with bad | bad
            · exact ⟨of_decide_eq_true bad.1, bad.2⟩
            · exact absurd (by omega) m57
          have jb : ((j : Int) == 0) = true := by rw [both.1]; rfl
          have cb : ((c.toNat : Int) == 128) = true := by rw [both.2]; rfl
          clear bad both D0
          go_wp2_with fail
          refine (unhide (HNj _ HR.out)).mono ?_
          rintro r w1 ⟨rfl, hR1, hg1⟩
          obtain ⟨c0, c1, c2, f1, f2⟩ := hR1.cells
          have HR1 := hide hR1
          have HW1 := hide (grown_trans HW.out hg1)
          clear hR1 hg1
          go_wp2_with fail
          refine (unhide (HS _ _ HR1.out)).mono ?_
          rintro r w2 ⟨rfl, hR2, hg2⟩
          have HR2 := hide hR2
          have HW2 := hide (grown_trans HW1.out hg2)
          clear hR2 hg2
          go_wp2
          go_ret
          refine ⟨Or.inr ⟨?_, rfl, k + j + 1, by omega, ?_⟩, HW2.out⟩
          · rw [← E.out]; simp
          · rw [← E.out]; exact HR2.out
      · have m57' : M < 144115188075855872 := by
          rcases Int.lt_or_le M 144115188075855872 with h' | h'
          · exact h'
          · exact absurd (Or.inr (by omega)) bad
        have m57 : M.toNat < 144115188075855872 := by omega
        have hnf : ¬ (decide (j = 0) = true ∧ c.toNat = 128) := fun h => bad (Or.inl h)
        by_cases c128 : c.toNat < 128
        · have E := hide ((dec_last (decide (j = 0)) M.toNat c L m57 c128).symm.trans D0)
          have cb : ((c.toNat : Int) == 128) = false := beq_eq_false_iff_ne.2 (by omega)
          have c128' : (c.toNat : Int) < 128 := by omega
          have hw1 : IntKind.u64.wrap (M * 128) = M * 128 := by rw [IntKind.wrap_u64]; omega
          have hr : (c.toNat : Int) % 128 = (c.toNat : Int) := by omega
          have hw2 : IntKind.u64.wrap (M * 128 + (c.toNat : Int)) = M * 128 + (c.toNat : Int) := by rw [IntKind.wrap_u64]; omega
          have M57 := hide m57
          have HM := hide hm
          have HC8 := hide c128
          clear m57 hm c128
          have hv : Hid (((M.toNat * 128 + c.toNat % 128 : Nat) : Int) = M * 128 + (c.toNat : Int)) := hide (by have := HC8.out; omega)
          clear bad hnf D0
          by_cases j0 : j = 0
          · have jb : ((j : Int) == 0) = true := by rw [j0]; rfl
            clear j0
            go_wp2_with fail
            refine (unhide (HNj _ HR.out)).mono ?_
            rintro r w1 ⟨rfl, hR1, hg1⟩
            obtain ⟨c0, c1, c2, f1, f2⟩ := hR1.cells
            have HR1 := hide hR1
            have HW1 := hide (grown_trans HW.out hg1)
            clear hR1 hg1
            go_wp2
            go_ret
            refine ⟨Or.inl ⟨?_, ?_, ?_, ?_⟩, HW1.out⟩
            · rw [← E.out]
            · rw [← E.out]; exact ret_int hv.out.symm
            · rw [← E.out]; show M.toNat * 128 + c.toNat % 128 < _; have := M57.out; omega
            · rw [← E.out]
              have e2 : s.size - L.length = k + j + 1 := by have := HDL.out; omega
              show Rd _ b s ((s.size - L.length : Nat) : Int) 0
              rw [e2]; exact HR1.out
          · have jb : ((j : Int) == 0) = false := beq_eq_false_iff_ne.2 (by omega)
            clear j0
            go_wp2_with fail
            refine (unhide (HNj _ HR.out)).mono ?_
            rintro r w1 ⟨rfl, hR1, hg1⟩
            obtain ⟨c0, c1, c2, f1, f2⟩ := hR1.cells
            have HR1 := hide hR1
            have HW1 := hide (grown_trans HW.out hg1)
            clear hR1 hg1
            go_wp2
            go_ret
            refine ⟨Or.inl ⟨?_, ?_, ?_, ?_⟩, HW1.out⟩
            · rw [← E.out]
            · rw [← E.out]; exact ret_int hv.out.symm
            · rw [← E.out]; show M.toNat * 128 + c.toNat % 128 < _; have := M57.out; omega
            · rw [← E.out]
              have e2 : s.size - L.length = k + j + 1 := by have := HDL.out; omega
              show Rd _ b s ((s.size - L.length : Nat) : Int) 0
              rw [e2]; exact HR1.out
        · have E := hide ((dec_go (decide (j = 0)) M.toNat c L m57 hnf c128).symm.trans D0)
          have c128' : ¬ (c.toNat : Int) < 128 := by omega
          have hc2 : (c.toNat : Int) < 256 := by omega
          have hw1 : IntKind.u64.wrap (M * 128) = M * 128 := by rw [IntKind.wrap_u64]; omega
          have hr : (c.toNat : Int) % 128 = (c.toNat : Int) - 128 := by omega
          have hw2 : IntKind.u64.wrap (M * 128 + ((c.toNat : Int) - 128)) = M * 128 + ((c.toNat : Int) - 128) := by rw [IntKind.wrap_u64]; omega
          have M57 := hide m57
          have HM := hide hm
          have HC8 := hide c128
          clear m57 hm c128
          by_cases j0 : j = 0
          · have jb : ((j : Int) == 0) = true := by rw [j0]; rfl
            have cb : ((c.toNat : Int) == 128) = false := beq_eq_false_iff_ne.2 (fun e => hnf ⟨by rw [j0]; rfl, by omega⟩)
            clear bad hnf D0 j0
            go_wp2_with fail
            refine (unhide (HNj _ HR.out)).mono ?_
            rintro r w1 ⟨rfl, hR1, hg1⟩
            obtain ⟨c0, c1, c2, f1, f2⟩ := hR1.cells
            have HR1 := hide hR1
            have HW1 := hide (grown_trans HW.out hg1)
            clear hR1 hg1
            go_wp2
            refine ⟨⟨j + 1, M * 128 + ((c.toNat : Int) - 128), by go_num, ?_, by omega, by have := HC8.out; omega, by omega, HR1, hide ?_, HW1⟩, by simp [intOf]; omega⟩
            · rfl
            · have e3 : (M * 128 + ((c.toNat : Int) - 128)).toNat = M.toNat * 128 + c.toNat % 128 := by have := HC8.out; omega
              have e4 : decide (j + 1 = 0) = false := by simp
              have e5 : k + (j + 1) = k + j + 1 := by omega
              rw [e3, e4, e5, HL.out]; exact E.out
          · have jb : ((j : Int) == 0) = false := beq_eq_false_iff_ne.2 (by omega)
            clear bad hnf D0 j0
            go_wp2_with fail
            refine (unhide (HNj _ HR.out)).mono ?_
            rintro r w1 ⟨rfl, hR1, hg1⟩
            obtain ⟨c0, c1, c2, f1, f2⟩ := hR1.cells
            have HR1 := hide hR1
            have HW1 := hide (grown_trans HW.out hg1)
            clear hR1 hg1
            go_wp2
            refine ⟨⟨j + 1, M * 128 + ((c.toNat : Int) - 128), by go_num, ?_, by omega, by have := HC8.out; omega, by omega, HR1, hide ?_, HW1⟩, by simp [intOf]; omega⟩
            · rfl
            · have e3 : (M * 128 + ((c.toNat : Int) - 128)).toNat = M.toNat * 128 + c.toNat % 128 := by have := HC8.out; omega
              have e4 : decide (j + 1 = 0) = false := by simp
              have e5 : k + (j + 1) = k + j + 1 := by omega
              rw [e3, e4, e5, HL.out]; exact E.out
    · have e1 : k + j = s.size := by omega
      have E := HD.out
      rw [drop_end s (k + j) e1, dec_nil] at E
      have HE2 := hide E
      have HR2 : Hid (Rd wr b s s.size 0) := hide (by have := HR.out; rw [e1] at this; exact this)
      clear HN HD E HR e1
      go_wp2_with fail
      refine (unhide (HE _ HR2.out)).mono ?_
      rintro r w1 ⟨rfl, hR1, hg1⟩
      obtain ⟨c0, c1, c2, f1, f2⟩ := hR1.cells
      have HR1 := hide hR1
      have HW1 := hide (grown_trans HW.out hg1)
      clear hR1 hg1
      go_wp2
      go_ret
      refine ⟨Or.inr ⟨?_, rfl, s.size, Nat.le_refl _, ?_⟩, HW1.out⟩
      · rw [← HE2.out]; simp
      · rw [← HE2.out]; exact HR1.out

/-- The number with a sign. -/
theorem unzz_odd (n : Nat) (h : n % 2 = 1) : unzz n = -1 - ((n / 2 : Nat) : Int) := by unfold unzz; rw [if_pos h]
theorem unzz_even (n : Nat) (h : ¬ n % 2 = 1) : unzz n = ((n / 2 : Nat) : Int) := by unfold unzz; rw [if_neg h]
/-- How the reading of a number with a sign ends. -/
def IntPost (g : Got) (b : Nat) (s : ByteArray) (w : World) (r : Ending) (w' : World) : Prop :=
  ((g.err = 0 ∧ r = .returned (.int .i64 (unzz g.n)) ∧ g.n < 18446744073709551616 ∧ Rd w' b s ((s.size - g.rest.length : Nat) : Int) 0) ∨
   (g.err ≠ 0 ∧ r = .returned (.int .i64 0) ∧ ∃ k : Nat, k ≤ s.size ∧ Rd w' b s (k : Int) (g.err : Int))) ∧ w.grownBy w' (some b)

set_option maxHeartbeats 1000000 in
set_option maxRecDepth 100000 in
theorem refRInt_off (b : Nat) (s : ByteArray) (k e : Int) (w : World) (h : Rd w b s k e) (e0 : ¬ e = 0) :
    Calls Try.prog 23 #[.pointer (some ⟨b, 0, none⟩)] w fun r w' => r = .returned (.int .i64 0) ∧ Below w.heap.size w w' := by
  have HU := hide (refRUint_off b s k e w h e0)
  clear h e0
  go_enter Try.func23, Try.ntmps23
  go_wp2_with fail
  refine (unhide HU).mono ?_
  rintro r w1 ⟨rfl, hb1⟩
  have HB1 := hide hb1
  clear hb1
  go_wp2
  go_ret
  exact ⟨rfl, HB1.out⟩

set_option maxHeartbeats 1000000 in
set_option maxRecDepth 100000 in
theorem refRInt_ok (b : Nat) (s : ByteArray) (k : Nat) (w : World) (h : Rd w b s k 0) (hk : k ≤ s.size) (hz : s.size ≤ 1048576) :
    Calls Try.prog 23 #[.pointer (some ⟨b, 0, none⟩)] w fun r w' => IntPost (decL true 0 (s.data.toList.drop k)) b s w r w' := by
  have HU := hide (refRUint_ok b s k w h hk hz)
  generalize decL true 0 (s.data.toList.drop k) = G at *
  clear h
  go_enter Try.func23, Try.ntmps23
  go_wp2_with fail
  refine (unhide HU).mono ?_
  rintro r w1 ⟨⟨g0, rfl, gb, gR⟩ | ⟨g0, rfl, gR⟩, gw⟩
  · have H := hide (And.intro g0 (And.intro gb (And.intro gR gw)))
    obtain ⟨M, hM⟩ : ∃ M : Int, M = (G.n : Int) := ⟨_, rfl⟩
    have m0 : 0 ≤ M := by omega
    have m1 : M < 18446744073709551616 := by omega
    rw [← hM]
    have HM := hide hM
    clear hM g0 gb gR gw
    by_cases odd : G.n % 2 = 1
    · have o1 : (M % 2 == 1) = true := beq_iff_eq.2 (by have := HM.out; omega)
      have E := hide (unzz_odd G.n odd)
      clear odd
      have hw1 : IntKind.i64.wrap (M / 2) = M / 2 := by rw [IntKind.wrap_i64]; omega
      have hw2 : IntKind.i64.wrap (-1 - M / 2) = -1 - M / 2 := by rw [IntKind.wrap_i64]; omega
      go_wp2
      go_ret
      obtain ⟨g0, gb, gR, gw⟩ := H.out
      exact ⟨Or.inl ⟨g0, ret_int (by rw [E.out, HM.out]; omega), gb, gR⟩, gw⟩
    · have o1 : (M % 2 == 1) = false := beq_eq_false_iff_ne.2 (by have := HM.out; omega)
      have E := hide (unzz_even G.n odd)
      clear odd
      have hw1 : IntKind.i64.wrap (M / 2) = M / 2 := by rw [IntKind.wrap_i64]; omega
      go_wp2
      go_ret
      obtain ⟨g0, gb, gR, gw⟩ := H.out
      exact ⟨Or.inl ⟨g0, ret_int (by rw [E.out, HM.out]; omega), gb, gR⟩, gw⟩
  · have H := hide (And.intro g0 (And.intro gR gw))
    clear g0 gR gw
    go_wp2
    go_ret
    obtain ⟨g0, gR, gw⟩ := H.out
    exact ⟨Or.inr ⟨g0, rfl, gR⟩, gw⟩
end Go.Proofs.Ytbiahajpmnfhbaa
