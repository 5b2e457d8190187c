/-
  The walk of what each law of the second layer asks first: 'awake'.
-/
import Derived.Test.YtbiahajpmnfhbaaKE
import Derived.Test.YtbiahajpmnfhbaaKI
set_option linter.unusedSimpArgs false
set_option linter.unusedVariables false
namespace Go.Proofs.Ytbiahajpmnfhbaa
open Go.RowKit

theorem Pd.keep {w w' : World} {b c : Nat} {s : ByteArray} {e : Int} (h : Pd w b s e) (hg : w.grownBy w' (some c)) (hne : b ≠ c) : Pd w' b s e := (hg.block b (lt_heap h) (by simp [hne])).trans h
theorem below_row {w w1 w2 : World} {b : Nat} (hb : Below w.heap.size w w1) (hg : w1.grownBy w2 (some b)) (hB : w.heap.size ≤ b) : Below w.heap.size w w2 :=
  ⟨hg.os.trans hb.os, hg.tape.trans hb.tape, hg.output.trans hb.output, Nat.le_trans hb.size hg.size, fun k hk => (hg.block k (Nat.lt_of_lt_of_le hk hb.size) (by simp; omega)).trans (hb.block k hk)⟩
theorem below_on {w w1 w2 : World} {B : Nat} (hb : Below B w w1) (h2 : Below w1.heap.size w1 w2) (hB : B ≤ w1.heap.size) : Below B w w2 := hb.trans (h2.mono hB)

theorem enc_300 : enc 300 = [130, 44] := by decide
theorem enc_1 : enc (zz (-1)) = [1] := by decide
theorem enc_2 : enc (zz 1) = [2] := by decide
theorem dec_80 : decL true 0 [128, 1] = ⟨2, 0, []⟩ := by rfl
theorem dec_82 : decL true 0 [130] = ⟨3, 0, []⟩ := by rfl
theorem dec_300 : decL true 0 [130, 44] = ⟨0, 300, []⟩ := by rfl

theorem w_uint300 (w : World) : Calls Try.prog 10 #[.int .u64 300] w fun e w' => e = .returned (.string ⟨#[130, 44]⟩) ∧ Below w.heap.size w w' := by
  have := uint_any 300 w (by omega)
  rw [enc_300] at this; exact this
theorem w_int1 (w : World) : Calls Try.prog 12 #[.int .i64 (-1)] w fun e w' => e = .returned (.string ⟨#[1]⟩) ∧ Below w.heap.size w w' := by
  have := int_any (-1) w (by omega) (by omega)
  rw [enc_1] at this; exact this
theorem w_int2 (w : World) : Calls Try.prog 12 #[.int .i64 1] w fun e w' => e = .returned (.string ⟨#[2]⟩) ∧ Below w.heap.size w w' := by
  have := int_any 1 w (by omega) (by omega)
  rw [enc_2] at this; exact this
theorem w_strab (w : World) : Calls Try.prog 14 #[.string ⟨#[97, 98]⟩] w fun e w' => e = .returned (.string ⟨#[2, 97, 98]⟩) ∧ Below w.heap.size w w' := by
  have := str_any ⟨#[97, 98]⟩ w (by decide)
  rw [show (⟨(enc (⟨#[97, 98]⟩ : ByteArray).size).toArray⟩ : ByteArray) ++ ⟨#[97, 98]⟩ = ⟨#[2, 97, 98]⟩ from mk_append [2] [97, 98]] at this
  exact this

set_option maxHeartbeats 2000000 in
set_option maxRecDepth 100000 in
theorem awake_any (w : World) :
    Calls Try.prog 9 #[] w fun r w' => r = .returned (.bool true) ∧ Below w.heap.size w w' := by
  have H1 := hide (read_any ⟨#[128, 1]⟩ w)
  go_enter Try.func9, Try.ntmps9
  go_wp2_with fail
  refine (unhide H1).mono ?_
  rintro r w1 ⟨rfl, hP1, hB1⟩
  have hlt1 := lt_heap hP1
  have H2 := hide (read_any ⟨#[130]⟩ w1)
  have HP1 := hide hP1
  have HB1 := hide hB1
  clear hP1 hB1 H1
  go_wp2_with fail
  refine (unhide H2).mono ?_
  rintro r w2 ⟨rfl, hP2, hB2⟩
  have P1 := HP1.out.on hB2
  have B2 := below_on HB1.out hB2 (Nat.le_of_lt hlt1)
  have U1 := uintR_ok w.heap.size [128, 1] w2 P1 (by simp)
  rw [dec_80] at U1
  have HU1 := hide U1
  have HP2 := hide hP2
  have HB2 := hide B2
  clear hP2 hB2 H2 HP1 P1 B2 U1 HB1
  go_wp2_with fail
  refine (unhide HU1).mono ?_
  rintro r w3 ⟨rfl, _, hP1, hG⟩
  have P2 := HP2.out.keep hG (by omega)
  have B3 := below_row HB2.out hG (Nat.le_refl _)
  have U2 := uintR_ok w1.heap.size [130] w3 P2 (by simp)
  rw [dec_82] at U2
  have HU2 := hide U2
  have HP1 := hide hP1
  have HB3 := hide B3
  clear hP1 hG HU1 HP2 P2 B3 U2 HB2
  go_wp2_with fail
  refine (unhide HU2).mono ?_
  rintro r w4 ⟨rfl, _, hP2, hG⟩
  have P1 := HP1.out.keep hG (by omega)
  have B4 := below_row HB3.out hG (by omega)
  have HP1' := hide P1
  have HP2 := hide hP2
  have HB4 := hide B4
  clear hP2 hG HU2 P1 B4 HB3 HP1
  go_wp2_with fail
  refine (w_uint300 _).mono ?_
  rintro r w5 ⟨rfl, hB⟩
  have P1 := HP1'.out.on hB
  have P2 := HP2.out.on hB
  have B5 := below_on HB4.out hB HB4.out.size
  clear HP1' HP2 HB4 hB
  have HP1' := hide P1
  have HP2 := hide P2
  have HB4 := hide B5
  clear P1 P2 B5
  go_wp2_with fail
  refine (w_int1 _).mono ?_
  rintro r w6 ⟨rfl, hB⟩
  have P1 := HP1'.out.on hB
  have P2 := HP2.out.on hB
  have B5 := below_on HB4.out hB HB4.out.size
  clear HP1' HP2 HB4 hB
  have HP1' := hide P1
  have HP2 := hide P2
  have HB4 := hide B5
  clear P1 P2 B5
  go_wp2_with fail
  refine (w_int2 _).mono ?_
  rintro r w7 ⟨rfl, hB⟩
  have P1 := HP1'.out.on hB
  have P2 := HP2.out.on hB
  have B5 := below_on HB4.out hB HB4.out.size
  clear HP1' HP2 HB4 hB
  have HP1' := hide P1
  have HP2 := hide P2
  have HB4 := hide B5
  clear P1 P2 B5
  go_wp2_with fail
  refine (w_strab _).mono ?_
  rintro r w8 ⟨rfl, hB⟩
  have P1 := HP1'.out.on hB
  have P2 := HP2.out.on hB
  have B5 := below_on HB4.out hB HB4.out.size
  clear HP1' HP2 HB4 hB
  have HP1' := hide P1
  have HP2 := hide P2
  have HB4 := hide B5
  clear P1 P2 B5
  have E1 := hide (err_any w.heap.size _ _ w8 HP1'.out)
  have E2 := hide (err_any w1.heap.size _ _ w8 HP2.out)
  clear HP1' HP2
  go_wp2_with fail
  refine (unhide E1).mono ?_
  rintro r w9 ⟨rfl, rfl⟩
  go_wp2_with fail
  refine (unhide E2).mono ?_
  rintro r w9 ⟨rfl, rfl⟩
  go_wp2_with fail
  refine (read_any _ _).mono ?_
  rintro r w9 ⟨rfl, hP3, hB3⟩
  have U3 := uintR_ok _ [130, 44] w9 hP3 (by simp)
  rw [dec_300] at U3
  have HU3 := hide U3
  have B9 := hide (below_on HB4.out hB3 HB4.out.size)
  have S9 := HB4.out.size
  clear HB4 U3 hB3 hP3
  go_wp2_with fail
  refine (unhide HU3).mono ?_
  rintro r w10 ⟨rfl, _, hP4, hG⟩
  have B10 := hide (below_row B9.out hG (by omega))
  clear B9 hP4 hG HU3
  go_wp2
  go_ret
  exact ⟨rfl, B10.out⟩
end Go.Proofs.Ytbiahajpmnfhbaa
