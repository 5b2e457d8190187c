/-
  The walk of the law CodecBack.
-/
import Derived.Test.YtbiahajpmnfhbaaJO
set_option linter.unusedSimpArgs false
set_option linter.unusedVariables false
namespace Go.Proofs.Ytbiahajpmnfhbaa
open Go.RowKit

theorem strL_enc (s r : List UInt8) (h : s.length < 18446744073709551616) : strL (s.length : Int) (enc s.length ++ (s ++ r)) = ⟨0, s, r⟩ := by
  unfold strL
  rw [dec_enc _ _ h]
  simp only
  rw [if_neg (by omega), if_neg (by omega), if_neg (by simp)]
  simp
theorem back_list (a d : List UInt8) (s t : ByteArray) (c : List UInt8) :
    (((⟨a.toArray⟩ : ByteArray) ++ (⟨d.toArray⟩ ++ s)) ++ ⟨c.toArray⟩) ++ t = ⟨(a ++ (d ++ (s.data.toList ++ (c ++ t.data.toList)))).toArray⟩ := by
  apply ByteArray.ext
  simp [ByteArray.data_append]

set_option maxHeartbeats 2000000 in
set_option maxRecDepth 100000 in
theorem back_walk (n i : Int) (s t : ByteArray) (w : World) (n0 : 0 ≤ n) (n1 : n < 18446744073709551616) (i0 : -9223372036854775808 ≤ i) (i1 : i ≤ 9223372036854775807) (hs : s.size ≤ maxLen) (ht : t.size ≤ maxLen) :
    Calls Try.prog 5 #[.int .u64 n, .int .i64 i, .string s, .string t] w fun e w' => e = .returned (.bool true) ∧ Below w.heap.size w w' := by
  have hs' : s.size ≤ 9223372036854775807 := by unfold maxLen at hs; omega
  have ht' : t.size ≤ 9223372036854775807 := by unfold maxLen at ht; omega
  clear hs ht
  by_cases big : s.size ≤ 2000 ∧ t.size ≤ 2000
  · have hb1 : ¬ (2000 : Int) < (s.size : Int) := by omega
    have hb2 : ¬ (2000 : Int) < (t.size : Int) := by omega
    have z1 := enc_len_le (zz i) (zz_bd i i0 i1)
    have z2 := enc_len_le s.size (by omega)
    have z3 := enc_len_le n.toNat (by omega)
    have q1 : (⟨(enc (zz i)).toArray⟩ : ByteArray).size ≤ 10 := by rw [mk_size]; omega
    have q2 : ((⟨(enc s.size).toArray⟩ : ByteArray) ++ s).size ≤ 2010 := by rw [ByteArray.size_append, mk_size]; omega
    have q3 : (⟨(enc n.toNat).toArray⟩ : ByteArray).size ≤ 10 := by rw [mk_size]; omega
    have h1 := fun W => hide (int_any i W i0 i1)
    have h2 := fun W => hide (str_any s W (by omega))
    have h3 := fun W => hide (uint_int n W n0 n1)
    have HX := hide (back_list (enc (zz i)) (enc s.size) s t (enc n.toNat))
    have hsl : s.data.toList.length = s.size := (Lib.size_eq s).symm
    have htl : t.data.toList.length = t.size := (Lib.size_eq t).symm
    have d1 := dec_enc (zz i) (enc s.size ++ (s.data.toList ++ (enc n.toNat ++ t.data.toList))) (zz_bd i i0 i1)
    have d2 := strL_enc s.data.toList (enc n.toNat ++ t.data.toList) (by omega)
    have d3 := dec_enc n.toNat t.data.toList (by omega)
    rw [hsl] at d2
    have l1 : (enc (zz i) ++ (enc s.size ++ (s.data.toList ++ (enc n.toNat ++ t.data.toList)))).length ≤ 1048576 := by simp only [List.length_append]; omega
    have l2 : (enc s.size ++ (s.data.toList ++ (enc n.toNat ++ t.data.toList))).length ≤ 1048576 := by simp only [List.length_append]; omega
    have l3 : (enc n.toNat ++ t.data.toList).length ≤ 1048576 := by simp only [List.length_append]; omega
    have r1 := fun b W h => intR_ok b _ W h l1
    have r2 := fun b W h => strR_ok b _ (s.size : Int) W h l2 (by omega) (by omega)
    have r3 := fun b W h => uintR_ok b _ W h l3
    rw [d1] at r1
    rw [d2] at r2
    rw [d3] at r3
    rw [show unzz (Got.mk 0 (zz i) (enc s.size ++ (s.data.toList ++ (enc n.toNat ++ t.data.toList)))).n = i from unzz_zz i] at r1
    have hn : ((n.toNat : Nat) : Int) = n := Int.toNat_of_nonneg n0
    have R1 := fun b W h => hide (r1 b W h)
    have R2 := fun b W h => hide (r2 b W h)
    have R3 := fun b W h => hide (r3 b W h)
    clear z1 z2 z3 d1 d2 d3 l1 l2 l3 r1 r2 r3 hsl htl
    generalize hA : (⟨(enc (zz i)).toArray⟩ : ByteArray) = A at *
    generalize hB : (⟨(enc s.size).toArray⟩ : ByteArray) ++ s = B at *
    generalize hC : (⟨(enc n.toNat).toArray⟩ : ByteArray) = C at *
    clear hA hB hC
    go_enter Try.func5, Try.ntmps5
    go_wp2_with fail
    refine (awake_any _).mono ?_
    rintro r w1 ⟨rfl, b1⟩
    go_wp2_with fail
    refine (unhide (h1 _)).mono ?_
    rintro r w2 ⟨rfl, b2⟩
    have c2 := b1.trans (b2.mono b1.size)
    clear b1 b2
    go_wp2_with fail
    refine (unhide (h2 _)).mono ?_
    rintro r w3 ⟨rfl, b3⟩
    have c3 := c2.trans (b3.mono c2.size)
    clear c2 b3
    go_wp2_with fail
    refine (unhide (h3 _)).mono ?_
    rintro r w4 ⟨rfl, b4⟩
    have c4 := hide (c3.trans (b4.mono c3.size))
    clear c3 b4
    go_wp2_with fail
    refine (read_any _ _).mono ?_
    rintro r w5 ⟨rfl, p5, b5⟩
    rw [HX.out] at p5
    have sz := c4.out.size
    have c5 := hide (c4.out.trans (b5.mono sz))
    have u1 := R1 _ _ p5
    clear b5 c4 p5 HX R1
    go_wp2_with fail
    refine (unhide u1).mono ?_
    rintro r w6 ⟨rfl, p6, g6⟩
    have c6 := hide (below_row c5.out g6 sz)
    have u2 := R2 _ _ p6
    clear c5 p6 g6 u1 R2
    go_wp2_with fail
    refine (unhide u2).mono ?_
    rintro r w7 ⟨rfl, p7, g7⟩
    dsimp only at p7 ⊢
    rw [← mk_list s]
    have c7 := hide (below_row c6.out g7 sz)
    have u3 := R3 _ _ p7
    clear c6 p7 g7 u2 R3
    go_wp2_with fail
    refine (unhide u3).mono ?_
    rintro r w8 ⟨rfl, _, p8, g8⟩
    dsimp only at p8 ⊢
    rw [← mk_list t] at p8
    rw [hn]
    have c8 := hide (below_row c7.out g8 sz)
    have v1 := hide (left_any _ _ _ _ p8 (by omega))
    have v2 := hide (err_any _ _ _ _ p8)
    clear c7 p8 g8 u3 hn
    go_wp2_with fail
    refine (unhide v1).mono ?_
    rintro r w9 ⟨rfl, rfl⟩
    go_wp2_with fail
    refine (unhide v2).mono ?_
    rintro r w9 ⟨rfl, rfl⟩
    go_wp2
    go_ret
    exact ⟨rfl, c8.out⟩
  · have hb1 : (2000 : Int) < (s.size : Int) ∨ (¬ (2000 : Int) < (s.size : Int) ∧ (2000 : Int) < (t.size : Int)) := by omega
    clear big
    rcases hb1 with hb1 | ⟨hb1, hb2⟩
    all_goals
      go_enter Try.func5, Try.ntmps5
      go_wp2_with fail
      refine (awake_any _).mono ?_
      rintro r w1 ⟨rfl, b1⟩
      go_wp2_with fail
      refine (awake_any _).mono ?_
      rintro r w2 ⟨rfl, b2⟩
      have c2 := hide (b1.trans (b2.mono b1.size))
      clear b1 b2
      go_wp2
      go_ret
      exact ⟨rfl, c2.out⟩
end Go.Proofs.Ytbiahajpmnfhbaa
