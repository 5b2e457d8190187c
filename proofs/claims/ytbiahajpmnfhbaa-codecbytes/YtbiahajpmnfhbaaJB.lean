/-
  The walk of the law CodecBytes.
-/
import Derived.Test.YtbiahajpmnfhbaaKW
set_option linter.unusedSimpArgs false
set_option linter.unusedVariables false
namespace Go.Proofs.Ytbiahajpmnfhbaa
open Go.RowKit

theorem uint_int (x : Int) (w : World) (h0 : 0 ≤ x) (h1 : x < 18446744073709551616) :
    Calls Try.prog 10 #[.int .u64 x] w fun e w' => e = .returned (.string ⟨(enc x.toNat).toArray⟩) ∧ Below w.heap.size w w' := by
  have h := uint_any x.toNat w (by omega)
  rw [Int.toNat_of_nonneg h0] at h
  exact h
theorem refUint_int (x : Int) (w : World) (h0 : 0 ≤ x) (h1 : x < 18446744073709551616) :
    Calls Try.prog 11 #[.int .u64 x] w fun e w' => e = .returned (.string ⟨(enc x.toNat).toArray⟩) ∧ Below w.heap.size w w' := by
  have h := refUint_any x.toNat w (by omega)
  rw [Int.toNat_of_nonneg h0] at h
  exact h

set_option maxHeartbeats 1000000 in
set_option maxRecDepth 100000 in
theorem bytes_walk (n i : Int) (s : ByteArray) (w : World) (n0 : 0 ≤ n) (n1 : n < 18446744073709551616) (i0 : -9223372036854775808 ≤ i) (i1 : i ≤ 9223372036854775807) (hs : s.size ≤ maxLen) :
    Calls Try.prog 3 #[.int .u64 n, .int .i64 i, .string s] w fun e w' => e = .returned (.bool true) ∧ Below w.heap.size w w' := by
  have hs' : s.size ≤ 9223372036854775807 := by unfold maxLen at hs; omega
  clear hs
  by_cases big : s.size ≤ 2000
  · have h1 := fun W => hide (uint_int n W n0 n1)
    have h2 := fun W => hide (refUint_int n W n0 n1)
    have h3 := fun W => hide (int_any i W i0 i1)
    have h4 := fun W => hide (refInt_any i W i0 i1)
    have h5 := fun W => hide (str_any s W (by omega))
    have h6 := fun W => hide (refStr_any s W (by omega))
    have hb' : ¬ (2000 : Int) < (s.size : Int) := by omega
    generalize (⟨(enc n.toNat).toArray⟩ : ByteArray) = A at *
    generalize (⟨(enc (zz i)).toArray⟩ : ByteArray) = B at *
    generalize (⟨(enc s.size).toArray⟩ : ByteArray) ++ s = D at *
    go_enter Try.func3, Try.ntmps3
    go_wp2_with fail
    refine (awake_any _).mono ?_
    rintro r w1 ⟨rfl, b1⟩
    go_wp2_with fail
    refine (unhide (h1 _)).mono ?_
    rintro r w2 ⟨rfl, b2⟩
    have c2 := b1.trans (b2.mono b1.size)
    clear b1 b2
    go_wp2_with fail
    refine (unhide (h2 _)).mono ?_
    rintro r w3 ⟨rfl, b3⟩
    have c3 := c2.trans (b3.mono c2.size)
    clear c2 b3
    go_wp2_with fail
    refine (unhide (h3 _)).mono ?_
    rintro r w4 ⟨rfl, b4⟩
    have c4 := c3.trans (b4.mono c3.size)
    clear c3 b4
    go_wp2_with fail
    refine (unhide (h4 _)).mono ?_
    rintro r w5 ⟨rfl, b5⟩
    have c5 := c4.trans (b5.mono c4.size)
    clear c4 b5
    go_wp2_with fail
    refine (unhide (h5 _)).mono ?_
    rintro r w6 ⟨rfl, b6⟩
    have c6 := c5.trans (b6.mono c5.size)
    clear c5 b6
    go_wp2_with fail
    refine (unhide (h6 _)).mono ?_
    rintro r w7 ⟨rfl, b7⟩
    have c7 := hide (c6.trans (b7.mono c6.size))
    clear c6 b7
    go_wp2
    go_ret
    exact ⟨rfl, c7.out⟩
  · have hb' : (2000 : Int) < (s.size : Int) := by omega
    go_enter Try.func3, Try.ntmps3
    go_wp2_with fail
    refine (awake_any _).mono ?_
    rintro r w1 ⟨rfl, b1⟩
    go_wp2_with fail
    refine (awake_any _).mono ?_
    rintro r w2 ⟨rfl, b2⟩
    have c2 := hide (b1.trans (b2.mono b1.size))
    clear b1 b2
    go_wp2
    go_ret
    exact ⟨rfl, c2.out⟩
end Go.Proofs.Ytbiahajpmnfhbaa
