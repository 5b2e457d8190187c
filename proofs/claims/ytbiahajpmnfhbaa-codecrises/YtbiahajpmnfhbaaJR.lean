/-
  The walk of the law CodecRises.
-/
import Derived.Test.YtbiahajpmnfhbaaJO
set_option linter.unusedSimpArgs false
set_option linter.unusedVariables false
namespace Go.Proofs.Ytbiahajpmnfhbaa
open Go.RowKit

theorem less_asymm : ∀ (a b : List UInt8), Op.bytesLess a b = true → Op.bytesLess b a = false ∧ a ≠ b
  | [], [], h => by simp [Op.bytesLess] at h
  | [], _ :: _, _ => by simp [Op.bytesLess]
  | _ :: _, [], h => by simp [Op.bytesLess] at h
  | x :: a, y :: b, h => by
    simp [Op.bytesLess] at h ⊢
    rcases h with h | ⟨rfl, h⟩
    · have h' := UInt8.lt_iff_toNat_lt.1 h
      refine ⟨⟨?_, fun e => ?_⟩, fun e => ?_⟩
      · exact UInt8.le_of_lt h
      · subst e; omega
      · subst e; omega
    · have := less_asymm a b h
      exact ⟨by simp [this.1], by simp [this.2]⟩

theorem ext_take (l : List UInt8) (k : Nat) : (⟨l.toArray⟩ : ByteArray).extract 0 k = ⟨(l.take k).toArray⟩ := by
  apply ByteArray.ext
  rw [ByteArray.data_extract]
  simp

theorem list_ne {X Z : ByteArray} (h : X ≠ Z) : (X.toList == Z.toList) = false := by
  rw [ByteArray.toList_eq, ByteArray.toList_eq]
  refine beq_eq_false_iff_ne.2 fun e => h ?_
  apply ByteArray.ext
  exact Array.toList_inj.1 e
theorem ext_all (X : ByteArray) : X.extract 0 X.size = X := by
  apply ByteArray.ext
  rw [ByteArray.data_extract]
  exact Array.extract_size
theorem sl_to (X : ByteArray) (k : Nat) (h : k ≤ X.size) (W : World) : (Instr.slice 9 (.string X) none (some (.int .i64 (k : Int))) none).run Try.prog W = .ok (.string (X.extract 0 k)) W := by
  rw [run_slice_string_to_if (h := Try.underlying9), if_pos (by omega)]; simp
theorem rise_facts (m n : Nat) (h : m < n) (hn : n < 18446744073709551616) (X Y : ByteArray) (hX : X = ⟨(enc m).toArray⟩) (hY : Y = ⟨(enc n).toArray⟩) :
    (X.size < Y.size ∨ (X.size = Y.size ∧ Op.bytesLess X.toList Y.toList = true)) ∧ X.extract 0 (min X.size Y.size) ≠ Y.extract 0 (min X.size Y.size) := by
  have R := enc_rise m n h
  have T := enc_take m n (by omega) hn (by omega)
  have s1 : X.size = (enc m).length := by rw [hX, mk_size]
  have s2 : Y.size = (enc n).length := by rw [hY, mk_size]
  have T2 : X.extract 0 (min X.size Y.size) ≠ Y.extract 0 (min X.size Y.size) := by
    rw [s1, s2, hX, hY, ext_take, ext_take]
    intro h
    apply T
    injection h with h
    simpa using h
  refine ⟨?_, T2⟩
  rw [s1, s2, hX, hY, ByteArray.toList_eq, ByteArray.toList_eq]
  simpa using R

set_option maxHeartbeats 2000000 in
set_option maxRecDepth 100000 in
theorem rises_walk (a b : Int) (w : World) (a0 : 0 ≤ a) (a1 : a < 18446744073709551616) (b0 : 0 ≤ b) (b1 : b < 18446744073709551616) :
    Calls Try.prog 6 #[.int .u64 a, .int .u64 b] w fun e w' => e = .returned (.bool true) ∧ Below w.heap.size w w' := by
  have h1 := fun W => hide (uint_int a W a0 a1)
  have h2 := fun W => hide (uint_int b W b0 b1)
  have z1 := (enc_len_le a.toNat (by omega)).2
  have z2 := (enc_len_le b.toNat (by omega)).2
  have F1 := fun (h : a < b) => rise_facts a.toNat b.toNat (by omega) (by omega) _ _ rfl rfl
  have F2 := fun (h : b < a) => rise_facts b.toNat a.toNat (by omega) (by omega) _ _ rfl rfl
  have F3 : a = b → (⟨(enc a.toNat).toArray⟩ : ByteArray) = ⟨(enc b.toNat).toArray⟩ := fun h => by rw [h]
  rw [← mk_size] at z1 z2
  generalize (⟨(enc a.toNat).toArray⟩ : ByteArray) = X at *
  generalize (⟨(enc b.toNat).toArray⟩ : ByteArray) = Y at *
  rcases Int.lt_trichotomy a b with hab | hab | hab
  · obtain ⟨R, T⟩ := F1 hab
    clear F1 F2 F3
    have eb : (a == b) = false := beq_eq_false_iff_ne.2 (by omega)
    have e3 : decide (b < a) = false := decide_eq_false (by omega)
    rcases R with R | ⟨R, R2⟩
    · rw [show min X.size Y.size = X.size by omega, ext_all] at T
      have hsl := sl_to Y X.size (by omega)
      generalize Y.extract 0 X.size = Z at *
      have T3 := list_ne T
      have e1 : ((X.size : Int) == (Y.size : Int)) = false := beq_eq_false_iff_ne.2 (by omega)
      have e2 : ¬ Y.size < X.size := by omega
      clear T
      go_enter Try.func6, Try.ntmps6
      go_wp2_with fail
      refine (awake_any _).mono ?_
      rintro r w1 ⟨rfl, b1⟩
      go_wp2_with fail
      refine (unhide (h1 _)).mono ?_
      rintro r w2 ⟨rfl, b2⟩
      have c2 := b1.trans (b2.mono b1.size)
      clear b1 b2
      go_wp2_with fail
      refine (unhide (h2 _)).mono ?_
      rintro r w3 ⟨rfl, b3⟩
      have c3 := hide (c2.trans (b3.mono c2.size))
      clear c2 b3
      go_wp2
      go_quiet (fail)
      go_wp2
      go_ret
      have c := c3.out
      exact ⟨rfl, ⟨c.os, c.tape, c.output, c.size, c.block⟩⟩
    · have hx := sl_to X Y.size (by omega)
      have hy := sl_to Y X.size (by omega)
      rw [show min X.size Y.size = X.size by omega, ext_all] at T
      rw [R, ext_all] at T
      rw [R, ext_all] at hy
      rw [← R, ext_all] at hx
      rw [← R] at hy
      rw [R] at hx
      have T3 := list_ne T
      have e1 : ((X.size : Int) == (Y.size : Int)) = true := beq_iff_eq.2 (by omega)
      have e2 : ¬ Y.size < X.size := by omega
      have e4 : ¬ X.size < Y.size := by omega
      clear T R
      go_enter Try.func6, Try.ntmps6
      go_wp2_with fail
      refine (awake_any _).mono ?_
      rintro r w1 ⟨rfl, b1⟩
      go_wp2_with fail
      refine (unhide (h1 _)).mono ?_
      rintro r w2 ⟨rfl, b2⟩
      have c2 := b1.trans (b2.mono b1.size)
      clear b1 b2
      go_wp2_with fail
      refine (unhide (h2 _)).mono ?_
      rintro r w3 ⟨rfl, b3⟩
      have c3 := hide (c2.trans (b3.mono c2.size))
      clear c2 b3
      go_wp2
      go_quiet (fail)
      go_wp2
      go_ret
      have c := c3.out
      exact ⟨rfl, ⟨c.os, c.tape, c.output, c.size, c.block⟩⟩
  · have e := F3 hab
    subst e
    subst hab
    clear F1 F2 F3
    go_enter Try.func6, Try.ntmps6
    go_wp2_with fail
    refine (awake_any _).mono ?_
    rintro r w1 ⟨rfl, b1⟩
    go_wp2_with fail
    refine (unhide (h1 _)).mono ?_
    rintro r w2 ⟨rfl, b2⟩
    have c2 := b1.trans (b2.mono b1.size)
    clear b1 b2
    go_wp2_with fail
    refine (unhide (h2 _)).mono ?_
    rintro r w3 ⟨rfl, b3⟩
    have c3 := hide (c2.trans (b3.mono c2.size))
    clear c2 b3
    go_wp2
    go_ret
    exact ⟨rfl, c3.out⟩
  · obtain ⟨R, T⟩ := F2 hab
    clear F1 F2 F3
    have eb : (a == b) = false := beq_eq_false_iff_ne.2 (by omega)
    have e3 : decide (b < a) = true := decide_eq_true hab
    rcases R with R | ⟨R, R2⟩
    · rw [show min Y.size X.size = Y.size by omega, ext_all] at T
      have hsl := sl_to X Y.size (by omega)
      generalize X.extract 0 Y.size = Z at *
      have T3 := list_ne T.symm
      have e1 : ((X.size : Int) == (Y.size : Int)) = false := beq_eq_false_iff_ne.2 (by omega)
      clear T
      go_enter Try.func6, Try.ntmps6
      go_wp2_with fail
      refine (awake_any _).mono ?_
      rintro r w1 ⟨rfl, b1⟩
      go_wp2_with fail
      refine (unhide (h1 _)).mono ?_
      rintro r w2 ⟨rfl, b2⟩
      have c2 := b1.trans (b2.mono b1.size)
      clear b1 b2
      go_wp2_with fail
      refine (unhide (h2 _)).mono ?_
      rintro r w3 ⟨rfl, b3⟩
      have c3 := hide (c2.trans (b3.mono c2.size))
      clear c2 b3
      go_wp2
      go_quiet (fail)
      go_wp2
      go_ret
      have c := c3.out
      exact ⟨rfl, ⟨c.os, c.tape, c.output, c.size, c.block⟩⟩
    · have hx := sl_to X Y.size (by omega)
      have hy := sl_to Y X.size (by omega)
      rw [show min Y.size X.size = Y.size by omega, ext_all] at T
      rw [R, ext_all] at T
      rw [R, ext_all] at hx
      rw [← R, ext_all] at hy
      rw [← R] at hx
      rw [R] at hy
      have T3 := list_ne T.symm
      have e1 : ((X.size : Int) == (Y.size : Int)) = true := beq_iff_eq.2 (by omega)
      have e2 : ¬ Y.size < X.size := by omega
      have e4 : ¬ X.size < Y.size := by omega
      have e5 : Op.bytesLess X.toList Y.toList = false := (less_asymm _ _ R2).1
      clear T R
      go_enter Try.func6, Try.ntmps6
      go_wp2_with fail
      refine (awake_any _).mono ?_
      rintro r w1 ⟨rfl, b1⟩
      go_wp2_with fail
      refine (unhide (h1 _)).mono ?_
      rintro r w2 ⟨rfl, b2⟩
      have c2 := b1.trans (b2.mono b1.size)
      clear b1 b2
      go_wp2_with fail
      refine (unhide (h2 _)).mono ?_
      rintro r w3 ⟨rfl, b3⟩
      have c3 := hide (c2.trans (b3.mono c2.size))
      clear c2 b3
      go_wp2
      go_quiet (fail)
      go_wp2
      go_ret
      have c := c3.out
      exact ⟨rfl, ⟨c.os, c.tape, c.output, c.size, c.block⟩⟩
end Go.Proofs.Ytbiahajpmnfhbaa
