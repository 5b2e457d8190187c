/-
  The walk of the reference's hex.
-/
import Derived.Test.YthiffpdioclnlaaDoorRQ
import Derived.Test.YthiffpdioclnlaaDoorPX
set_option linter.unusedSimpArgs false
set_option linter.unusedVariables false
namespace Go.Proofs.YthiffpdioclnlaaDoor
open Go.RowKit

theorem digit_nat (k : Nat) (h : k < 16) (w : World) :
    Calls Tryd.prog 29 #[.int .i64 (k : Int)] w fun e w' => e = .returned (.int .u8 ((hexD k).toNat : Int)) ∧ w' = w := by
  have := digit_any (k : Int) (by omega) (by omega) w
  simpa using this
theorem hex_hit (c : UInt8) (k : Nat) (h : k < 16) (e : (hexD k).toNat = c.toNat) : hexI c = (k : Int) := by
  rw [← UInt8.toNat_inj.1 e, hexI_hexD k h]
theorem hex_miss (c : UInt8) (h : ∀ j, j < 16 → (hexD j).toNat ≠ c.toNat) : hexI c = -1 := by
  have hb := hexI_bd c
  by_cases hn : 0 ≤ hexI c
  · exact absurd (by rw [hexD_hexI c hn]) (h (hexI c).toNat (by omega))
  · omega

set_option maxHeartbeats 1000000 in
set_option maxRecDepth 100000 in
theorem refHex_any (c : UInt8) (w : World) :
    Calls Tryd.prog 41 #[.int .u8 (c.toNat : Int)] w fun e w' => e = .returned (.int .i64 (hexI c)) ∧ w' = w := by
  go_enter Tryd.func41, Tryd.ntmps41
  go_wp2
  go_loop [3] (fun i => ∃ k : Nat, i = .int .i64 k ∧ k ≤ 16 ∧ Hid (∀ j, j < k → (hexD j).toNat ≠ c.toNat)) (fun i => 16 - (intOf i).toNat)
  case atStart => exact ⟨0, rfl, by omega, hide (fun j h => by omega)⟩
  case round =>
    obtain ⟨k, rfl, hk, hj⟩ := hrel
    by_cases hlt : k < 16
    · have HD := fun (W : World) => hide (digit_nat k hlt W)
      have hst := hide (fun (h : ¬ (hexD k).toNat = c.toNat) (j : Nat) (h2 : j < k + 1) => (if e : j = k then by rw [e]; exact h else hj.out j (by omega) : (hexD j).toNat ≠ c.toNat))
      have hit := hide (hex_hit c k hlt)
      generalize hexD k = d at *
      by_cases e : d.toNat = c.toNat
      · have E := hide (hit.out e)
        have eb : ((d.toNat : Int) == (c.toNat : Int)) = true := by rw [e]; simp
        clear e
        go_wp2_with (go_at_call 29; refine (unhide (HD _)).mono ?_; rintro e w' ⟨rfl, rfl⟩)
        go_ret
        exact ⟨ret_int E.out.symm, rfl⟩
      · have N := hide (hst.out e)
        have eb : ((d.toNat : Int) == (c.toNat : Int)) = false := beq_eq_false_iff_ne.2 (by omega)
        clear e
        go_wp2_with (go_at_call 29; refine (unhide (HD _)).mono ?_; rintro e w' ⟨rfl, rfl⟩)
        exact ⟨⟨k + 1, by go_num, by omega, N⟩, by simp [intOf]; omega⟩
    · have E := hide (hex_miss c (fun j h => hj.out j (by omega)))
      go_wp2
      go_ret
      exact ⟨ret_int E.out.symm, rfl⟩
end Go.Proofs.YthiffpdioclnlaaDoor
