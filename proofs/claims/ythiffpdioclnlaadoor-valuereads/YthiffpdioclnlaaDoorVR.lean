/-
  The walks of value.Read's parts.
-/
import Derived.Test.YthiffpdioclnlaaDoorVO
import Derived.Test.YthiffpdioclnlaaDoorPR
import Derived.Deep.QuietTactic
import Derived.BigQuiet
set_option linter.unusedSimpArgs false
set_option linter.unusedVariables false
namespace Go.Proofs.YthiffpdioclnlaaDoor
open Go.RowKit
attribute [local go_sem ↓] Go.wp_at_zero Go.wp_at_succ

theorem indexByte_any (s : ByteArray) (c : Int) (w : World) :
    Calls Tryd.prog 45 #[.string s, .int .u8 c] w fun e w' => e = .returned (.int .i64 (Lib.indexByte s.data.toList c.toNat.toUInt8)) ∧ w' = w := by
  go_enter Tryd.func45, Tryd.ntmps45
  go_wp2_with (go_at_call 54; refine (Tryd.stringslite_IndexByte _ _ _).mono ?_; rintro e w' ⟨rfl, rfl⟩)
  go_ret
  exact ⟨rfl, rfl⟩

/-- strings.IndexByte of the sixteen digits. -/
theorem hex_any (c : UInt8) (w : World) :
    Calls Tryd.prog 45 #[.string ⟨#[48, 49, 50, 51, 52, 53, 54, 55, 56, 57, 97, 98, 99, 100, 101, 102]⟩, .int .u8 (c.toNat : Int)] w fun e w' => e = .returned (.int .i64 (hexI c)) ∧ w' = w := by
  refine (indexByte_any _ _ _).mono ?_
  rintro e w' ⟨rfl, rfl⟩
  refine ⟨ret_int ?_, rfl⟩
  unfold hexI hexA
  simp

theorem ret_two {c d a b : Int} (h1 : c = a) (h2 : d = b) : Ending.returned (.tuple #[.int .u8 c, .int .i64 d]) = .returned (.tuple #[.int .u8 a, .int .i64 b]) := by rw [h1, h2]

set_option maxHeartbeats 1000000 in
set_option maxRecDepth 100000 in
theorem readByte_any (s : ByteArray) (w : World) (h0 : 0 < s.size) (hs : s.size ≤ 1048576) :
    Calls Tryd.prog 39 #[.string s] w fun e w' => e = .returned (.tuple #[.int .u8 (rb s.data.toList).1, .int .i64 (rb s.data.toList).2]) ∧ Below w.heap.size w w' := by
  have e0 := hide (at_getD s 0 h0)
  have hl : s.data.toList.length = s.size := (Lib.size_eq s).symm
  have Hl := hide hl
  clear hl
  by_cases c0 : s[0].toNat = 92
  · have c0' : ((s[0].toNat : Int) != 92) = false := by rw [c0]; rfl
    by_cases h3 : s.size < 3
    · go_enter Tryd.func39, Tryd.ntmps39
      go_wp2
      go_ret2
      refine ⟨ret_two ?_ ?_, Below.refl _ _⟩ <;> (unfold rb; rw [← unhide e0, if_pos c0, if_pos (by rw [unhide Hl]; exact h3)])
    · have b1 := hexI_bd s[1]
      have b2 := hexI_bd s[2]
      have e1 := hide (at_getD s 1 (by omega))
      have e2 := hide (at_getD s 2 (by omega))
      have HD := hide c0
      have g1 : (1 : Int) < (s.size : Int) := by omega
      have g2 : (2 : Int) < (s.size : Int) := by omega
      clear c0
      have hg : Hid (rb s.data.toList = if hexI s[1] < 0 ∨ hexI s[2] < 0 then ((0 : Int), (0 : Int)) else if escB ((16 : Int) * hexI s[1] + hexI s[2]) = true then ((16 : Int) * hexI s[1] + hexI s[2], 3) else (0, 0)) := hide (by
        unfold rb; rw [← unhide e0, ← unhide e1, ← unhide e2, if_pos HD.out, if_neg (by rw [unhide Hl]; exact h3)])
      clear e0 e1 e2 HD Hl
      by_cases n1 : hexI s[1] < 0
      · go_enter Tryd.func39, Tryd.ntmps39
        go_wp2
        go_region_with (go_at_call 45; refine (hex_any _ _).mono ?_; rintro e w' ⟨rfl, rfl⟩)
        all_goals
          go_wp2_with (go_at_call 28; refine (escaped_any _ _).mono ?_; rintro e w' ⟨rfl, rfl⟩)
          go_ret2
          refine ⟨ret_two ?_ ?_, (Below.refl _ _).drew⟩ <;> (rw [hg.out]; simp [n1])
      by_cases n2 : hexI s[2] < 0
      · go_enter Tryd.func39, Tryd.ntmps39
        go_wp2
        go_region_with (go_at_call 45; refine (hex_any _ _).mono ?_; rintro e w' ⟨rfl, rfl⟩)
        all_goals
          go_wp2_with (go_at_call 28; refine (escaped_any _ _).mono ?_; rintro e w' ⟨rfl, rfl⟩)
          go_ret2
          refine ⟨ret_two ?_ ?_, (Below.refl _ _).drew⟩ <;> (rw [hg.out]; simp [n2])
      have hw8 : IntKind.u8.wrap ((16 : Int) * hexI s[1] + hexI s[2]) = (16 : Int) * hexI s[1] + hexI s[2] := by rw [IntKind.wrap_u8]; omega
      cases he : escB ((16 : Int) * hexI s[1] + hexI s[2])
      · go_enter Tryd.func39, Tryd.ntmps39
        go_wp2
        go_region_with (go_at_call 45; refine (hex_any _ _).mono ?_; rintro e w' ⟨rfl, rfl⟩)
        all_goals
          go_wp2_with (go_at_call 28; refine (escaped_any _ _).mono ?_; rintro e w' ⟨rfl, rfl⟩)
          go_ret2
          refine ⟨ret_two ?_ ?_, (Below.refl _ _).drew⟩ <;> (rw [hg.out]; simp [n1, n2, he])
      · go_enter Tryd.func39, Tryd.ntmps39
        go_wp2
        go_region_with (go_at_call 45; refine (hex_any _ _).mono ?_; rintro e w' ⟨rfl, rfl⟩)
        all_goals
          go_wp2_with (go_at_call 28; refine (escaped_any _ _).mono ?_; rintro e w' ⟨rfl, rfl⟩)
          go_ret2
          refine ⟨ret_two ?_ ?_, (Below.refl _ _).drew⟩ <;> (rw [hg.out, if_neg (by omega), if_pos he])
  · have c0' : ((s[0].toNat : Int) != 92) = true := by rw [bne_iff_ne]; omega
    cases he : escB (s[0].toNat : Int)
    · go_enter Tryd.func39, Tryd.ntmps39
      go_wp2_with (go_at_call 28; refine (escaped_any _ _).mono ?_; rintro e w' ⟨rfl, rfl⟩)
      go_ret2
      refine ⟨ret_two ?_ ?_, Below.refl _ _⟩ <;> (unfold rb; rw [← unhide e0, if_neg c0, he]; rfl)
    · go_enter Tryd.func39, Tryd.ntmps39
      go_wp2_with (go_at_call 28; refine (escaped_any _ _).mono ?_; rintro e w' ⟨rfl, rfl⟩)
      go_ret2
      refine ⟨ret_two ?_ ?_, Below.refl _ _⟩ <;> (unfold rb; rw [← unhide e0, if_neg c0, he]; rfl)

set_option maxHeartbeats 1000000 in
set_option maxRecDepth 100000 in
theorem numberEnd_any (s : ByteArray) (w : World) (h0 : 0 < s.size) (hs : s.size ≤ 1048576) :
    Calls Tryd.prog 31 #[.string s] w fun e w' => e = .returned (.int .i64 (numEnd s.data.toList : Nat)) ∧ w' = w := by
  by_cases c0 : s[0].toNat = 45
  · have c0' : ((s[0].toNat : Int) == 45) = true := by rw [c0]; rfl
    have HC := hide c0
    clear c0
    go_enter Tryd.func31, Tryd.ntmps31
    go_wp2
    go_loop [4] (fun t => ∃ k : Nat, 1 ≤ k ∧ k ≤ s.size ∧ t = .int .i64 k ∧ Hid (digsTo s.data.toList 1 k)) (fun t => s.size - (intOf t).toNat)
    case atStart => exact ⟨1, by omega, by omega, rfl, digsTo_start _ _⟩
    case round =>
      obtain ⟨k, hk1, hk, rfl, hd⟩ := hrel
      by_cases hlt : k < s.size
      · by_cases d1 : 48 ≤ (s[k].toNat : Int)
        · by_cases d2 : (s[k].toNat : Int) ≤ 57
          · go_wp2
            exact ⟨⟨k + 1, by omega, by omega, by go_num, hide (digsTo_step s 1 k hd.out hlt d1 d2)⟩, by simp [intOf]; omega⟩
          · have E0 := notDig s k hlt (Or.inr (by omega))
            have HE := hide E0
            clear E0
            have E := hide (numEnd_end1 s h0 HC.out k hk1 hk hd.out (Or.inr HE.out))
            by_cases k1 : k = 1
            · have kb : ((k : Int) == 1) = true := by rw [k1]; rfl
              have K1 := hide k1
              clear k1
              go_wp2
              go_ret
              exact ⟨ret_int (by rw [E.out, if_pos K1.out]; rfl), rfl⟩
            · have kb : ((k : Int) == 1) = false := beq_eq_false_iff_ne.2 (by omega)
              go_wp2
              go_ret
              exact ⟨ret_int (by rw [E.out, if_neg k1]), rfl⟩
        · have E0 := notDig s k hlt (Or.inl (by omega))
          have HE := hide E0
          clear E0
          have E := hide (numEnd_end1 s h0 HC.out k hk1 hk hd.out (Or.inr HE.out))
          by_cases k1 : k = 1
          · have kb : ((k : Int) == 1) = true := by rw [k1]; rfl
            have K1 := hide k1
            clear k1
            go_wp2
            go_ret
            exact ⟨ret_int (by rw [E.out, if_pos K1.out]; rfl), rfl⟩
          · have kb : ((k : Int) == 1) = false := beq_eq_false_iff_ne.2 (by omega)
            go_wp2
            go_ret
            exact ⟨ret_int (by rw [E.out, if_neg k1]), rfl⟩
      · have E0 : k = s.size := by omega
        have HE := hide E0
        clear E0
        have E := hide (numEnd_end1 s h0 HC.out k hk1 hk hd.out (Or.inl HE.out))
        by_cases k1 : k = 1
        · have kb : ((k : Int) == 1) = true := by rw [k1]; rfl
          have K1 := hide k1
          clear k1
          go_wp2
          go_ret
          exact ⟨ret_int (by rw [E.out, if_pos K1.out]; rfl), rfl⟩
        · have kb : ((k : Int) == 1) = false := beq_eq_false_iff_ne.2 (by omega)
          go_wp2
          go_ret
          exact ⟨ret_int (by rw [E.out, if_neg k1]), rfl⟩
  · have c0' : ((s[0].toNat : Int) == 45) = false := beq_eq_false_iff_ne.2 (by omega)
    have HC := hide c0
    clear c0
    go_enter Tryd.func31, Tryd.ntmps31
    go_wp2
    go_loop [4] (fun t => ∃ k : Nat, 0 ≤ k ∧ k ≤ s.size ∧ t = .int .i64 k ∧ Hid (digsTo s.data.toList 0 k)) (fun t => s.size - (intOf t).toNat)
    case atStart => exact ⟨0, by omega, by omega, rfl, digsTo_start _ _⟩
    case round =>
      obtain ⟨k, hk1, hk, rfl, hd⟩ := hrel
      by_cases hlt : k < s.size
      · by_cases d1 : 48 ≤ (s[k].toNat : Int)
        · by_cases d2 : (s[k].toNat : Int) ≤ 57
          · go_wp2
            exact ⟨⟨k + 1, by omega, by omega, by go_num, hide (digsTo_step s 0 k hd.out hlt d1 d2)⟩, by simp [intOf]; omega⟩
          · have E0 := notDig s k hlt (Or.inr (by omega))
            have HE := hide E0
            clear E0
            have E := hide (numEnd_end0 s h0 HC.out k hk hd.out (Or.inr HE.out))
            by_cases k1 : k = 0
            · have kb : ((k : Int) == 0) = true := by rw [k1]; rfl
              have K1 := hide k1
              clear k1
              go_wp2
              go_ret
              exact ⟨ret_int (by rw [E.out, K1.out]; rfl), rfl⟩
            · have kb : ((k : Int) == 0) = false := beq_eq_false_iff_ne.2 (by omega)
              go_wp2
              go_ret
              exact ⟨ret_int (by rw [E.out]), rfl⟩
        · have E0 := notDig s k hlt (Or.inl (by omega))
          have HE := hide E0
          clear E0
          have E := hide (numEnd_end0 s h0 HC.out k hk hd.out (Or.inr HE.out))
          by_cases k1 : k = 0
          · have kb : ((k : Int) == 0) = true := by rw [k1]; rfl
            have K1 := hide k1
            clear k1
            go_wp2
            go_ret
            exact ⟨ret_int (by rw [E.out, K1.out]; rfl), rfl⟩
          · have kb : ((k : Int) == 0) = false := beq_eq_false_iff_ne.2 (by omega)
            go_wp2
            go_ret
            exact ⟨ret_int (by rw [E.out]), rfl⟩
      · have E0 : k = s.size := by omega
        have HE := hide E0
        clear E0
        have E := hide (numEnd_end0 s h0 HC.out k hk hd.out (Or.inl HE.out))
        by_cases k1 : k = 0
        · have kb : ((k : Int) == 0) = true := by rw [k1]; rfl
          have K1 := hide k1
          clear k1
          go_wp2
          go_ret
          exact ⟨ret_int (by rw [E.out, K1.out]; rfl), rfl⟩
        · have kb : ((k : Int) == 0) = false := beq_eq_false_iff_ne.2 (by omega)
          go_wp2
          go_ret
          exact ⟨ret_int (by rw [E.out]), rfl⟩
end Go.Proofs.YthiffpdioclnlaaDoor
