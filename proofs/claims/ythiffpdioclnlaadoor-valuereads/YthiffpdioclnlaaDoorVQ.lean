/-
  The walk of value.Quote.
-/
import Derived.Test.YthiffpdioclnlaaDoorVO
set_option linter.unusedSimpArgs false
set_option linter.unusedVariables false
namespace Go.Proofs.YthiffpdioclnlaaDoor
open Go.RowKit
attribute [local go_sem ↓] Go.wp_at_zero Go.wp_at_succ

set_option maxHeartbeats 1000000 in
set_option maxRecDepth 100000 in
theorem quote_any (s : ByteArray) (w : World) (hs : s.size ≤ 1048576) :
    Calls Tryd.prog 18 #[.string s] w fun e w' => e = .returned (.string ⟨(quoteL s.data.toList).toArray⟩) ∧ Below w.heap.size w w' := by
  obtain ⟨i0, hi, hz0, hz1, hz2⟩ := info_parts infoByte
  go_enter Tryd.func18, Tryd.ntmps18
  go_wp2_with (at_make; refine wpList_make_own _ rfl _ _ 61 rfl w.heap.size 5 i0 (.int .u8 0) 1 Tryd.underlying61 hi hz0 hz1 _ _ _ (s.size + 2) rfl rfl (by omega) ?b2 ?b3 (Nat.le_refl _) ?_)
  case b2 => rw [hz2]; omega
  case b3 => unfold maxLen; omega
  intro w0 hown0 hgrow0
  have hb0 : Below w.heap.size w w0 := (Below.refl _ _).grown hgrow0 (Nat.le_refl _) (fun k h => by cases h)
  have hz := hb0.size
  have hO0 : Own w0 w.heap.size (.slice (some ⟨w.heap.size, 0, none⟩) 0 (s.size + 2)) [] := hown0
  clear hown0 hgrow0 hi hz0 hz1 hz2
  go_wp2_with (at_builtin; refine wpList_app _ rfl _ _ rfl w.heap.size _ [] rfl (hO0.alloc _) w0.heap.size 1 1 _ [39] rfl rfl (heap_top _ _) rfl (by simp) (by simp; omega) ?_)
  intro v1 w1 hO1 hbw1
  have hb1 : Below w.heap.size w w1 := (hb0.alloc hz _).trans hbw1
  have H1 : Hid (Own w1 w.heap.size v1 (39 :: qBytes (s.data.toList.take 0))) := hide (by simpa [qBytes] using hO1)
  clear hO1 hbw1 hO0
  go_wp2
  go_loopw [3, 15] (fun v i wr => ∃ k : Nat, k ≤ s.size ∧ i = .int .i64 k ∧ Hid (Own wr w.heap.size v (39 :: qBytes (s.data.toList.take k))) ∧ Below w.heap.size w wr) (fun _ i _ => s.size - (intOf i).toNat)
  case atStart => exact ⟨0, Nat.zero_le _, rfl, H1, hb1⟩
  case round =>
    obtain ⟨k, hk, rfl, hO, hnx⟩ := hrel
    clear hb0 hb1 hz H1
    have hzr := hnx.size
    have hq := qBytes_len (s.data.toList.take k)
    have hl : (s.data.toList.take k).length ≤ k := List.length_take_le _ _
    have hq2 : (39 :: qBytes (s.data.toList.take k)).length ≤ 3 * k + 1 := by simp; omega
    clear hq hl
    by_cases hlt : k < s.size
    · have hst := hide (quote_step s k hlt)
      generalize hL : 39 :: qBytes (s.data.toList.take k) = L at hO hst hq2
      clear hL
      cases he : escB (s[k].toNat : Int)
      · go_wp2_with (first | (go_at_call 28; refine (escaped_any _ _).mono ?_; rintro e w' ⟨rfl, rfl⟩) | (at_builtin; refine wpList_app _ rfl _ _ rfl w.heap.size _ L rfl (hO.out.alloc _) _ 1 1 _ [s[k]] rfl rfl (heap_top _ _) rfl (by omega) (by simp; omega) ?_; intro v2 w2 hO2 hb2))
        refine ⟨⟨k + 1, by omega, by go_num, hide ?_, (hnx.alloc hzr _).trans hb2⟩, by simp [intOf]; omega⟩
        rw [hst.out]
        unfold qByte
        rw [he]
        exact hO2
      · go_wp2_with (go_at_call 28; refine (escaped_any _ _).mono ?_; rintro e w' ⟨rfl, rfl⟩)
        have hc := s[k].toNat_lt
        have hi1 : ∀ W, (Instr.index 9 (.string ⟨#[48, 49, 50, 51, 52, 53, 54, 55, 56, 57, 97, 98, 99, 100, 101, 102]⟩) (.int .u8 (IntKind.u8.wrap ((s[k].toNat : Int) / 16)))).run Tryd.prog W = .ok (.int .u8 ((hexD (s[k].toNat / 16)).toNat : Int)) W := fun W => by
          rw [hi_nibble]; exact dig_at _ (by omega) W
        have hi2 : ∀ W, (Instr.index 9 (.string ⟨#[48, 49, 50, 51, 52, 53, 54, 55, 56, 57, 97, 98, 99, 100, 101, 102]⟩) (.int .u8 ((s[k].toNat : Int).tmod 16))).run Tryd.prog W = .ok (.int .u8 ((hexD (s[k].toNat % 16)).toNat : Int)) W := fun W => by
          rw [lo_nibble]; exact dig_at _ (by omega) W
        clear hc
        go_region_law ((refine step_app _ rfl _ _ rfl w.heap.size _ L rfl (by exact (hO.out.drew.alloc _)) _ 3 3 _ [92, hexD (s[k].toNat / 16), hexD (s[k].toNat % 16)] rfl (by omega) rfl (by exact heap_top _ _) rfl (by omega) (by simp; omega) ?_; intro v2 w2 hO2 hb2))
        all_goals
          go_wp2
          refine ⟨⟨k + 1, by omega, by go_num, hide ?_, (hnx.drew.alloc hzr _).trans hb2⟩, by simp [intOf]; omega⟩
          rw [hst.out]
          unfold qByte
          rw [he]
          exact hO2
    · generalize hL : 39 :: qBytes (s.data.toList.take k) = L at hO hq2
      have HL := hide hL
      clear hL
      go_wp2_with (at_builtin; refine wpList_app _ rfl _ _ rfl w.heap.size _ L rfl (hO.out.alloc _) _ 1 1 _ [39] rfl rfl (heap_top _ _) rfl (by omega) (by simp; omega) ?_; intro v2 w2 hO2 hb2; refine Hid.out ?_)
      refine hide ?_
      obtain ⟨g, n, cap, rfl⟩ := own_form hO2 (by simp)
      have hcv := conv_own hO2
      go_wp2
      go_ret
      refine ⟨ret_str ?_, (hnx.alloc hzr _).trans hb2⟩
      rw [← HL.out, List.take_of_length_le (by simp; omega)]
      rfl
end Go.Proofs.YthiffpdioclnlaaDoor
