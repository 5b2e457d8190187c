/-
  The walks of the reference's digit and Quote.
-/
import Derived.Test.YthiffpdioclnlaaDoorVO
set_option linter.unusedSimpArgs false
set_option linter.unusedVariables false
namespace Go.Proofs.YthiffpdioclnlaaDoor
open Go.RowKit

/-- A slice literal of bytes, in a block of its own. -/
theorem own_new (w : World) (cs : Array Value) (l : List UInt8) (h : cs.toList = Lib.byteCells l) (hl : l.length ≤ 1000) : Own (w.alloc (.cells cs 5)) w.heap.size (.slice (some ⟨w.heap.size, 0, none⟩) l.length l.length) l := by
  have hs : cs.size = l.length := by rw [← Array.length_toList, h]; simp [Lib.byteCells]
  refine ⟨by simp [Lib.byteCells], Or.inr ⟨w.heap.size, l.length, cs, rfl, Nat.le_refl _, heap_top _ _, Nat.le_refl _, by unfold maxLen; omega, by omega, ?_⟩⟩
  rw [h, List.take_of_length_le (by simp [Lib.byteCells])]

theorem digI_at (n : Nat) (h : n < 16) (W : World) : (Instr.index 9 (.string ⟨#[48, 49, 50, 51, 52, 53, 54, 55, 56, 57, 97, 98, 99, 100, 101, 102]⟩) (.int .i64 (n : Int))).run Tryd.prog W = .ok (.int .u8 ((hexD n).toNat : Int)) W := by
  have d0 : ∀ W, (Instr.index 9 (.string ⟨#[48, 49, 50, 51, 52, 53, 54, 55, 56, 57, 97, 98, 99, 100, 101, 102]⟩) (.int .i64 0)).run Tryd.prog W = .ok (.int .u8 48) W := fun _ => by kernel_rfl
  have d1 : ∀ W, (Instr.index 9 (.string ⟨#[48, 49, 50, 51, 52, 53, 54, 55, 56, 57, 97, 98, 99, 100, 101, 102]⟩) (.int .i64 1)).run Tryd.prog W = .ok (.int .u8 49) W := fun _ => by kernel_rfl
  have d2 : ∀ W, (Instr.index 9 (.string ⟨#[48, 49, 50, 51, 52, 53, 54, 55, 56, 57, 97, 98, 99, 100, 101, 102]⟩) (.int .i64 2)).run Tryd.prog W = .ok (.int .u8 50) W := fun _ => by kernel_rfl
  have d3 : ∀ W, (Instr.index 9 (.string ⟨#[48, 49, 50, 51, 52, 53, 54, 55, 56, 57, 97, 98, 99, 100, 101, 102]⟩) (.int .i64 3)).run Tryd.prog W = .ok (.int .u8 51) W := fun _ => by kernel_rfl
  have d4 : ∀ W, (Instr.index 9 (.string ⟨#[48, 49, 50, 51, 52, 53, 54, 55, 56, 57, 97, 98, 99, 100, 101, 102]⟩) (.int .i64 4)).run Tryd.prog W = .ok (.int .u8 52) W := fun _ => by kernel_rfl
  have d5 : ∀ W, (Instr.index 9 (.string ⟨#[48, 49, 50, 51, 52, 53, 54, 55, 56, 57, 97, 98, 99, 100, 101, 102]⟩) (.int .i64 5)).run Tryd.prog W = .ok (.int .u8 53) W := fun _ => by kernel_rfl
  have d6 : ∀ W, (Instr.index 9 (.string ⟨#[48, 49, 50, 51, 52, 53, 54, 55, 56, 57, 97, 98, 99, 100, 101, 102]⟩) (.int .i64 6)).run Tryd.prog W = .ok (.int .u8 54) W := fun _ => by kernel_rfl
  have d7 : ∀ W, (Instr.index 9 (.string ⟨#[48, 49, 50, 51, 52, 53, 54, 55, 56, 57, 97, 98, 99, 100, 101, 102]⟩) (.int .i64 7)).run Tryd.prog W = .ok (.int .u8 55) W := fun _ => by kernel_rfl
  have d8 : ∀ W, (Instr.index 9 (.string ⟨#[48, 49, 50, 51, 52, 53, 54, 55, 56, 57, 97, 98, 99, 100, 101, 102]⟩) (.int .i64 8)).run Tryd.prog W = .ok (.int .u8 56) W := fun _ => by kernel_rfl
  have d9 : ∀ W, (Instr.index 9 (.string ⟨#[48, 49, 50, 51, 52, 53, 54, 55, 56, 57, 97, 98, 99, 100, 101, 102]⟩) (.int .i64 9)).run Tryd.prog W = .ok (.int .u8 57) W := fun _ => by kernel_rfl
  have d10 : ∀ W, (Instr.index 9 (.string ⟨#[48, 49, 50, 51, 52, 53, 54, 55, 56, 57, 97, 98, 99, 100, 101, 102]⟩) (.int .i64 10)).run Tryd.prog W = .ok (.int .u8 97) W := fun _ => by kernel_rfl
  have d11 : ∀ W, (Instr.index 9 (.string ⟨#[48, 49, 50, 51, 52, 53, 54, 55, 56, 57, 97, 98, 99, 100, 101, 102]⟩) (.int .i64 11)).run Tryd.prog W = .ok (.int .u8 98) W := fun _ => by kernel_rfl
  have d12 : ∀ W, (Instr.index 9 (.string ⟨#[48, 49, 50, 51, 52, 53, 54, 55, 56, 57, 97, 98, 99, 100, 101, 102]⟩) (.int .i64 12)).run Tryd.prog W = .ok (.int .u8 99) W := fun _ => by kernel_rfl
  have d13 : ∀ W, (Instr.index 9 (.string ⟨#[48, 49, 50, 51, 52, 53, 54, 55, 56, 57, 97, 98, 99, 100, 101, 102]⟩) (.int .i64 13)).run Tryd.prog W = .ok (.int .u8 100) W := fun _ => by kernel_rfl
  have d14 : ∀ W, (Instr.index 9 (.string ⟨#[48, 49, 50, 51, 52, 53, 54, 55, 56, 57, 97, 98, 99, 100, 101, 102]⟩) (.int .i64 14)).run Tryd.prog W = .ok (.int .u8 101) W := fun _ => by kernel_rfl
  have d15 : ∀ W, (Instr.index 9 (.string ⟨#[48, 49, 50, 51, 52, 53, 54, 55, 56, 57, 97, 98, 99, 100, 101, 102]⟩) (.int .i64 15)).run Tryd.prog W = .ok (.int .u8 102) W := fun _ => by kernel_rfl
  have hc : n = 0 ∨ n = 1 ∨ n = 2 ∨ n = 3 ∨ n = 4 ∨ n = 5 ∨ n = 6 ∨ n = 7 ∨ n = 8 ∨ n = 9 ∨ n = 10 ∨ n = 11 ∨ n = 12 ∨ n = 13 ∨ n = 14 ∨ n = 15 := by omega
  rcases hc with rfl | rfl | rfl | rfl | rfl | rfl | rfl | rfl | rfl | rfl | rfl | rfl | rfl | rfl | rfl | rfl
  · exact d0 W
  · exact d1 W
  · exact d2 W
  · exact d3 W
  · exact d4 W
  · exact d5 W
  · exact d6 W
  · exact d7 W
  · exact d8 W
  · exact d9 W
  · exact d10 W
  · exact d11 W
  · exact d12 W
  · exact d13 W
  · exact d14 W
  · exact d15 W

theorem digit_any (n : Int) (h0 : 0 ≤ n) (h1 : n < 16) (w : World) :
    Calls Tryd.prog 29 #[.int .i64 n] w fun e w' => e = .returned (.int .u8 ((hexD n.toNat).toNat : Int)) ∧ w' = w := by
  obtain ⟨k, rfl⟩ := Int.eq_ofNat_of_zero_le h0
  have hd := fun W => digI_at k (by omega) W
  go_enter Tryd.func29, Tryd.ntmps29
  go_wp2
  go_ret
  exact ⟨ret_int rfl, rfl⟩

theorem esc_or {c : Int} (h : escB c = true) : c < 32 ∨ 126 < c ∨ c = 39 ∨ c = 92 := by
  simp [escB] at h
  omega
theorem esc_not {c : Int} (h : escB c = false) : ¬ c < 32 ∧ ¬ 126 < c ∧ (c == 39) = false ∧ (c == 92) = false := by
  simp [escB] at h
  refine ⟨by omega, by omega, beq_eq_false_iff_ne.2 (by omega), beq_eq_false_iff_ne.2 (by omega)⟩

set_option maxHeartbeats 1000000 in
set_option maxRecDepth 100000 in
theorem refQuote_any (s : ByteArray) (w : World) (hs : s.size ≤ 1048576) :
    Calls Tryd.prog 19 #[.string s] w fun e w' => e = .returned (.string ⟨(quoteL s.data.toList).toArray⟩) ∧ Below w.heap.size w w' := by
  go_enter Tryd.func19, Tryd.ntmps19
  go_wp2
  have H1 : Hid (Own (w.alloc (.cells #[.int .u8 39] 5)) w.heap.size (.slice (some ⟨w.heap.size, 0, none⟩) 1 1) (39 :: qBytes (s.data.toList.take 0))) := hide (by simpa [qBytes] using own_new w #[.int .u8 39] [39] rfl (by simp))
  have hb1 : Below w.heap.size w (w.alloc (.cells #[.int .u8 39] 5)) := (Below.refl _ _).alloc (Nat.le_refl _) _
  go_loopw [3, 4] (fun v i wr => ∃ k : Nat, k ≤ s.size ∧ i = .int .i64 k ∧ Hid (Own wr w.heap.size v (39 :: qBytes (s.data.toList.take k))) ∧ Below w.heap.size w wr) (fun _ i _ => s.size - (intOf i).toNat)
  case atStart => exact ⟨0, Nat.zero_le _, rfl, H1, hb1⟩
  case round =>
    obtain ⟨k, hk, rfl, hO, hnx⟩ := hrel
    clear hb1 H1
    have hzr := hnx.size
    have hq := qBytes_len (s.data.toList.take k)
    have hl : (s.data.toList.take k).length ≤ k := List.length_take_le _ _
    have hq2 : (39 :: qBytes (s.data.toList.take k)).length ≤ 3 * k + 1 := by simp; omega
    clear hq hl
    by_cases hlt : k < s.size
    · have hst := hide (quote_step s k hlt)
      generalize hL : 39 :: qBytes (s.data.toList.take k) = L at hO hst hq2
      clear hL
      have hc := s[k].toNat_lt
      cases he : escB (s[k].toNat : Int)
      · have f := esc_not he
        obtain ⟨f1, f2, f3, f4⟩ := f
        go_wp2_with (at_builtin; refine wpList_app _ rfl _ _ rfl w.heap.size _ L rfl (hO.out.alloc _) _ 1 1 _ [s[k]] rfl rfl (heap_top _ _) rfl (by omega) (by simp; omega) ?_; intro v2 w2 hO2 hb2)
        refine ⟨⟨k + 1, by omega, by go_num, hide ?_, (hnx.alloc hzr _).trans hb2⟩, by simp [intOf]; omega⟩
        rw [hst.out]
        unfold qByte
        rw [he]
        exact hO2
      · have He := hide he
        have hw := esc_or he
        clear he
        by_cases g1 : (s[k].toNat : Int) < 32
        · clear hw
          go_wp2_with (first | (go_at_call 29; refine (digit_any _ (by omega) (by omega) _).mono ?_; rintro e w' ⟨rfl, rfl⟩) | (at_builtin; refine wpList_app _ rfl _ _ rfl w.heap.size _ L rfl (hO.out.alloc _) _ 3 3 _ [92, hexD (s[k].toNat / 16), hexD (s[k].toNat % 16)] rfl rfl (heap_top _ _) rfl (by omega) (by simp; omega) ?_; intro v2 w2 hO2 hb2))
          refine ⟨⟨k + 1, by omega, by go_num, hide ?_, (hnx.alloc hzr _).trans hb2⟩, by simp [intOf]; omega⟩
          rw [hst.out]
          unfold qByte
          rw [He.out]
          exact hO2
        by_cases g2 : (126 : Int) < (s[k].toNat : Int)
        · clear hw
          go_wp2_with (first | (go_at_call 29; refine (digit_any _ (by omega) (by omega) _).mono ?_; rintro e w' ⟨rfl, rfl⟩) | (at_builtin; refine wpList_app _ rfl _ _ rfl w.heap.size _ L rfl (hO.out.alloc _) _ 3 3 _ [92, hexD (s[k].toNat / 16), hexD (s[k].toNat % 16)] rfl rfl (heap_top _ _) rfl (by omega) (by simp; omega) ?_; intro v2 w2 hO2 hb2))
          refine ⟨⟨k + 1, by omega, by go_num, hide ?_, (hnx.alloc hzr _).trans hb2⟩, by simp [intOf]; omega⟩
          rw [hst.out]
          unfold qByte
          rw [He.out]
          exact hO2
        by_cases g3 : (s[k].toNat : Int) = 39
        · have g3' : ((s[k].toNat : Int) == 39) = true := beq_iff_eq.2 g3
          clear hw g3
          go_wp2_with (first | (go_at_call 29; refine (digit_any _ (by omega) (by omega) _).mono ?_; rintro e w' ⟨rfl, rfl⟩) | (at_builtin; refine wpList_app _ rfl _ _ rfl w.heap.size _ L rfl (hO.out.alloc _) _ 3 3 _ [92, hexD (s[k].toNat / 16), hexD (s[k].toNat % 16)] rfl rfl (heap_top _ _) rfl (by omega) (by simp; omega) ?_; intro v2 w2 hO2 hb2))
          refine ⟨⟨k + 1, by omega, by go_num, hide ?_, (hnx.alloc hzr _).trans hb2⟩, by simp [intOf]; omega⟩
          rw [hst.out]
          unfold qByte
          rw [He.out]
          exact hO2
        have g3' : ((s[k].toNat : Int) == 39) = false := beq_eq_false_iff_ne.2 g3
        have g4' : ((s[k].toNat : Int) == 92) = true := beq_iff_eq.2 (by omega)
        clear hw g3
        go_wp2_with (first | (go_at_call 29; refine (digit_any _ (by omega) (by omega) _).mono ?_; rintro e w' ⟨rfl, rfl⟩) | (at_builtin; refine wpList_app _ rfl _ _ rfl w.heap.size _ L rfl (hO.out.alloc _) _ 3 3 _ [92, hexD (s[k].toNat / 16), hexD (s[k].toNat % 16)] rfl rfl (heap_top _ _) rfl (by omega) (by simp; omega) ?_; intro v2 w2 hO2 hb2))
        refine ⟨⟨k + 1, by omega, by go_num, hide ?_, (hnx.alloc hzr _).trans hb2⟩, by simp [intOf]; omega⟩
        rw [hst.out]
        unfold qByte
        rw [He.out]
        exact hO2
    · generalize hL : 39 :: qBytes (s.data.toList.take k) = L at hO hq2
      have HL := hide hL
      clear hL
      go_wp2_with (at_builtin; refine wpList_app _ rfl _ _ rfl w.heap.size _ L rfl (hO.out.alloc _) _ 1 1 _ [39] rfl rfl (heap_top _ _) rfl (by omega) (by simp; omega) ?_; intro v2 w2 hO2 hb2; refine Hid.out ?_)
      refine hide ?_
      obtain ⟨g, n, cap, rfl⟩ := own_form hO2 (by simp)
      have hcv := conv_own hO2
      go_wp2
      go_ret
      refine ⟨ret_str ?_, (hnx.alloc hzr _).trans hb2⟩
      rw [← HL.out, List.take_of_length_le (by simp; omega)]
      rfl
end Go.Proofs.YthiffpdioclnlaaDoor
