/-
  The walk of the program's reader: Str.
-/
import Derived.Test.YtbiahajpmnfhbaaKH
set_option linter.unusedSimpArgs false
set_option linter.unusedVariables false
namespace Go.Proofs.Ytbiahajpmnfhbaa
open Go.RowKit

/-- What the reading of a text comes to: the error, the text, what is left. -/
structure SGot where
  err : Nat
  out : List UInt8
  rest : List UInt8
def strL (most : Int) (l : List UInt8) : SGot :=
  if (decL true 0 l).err ≠ 0 then ⟨(decL true 0 l).err, [], []⟩
  else if max most 0 < ((decL true 0 l).n : Int) then ⟨9, [], []⟩
  else if (decL true 0 l).rest.length < (decL true 0 l).n then ⟨3, [], []⟩
  else ⟨0, (decL true 0 l).rest.take (decL true 0 l).n, (decL true 0 l).rest.drop (decL true 0 l).n⟩
theorem dec_err_rest : ∀ (l : List UInt8) (f : Bool) (m : Nat), (decL f m l).err ≠ 0 → (decL f m l).n = 0 ∧ (decL f m l).rest = []
  | [], f, m, _ => ⟨rfl, rfl⟩
  | c :: l, f, m, h => by
    unfold decL at h ⊢
    split
    · exact ⟨rfl, rfl⟩
    · rename_i hb
      rw [if_neg hb] at h
      split
      · rename_i hc; rw [if_pos hc] at h; exact absurd rfl h
      · rename_i hc; rw [if_neg hc] at h; exact dec_err_rest l _ _ h
theorem dec_rest_le : ∀ (l : List UInt8) (f : Bool) (m : Nat), (decL f m l).rest.length ≤ l.length
  | [], f, m => by simp [decL]
  | c :: l, f, m => by
    unfold decL
    split
    · simp
    · split
      · simp
      · have := dec_rest_le l false (m * 128 + c.toNat % 128)
        simp; omega

set_option maxHeartbeats 1000000 in
set_option maxRecDepth 100000 in
theorem strR_off (b : Nat) (e most : Int) (w : World) (h : Pd w b ⟨#[]⟩ e) (e0 : ¬ e = 0) (m0 : -9223372036854775808 ≤ most) (m1 : most ≤ 9223372036854775807) :
    Calls Try.prog 24 #[.pointer (some ⟨b, 0, none⟩), .int .i64 most] w fun r w' => r = .returned (.string ⟨#[]⟩) ∧ w' = w := by
  have HU := hide (uintR_off b e w h e0)
  have HL := hide (left_any b ⟨#[]⟩ e w h (by simp [ByteArray.size]))
  have HE := hide (err_any b ⟨#[]⟩ e w h)
  have eb : (e == 0) = false := beq_eq_false_iff_ne.2 e0
  have eb2 : (e != 0) = true := by rw [bne_iff_ne]; exact e0
  clear h e0
  rcases Int.lt_or_le most 0 with hm | hm
  all_goals
    go_enter Try.func24, Try.ntmps24
    go_wp2_with fail
    refine (unhide HU).mono ?_
    rintro r w1 ⟨rfl, rfl⟩
    go_wp2_with fail
    refine (unhide HL).mono ?_
    rintro r w1 ⟨rfl, rfl⟩
    go_wp2_with fail
    refine (unhide HE).mono ?_
    rintro r w1 ⟨rfl, rfl⟩
    go_wp2
    go_ret
    exact ⟨rfl, rfl⟩
set_option maxHeartbeats 1000000 in
set_option maxRecDepth 100000 in
theorem strR_nil (most : Int) (w : World) (m0 : -9223372036854775808 ≤ most) (m1 : most ≤ 9223372036854775807) :
    Calls Try.prog 24 #[.pointer none, .int .i64 most] w fun r w' => r = .returned (.string ⟨#[]⟩) ∧ w' = w := by
  have HU := hide (uintR_nil w)
  have HL := hide (left_nil w)
  have HE := hide (err_nil w)
  rcases Int.lt_or_le most 0 with hm | hm
  all_goals
    go_enter Try.func24, Try.ntmps24
    go_wp2_with fail
    refine (unhide HU).mono ?_
    rintro r w1 ⟨rfl, rfl⟩
    go_wp2_with fail
    refine (unhide HL).mono ?_
    rintro r w1 ⟨rfl, rfl⟩
    go_wp2_with fail
    refine (unhide HE).mono ?_
    rintro r w1 ⟨rfl, rfl⟩
    go_wp2
    go_ret
    exact ⟨rfl, rfl⟩

def SPost (g : SGot) (b : Nat) (w : World) (r : Ending) (w' : World) : Prop :=
  r = .returned (.string ⟨g.out.toArray⟩) ∧ Pd w' b ⟨g.rest.toArray⟩ (g.err : Int) ∧ w.grownBy w' (some b)

set_option maxHeartbeats 2000000 in
set_option maxRecDepth 100000 in
theorem strR_ok (b : Nat) (l : List UInt8) (most : Int) (w : World) (h : Pd w b ⟨l.toArray⟩ 0) (hz : l.length ≤ 1048576) (m0 : -9223372036854775808 ≤ most) (m1 : most ≤ 9223372036854775807) :
    Calls Try.prog 24 #[.pointer (some ⟨b, 0, none⟩), .int .i64 most] w fun r w' => SPost (strL most l) b w r w' := by
  have HU := hide (uintR_ok b l w h hz)
  have her := hide (dec_err_rest l true 0)
  have hrl : (decL true 0 l).rest.length ≤ 1048576 := Nat.le_trans (dec_rest_le l true 0) hz
  unfold strL
  generalize decL true 0 l = G at *
  clear h hz
  obtain ⟨ge, gn, gr⟩ := G
  dsimp only at *
  by_cases he : ge ≠ 0
  · obtain ⟨hn, hr⟩ := her.out he
    subst hn; subst hr
    rw [if_pos he]
    have eb : ((ge : Int) == 0) = false := beq_eq_false_iff_ne.2 (by omega)
    have eb2 : ((ge : Int) != 0) = true := by rw [bne_iff_ne]; omega
    clear he her
    rcases Int.lt_or_le most 0 with hm | hm
    all_goals
      go_enter Try.func24, Try.ntmps24
      go_wp2_with fail
      refine (unhide HU).mono ?_
      rintro r w1 ⟨rfl, gb, gR, gw⟩
      have HL := hide (left_any b ⟨#[]⟩ _ w1 gR (by simp [ByteArray.size]))
      have HE := hide (err_any b ⟨#[]⟩ _ w1 gR)
      have HR := hide gR
      have HW := hide gw
      clear gb gR gw
      go_wp2_with fail
      refine (unhide HL).mono ?_
      rintro r w2 ⟨rfl, rfl⟩
      go_wp2_with fail
      refine (unhide HE).mono ?_
      rintro r w2 ⟨rfl, rfl⟩
      go_wp2
      go_ret
      exact ⟨rfl, HR.out, HW.out⟩
  · have he0 : ge = 0 := by omega
    subst he0
    rw [if_neg he]
    clear he her
    obtain ⟨N, hN⟩ : ∃ N : Int, N = (gn : Int) := ⟨_, rfl⟩
    have n0 : 0 ≤ N := by omega
    by_cases hl : max most 0 < (gn : Int)
    · rw [if_pos hl]
      have hl1 : most < N := by omega
      have hl2 : 0 < N := by omega
      have HN := hide hN
      clear hl hN
      rcases Int.lt_or_le most 0 with hm | hm
      all_goals
        go_enter Try.func24, Try.ntmps24
        go_wp2_with fail
        refine (unhide HU).mono ?_
        rintro r w1 ⟨rfl, gb, gR, gw⟩
        dsimp only at gb gR ⊢
        have n1 : N < 18446744073709551616 := by have := HN.out; omega
        rw [← HN.out]
        have HF := hide (fail_ok b _ 9 w1 gR (by omega))
        have HW := hide gw
        clear gb gR gw
        go_wp2_with fail
        refine (unhide HF).mono ?_
        rintro r w2 ⟨⟨v, rfl⟩, hR2, hg2⟩
        have HE := hide (err_any b _ _ w2 hR2)
        have HR2 := hide hR2
        have HW2 := hide (grown_trans HW.out hg2)
        clear hR2 hg2
        go_wp2_with fail
        refine (unhide HE).mono ?_
        rintro r w2 ⟨rfl, rfl⟩
        go_wp2
        go_ret
        exact ⟨rfl, HR2.out, HW2.out⟩
    · rw [if_neg hl]
      have hl1 : N ≤ max most 0 := by omega
      by_cases hr : gr.length < gn
      · rw [if_pos hr]
        have hr1 : (gr.length : Int) < N := by omega
        have hsz := mk_size gr
        have hm : 0 ≤ most := by omega
        have hl2 : N ≤ most := by omega
        have HN := hide hN
        clear hl hN hl1 hr
        obtain ⟨S, hS⟩ : ∃ S : ByteArray, S = ⟨gr.toArray⟩ := ⟨_, rfl⟩
        rw [← hS] at hsz
        have hs1 : (S.size : Int) < N := by omega
        have hs2 : S.size ≤ 1048576 := by omega
        have HS := hide hS
        clear hS hsz hr1 hrl
        go_enter Try.func24, Try.ntmps24
        go_wp2_with fail
        refine (unhide HU).mono ?_
        rintro r w1 ⟨rfl, gb, gR, gw⟩
        dsimp only at gb gR ⊢
        have n1 : N < 18446744073709551616 := by have := HN.out; omega
        rw [← HN.out]
        rw [← HS.out] at gR
        have HL := hide (left_any b S _ w1 gR hs2)
        have HF := hide (fail_ok b S 3 w1 gR (by omega))
        have HW := hide gw
        clear gb gR gw
        go_wp2_with fail
        refine (unhide HL).mono ?_
        rintro r w2 ⟨rfl, rfl⟩
        go_wp2_with fail
        refine (unhide HF).mono ?_
        rintro r w2 ⟨⟨v, rfl⟩, hR2, hg2⟩
        have HE := hide (err_any b _ _ w2 hR2)
        have HR2 := hide hR2
        have HW2 := hide (grown_trans HW.out hg2)
        clear hR2 hg2
        go_wp2_with fail
        refine (unhide HE).mono ?_
        rintro r w2 ⟨rfl, rfl⟩
        go_wp2
        go_ret
        exact ⟨rfl, HR2.out, HW2.out⟩
      · rw [if_neg hr]
        have hsz := mk_size gr
        obtain ⟨S, hS⟩ : ∃ S : ByteArray, S = ⟨gr.toArray⟩ := ⟨_, rfl⟩
        rw [← hS] at hsz
        have hs1 : N ≤ (S.size : Int) := by omega
        have hs2 : S.size ≤ 1048576 := by omega
        have hN8 : N ≤ 1048576 := by omega
        have HX : Hid (S.extract 0 N.toNat = ⟨(gr.take gn).toArray⟩) := hide (by
          rw [hS, show N.toNat = gn by omega]
          apply ByteArray.ext
          rw [ByteArray.data_extract]
          simp)
        have HY : Hid (S.extract N.toNat S.size = ⟨(gr.drop gn).toArray⟩) := hide (by
          rw [hsz, hS, show N.toNat = gn by omega]
          apply ByteArray.ext
          rw [ByteArray.data_extract]
          simp
          exact List.take_of_length_le (by simp))
        have hx : (S.extract 0 N.toNat).size ≤ 1048576 := by rw [ByteArray.size_extract]; omega
        have HN := hide hN
        have HS := hide hS
        clear hl hN hr hS hsz hrl
        have hcl : ∀ W, Hid (Calls Try.prog 32 #[.string (S.extract 0 N.toNat)] W fun r w' => r = .returned (.string (S.extract 0 N.toNat)) ∧ Below W.heap.size W w') := fun W => hide (clone_any _ W hx)
        clear hx
        rcases Int.lt_or_le most 0 with hm | hm
        all_goals
          have hl2 : N ≤ 0 ∨ N ≤ most := by omega
          go_enter Try.func24, Try.ntmps24
          go_wp2_with fail
          refine (unhide HU).mono ?_
          rintro r w1 ⟨rfl, gb, gR, gw⟩
          dsimp only at gb gR ⊢
          have n1 : N < 18446744073709551616 := by have := HN.out; omega
          rw [← HN.out]
          rw [← HS.out] at gR
          have HL := hide (left_any b S _ w1 gR hs2)
          have HE := hide (err_any b _ _ w1 gR)
          have HR := hide gR
          have HW := hide gw
          obtain ⟨c0, c1, f0, f1⟩ := gR.cells
          clear gb gR gw
          go_wp2_with fail
          refine (unhide HL).mono ?_
          rintro r w2 ⟨rfl, rfl⟩
          go_wp2_with fail
          refine (unhide HE).mono ?_
          rintro r w2 ⟨rfl, rfl⟩
          go_wp2_with fail
          refine (unhide (hcl _)).mono ?_
          rintro r w3 ⟨rfl, hb3⟩
          have HR3 := hide (HR.out.on hb3)
          have HW3 := hide (grown_below HW.out hb3)
          clear hb3 c0 c1 f0 f1
          obtain ⟨c0, c1, f0, f1⟩ := HR3.out.cells
          go_wp2
          go_ret
          refine ⟨ret_str HX.out, ?_, grown_setCell HW3.out _ _⟩
          rw [HY.out]
          exact HR3.out.go _
end Go.Proofs.Ytbiahajpmnfhbaa
