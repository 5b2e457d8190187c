/-
  The walk of the reference's quoted.
-/
import Derived.Test.YthiffpdioclnlaaDoorRK
import Derived.Test.YthiffpdioclnlaaDoorLO
import Derived.Test.YthiffpdioclnlaaDoorLQ
set_option linter.unusedSimpArgs false
set_option linter.unusedVariables false
namespace Go.Proofs.YthiffpdioclnlaaDoor
open Go.RowKit

theorem cut_take (s : ByteArray) (k : Nat) (hk : k < s.size) : (s.extract 0 (k + 1)).toList = s.data.toList.take (k + 1) := by
  rw [ByteArray.toList_eq, Lib.extract_data]; simp
theorem quote_beq (acc : List UInt8) (s : ByteArray) (k : Nat) (hk : k < s.size) : ((⟨(quoteL acc).toArray⟩ : ByteArray).toList = (s.extract 0 (k + 1)).toList) ↔ quoteL acc = s.data.toList.take (k + 1) := by
  rw [cut_take s k hk, ByteArray.toList_eq]

set_option maxHeartbeats 2000000 in
set_option maxRecDepth 100000 in
theorem quoted_any (s : ByteArray) (w : World) (h0 : 0 < s.size) (hs : s.size ≤ 1000) :
    Calls Tryd.prog 33 #[.string s] w fun e w' => e = .returned (retQ (qdL s.data.toList)) ∧ Below w.heap.size w w' := by
  go_enter Tryd.func33, Tryd.ntmps33
  go_wp2
  have hO0 : Hid (Own (w.alloc (.cells #[] 5)) w.heap.size (.slice (some ⟨w.heap.size, 0, none⟩) 0 0) []) := hide (own_new w #[] [] rfl (by simp))
  have hB0 : Hid (Below w.heap.size w (w.alloc (.cells #[] 5))) := hide ((Below.refl _ _).alloc (Nat.le_refl _) _)
  go_loopw [5, 6] (fun v i wr => ∃ (k g n cap : Nat) (acc : List UInt8), 1 ≤ k ∧ k ≤ s.size ∧ i = .int .i64 k ∧ v = .slice (some ⟨g, 0, none⟩) n cap ∧ n ≤ k ∧ Hid (n = acc.length) ∧ Hid (Own wr w.heap.size (.slice (some ⟨g, 0, none⟩) n cap) acc) ∧ Hid (Rq s acc k) ∧ Hid (Below w.heap.size w wr)) (fun _ i _ => s.size - (intOf i).toNat)
  case atStart => exact ⟨1, w.heap.size, 0, 0, [], by omega, by omega, rfl, rfl, by omega, rfl, hO0, rq_start s, hB0⟩
  case round =>
    obtain ⟨k, g, n, cap, acc, hk1, hk, rfl, rfl, hnk, hn, hO, hR, hB⟩ := hrel
    clear hO0 hB0
    have hsz : w.heap.size ≤ wr.heap.size := hB.out.size
    by_cases hlt : k < s.size
    · by_cases hq : s[k].toNat = 39
      · have hqb : ((s[k].toNat : Int) == 39) = true := by rw [hq]; rfl
        have E := hide (qd_some s acc k (rq_quote s acc k hR.out hlt hq) hlt)
        have hcv := conv_own hO.out
        have X := fun (d : Nat) (os : Array Obj) => hide (Calls.regrown_of (refQuote_acc acc (Sort.grow (redrawn wr d) os) (by have := hn.out; omega)))
        have hTs := hide (show ((⟨acc.toArray⟩ : ByteArray).size) = acc.length by rw [Lib.size_eq])
        have hQs := hide (show ((⟨(quoteL acc).toArray⟩ : ByteArray).size) = (quoteL acc).length by rw [Lib.size_eq])
        have hbe := hide (quote_beq acc s k hlt)
        have hwk : IntKind.i64.wrap ((k : Int) + 1) = (k : Int) + 1 := by rw [IntKind.wrap_i64]; omega
        have hsl : ∀ W, (Instr.slice 9 (.string s) none (some (.int .i64 ((k : Int) + 1))) none).run Tryd.prog W = .ok (.string (s.extract 0 (k + 1))) W := fun W => by
          rw [run_slice_string_h (ht := Tryd.underlying9) (h0 := by omega) (h2 := by omega)]; rfl
        have HT : Hid (retQ (some (acc, k + 1)) = .tuple #[.string ⟨acc.toArray⟩, .int .i64 ((k + 1 : Nat) : Int), .bool true]) := hide rfl
        generalize (⟨acc.toArray⟩ : ByteArray) = T at *
        generalize (⟨(quoteL acc).toArray⟩ : ByteArray) = QT at *
        have hT8 : T.size ≤ 1000 := by have := hTs.out; have := hn.out; omega
        have hQ8 : QT.size ≤ 3002 := by have := hTs.out; have := hn.out; have := hQs.out; have := quoteL_len acc; omega
        clear hq hR hO
        by_cases c8 : 8 < (T.size : Int)
        · have E2 := hide (E.out.trans (if_neg (fun h => by have := h.1; have := hTs.out; omega)))
          clear E hbe HT
          go_wp2
          refine wp_region_quiet_below mixed (by kernel_rfl) ?_
          repeat (first | go_big_quiet_step ((exact unhide (X _ _))) | quiet_step ((exact unhide (X _ _))))
          refine wpQuiet_nil ?_
          intro _ hw'
          obtain ⟨⟨dq, osq⟩, hw''⟩ := hw'
          subst hw''
          go_wp2
          refine bodyPost_ret (v := retQ none) (by simp [results, Tryd.results33, go_sem, retQ]) rfl ⟨by rw [E2.out], hB.out.trans ((below_regrown wr dq osq).mono hsz)⟩
        by_cases c9 : (QT.size : Int) < (k : Int) + 1
        · have E2 := hide (E.out.trans (if_neg (fun h => by have := congrArg List.length h.2; rw [List.length_take, ← Lib.size_eq, ← hQs.out] at this; omega)))
          clear E hbe HT
          go_wp2
          refine wp_region_quiet_below mixed (by kernel_rfl) ?_
          repeat (first | go_big_quiet_step ((exact unhide (X _ _))) | quiet_step ((exact unhide (X _ _))))
          refine wpQuiet_nil ?_
          intro _ hw'
          obtain ⟨⟨dq, osq⟩, hw''⟩ := hw'
          subst hw''
          go_wp2
          refine bodyPost_ret (v := retQ none) (by simp [results, Tryd.results33, go_sem, retQ]) rfl ⟨by rw [E2.out], hB.out.trans ((below_regrown wr dq osq).mono hsz)⟩
        by_cases ce : QT.toList = (s.extract 0 (k + 1)).toList
        · have E2 := hide (E.out.trans (if_pos ⟨by have := hTs.out; omega, hbe.out.1 ce⟩))
          have ceb : (QT.toList == (s.extract 0 (k + 1)).toList) = true := beq_iff_eq.2 ce
          clear E hbe ce
          go_wp2
          refine wp_region_quiet_below mixed (by kernel_rfl) ?_
          repeat (first | go_big_quiet_step ((exact unhide (X _ _))) | quiet_step ((exact unhide (X _ _))))
          refine wpQuiet_nil ?_
          intro _ hw'
          obtain ⟨⟨dq, osq⟩, hw''⟩ := hw'
          subst hw''
          go_wp2
          refine bodyPost_ret (v := retQ (some (acc, k + 1))) (by rw [HT.out]; simp [results, Tryd.results33, go_sem]) rfl ⟨by rw [E2.out], hB.out.trans ((below_regrown wr dq osq).mono hsz)⟩
        · have E2 := hide (E.out.trans (if_neg (fun h => ce (hbe.out.2 h.2))))
          have ceb : (QT.toList == (s.extract 0 (k + 1)).toList) = false := beq_eq_false_iff_ne.2 ce
          clear E hbe ce HT
          go_wp2
          refine wp_region_quiet_below mixed (by kernel_rfl) ?_
          repeat (first | go_big_quiet_step ((exact unhide (X _ _))) | quiet_step ((exact unhide (X _ _))))
          refine wpQuiet_nil ?_
          intro _ hw'
          obtain ⟨⟨dq, osq⟩, hw''⟩ := hw'
          subst hw''
          go_wp2
          refine bodyPost_ret (v := retQ none) (by simp [results, Tryd.results33, go_sem, retQ]) rfl ⟨by rw [E2.out], hB.out.trans ((below_regrown wr dq osq).mono hsz)⟩
      · have hqb : ((s[k].toNat : Int) == 39) = false := beq_eq_false_iff_ne.2 (by omega)
        have hnl : acc.length ≤ 1000 := by have := hn.out; omega
        by_cases h9 : s[k].toNat = 92
        · have h9b : ((s[k].toNat : Int) == 92) = true := by rw [h9]; rfl
          by_cases h2 : k + 2 < s.size
          · have g1 : (k : Int) + 1 < (s.size : Int) := by omega
            have g2 : (k : Int) + 2 < (s.size : Int) := by omega
            have i1 : ∀ W, (Instr.index 9 (.string s) (.int .i64 ((k : Int) + 1))).run Tryd.prog W = .ok (.int .u8 (s[k + 1].toNat : Int)) W := fun W => by
              rw [run_index_string (h := Tryd.underlying9), dif_pos (by omega)]; rfl
            have i2 : ∀ W, (Instr.index 9 (.string s) (.int .i64 ((k : Int) + 2))).run Tryd.prog W = .ok (.int .u8 (s[k + 2].toNat : Int)) W := fun W => by
              rw [run_index_string (h := Tryd.underlying9), dif_pos (by omega)]; rfl
            have hw1 : IntKind.i64.wrap ((k : Int) + 1) = (k : Int) + 1 := by rw [IntKind.wrap_i64]; omega
            have hw2 : IntKind.i64.wrap ((k : Int) + 2) = (k : Int) + 2 := by rw [IntKind.wrap_i64]; omega
            have b1 := hexI_bd s[k + 1]
            have b2 := hexI_bd s[k + 2]
            by_cases x1 : hexI s[k + 1] < 0
            · have E := hide (qd_none s (rq_hex1 s acc k hR.out h2 h9 x1))
              clear hq h9
              go_wp2_with (go_at_call 41; refine (refHex_any _ _).mono ?_; rintro e w' ⟨rfl, rfl⟩)
              refine bodyPost_ret (v := retQ none) (by simp [results, Tryd.results33, go_sem, retQ]) rfl ⟨by rw [E.out], hB.out⟩
            by_cases x2 : hexI s[k + 2] < 0
            · have E := hide (qd_none s (rq_hex2 s acc k hR.out h2 h9 x1 x2))
              clear hq h9
              go_wp2_with (go_at_call 41; refine (refHex_any _ _).mono ?_; rintro e w' ⟨rfl, rfl⟩)
              refine bodyPost_ret (v := retQ none) (by simp [results, Tryd.results33, go_sem, retQ]) rfl ⟨by rw [E.out], hB.out⟩
            have hR2 := hide (rq_esc s acc k hR.out h2 h9 x1 x2)
            have hv := hx_val s[k + 1] s[k + 2] (by omega) (by omega)
            have hw8 : IntKind.u8.wrap ((16 : Int) * hexI s[k + 1] + hexI s[k + 2]) = ((hx s[k + 1] s[k + 2]).toNat : Int) := by rw [IntKind.wrap_u8]; omega
            have hm1 : IntKind.i64.wrap ((16 : Int) * hexI s[k + 1]) = (16 : Int) * hexI s[k + 1] := by rw [IntKind.wrap_i64]; omega
            have hm2 : IntKind.i64.wrap ((16 : Int) * hexI s[k + 1] + hexI s[k + 2]) = (16 : Int) * hexI s[k + 1] + hexI s[k + 2] := by rw [IntKind.wrap_i64]; omega
            generalize hx s[k + 1] s[k + 2] = c at *
            clear hq h9 hv
            go_wp2_with (go_at_call 41; refine (refHex_any _ _).mono ?_; rintro e w' ⟨rfl, rfl⟩)
            go_region_law ((first | (refine step_hex _ rfl _ rfl _ rfl ?_) | (refine step_app _ rfl _ _ rfl w.heap.size _ acc rfl (by exact (hO.out.alloc _).drew) _ 1 1 _ [c] rfl (by omega) rfl (by exact heap_top _ _) rfl (by omega) (by simp; omega) ?_; intro v2 w2 hO2 hb2)))
            all_goals
              obtain ⟨g2, n2, cap2, rfl⟩ := own_form hO2 (by simp)
              have hn2 := own_len hO2
              have hn2' : n2 = n + 1 := by rw [hn2, List.length_append, ← hn.out]; rfl
              have Hn2 := hide hn2
              have hn28 : n2 ≤ k + 3 := by omega
              have HO2 := hide hO2
              have HB2 := hide ((hB.out.alloc hsz _).drew.trans hb2)
              clear hn2 hn2' hO2 hb2
              go_wp2
              exact ⟨⟨k + 3, g2, n2, cap2, acc ++ [c], by omega, by omega, by go_num, rfl, hn28, Hn2, HO2, hR2, HB2⟩, by simp [intOf]; omega⟩
          · have E := hide (qd_none s (rq_short s acc k hR.out hlt h9 (by omega)))
            have g2 : (s.size : Int) ≤ (k : Int) + 2 := by omega
            clear hq h9
            go_wp2
            refine bodyPost_ret (v := retQ none) (by simp [results, Tryd.results33, go_sem, retQ]) rfl ⟨by rw [E.out], hB.out⟩
        · have h9b : ((s[k].toNat : Int) == 92) = false := beq_eq_false_iff_ne.2 (by omega)
          have hR2 := hide (rq_plain s acc k hR.out hlt hq h9)
          have hl8 : acc.length + 1 ≤ 1001 := by omega
          clear hq h9
          go_wp2_with (at_builtin; refine wpList_app _ rfl _ _ rfl w.heap.size _ acc rfl (hO.out.alloc _) _ 1 1 _ [s[k]] rfl rfl (heap_top _ _) rfl (by omega) (by simp; omega) ?_; intro v2 w2 hO2 hb2; refine Hid.out ?_)
          refine hide ?_
          obtain ⟨g2, n2, cap2, rfl⟩ := own_form hO2 (by simp)
          have hn2 := own_len hO2
          have hn2' : n2 = n + 1 := by rw [hn2, List.length_append, ← hn.out]; rfl
          have Hn2 := hide hn2
          have hn28 : n2 ≤ k + 1 := by omega
          have HO2 := hide hO2
          have HB2 := hide ((hB.out.alloc hsz _).trans hb2)
          clear hn2 hn2' hO2 hb2
          go_wp2
          exact ⟨⟨k + 1, g2, n2, cap2, acc ++ [s[k]], by omega, by omega, by go_num, rfl, hn28, Hn2, HO2, hR2, HB2⟩, by simp [intOf]; omega⟩
    · have E := hide (qd_none s (rq_end s acc k hR.out (by omega)))
      go_wp2
      refine bodyPost_ret (v := retQ none) (by simp [results, Tryd.results33, go_sem, retQ]) rfl ⟨by rw [E.out], hB.out⟩
end Go.Proofs.YthiffpdioclnlaaDoor
