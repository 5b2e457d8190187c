/-
  The walk of the law ValueBack.
-/
import Derived.Test.YthiffpdioclnlaaDoorLB
import Derived.Test.YthiffpdioclnlaaDoorPN
set_option linter.unusedSimpArgs false
set_option linter.unusedVariables false
namespace Go.Proofs.YthiffpdioclnlaaDoor
open Go.RowKit

theorem itoa_len (n : Int) (h0 : -9223372036854775808 ≤ n) (h1 : n ≤ 9223372036854775807) : (Lib.itoa n).length ≤ 21 := Lib.itoa_length_le n h0 h1
theorem text_len (k n : Int) (s : ByteArray) (h0 : -9223372036854775808 ≤ n) (h1 : n ≤ 9223372036854775807) (hr : rightB k n s = true) : (textL k n s).length ≤ 26 := by
  have h8 := right_small hr
  unfold textL
  rw [if_pos hr]
  split
  · have := itoa_len n h0 h1; omega
  · split
    · have := (qBytes_len s.data.toList).2
      rw [← Lib.size_eq] at this
      simp [quoteL]; omega
    · simp

theorem empty_data {s : ByteArray} (h : s.toList.isEmpty = true) : s.data.toList = [] := by
  rw [List.isEmpty_iff, ByteArray.toList_eq] at h; exact h

/-- THE STAGE's THEOREM, in plain words. -/
theorem back_plain (k n : Int) (s : ByteArray) (m : List UInt8) (h0 : -9223372036854775808 ≤ n) (h1 : n ≤ 9223372036854775807) (hr : rightB k n s = true) (hm : m = [] ∨ isDig (m.getD 0 0) = false) :
    readL (textL k n s ++ m) = some (k, n, s.data.toList, (textL k n s).length) := by
  have h8 := right_small hr
  unfold textL
  rw [if_pos hr]
  unfold rightB at hr
  by_cases k0 : k = 0
  · subst k0
    simp at hr
    have e := empty_data (s := s) (by simp [hr.2])
    rw [if_neg (by decide), if_neg (by decide), hr.1, e]
    exact read_absent m hm
  · rw [if_neg k0] at hr
    by_cases k1 : k = 1
    · subst k1
      rw [if_pos rfl] at hr
      rw [if_pos rfl, empty_data hr]
      exact read_itoa n m h0 h1 hm
    · rw [if_neg k1] at hr
      by_cases k2 : k = 2
      · subst k2
        simp at hr
        rw [if_neg (by decide), if_pos rfl, hr.1]
        exact read_quoted _ m (by rw [← Lib.size_eq]; omega)
      · rw [if_neg k2] at hr; cases hr

theorem append_data (a b : ByteArray) : (a ++ b).data.toList = a.data.toList ++ b.data.toList := by
  rw [ByteArray.data_append, Array.toList_append]

theorem read_back (k n : Int) (s more : ByteArray) (h0 : -9223372036854775808 ≤ n) (h1 : n ≤ 9223372036854775807) (hr : rightB k n s = true) (hz : more.size ≤ 200) (hm : more.data.toList = [] ∨ isDig (more.data.toList.getD 0 0) = false) (W : World) (hE : Env W) :
    Calls Tryd.prog 20 #[.string (⟨(textL k n s).toArray⟩ ++ more)] W fun e w' => e = .returned (.tuple #[.agg #[.int .i64 k, .int .i64 n, .string s], .int .i64 ((textL k n s).length : Nat), .bool true]) ∧ Below W.heap.size W w' := by
  have hl := text_len k n s h0 h1 hr
  have hd : ((⟨(textL k n s).toArray⟩ : ByteArray) ++ more).data.toList = textL k n s ++ more.data.toList := by rw [append_data]
  have hsz : ((⟨(textL k n s).toArray⟩ : ByteArray) ++ more).size ≤ 1048576 := by rw [Lib.size_eq, hd, List.length_append, ← Lib.size_eq]; omega
  have h := read_any ((⟨(textL k n s).toArray⟩ : ByteArray) ++ more) W hE hsz
  rw [hd, back_plain k n s _ h0 h1 hr hm] at h
  unfold retR at h
  simp only [Lib.mk_data] at h
  exact h

theorem not_digit (m : ByteArray) (h0 : 0 < m.size) (h : (m[0].toNat : Int) < 48 ∨ 57 < (m[0].toNat : Int)) : m.data.toList = [] ∨ isDig (m.data.toList.getD 0 0) = false := Or.inr (notDig m 0 h0 h)
theorem no_more (m : ByteArray) (h : ¬ 0 < m.size) : m.data.toList = [] ∨ isDig (m.data.toList.getD 0 0) = false := Or.inl (by
  have : m.data.toList.length = 0 := by rw [← Lib.size_eq]; omega
  exact List.length_eq_zero_iff.1 this)

set_option maxHeartbeats 2000000 in
set_option maxRecDepth 100000 in
theorem law_back (k n : Int) (s more : ByteArray) (w : World) (hE : Env w) (n0 : -9223372036854775808 ≤ n) (n1 : n ≤ 9223372036854775807) (hs : s.size ≤ maxLen) :
    Calls Tryd.prog 5 #[.agg #[.int .i64 k, .int .i64 n, .string s], .string more] w fun e w' => e = .returned (.bool true) ∧ Below w.heap.size w w' := by
  have HAW := fun (W : World) (h : Env W) => hide (awake_any W h)
  have HR := fun (W : World) => hide (right_any k n s W hs)
  have HE := hide (hE.alloc (.cells #[.int .i64 k, .int .i64 n, .string s] 23))
  have HB := hide ((Below.refl w.heap.size w).alloc (Nat.le_refl _) (.cells #[.int .i64 k, .int .i64 n, .string s] 23))
  have HV := hide (heap_new w (.cells #[.int .i64 k, .int .i64 n, .string s] 23))
  have HT := fun (W : World) (h : Env W) => hide (text_any k n s W h n0 n1 hs)
  clear hE
  cases hr : rightB k n s
  · rw [hr] at HR
    clear HT
    go_enter Tryd.func5, Tryd.ntmps5
    go_wp2_with fail
    refine (unhide (HAW _ HE.out)).mono ?_
    rintro e w1 ⟨rfl, hb1⟩
    have HV1 := hide ((hb1.block _ (by simp)).trans HV.out)
    have HE1 := hide (HE.out.on hb1)
    have HB1 := hide (HB.out.trans (hb1.mono HB.out.size))
    have c0 := cell_heap HV1.out 0
    have c1 := cell_heap HV1.out 1
    have c2 := cell_heap HV1.out 2
    simp at c0 c1 c2
    clear hb1
    go_wp2_with fail
    refine (unhide (HR _)).mono ?_
    rintro e w2 ⟨rfl, hb2⟩
    have HV2 := hide ((hb2.block _ (lt_heap HV1.out)).trans HV1.out)
    have HE2 := hide (HE1.out.on hb2)
    have HB2 := hide (HB1.out.trans (hb2.mono HB1.out.size))
    clear hb2 c0 c1 c2 HB1 HE1 HV1
    go_wp2_with fail
    refine (unhide (HAW _ HE2.out)).mono ?_
    rintro e w9 ⟨rfl, hb9⟩
    have HB9 := hide (HB2.out.trans (hb9.mono HB2.out.size))
    clear hb9
    go_wp2
    go_ret
    exact ⟨rfl, HB9.out⟩
  have hlen := text_len k n s n0 n1 hr
  by_cases h200 : (200 : Int) < (more.size : Int)
  · rw [hr] at HR
    clear HT
    go_enter Tryd.func5, Tryd.ntmps5
    go_wp2_with fail
    refine (unhide (HAW _ HE.out)).mono ?_
    rintro e w1 ⟨rfl, hb1⟩
    have HV1 := hide ((hb1.block _ (by simp)).trans HV.out)
    have HE1 := hide (HE.out.on hb1)
    have HB1 := hide (HB.out.trans (hb1.mono HB.out.size))
    have c0 := cell_heap HV1.out 0
    have c1 := cell_heap HV1.out 1
    have c2 := cell_heap HV1.out 2
    simp at c0 c1 c2
    clear hb1
    go_wp2_with fail
    refine (unhide (HR _)).mono ?_
    rintro e w2 ⟨rfl, hb2⟩
    have HV2 := hide ((hb2.block _ (lt_heap HV1.out)).trans HV1.out)
    have HE2 := hide (HE1.out.on hb2)
    have HB2 := hide (HB1.out.trans (hb2.mono HB1.out.size))
    clear hb2 c0 c1 c2 HB1 HE1 HV1
    go_wp2_with fail
    refine (unhide (HAW _ HE2.out)).mono ?_
    rintro e w9 ⟨rfl, hb9⟩
    have HB9 := hide (HB2.out.trans (hb9.mono HB2.out.size))
    clear hb9
    go_wp2
    go_ret
    exact ⟨rfl, HB9.out⟩
  have hz200 : more.size ≤ 200 := by omega
  by_cases hz : 0 < more.size
  · have hz' : (0 : Int) < (more.size : Int) := by omega
    by_cases d48 : (48 : Int) ≤ (more[0].toNat : Int)
    · by_cases d57 : (more[0].toNat : Int) ≤ 57
      · rw [hr] at HR
        clear HT
        go_enter Tryd.func5, Tryd.ntmps5
        go_wp2_with fail
        refine (unhide (HAW _ HE.out)).mono ?_
        rintro e w1 ⟨rfl, hb1⟩
        have HV1 := hide ((hb1.block _ (by simp)).trans HV.out)
        have HE1 := hide (HE.out.on hb1)
        have HB1 := hide (HB.out.trans (hb1.mono HB.out.size))
        have c0 := cell_heap HV1.out 0
        have c1 := cell_heap HV1.out 1
        have c2 := cell_heap HV1.out 2
        simp at c0 c1 c2
        clear hb1
        go_wp2_with fail
        refine (unhide (HR _)).mono ?_
        rintro e w2 ⟨rfl, hb2⟩
        have HV2 := hide ((hb2.block _ (lt_heap HV1.out)).trans HV1.out)
        have HE2 := hide (HE1.out.on hb2)
        have HB2 := hide (HB1.out.trans (hb2.mono HB1.out.size))
        clear hb2 c0 c1 c2 HB1 HE1 HV1
        go_wp2_with fail
        refine (unhide (HAW _ HE2.out)).mono ?_
        rintro e w9 ⟨rfl, hb9⟩
        have HB9 := hide (HB2.out.trans (hb9.mono HB2.out.size))
        clear hb9
        go_wp2
        go_ret
        exact ⟨rfl, HB9.out⟩
      · have HD := fun (W : World) (h : Env W) => hide (read_back k n s more n0 n1 hr hz200 (not_digit more hz (Or.inr (by omega))) W h)
        rw [hr] at HR
        clear hr
        generalize textL k n s = T at *
        go_enter Tryd.func5, Tryd.ntmps5
        go_wp2_with fail
        refine (unhide (HAW _ HE.out)).mono ?_
        rintro e w1 ⟨rfl, hb1⟩
        have HV1 := hide ((hb1.block _ (by simp)).trans HV.out)
        have HE1 := hide (HE.out.on hb1)
        have HB1 := hide (HB.out.trans (hb1.mono HB.out.size))
        have c0 := cell_heap HV1.out 0
        have c1 := cell_heap HV1.out 1
        have c2 := cell_heap HV1.out 2
        simp at c0 c1 c2
        clear hb1
        go_wp2_with fail
        refine (unhide (HR _)).mono ?_
        rintro e w2 ⟨rfl, hb2⟩
        have HV2 := hide ((hb2.block _ (lt_heap HV1.out)).trans HV1.out)
        have HE2 := hide (HE1.out.on hb2)
        have HB2 := hide (HB1.out.trans (hb2.mono HB1.out.size))
        clear hb2 c0 c1 c2 HB1 HE1 HV1
        have d0 := cell_heap HV2.out 0
        have d1 := cell_heap HV2.out 1
        have d2 := cell_heap HV2.out 2
        simp at d0 d1 d2
        go_wp2_with fail
        refine (unhide (HT _ HE2.out)).mono ?_
        rintro e w3 ⟨rfl, hb3⟩
        have HV3 := hide ((hb3.block _ (lt_heap HV2.out)).trans HV2.out)
        have HE3 := hide (HE2.out.on hb3)
        have HB3 := hide (HB2.out.trans (hb3.mono HB2.out.size))
        clear hb3 HB2 HE2 HV2 d0 d1 d2
        go_wp2_with fail
        refine (unhide (HD _ HE3.out)).mono ?_
        rintro e w4 ⟨rfl, hb4⟩
        have HV4 := (hb4.block _ (lt_heap HV3.out)).trans HV3.out
        have HB4 := hide (HB3.out.trans (hb4.mono HB3.out.size))
        have hlt := lt_heap HV4
        have d0 := cell_heap HV4 0
        have d1 := cell_heap HV4 1
        have d2 := cell_heap HV4 2
        simp at d0 d1 d2
        clear hb4 HV4
        go_wp2
        go_ret
        exact ⟨ret_bool (by simp), HB4.out.alloc HB4.out.size _⟩
    · have HD := fun (W : World) (h : Env W) => hide (read_back k n s more n0 n1 hr hz200 (not_digit more hz (Or.inl (by omega))) W h)
      rw [hr] at HR
      clear hr
      generalize textL k n s = T at *
      go_enter Tryd.func5, Tryd.ntmps5
      go_wp2_with fail
      refine (unhide (HAW _ HE.out)).mono ?_
      rintro e w1 ⟨rfl, hb1⟩
      have HV1 := hide ((hb1.block _ (by simp)).trans HV.out)
      have HE1 := hide (HE.out.on hb1)
      have HB1 := hide (HB.out.trans (hb1.mono HB.out.size))
      have c0 := cell_heap HV1.out 0
      have c1 := cell_heap HV1.out 1
      have c2 := cell_heap HV1.out 2
      simp at c0 c1 c2
      clear hb1
      go_wp2_with fail
      refine (unhide (HR _)).mono ?_
      rintro e w2 ⟨rfl, hb2⟩
      have HV2 := hide ((hb2.block _ (lt_heap HV1.out)).trans HV1.out)
      have HE2 := hide (HE1.out.on hb2)
      have HB2 := hide (HB1.out.trans (hb2.mono HB1.out.size))
      clear hb2 c0 c1 c2 HB1 HE1 HV1
      have d0 := cell_heap HV2.out 0
      have d1 := cell_heap HV2.out 1
      have d2 := cell_heap HV2.out 2
      simp at d0 d1 d2
      go_wp2_with fail
      refine (unhide (HT _ HE2.out)).mono ?_
      rintro e w3 ⟨rfl, hb3⟩
      have HV3 := hide ((hb3.block _ (lt_heap HV2.out)).trans HV2.out)
      have HE3 := hide (HE2.out.on hb3)
      have HB3 := hide (HB2.out.trans (hb3.mono HB2.out.size))
      clear hb3 HB2 HE2 HV2 d0 d1 d2
      go_wp2_with fail
      refine (unhide (HD _ HE3.out)).mono ?_
      rintro e w4 ⟨rfl, hb4⟩
      have HV4 := (hb4.block _ (lt_heap HV3.out)).trans HV3.out
      have HB4 := hide (HB3.out.trans (hb4.mono HB3.out.size))
      have hlt := lt_heap HV4
      have d0 := cell_heap HV4 0
      have d1 := cell_heap HV4 1
      have d2 := cell_heap HV4 2
      simp at d0 d1 d2
      clear hb4 HV4
      go_wp2
      go_ret
      exact ⟨ret_bool (by simp), HB4.out.alloc HB4.out.size _⟩
  · have hz' : ¬ (0 : Int) < (more.size : Int) := by omega
    have HD := fun (W : World) (h : Env W) => hide (read_back k n s more n0 n1 hr hz200 (no_more more hz) W h)
    rw [hr] at HR
    clear hr
    generalize textL k n s = T at *
    go_enter Tryd.func5, Tryd.ntmps5
    go_wp2_with fail
    refine (unhide (HAW _ HE.out)).mono ?_
    rintro e w1 ⟨rfl, hb1⟩
    have HV1 := hide ((hb1.block _ (by simp)).trans HV.out)
    have HE1 := hide (HE.out.on hb1)
    have HB1 := hide (HB.out.trans (hb1.mono HB.out.size))
    have c0 := cell_heap HV1.out 0
    have c1 := cell_heap HV1.out 1
    have c2 := cell_heap HV1.out 2
    simp at c0 c1 c2
    clear hb1
    go_wp2_with fail
    refine (unhide (HR _)).mono ?_
    rintro e w2 ⟨rfl, hb2⟩
    have HV2 := hide ((hb2.block _ (lt_heap HV1.out)).trans HV1.out)
    have HE2 := hide (HE1.out.on hb2)
    have HB2 := hide (HB1.out.trans (hb2.mono HB1.out.size))
    clear hb2 c0 c1 c2 HB1 HE1 HV1
    have d0 := cell_heap HV2.out 0
    have d1 := cell_heap HV2.out 1
    have d2 := cell_heap HV2.out 2
    simp at d0 d1 d2
    go_wp2_with fail
    refine (unhide (HT _ HE2.out)).mono ?_
    rintro e w3 ⟨rfl, hb3⟩
    have HV3 := hide ((hb3.block _ (lt_heap HV2.out)).trans HV2.out)
    have HE3 := hide (HE2.out.on hb3)
    have HB3 := hide (HB2.out.trans (hb3.mono HB2.out.size))
    clear hb3 HB2 HE2 HV2 d0 d1 d2
    go_wp2_with fail
    refine (unhide (HD _ HE3.out)).mono ?_
    rintro e w4 ⟨rfl, hb4⟩
    have HV4 := (hb4.block _ (lt_heap HV3.out)).trans HV3.out
    have HB4 := hide (HB3.out.trans (hb4.mono HB3.out.size))
    have hlt := lt_heap HV4
    have d0 := cell_heap HV4 0
    have d1 := cell_heap HV4 1
    have d2 := cell_heap HV4 2
    simp at d0 d1 d2
    clear hb4 HV4
    go_wp2
    go_ret
    exact ⟨ret_bool (by simp), HB4.out.alloc HB4.out.size _⟩
end Go.Proofs.YthiffpdioclnlaaDoor
