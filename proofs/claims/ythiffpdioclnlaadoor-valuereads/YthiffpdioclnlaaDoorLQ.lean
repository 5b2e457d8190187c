/-
  The walk of the law ValueQuotes.
-/
import Derived.Test.YthiffpdioclnlaaDoorVU
import Derived.Test.YthiffpdioclnlaaDoorPN
set_option linter.unusedSimpArgs false
set_option linter.unusedVariables false
namespace Go.Proofs.YthiffpdioclnlaaDoor
open Go.RowKit

theorem hexD_range : ∀ k : Fin 16, 48 ≤ (hexD k.val).toNat ∧ (hexD k.val).toNat ≤ 102 := by decide
theorem qByte_range (c : UInt8) : ∀ b ∈ qByte c, 32 ≤ b.toNat ∧ b.toNat ≤ 126 ∧ b.toNat ≠ 39 := by
  have hc := c.toNat_lt
  intro b hb
  unfold qByte at hb
  split at hb
  · have h1 := hexD_range ⟨c.toNat / 16, by omega⟩
    have h2 := hexD_range ⟨c.toNat % 16, by omega⟩
    dsimp only at h1 h2
    rcases List.mem_cons.1 hb with rfl | hb
    · decide
    · rcases List.mem_cons.1 hb with rfl | hb
      · omega
      · rw [List.mem_singleton.1 hb]; omega
  · rename_i he
    rw [List.mem_singleton.1 hb]
    simp [escB] at he
    omega
theorem qBytes_range (l : List UInt8) : ∀ b ∈ qBytes l, 32 ≤ b.toNat ∧ b.toNat ≤ 126 ∧ b.toNat ≠ 39 := by
  intro b hb
  unfold qBytes at hb
  obtain ⟨c, _, h⟩ := List.mem_flatMap.1 hb
  exact qByte_range c b h

theorem hexD_inj (a b : Nat) (ha : a < 16) (hb : b < 16) (h : hexD a = hexD b) : a = b := by
  have h1 := hexI_hexD a ha
  have h2 := hexI_hexD b hb
  rw [h] at h1
  omega
theorem qByte_inj (c d : UInt8) (x y : List UInt8) (h : qByte c ++ x = qByte d ++ y) : c = d ∧ x = y := by
  have hc := c.toNat_lt
  have hd := d.toNat_lt
  cases e1 : escB (c.toNat : Int) <;> cases e2 : escB (d.toNat : Int) <;> (unfold qByte at h; rw [e1, e2] at h; simp at h)
  · exact h
  · obtain ⟨rfl, _⟩ := h
    exact absurd e1 (by decide)
  · obtain ⟨rfl, _⟩ := h
    exact absurd e2 (by decide)
  · obtain ⟨h1, h2, h3⟩ := h
    have a1 := hexD_inj _ _ (by omega) (by omega) h1
    have a2 := hexD_inj _ _ (by omega) (by omega) h2
    exact ⟨UInt8.toNat_inj.1 (by omega), h3⟩
theorem qByte_head (c : UInt8) (x y : List UInt8) : qByte c ++ x ≠ 39 :: y := by
  intro h
  have := qByte_range c
  unfold qByte at h this
  split at h
  · simp at h
  · rename_i he
    simp at h
    obtain ⟨rfl, _⟩ := h
    revert he; decide
theorem qBytes_inj : ∀ (a b x y : List UInt8), qBytes a ++ 39 :: x = qBytes b ++ 39 :: y → a = b ∧ x = y
  | [], [], x, y, h => by simpa [qBytes] using h
  | [], d :: b, x, y, h => by
    rw [qBytes_cons, List.append_assoc] at h
    exact absurd h.symm (qByte_head d _ _)
  | c :: a, [], x, y, h => by
    rw [qBytes_cons, List.append_assoc] at h
    exact absurd h (qByte_head c _ _)
  | c :: a, d :: b, x, y, h => by
    rw [qBytes_cons, qBytes_cons, List.append_assoc, List.append_assoc] at h
    obtain ⟨rfl, h2⟩ := qByte_inj c d _ _ h
    obtain ⟨rfl, h3⟩ := qBytes_inj a b x y h2
    exact ⟨rfl, h3⟩
theorem quoteL_inj (a b : List UInt8) (h : quoteL a = quoteL b) : a = b := by
  unfold quoteL at h
  injection h with _ h
  exact (qBytes_inj a b [] [] h).1
theorem quoteL_len (a : List UInt8) : a.length + 2 ≤ (quoteL a).length ∧ (quoteL a).length ≤ 3 * a.length + 2 := by
  have := qBytes_len a
  simp [quoteL]; omega
/-- Each place of a quoted text. -/
theorem quote_at (l : List UInt8) (k : Nat) (hk : k < (quoteL l).length) : 32 ≤ ((quoteL l)[k]).toNat ∧ ((quoteL l)[k]).toNat ≤ 126 ∧ (((quoteL l)[k]).toNat = 39 ↔ (k = 0 ∨ k + 1 = (quoteL l).length)) := by
  have hL : (quoteL l).length = (qBytes l).length + 2 := by simp [quoteL]
  by_cases k0 : k = 0
  · subst k0
    simp [quoteL]
  · by_cases ke : k + 1 = (quoteL l).length
    · have e : (quoteL l)[k] = 39 := by
        have : (quoteL l)[k]? = some 39 := by
          unfold quoteL
          rw [List.getElem?_cons, if_neg k0, List.getElem?_append_right (by omega)]
          rw [show k - 1 - (qBytes l).length = 0 by omega]; rfl
        rw [List.getElem?_eq_getElem hk] at this
        exact Option.some.inj this
      rw [e]
      exact ⟨by decide, by decide, ⟨fun _ => Or.inr ke, fun _ => rfl⟩⟩
    · have hm : (quoteL l)[k] ∈ qBytes l := by
        have hlt : k - 1 < (qBytes l).length := by omega
        have : (quoteL l)[k]? = (qBytes l)[k - 1]? := by
          unfold quoteL
          rw [List.getElem?_cons, if_neg k0, List.getElem?_append_left hlt]
        rw [List.getElem?_eq_getElem hk, List.getElem?_eq_getElem hlt] at this
        rw [Option.some.inj this]
        exact List.getElem_mem _
      obtain ⟨r1, r2, r3⟩ := qBytes_range l _ hm
      exact ⟨r1, r2, ⟨fun h => absurd h r3, fun h => by omega⟩⟩

theorem quoted_at (a : ByteArray) : ∀ (k : Nat) (hk : k < (⟨(quoteL a.data.toList).toArray⟩ : ByteArray).size), 32 ≤ ((⟨(quoteL a.data.toList).toArray⟩ : ByteArray)[k]).toNat ∧ ((⟨(quoteL a.data.toList).toArray⟩ : ByteArray)[k]).toNat ≤ 126 ∧ (((⟨(quoteL a.data.toList).toArray⟩ : ByteArray)[k]).toNat = 39 ↔ (k = 0 ∨ k + 1 = (⟨(quoteL a.data.toList).toArray⟩ : ByteArray).size)) := by
  intro k hk
  have hk' : k < (quoteL a.data.toList).length := by simpa [Lib.size_eq] using hk
  have := quote_at a.data.toList k hk'
  rw [at_getD _ k hk, Lib.size_eq]
  simpa [List.getD_eq_getElem?_getD, List.getElem?_eq_getElem hk'] using this
theorem quoted_len (a : ByteArray) : a.size + 2 ≤ (⟨(quoteL a.data.toList).toArray⟩ : ByteArray).size ∧ (⟨(quoteL a.data.toList).toArray⟩ : ByteArray).size ≤ 3 * a.size + 2 := by
  have := quoteL_len a.data.toList
  rw [← Lib.size_eq] at this
  have e : (⟨(quoteL a.data.toList).toArray⟩ : ByteArray).size = (quoteL a.data.toList).length := by rw [Lib.size_eq]
  rw [e]; exact this
theorem quoted_eq (a b : ByteArray) : ((⟨(quoteL a.data.toList).toArray⟩ : ByteArray).toList = (⟨(quoteL b.data.toList).toArray⟩ : ByteArray).toList ↔ a.toList = b.toList) := by
  simp only [ByteArray.toList_eq]
  exact ⟨fun h => quoteL_inj _ _ (by simpa using h), fun h => by rw [h]⟩

set_option maxHeartbeats 2000000 in
set_option maxRecDepth 100000 in
theorem law_quotes (a b : ByteArray) (w : World) (hE : Env w) (ha : a.size ≤ maxLen) (hb : b.size ≤ maxLen) :
    Calls Tryd.prog 8 #[.string a, .string b] w fun e w' => e = .returned (.bool true) ∧ Below w.heap.size w w' := by
  have HAW := fun (W : World) (h : Env W) => hide (awake_any W h)
  have HE := hide hE
  clear hE
  by_cases a2 : (200 : Int) < (a.size : Int)
  · go_enter Tryd.func8, Tryd.ntmps8
    go_wp2_with fail
    refine (unhide (HAW _ HE.out)).mono ?_
    rintro e w1 ⟨rfl, hb1⟩
    have HB1 := hide hb1
    have HE1 := hide (HE.out.on hb1)
    clear hb1
    go_wp2_with fail
    refine (unhide (HAW _ HE1.out)).mono ?_
    rintro e w2 ⟨rfl, hb2⟩
    have HB2 := hide (HB1.out.trans (hb2.mono HB1.out.size))
    clear hb2
    go_wp2
    go_ret
    exact ⟨rfl, HB2.out⟩
  by_cases b2 : (200 : Int) < (b.size : Int)
  · go_enter Tryd.func8, Tryd.ntmps8
    go_wp2_with fail
    refine (unhide (HAW _ HE.out)).mono ?_
    rintro e w1 ⟨rfl, hb1⟩
    have HB1 := hide hb1
    have HE1 := hide (HE.out.on hb1)
    clear hb1
    go_wp2_with fail
    refine (unhide (HAW _ HE1.out)).mono ?_
    rintro e w2 ⟨rfl, hb2⟩
    have HB2 := hide (HB1.out.trans (hb2.mono HB1.out.size))
    clear hb2
    go_wp2
    go_ret
    exact ⟨rfl, HB2.out⟩
  have HQa := fun (W : World) => hide (quote_any a W (by omega))
  have HQb := fun (W : World) => hide (quote_any b W (by omega))
  have hat := hide (quoted_at a)
  have hlen := quoted_len a
  have hinj := hide (quoted_eq a b)
  generalize (⟨(quoteL a.data.toList).toArray⟩ : ByteArray) = LA at *
  generalize (⟨(quoteL b.data.toList).toArray⟩ : ByteArray) = LB at *
  go_enter Tryd.func8, Tryd.ntmps8
  go_wp2_with fail
  refine (unhide (HAW _ HE.out)).mono ?_
  rintro e w1 ⟨rfl, hb1⟩
  have HB1 := hide hb1
  clear hb1
  go_wp2_with fail
  refine (unhide (HQa _)).mono ?_
  rintro e w2 ⟨rfl, hb2⟩
  have HB2 := hide (HB1.out.trans (hb2.mono HB1.out.size))
  clear hb2
  go_wp2_with fail
  refine (unhide (HQb _)).mono ?_
  rintro e w3 ⟨rfl, hb3⟩
  have HB3 := hide (HB2.out.trans (hb3.mono HB2.out.size))
  clear hb3
  go_wp2
  have h3 : (LA.size : Int) ≤ 602 := by omega
  go_loop [27] (fun i => ∃ k : Nat, i = .int .i64 k ∧ k ≤ LA.size) (fun i => LA.size - (intOf i).toNat)
  case atStart => exact ⟨0, rfl, by omega⟩
  case round =>
    obtain ⟨k, rfl, hk⟩ := hrel
    by_cases hlt : k < LA.size
    · obtain ⟨r1, r2, r3⟩ := hat.out k hlt
      have q1 : (32 : Int) ≤ (LA[k].toNat : Int) := by omega
      have q2 : (LA[k].toNat : Int) ≤ 126 := by omega
      by_cases k0 : k = 0
      · have q3 : ((LA[k].toNat : Int) == 39) = true := by rw [r3.2 (Or.inl k0)]; rfl
        have q4 : ((k : Int) == 0) = true := by rw [k0]; rfl
        clear r1 r2 r3 k0
        go_wp2
        exact ⟨⟨k + 1, by go_num, by omega⟩, by simp [intOf]; omega⟩
      · have q4 : ((k : Int) == 0) = false := beq_eq_false_iff_ne.2 (by omega)
        by_cases ke : k + 1 = LA.size
        · have q3 : ((LA[k].toNat : Int) == 39) = true := by rw [r3.2 (Or.inr ke)]; rfl
          have q5 : ((k : Int) == (LA.size : Int) - 1) = true := beq_iff_eq.2 (by omega)
          clear r1 r2 r3
          go_wp2
          exact ⟨⟨k + 1, by go_num, by omega⟩, by simp [intOf]; omega⟩
        · have q3 : ((LA[k].toNat : Int) == 39) = false := beq_eq_false_iff_ne.2 (fun e => by
            have := r3.1 (by omega)
            omega)
          have q5 : ((k : Int) == (LA.size : Int) - 1) = false := beq_eq_false_iff_ne.2 (by omega)
          clear r1 r2 r3
          go_wp2
          exact ⟨⟨k + 1, by go_num, by omega⟩, by simp [intOf]; omega⟩
    · by_cases hab : a.toList = b.toList
      · have x1 : (a.toList == b.toList) = true := beq_iff_eq.2 hab
        have x2 : (LA.toList == LB.toList) = true := beq_iff_eq.2 (hinj.out.2 hab)
        clear hab
        go_wp2
        go_ret
        exact ⟨ret_bool (by simp; omega), HB3.out⟩
      · have x1 : (a.toList == b.toList) = false := beq_eq_false_iff_ne.2 hab
        have x2 : (LA.toList == LB.toList) = false := beq_eq_false_iff_ne.2 (fun e => hab (hinj.out.1 e))
        clear hab
        go_wp2
        go_ret
        exact ⟨ret_bool (by simp; omega), HB3.out⟩
end Go.Proofs.YthiffpdioclnlaaDoor
