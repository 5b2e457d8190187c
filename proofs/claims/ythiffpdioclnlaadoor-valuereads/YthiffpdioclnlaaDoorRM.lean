/-
  Plain mathematics for the walk of the reference's Read.
-/
import Derived.Test.YthiffpdioclnlaaDoorPX
set_option linter.unusedSimpArgs false
set_option linter.unusedVariables false
namespace Go.Proofs.YthiffpdioclnlaaDoor

/-- What the digits from place a to place j spell. -/
def numAt (s : ByteArray) (a j : Nat) : Nat := foldV 0 ((s.data.toList.drop a).take (j - a))
theorem numAt_start (s : ByteArray) (a : Nat) : numAt s a a = 0 := by unfold numAt; simp [foldV_nil]
theorem numAt_step (s : ByteArray) (a j : Nat) (ha : a ≤ j) (hj : j < s.size) : numAt s a (j + 1) = numAt s a j * 10 + (s[j].toNat - 48) := by
  unfold numAt
  have e : j + 1 - a = (j - a) + 1 := by omega
  have hl : j - a < (s.data.toList.drop a).length := by rw [List.length_drop, ← Lib.size_eq]; omega
  rw [e, List.take_succ_eq_append_getElem hl, foldV_append, foldV_cons, foldV_nil]
  have e2 : (s.data.toList.drop a)[j - a] = s[j] := by
    rw [List.getElem_drop]
    have : a + (j - a) = j := by omega
    simp only [this]; rfl
  rw [e2]
theorem seg_digs (s : ByteArray) (a j k : Nat) (hj : j ≤ k) (hk : k ≤ s.size) (h : digsTo s.data.toList a k) : ∀ c ∈ (s.data.toList.drop a).take (j - a), isDig c = true := by
  intro c hc
  obtain ⟨i, hi, rfl⟩ := List.getElem_of_mem hc
  rw [List.length_take, List.length_drop] at hi
  rw [List.getElem_take, List.getElem_drop]
  have := h (a + i) (by omega) (by omega)
  rw [List.getD_eq_getElem?_getD, List.getElem?_eq_getElem (by omega)] at this
  exact this
theorem numAt_small (s : ByteArray) (a j k : Nat) (hj : j < k) (hk : k ≤ s.size) (h : digsTo s.data.toList a k) (h19 : k - a ≤ 19) : numAt s a j ≤ 999999999999999999 := by
  unfold numAt
  refine foldV_small _ (seg_digs s a j k (by omega) hk h) ?_
  rw [List.length_take]; omega
theorem dig_at' (s : ByteArray) (a k j : Nat) (h : digsTo s.data.toList a k) (ha : a ≤ j) (hj : j < k) (hk : k ≤ s.size) : 48 ≤ s[j].toNat ∧ s[j].toNat ≤ 57 := by
  have := h j ha hj
  rw [← at_getD s j (by omega)] at this
  exact (isDig_iff _).1 this
theorem seg_len (s : ByteArray) (a k : Nat) (hk : k ≤ s.size) : ((s.data.toList.drop a).take (k - a)).length = k - a := by
  rw [List.length_take, List.length_drop, ← Lib.size_eq]; omega
theorem seg_head (s : ByteArray) (a k : Nat) (ha : a < k) (hk : k ≤ s.size) : ((s.data.toList.drop a).take (k - a)).getD 0 0 = s[a] := by
  rw [drop_at s a (by omega)]
  obtain ⟨m, hm⟩ : ∃ m, k - a = m + 1 := ⟨k - a - 1, by omega⟩
  rw [hm]; rfl

theorem refN_seg (s : ByteArray) (a k : Nat) (ha : a < k) (hk : k ≤ s.size) : refN a ((s.data.toList.drop a).take (k - a)) = if s[a].toNat = 48 ∧ 1 < k then none else if 19 < k - a then none else if (a = 0 ∧ 9223372036854775807 < numAt s a k) ∨ 9223372036854775808 < numAt s a k then none else some (1, if a = 1 then -(numAt s a k : Int) else numAt s a k, [], k) := by
  unfold refN
  rw [seg_head s a k ha hk, seg_len s a k hk]
  have e : a + (k - a) = k := by omega
  rw [e]; rfl

theorem read_seg1 (s : ByteArray) (k : Nat) (c0 : 0 < s.size) (hm : s[0].toNat = 45) (hk1 : 1 < k) (hk : k ≤ s.size) (hd : digsTo s.data.toList 1 k) (hc : digCount (s.data.toList.drop 1) = k - 1) : readL s.data.toList = refN 1 ((s.data.toList.drop 1).take (k - 1)) := by
  have hne : (s.data.toList.drop 1).take (k - 1) ≠ [] := by
    intro h
    have := seg_len s 1 k hk
    rw [h] at this; simp at this; omega
  rw [← rn_neg _ hne (seg_digs s 1 k k (Nat.le_refl _) hk hd)]
  have hN : numEnd s.data.toList = k := by rw [numEnd_minus s c0 hm, hc, if_neg (by omega)]; omega
  unfold readL
  rw [if_neg (by rw [← Lib.size_eq]; omega), ← at_getD s 0 c0, if_neg (by omega), hN, if_pos (by omega)]
  congr 1
  have h0 := drop_at s 0 c0
  rw [List.drop_zero] at h0
  have e45 : s[0] = 45 := UInt8.toNat_inj.1 hm
  rw [e45] at h0
  obtain ⟨m, rfl⟩ : ∃ m, k = m + 1 := ⟨k - 1, by omega⟩
  have : List.take (m + 1) s.data.toList = List.take (m + 1) (45 :: s.data.toList.drop (0 + 1)) := by rw [← h0]
  rw [this]; rfl
theorem read_seg0 (s : ByteArray) (k : Nat) (c0 : 0 < s.size) (hm : ¬ s[0].toNat = 45) (hq : ¬ s[0].toNat = 39) (hk1 : 0 < k) (hk : k ≤ s.size) (hd : digsTo s.data.toList 0 k) (hc : digCount (s.data.toList.drop 0) = k - 0) : readL s.data.toList = refN 0 ((s.data.toList.drop 0).take (k - 0)) := by
  have hne : (s.data.toList.drop 0).take (k - 0) ≠ [] := by
    intro h
    have := seg_len s 0 k hk
    rw [h] at this; simp at this; omega
  rw [← rn_plain _ hne (seg_digs s 0 k k (Nat.le_refl _) hk hd)]
  have hN : numEnd s.data.toList = k := by rw [numEnd_plain s c0 hm, hc]; omega
  unfold readL
  rw [if_neg (by rw [← Lib.size_eq]; omega), ← at_getD s 0 c0, if_neg hq, hN, if_pos hk1]
  rfl
theorem read_none1 (s : ByteArray) (c0 : 0 < s.size) (hm : s[0].toNat = 45) (hc : digCount (s.data.toList.drop 1) = 0) : readL s.data.toList = some (0, 0, [], 1) := by
  have hN : numEnd s.data.toList = 0 := by rw [numEnd_minus s c0 hm, hc]; rfl
  unfold readL
  rw [if_neg (by rw [← Lib.size_eq]; omega), ← at_getD s 0 c0, if_neg (by omega), hN, if_neg (by omega), if_pos hm]
theorem read_none0 (s : ByteArray) (c0 : 0 < s.size) (hm : ¬ s[0].toNat = 45) (hq : ¬ s[0].toNat = 39) (hc : digCount (s.data.toList.drop 0) = 0) : readL s.data.toList = none := by
  have hN : numEnd s.data.toList = 0 := by rw [numEnd_plain s c0 hm, hc]
  unfold readL
  rw [if_neg (by rw [← Lib.size_eq]; omega), ← at_getD s 0 c0, if_neg hq, hN, if_neg (by omega), if_neg hm]
theorem read_str (s : ByteArray) (c0 : 0 < s.size) (hq : s[0].toNat = 39) : readL s.data.toList = (qdL s.data.toList).map (fun x => (2, 0, x.1, x.2)) := by
  have h0 := drop_at s 0 c0
  rw [List.drop_zero, UInt8.toNat_inj.1 (show s[0].toNat = (39 : UInt8).toNat from hq)] at h0
  rw [h0]
  unfold readL
  rw [if_neg (by simp), if_pos (by rfl)]
  exact rs_eq _
theorem numAt_pos (s : ByteArray) (k : Nat) (hk1 : 1 < k) (hk : k ≤ s.size) (hd : digsTo s.data.toList 1 k) (hz : ¬ s[1].toNat = 48) : 1 ≤ numAt s 1 k := by
  rcases Nat.eq_zero_or_pos (numAt s 1 k) with h | h
  · refine absurd ?_ hz
    have hne : (s.data.toList.drop 1).take (k - 1) ≠ [] := by
      intro h
      have := seg_len s 1 k hk
      rw [h] at this; simp at this; omega
    have := foldV_zero _ hne (seg_digs s 1 k k (Nat.le_refl _) hk hd) h
    rw [seg_head s 1 k hk1 hk] at this
    exact this
  · exact h
end Go.Proofs.YthiffpdioclnlaaDoor
