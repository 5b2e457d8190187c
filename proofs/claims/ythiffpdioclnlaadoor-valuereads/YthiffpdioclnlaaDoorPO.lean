/-
  Plain mathematics of the order of values.
-/
import Derived.Test.YthiffpdioclnlaaDoorVA
set_option linter.unusedSimpArgs false
set_option linter.unusedVariables false
namespace Go.Proofs.YthiffpdioclnlaaDoor

theorem less_asymm : ∀ (a b : List UInt8), Op.bytesLess a b = true → Op.bytesLess b a = false
  | [], [], h => by simp [Op.bytesLess] at h
  | [], _ :: _, _ => by simp [Op.bytesLess]
  | _ :: _, [], h => by simp [Op.bytesLess] at h
  | a :: x, b :: y, h => by
    simp [Op.bytesLess] at h ⊢
    rcases h with h | ⟨rfl, h⟩
    · have := UInt8.lt_iff_toNat_lt.1 h
      refine ⟨UInt8.le_iff_toNat_le.2 (by omega), fun e => ?_⟩
      subst e
      omega
    · refine ⟨UInt8.le_iff_toNat_le.2 (by omega), fun _ => less_asymm x y h⟩
theorem less_total : ∀ (a b : List UInt8), Op.bytesLess a b = false → a ≠ b → Op.bytesLess b a = true
  | [], [], _, hn => absurd rfl hn
  | [], _ :: _, h, _ => by simp [Op.bytesLess] at h
  | _ :: _, [], _, _ => by simp [Op.bytesLess]
  | a :: x, b :: y, h, hn => by
    simp [Op.bytesLess] at h ⊢
    obtain ⟨h1, h2⟩ := h
    by_cases e : a = b
    · subst e
      right
      exact ⟨rfl, less_total x y (h2 rfl) (fun e => hn (by rw [e]))⟩
    · left
      have h1' := UInt8.le_iff_toNat_le.1 h1
      refine UInt8.lt_iff_toNat_lt.2 ?_
      have : a.toNat ≠ b.toNat := fun e' => e (UInt8.toNat_inj.1 e')
      omega
theorem less_trans : ∀ (a b c : List UInt8), Op.bytesLess a b = true → Op.bytesLess b c = true → Op.bytesLess a c = true
  | _, [], _, h, _ => by simp [Op.bytesLess] at h
  | _, _ :: _, [], _, h => by simp [Op.bytesLess] at h
  | [], _ :: _, _ :: _, _, _ => by simp [Op.bytesLess]
  | a :: x, b :: y, c :: z, h, k => by
    simp [Op.bytesLess] at h k ⊢
    rcases h with h | ⟨rfl, h⟩
    · rcases k with k | ⟨rfl, k⟩
      · left
        have := UInt8.lt_iff_toNat_lt.1 h
        have := UInt8.lt_iff_toNat_lt.1 k
        exact UInt8.lt_iff_toNat_lt.2 (by omega)
      · exact Or.inl h
    · rcases k with k | ⟨rfl, k⟩
      · exact Or.inl k
      · exact Or.inr ⟨rfl, less_trans x y z h k⟩

theorem cmpI_anti (a b : Int) : cmpI b a = -cmpI a b := by unfold cmpI; omega
theorem cmpI_bd (a b : Int) : -1 ≤ cmpI a b ∧ cmpI a b ≤ 1 := by unfold cmpI; omega
theorem cmpS_cases (a b : ByteArray) : (cmpS a b = -1 ∧ Op.bytesLess a.toList b.toList = true) ∨ (cmpS a b = 0 ∧ a.toList = b.toList) ∨ (cmpS a b = 1 ∧ Op.bytesLess b.toList a.toList = true) := by
  unfold cmpS
  cases h1 : Op.bytesLess a.toList b.toList
  · by_cases h2 : a.toList = b.toList
    · right; left; simp [h2]
    · right; right; exact ⟨by simp [h2], less_total _ _ h1 h2⟩
  · left; simp
theorem cmpS_bd (a b : ByteArray) : -1 ≤ cmpS a b ∧ cmpS a b ≤ 1 := by
  rcases cmpS_cases a b with ⟨h, _⟩ | ⟨h, _⟩ | ⟨h, _⟩ <;> omega
theorem cmpS_anti (a b : ByteArray) : cmpS b a = -cmpS a b := by
  rcases cmpS_cases a b with ⟨h, l⟩ | ⟨h, l⟩ | ⟨h, l⟩ <;> rcases cmpS_cases b a with ⟨k, m⟩ | ⟨k, m⟩ | ⟨k, m⟩ <;> rw [h, k] <;> first | rfl | skip
  all_goals exfalso
  · rw [less_asymm _ _ l] at m; cases m
  · rw [m, less_irrefl] at l; cases l
  · rw [l, less_irrefl] at m; cases m
  · rw [l, less_irrefl] at m; cases m
  · rw [m, less_irrefl] at l; cases l
  · rw [less_asymm _ _ l] at m; cases m
theorem cmpS_trans (a b c : ByteArray) (h : cmpS a b ≤ 0) (k : cmpS b c ≤ 0) : cmpS a c ≤ 0 := by
  rcases cmpS_cases a b with ⟨h1, l⟩ | ⟨h1, l⟩ | ⟨h1, l⟩
  · rcases cmpS_cases b c with ⟨k1, m⟩ | ⟨k1, m⟩ | ⟨k1, m⟩
    · unfold cmpS; rw [less_trans _ _ _ l m]; simp
    · unfold cmpS; rw [← m, l]; simp
    · omega
  · unfold cmpS at k ⊢; rw [l]; exact k
  · omega

theorem ord_bd (ka na : Int) (sa : ByteArray) (kb nb : Int) (sb : ByteArray) : -1 ≤ ordV ka na sa kb nb sb ∧ ordV ka na sa kb nb sb ≤ 1 := by
  unfold ordV
  split
  · split
    · exact cmpI_bd _ _
    · split
      · exact cmpS_bd _ _
      · omega
  · exact cmpI_bd _ _
theorem ord_anti (ka na : Int) (sa : ByteArray) (kb nb : Int) (sb : ByteArray) : ordV kb nb sb ka na sa = -ordV ka na sa kb nb sb := by
  unfold ordV
  by_cases e : ka = kb
  · subst e
    simp only [if_true]
    split
    · exact cmpI_anti _ _
    · split
      · exact cmpS_anti _ _
      · rfl
  · rw [if_neg e, if_neg (fun h => e h.symm)]; exact cmpI_anti _ _
theorem ord_trans (ka na : Int) (sa : ByteArray) (kb nb : Int) (sb : ByteArray) (kc nc : Int) (sc : ByteArray) (h : ordV ka na sa kb nb sb ≤ 0) (k : ordV kb nb sb kc nc sc ≤ 0) : ordV ka na sa kc nc sc ≤ 0 := by
  unfold ordV at *
  by_cases e1 : ka = kb
  · subst e1
    by_cases e2 : ka = kc
    · subst e2
      simp only [if_true] at *
      by_cases k1 : ka = 1
      · simp only [k1, if_true] at *
        unfold cmpI at *; omega
      · by_cases k2 : ka = 2
        · simp only [if_neg k1, if_pos k2] at *
          exact cmpS_trans _ _ _ h k
        · simp only [if_neg k1, if_neg k2] at *
          omega
    · rw [if_neg e2] at k ⊢; exact k
  · rw [if_neg e1] at h
    by_cases e2 : kb = kc
    · subst e2
      rw [if_neg e1]; exact h
    · rw [if_neg e2] at k
      have : ka ≠ kc := by unfold cmpI at h k; omega
      rw [if_neg this]
      unfold cmpI at *; omega
theorem empty_eq {s t : ByteArray} (h : s.toList.isEmpty = true) (k : t.toList.isEmpty = true) : s.toList = t.toList := by
  rw [List.isEmpty_iff] at h k; rw [h, k]
theorem ord_zero (ka na : Int) (sa : ByteArray) (kb nb : Int) (sb : ByteArray) (ra : rightB ka na sa = true) (rb : rightB kb nb sb = true) (h : ordV ka na sa kb nb sb = 0) : ka = kb ∧ na = nb ∧ sa.toList = sb.toList := by
  unfold ordV at h
  by_cases e : ka = kb
  · subst e
    rw [if_pos rfl] at h
    unfold rightB at ra rb
    by_cases k0 : ka = 0
    · simp only [k0, if_true] at ra rb
      simp at ra rb
      exact ⟨rfl, by omega, empty_eq (by simp [ra.2]) (by simp [rb.2])⟩
    · by_cases k1 : ka = 1
      · rw [if_neg k0, if_pos k1] at ra rb
        rw [if_pos k1] at h
        exact ⟨rfl, by unfold cmpI at h; omega, empty_eq ra rb⟩
      · by_cases k2 : ka = 2
        · rw [if_neg k0, if_neg k1, if_pos k2] at ra rb
          rw [if_neg k1, if_pos k2] at h
          simp at ra rb
          rcases cmpS_cases sa sb with ⟨h1, l⟩ | ⟨h1, l⟩ | ⟨h1, l⟩
          · omega
          · exact ⟨rfl, by omega, l⟩
          · omega
        · rw [if_neg k0, if_neg k1, if_neg k2] at ra
          cases ra
  · rw [if_neg e] at h
    unfold cmpI at h; omega
theorem ord_self (k n : Int) (s : ByteArray) : ordV k n s k n s = 0 := by
  have := ord_anti k n s k n s
  omega
theorem bytes_inj' {sa sb : ByteArray} (h : sa.toList = sb.toList) : sa = sb := by
  have : sa.data = sb.data := by
    rw [ByteArray.toList_eq, ByteArray.toList_eq] at h
    exact Array.toList_inj.1 h
  cases sa; cases sb; simp_all
theorem ord_same (ka na : Int) (sa : ByteArray) (kb nb : Int) (sb : ByteArray) (h : ka = kb ∧ na = nb ∧ sa.toList = sb.toList) : ordV ka na sa kb nb sb = 0 := by
  obtain ⟨rfl, rfl, h⟩ := h
  have e : sa = sb := by
    have : sa.data = sb.data := by
      rw [ByteArray.toList_eq, ByteArray.toList_eq] at h
      exact Array.toList_inj.1 h
    cases sa; cases sb; simp_all
  rw [e]; exact ord_self _ _ _
end Go.Proofs.YthiffpdioclnlaaDoor
