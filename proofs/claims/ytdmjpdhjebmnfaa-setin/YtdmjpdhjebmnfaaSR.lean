/-
  What the laws of the third layer say, in plain words of sets.
-/
import Derived.Test.YtdmjpdhjebmnfaaST
set_option linter.unusedSimpArgs false
set_option linter.unusedVariables false
namespace Go.Proofs.Ytdmjpdhjebmnfaa

theorem good_ext {A B : SetV} (hA : Good A) (hB : Good B) (hn : A.strs.length + B.strs.length < 100000)
    (h : ∀ p : Va, -9223372036854775808 ≤ p.2.1 → p.2.1 ≤ 9223372036854775807 → hasP A p = hasP B p) : A = B := set_ext A B hA.r hB.r hA.i hB.i hn h
theorem has_right {S : SetV} {p : Va} (h : hasP S p = true) : rightB p.1 p.2.1 p.2.2 = true := by
  cases e : rightB p.1 p.2.1 p.2.2
  · have : ¬ rightV p := fun hp => by
      have hp' : rightB p.1 p.2.1 p.2.2 = true := hp
      rw [e] at hp'; simp at hp'
    rw [has_wrong S this] at h; simp at h
  · rfl
theorem not_right {S : SetV} {p : Va} (h : rightB p.1 p.2.1 p.2.2 = false) : hasP S p = false := has_wrong S (fun hp => by
  have hp' : rightB p.1 p.2.1 p.2.2 = true := hp
  rw [h] at hp'; simp at hp')
/-- Not too large. -/
structure Lit40 (S : SetV) : Prop where
  good : Good S
  ni : S.ints.length ≤ 200
  ns : S.strs.length ≤ 200
theorem Lit40.fit {S : SetV} (h : Lit40 S) : Fit S := ⟨h.good, by have := h.ni; omega, by have := h.ns; omega⟩

theorem inB_iff {A B : SetV} (hA : Good A) (hB : Good B) (hn : A.strs.length + A.strs.length + B.strs.length < 100000) : inB A B = true ↔ inSet A B := by
  unfold inB
  rw [sameB_iff]
  constructor
  · intro h p b0 b1 ha
    have e := andV_has hA hB p b0 b1
    rw [h, ha] at e
    simpa using e.symm
  · intro h
    have l := (andV_len hA hB).2
    refine good_ext (andV_good hA hB) hA (by omega) fun p b0 b1 => ?_
    rw [andV_has hA hB p b0 b1]
    cases e : hasP A p
    · rfl
    · rw [h p b0 b1 e]; rfl
theorem not_all : notV allV = noSet := by rfl

theorem not_not {A : SetV} (hA : Good A) (lA : A.strs.length ≤ 1000) : notV (notV A) = A := by
  refine good_ext (notV_good (notV_good hA)) hA (by show A.strs.length + A.strs.length < _; omega) fun p b0 b1 => ?_
  rw [notV_has (notV_good hA) p b0 b1, notV_has hA p b0 b1]
  cases e : rightB p.1 p.2.1 p.2.2
  · rw [not_right e]; rfl
  · cases hasP A p <;> rfl
theorem or_not {A : SetV} (hA : Good A) (lA : A.strs.length ≤ 1000) : orV A (notV A) = allV := by
  have l := (orV_len hA (notV_good hA)).2
  have l2 : (notV A).strs.length = A.strs.length := rfl
  refine good_ext (orV_good hA (notV_good hA)) allV_good (by show _ + 0 < _; omega) fun p b0 b1 => ?_
  rw [orV_has hA (notV_good hA), notV_has hA p b0 b1, allV_has p b0 b1]
  cases e : rightB p.1 p.2.1 p.2.2
  · rw [not_right e]; rfl
  · cases hasP A p <;> rfl
theorem and_not {A : SetV} (hA : Good A) (lA : A.strs.length ≤ 1000) : andV A (notV A) = noSet := by
  have l := (andV_len hA (notV_good hA)).2
  have l2 : (notV A).strs.length = A.strs.length := rfl
  refine good_ext (andV_good hA (notV_good hA)) noSet_good (by show _ + 0 < _; omega) fun p b0 b1 => ?_
  rw [andV_has hA (notV_good hA) p b0 b1, notV_has hA p b0 b1]
  have e0 : hasP noSet p = false := by
    by_cases hp : rightV p
    · rcases rightV_cases hp with rfl | ⟨n, rfl⟩ | ⟨s, hs, rfl⟩
      · rw [has_abs]; rfl
      · rw [has_num]; rfl
      · rw [has_str _ hs]; rfl
    · exact has_wrong _ hp
  rw [e0]
  cases rightB p.1 p.2.1 p.2.2 <;> cases hasP A p <;> rfl
theorem in_all {A : SetV} (hA : Good A) (lA : A.strs.length ≤ 1000) : inB A allV = true := by
  unfold inB
  rw [sameB_iff]
  have l := (andV_len hA allV_good).2
  have l2 : allV.strs.length = 0 := rfl
  refine good_ext (andV_good hA allV_good) hA (by omega) fun p b0 b1 => ?_
  rw [andV_has hA allV_good p b0 b1, allV_has p b0 b1]
  cases e : rightB p.1 p.2.1 p.2.2
  · rw [not_right e]; rfl
  · cases hasP A p <;> rfl
theorem and_in {A B : SetV} (hA : Good A) (hB : Good B) (lA : A.strs.length ≤ 1000) (lB : B.strs.length ≤ 1000) : inB (andV A B) A = true := by
  have l := (andV_len hA hB).2
  rw [inB_iff (andV_good hA hB) hA (by omega)]
  intro p b0 b1 h
  rw [andV_has hA hB p b0 b1] at h
  simp at h; exact h.1
theorem in_or {A B : SetV} (hA : Good A) (hB : Good B) (lA : A.strs.length ≤ 1000) (lB : B.strs.length ≤ 1000) : inB A (orV A B) = true := by
  have l := (orV_len hA hB).2
  rw [inB_iff hA (orV_good hA hB) (by omega)]
  intro p b0 b1 h
  rw [orV_has hA hB, h]; rfl
theorem in_both {A B : SetV} (hA : Good A) (hB : Good B) (lA : A.strs.length ≤ 1000) (lB : B.strs.length ≤ 1000) : (inB A B && inB B A) = sameB A B := by
  refine bool_of_iff ?_
  rw [Bool.and_eq_true, inB_iff hA hB (by omega), inB_iff hB hA (by omega), sameB_iff]
  constructor
  · rintro ⟨h1, h2⟩; exact inSet_same A B hA.r hB.r hA.i hB.i (by omega) h1 h2
  · rintro rfl; exact ⟨inSet_refl A, inSet_refl A⟩
theorem morgan1 {A B : SetV} (hA : Good A) (hB : Good B) (lA : A.strs.length ≤ 1000) (lB : B.strs.length ≤ 1000) : notV (orV A B) = andV (notV A) (notV B) := by
  have l := (orV_len hA hB).2
  have l2 := (andV_len (notV_good hA) (notV_good hB)).2
  have l3 : (notV A).strs.length = A.strs.length := rfl
  have l4 : (notV B).strs.length = B.strs.length := rfl
  have l5 : (notV (orV A B)).strs.length = (orV A B).strs.length := rfl
  refine good_ext (notV_good (orV_good hA hB)) (andV_good (notV_good hA) (notV_good hB)) (by omega) fun p b0 b1 => ?_
  rw [notV_has (orV_good hA hB) p b0 b1, orV_has hA hB, andV_has (notV_good hA) (notV_good hB) p b0 b1, notV_has hA p b0 b1, notV_has hB p b0 b1]
  cases rightB p.1 p.2.1 p.2.2 <;> cases hasP A p <;> cases hasP B p <;> rfl
theorem morgan2 {A B : SetV} (hA : Good A) (hB : Good B) (lA : A.strs.length ≤ 1000) (lB : B.strs.length ≤ 1000) : notV (andV A B) = orV (notV A) (notV B) := by
  have l := (andV_len hA hB).2
  have l2 := (orV_len (notV_good hA) (notV_good hB)).2
  have l3 : (notV A).strs.length = A.strs.length := rfl
  have l4 : (notV B).strs.length = B.strs.length := rfl
  have l5 : (notV (andV A B)).strs.length = (andV A B).strs.length := rfl
  refine good_ext (notV_good (andV_good hA hB)) (orV_good (notV_good hA) (notV_good hB)) (by omega) fun p b0 b1 => ?_
  rw [notV_has (andV_good hA hB) p b0 b1, andV_has hA hB p b0 b1, orV_has (notV_good hA) (notV_good hB), notV_has hA p b0 b1, notV_has hB p b0 b1]
  cases rightB p.1 p.2.1 p.2.2 <;> cases hasP A p <;> cases hasP B p <;> rfl
theorem or_comm' {A B : SetV} (hA : Good A) (hB : Good B) (lA : A.strs.length ≤ 1000) (lB : B.strs.length ≤ 1000) : orV A B = orV B A := by
  have l := (orV_len hA hB).2
  have l2 := (orV_len hB hA).2
  refine good_ext (orV_good hA hB) (orV_good hB hA) (by omega) fun p b0 b1 => ?_
  rw [orV_has hA hB, orV_has hB hA]
  cases hasP A p <;> cases hasP B p <;> rfl
theorem and_comm' {A B : SetV} (hA : Good A) (hB : Good B) (lA : A.strs.length ≤ 1000) (lB : B.strs.length ≤ 1000) : andV A B = andV B A := by
  have l := (andV_len hA hB).2
  have l2 := (andV_len hB hA).2
  refine good_ext (andV_good hA hB) (andV_good hB hA) (by omega) fun p b0 b1 => ?_
  rw [andV_has hA hB p b0 b1, andV_has hB hA p b0 b1]
  cases hasP A p <;> cases hasP B p <;> rfl
theorem or_assoc' {A B C : SetV} (hA : Good A) (hB : Good B) (hC : Good C) (lA : A.strs.length ≤ 1000) (lB : B.strs.length ≤ 1000) (lC : C.strs.length ≤ 1000) : orV A (orV B C) = orV (orV A B) C := by
  have l := (orV_len hA hB).2
  have l2 := (orV_len hB hC).2
  have l3 := (orV_len hA (orV_good hB hC)).2
  have l4 := (orV_len (orV_good hA hB) hC).2
  refine good_ext (orV_good hA (orV_good hB hC)) (orV_good (orV_good hA hB) hC) (by omega) fun p b0 b1 => ?_
  rw [orV_has hA (orV_good hB hC), orV_has hB hC, orV_has (orV_good hA hB) hC, orV_has hA hB]
  cases hasP A p <;> cases hasP B p <;> cases hasP C p <;> rfl
theorem and_or' {A B C : SetV} (hA : Good A) (hB : Good B) (hC : Good C) (lA : A.strs.length ≤ 1000) (lB : B.strs.length ≤ 1000) (lC : C.strs.length ≤ 1000) : andV A (orV B C) = orV (andV A B) (andV A C) := by
  have l := (andV_len hA hB).2
  have l1 := (andV_len hA hC).2
  have l2 := (orV_len hB hC).2
  have l3 := (andV_len hA (orV_good hB hC)).2
  have l4 := (orV_len (andV_good hA hB) (andV_good hA hC)).2
  refine good_ext (andV_good hA (orV_good hB hC)) (orV_good (andV_good hA hB) (andV_good hA hC)) (by omega) fun p b0 b1 => ?_
  rw [andV_has hA (orV_good hB hC) p b0 b1, orV_has hB hC, orV_has (andV_good hA hB) (andV_good hA hC), andV_has hA hB p b0 b1, andV_has hA hC p b0 b1]
  cases hasP A p <;> cases hasP B p <;> cases hasP C p <;> rfl
end Go.Proofs.Ytdmjpdhjebmnfaa
