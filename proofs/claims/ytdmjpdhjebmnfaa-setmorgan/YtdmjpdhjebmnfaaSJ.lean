/-
  Right sets with the same values are the same.
-/
import Derived.Test.YtdmjpdhjebmnfaaSI
set_option linter.unusedSimpArgs false
set_option linter.unusedVariables false
namespace Go.Proofs.Ytdmjpdhjebmnfaa

theorem inStrs_not {l : List ByteArray} {s : ByteArray} (h : s ∉ l) : inStrsB l s = false := by
  cases e : inStrsB l s
  · rfl
  · exact absurd ((inStrs_iff _ _).1 e) h
/-- A short string that neither row has. -/
theorem some_fresh (a b : List ByteArray) (h : a.length + b.length < 100000) : ∃ t : ByteArray, t.size ≤ 8 ∧ t ∉ a ∧ t ∉ b := by
  obtain ⟨i, hi, hf⟩ := fresh_out (fun i => (tryS ⟨#[126]⟩ i).data.toList) (fun i j e => tryS_inj _ i j (by
    apply ByteArray.ext
    exact Array.toList_inj.1 e)) ((a ++ b).map fun x => x.data.toList) 100000 (by rw [List.length_map, List.length_append]; exact h)
  refine ⟨tryS ⟨#[126]⟩ i, fresh_short hi, fun hm => hf ?_, fun hm => hf ?_⟩
  · exact List.mem_map.2 ⟨_, List.mem_append_left _ hm, rfl⟩
  · exact List.mem_map.2 ⟨_, List.mem_append_right _ hm, rfl⟩
/-- Two right sets that have the same values are the same. -/
theorem set_ext (A B : SetV) (rA : rightSet A = true) (rB : rightSet B = true) (iA : inI64 A.ints) (iB : inI64 B.ints) (hn : A.strs.length + B.strs.length < 100000)
    (h : ∀ p : Va, -9223372036854775808 ≤ p.2.1 → p.2.1 ≤ 9223372036854775807 → hasP A p = hasP B p) : A = B := by
  obtain ⟨rAi, rAs⟩ := (rightSet_iff A).1 rA
  obtain ⟨rBi, rBs⟩ := (rightSet_iff B).1 rB
  have e1 : A.absent = B.absent := by
    have := h (0, 0, noS) (by dsimp only; omega) (by dsimp only; omega)
    rwa [has_abs, has_abs] at this
  have e2 : A.ints = B.ints := by
    refine rightR_ext64 _ _ rAi rBi iA iB fun n h0 h1 => ?_
    have := h (1, n, noS) h0 h1
    rw [has_num, has_num] at this
    rw [← inInts_iff, ← inInts_iff, this]
  have e3 : A.co = B.co := by
    obtain ⟨t, t8, ta, tb⟩ := some_fresh A.strs B.strs hn
    have := h (2, 0, t) (by dsimp only; omega) (by dsimp only; omega)
    rw [has_str A t8, has_str B t8, inStrs_not ta, inStrs_not tb] at this
    revert this
    cases A.co <;> cases B.co <;> simp
  have e4 : A.strs = B.strs := by
    refine rightS_ext _ _ rAs rBs fun s => ?_
    by_cases s8 : s.size ≤ 8
    · have := h (2, 0, s) (by dsimp only; omega) (by dsimp only; omega)
      rw [has_str A s8, has_str B s8, e3] at this
      rw [← inStrs_iff, ← inStrs_iff]
      revert this
      cases inStrsB A.strs s <;> cases inStrsB B.strs s <;> cases B.co <;> simp
    · exact ⟨fun hs => absurd (rAs.1 s hs) s8, fun hs => absurd (rBs.1 s hs) s8⟩
  obtain ⟨a1, a2, a3, a4⟩ := A
  obtain ⟨b1, b2, b3, b4⟩ := B
  dsimp only at *
  subst e1 e2 e3 e4
  rfl
/-- Who lie in one another are the same. -/
theorem inSet_same (A B : SetV) (rA : rightSet A = true) (rB : rightSet B = true) (iA : inI64 A.ints) (iB : inI64 B.ints) (hn : A.strs.length + B.strs.length < 100000) (h1 : inSet A B) (h2 : inSet B A) : A = B :=
  set_ext A B rA rB iA iB hn fun p b0 b1 => by
    have x := h1 p b0 b1
    have y := h2 p b0 b1
    cases ha : hasP A p <;> cases hb : hasP B p
    · rfl
    · rw [ha, hb] at y; simp at y
    · rw [ha, hb] at x; simp at x
    · rfl
theorem inSet_refl (A : SetV) : inSet A A := fun _ _ _ h => h
end Go.Proofs.Ytdmjpdhjebmnfaa
