/-
  The form's own reach: how long the rows of a set that is read may be.
-/
import Derived.Test.YtoplmioejebnnaaXS
import Derived.SizedLaws
set_option linter.unusedSimpArgs false
set_option linter.unusedVariables false
namespace Go.Proofs.Ytoplmioejebnnaa
open Go.Deep Go.ChangeShapes Go.WideShapes Go.ChangeAt Go.WideMaps Go.WideElems Go.RowKit Go.Joins

theorem bytesRg : Try.prog.bytesOf 54 = 16 := by kernel_rfl
theorem bytesStr : Try.prog.bytesOf 9 = 16 := by kernel_rfl
theorem reach_num : reachBytes ≤ 140737488355328 := by decide
section
variable {H : Type} {enc : TypeId × Value → H} {W : World}
theorem row_sized {fuel : Nat} {t e : TypeId} {p : Option Addr} {n c : Nat} {y : DataW H × List MemPlace} (hu : Try.prog.underlying t = some (.slice e)) (hb : Try.prog.bytesOf e = 16) (hf : DataW.trod enc Try.prog W 0 (fun _ => true) true fuel t [.slice p n c] = some y)
    (hw : ∀ k ∈ y.1.weights Try.prog t, k ≤ reachBytes) : n * 16 ≤ reachBytes := by
  rcases DataW.trod_slice hu hf with ⟨h0, _⟩ | ⟨a, len, cap, elems, rest, m, _, h0, rfl, _, _, _, hel, _, _, _⟩
  · simp at h0
    rw [h0.2.1]
    simp
  · simp at h0
    obtain ⟨_, rfl, _⟩ := h0
    have := hw (((elems.map (·.1)).length + (rest.map (·.1)).length) * Try.prog.bytesOf e) (by simp [DataW.weights, hu])
    rw [hb, List.length_map, hel] at this
    exact Nat.le_trans (Nat.mul_le_mul_right 16 (Nat.le_add_right _ _)) this
set_option maxRecDepth 100000 in
theorem set_sized {s : SC} {S : SetV} {d : DataW H} {p : List MemPlace} (h : DataW.Trod enc Try.prog W 0 (fun _ => true) true 25 s.val d p) (hS : SetAt W s.val S) (hw : ∀ k ∈ d.weights Try.prog 25, k ≤ reachBytes) :
    S.ints.length * 16 ≤ 140737488355328 ∧ S.strs.length * 16 ≤ 140737488355328 := by
  obtain ⟨fuel, hf⟩ := h
  obtain ⟨xs, n, rfl, hx, hlen, hl, he⟩ := DataW.trod_struct Try.underlying25 hf
  injection hx with hd hp
  have g1 := he 1 _ rfl
  have g3 := he 3 _ rfl
  match xs, hl with
  | [y0, y1, y2, y3], _ =>
    simp only [SC.val, Value.cells, cellsB, cellsRs, cellsSs, List.drop_zero, List.drop_succ_cons, List.take_succ_cons, List.take_zero, List.getElem?_cons_zero, List.getElem?_cons_succ] at g1 g3
    subst hd
    have hw' : ∀ k ∈ DataW.weightsEach Try.prog [4, 22, 4, 23] [y0.1, y1.1, y2.1, y3.1], k ≤ reachBytes := by
      intro k hk
      refine hw k ?_
      simp only [DataW.weights, Try.underlying25]
      exact hk
    have r1 := row_sized Try.underlying22 bytesRg g1 (fun k hk => hw' k (DataW.weights_mem_each (j := 1) rfl rfl k hk))
    have r3 := row_sized Try.underlying23 bytesStr g3 (fun k hk => hw' k (DataW.weights_mem_each (j := 3) rfl rfl k hk))
    obtain ⟨a, cap, e1⟩ := (setAt_ints hS).form
    obtain ⟨b, cap', e3⟩ := (setAt_strs hS).form
    injection e1 with _ e1 _
    injection e3 with _ e3 _
    rw [e1] at r1
    rw [e3] at r3
    exact ⟨Nat.le_trans r1 reach_num, Nat.le_trans r3 reach_num⟩
end
end Go.Proofs.Ytoplmioejebnnaa
