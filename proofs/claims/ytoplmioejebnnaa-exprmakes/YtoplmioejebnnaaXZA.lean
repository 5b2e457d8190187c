/-
  The walk of the law ExprMakes: what its operations have made.
-/
import Derived.Test.YtoplmioejebnnaaXY
set_option linter.unusedSimpArgs false
set_option linter.unusedVariables false
namespace Go.Proofs.Ytoplmioejebnnaa
open Go.RowKit

/-- An expression of the call's own: its new memory lies between two blocks. -/
def NewX (w0 : World) (n : Nat) (w : World) (z : Vg) (x : ExV) : Prop :=
  ∃ u : EC, z.1 = u.val ∧ z.2.2 ≤ w.heap.size ∧ ∀ w'' : World, z.2.2 ≤ w''.heap.size → (∀ g, z.2.1 ≤ g → g < z.2.2 → w''.heap[g]? = w.heap[g]?) → Below w0.heap.size w0 w'' → ExAt n w'' u.val x
theorem NewX.on {w0 : World} {n : Nat} {w w' : World} {z : Vg} {x : ExV} (h : NewX w0 n w z x) (hb : Below w.heap.size w w') : NewX w0 n w' z x := by
  obtain ⟨u, h1, h2, h3⟩ := h
  exact ⟨u, h1, Nat.le_trans h2 hb.size, fun w'' k1 k2 k3 => h3 w'' k1 (fun g m1 m2 => (k2 g m1 m2).trans (hb.block g (by omega))) k3⟩
theorem cut_held {md : Region.Mode} {ops : Array Oper} {Q : Exit → Act → World → Prop} {S : World → Prop} {fuel : Nat} {listed : Array Bool} {a : Act} {w : World} (N : Act → World → Prop) (listed2 : Array Bool) (fuel2 : Nat) (hnext : ∀ a W, N a W → wpAnyH Try.prog md ops Q S fuel2 listed2 a W)
    (hnow : (∀ a W, N a W → wpAnyH Try.prog md ops Q S fuel2 listed2 a W) → wpAnyH Try.prog md ops Q S fuel listed a w) : wpAnyH Try.prog md ops Q S fuel listed a w := hnow hnext
theorem held_eq {md : Region.Mode} {ops : Array Oper} {Q : Exit → Act → World → Prop} {S : World → Prop} {fuel : Nat} {listed listed2 : Array Bool} {a : Act} {w : World} (e : listed = listed2) (h : wpAnyH Try.prog md ops Q S fuel listed2 a w) : wpAnyH Try.prog md ops Q S fuel listed a w := by rw [e]; exact h
theorem cp_two {n : Nat} {x y : ExV} (hx : cpX n x) (hy : cpX n y) : ∀ z ∈ [x, y], cpX n z := fun z hz => by
  simp only [List.mem_cons, List.not_mem_nil, or_false] at hz
  rcases hz with rfl | rfl
  · exact hx
  · exact hy
theorem eval_some {x : ExV} {e : EvV} (h : evalX x e = true) : evalX (andX []) e = true := by
  rw [eval_none]
  unfold evalX at h
  rw [Bool.and_eq_true, Bool.and_eq_true] at h
  exact h.1.2
def mkR (c d : EC) (x y : ExV) (w0 : World) : Nat → World → Vg → Prop
  | 0, _, z => z.1 = c.val
  | 1, _, z => z.1 = d.val
  | 2, w, z => RowsY 19 w0 w z.1 [x, y]
  | 3, w, z => NewX w0 20 w z (andX [x, y])
  | 4, _, z => z.1 = c.val
  | 5, _, z => z.1 = d.val
  | 6, w, z => RowsY 19 w0 w z.1 [x, y]
  | 7, w, z => NewX w0 20 w z (orX [x, y])
  | 8, _, z => z.1 = c.val
  | 9, w, z => NewX w0 20 w z (notX x)
  | 10, w, z => z.1 = .pointer (some ⟨z.2.1, 0, none⟩) ∧ z.2.2 = z.2.1 + 1 ∧ ExIn w z.2.1 ec0
  | 11, w, z => z.1 = .pointer (some ⟨z.2.1, 0, none⟩) ∧ z.2.2 = z.2.1 + 1 ∧ ExIn w z.2.1 ec0
  | 12, w, z => z.1 = .pointer (some ⟨z.2.1, 0, none⟩) ∧ z.2.2 = z.2.1 + 1 ∧ ExIn w z.2.1 ec0
  | _ + 13, _, _ => True
theorem mkR_on (c d : EC) (x y : ExV) (w0 : World) : ∀ i w w' z, mkR c d x y w0 i w z → Below w.heap.size w w' → mkR c d x y w0 i w' z
  | 0, _, _, _, h, _ => h
  | 1, _, _, _, h, _ => h
  | 2, _, _, _, h, hb => RowsY.grow h hb
  | 3, _, _, _, h, hb => NewX.on h hb
  | 4, _, _, _, h, _ => h
  | 5, _, _, _, h, _ => h
  | 6, _, _, _, h, hb => RowsY.grow h hb
  | 7, _, _, _, h, hb => NewX.on h hb
  | 8, _, _, _, h, _ => h
  | 9, _, _, _, h, hb => NewX.on h hb
  | 10, _, _, _, h, hb => ⟨h.1, h.2.1, h.2.2.on hb⟩
  | 11, _, _, _, h, hb => ⟨h.1, h.2.1, h.2.2.on hb⟩
  | 12, _, _, _, h, hb => ⟨h.1, h.2.1, h.2.2.on hb⟩
  | _ + 13, _, _, _, _, _ => trivial
end Go.Proofs.Ytoplmioejebnnaa
