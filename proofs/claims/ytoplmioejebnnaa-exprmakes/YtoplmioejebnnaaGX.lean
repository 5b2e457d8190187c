/-
  Steps of regions, of the fifth layer: expressions in blocks and in rows, loaded and stored whole.
-/
import Derived.Test.YtoplmioejebnnaaXL
import Derived.Test.YtoplmioejebnnaaGB0
import Derived.Test.YtoplmioejebnnaaGD0
import Derived.Deep.Upon
set_option linter.unusedSimpArgs false
set_option linter.unusedVariables false
namespace Go.Proofs.Ytoplmioejebnnaa
open Go.RowKit

def ec0 : EC := ⟨0, 0, SC.zero, none, 0, 0⟩
theorem EC.val_list (c : EC) : c.val = .agg c.list.toArray := rfl
theorem EC.list_len (c : EC) : c.list.length = 7 := rfl
theorem EC.list_one (c : EC) : ∀ v ∈ c.list, v.oneCell' = true := by
  intro v hv
  unfold EC.list at hv
  simp only [List.mem_cons, List.not_mem_nil, or_false] at hv
  rcases hv with rfl | rfl | rfl | rfl | rfl | rfl | rfl <;> rfl
theorem infoEx : (Try.prog.info? 28).map (·.size) = some 7 := by kernel_rfl
theorem EcAt.range {w : World} {g o : Nat} {c : EC} (h : EcAt w g o c) : w.rangeAt g o c.list := by
  intro j v hv
  match j, hv with
  | 0, hv => simp [EC.list] at hv; subst hv; exact h.c0
  | 1, hv => simp [EC.list] at hv; subst hv; exact h.c1
  | 2, hv => simp [EC.list] at hv; subst hv; exact h.c2
  | 3, hv => simp [EC.list] at hv; subst hv; exact h.c3
  | 4, hv => simp [EC.list] at hv; subst hv; exact h.c4
  | 5, hv => simp [EC.list] at hv; subst hv; exact h.c5
  | 6, hv => simp [EC.list] at hv; subst hv; exact h.c6
  | n + 7, hv => simp [EC.list] at hv
theorem EcAt.ofRange {w : World} {g o : Nat} {c : EC} (h : w.rangeAt g o c.list) : EcAt w g o c :=
  ⟨h 0 _ rfl, h 1 _ rfl, h 2 _ rfl, h 3 _ rfl, h 4 _ rfl, h 5 _ rfl, h 6 _ rfl⟩
/-- An expression in a block of its own. -/
def ExIn (w : World) (g : Nat) (c : EC) : Prop := w.heap[g]? = some (exObj c)
theorem ExIn.on {w w' : World} {g : Nat} {c : EC} (h : ExIn w g c) (hb : Below w.heap.size w w') : ExIn w' g c := (hb.block _ (lt_heap h)).trans h
theorem ExIn.ec {w : World} {g : Nat} {c : EC} (h : ExIn w g c) : EcAt w g 0 c := by
  obtain ⟨c0, c1, c2, c3, c4, c5, c6⟩ := ecCells1 h
  exact ⟨c0, c1, c2, c3, c4, c5, c6⟩
/-- A row of expressions in a block that may be written. -/
structure RowX (w : World) (b n : Nat) (es : Nat → EC) : Prop where
  els : ∀ j, j < n → EcAt w b (j * 7) (es j)
  soft : ∀ i, w.frozen? ⟨b, i, none⟩ = false
theorem EcAt.ofBlock {w w' : World} {g o : Nat} {c : EC} (h : EcAt w g o c) (hb : w'.heap[g]? = w.heap[g]?) : EcAt w' g o c :=
  ⟨(World.cell?_of_block (a := ⟨g, _, none⟩) hb).trans h.c0, (World.cell?_of_block (a := ⟨g, _, none⟩) hb).trans h.c1, (World.cell?_of_block (a := ⟨g, _, none⟩) hb).trans h.c2, (World.cell?_of_block (a := ⟨g, _, none⟩) hb).trans h.c3, (World.cell?_of_block (a := ⟨g, _, none⟩) hb).trans h.c4, (World.cell?_of_block (a := ⟨g, _, none⟩) hb).trans h.c5, (World.cell?_of_block (a := ⟨g, _, none⟩) hb).trans h.c6⟩
theorem RowX.ofBlock {w w' : World} {b n : Nat} {es : Nat → EC} (h : RowX w b n es) (hb : w'.heap[b]? = w.heap[b]?) : RowX w' b n es :=
  ⟨fun j hj => (h.els j hj).ofBlock hb, fun i => (World.frozen?_of_block (a := ⟨b, i, none⟩) hb).trans (h.soft i)⟩
theorem RowX.there {w : World} {b n : Nat} {es : Nat → EC} (h : RowX w b n es) (k : Nat) (hk : k < n) : w.there b (k * 7) 7 := fun j hj => by
  refine ⟨?_, h.soft _⟩
  have := (h.els k hk).range j
  have hl : j < (es k).list.length := hj
  rw [this _ (List.getElem?_eq_getElem hl)]
  rfl
theorem RowX.put {w : World} {b n : Nat} {es : Nat → EC} (h : RowX w b n es) (k : Nat) (hk : k < n) (d : EC) : RowX (w.setCells b (k * 7) d.list) b n (fun j => if j = k then d else es j) := by
  refine ⟨fun j hj => ?_, fun i => ?_⟩
  · by_cases e : j = k
    · subst e
      rw [if_pos rfl]
      exact EcAt.ofRange (World.rangeAt_setCells_same w b (j * 7) d.list (h.there j hk))
    · rw [if_neg e]
      refine EcAt.ofRange (World.rangeAt_setCells_apart (h.els j hj).range b (k * 7) d.list ?_)
      rw [EC.list_len, EC.list_len]
      right
      omega
  · rw [World.frozen?_setCells]; exact h.soft i
theorem size_setCells (b : Nat) : ∀ (vs : List Value) (o : Nat) (w : World), (w.setCells b o vs).heap.size = w.heap.size
  | [], _, _ => rfl
  | v :: r, o, w => by
    rw [World.setCells, size_setCells b r (o + 1)]
    simp
theorem Below.setCells {B : Nat} {w0 : World} (b : Nat) (hb : B ≤ b) : ∀ (vs : List Value) (o : Nat) (w : World), Below B w0 w → Below B w0 (w.setCells b o vs)
  | [], _, _, h => h
  | v :: r, o, w, h => by
    rw [World.setCells]
    exact Below.setCells b hb r (o + 1) _ (h.setCell (p := ⟨b, o, none⟩) hb v)
theorem Kept.setCells {m b : Nat} (w : World) (o : Nat) (vs : List Value) (h : b < m) : Kept m w (w.setCells b o vs) :=
  ⟨Nat.le_of_eq (size_setCells b vs o w).symm, fun g hg hs => World.heap_setCells_other w b o vs hs (by omega)⟩

section
variable {ops : Array Oper} {Q : Exit → Act → World → Prop} {S : World → Prop} {o : Oper} {a : Act}
/-- An expression loaded whole, from a block of its own or out of a row. -/
theorem yl_ex (hw : Region.wanted o (yielded ops a.tmps) = true) (x : Operand) (ho : o.op = .load 28 x) (g k : Nat) (hx : a.eval x = .pointer (some ⟨g, k, none⟩)) (c : EC)
    (h : ∀ w, S w → EcAt w g k c) : YieldsIf Try.prog ops S o c.val a := by
  rw [EC.val_list]
  exact yieldsIf_load_mid hw 28 x ho g k hx c.list _ (fun w hS => (h w hS).range) Try.underlying28 rfl (by rw [infoEx]; rfl)
theorem yl_exSub (hw : Region.wanted o (yielded ops a.tmps) = true) (x : Operand) (ho : o.op = .fieldAddr 28 x 3) (g : Nat) (hx : a.eval x = .pointer (some ⟨g, 0, none⟩)) : YieldsIf Try.prog ops S o (.pointer (some ⟨g, 6, none⟩)) a :=
  Or.inl ⟨hw, fun w hS => by
    simp only [execOp, ho, hx]
    go_simp⟩
theorem yl_exRow (hw : Region.wanted o (yielded ops a.tmps) = true) (x : Operand) (ho : o.op = .load 26 x) (g k : Nat) (hx : a.eval x = .pointer (some ⟨g, k, none⟩)) (p : Option Addr) (n c : Nat) (h : ∀ w, S w → w.cell? ⟨g, k, none⟩ = some (.slice p n c)) : YieldsIf Try.prog ops S o (.slice p n c) a :=
  Or.inl ⟨hw, fun w hS => by
    have := h w hS
    simp only [execOp, ho, hx]
    go_simp⟩
set_option maxRecDepth 100000 in
theorem yl_exAt (hw : Region.wanted o (yielded ops a.tmps) = true) (x y : Operand) (ho : o.op = .indexAddr 26 x y) (b n c i : Nat) (hx : a.eval x = .slice (some ⟨b, 0, none⟩) n c) (hy : a.eval y = .int .i64 i) (hi : i < n) : YieldsIf Try.prog ops S o (.pointer (some ⟨b, i * 7, none⟩)) a :=
  Or.inl ⟨hw, fun w hS => by
    simp only [execOp, ho, hx, hy]
    go_simp⟩
theorem op_storeEx {i : Nat} {w : World} {K : Act → World → Prop} (hi : ops[i]? = some o) (hw : Region.wanted o (yielded ops a.tmps) = true) (x y : Operand) (ho : o.op = .store 28 x y) (b k : Nat) (d : EC) (hx : a.eval x = .pointer (some ⟨b, k, none⟩)) (hy : a.eval y = d.val) (ht : w.there b k 7)
    (h : K (a.put o.dst undef) (w.setCells b k d.list)) : wpOp Try.prog ops Q i K a w := by
  unfold wpOp
  simp only [hi]
  rw [if_pos hw]
  refine Or.inl ?_
  refine wp_store_mid 28 x y ho b k d.list.toArray hx hy ht (by rw [infoEx]; rfl) (all_oneCell_toArray d.list_one) ?_
  exact h
end
end Go.Proofs.Ytoplmioejebnnaa
