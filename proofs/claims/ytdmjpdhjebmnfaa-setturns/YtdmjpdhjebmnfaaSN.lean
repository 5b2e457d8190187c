/-
  Region 4 of the law SetTurns, by an invariant over what has been listed. (Written by wip/tools/mksn.py.)
-/
import Derived.Test.YtdmjpdhjebmnfaaSO
set_option linter.unusedSimpArgs false
set_option linter.unusedVariables false
namespace Go.Proofs.Ytdmjpdhjebmnfaa
open Go.RowKit

def ops4 (ps : String) : Array Oper := #[{ dst := some 42, op := .load 25 (.tmp 3), type := 25, pos := ps, after := #[], guard := none },
  { dst := some 43, op := .call { callee := .value (.func 11), args := #[.tmp 42], argTypes := #[25] }, type := 25, pos := ps, after := #[{ on := 0, ground := .data }], guard := none },
  { dst := some 44, op := .load 25 (.tmp 3), type := 25, pos := ps, after := #[], guard := none },
  { dst := some 45, op := .load 25 (.tmp 4), type := 25, pos := ps, after := #[], guard := none },
  { dst := some 46, op := .call { callee := .value (.func 12), args := #[.tmp 44, .tmp 45], argTypes := #[25, 25] }, type := 25, pos := ps, after := #[{ on := 2, ground := .data }, { on := 3, ground := .data }, { on := 1, ground := .chain }], guard := none },
  { dst := some 47, op := .load 25 (.tmp 3), type := 25, pos := ps, after := #[], guard := none },
  { dst := some 48, op := .load 25 (.tmp 4), type := 25, pos := ps, after := #[], guard := none },
  { dst := some 49, op := .call { callee := .value (.func 13), args := #[.tmp 47, .tmp 48], argTypes := #[25, 25] }, type := 25, pos := ps, after := #[{ on := 5, ground := .data }, { on := 6, ground := .data }, { on := 4, ground := .chain }], guard := none },
  { dst := some 8, op := .alloc 25, type := 0, pos := ps, after := #[], guard := none },
  { dst := some 9, op := .alloc 25, type := 0, pos := ps, after := #[], guard := none },
  { dst := some 10, op := .alloc 25, type := 0, pos := ps, after := #[], guard := none },
  { dst := none, op := .store 25 (.tmp 8) (.tmp 43), type := 0, pos := ps, after := #[{ on := 8, ground := .data }, { on := 1, ground := .data }, { on := 7, ground := .chain }, { on := 0, ground := .phase }, { on := 1, ground := .phase }, { on := 2, ground := .textOnly .lateStores }, { on := 3, ground := .textOnly .lateStores }, { on := 4, ground := .textOnly .lateStoresUnsure }, { on := 5, ground := .textOnly .lateStores }, { on := 6, ground := .textOnly .lateStores }, { on := 7, ground := .textOnly .lateStoresUnsure }, { on := 8, ground := .phase }, { on := 9, ground := .phase }, { on := 10, ground := .phase }], guard := none },
  { dst := none, op := .store 25 (.tmp 9) (.tmp 46), type := 0, pos := ps, after := #[{ on := 9, ground := .data }, { on := 4, ground := .data }, { on := 11, ground := .chain }, { on := 0, ground := .phase }, { on := 1, ground := .phase }, { on := 2, ground := .phase }, { on := 3, ground := .phase }, { on := 4, ground := .phase }, { on := 5, ground := .textOnly .lateStores }, { on := 6, ground := .textOnly .lateStores }, { on := 7, ground := .textOnly .lateStoresUnsure }, { on := 8, ground := .phase }, { on := 9, ground := .phase }, { on := 10, ground := .phase }, { on := 11, ground := .phase }], guard := none },
  { dst := none, op := .store 25 (.tmp 10) (.tmp 49), type := 0, pos := ps, after := #[{ on := 10, ground := .data }, { on := 7, ground := .data }, { on := 12, ground := .chain }, { on := 0, ground := .phase }, { on := 1, ground := .phase }, { on := 2, ground := .phase }, { on := 3, ground := .phase }, { on := 4, ground := .phase }, { on := 5, ground := .phase }, { on := 6, ground := .phase }, { on := 7, ground := .phase }, { on := 8, ground := .phase }, { on := 9, ground := .phase }, { on := 10, ground := .phase }, { on := 11, ground := .phase }, { on := 12, ground := .phase }], guard := none }]

def cellsOf : Value → Array Value
  | .agg c => c
  | _ => #[]
def zero4 : Array Value := #[.bool false, .slice none 0 0, .bool false, .slice none 0 0]
/-- The box is there, with what has been laid into it. -/
def Box4 (w0 w : World) (b c : Bool) (y x : Value) : Prop := b = true → ∃ p, y = .pointer (some ⟨p, 0, none⟩) ∧ w0.heap.size ≤ p ∧ w.heap[p]? = some (.cells (if c then cellsOf x else zero4) 25 (0, 0))
theorem Box4.on {w0 w w' : World} {b c : Bool} {y x : Value} (h : Box4 w0 w b c y x) (hb : Below w.heap.size w w') : Box4 w0 w' b c y x := fun e => by
  obtain ⟨p, h1, h2, h3⟩ := h e
  exact ⟨p, h1, h2, (hb.block _ (lt_heap h3)).trans h3⟩
theorem Box4.lt {w0 w : World} {b c : Bool} {y x : Value} (h : Box4 w0 w b c y x) (e : b = true) (y' : Value) (hy : y' = .pointer (some ⟨w.heap.size, 0, none⟩)) : y ≠ y' := by
  obtain ⟨p, h1, h2, h3⟩ := h e
  have := lt_heap h3
  rw [h1, hy]
  intro e'
  have e2 : p = w.heap.size := by injection e' with e'; injection e' with e'; injection e' with e'
  omega
structure Inv4 (A B : SetV) (v u : Value) (w0 w : World) (b0 b1 b2 b3 b4 b5 b6 b7 b8 b9 b10 b11 b12 b13 : Bool) (y8 y9 y10 y42 y43 y44 y45 y46 y47 y48 y49 : Value) : Prop where
  b : Below w0.heap.size w0 w
  i0 : b0 = true → y42 = v
  i2 : b2 = true → y44 = v
  i3 : b3 = true → y45 = u
  i5 : b5 = true → y47 = v
  i6 : b6 = true → y48 = u
  i1 : b1 = true → SetAt w y43 (notV A)
  i4 : b4 = true → SetAt w y46 (orV A B)
  i7 : b7 = true → SetAt w y49 (andV A B)
  i8 : Box4 w0 w b8 b11 y8 y43
  i9 : Box4 w0 w b9 b12 y9 y46
  i10 : Box4 w0 w b10 b13 y10 y49
  d1 : b8 = true → b9 = true → y8 ≠ y9
  d2 : b8 = true → b10 = true → y8 ≠ y10
  d3 : b9 = true → b10 = true → y9 ≠ y10
  o1 : b11 = true → b1 = true ∧ b4 = true ∧ b7 = true ∧ b8 = true ∧ b9 = true ∧ b10 = true
  o2 : b12 = true → b11 = true
  o3 : b13 = true → b12 = true
  o4 : b7 = true → b4 = true
  o5 : b4 = true → b1 = true
theorem Box4.swap {w0 w : World} {b c : Bool} {y x : Value} (x' : Value) (hc : c = false) (h : Box4 w0 w b c y x) : Box4 w0 w b c y x' := by
  subst hc
  intro e
  obtain ⟨p, h1, h2, h3⟩ := h e
  exact ⟨p, h1, h2, by simpa using h3⟩
theorem setCell_at {w : World} {p o : Nat} {c : Array Value} {t : TypeId} {fz : Nat × Nat} (h : w.heap[p]? = some (.cells c t fz)) (x : Value) : (w.setCell ⟨p, o, none⟩ x).heap[p]? = some (.cells (c.setIfInBounds o x) t fz) := by
  unfold World.setCell
  simp only [Array.getElem?_modify, h]
  simp
theorem setCell_ne {w : World} {p o k : Nat} (x : Value) (hk : k ≠ p) : (w.setCell ⟨p, o, none⟩ x).heap[k]? = w.heap[k]? := by
  unfold World.setCell
  simp only [Array.getElem?_modify]
  rw [if_neg (fun e => hk e.symm)]
theorem setCell_size {w : World} {p o : Nat} (x : Value) : (w.setCell ⟨p, o, none⟩ x).heap.size = w.heap.size := by
  unfold World.setCell
  simp
/-- Four cells of one block written: what is left as it was. -/
structure Wrote4 (w w' : World) (p : Nat) (o : Obj) : Prop where
  lies : w'.heap[p]? = some o
  ne : ∀ k, k ≠ p → w'.heap[k]? = w.heap[k]?
  size : w'.heap.size = w.heap.size
  os : w'.os = w.os
  tape : w'.tape = w.tape
  output : w'.output = w.output
theorem wrote4 {w : World} {p : Nat} {a0 a1 a2 a3 : Value} {t : TypeId} {fz : Nat × Nat} (h : w.heap[p]? = some (.cells #[a0, a1, a2, a3] t fz)) (x0 x1 x2 x3 : Value) :
    Wrote4 w ((((w.setCell ⟨p, 0, none⟩ x0).setCell ⟨p, 1, none⟩ x1).setCell ⟨p, 2, none⟩ x2).setCell ⟨p, 3, none⟩ x3) p (.cells #[x0, x1, x2, x3] t fz) := by
  refine ⟨setCell_at (setCell_at (setCell_at (setCell_at h x0) x1) x2) x3, fun k hk => ?_, ?_, rfl, rfl, rfl⟩
  · rw [setCell_ne _ hk, setCell_ne _ hk, setCell_ne _ hk, setCell_ne _ hk]
  · rw [setCell_size, setCell_size, setCell_size, setCell_size]
theorem below_wrote {w0 w w' : World} {p : Nat} {o : Obj} (h : Below w0.heap.size w0 w) (hp : w0.heap.size ≤ p) (hw : Wrote4 w w' p o) : Below w0.heap.size w0 w' :=
  ⟨hw.os.trans h.os, hw.tape.trans h.tape, hw.output.trans h.output, hw.size ▸ h.size, fun k hk => (hw.ne k (by omega)).trans (h.block k hk)⟩
theorem SetAt.wrote {w w' : World} {v : Value} {S : SetV} {p : Nat} {o : Obj} {t : TypeId} {fz : Nat × Nat} (h : SetAt w v S) (hp : w.heap[p]? = some (.cells zero4 t fz)) (hw : Wrote4 w w' p o) : SetAt w' v S :=
  h.aside hp (Nat.le_of_eq hw.size.symm) hw.ne
theorem Box4.wrote {w0 w w' : World} {b c : Bool} {y x z : Value} {p : Nat} {o : Obj} (h : Box4 w0 w b c y x) (hz : z = .pointer (some ⟨p, 0, none⟩)) (hn : b = true → y ≠ z) (hw : Wrote4 w w' p o) : Box4 w0 w' b c y x := fun e => by
  obtain ⟨q, h1, h2, h3⟩ := h e
  refine ⟨q, h1, h2, (hw.ne q ?_).trans h3⟩
  rintro rfl
  exact hn e (h1.trans hz.symm)

theorem wpOp_of {P : Program} {ops : Array Oper} {Q : Exit → Act → World → Prop} {i : Nat} {K0 : Act → World → Prop} {a : Act} {w : World} (o : Oper) (h : ops[i]? = some o) (hg : o.guard = none)
    (hh : ∀ K : Act → World → Prop, Hid (∀ a' w', K0 a' w' → K a' w') → o.wp P a w K Q) : wpOp P ops Q i K0 a w := by
  unfold wpOp
  rw [h]
  simp only [Region.wanted, hg]
  rw [if_pos (by simp)]
  exact Or.inl (hh K0 (hide fun _ _ h => h))

theorem ready4 {ps : String} {i : Nat} {b0 b1 b2 b3 b4 b5 b6 b7 b8 b9 b10 b11 b12 b13 : Bool} (h : i ∈ Region.ready .any (ops4 ps) #[b0, b1, b2, b3, b4, b5, b6, b7, b8, b9, b10, b11, b12, b13]) : (i = 0 ∧ b0 = false) ∨ (i = 1 ∧ b1 = false ∧ b0 = true) ∨ (i = 2 ∧ b2 = false) ∨ (i = 3 ∧ b3 = false) ∨ (i = 4 ∧ b4 = false ∧ b1 = true ∧ b2 = true ∧ b3 = true) ∨ (i = 5 ∧ b5 = false) ∨ (i = 6 ∧ b6 = false) ∨ (i = 7 ∧ b7 = false ∧ b4 = true ∧ b5 = true ∧ b6 = true) ∨ (i = 8 ∧ b8 = false) ∨ (i = 9 ∧ b9 = false) ∨ (i = 10 ∧ b10 = false) ∨ (i = 11 ∧ b11 = false ∧ b0 = true ∧ b1 = true ∧ b7 = true ∧ b8 = true ∧ b9 = true ∧ b10 = true) ∨ (i = 12 ∧ b12 = false ∧ b0 = true ∧ b1 = true ∧ b2 = true ∧ b3 = true ∧ b4 = true ∧ b8 = true ∧ b9 = true ∧ b10 = true ∧ b11 = true) ∨ (i = 13 ∧ b13 = false ∧ b0 = true ∧ b1 = true ∧ b2 = true ∧ b3 = true ∧ b4 = true ∧ b5 = true ∧ b6 = true ∧ b7 = true ∧ b8 = true ∧ b9 = true ∧ b10 = true ∧ b11 = true ∧ b12 = true) := by
  obtain ⟨hi, -⟩ := ready_lt h
  have hi' : i < 14 := hi
  unfold Region.ready at h
  rw [List.mem_filter] at h
  replace h := h.2
  match i, hi' with
  | 0, _ => simp [ops4, Region.binds] at h ⊢; simp [h]
  | 1, _ => simp [ops4, Region.binds] at h ⊢; simp [h]
  | 2, _ => simp [ops4, Region.binds] at h ⊢; simp [h]
  | 3, _ => simp [ops4, Region.binds] at h ⊢; simp [h]
  | 4, _ => simp [ops4, Region.binds] at h ⊢; simp [h]
  | 5, _ => simp [ops4, Region.binds] at h ⊢; simp [h]
  | 6, _ => simp [ops4, Region.binds] at h ⊢; simp [h]
  | 7, _ => simp [ops4, Region.binds] at h ⊢; simp [h]
  | 8, _ => simp [ops4, Region.binds] at h ⊢; simp [h]
  | 9, _ => simp [ops4, Region.binds] at h ⊢; simp [h]
  | 10, _ => simp [ops4, Region.binds] at h ⊢; simp [h]
  | 11, _ => simp [ops4, Region.binds] at h ⊢; simp [h]
  | 12, _ => simp [ops4, Region.binds] at h ⊢; simp [h]
  | 13, _ => simp [ops4, Region.binds] at h ⊢; simp [h]

theorem done4 {ps : String} {b0 b1 b2 b3 b4 b5 b6 b7 b8 b9 b10 b11 b12 b13 : Bool} (h : Region.ready .any (ops4 ps) #[b0, b1, b2, b3, b4, b5, b6, b7, b8, b9, b10, b11, b12, b13] = []) : b0 = true ∧ b1 = true ∧ b2 = true ∧ b3 = true ∧ b4 = true ∧ b5 = true ∧ b6 = true ∧ b7 = true ∧ b8 = true ∧ b9 = true ∧ b10 = true ∧ b11 = true ∧ b12 = true ∧ b13 = true := by
  have hn : ∀ i, ¬ i ∈ Region.ready .any (ops4 ps) #[b0, b1, b2, b3, b4, b5, b6, b7, b8, b9, b10, b11, b12, b13] := fun i => by rw [h]; simp
  clear h
  have hm : ∀ i, i < 14 → ¬ ((!(#[b0, b1, b2, b3, b4, b5, b6, b7, b8, b9, b10, b11, b12, b13]).getD i true && (((ops4 ps)[i]?).map (·.after.all fun e => !Region.binds .any e || (#[b0, b1, b2, b3, b4, b5, b6, b7, b8, b9, b10, b11, b12, b13]).getD e.on false)).getD false) = true) := fun i hi hc => hn i (by unfold Region.ready; rw [List.mem_filter]; exact ⟨List.mem_range.2 hi, hc⟩)
  clear hn
  have h0 := hm 0 (by omega)
  simp [ops4, Region.binds] at h0
  have g0 : b0 = true := by simpa using h0
  have h2 := hm 2 (by omega)
  simp [ops4, Region.binds] at h2
  have g2 : b2 = true := by simpa using h2
  have h3 := hm 3 (by omega)
  simp [ops4, Region.binds] at h3
  have g3 : b3 = true := by simpa using h3
  have h5 := hm 5 (by omega)
  simp [ops4, Region.binds] at h5
  have g5 : b5 = true := by simpa using h5
  have h6 := hm 6 (by omega)
  simp [ops4, Region.binds] at h6
  have g6 : b6 = true := by simpa using h6
  have h8 := hm 8 (by omega)
  simp [ops4, Region.binds] at h8
  have g8 : b8 = true := by simpa using h8
  have h9 := hm 9 (by omega)
  simp [ops4, Region.binds] at h9
  have g9 : b9 = true := by simpa using h9
  have h10 := hm 10 (by omega)
  simp [ops4, Region.binds] at h10
  have g10 : b10 = true := by simpa using h10
  have h1 := hm 1 (by omega)
  simp [ops4, Region.binds] at h1
  have g1 : b1 = true := by simpa [g0] using h1
  have h4 := hm 4 (by omega)
  simp [ops4, Region.binds] at h4
  have g4 : b4 = true := by simpa [g1, g2, g3] using h4
  have h7 := hm 7 (by omega)
  simp [ops4, Region.binds] at h7
  have g7 : b7 = true := by simpa [g4, g5, g6] using h7
  have h11 := hm 11 (by omega)
  simp [ops4, Region.binds] at h11
  have g11 : b11 = true := by simpa [g0, g1, g7, g8, g9, g10] using h11
  have h12 := hm 12 (by omega)
  simp [ops4, Region.binds] at h12
  have g12 : b12 = true := by simpa [g0, g1, g2, g3, g4, g8, g9, g10, g11] using h12
  have h13 := hm 13 (by omega)
  simp [ops4, Region.binds] at h13
  have g13 : b13 = true := by simpa [g0, g1, g2, g3, g4, g5, g6, g7, g8, g9, g10, g11, g12] using h13
  exact ⟨g0, g1, g2, g3, g4, g5, g6, g7, g8, g9, g10, g11, g12, g13⟩

set_option maxHeartbeats 4000000 in
set_option maxRecDepth 100000 in
theorem region4 {ps : String} (P : SetProg) (A B : SetV) (vi vs ui us : Value) (fA : Fit A) (fB : Fit B) (q3 q4 : Nat) (x0 x1 x2 x5 x6 x7 x8 x9 x10 x11 x12 x13 x14 x15 x16 x17 x18 x19 x20 x21 x22 x23 x24 x25 x26 x27 x28 x29 x30 x31 x32 x33 x34 x35 x36 x37 x38 x39 x40 x41 x42 x43 x44 x45 x46 x47 x48 x49 : Value) (rest : List Value) (ds : List Deferred) (w0 : World) (id : Nat) (Q : Exit → Act → World → Prop)
    (h3 : w0.heap[q3]? = some (.cells #[.bool A.absent, vi, .bool A.co, vs] 25 (0, 0))) (h4 : w0.heap[q4]? = some (.cells #[.bool B.absent, ui, .bool B.co, us] 25 (0, 0)))
    (hv : SetAt w0 (.agg #[.bool A.absent, vi, .bool A.co, vs]) A) (hu : SetAt w0 (.agg #[.bool B.absent, ui, .bool B.co, us]) B)
    (hQ : ∀ (w : World) (y8 y9 y10 y42 y43 y44 y45 y46 y47 y48 y49 : Value), Inv4 A B (.agg #[.bool A.absent, vi, .bool A.co, vs]) (.agg #[.bool B.absent, ui, .bool B.co, us]) w0 w true true true true true true true true true true true true true true y8 y9 y10 y42 y43 y44 y45 y46 y47 y48 y49 → Q .normal ⟨List.toArray (x0 :: x1 :: x2 :: (.pointer (some ⟨q3, 0, none⟩)) :: (.pointer (some ⟨q4, 0, none⟩)) :: x5 :: x6 :: x7 :: y8 :: y9 :: y10 :: x11 :: x12 :: x13 :: x14 :: x15 :: x16 :: x17 :: x18 :: x19 :: x20 :: x21 :: x22 :: x23 :: x24 :: x25 :: x26 :: x27 :: x28 :: x29 :: x30 :: x31 :: x32 :: x33 :: x34 :: x35 :: x36 :: x37 :: x38 :: x39 :: x40 :: x41 :: y42 :: y43 :: y44 :: y45 :: y46 :: y47 :: y48 :: y49 :: rest), ds⟩ w) :
    (Code.region id (ops4 ps) true).wp Try.prog Q ⟨List.toArray (x0 :: x1 :: x2 :: (.pointer (some ⟨q3, 0, none⟩)) :: (.pointer (some ⟨q4, 0, none⟩)) :: x5 :: x6 :: x7 :: x8 :: x9 :: x10 :: x11 :: x12 :: x13 :: x14 :: x15 :: x16 :: x17 :: x18 :: x19 :: x20 :: x21 :: x22 :: x23 :: x24 :: x25 :: x26 :: x27 :: x28 :: x29 :: x30 :: x31 :: x32 :: x33 :: x34 :: x35 :: x36 :: x37 :: x38 :: x39 :: x40 :: x41 :: x42 :: x43 :: x44 :: x45 :: x46 :: x47 :: x48 :: x49 :: rest), ds⟩ w0 := by
  refine wp_region_inv (by rfl) (fun l a w => ∃ (b0 b1 b2 b3 b4 b5 b6 b7 b8 b9 b10 b11 b12 b13 : Bool) (y8 y9 y10 y42 y43 y44 y45 y46 y47 y48 y49 : Value), l = #[b0, b1, b2, b3, b4, b5, b6, b7, b8, b9, b10, b11, b12, b13] ∧ a = ⟨List.toArray (x0 :: x1 :: x2 :: (.pointer (some ⟨q3, 0, none⟩)) :: (.pointer (some ⟨q4, 0, none⟩)) :: x5 :: x6 :: x7 :: y8 :: y9 :: y10 :: x11 :: x12 :: x13 :: x14 :: x15 :: x16 :: x17 :: x18 :: x19 :: x20 :: x21 :: x22 :: x23 :: x24 :: x25 :: x26 :: x27 :: x28 :: x29 :: x30 :: x31 :: x32 :: x33 :: x34 :: x35 :: x36 :: x37 :: x38 :: x39 :: x40 :: x41 :: y42 :: y43 :: y44 :: y45 :: y46 :: y47 :: y48 :: y49 :: rest), ds⟩ ∧ Inv4 A B (.agg #[.bool A.absent, vi, .bool A.co, vs]) (.agg #[.bool B.absent, ui, .bool B.co, us]) w0 w b0 b1 b2 b3 b4 b5 b6 b7 b8 b9 b10 b11 b12 b13 y8 y9 y10 y42 y43 y44 y45 y46 y47 y48 y49) ?_ ?_ ?_
  · refine ⟨false, false, false, false, false, false, false, false, false, false, false, false, false, false, x8, x9, x10, x42, x43, x44, x45, x46, x47, x48, x49, rfl, rfl, ⟨?_, by simp [Box4], by simp [Box4], by simp [Box4], by simp [Box4], by simp [Box4], by simp [Box4], by simp [Box4], by simp [Box4], by simp [Box4], by simp [Box4], by simp [Box4], by simp [Box4], by simp [Box4], by simp [Box4], by simp [Box4], by simp [Box4], by simp [Box4], by simp [Box4], by simp [Box4]⟩⟩
    · exact ⟨rfl, rfl, rfl, Nat.le_refl _, fun _ _ => rfl⟩
  · rintro l a w ⟨b0, b1, b2, b3, b4, b5, b6, b7, b8, b9, b10, b11, b12, b13, y8, y9, y10, y42, y43, y44, y45, y46, y47, y48, y49, rfl, rfl, I⟩ i hi
    have V := I.b
    have HV := hide (hv.on I.b)
    have HU := hide (hu.on I.b)
    have e3 := (I.b.block _ (lt_heap h3)).trans h3
    have e4 := (I.b.block _ (lt_heap h4)).trans h4
    obtain ⟨c0, c1, c2, c3⟩ := setCells e3
    obtain ⟨k0, k1, k2, k3⟩ := setCells e4
    have HI := hide I
    clear I e3 e4 V
    rcases ready4 hi with ⟨rfl, rfl⟩ | ⟨rfl, rfl, rfl⟩ | ⟨rfl, rfl⟩ | ⟨rfl, rfl⟩ | ⟨rfl, rfl, rfl, rfl, rfl⟩ | ⟨rfl, rfl⟩ | ⟨rfl, rfl⟩ | ⟨rfl, rfl, rfl, rfl, rfl⟩ | ⟨rfl, rfl⟩ | ⟨rfl, rfl⟩ | ⟨rfl, rfl⟩ | ⟨rfl, rfl, rfl, rfl, rfl, rfl, rfl, rfl⟩ | ⟨rfl, rfl, rfl, rfl, rfl, rfl, rfl, rfl, rfl, rfl, rfl⟩ | ⟨rfl, rfl, rfl, rfl, rfl, rfl, rfl, rfl, rfl, rfl, rfl, rfl, rfl, rfl, rfl⟩
    · refine wpOp_of ({ dst := some 42, op := .load 25 (.tmp 3), type := 25, pos := ps, after := #[], guard := none }) rfl rfl (fun K hK => ?_)
      clear hi
      go_simp
      exact hK.out _ _ ⟨true, b1, b2, b3, b4, b5, b6, b7, b8, b9, b10, b11, b12, b13, y8, y9, y10, (.agg #[.bool A.absent, vi, .bool A.co, vs]), y43, y44, y45, y46, y47, y48, y49, rfl, rfl, { HI.out with i0 := fun _ => rfl }⟩
    · refine wpOp_of ({ dst := some 43, op := .call { callee := .value (.func 11), args := #[.tmp 42], argTypes := #[25] }, type := 25, pos := ps, after := #[{ on := 0, ground := .data }], guard := none }) rfl rfl (fun K hK => ?_)
      clear hi
      go_simp
      refine (P.not y42 A w (by rw [HI.out.i0 rfl]; exact HV.out) fA).mono ?_
      rintro r w' ⟨⟨x, rfl, sx⟩, b'⟩
      have hb : b11 = false := Bool.eq_false_iff.2 (fun h => nomatch (HI.out.o1 h).1)
      exact hK.out _ _ ⟨true, true, b2, b3, b4, b5, b6, b7, b8, b9, b10, b11, b12, b13, y8, y9, y10, y42, x, y44, y45, y46, y47, y48, y49, rfl, rfl, { HI.out with b := HI.out.b.trans (b'.mono HI.out.b.size), i1 := fun _ => sx, i4 := fun e => (HI.out.i4 e).on b', i7 := fun e => (HI.out.i7 e).on b', i8 := (HI.out.i8.on b').swap _ hb, i9 := HI.out.i9.on b', i10 := HI.out.i10.on b', o1 := (fun e => nomatch hb.symm.trans e), o5 := fun _ => rfl }⟩
    · refine wpOp_of ({ dst := some 44, op := .load 25 (.tmp 3), type := 25, pos := ps, after := #[], guard := none }) rfl rfl (fun K hK => ?_)
      clear hi
      go_simp
      exact hK.out _ _ ⟨b0, b1, true, b3, b4, b5, b6, b7, b8, b9, b10, b11, b12, b13, y8, y9, y10, y42, y43, (.agg #[.bool A.absent, vi, .bool A.co, vs]), y45, y46, y47, y48, y49, rfl, rfl, { HI.out with i2 := fun _ => rfl }⟩
    · refine wpOp_of ({ dst := some 45, op := .load 25 (.tmp 4), type := 25, pos := ps, after := #[], guard := none }) rfl rfl (fun K hK => ?_)
      clear hi
      go_simp
      exact hK.out _ _ ⟨b0, b1, b2, true, b4, b5, b6, b7, b8, b9, b10, b11, b12, b13, y8, y9, y10, y42, y43, y44, (.agg #[.bool B.absent, ui, .bool B.co, us]), y46, y47, y48, y49, rfl, rfl, { HI.out with i3 := fun _ => rfl }⟩
    · refine wpOp_of ({ dst := some 46, op := .call { callee := .value (.func 12), args := #[.tmp 44, .tmp 45], argTypes := #[25, 25] }, type := 25, pos := ps, after := #[{ on := 2, ground := .data }, { on := 3, ground := .data }, { on := 1, ground := .chain }], guard := none }) rfl rfl (fun K hK => ?_)
      clear hi
      go_simp
      refine (P.or y44 y45 A B w (by rw [HI.out.i2 rfl]; exact HV.out) (by rw [HI.out.i3 rfl]; exact HU.out) fA fB).mono ?_
      rintro r w' ⟨⟨x, rfl, sx⟩, b'⟩
      have hb : b12 = false := Bool.eq_false_iff.2 (fun h => nomatch (HI.out.o1 (HI.out.o2 h)).2.1)
      exact hK.out _ _ ⟨b0, true, true, true, true, b5, b6, b7, b8, b9, b10, b11, b12, b13, y8, y9, y10, y42, y43, y44, y45, x, y47, y48, y49, rfl, rfl, { HI.out with b := HI.out.b.trans (b'.mono HI.out.b.size), i1 := fun e => (HI.out.i1 e).on b', i4 := fun _ => sx, i7 := fun e => (HI.out.i7 e).on b', i8 := HI.out.i8.on b', i9 := (HI.out.i9.on b').swap _ hb, i10 := HI.out.i10.on b', o1 := (fun e => nomatch (HI.out.o1 e).2.1), o4 := fun _ => rfl, o5 := fun _ => rfl }⟩
    · refine wpOp_of ({ dst := some 47, op := .load 25 (.tmp 3), type := 25, pos := ps, after := #[], guard := none }) rfl rfl (fun K hK => ?_)
      clear hi
      go_simp
      exact hK.out _ _ ⟨b0, b1, b2, b3, b4, true, b6, b7, b8, b9, b10, b11, b12, b13, y8, y9, y10, y42, y43, y44, y45, y46, (.agg #[.bool A.absent, vi, .bool A.co, vs]), y48, y49, rfl, rfl, { HI.out with i5 := fun _ => rfl }⟩
    · refine wpOp_of ({ dst := some 48, op := .load 25 (.tmp 4), type := 25, pos := ps, after := #[], guard := none }) rfl rfl (fun K hK => ?_)
      clear hi
      go_simp
      exact hK.out _ _ ⟨b0, b1, b2, b3, b4, b5, true, b7, b8, b9, b10, b11, b12, b13, y8, y9, y10, y42, y43, y44, y45, y46, y47, (.agg #[.bool B.absent, ui, .bool B.co, us]), y49, rfl, rfl, { HI.out with i6 := fun _ => rfl }⟩
    · refine wpOp_of ({ dst := some 49, op := .call { callee := .value (.func 13), args := #[.tmp 47, .tmp 48], argTypes := #[25, 25] }, type := 25, pos := ps, after := #[{ on := 5, ground := .data }, { on := 6, ground := .data }, { on := 4, ground := .chain }], guard := none }) rfl rfl (fun K hK => ?_)
      clear hi
      go_simp
      refine (P.and y47 y48 A B w (by rw [HI.out.i5 rfl]; exact HV.out) (by rw [HI.out.i6 rfl]; exact HU.out) fA fB).mono ?_
      rintro r w' ⟨⟨x, rfl, sx⟩, b'⟩
      have hb : b13 = false := Bool.eq_false_iff.2 (fun h => nomatch (HI.out.o1 (HI.out.o2 (HI.out.o3 h))).2.2.1)
      exact hK.out _ _ ⟨b0, b1, b2, b3, true, true, true, true, b8, b9, b10, b11, b12, b13, y8, y9, y10, y42, y43, y44, y45, y46, y47, y48, x, rfl, rfl, { HI.out with b := HI.out.b.trans (b'.mono HI.out.b.size), i1 := fun e => (HI.out.i1 e).on b', i4 := fun e => (HI.out.i4 e).on b', i7 := fun _ => sx, i8 := HI.out.i8.on b', i9 := HI.out.i9.on b', i10 := (HI.out.i10.on b').swap _ hb, o1 := (fun e => nomatch (HI.out.o1 e).2.2.1), o4 := fun _ => rfl }⟩
    · refine wpOp_of ({ dst := some 8, op := .alloc 25, type := 0, pos := ps, after := #[], guard := none }) rfl rfl (fun K hK => ?_)
      clear hi
      go_simp
      have b' := (Below.refl _ w).alloc (Nat.le_refl _) (.cells #[.bool false, .slice none 0 0, .bool false, .slice none 0 0] 25)
      have hb : b11 = false := Bool.eq_false_iff.2 (fun h => nomatch (HI.out.o1 h).2.2.2.1)
      exact hK.out _ _ ⟨b0, b1, b2, b3, b4, b5, b6, b7, true, b9, b10, b11, b12, b13, .pointer (some ⟨w.heap.size, 0, none⟩), y9, y10, y42, y43, y44, y45, y46, y47, y48, y49, rfl, rfl, { HI.out with b := HI.out.b.trans (b'.mono HI.out.b.size), i1 := fun e => (HI.out.i1 e).on b', i4 := fun e => (HI.out.i4 e).on b', i7 := fun e => (HI.out.i7 e).on b', i8 := fun _ => ⟨w.heap.size, rfl, HI.out.b.size, by rw [hb]; exact heap_new _ _⟩, i9 := HI.out.i9.on b', i10 := HI.out.i10.on b', d1 := fun _ e => (HI.out.i9.lt e _ rfl).symm, d2 := fun _ e => (HI.out.i10.lt e _ rfl).symm, o1 := (fun e => nomatch (HI.out.o1 e).2.2.2.1) }⟩
    · refine wpOp_of ({ dst := some 9, op := .alloc 25, type := 0, pos := ps, after := #[], guard := none }) rfl rfl (fun K hK => ?_)
      clear hi
      go_simp
      have b' := (Below.refl _ w).alloc (Nat.le_refl _) (.cells #[.bool false, .slice none 0 0, .bool false, .slice none 0 0] 25)
      have hb : b12 = false := Bool.eq_false_iff.2 (fun h => nomatch (HI.out.o1 (HI.out.o2 h)).2.2.2.2.1)
      exact hK.out _ _ ⟨b0, b1, b2, b3, b4, b5, b6, b7, b8, true, b10, b11, b12, b13, y8, .pointer (some ⟨w.heap.size, 0, none⟩), y10, y42, y43, y44, y45, y46, y47, y48, y49, rfl, rfl, { HI.out with b := HI.out.b.trans (b'.mono HI.out.b.size), i1 := fun e => (HI.out.i1 e).on b', i4 := fun e => (HI.out.i4 e).on b', i7 := fun e => (HI.out.i7 e).on b', i8 := HI.out.i8.on b', i9 := fun _ => ⟨w.heap.size, rfl, HI.out.b.size, by rw [hb]; exact heap_new _ _⟩, i10 := HI.out.i10.on b', d1 := fun e _ => HI.out.i8.lt e _ rfl, d3 := fun _ e => (HI.out.i10.lt e _ rfl).symm, o1 := (fun e => nomatch (HI.out.o1 e).2.2.2.2.1) }⟩
    · refine wpOp_of ({ dst := some 10, op := .alloc 25, type := 0, pos := ps, after := #[], guard := none }) rfl rfl (fun K hK => ?_)
      clear hi
      go_simp
      have b' := (Below.refl _ w).alloc (Nat.le_refl _) (.cells #[.bool false, .slice none 0 0, .bool false, .slice none 0 0] 25)
      have hb : b13 = false := Bool.eq_false_iff.2 (fun h => nomatch (HI.out.o1 (HI.out.o2 (HI.out.o3 h))).2.2.2.2.2)
      exact hK.out _ _ ⟨b0, b1, b2, b3, b4, b5, b6, b7, b8, b9, true, b11, b12, b13, y8, y9, .pointer (some ⟨w.heap.size, 0, none⟩), y42, y43, y44, y45, y46, y47, y48, y49, rfl, rfl, { HI.out with b := HI.out.b.trans (b'.mono HI.out.b.size), i1 := fun e => (HI.out.i1 e).on b', i4 := fun e => (HI.out.i4 e).on b', i7 := fun e => (HI.out.i7 e).on b', i8 := HI.out.i8.on b', i9 := HI.out.i9.on b', i10 := fun _ => ⟨w.heap.size, rfl, HI.out.b.size, by rw [hb]; exact heap_new _ _⟩, d2 := fun e _ => HI.out.i8.lt e _ rfl, d3 := fun e _ => HI.out.i9.lt e _ rfl, o1 := (fun e => nomatch (HI.out.o1 e).2.2.2.2.2) }⟩
    · refine wpOp_of ({ dst := none, op := .store 25 (.tmp 8) (.tmp 43), type := 0, pos := ps, after := #[{ on := 8, ground := .data }, { on := 1, ground := .data }, { on := 7, ground := .chain }, { on := 0, ground := .phase }, { on := 1, ground := .phase }, { on := 2, ground := .textOnly .lateStores }, { on := 3, ground := .textOnly .lateStores }, { on := 4, ground := .textOnly .lateStoresUnsure }, { on := 5, ground := .textOnly .lateStores }, { on := 6, ground := .textOnly .lateStores }, { on := 7, ground := .textOnly .lateStoresUnsure }, { on := 8, ground := .phase }, { on := 9, ground := .phase }, { on := 10, ground := .phase }], guard := none }) rfl rfl (fun K hK => ?_)
      clear hi
      obtain ⟨p, hp, hq, hc⟩ := HI.out.i8 rfl
      obtain ⟨xi, xs, hxe, hxi, hxs⟩ := (HI.out.i1 rfl).form
      obtain ⟨xa, xc, hxe1⟩ := hxi.form; obtain ⟨xb, xd, hxe2⟩ := hxs.form
      clear hxi hxs
      subst hxe1 hxe2 hxe hp
      have hc' : w.heap[p]? = some (.cells zero4 25 (0, 0)) := by simpa using hc
      obtain ⟨m0, m1, m2, m3⟩ := setCells hc'
      have HC := hide hc'
      clear hc hc'
      have z0 := frozen_heap HC.out 0
      have z1 := frozen_heap HC.out 1
      have z2 := frozen_heap HC.out 2
      have z3 := frozen_heap HC.out 3
      go_simp
      have W4 := wrote4 HC.out (.bool (notV A).absent) (.slice xa (notV A).ints.length xc) (.bool (notV A).co) (.slice xb (notV A).strs.length xd)
      exact hK.out _ _ ⟨true, true, b2, b3, b4, b5, b6, true, true, true, true, true, b12, b13, .pointer (some ⟨p, 0, none⟩), y9, y10, y42, .agg #[.bool (notV A).absent, .slice xa (notV A).ints.length xc, .bool (notV A).co, .slice xb (notV A).strs.length xd], y44, y45, y46, y47, y48, y49, rfl, rfl, { HI.out with b := below_wrote HI.out.b hq W4, i1 := fun e => (HI.out.i1 e).wrote HC.out W4, i4 := fun e => (HI.out.i4 e).wrote HC.out W4, i7 := fun e => (HI.out.i7 e).wrote HC.out W4, i8 := fun _ => ⟨p, rfl, hq, by simpa [cellsOf] using W4.lies⟩, i9 := HI.out.i9.wrote rfl (fun e => (HI.out.d1 rfl e).symm) W4, i10 := HI.out.i10.wrote rfl (fun e => (HI.out.d2 rfl e).symm) W4, o1 := fun _ => ⟨rfl, HI.out.o4 rfl, rfl, rfl, rfl, rfl⟩, o2 := fun _ => rfl }⟩
    · refine wpOp_of ({ dst := none, op := .store 25 (.tmp 9) (.tmp 46), type := 0, pos := ps, after := #[{ on := 9, ground := .data }, { on := 4, ground := .data }, { on := 11, ground := .chain }, { on := 0, ground := .phase }, { on := 1, ground := .phase }, { on := 2, ground := .phase }, { on := 3, ground := .phase }, { on := 4, ground := .phase }, { on := 5, ground := .textOnly .lateStores }, { on := 6, ground := .textOnly .lateStores }, { on := 7, ground := .textOnly .lateStoresUnsure }, { on := 8, ground := .phase }, { on := 9, ground := .phase }, { on := 10, ground := .phase }, { on := 11, ground := .phase }], guard := none }) rfl rfl (fun K hK => ?_)
      clear hi
      obtain ⟨p, hp, hq, hc⟩ := HI.out.i9 rfl
      obtain ⟨xi, xs, hxe, hxi, hxs⟩ := (HI.out.i4 rfl).form
      obtain ⟨xa, xc, hxe1⟩ := hxi.form; obtain ⟨xb, xd, hxe2⟩ := hxs.form
      clear hxi hxs
      subst hxe1 hxe2 hxe hp
      have hc' : w.heap[p]? = some (.cells zero4 25 (0, 0)) := by simpa using hc
      obtain ⟨m0, m1, m2, m3⟩ := setCells hc'
      have HC := hide hc'
      clear hc hc'
      have z0 := frozen_heap HC.out 0
      have z1 := frozen_heap HC.out 1
      have z2 := frozen_heap HC.out 2
      have z3 := frozen_heap HC.out 3
      go_simp
      have W4 := wrote4 HC.out (.bool (orV A B).absent) (.slice xa (orV A B).ints.length xc) (.bool (orV A B).co) (.slice xb (orV A B).strs.length xd)
      exact hK.out _ _ ⟨true, true, true, true, true, b5, b6, b7, true, true, true, true, true, b13, y8, .pointer (some ⟨p, 0, none⟩), y10, y42, y43, y44, y45, .agg #[.bool (orV A B).absent, .slice xa (orV A B).ints.length xc, .bool (orV A B).co, .slice xb (orV A B).strs.length xd], y47, y48, y49, rfl, rfl, { HI.out with b := below_wrote HI.out.b hq W4, i1 := fun e => (HI.out.i1 e).wrote HC.out W4, i4 := fun e => (HI.out.i4 e).wrote HC.out W4, i7 := fun e => (HI.out.i7 e).wrote HC.out W4, i8 := HI.out.i8.wrote rfl (fun e => HI.out.d1 e rfl) W4, i9 := fun _ => ⟨p, rfl, hq, by simpa [cellsOf] using W4.lies⟩, i10 := HI.out.i10.wrote rfl (fun e => (HI.out.d3 rfl e).symm) W4, o2 := fun _ => rfl, o3 := fun _ => rfl }⟩
    · refine wpOp_of ({ dst := none, op := .store 25 (.tmp 10) (.tmp 49), type := 0, pos := ps, after := #[{ on := 10, ground := .data }, { on := 7, ground := .data }, { on := 12, ground := .chain }, { on := 0, ground := .phase }, { on := 1, ground := .phase }, { on := 2, ground := .phase }, { on := 3, ground := .phase }, { on := 4, ground := .phase }, { on := 5, ground := .phase }, { on := 6, ground := .phase }, { on := 7, ground := .phase }, { on := 8, ground := .phase }, { on := 9, ground := .phase }, { on := 10, ground := .phase }, { on := 11, ground := .phase }, { on := 12, ground := .phase }], guard := none }) rfl rfl (fun K hK => ?_)
      clear hi
      obtain ⟨p, hp, hq, hc⟩ := HI.out.i10 rfl
      obtain ⟨xi, xs, hxe, hxi, hxs⟩ := (HI.out.i7 rfl).form
      obtain ⟨xa, xc, hxe1⟩ := hxi.form; obtain ⟨xb, xd, hxe2⟩ := hxs.form
      clear hxi hxs
      subst hxe1 hxe2 hxe hp
      have hc' : w.heap[p]? = some (.cells zero4 25 (0, 0)) := by simpa using hc
      obtain ⟨m0, m1, m2, m3⟩ := setCells hc'
      have HC := hide hc'
      clear hc hc'
      have z0 := frozen_heap HC.out 0
      have z1 := frozen_heap HC.out 1
      have z2 := frozen_heap HC.out 2
      have z3 := frozen_heap HC.out 3
      go_simp
      have W4 := wrote4 HC.out (.bool (andV A B).absent) (.slice xa (andV A B).ints.length xc) (.bool (andV A B).co) (.slice xb (andV A B).strs.length xd)
      exact hK.out _ _ ⟨true, true, true, true, true, true, true, true, true, true, true, true, true, true, y8, y9, .pointer (some ⟨p, 0, none⟩), y42, y43, y44, y45, y46, y47, y48, .agg #[.bool (andV A B).absent, .slice xa (andV A B).ints.length xc, .bool (andV A B).co, .slice xb (andV A B).strs.length xd], rfl, rfl, { HI.out with b := below_wrote HI.out.b hq W4, i1 := fun e => (HI.out.i1 e).wrote HC.out W4, i4 := fun e => (HI.out.i4 e).wrote HC.out W4, i7 := fun e => (HI.out.i7 e).wrote HC.out W4, i8 := HI.out.i8.wrote rfl (fun e => HI.out.d2 e rfl) W4, i9 := HI.out.i9.wrote rfl (fun e => HI.out.d3 e rfl) W4, i10 := fun _ => ⟨p, rfl, hq, by simpa [cellsOf] using W4.lies⟩, o3 := fun _ => rfl }⟩
  · rintro l a w ⟨b0, b1, b2, b3, b4, b5, b6, b7, b8, b9, b10, b11, b12, b13, y8, y9, y10, y42, y43, y44, y45, y46, y47, y48, y49, rfl, rfl, I⟩ hr
    obtain ⟨rfl, rfl, rfl, rfl, rfl, rfl, rfl, rfl, rfl, rfl, rfl, rfl, rfl, rfl⟩ := done4 hr
    exact hQ w _ _ _ _ _ _ _ _ _ _ _ I

end Go.Proofs.Ytdmjpdhjebmnfaa
