/-
  Sets in memory: rows of ranges, rows of strings, a set; opened from an argument's reading.
-/
import Derived.Test.YtdmjpdhjebmnfaaSP
import Derived.Test.YtdmjpdhjebmnfaaKA
import Derived.OpenShut
import Derived.Carry
import Derived.Deep.Slices
set_option linter.unusedSimpArgs false
set_option linter.unusedVariables false
namespace Go.Proofs.Ytdmjpdhjebmnfaa
open Go.Deep Go.ChangeShapes Go.WideShapes Go.ChangeAt Go.WideMaps Go.WideElems Go.RowKit Go.Joins

/-- A slice's room: none of a nil one, else no less than its length. -/
def capOf (a : Option Addr) (n sp : Nat) : Nat := match a with
  | none => 0
  | some _ => n + sp
theorem capOf_of {a : Option Addr} {n c : Nat} (h : n ≤ c) (hn : a = none → c = 0) : ∃ sp, c = capOf a n sp := by
  cases a with
  | none => exact ⟨0, hn rfl⟩
  | some a => exact ⟨c - n, by show c = n + (c - n); omega⟩
theorem capOf_none {a : Option Addr} {n sp : Nat} (h : a = none) : capOf a n sp = 0 := by rw [h]; rfl
theorem capOf_some {a : Option Addr} {n sp : Nat} (h : ∃ b, a = some b) : n ≤ capOf a n sp := by
  obtain ⟨b, rfl⟩ := h
  show n ≤ n + sp
  omega
/-- The value is a row of just these ranges. -/
def RngsAt (w : World) (v : Value) (l : List Rg) : Prop :=
  inI64 l ∧ l.length ≤ 9223372036854775807 ∧ ∃ (a : Option Addr) (cap : Nat), v = .slice a l.length (capOf a l.length cap) ∧ ∀ i, i < l.length → ∃ (b off : Nat), a = some ⟨b, off, none⟩ ∧ b < w.heap.size ∧
    w.cell? ⟨b, off + i * 2, none⟩ = some (.int .i64 (l.getD i (0, 0)).1) ∧ w.cell? ⟨b, off + i * 2 + 1, none⟩ = some (.int .i64 (l.getD i (0, 0)).2)
/-- The value is a row of just these strings. -/
def StrsAt (w : World) (v : Value) (l : List ByteArray) : Prop :=
  (∀ s ∈ l, s.size ≤ 9223372036854775807) ∧ l.length ≤ 9223372036854775807 ∧ ∃ (a : Option Addr) (cap : Nat), v = .slice a l.length (capOf a l.length cap) ∧ ∀ i, i < l.length → ∃ (b off : Nat), a = some ⟨b, off, none⟩ ∧ b < w.heap.size ∧
    w.cell? ⟨b, off + i, none⟩ = some (.string (l.getD i ⟨#[]⟩))
structure SetV where
  absent : Bool
  ints : List Rg
  co : Bool
  strs : List ByteArray
/-- The value is just this set. -/
def SetAt (w : World) (v : Value) (S : SetV) : Prop := ∃ vi vs, v = .agg #[.bool S.absent, vi, .bool S.co, vs] ∧ RngsAt w vi S.ints ∧ StrsAt w vs S.strs

theorem RngsAt.on {w w' : World} {v : Value} {l : List Rg} (h : RngsAt w v l) (hb : Below w.heap.size w w') : RngsAt w' v l := by
  obtain ⟨h1, h2, a, cap, hv, h⟩ := h
  refine ⟨h1, h2, a, cap, hv, fun i hi => ?_⟩
  obtain ⟨b, off, ha, hlt, c0, c1⟩ := h i hi
  exact ⟨b, off, ha, Nat.lt_of_lt_of_le hlt hb.size, (hb.cell (p := ⟨b, _, none⟩) hlt).trans c0, (hb.cell (p := ⟨b, _, none⟩) hlt).trans c1⟩
theorem StrsAt.on {w w' : World} {v : Value} {l : List ByteArray} (h : StrsAt w v l) (hb : Below w.heap.size w w') : StrsAt w' v l := by
  obtain ⟨h1, h2, a, cap, hv, h⟩ := h
  refine ⟨h1, h2, a, cap, hv, fun i hi => ?_⟩
  obtain ⟨b, off, ha, hlt, c0⟩ := h i hi
  exact ⟨b, off, ha, Nat.lt_of_lt_of_le hlt hb.size, (hb.cell (p := ⟨b, _, none⟩) hlt).trans c0⟩
theorem SetAt.on {w w' : World} {v : Value} {S : SetV} (h : SetAt w v S) (hb : Below w.heap.size w w') : SetAt w' v S := by
  obtain ⟨vi, vs, hv, h1, h2⟩ := h
  exact ⟨vi, vs, hv, h1.on hb, h2.on hb⟩
theorem RngsAt.bound {w : World} {v : Value} {l : List Rg} (h : RngsAt w v l) (i : Nat) (hi : i < l.length) : -9223372036854775808 ≤ (l.getD i (0, 0)).1 ∧ (l.getD i (0, 0)).1 ≤ 9223372036854775807 ∧ -9223372036854775808 ≤ (l.getD i (0, 0)).2 ∧ (l.getD i (0, 0)).2 ≤ 9223372036854775807 := by
  refine h.1 _ ?_
  rw [List.getD_eq_getElem?_getD, List.getElem?_eq_getElem hi]
  exact List.getElem_mem _
theorem StrsAt.bound {w : World} {v : Value} {l : List ByteArray} (h : StrsAt w v l) (i : Nat) (hi : i < l.length) : (l.getD i ⟨#[]⟩).size ≤ 9223372036854775807 := by
  refine h.1 _ ?_
  rw [List.getD_eq_getElem?_getD, List.getElem?_eq_getElem hi]
  exact List.getElem_mem _
/-- The form of a row's value, and its cells. -/
theorem RngsAt.at {w : World} {a : Option Addr} {n cap : Nat} {l : List Rg} (h : RngsAt w (.slice a n cap) l) : n = l.length ∧ ∀ i, i < l.length → ∃ (b off : Nat), a = some ⟨b, off, none⟩ ∧ b < w.heap.size ∧
    w.cell? ⟨b, off + i * 2, none⟩ = some (.int .i64 (l.getD i (0, 0)).1) ∧ w.cell? ⟨b, off + i * 2 + 1, none⟩ = some (.int .i64 (l.getD i (0, 0)).2) := by
  obtain ⟨h1, h2, a', cap', hv, h⟩ := h
  injection hv with e1 e2 e3
  subst e1 e2
  exact ⟨rfl, h⟩
theorem StrsAt.at {w : World} {a : Option Addr} {n cap : Nat} {l : List ByteArray} (h : StrsAt w (.slice a n cap) l) : n = l.length ∧ ∀ i, i < l.length → ∃ (b off : Nat), a = some ⟨b, off, none⟩ ∧ b < w.heap.size ∧
    w.cell? ⟨b, off + i, none⟩ = some (.string (l.getD i ⟨#[]⟩)) := by
  obtain ⟨h1, h2, a', cap', hv, h⟩ := h
  injection hv with e1 e2 e3
  subst e1 e2
  exact ⟨rfl, h⟩
theorem RngsAt.form {w : World} {v : Value} {l : List Rg} (h : RngsAt w v l) : ∃ a cap, v = .slice a l.length cap := by
  obtain ⟨_, _, a, cap, hv, _⟩ := h
  exact ⟨a, _, hv⟩
theorem RngsAt.room {w : World} {a : Option Addr} {n cap : Nat} {l : List Rg} (h : RngsAt w (.slice a n cap) l) : n ≤ cap ∧ (a = none → n = 0 ∧ cap = 0) := by
  obtain ⟨_, _, a', sp, hv, he⟩ := h
  injection hv with e1 e2 e3
  subst e1 e2 e3
  cases a with
  | none =>
    have h0 : l.length = 0 := Classical.byContradiction fun hne => by
      obtain ⟨b, off, e, _⟩ := he 0 (by omega)
      cases e
    exact ⟨by rw [h0]; exact Nat.zero_le _, fun _ => ⟨h0, rfl⟩⟩
  | some a => exact ⟨capOf_some ⟨a, rfl⟩, fun e => by cases e⟩
theorem StrsAt.form {w : World} {v : Value} {l : List ByteArray} (h : StrsAt w v l) : ∃ a cap, v = .slice a l.length cap := by
  obtain ⟨_, _, a, cap, hv, _⟩ := h
  exact ⟨a, _, hv⟩
theorem StrsAt.room {w : World} {a : Option Addr} {n cap : Nat} {l : List ByteArray} (h : StrsAt w (.slice a n cap) l) : n ≤ cap ∧ (a = none → n = 0 ∧ cap = 0) := by
  obtain ⟨_, _, a', sp, hv, he⟩ := h
  injection hv with e1 e2 e3
  subst e1 e2 e3
  cases a with
  | none =>
    have h0 : l.length = 0 := Classical.byContradiction fun hne => by
      obtain ⟨b, off, e, _⟩ := he 0 (by omega)
      cases e
    exact ⟨by rw [h0]; exact Nat.zero_le _, fun _ => ⟨h0, rfl⟩⟩
  | some a => exact ⟨capOf_some ⟨a, rfl⟩, fun e => by cases e⟩

theorem lt_cell {w : World} {a : Addr} {v : Value} (h : w.cell? a = some v) : a.block < w.heap.size := by
  rcases Nat.lt_or_ge a.block w.heap.size with h' | h'
  · exact h'
  · exfalso
    simp [World.cell?, Array.getElem?_eq_none h'] at h
theorem cellsRg : Try.prog.cellsOf 45 = 2 := by kernel_rfl
theorem cellsI : Try.prog.cellsOf 3 = 1 := by kernel_rfl
theorem cellsB : Try.prog.cellsOf 4 = 1 := by kernel_rfl
theorem cellsS : Try.prog.cellsOf 9 = 1 := by kernel_rfl
theorem cellsRs : Try.prog.cellsOf 22 = 1 := by kernel_rfl
theorem cellsSs : Try.prog.cellsOf 23 = 1 := by kernel_rfl
theorem cellsSet : Try.prog.cellsOf 25 = 4 := by kernel_rfl
theorem getD_map_range {α : Type} (n i : Nat) (f : Nat → α) (d : α) (h : i < n) : ((List.range n).map f).getD i d = f i := by
  simp [List.getD_eq_getElem?_getD, h]

section
variable {H : Type} {enc : TypeId × Value → H} {W : World}
set_option maxRecDepth 100000 in
theorem open_rngs {fuel : Nat} {v : Value} {x : DataW H × List MemPlace} (hf : DataW.trod enc Try.prog W 0 (fun _ => true) true fuel 22 [v] = some x) : ∃ l, RngsAt W v l := by
  rcases Go.Deep.open_slice Try.underlying22 hf with ⟨h0, _⟩ | ⟨a, len, cap, m, n, D, Pl, h0, hb, hl, hm, hmm, _, hx⟩
  · simp at h0
    subst h0
    exact ⟨[], fun _ h => by simp at h, by simp, none, 0, rfl, fun i hi => by simp at hi⟩
  · simp at h0
    subst h0
    simp at hmm
    subst hmm
    have hspot : 0 < len → a.spot = none := fun hpos => by
      obtain ⟨cs0, z1, _⟩ := hx 0 (by omega)
      rw [cellsRg] at z1
      obtain ⟨_, zl, zc⟩ := World.cells?_some z1
      have z0 := zc 0 (by omega)
      rw [List.getElem?_eq_getElem (by omega)] at z0
      simpa [Addr.add] using World.cell?_spot z0
    have hall : ∀ i, i < len → ∃ r : Rg, (-9223372036854775808 ≤ r.1 ∧ r.1 ≤ 9223372036854775807 ∧ -9223372036854775808 ≤ r.2 ∧ r.2 ≤ 9223372036854775807) ∧ W.cell? ⟨a.block, a.off + i * 2, none⟩ = some (.int .i64 r.1) ∧ W.cell? ⟨a.block, a.off + i * 2 + 1, none⟩ = some (.int .i64 r.2) := fun i hi => by
      obtain ⟨cs', h1, h2⟩ := hx i (by omega)
      rw [cellsRg] at h1
      obtain ⟨_, hlen, hc⟩ := World.cells?_some h1
      match cs', hlen with
      | [c0, c1], _ =>
        obtain ⟨y0, y1, m', _, _, g0, g1⟩ := trod_struct2 Try.underlying45 h2
        simp only [cellsI] at g0 g1
        obtain ⟨k, e0, _, wk⟩ := DataW.trod_int Try.underlying3 g0
        obtain ⟨l, e1, _, wl⟩ := DataW.trod_int Try.underlying3 g1
        simp at e0 e1
        subst e0 e1
        have q0 := hc 0 (by omega)
        have q1 := hc 1 (by omega)
        obtain ⟨bk, off, spot⟩ := a
        have hs : spot = none := hspot (by omega)
        subst hs
        have f0 : ((Addr.mk bk off none).add (i * 2)).add 0 = ⟨bk, off + i * 2, none⟩ := by rw [Go.Deep.add_add, Go.WideShapes.add_plain]; rfl
        have f1 : ((Addr.mk bk off none).add (i * 2)).add 1 = ⟨bk, off + i * 2 + 1, none⟩ := by rw [Go.Deep.add_add, Go.WideShapes.add_plain]; rfl
        rw [f0] at q0
        rw [f1] at q1
        obtain ⟨k0, k1⟩ := bounds_i64 wk
        obtain ⟨l0, l1⟩ := bounds_i64 wl
        exact ⟨(k, l), ⟨k0, k1, l0, l1⟩, q0, q1⟩
    obtain ⟨f, hf'⟩ := choose_lt hall
    refine ⟨(List.range len).map f, ?_, by simp; unfold maxLen at hm; omega, some a, m - len, by simp [capOf]; omega, fun i hi => ?_⟩
    · intro r hr
      obtain ⟨i, hi, rfl⟩ := List.mem_map.1 hr
      exact (hf' i (List.mem_range.1 hi)).1
    · simp at hi
      rw [getD_map_range len i f _ hi]
      obtain ⟨_, q0, q1⟩ := hf' i hi
      exact ⟨a.block, a.off, by rw [← hspot (by omega)], lt_cell (a := ⟨a.block, _, none⟩) q0, q0, q1⟩
set_option maxRecDepth 100000 in
theorem open_strs {fuel : Nat} {v : Value} {x : DataW H × List MemPlace} (hf : DataW.trod enc Try.prog W 0 (fun _ => true) true fuel 23 [v] = some x) : ∃ l, StrsAt W v l := by
  rcases Go.Deep.open_slice1 Try.underlying23 cellsS hf with ⟨h0, _⟩ | ⟨a, len, cap, m, n, V, D, Pl, h0, hb, hl, hm, hmm, _, hx⟩
  · simp at h0
    subst h0
    exact ⟨[], fun _ h => by simp at h, by simp, none, 0, rfl, fun i hi => by simp at hi⟩
  · simp at h0
    subst h0
    simp at hmm
    subst hmm
    have hspot : 0 < len → a.spot = none := fun hpos => by
      have := (hx 0 (by omega)).1
      simpa [Addr.add] using World.cell?_spot this
    have hall : ∀ i, i < len → ∃ s : ByteArray, s.size ≤ 9223372036854775807 ∧ W.cell? ⟨a.block, a.off + i, none⟩ = some (.string s) := fun i hi => by
      obtain ⟨h1, h2⟩ := hx i (by omega)
      obtain ⟨s, e, _, ws⟩ := DataW.trod_string Try.underlying9 h2
      simp at e
      rw [e] at h1
      refine ⟨s, by unfold maxLen at ws; omega, ?_⟩
      obtain ⟨bk, off, spot⟩ := a
      have hs : spot = none := hspot (by omega)
      subst hs
      rw [Go.WideShapes.add_plain] at h1
      exact h1
    have : Inhabited ByteArray := ⟨⟨#[]⟩⟩
    obtain ⟨f, hf'⟩ := choose_lt hall
    refine ⟨(List.range len).map f, ?_, by simp; unfold maxLen at hm; omega, some a, m - len, by simp [capOf]; omega, fun i hi => ?_⟩
    · intro r hr
      obtain ⟨i, hi, rfl⟩ := List.mem_map.1 hr
      exact (hf' i (List.mem_range.1 hi)).1
    · simp at hi
      rw [getD_map_range len i f _ hi]
      obtain ⟨_, q0⟩ := hf' i hi
      exact ⟨a.block, a.off, by rw [← hspot (by omega)], lt_cell (a := ⟨a.block, _, none⟩) q0, q0⟩
theorem trod_struct4 {P : Program} {w : World} {base : Nat} {spare : Nat → Bool} {held : Bool} {t : TypeId} {f0 f1 f2 f3 : Field} {fuel : Nat} {cs : List Value} {x : DataW H × List MemPlace} (ht : P.underlying t = some (.struct #[f0, f1, f2, f3])) (h : DataW.trod enc P w base spare held fuel t cs = some x) :
    ∃ y0 y1 y2 y3 n, DataW.trod enc P w base spare held n f0.type ((cs.drop f0.offset).take (P.cellsOf f0.type)) = some y0 ∧ DataW.trod enc P w base spare held n f1.type ((cs.drop f1.offset).take (P.cellsOf f1.type)) = some y1 ∧
      DataW.trod enc P w base spare held n f2.type ((cs.drop f2.offset).take (P.cellsOf f2.type)) = some y2 ∧ DataW.trod enc P w base spare held n f3.type ((cs.drop f3.offset).take (P.cellsOf f3.type)) = some y3 := by
  obtain ⟨xs, n, _, rfl, hl, hlen, hf⟩ := DataW.trod_struct ht h
  match xs, hlen with
  | [y0, y1, y2, y3], _ => exact ⟨y0, y1, y2, y3, n, by simpa using hf 0 f0 rfl, by simpa using hf 1 f1 rfl, by simpa using hf 2 f2 rfl, by simpa using hf 3 f3 rfl⟩
set_option maxRecDepth 100000 in
theorem open_setc {fuel : Nat} {c0 c1 c2 c3 : Value} {x : DataW H × List MemPlace} (hf : DataW.trod enc Try.prog W 0 (fun _ => true) true fuel 25 [c0, c1, c2, c3] = some x) : ∃ S, SetAt W (.agg #[c0, c1, c2, c3]) S := by
  obtain ⟨y0, y1, y2, y3, n, g0, g1, g2, g3⟩ := trod_struct4 Try.underlying25 hf
  simp only [cellsB, cellsRs, cellsSs] at g0 g1 g2 g3
  obtain ⟨b0, e0, _⟩ := DataW.trod_bool Try.underlying4 g0
  obtain ⟨l, hl⟩ := open_rngs g1
  obtain ⟨b2, e2, _⟩ := DataW.trod_bool Try.underlying4 g2
  obtain ⟨m, hm⟩ := open_strs g3
  simp at e0 e2
  subst e0 e2
  exact ⟨⟨b0, l, b2, m⟩, c1, c3, rfl, hl, hm⟩
set_option maxRecDepth 100000 in
theorem open_set {r : Reach} {b0 : Nat} {v : Value} {d : DataW H} {p : List MemPlace} (hv : Value.okWide Try.prog W r b0 25 v) (h : DataW.Trod enc Try.prog W 0 (fun _ => true) true 25 v d p) : ∃ S, SetAt W v S := by
  obtain ⟨cs, rfl, hsz⟩ := okWide_struct Try.underlying25 hv
  rw [cellsSet] at hsz
  obtain ⟨l⟩ := cs
  match l, hsz with
  | [c0, c1, c2, c3], _ =>
    obtain ⟨fuel, hf⟩ := h
    exact open_setc hf
end
end Go.Proofs.Ytdmjpdhjebmnfaa
