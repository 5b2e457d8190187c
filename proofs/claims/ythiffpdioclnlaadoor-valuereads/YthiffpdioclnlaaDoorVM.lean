/-
  The names of package value: laid, Name, Attr, of an object and of none.
-/
import Derived.Test.YthiffpdioclnlaaDoorVN
set_option linter.unusedSimpArgs false
set_option linter.unusedVariables false
namespace Go.Proofs.YthiffpdioclnlaaDoor
open Go.RowKit

theorem heap_setCell {w : World} {b i : Nat} {cs : Array Value} {t : TypeId} {fz : Nat × Nat} (v : Value) (h : w.heap[b]? = some (.cells cs t fz)) : (w.setCell ⟨b, i, none⟩ v).heap[b]? = some (.cells (cs.setIfInBounds i v) t fz) := by
  simp [World.setCell, Array.getElem?_modify, h]
theorem cell_heap {w : World} {b : Nat} {cs : Array Value} {t : TypeId} {fz : Nat × Nat} (h : w.heap[b]? = some (.cells cs t fz)) (i : Nat) : w.cell? ⟨b, i, none⟩ = cs[i]? := by simp [World.cell?, h]
theorem frozen_heap {w : World} {b : Nat} {cs : Array Value} {t : TypeId} (h : w.heap[b]? = some (.cells cs t (0, 0))) (i : Nat) : w.frozen? ⟨b, i, none⟩ = false := by simp [World.frozen?, h]
theorem lt_heap {w : World} {b : Nat} {o : Obj} (h : w.heap[b]? = some o) : b < w.heap.size := by
  rcases Nat.lt_or_ge b w.heap.size with h' | h'
  · exact h'
  · rw [Array.getElem?_eq_none h'] at h
    cases h

def freshN : Obj := .cells #[.int .u32 0, .int .i32 0, .int .u32 0, .string ⟨#[]⟩, .string ⟨#[]⟩, .string ⟨#[]⟩, .string ⟨#[]⟩] 53 (0, 0)
def doneN : Obj := .cells #[.int .u32 1, .int .i32 0, .int .u32 0, .string ⟨#[97]⟩, .string ⟨#[98]⟩, .string ⟨#[99]⟩, .string ⟨#[100]⟩] 53 (0, 0)
def namesV : Value := .agg #[.string ⟨#[97]⟩, .string ⟨#[98]⟩, .string ⟨#[99]⟩, .string ⟨#[100]⟩]

theorem heap_drew {w : World} {b : Nat} {o : Obj} (h : w.heap[b]? = some o) : w.drew.heap[b]? = some o := h
theorem slow_heap {w : World} {b : Nat} (h : w.heap[b]? = some freshN) : (slowW w b).heap[b]? = some doneN := by
  unfold slowW
  unfold freshN at h
  unfold doneN
  have h1 := heap_setCell (i := 1) (.int .i32 1) h
  generalize w.setCell ⟨b, 1, none⟩ (.int .i32 1) = w1 at h1 ⊢
  have h2 := heap_setCell (i := 3) (.string ⟨#[97]⟩) h1
  generalize w1.setCell ⟨b, 3, none⟩ (.string ⟨#[97]⟩) = w2 at h2 ⊢
  have h3 := heap_setCell (i := 4) (.string ⟨#[98]⟩) h2
  generalize w2.setCell ⟨b, 4, none⟩ (.string ⟨#[98]⟩) = w3 at h3 ⊢
  have h4 := heap_setCell (i := 5) (.string ⟨#[99]⟩) h3
  generalize w3.setCell ⟨b, 5, none⟩ (.string ⟨#[99]⟩) = w4 at h4 ⊢
  have h5 := heap_setCell (i := 6) (.string ⟨#[100]⟩) h4
  generalize w4.setCell ⟨b, 6, none⟩ (.string ⟨#[100]⟩) = w5 at h5 ⊢
  have h6 := heap_setCell (i := 0) (.int .u32 1) (heap_drew h5)
  generalize w5.drew.setCell ⟨b, 0, none⟩ (.int .u32 1) = w6 at h6 ⊢
  have h7 := heap_setCell (i := 1) (.int .i32 0) h6
  rw [h7]
  rfl

theorem heap_new (w : World) (o : Obj) : (w.alloc o).heap[w.heap.size]? = some o := by
  show (w.heap.push o)[w.heap.size]? = some o
  simp

theorem heap_at {w : World} {o : Obj} {k : Nat} (h : k = w.heap.size) : (w.alloc o).heap[k]? = some o := by
  rw [h]; exact heap_new w o

theorem grown_refl (w : World) (r : Option Nat) : w.grownBy w r := ⟨rfl, rfl, rfl, Nat.le_refl _, fun _ _ _ => rfl⟩
theorem grown_trans {a b c : World} {r : Option Nat} (h : a.grownBy b r) (k : b.grownBy c r) : a.grownBy c r :=
  ⟨k.os.trans h.os, k.tape.trans h.tape, k.output.trans h.output, Nat.le_trans h.size k.size, fun i hi hr => (k.block i (Nat.lt_of_lt_of_le hi h.size) hr).trans (h.block i hi hr)⟩
theorem grown_setCell {a w : World} {b : Nat} (h : a.grownBy w (some b)) (i : Nat) (v : Value) : a.grownBy (w.setCell ⟨b, i, none⟩ v) (some b) :=
  grown_trans h ⟨rfl, rfl, rfl, by simp [World.setCell], fun k hk hr => Below.heap_setCell _ _ _ _ (fun e => hr (by simp [e]))⟩
theorem grown_drew {a w : World} {r : Option Nat} (h : a.grownBy w r) : a.grownBy w.drew r := ⟨h.os, h.tape, h.output, h.size, h.block⟩
theorem grown_below {a w w' : World} {r : Option Nat} (h : a.grownBy w r) (hb : Below w.heap.size w w') : a.grownBy w' r :=
  grown_trans h ⟨hb.os, hb.tape, hb.output, hb.size, fun k hk _ => hb.block k hk⟩
theorem grown_cell {w w' : World} {b : Nat} (h : w.grownBy w' (some b)) {c : Nat} (hc : c < w.heap.size) (hne : c ≠ b) (i : Nat) : w'.cell? ⟨c, i, none⟩ = w.cell? ⟨c, i, none⟩ :=
  World.cell?_of_block (h.block c hc (by simp [hne]))
theorem grown_frozen {w w' : World} {b : Nat} (h : w.grownBy w' (some b)) {c : Nat} (hc : c < w.heap.size) (hne : c ≠ b) (i : Nat) : w'.frozen? ⟨c, i, none⟩ = w.frozen? ⟨c, i, none⟩ :=
  World.frozen?_of_block (h.block c hc (by simp [hne]))

/-- A store into a block that was not there. -/
theorem grown_new {a w : World} {r : Option Nat} (h : a.grownBy w r) {c : Nat} (hc : a.heap.size ≤ c) (i : Nat) (v : Value) : a.grownBy (w.setCell ⟨c, i, none⟩ v) r :=
  ⟨h.os, h.tape, h.output, by simpa [World.setCell] using h.size, fun k hk hr => (Below.heap_setCell _ _ _ _ (by simp; omega)).trans (h.block k hk hr)⟩

theorem slow_grown (w : World) (b : Nat) : w.grownBy (slowW w b) (some b) := by
  unfold slowW
  exact grown_setCell (grown_setCell (grown_drew (grown_setCell (grown_setCell (grown_setCell (grown_setCell (grown_setCell (grown_refl _ _) _ _) _ _) _ _) _ _) _ _)) _ _) _ _

/-- The block b is a value.Names: not yet laid, or laid. -/
def NamesAt (w : World) (b : Nat) : Prop := w.heap[b]? = some freshN ∨ w.heap[b]? = some doneN

theorem do_any (b : Nat) (pl : Addr) (hpb : ¬ b = pl.block) (w : World) (hp : w.cell? pl = some (.pointer (some ⟨b, 0, none⟩))) (hN : NamesAt w b) :
    Calls Tryd.prog 42 #[.pointer (some ⟨b, 0, none⟩), .func (.func 43) #[] #[.pointer (some pl)]] w fun e w' => e = .returned (.tuple #[]) ∧ w'.heap[b]? = some doneN ∧ w.grownBy w' (some b) := by
  rcases hN with h | h
  · refine (do_first b pl hpb _ _ _ _ w hp (cell_heap h 0) (cell_heap h 1) (cell_heap h 3) (cell_heap h 4) (cell_heap h 5) (cell_heap h 6) (frozen_heap h)).mono ?_
    rintro e w' ⟨rfl, rfl⟩
    exact ⟨rfl, slow_heap h, slow_grown _ _⟩
  · refine (do_done ⟨b, 0, none⟩ _ w (cell_heap h 0)).mono ?_
    rintro e w' ⟨rfl, rfl⟩
    exact ⟨rfl, h, grown_refl _ _⟩

/-- Four stores, one behind the other: what each cell holds, as the end of a walk asks it. -/
theorem four_stores {w : World} {r : Nat} {x0 x1 x2 x3 a b c d : Value} (r0 : w.cell? ⟨r, 0, none⟩ = some x0) (r1 : w.cell? ⟨r, 1, none⟩ = some x1) (r2 : w.cell? ⟨r, 2, none⟩ = some x2) (r3 : w.cell? ⟨r, 3, none⟩ = some x3) :
    (w.setCell ⟨r, 0, none⟩ a).cell? ⟨r, 0, none⟩ = some a ∧ ((w.setCell ⟨r, 0, none⟩ a).setCell ⟨r, 1, none⟩ b).cell? ⟨r, 1, none⟩ = some b ∧
    (((w.setCell ⟨r, 0, none⟩ a).setCell ⟨r, 1, none⟩ b).setCell ⟨r, 2, none⟩ c).cell? ⟨r, 2, none⟩ = some c ∧ ((((w.setCell ⟨r, 0, none⟩ a).setCell ⟨r, 1, none⟩ b).setCell ⟨r, 2, none⟩ c).setCell ⟨r, 3, none⟩ d).cell? ⟨r, 3, none⟩ = some d := by
  refine ⟨World.cell?_setCell_same _ _ _ r0, World.cell?_setCell_same _ _ _ (so (by simp) r1), World.cell?_setCell_same _ _ _ (so (by simp) (so (by simp) r2)), World.cell?_setCell_same _ _ _ (so (by simp) (so (by simp) (so (by simp) r3)))⟩

set_option maxRecDepth 100000 in
set_option maxHeartbeats 1600000 in
theorem laid_some (b : Nat) (w : World) (hN : NamesAt w b) :
    Calls Tryd.prog 34 #[.pointer (some ⟨b, 0, none⟩)] w fun e w' => e = .returned namesV ∧ w'.heap[b]? = some doneN ∧ w.grownBy w' (some b) := by
  have hb : b < w.heap.size := by rcases hN with h | h <;> exact lt_heap h
  have hmf : ∀ (fn : Fn) (first cap : Array Value) (w : World), (Instr.makeFunc fn first cap).run Tryd.prog w = .ok (.func fn first cap) w := fun _ _ _ _ => rfl
  go_enter Tryd.func34, Tryd.ntmps34
  go_wp2_with fail
  refine (do_any b ⟨w.heap.size, 0, none⟩ (by simp; omega) _ (by simp) ?_).mono ?_
  · rcases hN with h | h
    · exact Or.inl (by rw [Below.heap_alloc _ _ _ (by simp; omega), Below.heap_alloc _ _ _ hb]; exact h)
    · exact Or.inr (by rw [Below.heap_alloc _ _ _ (by simp; omega), Below.heap_alloc _ _ _ hb]; exact h)
  rintro e w1 ⟨rfl, hd, hg⟩
  have hd' := hd
  unfold doneN at hd'
  have c3 := cell_heap hd' 3
  have c4 := cell_heap hd' 4
  have c5 := cell_heap hd' 5
  have c6 := cell_heap hd' 6
  simp at c3 c4 c5 c6
  have p0 := grown_cell hg (c := w.heap.size) (by simp; omega) (by omega) 0
  have r0 := grown_cell hg (c := w.heap.size + 1) (by simp) (by omega) 0
  have r1 := grown_cell hg (c := w.heap.size + 1) (by simp) (by omega) 1
  have r2 := grown_cell hg (c := w.heap.size + 1) (by simp) (by omega) 2
  have r3 := grown_cell hg (c := w.heap.size + 1) (by simp) (by omega) 3
  have z := grown_frozen hg (c := w.heap.size + 1) (by simp) (by omega)
  have g0 : w.grownBy w1 (some b) := grown_trans (grown_below (grown_refl _ _) (two_new w _ _)) hg
  have Hg := hide hg
  have Hd := hide hd
  clear hd hd' hg
  simp at p0 r0 r1 r2 r3 z
  obtain ⟨q0, q1, q2, q3⟩ := four_stores (a := .string ⟨#[97]⟩) (b := .string ⟨#[98]⟩) (c := .string ⟨#[99]⟩) (d := .string ⟨#[100]⟩) r0 r1 r2 r3
  have Hq := hide (And.intro q0 (And.intro q1 (And.intro q2 q3)))
  clear q0 q1 q2 q3
  go_wp2
  obtain ⟨q0, q1, q2, q3⟩ := unhide Hq
  refine bodyPost_ret (v := namesV) (by simp [results, Tryd.results34, go_sem, namesV, q0, q1, q2, q3]) rfl ⟨rfl, ?_, ?_⟩
  · rw [Below.heap_setCell _ _ _ _ (by simp; omega), Below.heap_setCell _ _ _ _ (by simp; omega), Below.heap_setCell _ _ _ _ (by simp; omega), Below.heap_setCell _ _ _ _ (by simp; omega)]
    exact unhide Hd
  · exact grown_new (grown_new (grown_new (grown_new g0 (by omega) _ _) (by omega) _ _) (by omega) _ _) (by omega) _ _

set_option maxRecDepth 100000 in
set_option maxHeartbeats 1600000 in
theorem laid_nil (w : World) :
    Calls Tryd.prog 34 #[.pointer none] w fun e w' => e = .returned namesV ∧ Below w.heap.size w w' := by
  have hmf : ∀ (fn : Fn) (first cap : Array Value) (w : World), (Instr.makeFunc fn first cap).run Tryd.prog w = .ok (.func fn first cap) w := fun _ _ _ _ => rfl
  go_enter Tryd.func34, Tryd.ntmps34
  go_wp2_with fail
  refine (do_any (w.heap.size + 1 + 1) ⟨w.heap.size, 0, none⟩ (by simp; omega) _ ?_ (Or.inl ?_)).mono ?_
  · rw [World.cell?_alloc_past _ _ _ (by simp; omega), World.cell?_alloc_past _ _ _ (by simp)]
    simp
  · exact heap_at (by simp)
  rintro e w1 ⟨rfl, hd, hg⟩
  have hd' := hd
  unfold doneN at hd'
  have c3 := cell_heap hd' 3
  have c4 := cell_heap hd' 4
  have c5 := cell_heap hd' 5
  have c6 := cell_heap hd' 6
  simp at c3 c4 c5 c6
  have p0 := grown_cell hg (c := w.heap.size) (by simp; omega) (by omega) 0
  have r0 := grown_cell hg (c := w.heap.size + 1) (by simp) (by omega) 0
  have r1 := grown_cell hg (c := w.heap.size + 1) (by simp) (by omega) 1
  have r2 := grown_cell hg (c := w.heap.size + 1) (by simp) (by omega) 2
  have r3 := grown_cell hg (c := w.heap.size + 1) (by simp) (by omega) 3
  have z := grown_frozen hg (c := w.heap.size + 1) (by simp) (by omega)
  have g0 : Below w.heap.size w w1 := ((two_new w _ _).alloc (by simp; omega) _).grown hg (by simp; omega) (fun k e => by cases e; omega)
  have Hg := hide hg
  clear hd hd' hg
  rw [World.cell?_alloc_past _ _ _ (by simp; omega), World.cell?_alloc_past _ _ _ (by simp)] at p0
  rw [World.cell?_alloc_past _ _ _ (by simp)] at r0 r1 r2 r3
  simp at p0 r0 r1 r2 r3 z
  obtain ⟨q0, q1, q2, q3⟩ := four_stores (a := .string ⟨#[97]⟩) (b := .string ⟨#[98]⟩) (c := .string ⟨#[99]⟩) (d := .string ⟨#[100]⟩) r0 r1 r2 r3
  have Hq := hide (And.intro q0 (And.intro q1 (And.intro q2 q3)))
  clear q0 q1 q2 q3
  go_wp2
  obtain ⟨q0, q1, q2, q3⟩ := unhide Hq
  refine bodyPost_ret (v := namesV) (by simp [results, Tryd.results34, go_sem, namesV, q0, q1, q2, q3]) rfl ⟨rfl, ?_⟩
  exact (((g0.setCell (by simp) _).setCell (by simp) _).setCell (by simp) _).setCell (by simp) _

/-- The text of a name. -/
def nameOf (a : Int) : ByteArray := if a = 0 then ⟨#[97]⟩ else if a = 1 then ⟨#[98]⟩ else if a = 2 then ⟨#[99]⟩ else if a = 3 then ⟨#[100]⟩ else ⟨#[]⟩

set_option maxRecDepth 100000 in
set_option maxHeartbeats 1600000 in
theorem name_some (b : Nat) (a : Int) (w : World) (hN : NamesAt w b) :
    Calls Tryd.prog 22 #[.pointer (some ⟨b, 0, none⟩), .int .i64 a] w fun e w' => e = .returned (.string (nameOf a)) ∧ NamesAt w' b ∧ w.grownBy w' (some b) := by
  by_cases h0 : a < 0
  · go_enter Tryd.func22, Tryd.ntmps22
    go_wp2
    go_ret
    exact ⟨ret_str (by unfold nameOf; rw [if_neg (by omega), if_neg (by omega), if_neg (by omega), if_neg (by omega)]), hN, grown_refl _ _⟩
  by_cases h4 : 4 ≤ a
  · go_enter Tryd.func22, Tryd.ntmps22
    go_wp2
    go_ret
    exact ⟨ret_str (by unfold nameOf; rw [if_neg (by omega), if_neg (by omega), if_neg (by omega), if_neg (by omega)]), hN, grown_refl _ _⟩
  have hL := laid_some b w hN
  unfold namesV at hL
  have HL := hide hL
  clear hL
  have : a = 0 ∨ a = 1 ∨ a = 2 ∨ a = 3 := by omega
  rcases this with rfl | rfl | rfl | rfl
  · go_enter Tryd.func22, Tryd.ntmps22
    go_wp2_with (go_at_call 34; refine (unhide HL).mono ?_; rintro e w' ⟨rfl, hd, hg⟩)
    go_ret
    exact ⟨rfl, Or.inr (by rw [Below.heap_alloc _ _ _ (lt_heap hd)]; exact hd), grown_below hg ((Below.refl _ _).alloc (Nat.le_refl _) _)⟩
  · go_enter Tryd.func22, Tryd.ntmps22
    go_wp2_with (go_at_call 34; refine (unhide HL).mono ?_; rintro e w' ⟨rfl, hd, hg⟩)
    go_ret
    exact ⟨rfl, Or.inr (by rw [Below.heap_alloc _ _ _ (lt_heap hd)]; exact hd), grown_below hg ((Below.refl _ _).alloc (Nat.le_refl _) _)⟩
  · go_enter Tryd.func22, Tryd.ntmps22
    go_wp2_with (go_at_call 34; refine (unhide HL).mono ?_; rintro e w' ⟨rfl, hd, hg⟩)
    go_ret
    exact ⟨rfl, Or.inr (by rw [Below.heap_alloc _ _ _ (lt_heap hd)]; exact hd), grown_below hg ((Below.refl _ _).alloc (Nat.le_refl _) _)⟩
  · go_enter Tryd.func22, Tryd.ntmps22
    go_wp2_with (go_at_call 34; refine (unhide HL).mono ?_; rintro e w' ⟨rfl, hd, hg⟩)
    go_ret
    exact ⟨rfl, Or.inr (by rw [Below.heap_alloc _ _ _ (lt_heap hd)]; exact hd), grown_below hg ((Below.refl _ _).alloc (Nat.le_refl _) _)⟩

set_option maxRecDepth 100000 in
set_option maxHeartbeats 1600000 in
theorem name_nil (a : Int) (w : World) :
    Calls Tryd.prog 22 #[.pointer none, .int .i64 a] w fun e w' => e = .returned (.string (nameOf a)) ∧ Below w.heap.size w w' := by
  by_cases h0 : a < 0
  · go_enter Tryd.func22, Tryd.ntmps22
    go_wp2
    go_ret
    exact ⟨ret_str (by unfold nameOf; rw [if_neg (by omega), if_neg (by omega), if_neg (by omega), if_neg (by omega)]), Below.refl _ _⟩
  by_cases h4 : 4 ≤ a
  · go_enter Tryd.func22, Tryd.ntmps22
    go_wp2
    go_ret
    exact ⟨ret_str (by unfold nameOf; rw [if_neg (by omega), if_neg (by omega), if_neg (by omega), if_neg (by omega)]), Below.refl _ _⟩
  have hL := laid_nil w
  unfold namesV at hL
  have HL := hide hL
  clear hL
  have : a = 0 ∨ a = 1 ∨ a = 2 ∨ a = 3 := by omega
  rcases this with rfl | rfl | rfl | rfl
  · go_enter Tryd.func22, Tryd.ntmps22
    go_wp2_with (go_at_call 34; refine (unhide HL).mono ?_; rintro e w' ⟨rfl, hb⟩)
    go_ret
    exact ⟨rfl, hb.alloc hb.size _⟩
  · go_enter Tryd.func22, Tryd.ntmps22
    go_wp2_with (go_at_call 34; refine (unhide HL).mono ?_; rintro e w' ⟨rfl, hb⟩)
    go_ret
    exact ⟨rfl, hb.alloc hb.size _⟩
  · go_enter Tryd.func22, Tryd.ntmps22
    go_wp2_with (go_at_call 34; refine (unhide HL).mono ?_; rintro e w' ⟨rfl, hb⟩)
    go_ret
    exact ⟨rfl, hb.alloc hb.size _⟩
  · go_enter Tryd.func22, Tryd.ntmps22
    go_wp2_with (go_at_call 34; refine (unhide HL).mono ?_; rintro e w' ⟨rfl, hb⟩)
    go_ret
    exact ⟨rfl, hb.alloc hb.size _⟩

/-- The attribute of a name. -/
def attrOf (s : List UInt8) : Int := if s = [97] then 0 else if s = [98] then 1 else if s = [99] then 2 else if s = [100] then 3 else -1

/-- None of the first k names. -/
def NoneTo (l : List UInt8) (k : Nat) : Prop := (0 < k → l ≠ [97]) ∧ (1 < k → l ≠ [98]) ∧ (2 < k → l ≠ [99]) ∧ (3 < k → l ≠ [100])
theorem none_zero (l : List UInt8) : NoneTo l 0 := ⟨fun h => by omega, fun h => by omega, fun h => by omega, fun h => by omega⟩
theorem eq_of_beq' {l : List UInt8} {s : ByteArray} (h : (l == s.toList) = true) : s.data.toList = l := by
  rw [← ByteArray.toList_eq]; exact (eq_of_beq h).symm
theorem ne_of_beq' {l : List UInt8} {s : ByteArray} (h : (l == s.toList) = false) : s.data.toList ≠ l := by
  rw [← ByteArray.toList_eq]; exact fun e => by rw [e] at h; simp at h
theorem none_step0 (s : ByteArray) (h : NoneTo s.data.toList 0) (hq : ([97] == s.toList) = false) : NoneTo s.data.toList 1 := by
  obtain ⟨a, b, c, d⟩ := h
  have e := ne_of_beq' hq
  exact ⟨fun _ => e, fun _ => by omega, fun _ => by omega, fun _ => by omega⟩
theorem none_step1 (s : ByteArray) (h : NoneTo s.data.toList 1) (hq : ([98] == s.toList) = false) : NoneTo s.data.toList 2 := by
  obtain ⟨a, b, c, d⟩ := h
  have e := ne_of_beq' hq
  exact ⟨fun _ => a (by omega), fun _ => e, fun _ => by omega, fun _ => by omega⟩
theorem none_step2 (s : ByteArray) (h : NoneTo s.data.toList 2) (hq : ([99] == s.toList) = false) : NoneTo s.data.toList 3 := by
  obtain ⟨a, b, c, d⟩ := h
  have e := ne_of_beq' hq
  exact ⟨fun _ => a (by omega), fun _ => b (by omega), fun _ => e, fun _ => by omega⟩
theorem none_step3 (s : ByteArray) (h : NoneTo s.data.toList 3) (hq : ([100] == s.toList) = false) : NoneTo s.data.toList 4 := by
  obtain ⟨a, b, c, d⟩ := h
  have e := ne_of_beq' hq
  exact ⟨fun _ => a (by omega), fun _ => b (by omega), fun _ => c (by omega), fun _ => e⟩
theorem attr_hit0 (s : ByteArray) (h : NoneTo s.data.toList 0) (hq : ([97] == s.toList) = true) : attrOf s.data.toList = 0 := by
  rw [eq_of_beq' hq]; rfl
theorem attr_hit1 (s : ByteArray) (h : NoneTo s.data.toList 1) (hq : ([98] == s.toList) = true) : attrOf s.data.toList = 1 := by
  rw [eq_of_beq' hq]; rfl
theorem attr_hit2 (s : ByteArray) (h : NoneTo s.data.toList 2) (hq : ([99] == s.toList) = true) : attrOf s.data.toList = 2 := by
  rw [eq_of_beq' hq]; rfl
theorem attr_hit3 (s : ByteArray) (h : NoneTo s.data.toList 3) (hq : ([100] == s.toList) = true) : attrOf s.data.toList = 3 := by
  rw [eq_of_beq' hq]; rfl
theorem attr_none (s : ByteArray) (h : NoneTo s.data.toList 4) : attrOf s.data.toList = -1 := by
  obtain ⟨a, b, c, d⟩ := h
  unfold attrOf
  rw [if_neg (a (by omega)), if_neg (b (by omega)), if_neg (c (by omega)), if_neg (d (by omega))]

set_option maxRecDepth 100000 in
set_option maxHeartbeats 1600000 in
theorem attr_some (b : Nat) (s : ByteArray) (w : World) (hN : NamesAt w b) :
    Calls Tryd.prog 23 #[.pointer (some ⟨b, 0, none⟩), .string s] w fun e w' => e = .returned (.int .i64 (attrOf s.data.toList)) ∧ NamesAt w' b ∧ w.grownBy w' (some b) := by
  have hL := laid_some b w hN
  unfold namesV at hL
  have HL := hide hL
  clear hL
  have i0 : ∀ w, (Instr.index 51 (.agg #[.string ⟨#[97]⟩, .string ⟨#[98]⟩, .string ⟨#[99]⟩, .string ⟨#[100]⟩]) (.int .i64 0)).run Tryd.prog w = .ok (.string ⟨#[97]⟩) w := fun _ => by kernel_rfl
  have i1 : ∀ w, (Instr.index 51 (.agg #[.string ⟨#[97]⟩, .string ⟨#[98]⟩, .string ⟨#[99]⟩, .string ⟨#[100]⟩]) (.int .i64 1)).run Tryd.prog w = .ok (.string ⟨#[98]⟩) w := fun _ => by kernel_rfl
  have i2 : ∀ w, (Instr.index 51 (.agg #[.string ⟨#[97]⟩, .string ⟨#[98]⟩, .string ⟨#[99]⟩, .string ⟨#[100]⟩]) (.int .i64 2)).run Tryd.prog w = .ok (.string ⟨#[99]⟩) w := fun _ => by kernel_rfl
  have i3 : ∀ w, (Instr.index 51 (.agg #[.string ⟨#[97]⟩, .string ⟨#[98]⟩, .string ⟨#[99]⟩, .string ⟨#[100]⟩]) (.int .i64 3)).run Tryd.prog w = .ok (.string ⟨#[100]⟩) w := fun _ => by kernel_rfl
  go_enter Tryd.func23, Tryd.ntmps23
  go_wp2_with (go_at_call 34; refine (unhide HL).mono ?_; rintro e w' ⟨rfl, hd, hg⟩)
  go_loop [9] (fun t => ∃ k : Nat, k ≤ 4 ∧ t = .int .i64 k ∧ NoneTo s.data.toList k) (fun t => 4 - (intOf t).toNat)
  case atStart => exact ⟨0, by omega, rfl, none_zero _⟩
  case round =>
    obtain ⟨k, hk, rfl, hno⟩ := hrel
    have : k = 0 ∨ k = 1 ∨ k = 2 ∨ k = 3 ∨ k = 4 := by omega
    rcases this with rfl | rfl | rfl | rfl | rfl
    · cases hq : [97] == s.toList
      · go_wp2
        exact ⟨⟨1, by omega, rfl, none_step0 s hno hq⟩, by simp [intOf]⟩
      · go_wp2
        go_ret
        exact ⟨ret_int (attr_hit0 s hno hq).symm, Or.inr hd, hg⟩
    · cases hq : [98] == s.toList
      · go_wp2
        exact ⟨⟨2, by omega, rfl, none_step1 s hno hq⟩, by simp [intOf]⟩
      · go_wp2
        go_ret
        exact ⟨ret_int (attr_hit1 s hno hq).symm, Or.inr hd, hg⟩
    · cases hq : [99] == s.toList
      · go_wp2
        exact ⟨⟨3, by omega, rfl, none_step2 s hno hq⟩, by simp [intOf]⟩
      · go_wp2
        go_ret
        exact ⟨ret_int (attr_hit2 s hno hq).symm, Or.inr hd, hg⟩
    · cases hq : [100] == s.toList
      · go_wp2
        exact ⟨⟨4, by omega, rfl, none_step3 s hno hq⟩, by simp [intOf]⟩
      · go_wp2
        go_ret
        exact ⟨ret_int (attr_hit3 s hno hq).symm, Or.inr hd, hg⟩
    · go_wp2
      go_ret
      exact ⟨ret_int (attr_none s hno).symm, Or.inr hd, hg⟩

set_option maxRecDepth 100000 in
set_option maxHeartbeats 1600000 in
theorem attr_nil (s : ByteArray) (w : World) :
    Calls Tryd.prog 23 #[.pointer none, .string s] w fun e w' => e = .returned (.int .i64 (attrOf s.data.toList)) ∧ Below w.heap.size w w' := by
  have hL := laid_nil w
  unfold namesV at hL
  have HL := hide hL
  clear hL
  have i0 : ∀ w, (Instr.index 51 (.agg #[.string ⟨#[97]⟩, .string ⟨#[98]⟩, .string ⟨#[99]⟩, .string ⟨#[100]⟩]) (.int .i64 0)).run Tryd.prog w = .ok (.string ⟨#[97]⟩) w := fun _ => by kernel_rfl
  have i1 : ∀ w, (Instr.index 51 (.agg #[.string ⟨#[97]⟩, .string ⟨#[98]⟩, .string ⟨#[99]⟩, .string ⟨#[100]⟩]) (.int .i64 1)).run Tryd.prog w = .ok (.string ⟨#[98]⟩) w := fun _ => by kernel_rfl
  have i2 : ∀ w, (Instr.index 51 (.agg #[.string ⟨#[97]⟩, .string ⟨#[98]⟩, .string ⟨#[99]⟩, .string ⟨#[100]⟩]) (.int .i64 2)).run Tryd.prog w = .ok (.string ⟨#[99]⟩) w := fun _ => by kernel_rfl
  have i3 : ∀ w, (Instr.index 51 (.agg #[.string ⟨#[97]⟩, .string ⟨#[98]⟩, .string ⟨#[99]⟩, .string ⟨#[100]⟩]) (.int .i64 3)).run Tryd.prog w = .ok (.string ⟨#[100]⟩) w := fun _ => by kernel_rfl
  go_enter Tryd.func23, Tryd.ntmps23
  go_wp2_with (go_at_call 34; refine (unhide HL).mono ?_; rintro e w' ⟨rfl, hb⟩)
  go_loop [9] (fun t => ∃ k : Nat, k ≤ 4 ∧ t = .int .i64 k ∧ NoneTo s.data.toList k) (fun t => 4 - (intOf t).toNat)
  case atStart => exact ⟨0, by omega, rfl, none_zero _⟩
  case round =>
    obtain ⟨k, hk, rfl, hno⟩ := hrel
    have : k = 0 ∨ k = 1 ∨ k = 2 ∨ k = 3 ∨ k = 4 := by omega
    rcases this with rfl | rfl | rfl | rfl | rfl
    · cases hq : [97] == s.toList
      · go_wp2
        exact ⟨⟨1, by omega, rfl, none_step0 s hno hq⟩, by simp [intOf]⟩
      · go_wp2
        go_ret
        exact ⟨ret_int (attr_hit0 s hno hq).symm, hb⟩
    · cases hq : [98] == s.toList
      · go_wp2
        exact ⟨⟨2, by omega, rfl, none_step1 s hno hq⟩, by simp [intOf]⟩
      · go_wp2
        go_ret
        exact ⟨ret_int (attr_hit1 s hno hq).symm, hb⟩
    · cases hq : [99] == s.toList
      · go_wp2
        exact ⟨⟨3, by omega, rfl, none_step2 s hno hq⟩, by simp [intOf]⟩
      · go_wp2
        go_ret
        exact ⟨ret_int (attr_hit2 s hno hq).symm, hb⟩
    · cases hq : [100] == s.toList
      · go_wp2
        exact ⟨⟨4, by omega, rfl, none_step3 s hno hq⟩, by simp [intOf]⟩
      · go_wp2
        go_ret
        exact ⟨ret_int (attr_hit3 s hno hq).symm, hb⟩
    · go_wp2
      go_ret
      exact ⟨ret_int (attr_none s hno).symm, hb⟩
end Go.Proofs.YthiffpdioclnlaaDoor
