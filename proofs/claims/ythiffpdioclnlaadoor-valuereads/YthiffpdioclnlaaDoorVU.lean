/-
  The walk of the laws' common first line: the answers that the document fixes.
-/
import Derived.Test.YthiffpdioclnlaaDoorVT
import Derived.Test.YthiffpdioclnlaaDoorVQ
import Derived.Test.YthiffpdioclnlaaDoorVM
set_option linter.unusedSimpArgs false
set_option linter.unusedVariables false
namespace Go.Proofs.YthiffpdioclnlaaDoor
open Go.RowKit

theorem read_a : readL [45, 55, 93] = some (1, -7, [], 2) := by decide +kernel
theorem read_b : readL [45, 93] = some (0, 0, [], 1) := by decide +kernel
theorem read_c : readL [48, 55] = none := by decide +kernel
theorem quote_a : quoteL [97, 39, 98] = [39, 97, 92, 50, 55, 98, 39] := by decide +kernel

theorem read_7 (w : World) (hE : Env w) : Calls Tryd.prog 20 #[.string ⟨#[45, 55, 93]⟩] w fun e w' => e = .returned (.tuple #[.agg #[.int .i64 1, .int .i64 (-7), .string ⟨#[]⟩], .int .i64 2, .bool true]) ∧ Below w.heap.size w w' := by
  have h := read_any ⟨#[45, 55, 93]⟩ w hE (by decide)
  have e : (⟨#[45, 55, 93]⟩ : ByteArray).data.toList = [45, 55, 93] := rfl
  rw [e, read_a] at h
  exact h
theorem read_m (w : World) (hE : Env w) : Calls Tryd.prog 20 #[.string ⟨#[45, 93]⟩] w fun e w' => e = .returned (.tuple #[.agg #[.int .i64 0, .int .i64 0, .string ⟨#[]⟩], .int .i64 1, .bool true]) ∧ Below w.heap.size w w' := by
  have h := read_any ⟨#[45, 93]⟩ w hE (by decide)
  have e : (⟨#[45, 93]⟩ : ByteArray).data.toList = [45, 93] := rfl
  rw [e, read_b] at h
  exact h
theorem read_07 (w : World) (hE : Env w) : Calls Tryd.prog 20 #[.string ⟨#[48, 55]⟩] w fun e w' => e = .returned (.tuple #[.agg #[.int .i64 0, .int .i64 0, .string ⟨#[]⟩], .int .i64 0, .bool false]) ∧ Below w.heap.size w w' := by
  have h := read_any ⟨#[48, 55]⟩ w hE (by decide)
  have e : (⟨#[48, 55]⟩ : ByteArray).data.toList = [48, 55] := rfl
  rw [e, read_c] at h
  exact h
theorem quote_q (w : World) : Calls Tryd.prog 18 #[.string ⟨#[97, 39, 98]⟩] w fun e w' => e = .returned (.string ⟨#[39, 97, 92, 50, 55, 98, 39]⟩) ∧ Below w.heap.size w w' := by
  have h := quote_any ⟨#[97, 39, 98]⟩ w (by decide)
  have e : (⟨#[97, 39, 98]⟩ : ByteArray).data.toList = [97, 39, 98] := rfl
  rw [e, quote_a] at h
  exact h

/-- What awake's own variables hold. -/
structure Aw (W : World) (b1 b4 bN : Nat) : Prop where
  h1 : W.heap[b1]? = some (.cells #[.int .i64 1, .int .i64 (-7), .string ⟨#[]⟩] 23 (0, 0))
  h4 : W.heap[b4]? = some (.cells #[.int .i64 0, .int .i64 0, .string ⟨#[]⟩] 23 (0, 0))
  hN : NamesAt W bN
  n1 : b1 ≠ bN
  n4 : b4 ≠ bN
theorem NamesAt.on {W W' : World} {b : Nat} (h : NamesAt W b) (hb : Below W.heap.size W W') : NamesAt W' b := by
  rcases h with h | h
  · exact Or.inl ((hb.block b (lt_heap h)).trans h)
  · exact Or.inr ((hb.block b (lt_heap h)).trans h)
theorem Aw.on {W W' : World} {b1 b4 bN : Nat} (h : Aw W b1 b4 bN) (hb : Below W.heap.size W W') : Aw W' b1 b4 bN :=
  ⟨(hb.block _ (lt_heap h.h1)).trans h.h1, (hb.block _ (lt_heap h.h4)).trans h.h4, h.hN.on hb, h.n1, h.n4⟩
theorem Aw.grown {W W' : World} {b1 b4 bN : Nat} (h : Aw W b1 b4 bN) (hg : W.grownBy W' (some bN)) (hN : NamesAt W' bN) : Aw W' b1 b4 bN :=
  ⟨(hg.block _ (lt_heap h.h1) (by simp [h.n1])).trans h.h1, (hg.block _ (lt_heap h.h4) (by simp [h.n4])).trans h.h4, hN, h.n1, h.n4⟩
theorem Aw.cells {W : World} {b1 b4 bN : Nat} (h : Aw W b1 b4 bN) : W.cell? ⟨b1, 0, none⟩ = some (.int .i64 1) ∧ W.cell? ⟨b1, 1, none⟩ = some (.int .i64 (-7)) ∧ W.cell? ⟨b1, 2, none⟩ = some (.string ⟨#[]⟩) ∧
    W.cell? ⟨b4, 0, none⟩ = some (.int .i64 0) ∧ W.cell? ⟨b4, 1, none⟩ = some (.int .i64 0) ∧ W.cell? ⟨b4, 2, none⟩ = some (.string ⟨#[]⟩) :=
  ⟨cell_heap h.h1 0, cell_heap h.h1 1, cell_heap h.h1 2, cell_heap h.h4 0, cell_heap h.h4 1, cell_heap h.h4 2⟩

theorem aw_start {w1 w2 w3 : World} (hb2 : Below (w1.alloc (.cells #[.int .i64 1, .int .i64 (-7), .string ⟨#[]⟩] 23)).heap.size (w1.alloc (.cells #[.int .i64 1, .int .i64 (-7), .string ⟨#[]⟩] 23)) w2)
    (hb3 : Below (w2.alloc (.cells #[.int .i64 0, .int .i64 0, .string ⟨#[]⟩] 23)).heap.size (w2.alloc (.cells #[.int .i64 0, .int .i64 0, .string ⟨#[]⟩] 23)) w3) :
    Aw ((w3.alloc (.cells #[.int .i64 0, .int .i64 0, .string ⟨#[]⟩] 23)).alloc freshN) w1.heap.size w2.heap.size (w3.heap.size + 1) := by
  have z2 := hb2.size
  have z3 := hb3.size
  simp at z2 z3
  refine ⟨?_, ?_, Or.inl (heap_at (by simp)), by omega, by omega⟩
  · rw [Below.heap_alloc _ _ _ (by simp; omega), Below.heap_alloc _ _ _ (by omega), hb3.block _ (by simp; omega), Below.heap_alloc _ _ _ (by omega), hb2.block _ (by simp)]
    exact heap_new _ _
  · rw [Below.heap_alloc _ _ _ (by simp; omega), Below.heap_alloc _ _ _ (by omega), hb3.block _ (by simp)]
    exact heap_new _ _

theorem name_2 (b : Nat) (w : World) (hN : NamesAt w b) :
    Calls Tryd.prog 22 #[.pointer (some ⟨b, 0, none⟩), .int .i64 2] w fun e w' => e = .returned (.string ⟨#[99]⟩) ∧ NamesAt w' b ∧ w.grownBy w' (some b) := by
  have h := name_some b 2 w hN
  have e : nameOf 2 = ⟨#[99]⟩ := rfl
  rw [e] at h
  exact h
theorem attr_d (b : Nat) (w : World) (hN : NamesAt w b) :
    Calls Tryd.prog 23 #[.pointer (some ⟨b, 0, none⟩), .string ⟨#[100]⟩] w fun e w' => e = .returned (.int .i64 3) ∧ NamesAt w' b ∧ w.grownBy w' (some b) := by
  have h := attr_some b ⟨#[100]⟩ w hN
  have e : attrOf (⟨#[100]⟩ : ByteArray).data.toList = 3 := rfl
  rw [e] at h
  exact h
theorem attr_e (b : Nat) (w : World) (hN : NamesAt w b) :
    Calls Tryd.prog 23 #[.pointer (some ⟨b, 0, none⟩), .string ⟨#[101]⟩] w fun e w' => e = .returned (.int .i64 (-1)) ∧ NamesAt w' b ∧ w.grownBy w' (some b) := by
  have h := attr_some b ⟨#[101]⟩ w hN
  have e : attrOf (⟨#[101]⟩ : ByteArray).data.toList = -1 := rfl
  rw [e] at h
  exact h
theorem right_7 (w : World) : Calls Tryd.prog 10 #[.agg #[.int .i64 1, .int .i64 (-7), .string ⟨#[]⟩]] w fun e w' => e = .returned (.bool true) ∧ Below w.heap.size w w' := by
  have h := right_any 1 (-7) ⟨#[]⟩ w (by decide)
  have e : rightB 1 (-7) ⟨#[]⟩ = true := by decide +kernel
  rw [e] at h
  exact h
theorem order_m7 (w : World) : Calls Tryd.prog 14 #[.agg #[.int .i64 0, .int .i64 0, .string ⟨#[]⟩], .agg #[.int .i64 1, .int .i64 (-7), .string ⟨#[]⟩]] w fun e w' => e = .returned (.int .i64 (-1)) ∧ Below w.heap.size w w' := by
  have h := order_any 0 0 ⟨#[]⟩ 1 (-7) ⟨#[]⟩ w
  have e : ordV 0 0 ⟨#[]⟩ 1 (-7) ⟨#[]⟩ = -1 := by decide +kernel
  rw [e] at h
  exact h

/-- Nothing below B turns where B is below the one block that is written. -/
theorem below_grownBy {B : Nat} {a w w' : World} {b : Nat} (h : Below B a w) (hg : w.grownBy w' (some b)) (hB : B ≤ w.heap.size) (hb : B ≤ b) : Below B a w' :=
  h.grown hg hB (fun k e => by cases e; exact hb)

set_option maxHeartbeats 2000000 in
set_option maxRecDepth 100000 in
theorem awake_any (w : World) (hE : Env w) : Calls Tryd.prog 9 #[] w fun e w' => e = .returned (.bool true) ∧ Below w.heap.size w w' := by
  have HE := hide hE
  clear hE
  go_enter Tryd.func9, Tryd.ntmps9
  go_wp2_with fail
  refine (read_7 _ HE.out).mono ?_
  rintro e w1 ⟨rfl, hb1⟩
  have HB1 := hide hb1
  have HE1 := hide ((HE.out.on hb1).alloc (.cells #[.int .i64 1, .int .i64 (-7), .string ⟨#[]⟩] 23))
  clear hb1
  go_wp2_with fail
  refine (read_m _ HE1.out).mono ?_
  rintro e w2 ⟨rfl, hb2⟩
  have HB2 := hide hb2
  have HE2 := hide ((HE1.out.on hb2).alloc (.cells #[.int .i64 0, .int .i64 0, .string ⟨#[]⟩] 23))
  clear hb2
  go_wp2_with fail
  refine (read_07 _ HE2.out).mono ?_
  rintro e w3 ⟨rfl, hb3⟩
  have HB3 := hide hb3
  clear hb3
  have HA3 := hide (aw_start HB2.out HB3.out)
  have HBq : Hid (Below w.heap.size w ((w3.alloc (.cells #[.int .i64 0, .int .i64 0, .string ⟨#[]⟩] 23)).alloc freshN)) := hide (by
    have z1 := HB1.out.size
    have z2 := HB2.out.size
    have z3 := HB3.out.size
    simp at z2 z3
    have h1 := ((HB1.out.alloc z1 _).trans (HB2.out.mono (by simp; omega)))
    have h2 := ((h1.alloc (by omega) _).trans (HB3.out.mono (by simp; omega)))
    exact (h2.alloc (by omega) _).alloc (by simp; omega) _)
  have hbN : w.heap.size ≤ w3.heap.size + 1 := by
    have z1 := HB1.out.size
    have z2 := HB2.out.size
    have z3 := HB3.out.size
    simp at z2 z3
    omega
  clear HB1 HB2 HB3 HE HE1 HE2
  go_wp2_with fail
  refine (quote_q _).mono ?_
  rintro e w4 ⟨rfl, hb4⟩
  have HA4 := hide (HA3.out.on hb4)
  have HB4 := hide (HBq.out.trans (hb4.mono HBq.out.size))
  have Hz4 : w.heap.size ≤ w4.heap.size := HB4.out.size
  obtain ⟨c0, c1, c2, c3, c4, c5⟩ := HA4.out.cells
  clear hb4 HA3 HBq
  go_wp2_with fail
  clear c0 c1 c2 c3 c4 c5
  refine (name_2 _ _ HA4.out.hN).mono ?_
  rintro e w5 ⟨rfl, hN, hg⟩
  have HA5 := hide (HA4.out.grown hg hN)
  have HB5 := hide (below_grownBy HB4.out hg Hz4 hbN)
  have Hz5 : w.heap.size ≤ w5.heap.size := HB5.out.size
  obtain ⟨c0, c1, c2, c3, c4, c5⟩ := HA5.out.cells
  clear hN hg HA4 HB4
  go_wp2_with fail
  clear c0 c1 c2 c3 c4 c5
  refine (attr_d _ _ HA5.out.hN).mono ?_
  rintro e w6 ⟨rfl, hN, hg⟩
  have HA6 := hide (HA5.out.grown hg hN)
  have HB6 := hide (below_grownBy HB5.out hg Hz5 hbN)
  have Hz6 : w.heap.size ≤ w6.heap.size := HB6.out.size
  obtain ⟨c0, c1, c2, c3, c4, c5⟩ := HA6.out.cells
  clear hN hg HA5 HB5
  go_wp2_with fail
  clear c0 c1 c2 c3 c4 c5
  refine (attr_e _ _ HA6.out.hN).mono ?_
  rintro e w7 ⟨rfl, hN, hg⟩
  have HA7 := hide (HA6.out.grown hg hN)
  have HB7 := hide (below_grownBy HB6.out hg Hz6 hbN)
  have Hz7 : w.heap.size ≤ w7.heap.size := HB7.out.size
  obtain ⟨c0, c1, c2, c3, c4, c5⟩ := HA7.out.cells
  clear hN hg HA6 HB6
  go_wp2_with fail
  clear c0 c1 c2 c3 c4 c5
  refine (right_7 _).mono ?_
  rintro e w8 ⟨rfl, hb⟩
  have HA8 := hide (HA7.out.on hb)
  have HB8 := hide (HB7.out.trans (hb.mono Hz7))
  have Hz8 : w.heap.size ≤ w8.heap.size := HB8.out.size
  obtain ⟨c0, c1, c2, c3, c4, c5⟩ := HA8.out.cells
  clear hb HA7 HB7
  go_wp2_with fail
  clear c0 c1 c2 c3 c4 c5
  refine (order_m7 _).mono ?_
  rintro e w9 ⟨rfl, hb⟩
  have HA9 := hide (HA8.out.on hb)
  have HB9 := hide (HB8.out.trans (hb.mono Hz8))
  have Hz9 : w.heap.size ≤ w9.heap.size := HB9.out.size
  obtain ⟨c0, c1, c2, c3, c4, c5⟩ := HA9.out.cells
  clear hb HA8 HB8
  go_wp2
  go_ret
  exact ⟨rfl, HB9.out⟩
end Go.Proofs.YthiffpdioclnlaaDoor
