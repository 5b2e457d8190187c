/-
  The walk of the law ValueTells.
-/
import Derived.Test.YthiffpdioclnlaaDoorVU
import Derived.Test.YthiffpdioclnlaaDoorVE
import Derived.Test.YthiffpdioclnlaaDoorLB
import Derived.Test.YthiffpdioclnlaaDoorRD
import Derived.Test.YthiffpdioclnlaaDoorLO
set_option linter.unusedSimpArgs false
set_option linter.unusedVariables false
namespace Go.Proofs.YthiffpdioclnlaaDoor
open Go.RowKit

/-- Two boxed values and an event, in a world that has them. -/
structure Boxed (W : World) (b : Nat) (ka na : Int) (sa : ByteArray) (kb nb : Int) (sb : ByteArray) (k0 n0 : Int) (s0 : ByteArray) (k1 n1 : Int) (s1 : ByteArray) (k2 n2 : Int) (s2 : ByteArray) (k3 n3 : Int) (s3 : ByteArray) : Prop where
  h0 : W.heap[b]? = some (.cells #[.int .i64 ka, .int .i64 na, .string sa] 23 (0, 0))
  h1 : W.heap[b + 1]? = some (.cells #[.int .i64 kb, .int .i64 nb, .string sb] 23 (0, 0))
  h2 : W.heap[b + 1 + 1]? = some (.cells #[.int .i64 k0, .int .i64 n0, .string s0, .int .i64 k1, .int .i64 n1, .string s1, .int .i64 k2, .int .i64 n2, .string s2, .int .i64 k3, .int .i64 n3, .string s3] 25 (0, 0))
theorem Boxed.on {W W' : World} {b : Nat} {ka na : Int} {sa : ByteArray} {kb nb : Int} {sb : ByteArray} {k0 n0 : Int} {s0 : ByteArray} {k1 n1 : Int} {s1 : ByteArray} {k2 n2 : Int} {s2 : ByteArray} {k3 n3 : Int} {s3 : ByteArray} (h : Boxed W b ka na sa kb nb sb k0 n0 s0 k1 n1 s1 k2 n2 s2 k3 n3 s3) (hb : Below W.heap.size W W') : Boxed W' b ka na sa kb nb sb k0 n0 s0 k1 n1 s1 k2 n2 s2 k3 n3 s3 :=
  ⟨(hb.block _ (lt_heap h.h0)).trans h.h0, (hb.block _ (lt_heap h.h1)).trans h.h1, (hb.block _ (lt_heap h.h2)).trans h.h2⟩
theorem Boxed.cells {W : World} {b : Nat} {ka na : Int} {sa : ByteArray} {kb nb : Int} {sb : ByteArray} {k0 n0 : Int} {s0 : ByteArray} {k1 n1 : Int} {s1 : ByteArray} {k2 n2 : Int} {s2 : ByteArray} {k3 n3 : Int} {s3 : ByteArray} (h : Boxed W b ka na sa kb nb sb k0 n0 s0 k1 n1 s1 k2 n2 s2 k3 n3 s3) :
    (W.cell? ⟨b, 0, none⟩ = some (.int .i64 ka) ∧ W.cell? ⟨b, 1, none⟩ = some (.int .i64 na) ∧ W.cell? ⟨b, 2, none⟩ = some (.string sa)) ∧
    (W.cell? ⟨b + 1, 0, none⟩ = some (.int .i64 kb) ∧ W.cell? ⟨b + 1, 1, none⟩ = some (.int .i64 nb) ∧ W.cell? ⟨b + 1, 2, none⟩ = some (.string sb)) ∧
    W.cell? ⟨b + 1 + 1, 0, none⟩ = some (.int .i64 k0) ∧ W.cell? ⟨b + 1 + 1, 1, none⟩ = some (.int .i64 n0) ∧ W.cell? ⟨b + 1 + 1, 2, none⟩ = some (.string s0) ∧ W.cell? ⟨b + 1 + 1, 3, none⟩ = some (.int .i64 k1) ∧ W.cell? ⟨b + 1 + 1, 4, none⟩ = some (.int .i64 n1) ∧ W.cell? ⟨b + 1 + 1, 5, none⟩ = some (.string s1) ∧ W.cell? ⟨b + 1 + 1, 6, none⟩ = some (.int .i64 k2) ∧ W.cell? ⟨b + 1 + 1, 7, none⟩ = some (.int .i64 n2) ∧ W.cell? ⟨b + 1 + 1, 8, none⟩ = some (.string s2) ∧ W.cell? ⟨b + 1 + 1, 9, none⟩ = some (.int .i64 k3) ∧ W.cell? ⟨b + 1 + 1, 10, none⟩ = some (.int .i64 n3) ∧ W.cell? ⟨b + 1 + 1, 11, none⟩ = some (.string s3) :=
  ⟨⟨cell_heap h.h0 0, cell_heap h.h0 1, cell_heap h.h0 2⟩, ⟨cell_heap h.h1 0, cell_heap h.h1 1, cell_heap h.h1 2⟩, cell_heap h.h2 0, cell_heap h.h2 1, cell_heap h.h2 2, cell_heap h.h2 3, cell_heap h.h2 4, cell_heap h.h2 5, cell_heap h.h2 6, cell_heap h.h2 7, cell_heap h.h2 8, cell_heap h.h2 9, cell_heap h.h2 10, cell_heap h.h2 11⟩
theorem boxed_new (w : World) (ka na : Int) (sa : ByteArray) (kb nb : Int) (sb : ByteArray) (k0 n0 : Int) (s0 : ByteArray) (k1 n1 : Int) (s1 : ByteArray) (k2 n2 : Int) (s2 : ByteArray) (k3 n3 : Int) (s3 : ByteArray) :
    Boxed (((w.alloc (.cells #[.int .i64 ka, .int .i64 na, .string sa] 23)).alloc (.cells #[.int .i64 kb, .int .i64 nb, .string sb] 23)).alloc (.cells #[.int .i64 k0, .int .i64 n0, .string s0, .int .i64 k1, .int .i64 n1, .string s1, .int .i64 k2, .int .i64 n2, .string s2, .int .i64 k3, .int .i64 n3, .string s3] 25)) w.heap.size ka na sa kb nb sb k0 n0 s0 k1 n1 s1 k2 n2 s2 k3 n3 s3 := by
  refine ⟨?_, ?_, heap_at (by simp)⟩
  · rw [Below.heap_alloc _ _ _ (by simp; omega), Below.heap_alloc _ _ _ (by simp)]; exact heap_new _ _
  · rw [Below.heap_alloc _ _ _ (by simp)]; exact heap_at (by simp)

set_option maxHeartbeats 4000000 in
set_option maxRecDepth 100000 in
theorem law_tells (ka na : Int) (sa : ByteArray) (kb nb : Int) (sb : ByteArray) (k0 n0 : Int) (s0 : ByteArray) (k1 n1 : Int) (s1 : ByteArray) (k2 n2 : Int) (s2 : ByteArray) (k3 n3 : Int) (s3 : ByteArray) (w : World) (hE : Env w) (na0 : -9223372036854775808 ≤ na) (na1 : na ≤ 9223372036854775807) (la : sa.size ≤ maxLen) (lb : sb.size ≤ maxLen) (l0 : s0.size ≤ maxLen) (l1 : s1.size ≤ maxLen) (l2 : s2.size ≤ maxLen) (l3 : s3.size ≤ maxLen) :
    Calls Tryd.prog 3 #[.agg #[.int .i64 ka, .int .i64 na, .string sa], .agg #[.int .i64 kb, .int .i64 nb, .string sb], .agg #[.int .i64 k0, .int .i64 n0, .string s0, .int .i64 k1, .int .i64 n1, .string s1, .int .i64 k2, .int .i64 n2, .string s2, .int .i64 k3, .int .i64 n3, .string s3]] w fun e w' => e = .returned (.bool true) ∧ Below w.heap.size w w' := by
  have HAW := fun (W : World) (h : Env W) => hide (awake_any W h)
  have HE := hide (hE.on (below_new3 w (.cells #[.int .i64 ka, .int .i64 na, .string sa] 23) (.cells #[.int .i64 kb, .int .i64 nb, .string sb] 23) (.cells #[.int .i64 k0, .int .i64 n0, .string s0, .int .i64 k1, .int .i64 n1, .string s1, .int .i64 k2, .int .i64 n2, .string s2, .int .i64 k3, .int .i64 n3, .string s3] 25)))
  have HT := hide (boxed_new w ka na sa kb nb sb k0 n0 s0 k1 n1 s1 k2 n2 s2 k3 n3 s3)
  have HB := hide (below_new3 w (.cells #[.int .i64 ka, .int .i64 na, .string sa] 23) (.cells #[.int .i64 kb, .int .i64 nb, .string sb] 23) (.cells #[.int .i64 k0, .int .i64 n0, .string s0, .int .i64 k1, .int .i64 n1, .string s1, .int .i64 k2, .int .i64 n2, .string s2, .int .i64 k3, .int .i64 n3, .string s3] 25))
  clear hE
  by_cases a2 : (200 : Int) < (sa.size : Int)
  · go_enter Tryd.func3, Tryd.ntmps3
    go_wp2_with fail
    refine (unhide (HAW _ HE.out)).mono ?_
    rintro e w1 ⟨rfl, hb1⟩
    have HT1 := hide (HT.out.on hb1)
    have HE1 := hide (HE.out.on hb1)
    have HB1 := hide (HB.out.trans (hb1.mono HB.out.size))
    have Hz1 : w.heap.size ≤ w1.heap.size := HB1.out.size
    obtain ⟨⟨c0, c1, c2⟩, ⟨c3, c4, c5⟩, d0, d1, d2, d3, d4, d5, d6, d7, d8, d9, d10, d11⟩ := HT1.out.cells
    clear hb1 HT HE HB
    go_wp2_with fail
    refine (unhide (HAW _ HE1.out)).mono ?_
    rintro e w9 ⟨rfl, hb9⟩
    have HB9 := hide (HB1.out.trans (hb9.mono Hz1))
    clear hb9
    go_wp2
    go_ret
    exact ⟨rfl, HB9.out⟩
  by_cases b2 : (200 : Int) < (sb.size : Int)
  · go_enter Tryd.func3, Tryd.ntmps3
    go_wp2_with fail
    refine (unhide (HAW _ HE.out)).mono ?_
    rintro e w1 ⟨rfl, hb1⟩
    have HT1 := hide (HT.out.on hb1)
    have HE1 := hide (HE.out.on hb1)
    have HB1 := hide (HB.out.trans (hb1.mono HB.out.size))
    have Hz1 : w.heap.size ≤ w1.heap.size := HB1.out.size
    obtain ⟨⟨c0, c1, c2⟩, ⟨c3, c4, c5⟩, d0, d1, d2, d3, d4, d5, d6, d7, d8, d9, d10, d11⟩ := HT1.out.cells
    clear hb1 HT HE HB
    go_wp2_with fail
    refine (unhide (HAW _ HE1.out)).mono ?_
    rintro e w9 ⟨rfl, hb9⟩
    have HB9 := hide (HB1.out.trans (hb9.mono Hz1))
    clear hb9
    go_wp2
    go_ret
    exact ⟨rfl, HB9.out⟩
  go_enter Tryd.func3, Tryd.ntmps3
  go_wp2_with fail
  refine (unhide (HAW _ HE.out)).mono ?_
  rintro e w1 ⟨rfl, hb1⟩
  have HT1 := hide (HT.out.on hb1)
  have HE1 := hide (HE.out.on hb1)
  have HB1 := hide (HB.out.trans (hb1.mono HB.out.size))
  have Hz1 : w.heap.size ≤ w1.heap.size := HB1.out.size
  obtain ⟨⟨c0, c1, c2⟩, ⟨c3, c4, c5⟩, d0, d1, d2, d3, d4, d5, d6, d7, d8, d9, d10, d11⟩ := HT1.out.cells
  clear hb1 HT HE HB
  go_wp2
  have X1 := fun (d : Nat) (os : Array Obj) => hide (Calls.regrown_of (right_any ka na sa (Sort.grow (redrawn w1 d) os) la))
  have X2 := fun (d : Nat) (os : Array Obj) => hide (Calls.regrown_of (refRight_any ka na sa (Sort.grow (redrawn w1 d) os) la))
  have X3 := fun (d : Nat) (os : Array Obj) => hide (Calls.regrown_of (event_any k0 n0 s0 k1 n1 s1 k2 n2 s2 k3 n3 s3 (Sort.grow (redrawn w1 d) os) l0 l1 l2 l3))
  have X4 := fun (d : Nat) (os : Array Obj) => hide (Calls.regrown_of (refEvent_any k0 n0 s0 k1 n1 s1 k2 n2 s2 k3 n3 s3 (Sort.grow (redrawn w1 d) os) l0 l1 l2 l3))
  have X5 := fun (d : Nat) (os : Array Obj) => hide (Calls.regrown_of (order_any ka na sa kb nb sb (Sort.grow (redrawn w1 d) os)))
  have X6 := fun (d : Nat) (os : Array Obj) => hide (Calls.regrown_of (refOrder_any ka na sa kb nb sb (Sort.grow (redrawn w1 d) os)))
  have X7 := fun (d : Nat) (os : Array Obj) => hide (Calls.regrown_of (text_any ka na sa (Sort.grow (redrawn w1 d) os) (HE1.out.on (below_regrown w1 d os)) na0 na1 la))
  have X8 := fun (d : Nat) (os : Array Obj) => hide (Calls.regrown_of (refText_any ka na sa (Sort.grow (redrawn w1 d) os) na0 na1 la))
  have X9 := fun (d : Nat) (os : Array Obj) => hide (Calls.regrown_of (quote_any sb (Sort.grow (redrawn w1 d) os) (by omega)))
  have X0 := fun (d : Nat) (os : Array Obj) => hide (Calls.regrown_of (refQuote_any sb (Sort.grow (redrawn w1 d) os) (by omega)))
  generalize rightB ka na sa = R at *
  generalize eventB k0 n0 s0 k1 n1 s1 k2 n2 s2 k3 n3 s3 = EV at *
  generalize ordV ka na sa kb nb sb = OR at *
  generalize (⟨(textL ka na sa).toArray⟩ : ByteArray) = TX at *
  generalize (⟨(quoteL sb.data.toList).toArray⟩ : ByteArray) = QT at *
  clear HE1 HT1 HAW
  have p0 := cell_regrown c0
  have p1 := cell_regrown c1
  have p2 := cell_regrown c2
  have p3 := cell_regrown c3
  have p4 := cell_regrown c4
  have p5 := cell_regrown c5
  have q0 := cell_regrown d0
  have q1 := cell_regrown d1
  have q2 := cell_regrown d2
  have q3 := cell_regrown d3
  have q4 := cell_regrown d4
  have q5 := cell_regrown d5
  have q6 := cell_regrown d6
  have q7 := cell_regrown d7
  have q8 := cell_regrown d8
  have q9 := cell_regrown d9
  have q10 := cell_regrown d10
  have q11 := cell_regrown d11
  clear c0 c1 c2 c3 c4 c5 d0 d1 d2 d3 d4 d5 d6 d7 d8 d9 d10 d11
  refine wp_region_quiet_below mixed (by kernel_rfl) ?_
  repeat (first | go_big_quiet_step ((first | exact unhide (X1 _ _) | exact unhide (X2 _ _) | exact unhide (X3 _ _) | exact unhide (X4 _ _) | exact unhide (X5 _ _) | exact unhide (X6 _ _) | exact unhide (X7 _ _) | exact unhide (X8 _ _) | exact unhide (X9 _ _) | exact unhide (X0 _ _))) | quiet_step ((first | exact unhide (X1 _ _) | exact unhide (X2 _ _) | exact unhide (X3 _ _) | exact unhide (X4 _ _) | exact unhide (X5 _ _) | exact unhide (X6 _ _) | exact unhide (X7 _ _) | exact unhide (X8 _ _) | exact unhide (X9 _ _) | exact unhide (X0 _ _))))
  refine wpQuiet_nil ?_
  intro _ hw'
  obtain ⟨⟨dq, osq⟩, hw''⟩ := hw'
  subst hw''
  go_wp2
  go_ret
  exact ⟨rfl, HB1.out.trans ((below_regrown w1 dq osq).mono Hz1)⟩
end Go.Proofs.YthiffpdioclnlaaDoor
