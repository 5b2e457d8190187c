/-
  The walk of the law ValueOrder.
-/
import Derived.Test.YthiffpdioclnlaaDoorVU
import Derived.Test.YthiffpdioclnlaaDoorPO
import Derived.BigQuiet
import Derived.Lib.QuietBelow
set_option linter.unusedSimpArgs false
set_option linter.unusedVariables false
namespace Go.Proofs.YthiffpdioclnlaaDoor
open Go.RowKit

/-- A value's three cells. -/
def vcells (k n : Int) (s : ByteArray) : Array Value := #[.int .i64 k, .int .i64 n, .string s]

theorem mixed : Tryd.prog.follows .mixedOrders = true := by kernel_rfl

/-- Three boxed values, in a world that has them. -/
structure Three (W : World) (b : Nat) (ka na : Int) (sa : ByteArray) (kb nb : Int) (sb : ByteArray) (kc nc : Int) (sc : ByteArray) : Prop where
  h0 : W.heap[b]? = some (.cells #[.int .i64 ka, .int .i64 na, .string sa] 23 (0, 0))
  h1 : W.heap[b + 1]? = some (.cells #[.int .i64 kb, .int .i64 nb, .string sb] 23 (0, 0))
  h2 : W.heap[b + 1 + 1]? = some (.cells #[.int .i64 kc, .int .i64 nc, .string sc] 23 (0, 0))
theorem Three.on {W W' : World} {b : Nat} {ka na : Int} {sa : ByteArray} {kb nb : Int} {sb : ByteArray} {kc nc : Int} {sc : ByteArray} (h : Three W b ka na sa kb nb sb kc nc sc) (hb : Below W.heap.size W W') : Three W' b ka na sa kb nb sb kc nc sc :=
  ⟨(hb.block _ (lt_heap h.h0)).trans h.h0, (hb.block _ (lt_heap h.h1)).trans h.h1, (hb.block _ (lt_heap h.h2)).trans h.h2⟩
theorem Three.cells {W : World} {b : Nat} {ka na : Int} {sa : ByteArray} {kb nb : Int} {sb : ByteArray} {kc nc : Int} {sc : ByteArray} (h : Three W b ka na sa kb nb sb kc nc sc) :
    (W.cell? ⟨b, 0, none⟩ = some (.int .i64 ka) ∧ W.cell? ⟨b, 1, none⟩ = some (.int .i64 na) ∧ W.cell? ⟨b, 2, none⟩ = some (.string sa)) ∧
    (W.cell? ⟨b + 1, 0, none⟩ = some (.int .i64 kb) ∧ W.cell? ⟨b + 1, 1, none⟩ = some (.int .i64 nb) ∧ W.cell? ⟨b + 1, 2, none⟩ = some (.string sb)) ∧
    (W.cell? ⟨b + 1 + 1, 0, none⟩ = some (.int .i64 kc) ∧ W.cell? ⟨b + 1 + 1, 1, none⟩ = some (.int .i64 nc) ∧ W.cell? ⟨b + 1 + 1, 2, none⟩ = some (.string sc)) :=
  ⟨⟨cell_heap h.h0 0, cell_heap h.h0 1, cell_heap h.h0 2⟩, ⟨cell_heap h.h1 0, cell_heap h.h1 1, cell_heap h.h1 2⟩, ⟨cell_heap h.h2 0, cell_heap h.h2 1, cell_heap h.h2 2⟩⟩
theorem three_new (w : World) (ka na : Int) (sa : ByteArray) (kb nb : Int) (sb : ByteArray) (kc nc : Int) (sc : ByteArray) :
    Three (((w.alloc (.cells #[.int .i64 ka, .int .i64 na, .string sa] 23)).alloc (.cells #[.int .i64 kb, .int .i64 nb, .string sb] 23)).alloc (.cells #[.int .i64 kc, .int .i64 nc, .string sc] 23)) w.heap.size ka na sa kb nb sb kc nc sc := by
  refine ⟨?_, ?_, heap_at (by simp)⟩
  · rw [Below.heap_alloc _ _ _ (by simp; omega), Below.heap_alloc _ _ _ (by simp)]; exact heap_new _ _
  · rw [Below.heap_alloc _ _ _ (by simp)]; exact heap_at (by simp)
theorem below_new3 (w : World) (o1 o2 o3 : Obj) : Below w.heap.size w (((w.alloc o1).alloc o2).alloc o3) := (two_new w o1 o2).alloc (by simp; omega) o3

theorem order_rg (w : World) (d : Nat) (os : Array Obj) (ka na : Int) (sa : ByteArray) (kb nb : Int) (sb : ByteArray) :
    Calls Tryd.prog 14 #[.agg #[.int .i64 ka, .int .i64 na, .string sa], .agg #[.int .i64 kb, .int .i64 nb, .string sb]] (Sort.grow (redrawn w d) os) fun e w'' => e = .returned (.int .i64 (ordV ka na sa kb nb sb)) ∧ ∃ p : Regrown, w'' = Sort.grow (redrawn w p.d) p.os :=
  Calls.regrown_of (order_any _ _ _ _ _ _ _)

set_option maxHeartbeats 1000000 in
set_option maxRecDepth 100000 in
theorem law_order (ka na : Int) (sa : ByteArray) (kb nb : Int) (sb : ByteArray) (kc nc : Int) (sc : ByteArray) (w : World) (hE : Env w) (la : sa.size ≤ maxLen) (lb : sb.size ≤ maxLen) (lc : sc.size ≤ maxLen) :
    Calls Tryd.prog 6 #[.agg #[.int .i64 ka, .int .i64 na, .string sa], .agg #[.int .i64 kb, .int .i64 nb, .string sb], .agg #[.int .i64 kc, .int .i64 nc, .string sc]] w fun e w' => e = .returned (.bool true) ∧ Below w.heap.size w w' := by
  have HR1 := fun (W : World) => hide (right_any ka na sa W la)
  have HR2 := fun (W : World) => hide (right_any kb nb sb W lb)
  have HR3 := fun (W : World) => hide (right_any kc nc sc W lc)
  have HAW := fun (W : World) (h : Env W) => hide (awake_any W h)
  have HE := hide (hE.on (below_new3 w (.cells #[.int .i64 ka, .int .i64 na, .string sa] 23) (.cells #[.int .i64 kb, .int .i64 nb, .string sb] 23) (.cells #[.int .i64 kc, .int .i64 nc, .string sc] 23)))
  have HT := hide (three_new w ka na sa kb nb sb kc nc sc)
  have HB := hide (below_new3 w (.cells #[.int .i64 ka, .int .i64 na, .string sa] 23) (.cells #[.int .i64 kb, .int .i64 nb, .string sb] 23) (.cells #[.int .i64 kc, .int .i64 nc, .string sc] 23))
  clear hE
  cases ra : rightB ka na sa
  · rw [ra] at HR1
    go_enter Tryd.func6, Tryd.ntmps6
    go_wp2_with fail
    refine (unhide (HAW _ HE.out)).mono ?_
    rintro e w1 ⟨rfl, hb1⟩
    have HT1 := hide (HT.out.on hb1)
    have HE1 := hide (HE.out.on hb1)
    have HB1 := hide (HB.out.trans (hb1.mono HB.out.size))
    have Hz1 : w.heap.size ≤ w1.heap.size := HB1.out.size
    obtain ⟨⟨c0, c1, c2⟩, ⟨c3, c4, c5⟩, c6, c7, c8⟩ := HT1.out.cells
    clear hb1 HT HE HB
    go_wp2_with fail
    refine (unhide (HR1 _)).mono ?_
    rintro e w2 ⟨rfl, hb2⟩
    have HT2 := hide (HT1.out.on hb2)
    have HE2 := hide (HE1.out.on hb2)
    have HB2 := hide (HB1.out.trans (hb2.mono Hz1))
    have Hz2 : w.heap.size ≤ w2.heap.size := HB2.out.size
    clear c0 c1 c2 c3 c4 c5 c6 c7 c8
    obtain ⟨⟨c0, c1, c2⟩, ⟨c3, c4, c5⟩, c6, c7, c8⟩ := HT2.out.cells
    clear hb2 HT1 HE1 HB1
    clear c0 c1 c2 c3 c4 c5 c6 c7 c8
    go_wp2_with fail
    refine (unhide (HAW _ HE2.out)).mono ?_
    rintro e w9 ⟨rfl, hb9⟩
    have HB9 := hide (HB2.out.trans (hb9.mono Hz2))
    clear hb9
    go_wp2
    go_ret
    exact ⟨rfl, HB9.out⟩
  cases rb : rightB kb nb sb
  · rw [ra] at HR1
    rw [rb] at HR2
    go_enter Tryd.func6, Tryd.ntmps6
    go_wp2_with fail
    refine (unhide (HAW _ HE.out)).mono ?_
    rintro e w1 ⟨rfl, hb1⟩
    have HT1 := hide (HT.out.on hb1)
    have HE1 := hide (HE.out.on hb1)
    have HB1 := hide (HB.out.trans (hb1.mono HB.out.size))
    have Hz1 : w.heap.size ≤ w1.heap.size := HB1.out.size
    obtain ⟨⟨c0, c1, c2⟩, ⟨c3, c4, c5⟩, c6, c7, c8⟩ := HT1.out.cells
    clear hb1 HT HE HB
    go_wp2_with fail
    refine (unhide (HR1 _)).mono ?_
    rintro e w2 ⟨rfl, hb2⟩
    have HT2 := hide (HT1.out.on hb2)
    have HE2 := hide (HE1.out.on hb2)
    have HB2 := hide (HB1.out.trans (hb2.mono Hz1))
    have Hz2 : w.heap.size ≤ w2.heap.size := HB2.out.size
    clear c0 c1 c2 c3 c4 c5 c6 c7 c8
    obtain ⟨⟨c0, c1, c2⟩, ⟨c3, c4, c5⟩, c6, c7, c8⟩ := HT2.out.cells
    clear hb2 HT1 HE1 HB1
    go_wp2_with fail
    refine (unhide (HR2 _)).mono ?_
    rintro e w3 ⟨rfl, hb3⟩
    have HT3 := hide (HT2.out.on hb3)
    have HE3 := hide (HE2.out.on hb3)
    have HB3 := hide (HB2.out.trans (hb3.mono Hz2))
    have Hz3 : w.heap.size ≤ w3.heap.size := HB3.out.size
    clear c0 c1 c2 c3 c4 c5 c6 c7 c8
    obtain ⟨⟨c0, c1, c2⟩, ⟨c3, c4, c5⟩, c6, c7, c8⟩ := HT3.out.cells
    clear hb3 HT2 HE2 HB2
    clear c0 c1 c2 c3 c4 c5 c6 c7 c8
    go_wp2_with fail
    refine (unhide (HAW _ HE3.out)).mono ?_
    rintro e w9 ⟨rfl, hb9⟩
    have HB9 := hide (HB3.out.trans (hb9.mono Hz3))
    clear hb9
    go_wp2
    go_ret
    exact ⟨rfl, HB9.out⟩
  cases rc : rightB kc nc sc
  · rw [ra] at HR1
    rw [rb] at HR2
    rw [rc] at HR3
    go_enter Tryd.func6, Tryd.ntmps6
    go_wp2_with fail
    refine (unhide (HAW _ HE.out)).mono ?_
    rintro e w1 ⟨rfl, hb1⟩
    have HT1 := hide (HT.out.on hb1)
    have HE1 := hide (HE.out.on hb1)
    have HB1 := hide (HB.out.trans (hb1.mono HB.out.size))
    have Hz1 : w.heap.size ≤ w1.heap.size := HB1.out.size
    obtain ⟨⟨c0, c1, c2⟩, ⟨c3, c4, c5⟩, c6, c7, c8⟩ := HT1.out.cells
    clear hb1 HT HE HB
    go_wp2_with fail
    refine (unhide (HR1 _)).mono ?_
    rintro e w2 ⟨rfl, hb2⟩
    have HT2 := hide (HT1.out.on hb2)
    have HE2 := hide (HE1.out.on hb2)
    have HB2 := hide (HB1.out.trans (hb2.mono Hz1))
    have Hz2 : w.heap.size ≤ w2.heap.size := HB2.out.size
    clear c0 c1 c2 c3 c4 c5 c6 c7 c8
    obtain ⟨⟨c0, c1, c2⟩, ⟨c3, c4, c5⟩, c6, c7, c8⟩ := HT2.out.cells
    clear hb2 HT1 HE1 HB1
    go_wp2_with fail
    refine (unhide (HR2 _)).mono ?_
    rintro e w3 ⟨rfl, hb3⟩
    have HT3 := hide (HT2.out.on hb3)
    have HE3 := hide (HE2.out.on hb3)
    have HB3 := hide (HB2.out.trans (hb3.mono Hz2))
    have Hz3 : w.heap.size ≤ w3.heap.size := HB3.out.size
    clear c0 c1 c2 c3 c4 c5 c6 c7 c8
    obtain ⟨⟨c0, c1, c2⟩, ⟨c3, c4, c5⟩, c6, c7, c8⟩ := HT3.out.cells
    clear hb3 HT2 HE2 HB2
    go_wp2_with fail
    refine (unhide (HR3 _)).mono ?_
    rintro e w4 ⟨rfl, hb4⟩
    have HT4 := hide (HT3.out.on hb4)
    have HE4 := hide (HE3.out.on hb4)
    have HB4 := hide (HB3.out.trans (hb4.mono Hz3))
    have Hz4 : w.heap.size ≤ w4.heap.size := HB4.out.size
    clear c0 c1 c2 c3 c4 c5 c6 c7 c8
    obtain ⟨⟨c0, c1, c2⟩, ⟨c3, c4, c5⟩, c6, c7, c8⟩ := HT4.out.cells
    clear hb4 HT3 HE3 HB3
    clear c0 c1 c2 c3 c4 c5 c6 c7 c8
    go_wp2_with fail
    refine (unhide (HAW _ HE4.out)).mono ?_
    rintro e w9 ⟨rfl, hb9⟩
    have HB9 := hide (HB4.out.trans (hb9.mono Hz4))
    clear hb9
    go_wp2
    go_ret
    exact ⟨rfl, HB9.out⟩
  rw [ra] at HR1
  rw [rb] at HR2
  rw [rc] at HR3
  go_enter Tryd.func6, Tryd.ntmps6
  go_wp2_with fail
  refine (unhide (HAW _ HE.out)).mono ?_
  rintro e w1 ⟨rfl, hb1⟩
  have HT1 := hide (HT.out.on hb1)
  have HE1 := hide (HE.out.on hb1)
  have HB1 := hide (HB.out.trans (hb1.mono HB.out.size))
  have Hz1 : w.heap.size ≤ w1.heap.size := HB1.out.size
  obtain ⟨⟨c0, c1, c2⟩, ⟨c3, c4, c5⟩, c6, c7, c8⟩ := HT1.out.cells
  clear hb1 HT HE HB
  go_wp2_with fail
  refine (unhide (HR1 _)).mono ?_
  rintro e w2 ⟨rfl, hb2⟩
  have HT2 := hide (HT1.out.on hb2)
  have HE2 := hide (HE1.out.on hb2)
  have HB2 := hide (HB1.out.trans (hb2.mono Hz1))
  have Hz2 : w.heap.size ≤ w2.heap.size := HB2.out.size
  clear c0 c1 c2 c3 c4 c5 c6 c7 c8
  obtain ⟨⟨c0, c1, c2⟩, ⟨c3, c4, c5⟩, c6, c7, c8⟩ := HT2.out.cells
  clear hb2 HT1 HE1 HB1
  go_wp2_with fail
  refine (unhide (HR2 _)).mono ?_
  rintro e w3 ⟨rfl, hb3⟩
  have HT3 := hide (HT2.out.on hb3)
  have HE3 := hide (HE2.out.on hb3)
  have HB3 := hide (HB2.out.trans (hb3.mono Hz2))
  have Hz3 : w.heap.size ≤ w3.heap.size := HB3.out.size
  clear c0 c1 c2 c3 c4 c5 c6 c7 c8
  obtain ⟨⟨c0, c1, c2⟩, ⟨c3, c4, c5⟩, c6, c7, c8⟩ := HT3.out.cells
  clear hb3 HT2 HE2 HB2
  go_wp2_with fail
  refine (unhide (HR3 _)).mono ?_
  rintro e w4 ⟨rfl, hb4⟩
  have HT4 := hide (HT3.out.on hb4)
  have HE4 := hide (HE3.out.on hb4)
  have HB4 := hide (HB3.out.trans (hb4.mono Hz3))
  have Hz4 : w.heap.size ≤ w4.heap.size := HB4.out.size
  clear c0 c1 c2 c3 c4 c5 c6 c7 c8
  obtain ⟨⟨c0, c1, c2⟩, ⟨c3, c4, c5⟩, c6, c7, c8⟩ := HT4.out.cells
  clear hb4 HT3 HE3 HB3
  have z2 := ord_anti ka na sa kb nb sb
  have bx := ord_bd ka na sa kb nb sb
  have Hra := hide ra
  have Hrb := hide rb
  clear HE4 HT4 ra rb rc HR1 HR2 HR3 HAW
  have k0 := cell_regrown c0
  have k1 := cell_regrown c1
  have k2 := cell_regrown c2
  have k3 := cell_regrown c3
  have k4 := cell_regrown c4
  have k5 := cell_regrown c5
  have k6 := cell_regrown c6
  have k7 := cell_regrown c7
  have k8 := cell_regrown c8
  clear c0 c1 c2 c3 c4 c5 c6 c7 c8
  have hwr : IntKind.i64.wrap (ordV ka na sa kb nb sb) = ordV ka na sa kb nb sb := by rw [IntKind.wrap_i64]; omega
  by_cases hs : ka = kb ∧ na = nb ∧ sa.toList = sb.toList
  · obtain ⟨rfl, rfl, hl⟩ := hs
    obtain rfl : sa = sb := bytes_inj' hl
    have x0 := ord_self ka na sa
    clear hl hwr bx z2
    by_cases y1 : 0 < ordV ka na sa kc nc sc
    · go_wp2
      refine wp_region_quiet_below mixed (by kernel_rfl) ?_
      repeat (first | go_big_quiet_step ((exact order_rg _ _ _ _ _ _ _ _ _)) | quiet_step ((exact order_rg _ _ _ _ _ _ _ _ _)))
      refine wpQuiet_nil ?_
      intro _ hw'
      obtain ⟨⟨dq, osq⟩, hw''⟩ := hw'
      subst hw''
      go_wp2
      go_ret
      exact ⟨rfl, HB4.out.trans ((below_regrown w4 dq osq).mono Hz4)⟩
    have z1 : ordV ka na sa kc nc sc ≤ 0 := by omega
    go_wp2
    refine wp_region_quiet_below mixed (by kernel_rfl) ?_
    repeat (first | go_big_quiet_step ((exact order_rg _ _ _ _ _ _ _ _ _)) | quiet_step ((exact order_rg _ _ _ _ _ _ _ _ _)))
    refine wpQuiet_nil ?_
    intro _ hw'
    obtain ⟨⟨dq, osq⟩, hw''⟩ := hw'
    subst hw''
    go_wp2
    go_ret
    exact ⟨rfl, HB4.out.trans ((below_regrown w4 dq osq).mono Hz4)⟩
  have x0 : (ordV ka na sa kb nb sb == 0) = false := beq_eq_false_iff_ne.2 (fun h => hs (ord_zero ka na sa kb nb sb Hra.out Hrb.out h))
  by_cases e1 : ka = kb
  · subst e1
    by_cases e2 : na = nb
    · subst e2
      have e3 : (sa.toList == sb.toList) = false := beq_eq_false_iff_ne.2 (fun h => hs ⟨rfl, rfl, h⟩)
      clear hs
      by_cases x1 : 0 < ordV ka na sa ka na sb
      · go_wp2
        refine wp_region_quiet_below mixed (by kernel_rfl) ?_
        repeat (first | go_big_quiet_step ((exact order_rg _ _ _ _ _ _ _ _ _)) | quiet_step ((exact order_rg _ _ _ _ _ _ _ _ _)))
        refine wpQuiet_nil ?_
        intro _ hw'
        obtain ⟨⟨dq, osq⟩, hw''⟩ := hw'
        subst hw''
        go_wp2
        go_ret
        exact ⟨rfl, HB4.out.trans ((below_regrown w4 dq osq).mono Hz4)⟩
      by_cases y1 : 0 < ordV ka na sb kc nc sc
      · go_wp2
        refine wp_region_quiet_below mixed (by kernel_rfl) ?_
        repeat (first | go_big_quiet_step ((exact order_rg _ _ _ _ _ _ _ _ _)) | quiet_step ((exact order_rg _ _ _ _ _ _ _ _ _)))
        refine wpQuiet_nil ?_
        intro _ hw'
        obtain ⟨⟨dq, osq⟩, hw''⟩ := hw'
        subst hw''
        go_wp2
        go_ret
        exact ⟨rfl, HB4.out.trans ((below_regrown w4 dq osq).mono Hz4)⟩
      have z1 : ordV ka na sa kc nc sc ≤ 0 := ord_trans ka na sa ka na sb kc nc sc (by omega) (by omega)
      go_wp2
      refine wp_region_quiet_below mixed (by kernel_rfl) ?_
      repeat (first | go_big_quiet_step ((exact order_rg _ _ _ _ _ _ _ _ _)) | quiet_step ((exact order_rg _ _ _ _ _ _ _ _ _)))
      refine wpQuiet_nil ?_
      intro _ hw'
      obtain ⟨⟨dq, osq⟩, hw''⟩ := hw'
      subst hw''
      go_wp2
      go_ret
      exact ⟨rfl, HB4.out.trans ((below_regrown w4 dq osq).mono Hz4)⟩
    · have e2' : (na == nb) = false := beq_eq_false_iff_ne.2 e2
      clear hs
      by_cases x1 : 0 < ordV ka na sa ka nb sb
      · go_wp2
        refine wp_region_quiet_below mixed (by kernel_rfl) ?_
        repeat (first | go_big_quiet_step ((exact order_rg _ _ _ _ _ _ _ _ _)) | quiet_step ((exact order_rg _ _ _ _ _ _ _ _ _)))
        refine wpQuiet_nil ?_
        intro _ hw'
        obtain ⟨⟨dq, osq⟩, hw''⟩ := hw'
        subst hw''
        go_wp2
        go_ret
        exact ⟨rfl, HB4.out.trans ((below_regrown w4 dq osq).mono Hz4)⟩
      by_cases y1 : 0 < ordV ka nb sb kc nc sc
      · go_wp2
        refine wp_region_quiet_below mixed (by kernel_rfl) ?_
        repeat (first | go_big_quiet_step ((exact order_rg _ _ _ _ _ _ _ _ _)) | quiet_step ((exact order_rg _ _ _ _ _ _ _ _ _)))
        refine wpQuiet_nil ?_
        intro _ hw'
        obtain ⟨⟨dq, osq⟩, hw''⟩ := hw'
        subst hw''
        go_wp2
        go_ret
        exact ⟨rfl, HB4.out.trans ((below_regrown w4 dq osq).mono Hz4)⟩
      have z1 : ordV ka na sa kc nc sc ≤ 0 := ord_trans ka na sa ka nb sb kc nc sc (by omega) (by omega)
      go_wp2
      refine wp_region_quiet_below mixed (by kernel_rfl) ?_
      repeat (first | go_big_quiet_step ((exact order_rg _ _ _ _ _ _ _ _ _)) | quiet_step ((exact order_rg _ _ _ _ _ _ _ _ _)))
      refine wpQuiet_nil ?_
      intro _ hw'
      obtain ⟨⟨dq, osq⟩, hw''⟩ := hw'
      subst hw''
      go_wp2
      go_ret
      exact ⟨rfl, HB4.out.trans ((below_regrown w4 dq osq).mono Hz4)⟩
  · have e1' : (ka == kb) = false := beq_eq_false_iff_ne.2 e1
    clear hs
    by_cases x1 : 0 < ordV ka na sa kb nb sb
    · go_wp2
      refine wp_region_quiet_below mixed (by kernel_rfl) ?_
      repeat (first | go_big_quiet_step ((exact order_rg _ _ _ _ _ _ _ _ _)) | quiet_step ((exact order_rg _ _ _ _ _ _ _ _ _)))
      refine wpQuiet_nil ?_
      intro _ hw'
      obtain ⟨⟨dq, osq⟩, hw''⟩ := hw'
      subst hw''
      go_wp2
      go_ret
      exact ⟨rfl, HB4.out.trans ((below_regrown w4 dq osq).mono Hz4)⟩
    by_cases y1 : 0 < ordV kb nb sb kc nc sc
    · go_wp2
      refine wp_region_quiet_below mixed (by kernel_rfl) ?_
      repeat (first | go_big_quiet_step ((exact order_rg _ _ _ _ _ _ _ _ _)) | quiet_step ((exact order_rg _ _ _ _ _ _ _ _ _)))
      refine wpQuiet_nil ?_
      intro _ hw'
      obtain ⟨⟨dq, osq⟩, hw''⟩ := hw'
      subst hw''
      go_wp2
      go_ret
      exact ⟨rfl, HB4.out.trans ((below_regrown w4 dq osq).mono Hz4)⟩
    have z1 : ordV ka na sa kc nc sc ≤ 0 := ord_trans ka na sa kb nb sb kc nc sc (by omega) (by omega)
    go_wp2
    refine wp_region_quiet_below mixed (by kernel_rfl) ?_
    repeat (first | go_big_quiet_step ((exact order_rg _ _ _ _ _ _ _ _ _)) | quiet_step ((exact order_rg _ _ _ _ _ _ _ _ _)))
    refine wpQuiet_nil ?_
    intro _ hw'
    obtain ⟨⟨dq, osq⟩, hw''⟩ := hw'
    subst hw''
    go_wp2
    go_ret
    exact ⟨rfl, HB4.out.trans ((below_regrown w4 dq osq).mono Hz4)⟩
end Go.Proofs.YthiffpdioclnlaaDoor
