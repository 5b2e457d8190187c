/-
  The walks of value.Event and of the reference's.
-/
import Derived.Test.YthiffpdioclnlaaDoorVO
import Derived.Test.YthiffpdioclnlaaDoorVM
import Derived.Laws.NewBlocks
set_option linter.unusedSimpArgs false
set_option linter.unusedVariables false
namespace Go.Proofs.YthiffpdioclnlaaDoor
open Go.RowKit

/-- May an event be? -/
def eventB (k0 n0 : Int) (s0 : ByteArray) (k1 n1 : Int) (s1 : ByteArray) (k2 n2 : Int) (s2 : ByteArray) (k3 n3 : Int) (s3 : ByteArray) : Bool := rightB k0 n0 s0 && (rightB k1 n1 s1 && (rightB k2 n2 s2 && rightB k3 n3 s3))
/-- The first k may be. -/
def upTo (k0 n0 : Int) (s0 : ByteArray) (k1 n1 : Int) (s1 : ByteArray) (k2 n2 : Int) (s2 : ByteArray) (k3 n3 : Int) (s3 : ByteArray) (k : Int) : Prop := (0 < k → rightB k0 n0 s0 = true) ∧ (1 < k → rightB k1 n1 s1 = true) ∧ (2 < k → rightB k2 n2 s2 = true) ∧ (3 < k → rightB k3 n3 s3 = true)
theorem up_zero (k0 n0 : Int) (s0 : ByteArray) (k1 n1 : Int) (s1 : ByteArray) (k2 n2 : Int) (s2 : ByteArray) (k3 n3 : Int) (s3 : ByteArray) : upTo k0 n0 s0 k1 n1 s1 k2 n2 s2 k3 n3 s3 0 := ⟨fun h => by omega, fun h => by omega, fun h => by omega, fun h => by omega⟩
theorem up_step0 (k0 n0 : Int) (s0 : ByteArray) (k1 n1 : Int) (s1 : ByteArray) (k2 n2 : Int) (s2 : ByteArray) (k3 n3 : Int) (s3 : ByteArray) (u : upTo k0 n0 s0 k1 n1 s1 k2 n2 s2 k3 n3 s3 0) (h : rightB k0 n0 s0 = true) : upTo k0 n0 s0 k1 n1 s1 k2 n2 s2 k3 n3 s3 1 := by
  obtain ⟨u0, u1, u2, u3⟩ := u
  exact ⟨fun _ => h, fun _ => by omega, fun _ => by omega, fun _ => by omega⟩
theorem event_no0 (k0 n0 : Int) (s0 : ByteArray) (k1 n1 : Int) (s1 : ByteArray) (k2 n2 : Int) (s2 : ByteArray) (k3 n3 : Int) (s3 : ByteArray) (h : rightB k0 n0 s0 = false) : eventB k0 n0 s0 k1 n1 s1 k2 n2 s2 k3 n3 s3 = false := by
  unfold eventB; rw [h]; simp
theorem up_step1 (k0 n0 : Int) (s0 : ByteArray) (k1 n1 : Int) (s1 : ByteArray) (k2 n2 : Int) (s2 : ByteArray) (k3 n3 : Int) (s3 : ByteArray) (u : upTo k0 n0 s0 k1 n1 s1 k2 n2 s2 k3 n3 s3 1) (h : rightB k1 n1 s1 = true) : upTo k0 n0 s0 k1 n1 s1 k2 n2 s2 k3 n3 s3 2 := by
  obtain ⟨u0, u1, u2, u3⟩ := u
  exact ⟨fun _ => u0 (by omega), fun _ => h, fun _ => by omega, fun _ => by omega⟩
theorem event_no1 (k0 n0 : Int) (s0 : ByteArray) (k1 n1 : Int) (s1 : ByteArray) (k2 n2 : Int) (s2 : ByteArray) (k3 n3 : Int) (s3 : ByteArray) (h : rightB k1 n1 s1 = false) : eventB k0 n0 s0 k1 n1 s1 k2 n2 s2 k3 n3 s3 = false := by
  unfold eventB; rw [h]; simp
theorem up_step2 (k0 n0 : Int) (s0 : ByteArray) (k1 n1 : Int) (s1 : ByteArray) (k2 n2 : Int) (s2 : ByteArray) (k3 n3 : Int) (s3 : ByteArray) (u : upTo k0 n0 s0 k1 n1 s1 k2 n2 s2 k3 n3 s3 2) (h : rightB k2 n2 s2 = true) : upTo k0 n0 s0 k1 n1 s1 k2 n2 s2 k3 n3 s3 3 := by
  obtain ⟨u0, u1, u2, u3⟩ := u
  exact ⟨fun _ => u0 (by omega), fun _ => u1 (by omega), fun _ => h, fun _ => by omega⟩
theorem event_no2 (k0 n0 : Int) (s0 : ByteArray) (k1 n1 : Int) (s1 : ByteArray) (k2 n2 : Int) (s2 : ByteArray) (k3 n3 : Int) (s3 : ByteArray) (h : rightB k2 n2 s2 = false) : eventB k0 n0 s0 k1 n1 s1 k2 n2 s2 k3 n3 s3 = false := by
  unfold eventB; rw [h]; simp
theorem up_step3 (k0 n0 : Int) (s0 : ByteArray) (k1 n1 : Int) (s1 : ByteArray) (k2 n2 : Int) (s2 : ByteArray) (k3 n3 : Int) (s3 : ByteArray) (u : upTo k0 n0 s0 k1 n1 s1 k2 n2 s2 k3 n3 s3 3) (h : rightB k3 n3 s3 = true) : upTo k0 n0 s0 k1 n1 s1 k2 n2 s2 k3 n3 s3 4 := by
  obtain ⟨u0, u1, u2, u3⟩ := u
  exact ⟨fun _ => u0 (by omega), fun _ => u1 (by omega), fun _ => u2 (by omega), fun _ => h⟩
theorem event_no3 (k0 n0 : Int) (s0 : ByteArray) (k1 n1 : Int) (s1 : ByteArray) (k2 n2 : Int) (s2 : ByteArray) (k3 n3 : Int) (s3 : ByteArray) (h : rightB k3 n3 s3 = false) : eventB k0 n0 s0 k1 n1 s1 k2 n2 s2 k3 n3 s3 = false := by
  unfold eventB; rw [h]; simp
theorem event_yes (k0 n0 : Int) (s0 : ByteArray) (k1 n1 : Int) (s1 : ByteArray) (k2 n2 : Int) (s2 : ByteArray) (k3 n3 : Int) (s3 : ByteArray) (u : upTo k0 n0 s0 k1 n1 s1 k2 n2 s2 k3 n3 s3 4) : eventB k0 n0 s0 k1 n1 s1 k2 n2 s2 k3 n3 s3 = true := by
  obtain ⟨u0, u1, u2, u3⟩ := u
  unfold eventB; rw [u0 (by omega), u1 (by omega), u2 (by omega), u3 (by omega)]; rfl

set_option maxHeartbeats 2000000 in
set_option maxRecDepth 100000 in
theorem event_any (k0 n0 : Int) (s0 : ByteArray) (k1 n1 : Int) (s1 : ByteArray) (k2 n2 : Int) (s2 : ByteArray) (k3 n3 : Int) (s3 : ByteArray) (w : World) (h0 : s0.size ≤ maxLen) (h1 : s1.size ≤ maxLen) (h2 : s2.size ≤ maxLen) (h3 : s3.size ≤ maxLen) :
    Calls Tryd.prog 12 #[.agg #[.int .i64 k0, .int .i64 n0, .string s0, .int .i64 k1, .int .i64 n1, .string s1, .int .i64 k2, .int .i64 n2, .string s2, .int .i64 k3, .int .i64 n3, .string s3]] w fun e w' => e = .returned (.bool (eventB k0 n0 s0 k1 n1 s1 k2 n2 s2 k3 n3 s3)) ∧ Below w.heap.size w w' := by
  have HR0 := fun (W : World) => hide (right_any k0 n0 s0 W h0)
  have HR1 := fun (W : World) => hide (right_any k1 n1 s1 W h1)
  have HR2 := fun (W : World) => hide (right_any k2 n2 s2 W h2)
  have HR3 := fun (W : World) => hide (right_any k3 n3 s3 W h3)
  have x0 : ∀ w, (Instr.index 25 (.agg #[.int .i64 k0, .int .i64 n0, .string s0, .int .i64 k1, .int .i64 n1, .string s1, .int .i64 k2, .int .i64 n2, .string s2, .int .i64 k3, .int .i64 n3, .string s3]) (.int .i64 0)).run Tryd.prog w = .ok (.agg #[.int .i64 k0, .int .i64 n0, .string s0]) w := fun _ => by kernel_rfl
  have x1 : ∀ w, (Instr.index 25 (.agg #[.int .i64 k0, .int .i64 n0, .string s0, .int .i64 k1, .int .i64 n1, .string s1, .int .i64 k2, .int .i64 n2, .string s2, .int .i64 k3, .int .i64 n3, .string s3]) (.int .i64 1)).run Tryd.prog w = .ok (.agg #[.int .i64 k1, .int .i64 n1, .string s1]) w := fun _ => by kernel_rfl
  have x2 : ∀ w, (Instr.index 25 (.agg #[.int .i64 k0, .int .i64 n0, .string s0, .int .i64 k1, .int .i64 n1, .string s1, .int .i64 k2, .int .i64 n2, .string s2, .int .i64 k3, .int .i64 n3, .string s3]) (.int .i64 2)).run Tryd.prog w = .ok (.agg #[.int .i64 k2, .int .i64 n2, .string s2]) w := fun _ => by kernel_rfl
  have x3 : ∀ w, (Instr.index 25 (.agg #[.int .i64 k0, .int .i64 n0, .string s0, .int .i64 k1, .int .i64 n1, .string s1, .int .i64 k2, .int .i64 n2, .string s2, .int .i64 k3, .int .i64 n3, .string s3]) (.int .i64 3)).run Tryd.prog w = .ok (.agg #[.int .i64 k3, .int .i64 n3, .string s3]) w := fun _ => by kernel_rfl
  have HV := hide (heap_top w (.cells #[.int .i64 k0, .int .i64 n0, .string s0, .int .i64 k1, .int .i64 n1, .string s1, .int .i64 k2, .int .i64 n2, .string s2, .int .i64 k3, .int .i64 n3, .string s3] 25))
  have HB0 := hide ((Below.refl w.heap.size w).alloc (Nat.le_refl _) (.cells #[.int .i64 k0, .int .i64 n0, .string s0, .int .i64 k1, .int .i64 n1, .string s1, .int .i64 k2, .int .i64 n2, .string s2, .int .i64 k3, .int .i64 n3, .string s3] 25))
  go_enter Tryd.func12, Tryd.ntmps12
  go_wp2
  go_loopw [6] (fun i wr => ∃ k : Int, i = .int .i64 k ∧ 0 ≤ k ∧ k ≤ 4 ∧ Hid (wr.heap[w.heap.size]? = some (.cells #[.int .i64 k0, .int .i64 n0, .string s0, .int .i64 k1, .int .i64 n1, .string s1, .int .i64 k2, .int .i64 n2, .string s2, .int .i64 k3, .int .i64 n3, .string s3] 25 (0, 0))) ∧ Hid (Below w.heap.size w wr) ∧ Hid (upTo k0 n0 s0 k1 n1 s1 k2 n2 s2 k3 n3 s3 k)) (fun i _ => 4 - (intOf i).toNat)
  case atStart => exact ⟨0, rfl, by omega, by omega, HV, HB0, up_zero k0 n0 s0 k1 n1 s1 k2 n2 s2 k3 n3 s3⟩
  case round =>
    obtain ⟨k, rfl, hk0, hk4, HW, HB, HU⟩ := hrel
    have Hz : w.heap.size ≤ wr.heap.size := HB.out.size
    clear HV HB0
    have hk : k = 0 ∨ k = 1 ∨ k = 2 ∨ k = 3 ∨ k = 4 := by omega
    rcases hk with rfl | rfl | rfl | rfl | rfl
    · have HB1 := hide (HB.out.alloc Hz (.cells #[.int .i64 k0, .int .i64 n0, .string s0] 23))
      have HW1 := hide ((Below.heap_alloc wr (.cells #[.int .i64 k0, .int .i64 n0, .string s0] 23) _ (lt_heap HW.out)).trans HW.out)
      cases hr : rightB k0 n0 s0
      · rw [hr] at HR0
        have E := hide (event_no0 k0 n0 s0 k1 n1 s1 k2 n2 s2 k3 n3 s3 hr)
        clear hr
        go_wp2_with (go_at_call 10; refine (unhide (HR0 _)).mono ?_; rintro e w2 ⟨rfl, hb2⟩)
        go_ret
        exact ⟨ret_bool (by rw [E.out]), HB1.out.trans (hb2.mono HB1.out.size)⟩
      · have HU1 := hide (up_step0 k0 n0 s0 k1 n1 s1 k2 n2 s2 k3 n3 s3 HU.out hr)
        rw [hr] at HR0
        clear hr
        go_wp2_with (go_at_call 10; refine (unhide (HR0 _)).mono ?_; rintro e w2 ⟨rfl, hb2⟩)
        exact ⟨⟨1, rfl, by omega, by omega, hide ((hb2.block _ (lt_heap HW1.out)).trans HW1.out), hide (HB1.out.trans (hb2.mono HB1.out.size)), HU1⟩, by simp [intOf]⟩
    · have HB1 := hide (HB.out.alloc Hz (.cells #[.int .i64 k1, .int .i64 n1, .string s1] 23))
      have HW1 := hide ((Below.heap_alloc wr (.cells #[.int .i64 k1, .int .i64 n1, .string s1] 23) _ (lt_heap HW.out)).trans HW.out)
      cases hr : rightB k1 n1 s1
      · rw [hr] at HR1
        have E := hide (event_no1 k0 n0 s0 k1 n1 s1 k2 n2 s2 k3 n3 s3 hr)
        clear hr
        go_wp2_with (go_at_call 10; refine (unhide (HR1 _)).mono ?_; rintro e w2 ⟨rfl, hb2⟩)
        go_ret
        exact ⟨ret_bool (by rw [E.out]), HB1.out.trans (hb2.mono HB1.out.size)⟩
      · have HU1 := hide (up_step1 k0 n0 s0 k1 n1 s1 k2 n2 s2 k3 n3 s3 HU.out hr)
        rw [hr] at HR1
        clear hr
        go_wp2_with (go_at_call 10; refine (unhide (HR1 _)).mono ?_; rintro e w2 ⟨rfl, hb2⟩)
        exact ⟨⟨2, rfl, by omega, by omega, hide ((hb2.block _ (lt_heap HW1.out)).trans HW1.out), hide (HB1.out.trans (hb2.mono HB1.out.size)), HU1⟩, by simp [intOf]⟩
    · have HB1 := hide (HB.out.alloc Hz (.cells #[.int .i64 k2, .int .i64 n2, .string s2] 23))
      have HW1 := hide ((Below.heap_alloc wr (.cells #[.int .i64 k2, .int .i64 n2, .string s2] 23) _ (lt_heap HW.out)).trans HW.out)
      cases hr : rightB k2 n2 s2
      · rw [hr] at HR2
        have E := hide (event_no2 k0 n0 s0 k1 n1 s1 k2 n2 s2 k3 n3 s3 hr)
        clear hr
        go_wp2_with (go_at_call 10; refine (unhide (HR2 _)).mono ?_; rintro e w2 ⟨rfl, hb2⟩)
        go_ret
        exact ⟨ret_bool (by rw [E.out]), HB1.out.trans (hb2.mono HB1.out.size)⟩
      · have HU1 := hide (up_step2 k0 n0 s0 k1 n1 s1 k2 n2 s2 k3 n3 s3 HU.out hr)
        rw [hr] at HR2
        clear hr
        go_wp2_with (go_at_call 10; refine (unhide (HR2 _)).mono ?_; rintro e w2 ⟨rfl, hb2⟩)
        exact ⟨⟨3, rfl, by omega, by omega, hide ((hb2.block _ (lt_heap HW1.out)).trans HW1.out), hide (HB1.out.trans (hb2.mono HB1.out.size)), HU1⟩, by simp [intOf]⟩
    · have HB1 := hide (HB.out.alloc Hz (.cells #[.int .i64 k3, .int .i64 n3, .string s3] 23))
      have HW1 := hide ((Below.heap_alloc wr (.cells #[.int .i64 k3, .int .i64 n3, .string s3] 23) _ (lt_heap HW.out)).trans HW.out)
      cases hr : rightB k3 n3 s3
      · rw [hr] at HR3
        have E := hide (event_no3 k0 n0 s0 k1 n1 s1 k2 n2 s2 k3 n3 s3 hr)
        clear hr
        go_wp2_with (go_at_call 10; refine (unhide (HR3 _)).mono ?_; rintro e w2 ⟨rfl, hb2⟩)
        go_ret
        exact ⟨ret_bool (by rw [E.out]), HB1.out.trans (hb2.mono HB1.out.size)⟩
      · have HU1 := hide (up_step3 k0 n0 s0 k1 n1 s1 k2 n2 s2 k3 n3 s3 HU.out hr)
        rw [hr] at HR3
        clear hr
        go_wp2_with (go_at_call 10; refine (unhide (HR3 _)).mono ?_; rintro e w2 ⟨rfl, hb2⟩)
        exact ⟨⟨4, rfl, by omega, by omega, hide ((hb2.block _ (lt_heap HW1.out)).trans HW1.out), hide (HB1.out.trans (hb2.mono HB1.out.size)), HU1⟩, by simp [intOf]⟩
    · have E := hide (event_yes k0 n0 s0 k1 n1 s1 k2 n2 s2 k3 n3 s3 HU.out)
      go_wp2
      go_ret
      exact ⟨ret_bool (by rw [E.out]), HB.out⟩

set_option maxHeartbeats 2000000 in
set_option maxRecDepth 100000 in
theorem refEvent_any (k0 n0 : Int) (s0 : ByteArray) (k1 n1 : Int) (s1 : ByteArray) (k2 n2 : Int) (s2 : ByteArray) (k3 n3 : Int) (s3 : ByteArray) (w : World) (h0 : s0.size ≤ maxLen) (h1 : s1.size ≤ maxLen) (h2 : s2.size ≤ maxLen) (h3 : s3.size ≤ maxLen) :
    Calls Tryd.prog 13 #[.agg #[.int .i64 k0, .int .i64 n0, .string s0, .int .i64 k1, .int .i64 n1, .string s1, .int .i64 k2, .int .i64 n2, .string s2, .int .i64 k3, .int .i64 n3, .string s3]] w fun e w' => e = .returned (.bool (eventB k0 n0 s0 k1 n1 s1 k2 n2 s2 k3 n3 s3)) ∧ Below w.heap.size w w' := by
  have HR0 := fun (W : World) => hide (refRight_any k0 n0 s0 W h0)
  have HR1 := fun (W : World) => hide (refRight_any k1 n1 s1 W h1)
  have HR2 := fun (W : World) => hide (refRight_any k2 n2 s2 W h2)
  have HR3 := fun (W : World) => hide (refRight_any k3 n3 s3 W h3)
  have HV := hide (heap_top w (.cells #[.int .i64 k0, .int .i64 n0, .string s0, .int .i64 k1, .int .i64 n1, .string s1, .int .i64 k2, .int .i64 n2, .string s2, .int .i64 k3, .int .i64 n3, .string s3] 25))
  have HB0 := hide ((Below.refl w.heap.size w).alloc (Nat.le_refl _) (.cells #[.int .i64 k0, .int .i64 n0, .string s0, .int .i64 k1, .int .i64 n1, .string s1, .int .i64 k2, .int .i64 n2, .string s2, .int .i64 k3, .int .i64 n3, .string s3] 25))
  go_enter Tryd.func13, Tryd.ntmps13
  go_wp2
  go_loopw [3] (fun i wr => ∃ k : Int, i = .int .i64 k ∧ 0 ≤ k ∧ k ≤ 4 ∧ Hid (wr.heap[w.heap.size]? = some (.cells #[.int .i64 k0, .int .i64 n0, .string s0, .int .i64 k1, .int .i64 n1, .string s1, .int .i64 k2, .int .i64 n2, .string s2, .int .i64 k3, .int .i64 n3, .string s3] 25 (0, 0))) ∧ Hid (Below w.heap.size w wr) ∧ Hid (upTo k0 n0 s0 k1 n1 s1 k2 n2 s2 k3 n3 s3 k)) (fun i _ => 4 - (intOf i).toNat)
  case atStart => exact ⟨0, rfl, by omega, by omega, HV, HB0, up_zero k0 n0 s0 k1 n1 s1 k2 n2 s2 k3 n3 s3⟩
  case round =>
    obtain ⟨k, rfl, hk0, hk4, HW, HB, HU⟩ := hrel
    have Hz : w.heap.size ≤ wr.heap.size := HB.out.size
    clear HV HB0
    have c0 := cell_heap HW.out 0
    have c1 := cell_heap HW.out 1
    have c2 := cell_heap HW.out 2
    have c3 := cell_heap HW.out 3
    have c4 := cell_heap HW.out 4
    have c5 := cell_heap HW.out 5
    have c6 := cell_heap HW.out 6
    have c7 := cell_heap HW.out 7
    have c8 := cell_heap HW.out 8
    have c9 := cell_heap HW.out 9
    have c10 := cell_heap HW.out 10
    have c11 := cell_heap HW.out 11
    simp at c0 c1 c2 c3 c4 c5 c6 c7 c8 c9 c10 c11
    have hk : k = 0 ∨ k = 1 ∨ k = 2 ∨ k = 3 ∨ k = 4 := by omega
    rcases hk with rfl | rfl | rfl | rfl | rfl
    · have HB1 := hide (HB.out)
      have HW1 := hide (HW.out)
      cases hr : rightB k0 n0 s0
      · rw [hr] at HR0
        have E := hide (event_no0 k0 n0 s0 k1 n1 s1 k2 n2 s2 k3 n3 s3 hr)
        clear hr
        go_wp2_with (go_at_call 11; refine (unhide (HR0 _)).mono ?_; rintro e w2 ⟨rfl, hb2⟩)
        go_ret
        exact ⟨ret_bool (by rw [E.out]), HB1.out.trans (hb2.mono HB1.out.size)⟩
      · have HU1 := hide (up_step0 k0 n0 s0 k1 n1 s1 k2 n2 s2 k3 n3 s3 HU.out hr)
        rw [hr] at HR0
        clear hr
        go_wp2_with (go_at_call 11; refine (unhide (HR0 _)).mono ?_; rintro e w2 ⟨rfl, hb2⟩)
        exact ⟨⟨1, rfl, by omega, by omega, hide ((hb2.block _ (lt_heap HW1.out)).trans HW1.out), hide (HB1.out.trans (hb2.mono HB1.out.size)), HU1⟩, by simp [intOf]⟩
    · have HB1 := hide (HB.out)
      have HW1 := hide (HW.out)
      cases hr : rightB k1 n1 s1
      · rw [hr] at HR1
        have E := hide (event_no1 k0 n0 s0 k1 n1 s1 k2 n2 s2 k3 n3 s3 hr)
        clear hr
        go_wp2_with (go_at_call 11; refine (unhide (HR1 _)).mono ?_; rintro e w2 ⟨rfl, hb2⟩)
        go_ret
        exact ⟨ret_bool (by rw [E.out]), HB1.out.trans (hb2.mono HB1.out.size)⟩
      · have HU1 := hide (up_step1 k0 n0 s0 k1 n1 s1 k2 n2 s2 k3 n3 s3 HU.out hr)
        rw [hr] at HR1
        clear hr
        go_wp2_with (go_at_call 11; refine (unhide (HR1 _)).mono ?_; rintro e w2 ⟨rfl, hb2⟩)
        exact ⟨⟨2, rfl, by omega, by omega, hide ((hb2.block _ (lt_heap HW1.out)).trans HW1.out), hide (HB1.out.trans (hb2.mono HB1.out.size)), HU1⟩, by simp [intOf]⟩
    · have HB1 := hide (HB.out)
      have HW1 := hide (HW.out)
      cases hr : rightB k2 n2 s2
      · rw [hr] at HR2
        have E := hide (event_no2 k0 n0 s0 k1 n1 s1 k2 n2 s2 k3 n3 s3 hr)
        clear hr
        go_wp2_with (go_at_call 11; refine (unhide (HR2 _)).mono ?_; rintro e w2 ⟨rfl, hb2⟩)
        go_ret
        exact ⟨ret_bool (by rw [E.out]), HB1.out.trans (hb2.mono HB1.out.size)⟩
      · have HU1 := hide (up_step2 k0 n0 s0 k1 n1 s1 k2 n2 s2 k3 n3 s3 HU.out hr)
        rw [hr] at HR2
        clear hr
        go_wp2_with (go_at_call 11; refine (unhide (HR2 _)).mono ?_; rintro e w2 ⟨rfl, hb2⟩)
        exact ⟨⟨3, rfl, by omega, by omega, hide ((hb2.block _ (lt_heap HW1.out)).trans HW1.out), hide (HB1.out.trans (hb2.mono HB1.out.size)), HU1⟩, by simp [intOf]⟩
    · have HB1 := hide (HB.out)
      have HW1 := hide (HW.out)
      cases hr : rightB k3 n3 s3
      · rw [hr] at HR3
        have E := hide (event_no3 k0 n0 s0 k1 n1 s1 k2 n2 s2 k3 n3 s3 hr)
        clear hr
        go_wp2_with (go_at_call 11; refine (unhide (HR3 _)).mono ?_; rintro e w2 ⟨rfl, hb2⟩)
        go_ret
        exact ⟨ret_bool (by rw [E.out]), HB1.out.trans (hb2.mono HB1.out.size)⟩
      · have HU1 := hide (up_step3 k0 n0 s0 k1 n1 s1 k2 n2 s2 k3 n3 s3 HU.out hr)
        rw [hr] at HR3
        clear hr
        go_wp2_with (go_at_call 11; refine (unhide (HR3 _)).mono ?_; rintro e w2 ⟨rfl, hb2⟩)
        exact ⟨⟨4, rfl, by omega, by omega, hide ((hb2.block _ (lt_heap HW1.out)).trans HW1.out), hide (HB1.out.trans (hb2.mono HB1.out.size)), HU1⟩, by simp [intOf]⟩
    · have E := hide (event_yes k0 n0 s0 k1 n1 s1 k2 n2 s2 k3 n3 s3 HU.out)
      go_wp2
      go_ret
      exact ⟨ret_bool (by rw [E.out]), HB.out⟩

end Go.Proofs.YthiffpdioclnlaaDoor
