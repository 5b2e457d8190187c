/-
  The walks of the second reference's reader.
-/
import Derived.Test.YtbiahajpmnfhbaaKA
import Derived.Test.YtbiahajpmnfhbaaKP
set_option linter.unusedSimpArgs false
set_option linter.unusedVariables false
namespace Go.Proofs.Ytbiahajpmnfhbaa
open Go.RowKit

theorem grown_refl (w : World) (r : Option Nat) : w.grownBy w r := ⟨rfl, rfl, rfl, Nat.le_refl _, fun _ _ _ => rfl⟩
theorem grown_trans {a b c : World} {r : Option Nat} (h : a.grownBy b r) (k : b.grownBy c r) : a.grownBy c r :=
  ⟨k.os.trans h.os, k.tape.trans h.tape, k.output.trans h.output, Nat.le_trans h.size k.size, fun i hi hr => (k.block i (Nat.lt_of_lt_of_le hi h.size) hr).trans (h.block i hi hr)⟩
theorem grown_setCell {a w : World} {b : Nat} (h : a.grownBy w (some b)) (i : Nat) (v : Value) : a.grownBy (w.setCell ⟨b, i, none⟩ v) (some b) :=
  grown_trans h ⟨rfl, rfl, rfl, by simp [World.setCell], fun k hk hr => Below.heap_setCell _ _ _ _ (fun e => hr (by simp [e]))⟩
theorem grown_drew {a w : World} {r : Option Nat} (h : a.grownBy w r) : a.grownBy w.drew r := ⟨h.os, h.tape, h.output, h.size, h.block⟩
theorem grown_below {a w w' : World} {r : Option Nat} (h : a.grownBy w r) (hb : Below w.heap.size w w') : a.grownBy w' r :=
  grown_trans h ⟨hb.os, hb.tape, hb.output, hb.size, fun k hk _ => hb.block k hk⟩
theorem grown_cell {w w' : World} {b : Nat} (h : w.grownBy w' (some b)) {c : Nat} (hc : c < w.heap.size) (hne : c ≠ b) (i : Nat) : w'.cell? ⟨c, i, none⟩ = w.cell? ⟨c, i, none⟩ :=
  World.cell?_of_block (h.block c hc (by simp [hne]))
theorem grown_frozen {w w' : World} {b : Nat} (h : w.grownBy w' (some b)) {c : Nat} (hc : c < w.heap.size) (hne : c ≠ b) (i : Nat) : w'.frozen? ⟨c, i, none⟩ = w.frozen? ⟨c, i, none⟩ :=
  World.frozen?_of_block (h.block c hc (by simp [hne]))
theorem grown_new {a w : World} {r : Option Nat} (h : a.grownBy w r) {c : Nat} (hc : a.heap.size ≤ c) (i : Nat) (v : Value) : a.grownBy (w.setCell ⟨c, i, none⟩ v) r :=
  ⟨h.os, h.tape, h.output, by simpa [World.setCell] using h.size, fun k hk hr => (Below.heap_setCell _ _ _ _ (by simp; omega)).trans (h.block k hk hr)⟩

/-- The reference's reader, in a world that has it. -/
def Rd (w : World) (b : Nat) (s : ByteArray) (k e : Int) : Prop := w.heap[b]? = some (.cells #[.string s, .int .i64 k, .int .i64 e] 34 (0, 0))
theorem Rd.cells {w : World} {b : Nat} {s : ByteArray} {k e : Int} (h : Rd w b s k e) : w.cell? ⟨b, 0, none⟩ = some (.string s) ∧ w.cell? ⟨b, 1, none⟩ = some (.int .i64 k) ∧ w.cell? ⟨b, 2, none⟩ = some (.int .i64 e) ∧ w.frozen? ⟨b, 1, none⟩ = false ∧ w.frozen? ⟨b, 2, none⟩ = false :=
  ⟨cell_heap h 0, cell_heap h 1, cell_heap h 2, frozen_heap h 1, frozen_heap h 2⟩
theorem Rd.on {w w' : World} {b : Nat} {s : ByteArray} {k e : Int} (h : Rd w b s k e) (hb : Below w.heap.size w w') : Rd w' b s k e := (hb.block _ (lt_heap h)).trans h
theorem Rd.err {w : World} {b : Nat} {s : ByteArray} {k e : Int} (h : Rd w b s k e) (c : Int) : Rd (w.setCell ⟨b, 2, none⟩ (.int .i64 c)) b s k c := heap_setCell _ h
theorem Rd.go {w : World} {b : Nat} {s : ByteArray} {k e : Int} (h : Rd w b s k e) (c : Int) : Rd (w.setCell ⟨b, 1, none⟩ (.int .i64 c)) b s c e := heap_setCell _ h

set_option maxRecDepth 100000 in
theorem refStop_ok (b : Nat) (s : ByteArray) (k c : Int) (w : World) (h : Rd w b s k 0) :
    Calls Try.prog 27 #[.pointer (some ⟨b, 0, none⟩), .int .i64 c] w fun r w' => r = .returned (.int .u64 0) ∧ Rd w' b s k c ∧ w.grownBy w' (some b) := by
  obtain ⟨c0, c1, c2, f1, f2⟩ := h.cells
  have H := hide h
  clear h
  go_enter Try.func27, Try.ntmps27
  go_wp2
  go_ret
  exact ⟨rfl, H.out.err c, grown_setCell (grown_refl _ _) _ _⟩
set_option maxRecDepth 100000 in
theorem refStop_off (b : Nat) (s : ByteArray) (k e c : Int) (w : World) (h : Rd w b s k e) (e0 : ¬ e = 0) :
    Calls Try.prog 27 #[.pointer (some ⟨b, 0, none⟩), .int .i64 c] w fun r w' => r = .returned (.int .u64 0) ∧ w' = w := by
  obtain ⟨c0, c1, c2, f1, f2⟩ := h.cells
  have eb : (e == 0) = false := beq_eq_false_iff_ne.2 e0
  clear h e0
  go_enter Try.func27, Try.ntmps27
  go_wp2
  go_ret
  exact ⟨rfl, rfl⟩

set_option maxRecDepth 100000 in
theorem refLeft_ok (b : Nat) (s : ByteArray) (k : Int) (w : World) (h : Rd w b s k 0) (hk : 0 ≤ k) (hs : k ≤ s.size) (hz : s.size ≤ 1048576) :
    Calls Try.prog 29 #[.pointer (some ⟨b, 0, none⟩)] w fun r w' => r = .returned (.int .i64 ((s.size : Int) - k)) ∧ Below w.heap.size w w' := by
  obtain ⟨c0, c1, c2, f1, f2⟩ := h.cells
  clear h
  have p0 := cell_regrown c0
  have p1 := cell_regrown c1
  go_enter Try.func29, Try.ntmps29
  go_wp2
  clear c0 c1 c2
  refine wp_region_quiet_below mixed (by kernel_rfl) ?_
  repeat (first | go_big_quiet_step (fail) | quiet_step (fail))
  refine wpQuiet_nil ?_
  intro _ hw'
  obtain ⟨⟨dq, osq⟩, hw''⟩ := hw'
  subst hw''
  go_wp2
  go_ret
  exact ⟨rfl, below_regrown w dq osq⟩
set_option maxRecDepth 100000 in
theorem refLeft_off (b : Nat) (s : ByteArray) (k e : Int) (w : World) (h : Rd w b s k e) (e0 : ¬ e = 0) :
    Calls Try.prog 29 #[.pointer (some ⟨b, 0, none⟩)] w fun r w' => r = .returned (.int .i64 0) ∧ w' = w := by
  obtain ⟨c0, c1, c2, f1, f2⟩ := h.cells
  have eb : (e == 0) = false := beq_eq_false_iff_ne.2 e0
  have eb2 : (e != 0) = true := by rw [bne_iff_ne]; exact e0
  clear h e0
  go_enter Try.func29, Try.ntmps29
  go_wp2
  go_ret
  exact ⟨rfl, rfl⟩

set_option maxHeartbeats 1000000 in
set_option maxRecDepth 100000 in
theorem refByte_off (b : Nat) (s : ByteArray) (k e : Int) (w : World) (h : Rd w b s k e) (e0 : ¬ e = 0) :
    Calls Try.prog 19 #[.pointer (some ⟨b, 0, none⟩)] w fun r w' => r = .returned (.int .u8 0) ∧ Below w.heap.size w w' := by
  obtain ⟨c0, c1, c2, f1, f2⟩ := h.cells
  have eb : (e == 0) = false := beq_eq_false_iff_ne.2 e0
  have eb2 : (e != 0) = true := by rw [bne_iff_ne]; exact e0
  have HS := fun (W : World) (h' : Rd W b s k e) => hide (refStop_off b s k e 3 W h' e0)
  have H := hide h
  clear h e0
  have p0 := cell_regrown c0
  have p1 := cell_regrown c1
  have p2 := cell_regrown c2
  go_enter Try.func19, Try.ntmps19
  go_wp2
  clear c0 c1 c2
  refine wp_region_quiet_below mixed (by kernel_rfl) ?_
  repeat (first | go_big_quiet_step (fail) | quiet_step (fail))
  refine wpQuiet_nil ?_
  intro _ hw'
  obtain ⟨⟨dq, osq⟩, hw''⟩ := hw'
  subst hw''
  go_wp2_with fail
  refine (unhide (HS _ (H.out.on (below_regrown w dq osq)))).mono ?_
  rintro r w1 ⟨rfl, rfl⟩
  go_wp2
  go_ret
  exact ⟨rfl, below_regrown w dq osq⟩

set_option maxHeartbeats 1000000 in
set_option maxRecDepth 100000 in
theorem refByte_end (b : Nat) (s : ByteArray) (w : World) (h : Rd w b s s.size 0) (hz : s.size ≤ 1048576) :
    Calls Try.prog 19 #[.pointer (some ⟨b, 0, none⟩)] w fun r w' => r = .returned (.int .u8 0) ∧ Rd w' b s s.size 3 ∧ w.grownBy w' (some b) := by
  obtain ⟨c0, c1, c2, f1, f2⟩ := h.cells
  have HS := fun (W : World) (h' : Rd W b s s.size 0) => hide (refStop_ok b s s.size 3 W h')
  have H := hide h
  clear h
  have p0 := cell_regrown c0
  have p1 := cell_regrown c1
  have p2 := cell_regrown c2
  go_enter Try.func19, Try.ntmps19
  go_wp2
  clear c0 c1 c2
  refine wp_region_quiet_below mixed (by kernel_rfl) ?_
  repeat (first | go_big_quiet_step (fail) | quiet_step (fail))
  refine wpQuiet_nil ?_
  intro _ hw'
  obtain ⟨⟨dq, osq⟩, hw''⟩ := hw'
  subst hw''
  go_wp2_with fail
  refine (unhide (HS _ (H.out.on (below_regrown w dq osq)))).mono ?_
  rintro r w1 ⟨rfl, hR1, hg1⟩
  have HR1 := hide hR1
  have HG1 := hide (grown_trans (grown_below (grown_refl _ _) (below_regrown w dq osq)) hg1)
  clear hR1 hg1
  go_wp2
  go_ret
  exact ⟨rfl, HR1.out, HG1.out⟩

set_option maxHeartbeats 1000000 in
set_option maxRecDepth 100000 in
theorem refByte_next (b : Nat) (s : ByteArray) (k : Nat) (w : World) (h : Rd w b s k 0) (hk : k < s.size) (hz : s.size ≤ 1048576) :
    Calls Try.prog 19 #[.pointer (some ⟨b, 0, none⟩)] w fun r w' => r = .returned (.int .u8 (s[k].toNat : Int)) ∧ Rd w' b s ((k + 1 : Nat) : Int) 0 ∧ w.grownBy w' (some b) := by
  obtain ⟨c0, c1, c2, f1, f2⟩ := h.cells
  have H := hide h
  clear h
  have p0 := cell_regrown c0
  have p1 := cell_regrown c1
  have p2 := cell_regrown c2
  have hk' : (k : Int) < (s.size : Int) := by omega
  go_enter Try.func19, Try.ntmps19
  go_wp2
  clear c0 c1 c2
  refine wp_region_quiet_below mixed (by kernel_rfl) ?_
  repeat (first | go_big_quiet_step (fail) | quiet_step (fail))
  refine wpQuiet_nil ?_
  intro _ hw'
  obtain ⟨⟨dq, osq⟩, hw''⟩ := hw'
  subst hw''
  have HR := hide (H.out.on (below_regrown w dq osq))
  have HG := hide (grown_below (grown_refl w (some b)) (below_regrown w dq osq))
  clear p0 p1 p2
  generalize Sort.grow (redrawn w dq) osq = w1 at *
  obtain ⟨c0, c1, c2, g1, g2⟩ := HR.out.cells
  have HR2 := hide (HR.out.go ((k : Int) + 1))
  have HG2 := hide (grown_setCell HG.out 1 (.int .i64 ((k : Int) + 1)))
  obtain ⟨d0, d1, d2, _, _⟩ := HR2.out.cells
  have p0 := cell_regrown d0
  have p1 := cell_regrown d1
  go_wp2
  refine wp_region_quiet_below mixed (by kernel_rfl) ?_
  repeat (first | go_big_quiet_step (fail) | quiet_step (fail))
  refine wpQuiet_nil ?_
  intro _ hw'
  obtain ⟨⟨dq, osq⟩, hw''⟩ := hw'
  subst hw''
  go_wp2
  go_ret
  exact ⟨rfl, HR2.out.on (below_regrown _ dq osq), grown_below HG2.out (below_regrown _ dq osq)⟩
end Go.Proofs.Ytbiahajpmnfhbaa
