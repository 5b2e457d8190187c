/-
  The walk of the program's reader: Int and Str (with strings.Clone, which it calls).
-/
import Derived.Test.YtbiahajpmnfhbaaKG
import Derived.Lib.BufferWrite
import Derived.Laws.MakeOwn
set_option linter.unusedSimpArgs false
set_option linter.unusedVariables false
namespace Go.Proofs.Ytbiahajpmnfhbaa
open Go.RowKit

set_option maxHeartbeats 2000000 in
set_option maxRecDepth 100000 in
/-- The copy has the same bytes; all that was there stays. -/
theorem cloneIn_any (s : ByteArray) (w : World) (hz : s.size ≤ 1048576) :
    Calls Try.prog 33 #[.string s] w fun r w' => r = .returned (.string s) ∧ Below w.heap.size w w' := by
  rcases Nat.eq_zero_or_pos s.size with h0 | h0
  · have hs : s = ⟨#[]⟩ := ByteArray.ext (Array.eq_empty_of_size_eq_zero h0)
    subst hs
    go_enter Try.func33, Try.ntmps33
    go_wp2
    go_ret
    exact ⟨rfl, Below.refl _ _⟩
  · have hn : ((s.size : Int) == 0) = false := beq_eq_false_iff_ne.2 (by omega)
    obtain ⟨i0, hi, z0, z1, z2⟩ := info_parts infoByte
    obtain ⟨M, hM⟩ : ∃ M, M = madeCells (Value.int .u8 0).cells (s.size * i0.size) := ⟨_, rfl⟩
    have hMs : M.size = s.size := by rw [hM, size_madeCells, z1]; simp
    have mk : ∀ W : World, (Instr.makeSlice 49 (.int .i64 (s.size : Int)) (.int .i64 (s.size : Int))).run Try.prog W = .ok (.slice (some ⟨W.heap.size, 0, none⟩) s.size s.size) (W.alloc (.cells M 5)) := fun W => by
      have h := run_make (P := Try.prog) W 49 5 i0 (.int .u8 0) Try.underlying49 hi z0 .i64 .i64 (s.size : Int) (s.size : Int) (by omega) (by omega) (by rw [z2]; omega) (by omega)
      simpa [hM] using h
    have cp := Lib.run_copy_row_string (P := Try.prog) (w.alloc (.cells M 5)) 49 9 3 5 w.heap.size 0 s.size s.size s M 5 Try.underlying49 (by rw [hi]; simp [z1]) (heap_top w _) (Nat.le_refl _) (by omega)
    have eY : M.toList.take 0 ++ Lib.byteCells s.data.toList ++ M.toList.drop (0 + s.size) = Lib.byteCells s.data.toList := by
      rw [List.take_zero, List.nil_append, List.drop_of_length_le (by rw [Array.length_toList]; omega), List.append_nil]
    rw [eY] at cp
    have gY : ((w.alloc (.cells M 5)).setRow w.heap.size (Lib.byteCells s.data.toList).toArray).heap[w.heap.size]? = some (.cells (Lib.byteCells s.data.toList).toArray 5 (0, 0)) := setRow_heap _ _ M _ 5 (0, 0) (heap_top w _)
    have bY : Below w.heap.size w ((w.alloc (.cells M 5)).setRow w.heap.size (Lib.byteCells s.data.toList).toArray) :=
      ((Below.refl _ w).alloc (Nat.le_refl _) _).trans ⟨rfl, rfl, rfl, by simp, fun k hk => setRow_other _ _ _ _ (by omega)⟩
    have hl : s.data.toList.length = s.size := (Lib.size_eq s).symm
    have us := Lib.run_unsafeString_row (P := Try.prog) ((w.alloc (.cells M 5)).setRow w.heap.size (Lib.byteCells s.data.toList).toArray) 53 3 9 5 Try.underlying53 (by simp [Program.cellsOf, hi, z1]) w.heap.size s.size
      (by unfold World.shape?; rw [gY]; simp [Lib.byteCells, hl]) s.data.toList (fun e => by rw [e] at hl; simp at hl; omega) (by omega) (by omega)
      (fun j x hx => by
        have hj : j < s.data.toList.length := (List.getElem?_eq_some_iff.1 hx).1
        rw [show (Addr.add ⟨w.heap.size, 0, none⟩ j) = ⟨w.heap.size, j, none⟩ by unfold Addr.add; split <;> simp_all, cell_heap gY]
        simp [Lib.byteCells] at hx ⊢
        exact ⟨x, hx, rfl⟩)
    rw [hl] at us
    have HB := hide (Lib.below_freeze bY (p := ⟨w.heap.size, 0, none⟩) (Nat.le_refl _) s.size)
    clear bY gY eY hM hMs hl
    go_enter Try.func33, Try.ntmps33
    go_wp2
    go_ret
    exact ⟨rfl, HB.out⟩
set_option maxRecDepth 100000 in
theorem clone_any (s : ByteArray) (w : World) (hz : s.size ≤ 1048576) :
    Calls Try.prog 32 #[.string s] w fun r w' => r = .returned (.string s) ∧ Below w.heap.size w w' := by
  have HC := hide (cloneIn_any s w hz)
  go_enter Try.func32, Try.ntmps32
  go_wp2_with fail
  refine (unhide HC).mono ?_
  rintro r w1 ⟨rfl, hb⟩
  go_wp2
  go_ret
  exact ⟨rfl, hb⟩

/-! ### Int -/
set_option maxHeartbeats 1000000 in
set_option maxRecDepth 100000 in
theorem intR_off (b : Nat) (e : Int) (w : World) (h : Pd w b ⟨#[]⟩ e) (e0 : ¬ e = 0) :
    Calls Try.prog 22 #[.pointer (some ⟨b, 0, none⟩)] w fun r w' => r = .returned (.int .i64 0) ∧ w' = w := by
  have HU := hide (uintR_off b e w h e0)
  clear h e0
  go_enter Try.func22, Try.ntmps22
  go_wp2_with fail
  refine (unhide HU).mono ?_
  rintro r w1 ⟨rfl, rfl⟩
  go_wp2
  go_ret
  exact ⟨rfl, rfl⟩
set_option maxRecDepth 100000 in
theorem intR_nil (w : World) :
    Calls Try.prog 22 #[.pointer none] w fun r w' => r = .returned (.int .i64 0) ∧ w' = w := by
  have HU := hide (uintR_nil w)
  go_enter Try.func22, Try.ntmps22
  go_wp2_with fail
  refine (unhide HU).mono ?_
  rintro r w1 ⟨rfl, rfl⟩
  go_wp2
  go_ret
  exact ⟨rfl, rfl⟩
set_option maxHeartbeats 1000000 in
set_option maxRecDepth 100000 in
theorem intR_ok (b : Nat) (l : List UInt8) (w : World) (h : Pd w b ⟨l.toArray⟩ 0) (hz : l.length ≤ 1048576) :
    Calls Try.prog 22 #[.pointer (some ⟨b, 0, none⟩)] w fun r w' => r = .returned (.int .i64 (unzz (decL true 0 l).n)) ∧ Pd w' b ⟨(decL true 0 l).rest.toArray⟩ ((decL true 0 l).err : Int) ∧ w.grownBy w' (some b) := by
  have HU := hide (uintR_ok b l w h hz)
  generalize decL true 0 l = G at *
  clear h
  go_enter Try.func22, Try.ntmps22
  go_wp2_with fail
  refine (unhide HU).mono ?_
  rintro r w1 ⟨rfl, gb, gR, gw⟩
  have H := hide (And.intro gR gw)
  obtain ⟨M, hM⟩ : ∃ M : Int, M = (G.n : Int) := ⟨_, rfl⟩
  have m0 : 0 ≤ M := by omega
  have m1 : M < 18446744073709551616 := by omega
  rw [← hM]
  have HM := hide hM
  clear hM gb gR gw
  have hw1 : IntKind.i64.wrap (M / 2) = M / 2 := by rw [IntKind.wrap_i64]; omega
  by_cases odd : G.n % 2 = 1
  · have o1 : (M % 2 == 1) = true := beq_iff_eq.2 (by have := HM.out; omega)
    have E := hide (unzz_odd G.n odd)
    clear odd
    have hw2 : IntKind.i64.wrap (-1 - M / 2) = -1 - M / 2 := by rw [IntKind.wrap_i64]; omega
    go_wp2
    go_ret
    exact ⟨ret_int (by rw [E.out, HM.out]; omega), H.out.1, H.out.2⟩
  · have o1 : (M % 2 == 1) = false := beq_eq_false_iff_ne.2 (by have := HM.out; omega)
    have E := hide (unzz_even G.n odd)
    clear odd
    go_wp2
    go_ret
    exact ⟨ret_int (by rw [E.out, HM.out]; omega), H.out.1, H.out.2⟩
end Go.Proofs.Ytbiahajpmnfhbaa
