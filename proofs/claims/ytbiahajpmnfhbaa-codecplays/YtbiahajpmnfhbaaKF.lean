/-
  The walks of the program's reader: Read, Left, Err, Fail, Byte.
-/
import Derived.Test.YtbiahajpmnfhbaaKR
set_option linter.unusedSimpArgs false
set_option linter.unusedVariables false
namespace Go.Proofs.Ytbiahajpmnfhbaa
open Go.RowKit

/-- The program's reader, in a world that has it. -/
def Pd (w : World) (b : Nat) (s : ByteArray) (e : Int) : Prop := w.heap[b]? = some (.cells #[.string s, .int .i64 e] 52 (0, 0))
theorem Pd.cells {w : World} {b : Nat} {s : ByteArray} {e : Int} (h : Pd w b s e) : w.cell? ⟨b, 0, none⟩ = some (.string s) ∧ w.cell? ⟨b, 1, none⟩ = some (.int .i64 e) ∧ w.frozen? ⟨b, 0, none⟩ = false ∧ w.frozen? ⟨b, 1, none⟩ = false :=
  ⟨cell_heap h 0, cell_heap h 1, frozen_heap h 0, frozen_heap h 1⟩
theorem Pd.on {w w' : World} {b : Nat} {s : ByteArray} {e : Int} (h : Pd w b s e) (hb : Below w.heap.size w w') : Pd w' b s e := (hb.block _ (lt_heap h)).trans h
theorem Pd.err {w : World} {b : Nat} {s : ByteArray} {e : Int} (h : Pd w b s e) (c : Int) : Pd (w.setCell ⟨b, 1, none⟩ (.int .i64 c)) b s c := heap_setCell _ h
theorem Pd.go {w : World} {b : Nat} {s : ByteArray} {e : Int} (h : Pd w b s e) (c : ByteArray) : Pd (w.setCell ⟨b, 0, none⟩ (.string c)) b c e := heap_setCell _ h

set_option maxRecDepth 100000 in
theorem read_any (s : ByteArray) (w : World) :
    Calls Try.prog 17 #[.string s] w fun r w' => r = .returned (.pointer (some ⟨w.heap.size, 0, none⟩)) ∧ Pd w' w.heap.size s 0 ∧ Below w.heap.size w w' := by
  go_enter Try.func17, Try.ntmps17
  go_wp2
  go_ret
  exact ⟨rfl, heap_new _ _, (Below.refl _ _).alloc (Nat.le_refl _) _⟩
set_option maxRecDepth 100000 in
theorem left_any (b : Nat) (s : ByteArray) (e : Int) (w : World) (h : Pd w b s e) (hz : s.size ≤ 1048576) :
    Calls Try.prog 28 #[.pointer (some ⟨b, 0, none⟩)] w fun r w' => r = .returned (.int .i64 (s.size : Int)) ∧ w' = w := by
  obtain ⟨c0, c1, f0, f1⟩ := h.cells
  clear h
  go_enter Try.func28, Try.ntmps28
  go_wp2
  go_ret
  exact ⟨rfl, rfl⟩
set_option maxRecDepth 100000 in
theorem left_nil (w : World) :
    Calls Try.prog 28 #[.pointer none] w fun r w' => r = .returned (.int .i64 0) ∧ w' = w := by
  go_enter Try.func28, Try.ntmps28
  go_wp2
  go_ret
  exact ⟨rfl, rfl⟩
set_option maxRecDepth 100000 in
theorem err_any (b : Nat) (s : ByteArray) (e : Int) (w : World) (h : Pd w b s e) :
    Calls Try.prog 30 #[.pointer (some ⟨b, 0, none⟩)] w fun r w' => r = .returned (.int .i64 e) ∧ w' = w := by
  obtain ⟨c0, c1, f0, f1⟩ := h.cells
  clear h
  go_enter Try.func30, Try.ntmps30
  go_wp2
  go_ret
  exact ⟨rfl, rfl⟩
set_option maxRecDepth 100000 in
theorem err_nil (w : World) :
    Calls Try.prog 30 #[.pointer none] w fun r w' => r = .returned (.int .i64 7) ∧ w' = w := by
  go_enter Try.func30, Try.ntmps30
  go_wp2
  go_ret
  exact ⟨rfl, rfl⟩
set_option maxRecDepth 100000 in
theorem fail_ok (b : Nat) (s : ByteArray) (c : Int) (w : World) (h : Pd w b s 0) (c0 : ¬ c = 0) :
    Calls Try.prog 26 #[.pointer (some ⟨b, 0, none⟩), .int .i64 c] w fun r w' => (∃ v, r = .returned v) ∧ Pd w' b ⟨#[]⟩ c ∧ w.grownBy w' (some b) := by
  obtain ⟨d0, d1, f0, f1⟩ := h.cells
  have cb : (c == 0) = false := beq_eq_false_iff_ne.2 c0
  have H := hide h
  clear h c0
  go_enter Try.func26, Try.ntmps26
  go_wp2
  go_end0
  exact ⟨⟨_, rfl⟩, (H.out.err c).go _, grown_setCell (grown_setCell (grown_refl _ _) _ _) _ _⟩
set_option maxRecDepth 100000 in
theorem fail_off (b : Nat) (s : ByteArray) (e c : Int) (w : World) (h : Pd w b s e) (e0 : ¬ e = 0) :
    Calls Try.prog 26 #[.pointer (some ⟨b, 0, none⟩), .int .i64 c] w fun r w' => (∃ v, r = .returned v) ∧ w' = w := by
  obtain ⟨d0, d1, f0, f1⟩ := h.cells
  have eb : (e == 0) = false := beq_eq_false_iff_ne.2 e0
  have eb2 : (e != 0) = true := by rw [bne_iff_ne]; exact e0
  clear h e0
  go_enter Try.func26, Try.ntmps26
  go_wp2
  (try simp only [Exit.inBlock, Exit.then]); refine bodyPost_ret (results_none rfl _ _ _) rfl ?_
  exact ⟨⟨_, rfl⟩, rfl⟩
set_option maxRecDepth 100000 in
theorem fail_zero (b : Nat) (s : ByteArray) (w : World) (h : Pd w b s 0) :
    Calls Try.prog 26 #[.pointer (some ⟨b, 0, none⟩), .int .i64 0] w fun r w' => (∃ v, r = .returned v) ∧ w' = w := by
  obtain ⟨d0, d1, f0, f1⟩ := h.cells
  clear h
  go_enter Try.func26, Try.ntmps26
  go_wp2
  (try simp only [Exit.inBlock, Exit.then]); refine bodyPost_ret (results_none rfl _ _ _) rfl ?_
  exact ⟨⟨_, rfl⟩, rfl⟩
set_option maxRecDepth 100000 in
theorem fail_nil (c : Int) (w : World) :
    Calls Try.prog 26 #[.pointer none, .int .i64 c] w fun r w' => (∃ v, r = .returned v) ∧ w' = w := by
  go_enter Try.func26, Try.ntmps26
  go_wp2
  (try simp only [Exit.inBlock, Exit.then]); refine bodyPost_ret (results_none rfl _ _ _) rfl ?_
  exact ⟨⟨_, rfl⟩, rfl⟩

set_option maxHeartbeats 1000000 in
set_option maxRecDepth 100000 in
theorem byte_off (b : Nat) (e : Int) (w : World) (h : Pd w b ⟨#[]⟩ e) (e0 : ¬ e = 0) :
    Calls Try.prog 18 #[.pointer (some ⟨b, 0, none⟩)] w fun r w' => r = .returned (.int .u8 0) ∧ w' = w := by
  have HL := hide (left_any b ⟨#[]⟩ e w h (by simp [ByteArray.size]))
  have HF := hide (fail_off b ⟨#[]⟩ e 3 w h e0)
  clear h e0
  go_enter Try.func18, Try.ntmps18
  go_wp2_with fail
  refine (unhide HL).mono ?_
  rintro r w1 ⟨rfl, rfl⟩
  go_wp2_with fail
  refine (unhide HF).mono ?_
  rintro r w1 ⟨⟨v, rfl⟩, rfl⟩
  go_wp2
  go_ret
  exact ⟨rfl, rfl⟩
set_option maxHeartbeats 1000000 in
set_option maxRecDepth 100000 in
theorem byte_end (b : Nat) (w : World) (h : Pd w b ⟨#[]⟩ 0) :
    Calls Try.prog 18 #[.pointer (some ⟨b, 0, none⟩)] w fun r w' => r = .returned (.int .u8 0) ∧ Pd w' b ⟨#[]⟩ 3 ∧ w.grownBy w' (some b) := by
  have HL := hide (left_any b ⟨#[]⟩ 0 w h (by simp [ByteArray.size]))
  have HF := hide (fail_ok b ⟨#[]⟩ 3 w h (by omega))
  clear h
  go_enter Try.func18, Try.ntmps18
  go_wp2_with fail
  refine (unhide HL).mono ?_
  rintro r w1 ⟨rfl, rfl⟩
  go_wp2_with fail
  refine (unhide HF).mono ?_
  rintro r w2 ⟨⟨v, rfl⟩, hR, hg⟩
  have HR := hide hR
  have HG := hide hg
  clear hR hg
  go_wp2
  go_ret
  exact ⟨rfl, HR.out, HG.out⟩
set_option maxHeartbeats 1000000 in
set_option maxRecDepth 100000 in
theorem byte_nil (w : World) :
    Calls Try.prog 18 #[.pointer none] w fun r w' => r = .returned (.int .u8 0) ∧ w' = w := by
  have HL := hide (left_nil w)
  have HF := hide (fail_nil 3 w)
  go_enter Try.func18, Try.ntmps18
  go_wp2_with fail
  refine (unhide HL).mono ?_
  rintro r w1 ⟨rfl, rfl⟩
  go_wp2_with fail
  refine (unhide HF).mono ?_
  rintro r w1 ⟨⟨v, rfl⟩, rfl⟩
  go_wp2
  go_ret
  exact ⟨rfl, rfl⟩
set_option maxHeartbeats 1000000 in
set_option maxRecDepth 100000 in
theorem byte_next (b : Nat) (s : ByteArray) (e : Int) (w : World) (h : Pd w b s e) (h0 : 0 < s.size) (hz : s.size ≤ 1048576) :
    Calls Try.prog 18 #[.pointer (some ⟨b, 0, none⟩)] w fun r w' => r = .returned (.int .u8 (s[0].toNat : Int)) ∧ Pd w' b (s.extract 1 s.size) e ∧ w.grownBy w' (some b) := by
  have HL := hide (left_any b s e w h hz)
  obtain ⟨d0, d1, f0, f1⟩ := h.cells
  have H := hide h
  clear h
  have hb : ((s.size : Int) == 0) = false := beq_eq_false_iff_ne.2 (by omega)
  go_enter Try.func18, Try.ntmps18
  go_wp2_with fail
  refine (unhide HL).mono ?_
  rintro r w1 ⟨rfl, rfl⟩
  go_wp2
  go_ret
  exact ⟨rfl, H.out.go _, grown_setCell (grown_refl _ _) _ _⟩
end Go.Proofs.Ytbiahajpmnfhbaa
