/-
  The walk of value.Read.
-/
import Derived.Test.YthiffpdioclnlaaDoorVS
set_option linter.unusedSimpArgs false
set_option linter.unusedVariables false
namespace Go.Proofs.YthiffpdioclnlaaDoor
open Go.RowKit

theorem read_empty (s : ByteArray) (h : s.size = 0) : readL s.data.toList = none := by
  unfold readL; rw [if_pos (by rw [← Lib.size_eq]; exact h)]
theorem read_quote (s : ByteArray) (h : 0 < s.size) (c : s[0].toNat = 39) : readL s.data.toList = rsL s.size (s.data.toList.drop 1) [] 1 := by
  unfold readL; rw [← at_getD s 0 h, ← Lib.size_eq, if_neg (by omega), if_pos c]
theorem read_num (s : ByteArray) (h : 0 < s.size) (c : ¬ s[0].toNat = 39) (hn : 0 < numEnd s.data.toList) : readL s.data.toList = rnL (s.data.toList.take (numEnd s.data.toList)) := by
  unfold readL; rw [← at_getD s 0 h, ← Lib.size_eq, if_neg (by omega), if_neg c, if_pos hn]
theorem read_minus (s : ByteArray) (h : 0 < s.size) (c : ¬ s[0].toNat = 39) (hn : ¬ 0 < numEnd s.data.toList) (hm : s[0].toNat = 45) : readL s.data.toList = some (0, 0, [], 1) := by
  unfold readL; rw [← at_getD s 0 h, ← Lib.size_eq, if_neg (by omega), if_neg c, if_neg hn, if_pos hm]
theorem read_none (s : ByteArray) (h : 0 < s.size) (c : ¬ s[0].toNat = 39) (hn : ¬ 0 < numEnd s.data.toList) (hm : ¬ s[0].toNat = 45) : readL s.data.toList = none := by
  unfold readL; rw [← at_getD s 0 h, ← Lib.size_eq, if_neg (by omega), if_neg c, if_neg hn, if_neg hm]

theorem isEmpty_false (s : ByteArray) (h : 0 < s.size) : s.toList.isEmpty = false := by
  rw [ByteArray.toList_eq]
  cases e : s.data.toList with
  | nil => rw [Lib.size_eq, e] at h; simp at h
  | cons c l => rfl
theorem isEmpty_true (s : ByteArray) (h : s.size = 0) : s.toList.isEmpty = true := by
  rw [ByteArray.toList_eq]
  cases e : s.data.toList with
  | nil => rfl
  | cons c l => rw [Lib.size_eq, e] at h; simp at h

theorem new_three (w : World) (a b c : Value) : Below w.heap.size w ((((w.alloc (.cells #[.int .i64 0, .int .i64 0, .string ⟨#[]⟩] 23)).setCell ⟨w.heap.size, 0, none⟩ a).setCell ⟨w.heap.size, 1, none⟩ b).setCell ⟨w.heap.size, 2, none⟩ c) :=
  below_three a b c ((Below.refl _ _).alloc (Nat.le_refl _) _)

theorem readNumber_cut (s : ByteArray) (n : Nat) (hn : n ≤ s.size) (w : World) (hE : Env w) (hs : s.size ≤ 1048576) :
    Calls Tryd.prog 32 #[.string (s.extract 0 n)] w fun e w' => e = .returned (retR (rnL (s.data.toList.take n))) ∧ Below w.heap.size w w' := by
  have hd : (s.extract 0 n).data.toList = s.data.toList.take n := by rw [Lib.extract_data]; simp
  have hz : (s.extract 0 n).size ≤ 1048576 := by rw [Lib.size_eq, hd, List.length_take, ← Lib.size_eq]; omega
  have := readNumber_any (s.extract 0 n) w hE hz
  rw [hd] at this
  exact this

set_option maxHeartbeats 1000000 in
set_option maxRecDepth 100000 in
theorem read_any (s : ByteArray) (w : World) (hE : Env w) (hs : s.size ≤ 1048576) :
    Calls Tryd.prog 20 #[.string s] w fun e w' => e = .returned (retR (readL s.data.toList)) ∧ Below w.heap.size w w' := by
  have HE := hide hE
  clear hE
  by_cases h0 : 0 < s.size
  · have he := isEmpty_false s h0
    by_cases c : s[0].toNat = 39
    · have cb : ((s[0].toNat : Int) == 39) = true := by rw [c]; rfl
      have E := read_quote s h0 c
      have HC := fun (W : World) (_ : True) => readString_any s W h0 hs
      clear c
      cases hR : rsL s.size (s.data.toList.drop 1) [] 1 with
      | none =>
        rw [hR] at HC E
        unfold retR at HC
        have HH := fun W h => hide (HC W h)
        clear HC
        go_enter Tryd.func20, Tryd.ntmps20
        go_wp2_with (go_at_call 30; refine (unhide (HH _ trivial)).mono ?_; rintro e w1 ⟨rfl, hb1⟩; refine Hid.out ?_)
        refine hide ?_
        obtain ⟨hc, hf⟩ := bcell hb1
        have hB := hide (below_alloc hb1)
        have hz : w.heap.size < w1.heap.size := by have := hb1.size; simp at this; omega
        clear hb1
        have r0 : w1.cell? ⟨w.heap.size, 0, none⟩ = some (.int .i64 0) := by rw [hc _ _ (by simp)]; simp
        have r1 : w1.cell? ⟨w.heap.size, 1, none⟩ = some (.int .i64 0) := by rw [hc _ _ (by simp)]; simp
        have r2 : w1.cell? ⟨w.heap.size, 2, none⟩ = some (.string ⟨#[]⟩) := by rw [hc _ _ (by simp)]; simp
        have Hq := hide (three_stores (.int .i64 0) (.int .i64 0) (.string ⟨#[]⟩) r0 r1 r2)
        go_wp2
        obtain ⟨q0, q1, q2⟩ := Hq.out
        refine bodyPost_ret (v := retR (none)) (by simp [results, Tryd.results20, go_sem, retR, q0, q1, q2]) rfl ⟨by rw [E], below_three _ _ _ hB.out⟩
      | some x =>
        rw [hR] at HC E
        unfold retR at HC
        have HH := fun W h => hide (HC W h)
        clear HC
        go_enter Tryd.func20, Tryd.ntmps20
        go_wp2_with (go_at_call 30; refine (unhide (HH _ trivial)).mono ?_; rintro e w1 ⟨rfl, hb1⟩; refine Hid.out ?_)
        refine hide ?_
        obtain ⟨hc, hf⟩ := bcell hb1
        have hB := hide (below_alloc hb1)
        have hz : w.heap.size < w1.heap.size := by have := hb1.size; simp at this; omega
        clear hb1
        have r0 : w1.cell? ⟨w.heap.size, 0, none⟩ = some (.int .i64 0) := by rw [hc _ _ (by simp)]; simp
        have r1 : w1.cell? ⟨w.heap.size, 1, none⟩ = some (.int .i64 0) := by rw [hc _ _ (by simp)]; simp
        have r2 : w1.cell? ⟨w.heap.size, 2, none⟩ = some (.string ⟨#[]⟩) := by rw [hc _ _ (by simp)]; simp
        have Hq := hide (three_stores (.int .i64 x.1) (.int .i64 x.2.1) (.string ⟨x.2.2.1.toArray⟩) r0 r1 r2)
        go_wp2
        obtain ⟨q0, q1, q2⟩ := Hq.out
        refine bodyPost_ret (v := retR (some x)) (by simp [results, Tryd.results20, go_sem, retR, q0, q1, q2]) rfl ⟨by rw [E], below_three _ _ _ hB.out⟩
    · have cb : ((s[0].toNat : Int) == 39) = false := beq_eq_false_iff_ne.2 (by omega)
      have HN := fun (W : World) => hide (numberEnd_any s W h0 hs)
      have hle := numEnd_le s.data.toList
      rw [← Lib.size_eq] at hle
      by_cases hn : 0 < numEnd s.data.toList
      · have E := read_num s h0 c hn
        have HC := fun (W : World) (h : Env W) => readNumber_cut s _ hle W h hs
        clear c
        generalize numEnd s.data.toList = n at *
        cases hR : rnL (s.data.toList.take n) with
        | none =>
          rw [hR] at HC E
          unfold retR at HC
          have HH := fun W h => hide (HC W h)
          clear HC
          go_enter Tryd.func20, Tryd.ntmps20
          go_wp2_with (first | (go_at_call 31; refine (unhide (HN _)).mono ?_; rintro e w' ⟨rfl, rfl⟩) | (go_at_call 32; refine (unhide (HH _ (HE.out.alloc _))).mono ?_; rintro e w1 ⟨rfl, hb1⟩; refine Hid.out ?_))
          refine hide ?_
          obtain ⟨hc, hf⟩ := bcell hb1
          have hB := hide (below_alloc hb1)
          have hz : w.heap.size < w1.heap.size := by have := hb1.size; simp at this; omega
          clear hb1
          have r0 : w1.cell? ⟨w.heap.size, 0, none⟩ = some (.int .i64 0) := by rw [hc _ _ (by simp)]; simp
          have r1 : w1.cell? ⟨w.heap.size, 1, none⟩ = some (.int .i64 0) := by rw [hc _ _ (by simp)]; simp
          have r2 : w1.cell? ⟨w.heap.size, 2, none⟩ = some (.string ⟨#[]⟩) := by rw [hc _ _ (by simp)]; simp
          have Hq := hide (three_stores (.int .i64 0) (.int .i64 0) (.string ⟨#[]⟩) r0 r1 r2)
          go_wp2
          obtain ⟨q0, q1, q2⟩ := Hq.out
          refine bodyPost_ret (v := retR (none)) (by simp [results, Tryd.results20, go_sem, retR, q0, q1, q2]) rfl ⟨by rw [E], below_three _ _ _ hB.out⟩
        | some x =>
          rw [hR] at HC E
          unfold retR at HC
          have HH := fun W h => hide (HC W h)
          clear HC
          go_enter Tryd.func20, Tryd.ntmps20
          go_wp2_with (first | (go_at_call 31; refine (unhide (HN _)).mono ?_; rintro e w' ⟨rfl, rfl⟩) | (go_at_call 32; refine (unhide (HH _ (HE.out.alloc _))).mono ?_; rintro e w1 ⟨rfl, hb1⟩; refine Hid.out ?_))
          refine hide ?_
          obtain ⟨hc, hf⟩ := bcell hb1
          have hB := hide (below_alloc hb1)
          have hz : w.heap.size < w1.heap.size := by have := hb1.size; simp at this; omega
          clear hb1
          have r0 : w1.cell? ⟨w.heap.size, 0, none⟩ = some (.int .i64 0) := by rw [hc _ _ (by simp)]; simp
          have r1 : w1.cell? ⟨w.heap.size, 1, none⟩ = some (.int .i64 0) := by rw [hc _ _ (by simp)]; simp
          have r2 : w1.cell? ⟨w.heap.size, 2, none⟩ = some (.string ⟨#[]⟩) := by rw [hc _ _ (by simp)]; simp
          have Hq := hide (three_stores (.int .i64 x.1) (.int .i64 x.2.1) (.string ⟨x.2.2.1.toArray⟩) r0 r1 r2)
          go_wp2
          obtain ⟨q0, q1, q2⟩ := Hq.out
          refine bodyPost_ret (v := retR (some x)) (by simp [results, Tryd.results20, go_sem, retR, q0, q1, q2]) rfl ⟨by rw [E], below_three _ _ _ hB.out⟩
      · have nb : ¬ (0 : Int) < (numEnd s.data.toList : Nat) := by omega
        by_cases hm : s[0].toNat = 45
        · have mb : ((s[0].toNat : Int) == 45) = true := by rw [hm]; rfl
          have E := hide (read_minus s h0 c hn hm)
          clear hm hn c
          generalize numEnd s.data.toList = n at *
          go_enter Tryd.func20, Tryd.ntmps20
          go_wp2_with (go_at_call 31; refine (unhide (HN _)).mono ?_; rintro e w' ⟨rfl, rfl⟩)
          refine bodyPost_ret (v := retR (some (0, 0, [], 1))) (by simp [results, Tryd.results20, go_sem, retR]) rfl ⟨by rw [E.out], (Below.refl _ _).alloc (Nat.le_refl _) _⟩
        · have mb : ((s[0].toNat : Int) == 45) = false := beq_eq_false_iff_ne.2 (by omega)
          have E := hide (read_none s h0 c hn hm)
          clear hm hn c
          generalize numEnd s.data.toList = n at *
          go_enter Tryd.func20, Tryd.ntmps20
          go_wp2_with (go_at_call 31; refine (unhide (HN _)).mono ?_; rintro e w' ⟨rfl, rfl⟩)
          refine bodyPost_ret (v := retR (none)) (by simp [results, Tryd.results20, go_sem, retR]) rfl ⟨by rw [E.out], (Below.refl _ _).alloc (Nat.le_refl _) _⟩
  · have he := isEmpty_true s (by omega)
    have E := hide (read_empty s (by omega))
    go_enter Tryd.func20, Tryd.ntmps20
    go_wp2
    refine bodyPost_ret (v := retR (none)) (by simp [results, Tryd.results20, go_sem, retR]) rfl ⟨by rw [E.out], (Below.refl _ _).alloc (Nat.le_refl _) _⟩
end Go.Proofs.YthiffpdioclnlaaDoor
