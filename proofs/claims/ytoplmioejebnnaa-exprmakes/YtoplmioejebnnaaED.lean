/-
  The fifth reference's Count and Deep, walked.
-/
import Derived.Test.YtoplmioejebnnaaEA
import Derived.Lib.MinMax
set_option linter.unusedSimpArgs false
set_option linter.unusedVariables false
namespace Go.Proofs.Ytoplmioejebnnaa
open Go.RowKit

def cntF (f : Nat) (n : Int) (y : ExV) : Int := if n < 100 then n + countX f y else n
theorem cnt_stop (f : Nat) : ∀ (l : List ExV) (n : Int), 100 ≤ n → l.foldl (cntF f) n = n
  | [], _, _ => rfl
  | y :: l, n, h => by
    rw [List.foldl_cons, show cntF f n y = n from by unfold cntF; rw [if_neg (by omega)]]
    exact cnt_stop f l n h
theorem countX_le : ∀ (f : Nat) (x : ExV), countX f x ≤ 100
  | 0, _ => by unfold countX; omega
  | f + 1, x => by unfold countX; omega
theorem countX_step (f : Nat) (x : ExV) : countX (f + 1) x = min (x.sub.foldl (cntF f) 1) 100 := rfl
theorem drop_getX (l : List ExV) (k : Nat) (h : k < l.length) : l.drop k = l.getD k noX :: l.drop (k + 1) := by
  rw [List.drop_eq_getElem_cons h, List.getD_eq_getElem?_getD, List.getElem?_eq_getElem h]
  rfl
theorem ecCells {w : World} {g : Nat} {t : TypeId} {x0 x1 x2 x3 x4 x5 x6 : Value} (h : w.heap[g]? = some (.cells #[x0, x1, x2, x3, x4, x5, x6] t (0, 0))) : w.cell? ⟨g, 0, none⟩ = some x0 ∧ w.cell? ⟨g, 1, none⟩ = some x1 ∧ w.cell? ⟨g, 2, none⟩ = some x2 ∧ w.cell? ⟨g, 3, none⟩ = some x3 ∧ w.cell? ⟨g, 4, none⟩ = some x4 ∧ w.cell? ⟨g, 5, none⟩ = some x5 ∧ w.cell? ⟨g, 6, none⟩ = some x6 :=
  ⟨cell_heap h 0, cell_heap h 1, cell_heap h 2, cell_heap h 3, cell_heap h 4, cell_heap h 5, cell_heap h 6⟩

set_option maxHeartbeats 4000000 in
set_option maxRecDepth 100000 in
theorem refCount_any : ∀ (f : Nat) (n : Nat) (x : ExV) (v : Value) (D : Int) (w : World), f ≤ 21 → D = 21 - (f : Int) → ExAt n w v x →
    Calls Try.prog 12 #[v, .int .i64 D] w fun r w' => r = .returned (.int .i64 (countX f x)) ∧ Below w.heap.size w w' := by
  intro f
  induction f with
  | zero =>
    intro n x v D w hf hD hx
    obtain ⟨c, rfl, hc⟩ := hx.ec
    have hD' : D = 21 := by omega
    subst hD'
    have B0 := hide ((Below.refl _ w).alloc (Nat.le_refl _) (Obj.cells #[.int .i64 c.k, .int .i64 c.t, .bool c.s.a, .slice c.s.p c.s.n c.s.c, .bool c.s.d, .slice c.s.q c.s.m c.s.e, .slice c.p c.n c.c] 28))
    clear hx hc hD
    unfold EC.val
    go_enter Try.func12, Try.ntmps12
    go_wp2
    go_ret
    exact ⟨rfl, B0.out⟩
  | succ f ih =>
    intro n x v D w hf hD hx
    obtain ⟨m, rfl⟩ : ∃ m, n = m + 1 := by
      cases n with
      | zero => cases hx
      | succ m => exact ⟨m, rfl⟩
    obtain ⟨c, rfl, hc⟩ := hx.ec
    have hD0 : 0 ≤ D := by omega
    have hD1 : D ≤ 20 := by omega
    have HX := hide hx
    have HD := hide (show D + 1 = 21 - (f : Int) by omega)
    have IH := fun (y : ExV) (u : Value) (W : World) (h : ExAt m W u y) => hide (ih m y u (D + 1) W (by omega) HD.out h)
    have HN := hide hc.n
    have big := hc.big
    have room := hc.room
    have B0 := hide ((Below.refl _ w).alloc (Nat.le_refl _) (Obj.cells #[.int .i64 c.k, .int .i64 c.t, .bool c.s.a, .slice c.s.p c.s.n c.s.c, .bool c.s.d, .slice c.s.q c.s.m c.s.e, .slice c.p c.n c.c] 28))
    have E0 := hide (heap_new w (Obj.cells #[.int .i64 c.k, .int .i64 c.t, .bool c.s.a, .slice c.s.p c.s.n c.s.c, .bool c.s.d, .slice c.s.q c.s.m c.s.e, .slice c.p c.n c.c] 28))
    have HC := hide (countX_step f x)
    generalize countX (f + 1) x = R at HC ⊢
    clear hx hc ih hD hf
    unfold EC.val at *
    go_enter Try.func12, Try.ntmps12
    go_wp2
    go_loopw [5, 6] (fun a i wr => ∃ (k : Nat) (N : Int), a = .int .i64 N ∧ i = .int .i64 k ∧ k ≤ c.n ∧ 1 ≤ N ∧ N ≤ 200 ∧ Hid ((x.sub.drop k).foldl (cntF f) N = x.sub.foldl (cntF f) 1) ∧ Hid (Below w.heap.size w wr) ∧ Hid (wr.heap[w.heap.size]? = some (Obj.cells #[.int .i64 c.k, .int .i64 c.t, .bool c.s.a, .slice c.s.p c.s.n c.s.c, .bool c.s.d, .slice c.s.q c.s.m c.s.e, .slice c.p c.n c.c] 28 (0, 0)))) (fun _ i _ => c.n - (intOf i).toNat)
    case atStart => exact ⟨0, 1, rfl, rfl, by omega, by omega, by omega, hide rfl, B0, E0⟩
    case round =>
      clear B0 E0
      obtain ⟨k, N, rfl, rfl, hk, hN0, hN1, HF, HB, HE⟩ := hrel
      obtain ⟨c0, c1, c2, c3, c4, c5, c6⟩ := ecCells HE.out
      by_cases hlt : k < c.n
      · by_cases hN : N < 100
        · have hk' : k < x.sub.length := by rw [← HN.out]; exact hlt
          obtain ⟨g, off, d, hp, hg, hd, hy⟩ := (ExAt.on HB.out _ HX.out).part k hk'
          have F1 := HF.out
          rw [drop_getX _ _ hk', List.foldl_cons, show cntF f N (x.sub.getD k noX) = N + countX f (x.sub.getD k noX) from by unfold cntF; rw [if_pos hN]] at F1
          have HF1 := hide F1
          have X := IH _ _ _ hy
          have q0 := countX_pos f (x.sub.getD k noX)
          have q1 := countX_le f (x.sub.getD k noX)
          generalize countX f (x.sub.getD k noX) = q at *
          clear F1 HF hy IH HX
          obtain ⟨d0, d1, d2, d3, d4, d5, d6⟩ := hd
          unfold EC.val at X
          rw [hp] at c6 HE ⊢
          go_wp2_with fail
          refine (unhide X).mono ?_
          rintro r w2 ⟨rfl, b2⟩
          have HB2 := hide (HB.out.trans (b2.mono HB.out.size))
          have HE2 := hide ((b2.block _ (lt_heap HE.out)).trans HE.out)
          clear X b2 HB HE c0 c1 c2 c3 c4 c5 c6 d0 d1 d2 d3 d4 d5 d6
          go_wp2
          refine ⟨⟨k + 1, N + q, rfl, by go_num, by omega, by omega, by omega, HF1, HB2, HE2⟩, by simp [intOf]; omega⟩
        · have hN' : ¬ N < 100 := hN
          have E : Hid (R = min N 100) := hide (by rw [HC.out, ← HF.out, cnt_stop f _ N (by omega)])
          have hd' : decide (N < 100) = false := by simp; omega
          go_wp2
          go_ret
          exact ⟨ret_int E.out.symm, HB.out⟩
      · have E : Hid (R = min N 100) := hide (by
          rw [HC.out, ← HF.out, List.drop_eq_nil_of_le (by have := HN.out; omega)]; rfl)
        have hge : decide ((k : Int) < (c.n : Int)) = false := by simp; omega
        go_wp2
        go_ret
        exact ⟨ret_int E.out.symm, HB.out⟩
def maxF (f : Nat) (n : Int) (y : ExV) : Int := max n (deepX f y)
theorem deepX_le : ∀ (f : Nat) (x : ExV), deepX f x ≤ 20
  | 0, _ => by unfold deepX; omega
  | f + 1, x => by unfold deepX; omega
theorem deepX_step (f : Nat) (x : ExV) : deepX (f + 1) x = min ((x.sub.take 100).foldl (maxF f) 0 + 1) 20 := rfl
theorem take_getD (l : List ExV) (k : Nat) (h : k < 100) : (l.take 100).getD k noX = l.getD k noX := by
  rw [List.getD_eq_getElem?_getD, List.getD_eq_getElem?_getD, List.getElem?_take, if_pos h]
set_option maxHeartbeats 4000000 in
set_option maxRecDepth 100000 in
theorem refDeep_any : ∀ (f : Nat) (n : Nat) (x : ExV) (v : Value) (D : Int) (w : World), f ≤ 21 → D = 21 - (f : Int) → ExAt n w v x →
    Calls Try.prog 13 #[v, .int .i64 D] w fun r w' => r = .returned (.int .i64 (deepX f x)) ∧ Below w.heap.size w w' := by
  intro f
  induction f with
  | zero =>
    intro n x v D w hf hD hx
    obtain ⟨c, rfl, hc⟩ := hx.ec
    have hD' : D = 21 := by omega
    subst hD'
    have B0 := hide ((Below.refl _ w).alloc (Nat.le_refl _) (Obj.cells #[.int .i64 c.k, .int .i64 c.t, .bool c.s.a, .slice c.s.p c.s.n c.s.c, .bool c.s.d, .slice c.s.q c.s.m c.s.e, .slice c.p c.n c.c] 28))
    clear hx hc hD
    unfold EC.val
    go_enter Try.func13, Try.ntmps13
    go_wp2
    go_ret
    exact ⟨rfl, B0.out⟩
  | succ f ih =>
    intro n x v D w hf hD hx
    obtain ⟨m, rfl⟩ : ∃ m, n = m + 1 := by
      cases n with
      | zero => cases hx
      | succ m => exact ⟨m, rfl⟩
    obtain ⟨c, rfl, hc⟩ := hx.ec
    have hD0 : 0 ≤ D := by omega
    have hD1 : D ≤ 20 := by omega
    have HX := hide hx
    have HD := hide (show D + 1 = 21 - (f : Int) by omega)
    have IH := fun (y : ExV) (u : Value) (W : World) (h : ExAt m W u y) => hide (ih m y u (D + 1) W (by omega) HD.out h)
    have HN := hide hc.n
    have big := hc.big
    have room := hc.room
    have B0 := hide ((Below.refl _ w).alloc (Nat.le_refl _) (Obj.cells #[.int .i64 c.k, .int .i64 c.t, .bool c.s.a, .slice c.s.p c.s.n c.s.c, .bool c.s.d, .slice c.s.q c.s.m c.s.e, .slice c.p c.n c.c] 28))
    have E0 := hide (heap_new w (Obj.cells #[.int .i64 c.k, .int .i64 c.t, .bool c.s.a, .slice c.s.p c.s.n c.s.c, .bool c.s.d, .slice c.s.q c.s.m c.s.e, .slice c.p c.n c.c] 28))
    have HC := hide (deepX_step f x)
    generalize deepX (f + 1) x = R at HC ⊢
    clear hx hc ih hD hf
    unfold EC.val at *
    go_enter Try.func13, Try.ntmps13
    go_wp2
    go_loopw [5, 6] (fun a i wr => ∃ (k : Nat) (N : Int), a = .int .i64 N ∧ i = .int .i64 k ∧ k ≤ c.n ∧ 0 ≤ N ∧ N ≤ 20 ∧ Hid (((x.sub.take 100).drop k).foldl (maxF f) N = (x.sub.take 100).foldl (maxF f) 0) ∧ Hid (Below w.heap.size w wr) ∧ Hid (wr.heap[w.heap.size]? = some (Obj.cells #[.int .i64 c.k, .int .i64 c.t, .bool c.s.a, .slice c.s.p c.s.n c.s.c, .bool c.s.d, .slice c.s.q c.s.m c.s.e, .slice c.p c.n c.c] 28 (0, 0)))) (fun _ i _ => c.n - (intOf i).toNat)
    case atStart => exact ⟨0, 0, rfl, rfl, by omega, by omega, by omega, hide rfl, B0, E0⟩
    case round =>
      clear B0 E0
      obtain ⟨k, N, rfl, rfl, hk, hN0, hN1, HF, HB, HE⟩ := hrel
      obtain ⟨c0, c1, c2, c3, c4, c5, c6⟩ := ecCells HE.out
      by_cases hlt : k < c.n
      · by_cases hN : (k : Int) < 100
        · have hk' : k < x.sub.length := by rw [← HN.out]; exact hlt
          obtain ⟨g, off, d, hp, hg, hd, hy⟩ := (ExAt.on HB.out _ HX.out).part k hk'
          have F1 := HF.out
          rw [drop_getX _ _ (by rw [List.length_take]; omega), List.foldl_cons, take_getD _ _ (by omega), show maxF f N (x.sub.getD k noX) = max N (deepX f (x.sub.getD k noX)) from rfl] at F1
          have HF1 := hide F1
          have X := IH _ _ _ hy
          have q0 := deepX_pos f (x.sub.getD k noX)
          have q1 := deepX_le f (x.sub.getD k noX)
          generalize deepX f (x.sub.getD k noX) = q at *
          clear F1 HF hy IH HX
          obtain ⟨d0, d1, d2, d3, d4, d5, d6⟩ := hd
          unfold EC.val at X
          rw [hp] at c6 HE ⊢
          go_wp2_with fail
          refine (unhide X).mono ?_
          rintro r w2 ⟨rfl, b2⟩
          have HB2 := hide (HB.out.trans (b2.mono HB.out.size))
          have HE2 := hide ((b2.block _ (lt_heap HE.out)).trans HE.out)
          clear X b2 HB HE c0 c1 c2 c3 c4 c5 c6 d0 d1 d2 d3 d4 d5 d6
          go_wp2
          refine ⟨⟨k + 1, max N q, rfl, by go_num, by omega, by omega, by omega, HF1, HB2, HE2⟩, by simp [intOf]; omega⟩
        · have E : Hid (R = min (N + 1) 20) := hide (by
            rw [HC.out, ← HF.out, List.drop_eq_nil_of_le (by rw [List.length_take]; omega)]; rfl)
          have hd' : decide ((k : Int) < 100) = false := by simp; omega
          go_wp2
          go_ret
          exact ⟨ret_int E.out.symm, HB.out⟩
      · have E : Hid (R = min (N + 1) 20) := hide (by
          rw [HC.out, ← HF.out, List.drop_eq_nil_of_le (by rw [List.length_take]; have := HN.out; omega)]; rfl)
        have hge : decide ((k : Int) < (c.n : Int)) = false := by simp; omega
        go_wp2
        go_ret
        exact ⟨ret_int E.out.symm, HB.out⟩
end Go.Proofs.Ytoplmioejebnnaa
