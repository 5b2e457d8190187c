/-
  The fifth reference's sets, Few and Fits, walked.
-/
import Derived.Test.YtoplmioejebnnaaED
import Derived.Test.YtoplmioejebnnaaSE
set_option linter.unusedSimpArgs false
set_option linter.unusedVariables false
namespace Go.Proofs.Ytoplmioejebnnaa
open Go.RowKit

def setsX : Nat → ExV → Bool
  | 0, _ => true
  | n + 1, x => fewB x.set && x.sub.all (setsX n)
def fewX (n : Nat) (x : ExV) : Bool := (decide (countX 21 x < 100) && decide (deepX 21 x < 20)) && setsX n x
theorem set_rowE {w : World} {s : SC} {A : SetV} (h : SetAt w s.val A) (n : Nat) (hn : n = w.heap.size) : SetsAt (w.alloc (.cells #[.bool s.a, .slice s.p s.n s.c, .bool s.d, .slice s.q s.m s.e] 25)) (.slice (some ⟨n, 0, none⟩) 1 1) [A] := by
  subst hn
  obtain ⟨x, y, z, t⟩ := h.scForm
  have := sets_one (vi := .slice s.p s.n s.c) (vs := .slice s.q s.m s.e) (A := A) (w := w) (by rw [← x, ← z]; exact h) _ rfl
  rw [x, z]
  exact this
theorem allX_step (n : Nat) (l : List ExV) (k : Nat) (h : k < l.length) : (l.drop k).all (setsX n) = (setsX n (l.getD k noX) && (l.drop (k + 1)).all (setsX n)) := by
  rw [drop_getX l k h, List.all_cons]

set_option maxHeartbeats 4000000 in
set_option maxRecDepth 100000 in
theorem refSets_any : ∀ (n : Nat) (x : ExV) (v : Value) (w : World), ExAt n w v x →
    Calls Try.prog 28 #[v] w fun r w' => r = .returned (.bool (setsX n x)) ∧ Below w.heap.size w w' := by
  intro n
  induction n with
  | zero => intro x v w h; cases h
  | succ n ih =>
    intro x v w hx
    obtain ⟨c, rfl, hc⟩ := hx.ec
    have HX := hide hx
    have IH := fun (y : ExV) (u : Value) (W : World) (h : ExAt n W u y) => hide (ih y u W h)
    have HN := hide hc.n
    have big := hc.big
    have room := hc.room
    have b0 := (Below.refl _ w).alloc (Nat.le_refl _) (Obj.cells #[.int .i64 c.k, .int .i64 c.t, .bool c.s.a, .slice c.s.p c.s.n c.s.c, .bool c.s.d, .slice c.s.q c.s.m c.s.e, .slice c.p c.n c.c] 28)
    have FW := hide (refFew_any _ _ _ (set_rowE (hc.s.on b0) (w.heap.size + 1) (by simp)))
    have b1 := b0.alloc b0.size (Obj.cells #[.bool c.s.a, .slice c.s.p c.s.n c.s.c, .bool c.s.d, .slice c.s.q c.s.m c.s.e] 25)
    have E1 := hide (((Below.refl _ _).alloc (Nat.le_refl _) (Obj.cells #[.bool c.s.a, .slice c.s.p c.s.n c.s.c, .bool c.s.d, .slice c.s.q c.s.m c.s.e] 25)).block _ (lt_heap (heap_new w (Obj.cells #[.int .i64 c.k, .int .i64 c.t, .bool c.s.a, .slice c.s.p c.s.n c.s.c, .bool c.s.d, .slice c.s.q c.s.m c.s.e, .slice c.p c.n c.c] 28)) ) |>.trans (heap_new w (Obj.cells #[.int .i64 c.k, .int .i64 c.t, .bool c.s.a, .slice c.s.p c.s.n c.s.c, .bool c.s.d, .slice c.s.q c.s.m c.s.e, .slice c.p c.n c.c] 28)))
    have B1 := hide b1
    have HC : Hid (setsX (n + 1) x = (fewB x.set && x.sub.all (setsX n))) := hide rfl
    rw [show ([x.set] : List SetV).all fewB = fewB x.set by simp] at FW
    generalize setsX (n + 1) x = R at HC ⊢
    generalize fewB x.set = q at HC FW
    clear hx hc ih b0 b1
    unfold EC.val at *
    go_enter Try.func28, Try.ntmps28
    go_wp2_with fail
    refine (unhide FW).mono ?_
    rintro r w2 ⟨rfl, rfl⟩
    cases q
    · have E : Hid (R = false) := hide (by rw [HC.out, Bool.false_and])
      clear FW
      go_wp2
      go_ret
      exact ⟨ret_bool E.out.symm, B1.out⟩
    · have HC1 := hide (HC.out.trans (Bool.true_and _))
      clear FW HC
      generalize (w.alloc (Obj.cells #[.int .i64 c.k, .int .i64 c.t, .bool c.s.a, .slice c.s.p c.s.n c.s.c, .bool c.s.d, .slice c.s.q c.s.m c.s.e, .slice c.p c.n c.c] 28)).alloc (Obj.cells #[.bool c.s.a, .slice c.s.p c.s.n c.s.c, .bool c.s.d, .slice c.s.q c.s.m c.s.e] 25) = w1 at E1 B1 ⊢
      go_wp2
      go_loopw [3] (fun i wr => ∃ k : Nat, i = .int .i64 k ∧ k ≤ c.n ∧ Hid ((x.sub.drop k).all (setsX n) = x.sub.all (setsX n)) ∧ Hid (Below w.heap.size w wr) ∧ Hid (wr.heap[w.heap.size]? = some (Obj.cells #[.int .i64 c.k, .int .i64 c.t, .bool c.s.a, .slice c.s.p c.s.n c.s.c, .bool c.s.d, .slice c.s.q c.s.m c.s.e, .slice c.p c.n c.c] 28 (0, 0)))) (fun i _ => c.n - (intOf i).toNat)
      case atStart => exact ⟨0, rfl, by omega, hide rfl, B1, E1⟩
      case round =>
        clear B1 E1
        obtain ⟨k, rfl, hk, HF, HB, HE⟩ := hrel
        obtain ⟨c0, c1, c2, c3, c4, c5, c6⟩ := ecCells HE.out
        by_cases hlt : k < c.n
        · have hk' : k < x.sub.length := by rw [← HN.out]; exact hlt
          obtain ⟨g, off, d, hp, hg, hd, hy⟩ := (ExAt.on HB.out _ HX.out).part k hk'
          have F1 := HF.out
          rw [allX_step n _ k hk'] at F1
          have HF1 := hide F1
          have X := IH _ _ _ hy
          generalize setsX n (x.sub.getD k noX) = q at *
          clear F1 HF hy IH HX
          obtain ⟨d0, d1, d2, d3, d4, d5, d6⟩ := hd
          unfold EC.val at X
          rw [hp] at c6 HE ⊢
          go_wp2_with fail
          refine (unhide X).mono ?_
          rintro r w2 ⟨rfl, b2⟩
          have HB2 := hide (HB.out.trans (b2.mono HB.out.size))
          have HE2 := hide ((b2.block _ (lt_heap HE.out)).trans HE.out)
          clear X b2 HB HE c0 c1 c2 c3 c4 c5 c6 d0 d1 d2 d3 d4 d5 d6
          cases q
          · have E : Hid (R = false) := hide (by rw [HC1.out, ← HF1.out, Bool.false_and])
            go_wp2
            go_ret
            exact ⟨ret_bool E.out.symm, HB2.out⟩
          · have HF2 := hide ((Bool.true_and _).symm.trans HF1.out)
            go_wp2
            exact ⟨⟨k + 1, by go_num, by omega, HF2, HB2, HE2⟩, by simp [intOf]; omega⟩
        · have E : Hid (R = true) := hide (by
            rw [HC1.out, ← HF.out, List.drop_eq_nil_of_le (by have := HN.out; omega)]; rfl)
          have hge : decide ((k : Int) < (c.n : Int)) = false := by simp; omega
          go_wp2
          go_ret
          exact ⟨ret_bool E.out.symm, HB.out⟩

set_option maxHeartbeats 4000000 in
set_option maxRecDepth 100000 in
theorem refFewX_any (n : Nat) (x : ExV) (v : Value) (w : World) (hx : ExAt n w v x) :
    Calls Try.prog 10 #[v] w fun r w' => r = .returned (.bool (fewX n x)) ∧ Below w.heap.size w w' := by
  have CC := fun (W : World) (hb : Below w.heap.size w W) => hide (refCount_any 21 n x v 0 W (by omega) (by omega) (ExAt.on hb _ hx))
  have CD := fun (W : World) (hb : Below w.heap.size w W) => hide (refDeep_any 21 n x v 0 W (by omega) (by omega) (ExAt.on hb _ hx))
  have CS := fun (W : World) (hb : Below w.heap.size w W) => hide (refSets_any n x v W (ExAt.on hb _ hx))
  have HC : Hid (fewX n x = ((decide (countX 21 x < 100) && decide (deepX 21 x < 20)) && setsX n x)) := hide rfl
  generalize fewX n x = R at HC ⊢
  generalize countX 21 x = p at HC CC
  generalize deepX 21 x = q at HC CD
  generalize setsX n x = s at HC CS
  obtain ⟨c, rfl, hc⟩ := hx.ec
  have b0 := (Below.refl _ w).alloc (Nat.le_refl _) (Obj.cells #[.int .i64 c.k, .int .i64 c.t, .bool c.s.a, .slice c.s.p c.s.n c.s.c, .bool c.s.d, .slice c.s.q c.s.m c.s.e, .slice c.p c.n c.c] 28)
  have E0 := heap_new w (Obj.cells #[.int .i64 c.k, .int .i64 c.t, .bool c.s.a, .slice c.s.p c.s.n c.s.c, .bool c.s.d, .slice c.s.q c.s.m c.s.e, .slice c.p c.n c.c] 28)
  have HB0 := hide b0
  have HE0 := hide E0
  have X := CC _ b0
  clear hx hc b0 E0
  unfold EC.val at *
  go_enter Try.func10, Try.ntmps10
  go_wp2_with fail
  refine (unhide X).mono ?_
  rintro r w1 ⟨rfl, b1⟩
  have HB1 := hide (HB0.out.trans (b1.mono HB0.out.size))
  have HE1 := hide ((b1.block _ (lt_heap HE0.out)).trans HE0.out)
  clear X b1 HB0 HE0 CC
  by_cases hp : p < 100
  · have hp' : decide (100 ≤ p) = false := by simp; omega
    obtain ⟨c0, c1, c2, c3, c4, c5, c6⟩ := ecCells HE1.out
    have Y := CD _ HB1.out
    go_wp2_with fail
    refine (unhide Y).mono ?_
    rintro r w2 ⟨rfl, b2⟩
    have HB2 := hide (HB1.out.trans (b2.mono HB1.out.size))
    have HE2 := hide ((b2.block _ (lt_heap HE1.out)).trans HE1.out)
    clear Y b2 HB1 HE1 CD c0 c1 c2 c3 c4 c5 c6
    by_cases hq : q < 20
    · have hq' : decide (20 ≤ q) = false := by simp; omega
      obtain ⟨c0, c1, c2, c3, c4, c5, c6⟩ := ecCells HE2.out
      have Z := CS _ HB2.out
      have E : Hid (R = s) := hide (by rw [HC.out, decide_eq_true hp, decide_eq_true hq]; rfl)
      go_wp2_with fail
      refine (unhide Z).mono ?_
      rintro r w3 ⟨rfl, b3⟩
      have HB3 := hide (HB2.out.trans (b3.mono HB2.out.size))
      clear Z b3
      go_wp2
      go_ret
      exact ⟨ret_bool E.out.symm, HB3.out⟩
    · have hq' : decide (20 ≤ q) = true := by simp; omega
      have E : Hid (R = false) := hide (by rw [HC.out, decide_eq_false hq, Bool.and_false, Bool.false_and])
      go_wp2
      go_ret
      exact ⟨ret_bool E.out.symm, HB2.out⟩
  · have hp' : decide (100 ≤ p) = true := by simp; omega
    have E : Hid (R = false) := hide (by rw [HC.out, decide_eq_false hp, Bool.false_and, Bool.false_and])
    go_wp2
    go_ret
    exact ⟨ret_bool E.out.symm, HB1.out⟩

set_option maxHeartbeats 4000000 in
set_option maxRecDepth 100000 in
theorem refFits_any (n : Nat) (x : ExV) (v : Value) (w : World) (hx : ExAt n w v x) :
    Calls Try.prog 14 #[v] w fun r w' => r = .returned (.bool (fitsX x)) ∧ Below w.heap.size w w' := by
  have CC := fun (W : World) (hb : Below w.heap.size w W) => hide (refCount_any 21 n x v 0 W (by omega) (by omega) (ExAt.on hb _ hx))
  have CD := fun (W : World) (hb : Below w.heap.size w W) => hide (refDeep_any 21 n x v 0 W (by omega) (by omega) (ExAt.on hb _ hx))
  have HC : Hid (fitsX x = (decide (countX 21 x ≤ 40) && decide (deepX 21 x ≤ 8))) := hide rfl
  generalize fitsX x = R at HC ⊢
  generalize countX 21 x = p at HC CC
  generalize deepX 21 x = q at HC CD
  obtain ⟨c, rfl, hc⟩ := hx.ec
  have b0 := (Below.refl _ w).alloc (Nat.le_refl _) (Obj.cells #[.int .i64 c.k, .int .i64 c.t, .bool c.s.a, .slice c.s.p c.s.n c.s.c, .bool c.s.d, .slice c.s.q c.s.m c.s.e, .slice c.p c.n c.c] 28)
  have E0 := heap_new w (Obj.cells #[.int .i64 c.k, .int .i64 c.t, .bool c.s.a, .slice c.s.p c.s.n c.s.c, .bool c.s.d, .slice c.s.q c.s.m c.s.e, .slice c.p c.n c.c] 28)
  have HB0 := hide b0
  have HE0 := hide E0
  have X := CC _ b0
  clear hx hc b0 E0
  unfold EC.val at *
  go_enter Try.func14, Try.ntmps14
  go_wp2_with fail
  refine (unhide X).mono ?_
  rintro r w1 ⟨rfl, b1⟩
  have HB1 := hide (HB0.out.trans (b1.mono HB0.out.size))
  have HE1 := hide ((b1.block _ (lt_heap HE0.out)).trans HE0.out)
  clear X b1 HB0 HE0 CC
  by_cases hp : p ≤ 40
  · have hp' : decide (p ≤ 40) = true := by simp; omega
    obtain ⟨c0, c1, c2, c3, c4, c5, c6⟩ := ecCells HE1.out
    have Y := CD _ HB1.out
    have E : Hid (R = decide (q ≤ 8)) := hide (by rw [HC.out, decide_eq_true hp]; rfl)
    go_wp2_with fail
    refine (unhide Y).mono ?_
    rintro r w2 ⟨rfl, b2⟩
    have HB2 := hide (HB1.out.trans (b2.mono HB1.out.size))
    clear Y b2
    go_wp2
    go_ret
    exact ⟨ret_bool E.out.symm, HB2.out⟩
  · have hp' : decide (p ≤ 40) = false := by simp; omega
    have E : Hid (R = false) := hide (by rw [HC.out, decide_eq_false hp, Bool.false_and])
    go_wp2
    go_ret
    exact ⟨ret_bool E.out.symm, HB1.out⟩
end Go.Proofs.Ytoplmioejebnnaa
