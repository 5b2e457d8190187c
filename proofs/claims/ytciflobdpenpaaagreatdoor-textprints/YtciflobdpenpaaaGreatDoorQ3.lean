/-
  Rows of sets; the walks of the third reference's Few and Fresh.
-/
import Derived.Test.YtciflobdpenpaaaGreatDoorQ1
import Derived.Test.YtciflobdpenpaaaGreatDoorQ2
import Derived.Lib.QuietBelow
import Derived.Deep.RegionHeld3
set_option linter.unusedSimpArgs false
set_option linter.unusedVariables false
namespace Go.Proofs.YtciflobdpenpaaaGreatDoor
open Go.RowKit

set_option maxHeartbeats 2000000 in
set_option maxRecDepth 100000 in
theorem refFew_any (v : Value) (l : List SetV) (w : World) (hv : SetsAt w v l) :
    Calls Tryz.prog 57 #[v] w fun r w' => r = .returned (.bool (l.all fewB)) ∧ w' = w := by
  obtain ⟨hlen, a, cap, rfl, hel⟩ := hv
  have HE := hide hel
  clear hel
  generalize hB : l.all fewB = B
  have HB : Hid ((l.drop 0).all fewB = B) := hide (by rw [List.drop_zero]; exact hB)
  clear hB
  obtain ⟨N, hN⟩ : ∃ N : Nat, N = l.length := ⟨_, rfl⟩
  rw [← hN] at hlen ⊢
  have HN := hide hN
  clear hN
  go_enter Tryz.func57, Tryz.ntmps57
  go_wp2
  go_loopw [3] (fun i wr => ∃ k : Nat, i = .int .i64 k ∧ k ≤ N ∧ wr = w ∧ Hid ((l.drop k).all fewB = B)) (fun i _ => N - (intOf i).toNat)
  case atStart => exact ⟨0, rfl, by omega, rfl, HB⟩
  case round =>
    obtain ⟨k, rfl, hk, rfl, HD⟩ := hrel
    clear HB
    by_cases hlt : k < N
    · obtain ⟨b, off, vi, vs, rfl, hb, c0, c1, c2, c3, hI, hS⟩ := HE.out k (by rw [← HN.out]; exact hlt)
      have D0 := HD.out
      rw [drop_getD l k noSet (by rw [← HN.out]; exact hlt), List.all_cons] at D0
      generalize l.getD k noSet = S at *
      obtain ⟨ai, ci, rfl⟩ := hI.form
      obtain ⟨aq, cq, rfl⟩ := hS.form
      obtain ⟨sa, si, sc, ss⟩ := S
      dsimp only at *
      have nIle := hI.2.1
      have nSle := hS.2.1
      have HS := hide hS
      have HD0 := hide D0
      clear D0 HD hI hS
      have few1 : ¬ (si.length ≤ 40 ∧ ss.length ≤ 40) → fewB ⟨sa, si, sc, ss⟩ = false := fun h => by
        unfold fewB
        dsimp only
        rw [Bool.and_eq_false_iff]
        left
        rw [Bool.and_eq_false_iff, decide_eq_false_iff_not, decide_eq_false_iff_not]
        omega
      have few2 : si.length ≤ 40 ∧ ss.length ≤ 40 → fewB ⟨sa, si, sc, ss⟩ = (ss.all fun s => decide (s.size ≤ 100)) := fun h => by
        unfold fewB
        dsimp only
        rw [decide_eq_true h.1, decide_eq_true h.2]; rfl
      obtain ⟨nI, hnI⟩ : ∃ n : Nat, n = si.length := ⟨_, rfl⟩
      obtain ⟨nS, hnS⟩ : ∃ n : Nat, n = ss.length := ⟨_, rfl⟩
      rw [← hnI] at nIle few1 few2 c1
      rw [← hnS] at nSle few1 few2 c3
      have HnS := hide hnS
      have F1 := hide few1
      have F2 := hide few2
      clear hnI hnS few1 few2
      by_cases big : nI ≤ 40 ∧ nS ≤ 40
      · have g1 : ¬ (40 : Int) < (nI : Int) := by omega
        have g2 : ¬ (40 : Int) < (nS : Int) := by omega
        have F3 := hide (F2.out big)
        clear F1 F2 big
        go_wp2
        go_loopw [4] (fun i wr' => ∃ j : Nat, i = .int .i64 j ∧ j ≤ nS ∧ wr' = wr ∧ Hid ((ss.drop j).all (fun s => decide (s.size ≤ 100)) = ss.all fun s => decide (s.size ≤ 100))) (fun i _ => nS - (intOf i).toNat)
        case atStart => exact ⟨0, rfl, by omega, rfl, hide rfl⟩
        case round =>
          obtain ⟨j, rfl, hj, rfl, HG⟩ := hrel
          by_cases hjt : j < nS
          · obtain ⟨b', off', rfl, hb', d0⟩ := HS.out.at.2 j (by rw [← HnS.out]; exact hjt)
            have q0 := HS.out.bound j (by rw [← HnS.out]; exact hjt)
            have G0 := HG.out
            rw [drop_getD ss j ⟨#[]⟩ (by rw [← HnS.out]; exact hjt), List.all_cons] at G0
            generalize ss.getD j ⟨#[]⟩ = q at *
            have G1 := hide G0
            clear G0 HG
            by_cases hq : q.size ≤ 100
            · have G2 : Hid ((ss.drop (j + 1)).all (fun s => decide (s.size ≤ 100)) = ss.all fun s => decide (s.size ≤ 100)) := hide (by rw [← G1.out, decide_eq_true hq]; rfl)
              have hq' : ¬ (100 : Int) < (q.size : Int) := by omega
              clear G1
              go_wp2
              exact ⟨⟨j + 1, by go_num, by omega, trivial, G2⟩, by simp [intOf]; omega⟩
            · have G2 : Hid (B = false) := hide (by rw [← HD0.out, F3.out, ← G1.out, decide_eq_false hq]; rfl)
              have hq' : (100 : Int) < (q.size : Int) := by omega
              clear G1
              go_wp2
              go_ret
              exact ⟨ret_bool G2.out.symm, rfl⟩
          · have hge : (nS : Int) ≤ (j : Int) := by omega
            have G2 : Hid ((l.drop (k + 1)).all fewB = B) := hide (by
              rw [← HD0.out, F3.out, ← HG.out, List.drop_eq_nil_of_le (show ss.length ≤ j by have := HnS.out; omega)]; rfl)
            go_wp2
            exact ⟨⟨k + 1, by go_num, by omega, trivial, G2⟩, by simp [intOf]; omega⟩
      · have G2 : Hid (B = false) := hide (by rw [← HD0.out, F1.out big]; rfl)
        have gg : (40 : Int) < (nI : Int) ∨ (¬ (40 : Int) < (nI : Int) ∧ (40 : Int) < (nS : Int)) := by omega
        clear big F1 F2
        rcases gg with g1 | ⟨g1, g2⟩
        all_goals
          go_wp2
          go_ret
          exact ⟨ret_bool G2.out.symm, rfl⟩
    · have hge : (N : Int) ≤ (k : Int) := by omega
      have E : Hid (B = true) := hide (by rw [← HD.out, List.drop_eq_nil_of_le (by have := HN.out; omega)]; rfl)
      go_wp2
      go_ret
      exact ⟨ret_bool E.out.symm, rfl⟩
end Go.Proofs.YtciflobdpenpaaaGreatDoor
/-
  The fifth reference's sets, Few and Fits, walked.
-/
set_option linter.unusedSimpArgs false
set_option linter.unusedVariables false
namespace Go.Proofs.YtciflobdpenpaaaGreatDoor
open Go.RowKit

def setsX : Nat → ExV → Bool
  | 0, _ => true
  | n + 1, x => fewB x.set && x.sub.all (setsX n)
def fewX (n : Nat) (x : ExV) : Bool := (decide (countX 21 x < 100) && decide (deepX 21 x < 20)) && setsX n x
theorem set_rowE {w : World} {s : SC} {A : SetV} (h : SetAt w s.val A) (n : Nat) (hn : n = w.heap.size) : SetsAt (w.alloc (.cells #[.bool s.a, .slice s.p s.n s.c, .bool s.d, .slice s.q s.m s.e] 25)) (.slice (some ⟨n, 0, none⟩) 1 1) [A] := by
  subst hn
  obtain ⟨x, y, z, t⟩ := h.scForm
  have := sets_one (vi := .slice s.p s.n s.c) (vs := .slice s.q s.m s.e) (A := A) (w := w) (by rw [← x, ← z]; exact h) _ rfl
  rw [x, z]
  exact this
theorem allX_step (n : Nat) (l : List ExV) (k : Nat) (h : k < l.length) : (l.drop k).all (setsX n) = (setsX n (l.getD k noX) && (l.drop (k + 1)).all (setsX n)) := by
  rw [drop_getX l k h, List.all_cons]

set_option maxHeartbeats 4000000 in
set_option maxRecDepth 100000 in
theorem refSets_any : ∀ (n : Nat) (x : ExV) (v : Value) (w : World), ExAt n w v x →
    Calls Tryz.prog 29 #[v] w fun r w' => r = .returned (.bool (setsX n x)) ∧ Below w.heap.size w w' := by
  intro n
  induction n with
  | zero => intro x v w h; cases h
  | succ n ih =>
    intro x v w hx
    obtain ⟨c, rfl, hc⟩ := hx.ec
    have HX := hide hx
    have IH := fun (y : ExV) (u : Value) (W : World) (h : ExAt n W u y) => hide (ih y u W h)
    have HN := hide hc.n
    have big := hc.big
    have room := hc.room
    have b0 := (Below.refl _ w).alloc (Nat.le_refl _) (Obj.cells #[.int .i64 c.k, .int .i64 c.t, .bool c.s.a, .slice c.s.p c.s.n c.s.c, .bool c.s.d, .slice c.s.q c.s.m c.s.e, .slice c.p c.n c.c] 28)
    have FW := hide (refFew_any _ _ _ (set_rowE (hc.s.on b0) (w.heap.size + 1) (by simp)))
    have b1 := b0.alloc b0.size (Obj.cells #[.bool c.s.a, .slice c.s.p c.s.n c.s.c, .bool c.s.d, .slice c.s.q c.s.m c.s.e] 25)
    have E1 := hide (((Below.refl _ _).alloc (Nat.le_refl _) (Obj.cells #[.bool c.s.a, .slice c.s.p c.s.n c.s.c, .bool c.s.d, .slice c.s.q c.s.m c.s.e] 25)).block _ (lt_heap (heap_new w (Obj.cells #[.int .i64 c.k, .int .i64 c.t, .bool c.s.a, .slice c.s.p c.s.n c.s.c, .bool c.s.d, .slice c.s.q c.s.m c.s.e, .slice c.p c.n c.c] 28)) ) |>.trans (heap_new w (Obj.cells #[.int .i64 c.k, .int .i64 c.t, .bool c.s.a, .slice c.s.p c.s.n c.s.c, .bool c.s.d, .slice c.s.q c.s.m c.s.e, .slice c.p c.n c.c] 28)))
    have B1 := hide b1
    have HC : Hid (setsX (n + 1) x = (fewB x.set && x.sub.all (setsX n))) := hide rfl
    rw [show ([x.set] : List SetV).all fewB = fewB x.set by simp] at FW
    generalize setsX (n + 1) x = R at HC ⊢
    generalize fewB x.set = q at HC FW
    clear hx hc ih b0 b1
    unfold EC.val at *
    go_enter Tryz.func29, Tryz.ntmps29
    go_wp2_with fail
    refine (unhide FW).mono ?_
    rintro r w2 ⟨rfl, rfl⟩
    cases q
    · have E : Hid (R = false) := hide (by rw [HC.out, Bool.false_and])
      clear FW
      go_wp2
      go_ret
      exact ⟨ret_bool E.out.symm, B1.out⟩
    · have HC1 := hide (HC.out.trans (Bool.true_and _))
      clear FW HC
      generalize (w.alloc (Obj.cells #[.int .i64 c.k, .int .i64 c.t, .bool c.s.a, .slice c.s.p c.s.n c.s.c, .bool c.s.d, .slice c.s.q c.s.m c.s.e, .slice c.p c.n c.c] 28)).alloc (Obj.cells #[.bool c.s.a, .slice c.s.p c.s.n c.s.c, .bool c.s.d, .slice c.s.q c.s.m c.s.e] 25) = w1 at E1 B1 ⊢
      go_wp2
      go_loopw [3] (fun i wr => ∃ k : Nat, i = .int .i64 k ∧ k ≤ c.n ∧ Hid ((x.sub.drop k).all (setsX n) = x.sub.all (setsX n)) ∧ Hid (Below w.heap.size w wr) ∧ Hid (wr.heap[w.heap.size]? = some (Obj.cells #[.int .i64 c.k, .int .i64 c.t, .bool c.s.a, .slice c.s.p c.s.n c.s.c, .bool c.s.d, .slice c.s.q c.s.m c.s.e, .slice c.p c.n c.c] 28 (0, 0)))) (fun i _ => c.n - (intOf i).toNat)
      case atStart => exact ⟨0, rfl, by omega, hide rfl, B1, E1⟩
      case round =>
        clear B1 E1
        obtain ⟨k, rfl, hk, HF, HB, HE⟩ := hrel
        obtain ⟨c0, c1, c2, c3, c4, c5, c6⟩ := ecCells HE.out
        by_cases hlt : k < c.n
        · have hk' : k < x.sub.length := by rw [← HN.out]; exact hlt
          obtain ⟨g, off, d, hp, hg, hd, hy⟩ := (ExAt.on HB.out _ HX.out).part k hk'
          have F1 := HF.out
          rw [allX_step n _ k hk'] at F1
          have HF1 := hide F1
          have X := IH _ _ _ hy
          generalize setsX n (x.sub.getD k noX) = q at *
          clear F1 HF hy IH HX
          obtain ⟨d0, d1, d2, d3, d4, d5, d6⟩ := hd
          unfold EC.val at X
          rw [hp] at c6 HE ⊢
          go_wp2_with fail
          refine (unhide X).mono ?_
          rintro r w2 ⟨rfl, b2⟩
          have HB2 := hide (HB.out.trans (b2.mono HB.out.size))
          have HE2 := hide ((b2.block _ (lt_heap HE.out)).trans HE.out)
          clear X b2 HB HE c0 c1 c2 c3 c4 c5 c6 d0 d1 d2 d3 d4 d5 d6
          cases q
          · have E : Hid (R = false) := hide (by rw [HC1.out, ← HF1.out, Bool.false_and])
            go_wp2
            go_ret
            exact ⟨ret_bool E.out.symm, HB2.out⟩
          · have HF2 := hide ((Bool.true_and _).symm.trans HF1.out)
            go_wp2
            exact ⟨⟨k + 1, by go_num, by omega, HF2, HB2, HE2⟩, by simp [intOf]; omega⟩
        · have E : Hid (R = true) := hide (by
            rw [HC1.out, ← HF.out, List.drop_eq_nil_of_le (by have := HN.out; omega)]; rfl)
          have hge : decide ((k : Int) < (c.n : Int)) = false := by simp; omega
          go_wp2
          go_ret
          exact ⟨ret_bool E.out.symm, HB.out⟩

set_option maxHeartbeats 4000000 in
set_option maxRecDepth 100000 in
theorem refFewX_any (n : Nat) (x : ExV) (v : Value) (w : World) (hx : ExAt n w v x) :
    Calls Tryz.prog 9 #[v] w fun r w' => r = .returned (.bool (fewX n x)) ∧ Below w.heap.size w w' := by
  have CC := fun (W : World) (hb : Below w.heap.size w W) => hide (refCount_any 21 n x v 0 W (by omega) (by omega) (ExAt.on hb _ hx))
  have CD := fun (W : World) (hb : Below w.heap.size w W) => hide (refDeep_any 21 n x v 0 W (by omega) (by omega) (ExAt.on hb _ hx))
  have CS := fun (W : World) (hb : Below w.heap.size w W) => hide (refSets_any n x v W (ExAt.on hb _ hx))
  have HC : Hid (fewX n x = ((decide (countX 21 x < 100) && decide (deepX 21 x < 20)) && setsX n x)) := hide rfl
  generalize fewX n x = R at HC ⊢
  generalize countX 21 x = p at HC CC
  generalize deepX 21 x = q at HC CD
  generalize setsX n x = s at HC CS
  obtain ⟨c, rfl, hc⟩ := hx.ec
  have b0 := (Below.refl _ w).alloc (Nat.le_refl _) (Obj.cells #[.int .i64 c.k, .int .i64 c.t, .bool c.s.a, .slice c.s.p c.s.n c.s.c, .bool c.s.d, .slice c.s.q c.s.m c.s.e, .slice c.p c.n c.c] 28)
  have E0 := heap_new w (Obj.cells #[.int .i64 c.k, .int .i64 c.t, .bool c.s.a, .slice c.s.p c.s.n c.s.c, .bool c.s.d, .slice c.s.q c.s.m c.s.e, .slice c.p c.n c.c] 28)
  have HB0 := hide b0
  have HE0 := hide E0
  have X := CC _ b0
  clear hx hc b0 E0
  unfold EC.val at *
  go_enter Tryz.func9, Tryz.ntmps9
  go_wp2_with fail
  refine (unhide X).mono ?_
  rintro r w1 ⟨rfl, b1⟩
  have HB1 := hide (HB0.out.trans (b1.mono HB0.out.size))
  have HE1 := hide ((b1.block _ (lt_heap HE0.out)).trans HE0.out)
  clear X b1 HB0 HE0 CC
  by_cases hp : p < 100
  · have hp' : decide (100 ≤ p) = false := by simp; omega
    obtain ⟨c0, c1, c2, c3, c4, c5, c6⟩ := ecCells HE1.out
    have Y := CD _ HB1.out
    go_wp2_with fail
    refine (unhide Y).mono ?_
    rintro r w2 ⟨rfl, b2⟩
    have HB2 := hide (HB1.out.trans (b2.mono HB1.out.size))
    have HE2 := hide ((b2.block _ (lt_heap HE1.out)).trans HE1.out)
    clear Y b2 HB1 HE1 CD c0 c1 c2 c3 c4 c5 c6
    by_cases hq : q < 20
    · have hq' : decide (20 ≤ q) = false := by simp; omega
      obtain ⟨c0, c1, c2, c3, c4, c5, c6⟩ := ecCells HE2.out
      have Z := CS _ HB2.out
      have E : Hid (R = s) := hide (by rw [HC.out, decide_eq_true hp, decide_eq_true hq]; rfl)
      go_wp2_with fail
      refine (unhide Z).mono ?_
      rintro r w3 ⟨rfl, b3⟩
      have HB3 := hide (HB2.out.trans (b3.mono HB2.out.size))
      clear Z b3
      go_wp2
      go_ret
      exact ⟨ret_bool E.out.symm, HB3.out⟩
    · have hq' : decide (20 ≤ q) = true := by simp; omega
      have E : Hid (R = false) := hide (by rw [HC.out, decide_eq_false hq, Bool.and_false, Bool.false_and])
      go_wp2
      go_ret
      exact ⟨ret_bool E.out.symm, HB2.out⟩
  · have hp' : decide (100 ≤ p) = true := by simp; omega
    have E : Hid (R = false) := hide (by rw [HC.out, decide_eq_false hp, Bool.false_and, Bool.false_and])
    go_wp2
    go_ret
    exact ⟨ret_bool E.out.symm, HB1.out⟩

set_option maxHeartbeats 4000000 in
set_option maxRecDepth 100000 in
theorem refFits_any (n : Nat) (x : ExV) (v : Value) (w : World) (hx : ExAt n w v x) :
    Calls Tryz.prog 39 #[v] w fun r w' => r = .returned (.bool (fitsX x)) ∧ Below w.heap.size w w' := by
  have CC := fun (W : World) (hb : Below w.heap.size w W) => hide (refCount_any 21 n x v 0 W (by omega) (by omega) (ExAt.on hb _ hx))
  have CD := fun (W : World) (hb : Below w.heap.size w W) => hide (refDeep_any 21 n x v 0 W (by omega) (by omega) (ExAt.on hb _ hx))
  have HC : Hid (fitsX x = (decide (countX 21 x ≤ 40) && decide (deepX 21 x ≤ 8))) := hide rfl
  generalize fitsX x = R at HC ⊢
  generalize countX 21 x = p at HC CC
  generalize deepX 21 x = q at HC CD
  obtain ⟨c, rfl, hc⟩ := hx.ec
  have b0 := (Below.refl _ w).alloc (Nat.le_refl _) (Obj.cells #[.int .i64 c.k, .int .i64 c.t, .bool c.s.a, .slice c.s.p c.s.n c.s.c, .bool c.s.d, .slice c.s.q c.s.m c.s.e, .slice c.p c.n c.c] 28)
  have E0 := heap_new w (Obj.cells #[.int .i64 c.k, .int .i64 c.t, .bool c.s.a, .slice c.s.p c.s.n c.s.c, .bool c.s.d, .slice c.s.q c.s.m c.s.e, .slice c.p c.n c.c] 28)
  have HB0 := hide b0
  have HE0 := hide E0
  have X := CC _ b0
  clear hx hc b0 E0
  unfold EC.val at *
  go_enter Tryz.func39, Tryz.ntmps39
  go_wp2_with fail
  refine (unhide X).mono ?_
  rintro r w1 ⟨rfl, b1⟩
  have HB1 := hide (HB0.out.trans (b1.mono HB0.out.size))
  have HE1 := hide ((b1.block _ (lt_heap HE0.out)).trans HE0.out)
  clear X b1 HB0 HE0 CC
  by_cases hp : p ≤ 40
  · have hp' : decide (p ≤ 40) = true := by simp; omega
    obtain ⟨c0, c1, c2, c3, c4, c5, c6⟩ := ecCells HE1.out
    have Y := CD _ HB1.out
    have E : Hid (R = decide (q ≤ 8)) := hide (by rw [HC.out, decide_eq_true hp]; rfl)
    go_wp2_with fail
    refine (unhide Y).mono ?_
    rintro r w2 ⟨rfl, b2⟩
    have HB2 := hide (HB1.out.trans (b2.mono HB1.out.size))
    clear Y b2
    go_wp2
    go_ret
    exact ⟨ret_bool E.out.symm, HB2.out⟩
  · have hp' : decide (p ≤ 40) = false := by simp; omega
    have E : Hid (R = false) := hide (by rw [HC.out, decide_eq_false hp, Bool.false_and])
    go_wp2
    go_ret
    exact ⟨ret_bool E.out.symm, HB1.out⟩
end Go.Proofs.YtciflobdpenpaaaGreatDoor
/-
  The walk of the third reference's Same.
-/
set_option linter.unusedSimpArgs false
set_option linter.unusedVariables false
namespace Go.Proofs.YtciflobdpenpaaaGreatDoor
open Go.RowKit

set_option maxHeartbeats 4000000 in
set_option maxRecDepth 100000 in
theorem refSame_any (v u : Value) (A B : SetV) (w : World) (hv : SetAt w v A) (hu : SetAt w u B) :
    Calls Tryz.prog 44 #[v, u] w fun r w' => r = .returned (.bool (sameB A B)) ∧ Below w.heap.size w w' := by
  obtain ⟨vi, vs, rfl, hI, hS⟩ := hv
  obtain ⟨ui, us, rfl, hJ, hT⟩ := hu
  obtain ⟨ai, ci, rfl⟩ := hI.form
  obtain ⟨aq, cq, rfl⟩ := hS.form
  obtain ⟨bi, di, rfl⟩ := hJ.form
  obtain ⟨bq, dq, rfl⟩ := hT.form
  obtain ⟨sa, si, sc, ss⟩ := A
  obtain ⟨ta, ti, tc, ts⟩ := B
  dsimp only at *
  have HI := hide hI
  have HS := hide hS
  have HJ := hide hJ
  have HT := hide hT
  have nIle := hI.2.1
  have nSle := hS.2.1
  have nJle := hJ.2.1
  have nTle := hT.2.1
  clear hI hS hJ hT
  unfold sameB
  dsimp only
  have lI := rngEqB_len si ti
  have lS := strEqB_len ss ts
  obtain ⟨nI, hnI⟩ : ∃ n : Nat, n = si.length := ⟨_, rfl⟩
  obtain ⟨nS, hnS⟩ : ∃ n : Nat, n = ss.length := ⟨_, rfl⟩
  obtain ⟨nJ, hnJ⟩ : ∃ n : Nat, n = ti.length := ⟨_, rfl⟩
  obtain ⟨nT, hnT⟩ : ∃ n : Nat, n = ts.length := ⟨_, rfl⟩
  rw [← hnI] at nIle lI ⊢
  rw [← hnS] at nSle lS ⊢
  rw [← hnJ] at nJle lI ⊢
  rw [← hnT] at nTle lS ⊢
  have HnI := hide hnI
  have HnS := hide hnS
  have HnJ := hide hnJ
  have HnT := hide hnT
  have LI := hide lI
  have LS := hide lS
  clear hnI hnS hnJ hnT lI lS
  have ba := fun (o1 o2 : Obj) => hide (two_boxes w o1 o2)
  have hta : ta = sa ∨ ta = !sa := by cases ta <;> cases sa <;> simp
  rcases hta with rfl | rfl
  · have htc : tc = sc ∨ tc = !sc := by cases tc <;> cases sc <;> simp
    rcases htc with rfl | rfl
    · by_cases eI : nI = nJ
      · by_cases eS : nS = nT
        · subst eI
          subst eS
          have b1 : ((nI : Int) != (nI : Int)) = false := by simp
          have b2 : ((nS : Int) != (nS : Int)) = false := by simp
          go_enter Tryz.func44, Tryz.ntmps44
          go_wp2
          obtain ⟨e1, e2, e3⟩ := (ba (.cells #[.bool ta, .slice ai nI ci, .bool tc, .slice aq nS cq] 25) (.cells #[.bool ta, .slice bi nI di, .bool tc, .slice bq nS dq] 25)).out
          have E1 := hide e1
          have E2 := hide e2
          have E3 := hide e3
          clear e1 e2 e3 ba
          go_loopw [5] (fun i wr => ∃ k : Nat, i = .int .i64 k ∧ k ≤ nI ∧ Hid (rngEqB (si.drop k) (ti.drop k) = rngEqB si ti) ∧ Hid (wr.heap[w.heap.size]? = some (.cells #[.bool ta, .slice ai nI ci, .bool tc, .slice aq nS cq] 25 (0, 0))) ∧ Hid (wr.heap[w.heap.size + 1]? = some (.cells #[.bool ta, .slice bi nI di, .bool tc, .slice bq nS dq] 25 (0, 0))) ∧ Hid (Below w.heap.size w wr)) (fun i _ => nI - (intOf i).toNat)
          case atStart => exact ⟨0, rfl, by omega, hide rfl, E1, E2, E3⟩
          case round =>
            clear E1 E2 E3
            obtain ⟨k, rfl, hk, HG, H1, H2, HB⟩ := hrel
            have c1 := cell_heap H1.out 1
            have c3 := cell_heap H1.out 3
            have d1 := cell_heap H2.out 1
            have d3 := cell_heap H2.out 3
            simp only [List.getElem?_toArray, List.getElem?_cons_zero, List.getElem?_cons_succ] at c1 c3 d1 d3
            by_cases hlt : k < nI
            · have hk1 : k < si.length := by rw [← HnI.out]; exact hlt
              have hk2 : k < ti.length := by rw [← HnJ.out]; exact hlt
              obtain ⟨b, off, rfl, hb, x0, x1⟩ := (HI.out.on HB.out).at.2 k hk1
              obtain ⟨b', off', rfl, hb', y0, y1⟩ := (HJ.out.on HB.out).at.2 k hk2
              have G0 := HG.out
              rw [drop_getD si k (0, 0) hk1, drop_getD ti k (0, 0) hk2] at G0
              generalize si.getD k (0, 0) = r at *
              generalize ti.getD k (0, 0) = q at *
              simp only [rngEqB] at G0
              have G1 := hide G0
              clear G0 HG
              cases f1 : (r.1 == q.1)
              · have G2 : Hid (rngEqB si ti = false) := hide (by rw [← G1.out, f1]; rfl)
                clear G1
                go_wp2
                go_quiet (fail)
                go_wp2
                go_ret
                exact ⟨ret_bool (by rw [G2.out]; simp), below_drewN HB.out _⟩
              · cases f2 : (r.2 == q.2)
                · have G2 : Hid (rngEqB si ti = false) := hide (by rw [← G1.out, f1, f2]; rfl)
                  clear G1
                  go_wp2
                  go_quiet (fail)
                  go_wp2
                  go_ret
                  exact ⟨ret_bool (by rw [G2.out]; simp), below_drewN HB.out _⟩
                · have G2 : Hid (rngEqB (si.drop (k + 1)) (ti.drop (k + 1)) = rngEqB si ti) := hide (by rw [← G1.out, f1, f2]; rfl)
                  clear G1
                  go_wp2
                  go_quiet (fail)
                  go_wp2
                  exact ⟨⟨k + 1, by go_num, by omega, G2, H1, H2, hide (below_drewN HB.out _)⟩, by simp [intOf]; omega⟩
            · have hge : (nI : Int) ≤ (k : Int) := by omega
              have G2 : Hid (rngEqB si ti = true) := hide (by
                rw [← HG.out, List.drop_eq_nil_of_le (by have := HnI.out; omega), List.drop_eq_nil_of_le (by have := HnJ.out; omega)]; rfl)
              clear HG
              go_wp2
              go_loopw [6] (fun i wr => ∃ k : Nat, i = .int .i64 k ∧ k ≤ nS ∧ Hid (strEqB (ss.drop k) (ts.drop k) = strEqB ss ts) ∧ Hid (wr.heap[w.heap.size]? = some (.cells #[.bool ta, .slice ai nI ci, .bool tc, .slice aq nS cq] 25 (0, 0))) ∧ Hid (wr.heap[w.heap.size + 1]? = some (.cells #[.bool ta, .slice bi nI di, .bool tc, .slice bq nS dq] 25 (0, 0))) ∧ Hid (Below w.heap.size w wr)) (fun i _ => nS - (intOf i).toNat)
              case atStart => exact ⟨0, rfl, by omega, hide rfl, H1, H2, HB⟩
              case round =>
                clear H1 H2 HB c1 c3 d1 d3 hge hlt hk
                obtain ⟨j, rfl, hj, HG, H1, H2, HB⟩ := hrel
                have c1 := cell_heap H1.out 1
                have c3 := cell_heap H1.out 3
                have d1 := cell_heap H2.out 1
                have d3 := cell_heap H2.out 3
                simp only [List.getElem?_toArray, List.getElem?_cons_zero, List.getElem?_cons_succ] at c1 c3 d1 d3
                by_cases hlt : j < nS
                · have hj1 : j < ss.length := by rw [← HnS.out]; exact hlt
                  have hj2 : j < ts.length := by rw [← HnT.out]; exact hlt
                  obtain ⟨b, off, rfl, hb, x0⟩ := (HS.out.on HB.out).at.2 j hj1
                  obtain ⟨b', off', rfl, hb', y0⟩ := (HT.out.on HB.out).at.2 j hj2
                  have G0 := HG.out
                  rw [drop_getD ss j ⟨#[]⟩ hj1, drop_getD ts j ⟨#[]⟩ hj2] at G0
                  generalize ss.getD j ⟨#[]⟩ = r at *
                  generalize ts.getD j ⟨#[]⟩ = q at *
                  simp only [strEqB] at G0
                  have G1 := hide G0
                  clear G0 HG
                  cases f1 : (r.toList == q.toList)
                  · have G3 : Hid (strEqB ss ts = false) := hide (by rw [← G1.out, f1]; rfl)
                    clear G1
                    go_wp2
                    go_quiet (fail)
                    go_wp2
                    go_ret
                    exact ⟨ret_bool (by rw [G3.out]; simp), below_drewN HB.out _⟩
                  · have G3 : Hid (strEqB (ss.drop (j + 1)) (ts.drop (j + 1)) = strEqB ss ts) := hide (by rw [← G1.out, f1]; rfl)
                    clear G1
                    go_wp2
                    go_quiet (fail)
                    go_wp2
                    exact ⟨⟨j + 1, by go_num, by omega, G3, H1, H2, hide (below_drewN HB.out _)⟩, by simp [intOf]; omega⟩
                · have hge : (nS : Int) ≤ (j : Int) := by omega
                  have G3 : Hid (strEqB ss ts = true) := hide (by
                    rw [← HG.out, List.drop_eq_nil_of_le (by have := HnS.out; omega), List.drop_eq_nil_of_le (by have := HnT.out; omega)]; rfl)
                  clear HG
                  go_wp2
                  go_ret
                  exact ⟨ret_bool (by rw [G2.out, G3.out]; simp), HB.out⟩
        · have b2 : ((nS : Int) != (nT : Int)) = true := by rw [bne_iff_ne]; omega
          have G := hide (LS.out eS)
          subst eI
          go_enter Tryz.func44, Tryz.ntmps44
          go_wp2
          go_ret
          exact ⟨ret_bool (by rw [G.out]; simp), (ba _ _).out.2.2⟩
      · have b1 : ((nI : Int) != (nJ : Int)) = true := by rw [bne_iff_ne]; omega
        have G := hide (LI.out eI)
        go_enter Tryz.func44, Tryz.ntmps44
        go_wp2
        go_ret
        exact ⟨ret_bool (by rw [G.out]; simp), (ba _ _).out.2.2⟩
    · go_enter Tryz.func44, Tryz.ntmps44
      go_wp2
      go_ret
      exact ⟨ret_bool (by cases sc <;> simp), (ba _ _).out.2.2⟩
  · go_enter Tryz.func44, Tryz.ntmps44
    go_wp2
    go_ret
    exact ⟨ret_bool (by cases sa <;> simp), (ba _ _).out.2.2⟩
end Go.Proofs.YtciflobdpenpaaaGreatDoor
/-
  The fifth reference's each and Right, walked; the third one's Small.
-/
set_option linter.unusedSimpArgs false
set_option linter.unusedVariables false
namespace Go.Proofs.YtciflobdpenpaaaGreatDoor
open Go.RowKit

set_option maxHeartbeats 4000000 in
set_option maxRecDepth 100000 in
theorem refSmall_any (v : Value) (S : SetV) (w : World) (hv : SetAt w v S) :
    Calls Tryz.prog 68 #[v] w fun r w' => r = .returned (.bool (smallB S)) ∧ Below w.heap.size w w' := by
  obtain ⟨vi, vs, rfl, hI, hS⟩ := hv
  obtain ⟨ai, ci, rfl⟩ := hI.form
  obtain ⟨aq, cq, rfl⟩ := hS.form
  have B0 := fun (o : Obj) => hide ((Below.refl _ w).alloc (Nat.le_refl _) o)
  have n1 := hI.2.1
  have n2 := hS.2.1
  unfold smallB
  clear hI hS
  generalize S.ints.length = a at *
  generalize S.strs.length = b at *
  by_cases h1 : a ≤ 6
  · have e1 : decide ((a : Int) ≤ 6) = true := decide_eq_true (by omega)
    have e1' : decide (a ≤ 6) = true := decide_eq_true h1
    go_enter Tryz.func68, Tryz.ntmps68
    go_wp2
    go_ret
    exact ⟨ret_bool (by rw [e1', Bool.true_and]; exact decide_eq_decide.2 (by omega)), (B0 _).out⟩
  · have e1 : decide ((a : Int) ≤ 6) = false := decide_eq_false (by omega)
    have e1' : decide (a ≤ 6) = false := decide_eq_false h1
    go_enter Tryz.func68, Tryz.ntmps68
    go_wp2
    go_ret
    exact ⟨ret_bool (by rw [e1', Bool.false_and]), (B0 _).out⟩

theorem eachL_step (n : Nat) (l : List ExV) (k : Nat) (h : k < l.length) : (l.drop k).all (eachX n) = (eachX n (l.getD k noX) && (l.drop (k + 1)).all (eachX n)) := by
  rw [drop_getX l k h, List.all_cons]

structure XAt1 (w W : World) (c : EC) : Prop where
  x : W.heap[w.heap.size]? = some (Obj.cells #[.int .i64 c.k, .int .i64 c.t, .bool c.s.a, .slice c.s.p c.s.n c.s.c, .bool c.s.d, .slice c.s.q c.s.m c.s.e, .slice c.p c.n c.c] 28 (0, 0))
  b : Below w.heap.size w W
theorem XAt1.new (w : World) (c : EC) : XAt1 w (w.alloc (Obj.cells #[.int .i64 c.k, .int .i64 c.t, .bool c.s.a, .slice c.s.p c.s.n c.s.c, .bool c.s.d, .slice c.s.q c.s.m c.s.e, .slice c.p c.n c.c] 28)) c := ⟨heap_new w _, (Below.refl _ w).alloc (Nat.le_refl _) _⟩
theorem XAt1.on {w W W' : World} {c : EC} (h : XAt1 w W c) (hb : Below W.heap.size W W') : XAt1 w W' c := ⟨(hb.block _ (lt_heap h.x)).trans h.x, h.b.trans (hb.mono h.b.size)⟩
theorem nodeX_1 {x : ExV} (hk : x.kind = 1) : nodeX x = (decide (0 ≤ x.attr ∧ x.attr ≤ 3 ∧ x.sub.length = 0) && (rightSet x.set && smallB x.set)) := by unfold nodeX; rw [if_pos hk]
theorem nodeX_2 {x : ExV} (hk : x.kind = 2 ∨ x.kind = 3 ∨ x.kind = 4) : nodeX x = ((decide (x.attr = 0) && sameB x.set noSet) && decide (x.kind = 4 → x.sub.length = 1)) := by unfold nodeX; rw [if_neg (by omega), if_pos hk]
theorem nodeX_3 {x : ExV} (h1 : ¬ x.kind = 1) (hk : ¬ (x.kind = 2 ∨ x.kind = 3 ∨ x.kind = 4)) : nodeX x = false := by unfold nodeX; rw [if_neg h1, if_neg hk]

set_option maxHeartbeats 8000000 in
set_option maxRecDepth 100000 in
theorem refEach_atom (n : Nat) (x : ExV) (c : EC) (w : World) (hx : ExAt (n + 1) w c.val x) (hk : x.kind = 1) :
    Calls Tryz.prog 40 #[c.val] w fun r w' => r = .returned (.bool (eachX (n + 1) x)) ∧ Below w.heap.size w w' := by
  obtain ⟨c', hv, hc, _⟩ := id hx
  obtain rfl := ec_inj hv
  have ek : (c.k == 1) = true := by rw [hc.k, hk]; rfl
  have HC : Hid (eachX (n + 1) x = ((decide (0 ≤ x.attr ∧ x.attr ≤ 3 ∧ x.sub.length = 0) && (rightSet x.set && smallB x.set)) && x.sub.all (eachX n))) := hide (by rw [← nodeX_1 hk]; rfl)
  rw [← hc.t, ← hc.n] at HC
  have HN := hide hc.n
  have HT := hide (XAt1.new w c)
  have RS := fun (W : World) (hb : Below w.heap.size w W) => hide (refRightSet_any _ _ W (hc.s.on hb))
  have RM := fun (W : World) (hb : Below w.heap.size w W) => hide (refSmall_any _ _ W (hc.s.on hb))
  have big := hc.big
  have room := hc.room
  generalize eachX (n + 1) x = R at HC ⊢
  clear hx hv hc hk
  unfold SC.val at RS RM
  unfold EC.val
  by_cases a0 : c.t < 0
  · have d0 : decide (c.t < 0) = true := decide_eq_true a0
    have E : Hid (R = false) := hide (by rw [HC.out, decide_eq_false (by omega)]; rfl)
    clear HC RS RM
    go_enter Tryz.func40, Tryz.ntmps40
    go_wp2
    go_ret
    exact ⟨ret_bool E.out.symm, HT.out.b⟩
  · have d0 : decide (c.t < 0) = false := decide_eq_false a0
    by_cases a3 : 3 < c.t
    · have d3 : decide (3 < c.t) = true := decide_eq_true a3
      have E : Hid (R = false) := hide (by rw [HC.out, decide_eq_false (by omega)]; rfl)
      clear HC RS RM
      go_enter Tryz.func40, Tryz.ntmps40
      go_wp2
      go_ret
      exact ⟨ret_bool E.out.symm, HT.out.b⟩
    · have d3 : decide (3 < c.t) = false := decide_eq_false a3
      by_cases hl : c.n = 0
      · have dl : decide ((0 : Int) < (c.n : Int)) = false := decide_eq_false (by omega)
        have E0 : Hid (R = (rightSet x.set && smallB x.set)) := hide (by
          have : x.sub = [] := List.length_eq_zero_iff.1 (by rw [← HN.out]; exact hl)
          rw [HC.out, decide_eq_true ⟨by omega, by omega, hl⟩, this]
          simp)
        rw [hl] at HT ⊢
        have C6 : Hid (∀ W : World, W.cell? ⟨w.heap.size, 6, none⟩ = some (.slice c.p c.n c.c) → W.cell? ⟨w.heap.size, 6, none⟩ = some (.slice c.p 0 c.c)) := hide (fun W h => by rw [h, hl])
        clear HC hl dl
        generalize rightSet x.set = q1 at RS E0
        generalize smallB x.set = q2 at RM E0
        go_enter Tryz.func40, Tryz.ntmps40
        go_wp2_with fail
        refine (unhide (RS _ HT.out.b)).mono ?_
        rintro r w1 ⟨rfl, b1⟩
        have HT1 := hide (HT.out.on b1)
        obtain ⟨c0, c1, c2, c3, c4, c5, c6⟩ := ecCells HT1.out.x
        replace c6 := C6.out _ c6
        clear RS b1 HT
        cases q1
        · have E : Hid (R = false) := hide E0.out
          clear E0 RM C6
          go_wp2
          go_ret
          exact ⟨ret_bool E.out.symm, HT1.out.b⟩
        · have E1 : Hid (R = q2) := hide E0.out
          clear E0
          go_wp2_with fail
          refine (unhide (RM _ HT1.out.b)).mono ?_
          rintro r w2 ⟨rfl, b2⟩
          have HT2 := hide (HT1.out.on b2)
          clear RM b2 HT1 c0 c1 c2 c3 c4 c5 c6
          obtain ⟨c0, c1, c2, c3, c4, c5, c6⟩ := ecCells HT2.out.x
          replace c6 := C6.out _ c6
          cases q2
          · go_wp2
            go_ret
            exact ⟨ret_bool E1.out.symm, HT2.out.b⟩
          · go_wp2
            go_loopw [3] (fun i wr => i = .int .i64 0 ∧ wr = w2) (fun i _ => 0)
            case atStart => exact ⟨rfl, rfl⟩
            case round =>
              obtain ⟨rfl, rfl⟩ := hrel
              go_wp2
              go_ret
              exact ⟨ret_bool E1.out.symm, HT2.out.b⟩
      · have dl : decide ((0 : Int) < (c.n : Int)) = true := decide_eq_true (by omega)
        have E : Hid (R = false) := hide (by rw [HC.out, decide_eq_false (by omega)]; rfl)
        clear HC RS RM
        go_enter Tryz.func40, Tryz.ntmps40
        go_wp2
        go_ret
        exact ⟨ret_bool E.out.symm, HT.out.b⟩
set_option maxHeartbeats 8000000 in
set_option maxRecDepth 100000 in
theorem refEach_none (n : Nat) (x : ExV) (c : EC) (w : World) (hx : ExAt (n + 1) w c.val x) (h1 : ¬ x.kind = 1) (hk : ¬ (x.kind = 2 ∨ x.kind = 3 ∨ x.kind = 4)) :
    Calls Tryz.prog 40 #[c.val] w fun r w' => r = .returned (.bool (eachX (n + 1) x)) ∧ Below w.heap.size w w' := by
  obtain ⟨c', hv, hc, _⟩ := id hx
  obtain rfl := ec_inj hv
  have e1 : (c.k == 1) = false := by rw [hc.k]; simpa using h1
  have e2 : (c.k == 2) = false := by rw [hc.k]; simp; omega
  have e3 : (c.k == 3) = false := by rw [hc.k]; simp; omega
  have e4 : (c.k == 4) = false := by rw [hc.k]; simp; omega
  have E : Hid (eachX (n + 1) x = false) := hide (by show (nodeX x && _) = false; rw [nodeX_3 h1 hk]; rfl)
  have HT := hide (XAt1.new w c)
  generalize eachX (n + 1) x = R at E ⊢
  clear hx hv hc h1 hk
  unfold EC.val
  go_enter Tryz.func40, Tryz.ntmps40
  go_wp2
  go_ret
  exact ⟨ret_bool E.out.symm, HT.out.b⟩
set_option maxHeartbeats 8000000 in
set_option maxRecDepth 100000 in
theorem refEach_many (n : Nat) (x : ExV) (c : EC) (w : World) (hx : ExAt (n + 1) w c.val x) (hk : x.kind = 2 ∨ x.kind = 3 ∨ x.kind = 4)
    (IH : ∀ (y : ExV) (d : EC) (W : World), ExAt n W d.val y → Calls Tryz.prog 40 #[d.val] W fun r W' => r = .returned (.bool (eachX n y)) ∧ Below W.heap.size W W') :
    Calls Tryz.prog 40 #[c.val] w fun r w' => r = .returned (.bool (eachX (n + 1) x)) ∧ Below w.heap.size w w' := by
  obtain ⟨c', hv, hc, _⟩ := id hx
  obtain rfl := ec_inj hv
  have HC : Hid (eachX (n + 1) x = (((decide (x.attr = 0) && sameB x.set noSet) && decide (x.kind = 4 → x.sub.length = 1)) && x.sub.all (eachX n))) := hide (by rw [← nodeX_2 hk]; rfl)
  rw [← hc.t, ← hc.n, ← hc.k] at HC
  rw [← hc.k] at hk
  have HX := hide hx
  have HI := hide IH
  have HN := hide hc.n
  have HT := hide (XAt1.new w c)
  have RS := fun (W : World) (hb : Below w.heap.size w W) => hide (refSame_any _ _ _ _ W (hc.s.on hb) (noSet_at W))
  have big := hc.big
  have room := hc.room
  generalize eachX (n + 1) x = R at HC ⊢
  have e1 : (c.k == 1) = false := by simp; omega
  have hks : ((c.k == 2) = true ∧ (c.k == 4) = false) ∨ ((c.k == 2) = false ∧ (c.k == 3) = true ∧ (c.k == 4) = false) ∨ ((c.k == 2) = false ∧ (c.k == 3) = false ∧ (c.k == 4) = true) := by
    rcases hk with h | h | h
    · left; simp [h]
    · right; left; simp [h]
    · right; right; simp [h]
  clear hx hv hc IH
  unfold SC.val at RS
  unfold EC.val
  by_cases a0 : c.t = 0
  · have d0 : (c.t != 0) = false := by simp [a0]
    generalize sameB x.set noSet = q at RS HC
    cases q
    · have E : Hid (R = false) := hide (by rw [HC.out, Bool.and_false, Bool.false_and, Bool.false_and])
      clear HC a0 hk HX HI
      rcases hks with ⟨e2, e4⟩ | ⟨e2, e3, e4⟩ | ⟨e2, e3, e4⟩
      all_goals
        go_enter Tryz.func40, Tryz.ntmps40
        go_wp2_with fail
        refine (unhide (RS _ HT.out.b)).mono ?_
        rintro r w1 ⟨rfl, b1⟩
        have HT1 := hide (HT.out.on b1)
        clear RS b1 HT
        go_wp2
        go_ret
        exact ⟨ret_bool E.out.symm, HT1.out.b⟩
    · by_cases hq : c.k = 4 → c.n = 1
      · have E1 : Hid (R = x.sub.all (eachX n)) := hide (by rw [HC.out, decide_eq_true hq, decide_eq_true a0]; rfl)
        have dn : (c.k == 4) = true → ((c.n : Int) != 1) = false := fun h => by
          have := hq (by simpa using h)
          simp [this]
        have DN := hide dn
        clear HC a0 hk hq dn
        rcases hks with ⟨e2, e4⟩ | ⟨e2, e3, e4⟩ | ⟨e2, e3, e4⟩
        all_goals
          go_enter Tryz.func40, Tryz.ntmps40
          go_wp2_with fail
          refine (unhide (RS _ HT.out.b)).mono ?_
          rintro r w1 ⟨rfl, b1⟩
          have HT1 := hide (HT.out.on b1)
          obtain ⟨c0, c1, c2, c3, c4, c5, c6⟩ := ecCells HT1.out.x
          clear RS b1 HT
          first
            | (have dn := DN.out e4; clear DN)
            | clear DN
          go_wp2
          go_loopw [3] (fun i wr => ∃ k : Nat, i = .int .i64 k ∧ k ≤ c.n ∧ Hid ((x.sub.drop k).all (eachX n) = x.sub.all (eachX n)) ∧ Hid (XAt1 w wr c)) (fun i _ => c.n - (intOf i).toNat)
          case atStart => exact ⟨0, rfl, by omega, hide rfl, HT1⟩
          case round =>
            clear c0 c1 c2 c3 c4 c5 c6 HT1
            obtain ⟨k, rfl, hk, HF, HT⟩ := hrel
            obtain ⟨c0, c1, c2, c3, c4, c5, c6⟩ := ecCells HT.out.x
            by_cases hlt : k < c.n
            · have hk' : k < x.sub.length := by rw [← HN.out]; exact hlt
              obtain ⟨g, off, d, hp, hg, hd, hy⟩ := (ExAt.on HT.out.b _ HX.out).part k hk'
              have F1 := HF.out
              rw [eachL_step n _ _ hk'] at F1
              have HF1 := hide F1
              have X := hide (HI.out _ _ _ hy)
              generalize eachX n (x.sub.getD k noX) = q at *
              clear F1 HF hy HI HX
              obtain ⟨d0, d1, d2, d3, d4, d5, d6⟩ := hd
              unfold EC.val at X
              rw [hp] at c6
              clear hp
              go_wp2_with fail
              refine (unhide X).mono ?_
              rintro r w2 ⟨rfl, b2⟩
              have HT2 := hide (HT.out.on b2)
              clear X b2 HT c0 c1 c2 c3 c4 c5 c6 d0 d1 d2 d3 d4 d5 d6
              cases q
              · have E : Hid (R = false) := hide (by rw [E1.out, ← HF1.out, Bool.false_and])
                go_wp2
                go_ret
                exact ⟨ret_bool E.out.symm, HT2.out.b⟩
              · have HF2 := hide ((Bool.true_and _).symm.trans HF1.out)
                go_wp2
                exact ⟨⟨k + 1, by go_num, by omega, HF2, HT2⟩, by simp [intOf]; omega⟩
            · have E : Hid (R = true) := hide (by
                rw [E1.out, ← HF.out, List.drop_eq_nil_of_le (by have := HN.out; omega)]; rfl)
              have hge : decide ((k : Int) < (c.n : Int)) = false := by simp; omega
              clear HX HI
              go_wp2
              go_ret
              exact ⟨ret_bool E.out.symm, HT.out.b⟩
      · have hq' : c.k = 4 ∧ ¬ c.n = 1 := by
          rcases Decidable.em (c.k = 4) with h | h
          · exact ⟨h, fun h1 => hq fun _ => h1⟩
          · exact absurd (fun h1 => absurd h1 h) hq
        have E : Hid (R = false) := hide (by rw [HC.out, decide_eq_false hq, Bool.and_false, Bool.false_and])
        have dn : ((c.n : Int) != 1) = true := by simp; omega
        have e2 : (c.k == 2) = false := by simp; omega
        have e3 : (c.k == 3) = false := by simp; omega
        have e4 : (c.k == 4) = true := by simp; omega
        clear HC a0 hk hq hq' hks HX HI
        go_enter Tryz.func40, Tryz.ntmps40
        go_wp2_with fail
        refine (unhide (RS _ HT.out.b)).mono ?_
        rintro r w1 ⟨rfl, b1⟩
        have HT1 := hide (HT.out.on b1)
        obtain ⟨c0, c1, c2, c3, c4, c5, c6⟩ := ecCells HT1.out.x
        clear RS b1 HT
        go_wp2
        go_ret
        exact ⟨ret_bool E.out.symm, HT1.out.b⟩
  · have d0 : (c.t != 0) = true := by simp [a0]
    have E : Hid (R = false) := hide (by rw [HC.out, decide_eq_false a0, Bool.false_and, Bool.false_and, Bool.false_and])
    clear HC a0 hk HX HI RS
    rcases hks with ⟨e2, e4⟩ | ⟨e2, e3, e4⟩ | ⟨e2, e3, e4⟩
    all_goals
      go_enter Tryz.func40, Tryz.ntmps40
      go_wp2
      go_ret
      exact ⟨ret_bool E.out.symm, HT.out.b⟩
theorem refEach_any : ∀ (n : Nat) (x : ExV) (c : EC) (w : World), ExAt n w c.val x →
    Calls Tryz.prog 40 #[c.val] w fun r w' => r = .returned (.bool (eachX n x)) ∧ Below w.heap.size w w' := by
  intro n
  induction n with
  | zero => intro x c w h; cases h
  | succ n ih =>
    intro x c w hx
    by_cases k1 : x.kind = 1
    · exact refEach_atom n x c w hx k1
    · by_cases k2 : x.kind = 2 ∨ x.kind = 3 ∨ x.kind = 4
      · exact refEach_many n x c w hx k2 ih
      · exact refEach_none n x c w hx k1 k2

set_option maxHeartbeats 8000000 in
set_option maxRecDepth 100000 in
theorem refRightX_any (n : Nat) (x : ExV) (c : EC) (w : World) (hx : ExAt n w c.val x) :
    Calls Tryz.prog 14 #[c.val] w fun r w' => r = .returned (.bool (rightX x)) ∧ Below w.heap.size w w' := by
  have HT := hide (XAt1.new w c)
  have X := hide (refFits_any n x c.val _ (ExAt.on HT.out.b _ hx))
  have Y := fun (W : World) (hb : Below w.heap.size w W) => hide (refEach_any n x c W (ExAt.on hb _ hx))
  have EQ : Hid (rightX x = (fitsX x && eachX n x)) := hide (by
    unfold rightX
    cases hf : fitsX x
    · rfl
    · rw [eachX_any (ExAt.low n hx) (fits_low hf)])
  generalize rightX x = R at EQ ⊢
  generalize eachX n x = q at EQ Y
  generalize fitsX x = p at EQ X
  clear hx
  unfold EC.val at *
  cases p
  · have E : Hid (R = false) := hide EQ.out
    go_enter Tryz.func14, Tryz.ntmps14
    go_wp2_with fail
    refine (unhide X).mono ?_
    rintro r w1 ⟨rfl, b1⟩
    have HT1 := hide (HT.out.on b1)
    clear X Y b1 HT
    go_wp2
    go_ret
    exact ⟨ret_bool E.out.symm, HT1.out.b⟩
  · have E : Hid (R = q) := hide EQ.out
    go_enter Tryz.func14, Tryz.ntmps14
    go_wp2_with fail
    refine (unhide X).mono ?_
    rintro r w1 ⟨rfl, b1⟩
    have HT1 := hide (HT.out.on b1)
    obtain ⟨c0, c1, c2, c3, c4, c5, c6⟩ := ecCells HT1.out.x
    clear X b1 HT
    go_wp2_with fail
    refine (unhide (Y _ HT1.out.b)).mono ?_
    rintro r w2 ⟨rfl, b2⟩
    have HT2 := hide (HT1.out.on b2)
    clear Y b2 HT1 c0 c1 c2 c3 c4 c5 c6
    go_wp2
    go_ret
    exact ⟨ret_bool E.out.symm, HT2.out.b⟩
end Go.Proofs.YtciflobdpenpaaaGreatDoor
/-
  The fifth reference's Is and Eval, walked.
-/
set_option linter.unusedSimpArgs false
set_option linter.unusedVariables false
namespace Go.Proofs.YtciflobdpenpaaaGreatDoor
open Go.RowKit

set_option maxHeartbeats 8000000 in
set_option maxRecDepth 100000 in
theorem refIs_atom (n : Nat) (x : ExV) (c : EC) (e : EvV) (w : World) (hx : ExAt (n + 1) w c.val x) (hn : nodeX x = true) (hk : x.kind = 1) (hf : evFit e) :
    Calls Tryz.prog 55 #[c.val, evVal e] w fun r w' => r = .returned (.bool (isX (n + 1) x e)) ∧ Below w.heap.size w w' := by
  obtain ⟨c', hv, hc, _⟩ := id hx
  obtain rfl := ec_inj hv
  obtain ⟨a0, a3, fs⟩ := node_atom hn hk hc
  have ec : (c.k == 1) = true := by rw [hc.k, hk]; rfl
  have R := fun (i : Nat) (hi : i < 4) (W : World) (hb : Below w.heap.size w W) => hide (refHas_any _ x.set (e.get i).1 (e.get i).2.1 (e.get i).2.2 W (hc.s.on hb) (evFit_get hf i hi))
  have EQ : Hid (isX (n + 1) x e = hasP x.set (e.get x.attr.toNat)) := hide (by rw [isX_step, if_pos hk])
  have HT := hide (XeAt.new w c e)
  have HTT := hide hc.t
  have b0 : 0 ≤ c.t := by rw [hc.t]; exact a0
  have b3 : c.t ≤ 3 := by rw [hc.t]; exact a3
  clear hx hv hc hn hk hf fs a0 a3
  unfold exObj evObj at HT
  unfold SC.val at R
  unfold EC.val evVal
  go_enter Tryz.func55, Tryz.ntmps55
  go_wp2
  generalize (w.alloc (Obj.cells #[.int .i64 c.k, .int .i64 c.t, .bool c.s.a, .slice c.s.p c.s.n c.s.c, .bool c.s.d, .slice c.s.q c.s.m c.s.e, .slice c.p c.n c.c] 28)).alloc (Obj.cells #[.int .i64 e.v0.1, .int .i64 e.v0.2.1, .string e.v0.2.2, .int .i64 e.v1.1, .int .i64 e.v1.2.1, .string e.v1.2.2, .int .i64 e.v2.1, .int .i64 e.v2.2.1, .string e.v2.2.2, .int .i64 e.v3.1, .int .i64 e.v3.2.1, .string e.v3.2.2] 46) = wr at HT ⊢
  obtain ⟨c0, c1, c2, c3, c4, c5, c6⟩ := ecCells1 HT.out.x
  obtain ⟨d0, d1, d2, d3, d4, d5, d6, d7, d8, d9, d10, d11⟩ := evCells HT.out.e
  have hcase : c.t = 0 ∨ c.t = 1 ∨ c.t = 2 ∨ c.t = 3 := by omega
  rcases hcase with h | h | h | h
  · have X := fun (d : Nat) (os : Array Obj) => hide (Calls.regrown_of (R 0 (by omega) (Sort.grow (redrawn wr d) os) (HT.out.b.trans ((below_regrown wr d os).mono HT.out.b.size))).out)
    rw [h] at c1
    have q1 := cell_regrown c1
    have q2 := cell_regrown c2
    have q3 := cell_regrown c3
    have q4 := cell_regrown c4
    have q5 := cell_regrown c5
    have p0 := cell_regrown d0
    have p1 := cell_regrown d1
    have p2 := cell_regrown d2
    have EQ2 : Hid (isX (n + 1) x e = hasP x.set (e.get 0)) := hide (by rw [EQ.out, ← HTT.out, h]; rfl)
    clear R c0 c1 c2 c3 c4 c5 c6 d0 d1 d2 d3 d4 d5 d6 d7 d8 d9 d10 d11 EQ HTT
    refine wp_region_quiet_below mixed (by kernel_rfl) ?_
    repeat (first | go_big_quiet_step (exact unhide (X _ _)) | quiet_step (exact unhide (X _ _)))
    refine wpQuiet_nil ?_
    intro _ hw'
    obtain ⟨⟨dq, osq⟩, hw''⟩ := hw'
    subst hw''
    have HT2 := hide (HT.out.on (below_regrown wr dq osq))
    clear X p0 p1 p2 q1 q2 q3 q4 q5
    dsimp only
    generalize Sort.grow (redrawn wr dq) osq = w2 at HT2 ⊢
    go_wp2
    go_ret
    exact ⟨ret_bool EQ2.out.symm, HT2.out.b⟩
  · have X := fun (d : Nat) (os : Array Obj) => hide (Calls.regrown_of (R 1 (by omega) (Sort.grow (redrawn wr d) os) (HT.out.b.trans ((below_regrown wr d os).mono HT.out.b.size))).out)
    rw [h] at c1
    have q1 := cell_regrown c1
    have q2 := cell_regrown c2
    have q3 := cell_regrown c3
    have q4 := cell_regrown c4
    have q5 := cell_regrown c5
    have p0 := cell_regrown d3
    have p1 := cell_regrown d4
    have p2 := cell_regrown d5
    have EQ2 : Hid (isX (n + 1) x e = hasP x.set (e.get 1)) := hide (by rw [EQ.out, ← HTT.out, h]; rfl)
    clear R c0 c1 c2 c3 c4 c5 c6 d0 d1 d2 d3 d4 d5 d6 d7 d8 d9 d10 d11 EQ HTT
    refine wp_region_quiet_below mixed (by kernel_rfl) ?_
    repeat (first | go_big_quiet_step (exact unhide (X _ _)) | quiet_step (exact unhide (X _ _)))
    refine wpQuiet_nil ?_
    intro _ hw'
    obtain ⟨⟨dq, osq⟩, hw''⟩ := hw'
    subst hw''
    have HT2 := hide (HT.out.on (below_regrown wr dq osq))
    clear X p0 p1 p2 q1 q2 q3 q4 q5
    dsimp only
    generalize Sort.grow (redrawn wr dq) osq = w2 at HT2 ⊢
    go_wp2
    go_ret
    exact ⟨ret_bool EQ2.out.symm, HT2.out.b⟩
  · have X := fun (d : Nat) (os : Array Obj) => hide (Calls.regrown_of (R 2 (by omega) (Sort.grow (redrawn wr d) os) (HT.out.b.trans ((below_regrown wr d os).mono HT.out.b.size))).out)
    rw [h] at c1
    have q1 := cell_regrown c1
    have q2 := cell_regrown c2
    have q3 := cell_regrown c3
    have q4 := cell_regrown c4
    have q5 := cell_regrown c5
    have p0 := cell_regrown d6
    have p1 := cell_regrown d7
    have p2 := cell_regrown d8
    have EQ2 : Hid (isX (n + 1) x e = hasP x.set (e.get 2)) := hide (by rw [EQ.out, ← HTT.out, h]; rfl)
    clear R c0 c1 c2 c3 c4 c5 c6 d0 d1 d2 d3 d4 d5 d6 d7 d8 d9 d10 d11 EQ HTT
    refine wp_region_quiet_below mixed (by kernel_rfl) ?_
    repeat (first | go_big_quiet_step (exact unhide (X _ _)) | quiet_step (exact unhide (X _ _)))
    refine wpQuiet_nil ?_
    intro _ hw'
    obtain ⟨⟨dq, osq⟩, hw''⟩ := hw'
    subst hw''
    have HT2 := hide (HT.out.on (below_regrown wr dq osq))
    clear X p0 p1 p2 q1 q2 q3 q4 q5
    dsimp only
    generalize Sort.grow (redrawn wr dq) osq = w2 at HT2 ⊢
    go_wp2
    go_ret
    exact ⟨ret_bool EQ2.out.symm, HT2.out.b⟩
  · have X := fun (d : Nat) (os : Array Obj) => hide (Calls.regrown_of (R 3 (by omega) (Sort.grow (redrawn wr d) os) (HT.out.b.trans ((below_regrown wr d os).mono HT.out.b.size))).out)
    rw [h] at c1
    have q1 := cell_regrown c1
    have q2 := cell_regrown c2
    have q3 := cell_regrown c3
    have q4 := cell_regrown c4
    have q5 := cell_regrown c5
    have p0 := cell_regrown d9
    have p1 := cell_regrown d10
    have p2 := cell_regrown d11
    have EQ2 : Hid (isX (n + 1) x e = hasP x.set (e.get 3)) := hide (by rw [EQ.out, ← HTT.out, h]; rfl)
    clear R c0 c1 c2 c3 c4 c5 c6 d0 d1 d2 d3 d4 d5 d6 d7 d8 d9 d10 d11 EQ HTT
    refine wp_region_quiet_below mixed (by kernel_rfl) ?_
    repeat (first | go_big_quiet_step (exact unhide (X _ _)) | quiet_step (exact unhide (X _ _)))
    refine wpQuiet_nil ?_
    intro _ hw'
    obtain ⟨⟨dq, osq⟩, hw''⟩ := hw'
    subst hw''
    have HT2 := hide (HT.out.on (below_regrown wr dq osq))
    clear X p0 p1 p2 q1 q2 q3 q4 q5
    dsimp only
    generalize Sort.grow (redrawn wr dq) osq = w2 at HT2 ⊢
    go_wp2
    go_ret
    exact ⟨ret_bool EQ2.out.symm, HT2.out.b⟩
theorem allIs_step (n : Nat) (e : EvV) (l : List ExV) (k : Nat) (h : k < l.length) : ((l.drop k).all fun y => isX n y e) = (isX n (l.getD k noX) e && (l.drop (k + 1)).all fun y => isX n y e) := by
  rw [drop_getX l k h, List.all_cons]
set_option maxHeartbeats 8000000 in
set_option maxRecDepth 100000 in
theorem refIs_and (n : Nat) (x : ExV) (c : EC) (e : EvV) (w : World) (hx : ExAt (n + 1) w c.val x) (hk : x.kind = 2)
    (IH : ∀ y ∈ x.sub, ∀ (d : EC) (W : World), ExAt n W d.val y → Calls Tryz.prog 55 #[d.val, evVal e] W fun r W' => r = .returned (.bool (isX n y e)) ∧ Below W.heap.size W W') :
    Calls Tryz.prog 55 #[c.val, evVal e] w fun r w' => r = .returned (.bool (isX (n + 1) x e)) ∧ Below w.heap.size w w' := by
  obtain ⟨c', hv, hc, _⟩ := id hx
  obtain rfl := ec_inj hv
  have e1 : (c.k == 1) = false := by rw [hc.k, hk]; rfl
  have e2 : (c.k == 2) = true := by rw [hc.k, hk]; rfl
  have e3 : (c.k == 3) = false := by rw [hc.k, hk]; rfl
  have HT := hide (XeAt.new w c e)
  have EQ : Hid (isX (n + 1) x e = x.sub.all fun y => isX n y e) := hide (by rw [isX_step, if_neg (by omega), if_pos hk])
  have HX := hide hx
  have HI := hide IH
  have HN := hide hc.n
  have big := hc.big
  have room := hc.room
  generalize isX (n + 1) x e = R at EQ ⊢
  clear hx hv hc hk IH
  unfold exObj evObj at HT
  unfold EC.val evVal
  go_enter Tryz.func55, Tryz.ntmps55
  go_wp2
  generalize (w.alloc (Obj.cells #[.int .i64 c.k, .int .i64 c.t, .bool c.s.a, .slice c.s.p c.s.n c.s.c, .bool c.s.d, .slice c.s.q c.s.m c.s.e, .slice c.p c.n c.c] 28)).alloc (Obj.cells #[.int .i64 e.v0.1, .int .i64 e.v0.2.1, .string e.v0.2.2, .int .i64 e.v1.1, .int .i64 e.v1.2.1, .string e.v1.2.2, .int .i64 e.v2.1, .int .i64 e.v2.2.1, .string e.v2.2.2, .int .i64 e.v3.1, .int .i64 e.v3.2.1, .string e.v3.2.2] 46) = w0 at HT ⊢
  go_loopw [5] (fun i wr => ∃ k : Nat, i = .int .i64 k ∧ k ≤ c.n ∧ Hid (((x.sub.drop k).all fun y => isX n y e) = x.sub.all fun y => isX n y e) ∧ Hid (XeAt w wr c e)) (fun i _ => c.n - (intOf i).toNat)
  case atStart => exact ⟨0, rfl, by omega, hide rfl, HT⟩
  case round =>
    clear HT
    obtain ⟨k, rfl, hk, HF, HT⟩ := hrel
    obtain ⟨c0, c1, c2, c3, c4, c5, c6⟩ := ecCells1 HT.out.x
    by_cases hlt : k < c.n
    · have hk' : k < x.sub.length := by rw [← HN.out]; exact hlt
      obtain ⟨g, off, d, hp, hg, hd, hy⟩ := HX.out.part k hk'
      have F1 := HF.out
      rw [allIs_step n e _ _ hk'] at F1
      have HF1 := hide F1
      have X := fun (dd : Nat) (os : Array Obj) => hide (Calls.regrown_of (HI.out _ (getD_mem hk') d (Sort.grow (redrawn wr dd) os) (ExAt.on (HT.out.b.trans ((below_regrown wr dd os).mono HT.out.b.size)) _ hy)))
      generalize isX n (x.sub.getD k noX) e = q at *
      obtain ⟨f0, f1, f2, f3, f4, f5, f6⟩ := hd.on hg HT.out.b
      obtain ⟨d0, d1, d2, d3, d4, d5, d6, d7, d8, d9, d10, d11⟩ := evCells HT.out.e
      clear F1 HF hy HI HX hd
      unfold EC.val evVal at X
      have q6 := c6
      rw [hp] at q6
      replace q6 := cell_regrown q6
      have r0 := cell_regrown d0
      have r1 := cell_regrown d1
      have r2 := cell_regrown d2
      have r3 := cell_regrown d3
      have r4 := cell_regrown d4
      have r5 := cell_regrown d5
      have r6 := cell_regrown d6
      have r7 := cell_regrown d7
      have r8 := cell_regrown d8
      have r9 := cell_regrown d9
      have r10 := cell_regrown d10
      have r11 := cell_regrown d11
      have s0 := cell_regrown f0
      have s1 := cell_regrown f1
      have s2 := cell_regrown f2
      have s3 := cell_regrown f3
      have s4 := cell_regrown f4
      have s5 := cell_regrown f5
      have s6 := cell_regrown f6
      clear hp hg
      clear c0 c1 c2 c3 c4 c5 d0 d1 d2 d3 d4 d5 d6 d7 d8 d9 d10 d11 f0 f1 f2 f3 f4 f5 f6
      go_wp2
      clear c6
      refine wp_region_quiet_below mixed (by kernel_rfl) ?_
      repeat (first | go_big_quiet_step (exact unhide (X _ _)) | quiet_step (exact unhide (X _ _)))
      refine wpQuiet_nil ?_
      intro _ hw'
      obtain ⟨⟨dq, osq⟩, hw''⟩ := hw'
      subst hw''
      have HT2 := hide (HT.out.on (below_regrown wr dq osq))
      clear X q6 r0 r1 r2 r3 r4 r5 r6 r7 r8 r9 r10 r11 s0 s1 s2 s3 s4 s5 s6
      dsimp only
      generalize Sort.grow (redrawn wr dq) osq = w2 at HT2 ⊢
      cases q
      · have E : Hid (R = false) := hide (by rw [EQ.out, ← HF1.out, Bool.false_and])
        go_wp2
        go_ret
        exact ⟨ret_bool E.out.symm, HT2.out.b⟩
      · have HF2 := hide ((Bool.true_and _).symm.trans HF1.out)
        go_wp2
        exact ⟨⟨k + 1, by go_num, by omega, HF2, HT2⟩, by simp [intOf]; omega⟩
    · have E : Hid (R = true) := hide (by
        rw [EQ.out, ← HF.out, List.drop_eq_nil_of_le (by have := HN.out; omega)]; rfl)
      have hge : decide ((k : Int) < (c.n : Int)) = false := by simp; omega
      clear HX HI
      go_wp2
      go_ret
      exact ⟨ret_bool E.out.symm, HT.out.b⟩
theorem anyIs_step (n : Nat) (e : EvV) (l : List ExV) (k : Nat) (h : k < l.length) : ((l.drop k).any fun y => isX n y e) = (isX n (l.getD k noX) e || (l.drop (k + 1)).any fun y => isX n y e) := by
  rw [drop_getX l k h, List.any_cons]
set_option maxHeartbeats 8000000 in
set_option maxRecDepth 100000 in
theorem refIs_or (n : Nat) (x : ExV) (c : EC) (e : EvV) (w : World) (hx : ExAt (n + 1) w c.val x) (hk : x.kind = 3)
    (IH : ∀ y ∈ x.sub, ∀ (d : EC) (W : World), ExAt n W d.val y → Calls Tryz.prog 55 #[d.val, evVal e] W fun r W' => r = .returned (.bool (isX n y e)) ∧ Below W.heap.size W W') :
    Calls Tryz.prog 55 #[c.val, evVal e] w fun r w' => r = .returned (.bool (isX (n + 1) x e)) ∧ Below w.heap.size w w' := by
  obtain ⟨c', hv, hc, _⟩ := id hx
  obtain rfl := ec_inj hv
  have e1 : (c.k == 1) = false := by rw [hc.k, hk]; rfl
  have e2 : (c.k == 2) = false := by rw [hc.k, hk]; rfl
  have e3 : (c.k == 3) = true := by rw [hc.k, hk]; rfl
  have HT := hide (XeAt.new w c e)
  have EQ : Hid (isX (n + 1) x e = x.sub.any fun y => isX n y e) := hide (by rw [isX_step, if_neg (by omega), if_neg (by omega), if_pos hk])
  have HX := hide hx
  have HI := hide IH
  have HN := hide hc.n
  have big := hc.big
  have room := hc.room
  generalize isX (n + 1) x e = R at EQ ⊢
  clear hx hv hc hk IH
  unfold exObj evObj at HT
  unfold EC.val evVal
  go_enter Tryz.func55, Tryz.ntmps55
  go_wp2
  generalize (w.alloc (Obj.cells #[.int .i64 c.k, .int .i64 c.t, .bool c.s.a, .slice c.s.p c.s.n c.s.c, .bool c.s.d, .slice c.s.q c.s.m c.s.e, .slice c.p c.n c.c] 28)).alloc (Obj.cells #[.int .i64 e.v0.1, .int .i64 e.v0.2.1, .string e.v0.2.2, .int .i64 e.v1.1, .int .i64 e.v1.2.1, .string e.v1.2.2, .int .i64 e.v2.1, .int .i64 e.v2.2.1, .string e.v2.2.2, .int .i64 e.v3.1, .int .i64 e.v3.2.1, .string e.v3.2.2] 46) = w0 at HT ⊢
  go_loopw [6] (fun i wr => ∃ k : Nat, i = .int .i64 k ∧ k ≤ c.n ∧ Hid (((x.sub.drop k).any fun y => isX n y e) = x.sub.any fun y => isX n y e) ∧ Hid (XeAt w wr c e)) (fun i _ => c.n - (intOf i).toNat)
  case atStart => exact ⟨0, rfl, by omega, hide rfl, HT⟩
  case round =>
    clear HT
    obtain ⟨k, rfl, hk, HF, HT⟩ := hrel
    obtain ⟨c0, c1, c2, c3, c4, c5, c6⟩ := ecCells1 HT.out.x
    by_cases hlt : k < c.n
    · have hk' : k < x.sub.length := by rw [← HN.out]; exact hlt
      obtain ⟨g, off, d, hp, hg, hd, hy⟩ := HX.out.part k hk'
      have F1 := HF.out
      rw [anyIs_step n e _ _ hk'] at F1
      have HF1 := hide F1
      have X := fun (dd : Nat) (os : Array Obj) => hide (Calls.regrown_of (HI.out _ (getD_mem hk') d (Sort.grow (redrawn wr dd) os) (ExAt.on (HT.out.b.trans ((below_regrown wr dd os).mono HT.out.b.size)) _ hy)))
      generalize isX n (x.sub.getD k noX) e = q at *
      obtain ⟨f0, f1, f2, f3, f4, f5, f6⟩ := hd.on hg HT.out.b
      obtain ⟨d0, d1, d2, d3, d4, d5, d6, d7, d8, d9, d10, d11⟩ := evCells HT.out.e
      clear F1 HF hy HI HX hd
      unfold EC.val evVal at X
      have q6 := c6
      rw [hp] at q6
      replace q6 := cell_regrown q6
      have r0 := cell_regrown d0
      have r1 := cell_regrown d1
      have r2 := cell_regrown d2
      have r3 := cell_regrown d3
      have r4 := cell_regrown d4
      have r5 := cell_regrown d5
      have r6 := cell_regrown d6
      have r7 := cell_regrown d7
      have r8 := cell_regrown d8
      have r9 := cell_regrown d9
      have r10 := cell_regrown d10
      have r11 := cell_regrown d11
      have s0 := cell_regrown f0
      have s1 := cell_regrown f1
      have s2 := cell_regrown f2
      have s3 := cell_regrown f3
      have s4 := cell_regrown f4
      have s5 := cell_regrown f5
      have s6 := cell_regrown f6
      clear hp hg
      clear c0 c1 c2 c3 c4 c5 d0 d1 d2 d3 d4 d5 d6 d7 d8 d9 d10 d11 f0 f1 f2 f3 f4 f5 f6
      go_wp2
      clear c6
      refine wp_region_quiet_below mixed (by kernel_rfl) ?_
      repeat (first | go_big_quiet_step (exact unhide (X _ _)) | quiet_step (exact unhide (X _ _)))
      refine wpQuiet_nil ?_
      intro _ hw'
      obtain ⟨⟨dq, osq⟩, hw''⟩ := hw'
      subst hw''
      have HT2 := hide (HT.out.on (below_regrown wr dq osq))
      clear X q6 r0 r1 r2 r3 r4 r5 r6 r7 r8 r9 r10 r11 s0 s1 s2 s3 s4 s5 s6
      dsimp only
      generalize Sort.grow (redrawn wr dq) osq = w2 at HT2 ⊢
      cases q
      · have HF2 := hide ((Bool.false_or _).symm.trans HF1.out)
        go_wp2
        exact ⟨⟨k + 1, by go_num, by omega, HF2, HT2⟩, by simp [intOf]; omega⟩
      · have E : Hid (R = true) := hide (by rw [EQ.out, ← HF1.out, Bool.true_or])
        go_wp2
        go_ret
        exact ⟨ret_bool E.out.symm, HT2.out.b⟩
    · have E : Hid (R = false) := hide (by
        rw [EQ.out, ← HF.out, List.drop_eq_nil_of_le (by have := HN.out; omega)]; rfl)
      have hge : decide ((k : Int) < (c.n : Int)) = false := by simp; omega
      clear HX HI
      go_wp2
      go_ret
      exact ⟨ret_bool E.out.symm, HT.out.b⟩
set_option maxHeartbeats 8000000 in
set_option maxRecDepth 100000 in
theorem refIs_not (n : Nat) (x : ExV) (c : EC) (e : EvV) (w : World) (hx : ExAt (n + 1) w c.val x) (k1 : ¬ x.kind = 1) (k2 : ¬ x.kind = 2) (k3 : ¬ x.kind = 3) (h1 : x.sub.length = 1)
    (IH : ∀ y ∈ x.sub, ∀ (d : EC) (W : World), ExAt n W d.val y → Calls Tryz.prog 55 #[d.val, evVal e] W fun r W' => r = .returned (.bool (isX n y e)) ∧ Below W.heap.size W W') :
    Calls Tryz.prog 55 #[c.val, evVal e] w fun r w' => r = .returned (.bool (isX (n + 1) x e)) ∧ Below w.heap.size w w' := by
  obtain ⟨c', hv, hc, _⟩ := id hx
  obtain rfl := ec_inj hv
  have e1 : (c.k == 1) = false := by rw [hc.k]; simpa using k1
  have e2 : (c.k == 2) = false := by rw [hc.k]; simpa using k2
  have e3 : (c.k == 3) = false := by rw [hc.k]; simpa using k3
  have hn : Hid (c.n = 1) := hide (by rw [hc.n, h1])
  have HT := hide (XeAt.new w c e)
  have hl : 0 < x.sub.length := by omega
  obtain ⟨g, off, d, hp, hg, hd, hy⟩ := hx.part 0 hl
  have R := fun (W : World) (hb : Below w.heap.size w W) => hide (IH _ (getD_mem hl) d W (ExAt.on hb _ hy))
  have EQ : Hid (isX (n + 1) x e = !isX n (x.sub.getD 0 noX) e) := hide (by
    rw [isX_step, if_neg k1, if_neg k2, if_neg k3]
    match hs : x.sub, hl with
    | y :: l, _ => rfl)
  generalize isX n (x.sub.getD 0 noX) e = q at R EQ
  have room := hc.room
  have big := hc.big
  clear hx hv hc IH k1 k2 k3 h1 hy hl
  unfold exObj evObj at HT
  unfold EC.val evVal at R ⊢
  have HC := hide hp
  clear hp
  go_enter Tryz.func55, Tryz.ntmps55
  go_wp2
  generalize (w.alloc (Obj.cells #[.int .i64 c.k, .int .i64 c.t, .bool c.s.a, .slice c.s.p c.s.n c.s.c, .bool c.s.d, .slice c.s.q c.s.m c.s.e, .slice c.p c.n c.c] 28)).alloc (Obj.cells #[.int .i64 e.v0.1, .int .i64 e.v0.2.1, .string e.v0.2.2, .int .i64 e.v1.1, .int .i64 e.v1.2.1, .string e.v1.2.2, .int .i64 e.v2.1, .int .i64 e.v2.2.1, .string e.v2.2.2, .int .i64 e.v3.1, .int .i64 e.v3.2.1, .string e.v3.2.2] 46) = wr at HT ⊢
  obtain ⟨c0, c1, c2, c3, c4, c5, c6⟩ := ecCells1 HT.out.x
  obtain ⟨d0, d1, d2, d3, d4, d5, d6, d7, d8, d9, d10, d11⟩ := evCells HT.out.e
  obtain ⟨f0, f1, f2, f3, f4, f5, f6⟩ := hd.on hg HT.out.b
  have X := fun (d : Nat) (os : Array Obj) => hide (Calls.regrown_of (R (Sort.grow (redrawn wr d) os) (HT.out.b.trans ((below_regrown wr d os).mono HT.out.b.size))).out)
  rw [HC.out, hn.out] at c6
  simp only [Nat.zero_mul, Nat.add_zero] at f0 f1 f2 f3 f4 f5 f6
  have q6 := cell_regrown c6
  have r0 := cell_regrown d0
  have r1 := cell_regrown d1
  have r2 := cell_regrown d2
  have r3 := cell_regrown d3
  have r4 := cell_regrown d4
  have r5 := cell_regrown d5
  have r6 := cell_regrown d6
  have r7 := cell_regrown d7
  have r8 := cell_regrown d8
  have r9 := cell_regrown d9
  have r10 := cell_regrown d10
  have r11 := cell_regrown d11
  have s0 := cell_regrown f0
  have s1 := cell_regrown f1
  have s2 := cell_regrown f2
  have s3 := cell_regrown f3
  have s4 := cell_regrown f4
  have s5 := cell_regrown f5
  have s6 := cell_regrown f6
  rw [hn.out] at room
  clear R c0 c1 c2 c3 c4 c5 c6 d0 d1 d2 d3 d4 d5 d6 d7 d8 d9 d10 d11 f0 f1 f2 f3 f4 f5 f6 hd hg HC hn
  refine wp_region_quiet_below mixed (by kernel_rfl) ?_
  repeat (first | go_big_quiet_step (exact unhide (X _ _)) | quiet_step (exact unhide (X _ _)))
  refine wpQuiet_nil ?_
  intro _ hw'
  obtain ⟨⟨dq, osq⟩, hw''⟩ := hw'
  subst hw''
  have HT2 := hide (HT.out.on (below_regrown wr dq osq))
  clear X q6 r0 r1 r2 r3 r4 r5 r6 r7 r8 r9 r10 r11 s0 s1 s2 s3 s4 s5 s6
  dsimp only
  generalize Sort.grow (redrawn wr dq) osq = w2 at HT2 ⊢
  go_wp2
  go_ret
  exact ⟨ret_bool EQ.out.symm, HT2.out.b⟩
theorem refIs_any (e : EvV) (hf : evFit e) : ∀ (n : Nat) (x : ExV) (c : EC) (w : World), ExAt n w c.val x → eachX n x = true →
    Calls Tryz.prog 55 #[c.val, evVal e] w fun r w' => r = .returned (.bool (isX n x e)) ∧ Below w.heap.size w w' := by
  intro n
  induction n with
  | zero => intro x c w h; cases h
  | succ n ih =>
    intro x c w hx he
    obtain ⟨hn, hs⟩ := each_sub he
    have IH : ∀ y ∈ x.sub, ∀ (d : EC) (W : World), ExAt n W d.val y → Calls Tryz.prog 55 #[d.val, evVal e] W fun r W' => r = .returned (.bool (isX n y e)) ∧ Below W.heap.size W W' := fun y hy d W h => ih y d W h (hs y hy)
    by_cases k1 : x.kind = 1
    · exact refIs_atom n x c e w hx hn k1 hf
    · by_cases k2 : x.kind = 2
      · exact refIs_and n x c e w hx k2 IH
      · by_cases k3 : x.kind = 3
        · exact refIs_or n x c e w hx k3 IH
        · exact refIs_not n x c e w hx k1 k2 k3 (node_not hn k1 k2 k3) IH
set_option maxHeartbeats 4000000 in
set_option maxRecDepth 100000 in
theorem refEvalX_any (k : Nat) (c : EC) (x : ExV) (e : EvV) (w : World) (hx : ExAt k w c.val x) (hf : evFit e) :
    Calls Tryz.prog 25 #[c.val, evVal e] w fun r w' => r = .returned (.bool (evalX x e)) ∧ Below w.heap.size w w' := by
  have HT := hide (XeAt.new w c e)
  have X := fun (W : World) (hb : Below w.heap.size w W) => hide (refRightX_any k x c W (ExAt.on hb _ hx))
  have Y := fun (W : World) => hide (refEvent_any e W hf)
  have Z : rightX x = true → ∀ (W : World) (hb : Below w.heap.size w W), Hid (Calls Tryz.prog 55 #[c.val, evVal e] W fun r W' => r = .returned (.bool (isX 8 x e)) ∧ Below W.heap.size W W') := fun hr W hb => hide (by
    have h8 := rightX_low hr
    unfold rightX at hr
    rw [Bool.and_eq_true] at hr
    exact refIs_any e hf 8 x c W (ExAt.shrink k 8 (ExAt.on hb _ hx) h8) hr.2)
  have EQ : Hid (evalX x e = ((rightX x && rightE e) && isX 8 x e)) := hide rfl
  generalize evalX x e = R at EQ ⊢
  generalize isX 8 x e = p at EQ Z
  clear hx hf
  unfold exObj evObj at HT
  unfold EC.val evVal at *
  cases hr : rightX x
  · rw [hr] at X EQ
    have E : Hid (R = false) := hide EQ.out
    clear Z EQ Y
    go_enter Tryz.func25, Tryz.ntmps25
    go_wp2_with fail
    refine (unhide (X _ HT.out.b)).mono ?_
    rintro r w1 ⟨rfl, b1⟩
    have HT1 := hide (HT.out.on b1)
    clear X HT b1
    go_wp2
    go_ret
    exact ⟨ret_bool E.out.symm, HT1.out.b⟩
  · rw [hr] at X EQ
    have Z := Z hr
    clear hr
    generalize rightE e = q at Y EQ
    cases q
    · have E : Hid (R = false) := hide EQ.out
      clear Z EQ
      go_enter Tryz.func25, Tryz.ntmps25
      go_wp2_with fail
      refine (unhide (X _ HT.out.b)).mono ?_
      rintro r w1 ⟨rfl, b1⟩
      have HT1 := hide (HT.out.on b1)
      obtain ⟨d0, d1, d2, d3, d4, d5, d6, d7, d8, d9, d10, d11⟩ := evCells HT1.out.e
      clear X HT b1
      go_wp2_with fail
      refine (unhide (Y _)).mono ?_
      rintro r w2 ⟨rfl, b2⟩
      have HT2 := hide (HT1.out.on b2)
      clear Y HT1 b2 d0 d1 d2 d3 d4 d5 d6 d7 d8 d9 d10 d11
      go_wp2
      go_ret
      exact ⟨ret_bool E.out.symm, HT2.out.b⟩
    · have E : Hid (R = p) := hide EQ.out
      clear EQ
      go_enter Tryz.func25, Tryz.ntmps25
      go_wp2_with fail
      refine (unhide (X _ HT.out.b)).mono ?_
      rintro r w1 ⟨rfl, b1⟩
      have HT1 := hide (HT.out.on b1)
      obtain ⟨d0, d1, d2, d3, d4, d5, d6, d7, d8, d9, d10, d11⟩ := evCells HT1.out.e
      clear X HT b1
      go_wp2_with fail
      refine (unhide (Y _)).mono ?_
      rintro r w2 ⟨rfl, b2⟩
      have HT2 := hide (HT1.out.on b2)
      clear Y HT1 b2 d0 d1 d2 d3 d4 d5 d6 d7 d8 d9 d10 d11
      obtain ⟨d0, d1, d2, d3, d4, d5, d6, d7, d8, d9, d10, d11⟩ := evCells HT2.out.e
      obtain ⟨c0, c1, c2, c3, c4, c5, c6⟩ := ecCells1 HT2.out.x
      go_wp2_with fail
      refine (unhide (Z _ HT2.out.b)).mono ?_
      rintro r w3 ⟨rfl, b3⟩
      have HT3 := hide (HT2.out.on b3)
      clear Z HT2 b3 d0 d1 d2 d3 d4 d5 d6 d7 d8 d9 d10 d11 c0 c1 c2 c3 c4 c5 c6
      go_wp2
      go_ret
      exact ⟨ret_bool E.out.symm, HT3.out.b⟩
end Go.Proofs.YtciflobdpenpaaaGreatDoor
/-
  The program's Size, Right and Eval, in the words of the expression alone.
-/
set_option linter.unusedSimpArgs false
set_option linter.unusedVariables false
namespace Go.Proofs.YtciflobdpenpaaaGreatDoor
open Go.RowKit

/-- Size's answer. -/
def sizeA (x : ExV) : Int × Int := if fitsX x then (countX 21 x, deepX 21 x) else (0, 0)
theorem progSize_any (k : Nat) (c : EC) (x : ExV) (w : World) (hx : ExAt k w c.val x) (hk : k ≤ 2000) :
    Calls Tryz.prog 26 #[c.val] w fun r w' => r = .returned (.tuple #[.int .i64 (sizeA x).1, .int .i64 (sizeA x).2]) ∧ Below w.heap.size w w' := by
  have := size_any k c x w hx hk
  rw [size_plain (ExAt.low k hx)] at this
  exact this
theorem progRight_any (k : Nat) (c : EC) (x : ExV) (w : World) (hx : ExAt k w c.val x) (hk : k ≤ 2000) :
    Calls Tryz.prog 37 #[c.val] w fun r w' => r = .returned (.bool (rightX x)) ∧ Below w.heap.size w w' := by
  have := right_any k c x w hx hk
  rw [right_plain (ExAt.low k hx)] at this
  exact this

set_option maxHeartbeats 4000000 in
set_option maxRecDepth 100000 in
theorem progEval_any (k : Nat) (c : EC) (x : ExV) (e : EvV) (w : World) (hx : ExAt k w c.val x) (hk : k ≤ 2000) (hf : evFit e) :
    Calls Tryz.prog 24 #[c.val, evVal e] w fun r w' => r = .returned (.bool (evalX x e)) ∧ Below w.heap.size w w' := by
  have HT := hide (XeAt.new w c e)
  have X := fun (W : World) (hb : Below w.heap.size w W) => hide (progRight_any k c x W (ExAt.on hb _ hx) hk)
  have Y := fun (W : World) => hide (event_any e W hf)
  have Z : rightX x = true → ∀ (W : World) (hb : Below w.heap.size w W), Hid (Calls Tryz.prog 54 #[c.val, evVal e] W fun r W' => r = .returned (.bool (isX 8 x e)) ∧ Below W.heap.size W W') := fun hr W hb => hide (by
    have h8 := rightX_low hr
    unfold rightX at hr
    rw [Bool.and_eq_true] at hr
    exact isSo_any e hf 8 x c W (ExAt.shrink k 8 (ExAt.on hb _ hx) h8) hr.2)
  have EQ : Hid (evalX x e = ((rightX x && rightE e) && isX 8 x e)) := hide rfl
  generalize evalX x e = R at EQ ⊢
  generalize isX 8 x e = p at EQ Z
  clear hx hf hk
  unfold exObj evObj at HT
  unfold EC.val evVal at *
  cases hr : rightX x
  · rw [hr] at X EQ
    have E : Hid (R = false) := hide EQ.out
    clear Z EQ Y
    go_enter Tryz.func24, Tryz.ntmps24
    go_wp2_with fail
    refine (unhide (X _ HT.out.b)).mono ?_
    rintro r w1 ⟨rfl, b1⟩
    have HT1 := hide (HT.out.on b1)
    clear X HT b1
    go_wp2
    go_ret
    exact ⟨ret_bool E.out.symm, HT1.out.b⟩
  · rw [hr] at X EQ
    have Z := Z hr
    clear hr
    generalize rightE e = q at Y EQ
    cases q
    · have E : Hid (R = false) := hide EQ.out
      clear Z EQ
      go_enter Tryz.func24, Tryz.ntmps24
      go_wp2_with fail
      refine (unhide (X _ HT.out.b)).mono ?_
      rintro r w1 ⟨rfl, b1⟩
      have HT1 := hide (HT.out.on b1)
      obtain ⟨d0, d1, d2, d3, d4, d5, d6, d7, d8, d9, d10, d11⟩ := evCells HT1.out.e
      clear X HT b1
      go_wp2_with fail
      refine (unhide (Y _)).mono ?_
      rintro r w2 ⟨rfl, b2⟩
      have HT2 := hide (HT1.out.on b2)
      clear Y HT1 b2 d0 d1 d2 d3 d4 d5 d6 d7 d8 d9 d10 d11
      go_wp2
      go_ret
      exact ⟨ret_bool E.out.symm, HT2.out.b⟩
    · have E : Hid (R = p) := hide EQ.out
      clear EQ
      go_enter Tryz.func24, Tryz.ntmps24
      go_wp2_with fail
      refine (unhide (X _ HT.out.b)).mono ?_
      rintro r w1 ⟨rfl, b1⟩
      have HT1 := hide (HT.out.on b1)
      obtain ⟨d0, d1, d2, d3, d4, d5, d6, d7, d8, d9, d10, d11⟩ := evCells HT1.out.e
      clear X HT b1
      go_wp2_with fail
      refine (unhide (Y _)).mono ?_
      rintro r w2 ⟨rfl, b2⟩
      have HT2 := hide (HT1.out.on b2)
      clear Y HT1 b2 d0 d1 d2 d3 d4 d5 d6 d7 d8 d9 d10 d11
      obtain ⟨d0, d1, d2, d3, d4, d5, d6, d7, d8, d9, d10, d11⟩ := evCells HT2.out.e
      obtain ⟨c0, c1, c2, c3, c4, c5, c6⟩ := ecCells1 HT2.out.x
      go_wp2_with fail
      refine (unhide (Z _ HT2.out.b)).mono ?_
      rintro r w3 ⟨rfl, b3⟩
      have HT3 := hide (HT2.out.on b3)
      clear Z HT2 b3 d0 d1 d2 d3 d4 d5 d6 d7 d8 d9 d10 d11 c0 c1 c2 c3 c4 c5 c6
      go_wp2
      go_ret
      exact ⟨ret_bool E.out.symm, HT3.out.b⟩
end Go.Proofs.YtciflobdpenpaaaGreatDoor
/-
  Steps of regions, of the fifth layer: new blocks and rows of expressions; the contracts of the layer in one form.
-/
set_option linter.unusedSimpArgs false
set_option linter.unusedVariables false
namespace Go.Proofs.YtciflobdpenpaaaGreatDoor
open Go.RowKit

/-- An expression as a value. -/
def Xp (n : Nat) (w : World) (c : EC) (x : ExV) : Prop := ExAt n w c.val x
theorem Xp.on {n : Nat} {w w' : World} {c : EC} {x : ExV} (h : Xp n w c x) (hb : Below w.heap.size w w') : Xp n w' c x := ExAt.on hb n h
/-- A set in a block of its own. -/
def StB (w : World) (g : Nat) (s : SC) : Prop := w.heap[g]? = some (stObj s)
theorem StB.on {w w' : World} {g : Nat} {s : SC} (h : StB w g s) (hb : Below w.heap.size w w') : StB w' g s := (hb.block _ (lt_heap h)).trans h
def vaZ : Va := (0, 0, ⟨#[]⟩)
def evZ : EvV := ⟨vaZ, vaZ, vaZ, vaZ⟩
theorem evZ_fit : evFit evZ := ⟨Nat.zero_le _, Nat.zero_le _, Nat.zero_le _, Nat.zero_le _⟩
section
variable {ops : Array Oper} {Q : Exit → Act → World → Prop} {S : World → Prop} {o : Oper} {a : Act}
set_option maxRecDepth 100000 in
/-- A new block, and an expression stored there. -/
theorem wl_newEx {o2 : Oper} {rest : List Oper} {w : World} (hw : Region.wanted o (yielded ops a.tmps) = true) (ho : o.op = .alloc 28) (x y : Operand) (ho2 : o2.op = .store 28 x y) (hg2 : o2.guard = none)
    (hx : ∀ v, (a.put o.dst v).eval x = v) {c : EC} (hy : ∀ v, (a.put o.dst v).eval y = c.val)
    (h : ∀ W g, ExIn W g c → Below w.heap.size w W → wpList Tryz.prog ops Q rest ((a.put o.dst (.pointer (some ⟨g, 0, none⟩))).put o2.dst undef) W) : wpList Tryz.prog ops Q (o :: o2 :: rest) a w := by
  refine wl_run hw (.pointer (some ⟨w.heap.size, 0, none⟩)) (w.alloc (exObj ec0)) ?_ ?_
  · simp only [execOp, ho, exObj, ec0, SC.zero]
    go_simp
  · have hz : ExIn (w.alloc (exObj ec0)) w.heap.size ec0 := heap_new _ _
    have ht : (w.alloc (exObj ec0)).there w.heap.size 0 7 := fun j hj => by
      refine ⟨?_, soft_heap hz _⟩
      rw [hz.ec.range j _ (List.getElem?_eq_getElem (show j < ec0.list.length from hj))]
      rfl
    refine wpList_store_mid hg2 28 x y ho2 w.heap.size 0 c.list.toArray (hx _) (hy _) ht (by rw [infoEx]; rfl) (all_oneCell_toArray c.list_one) ?_
    refine h _ _ ?_ (Below.setCells w.heap.size (Nat.le_refl _) c.list 0 _ ((Below.refl _ w).alloc (Nat.le_refl _) _))
    exact heap_put (heap_put (heap_put (heap_put (heap_put (heap_put (heap_put hz 0 (.int .i64 c.k)) 1 (.int .i64 c.t)) 2 (.bool c.s.a)) 3 (.slice c.s.p c.s.n c.s.c)) 4 (.bool c.s.d)) 5 (.slice c.s.q c.s.m c.s.e)) 6 (.slice c.p c.n c.c)
theorem yl_zeroE (hw : Region.wanted o (yielded ops a.tmps) = true) (ho : o.op = .build 46 #[]) : YieldsIf Tryz.prog ops S o (evVal evZ) a :=
  Or.inl ⟨hw, fun w _ => by
    simp only [execOp, ho, evVal, evZ, vaZ]
    go_simp⟩
theorem yl_zeroX (hw : Region.wanted o (yielded ops a.tmps) = true) (ho : o.op = .build 28 #[]) : YieldsIf Tryz.prog ops S o ec0.val a :=
  Or.inl ⟨hw, fun w _ => by
    simp only [execOp, ho, EC.val, ec0, SC.zero]
    go_simp⟩
end

/-! ### What may be gone over -/
theorem few_low {n : Nat} {x : ExV} (h : fewX n x = true) : lowX 19 x := by
  unfold fewX at h
  simp only [Bool.and_eq_true, decide_eq_true_eq] at h
  exact deep_low 21 19 x (by omega) (by omega) (by omega) (by omega)

/-! ### The contracts in one form -/
theorem c_refFew {n : Nat} {w : World} {c : EC} {x : ExV} (h : Xp n w c x) : Calls Tryz.prog 9 #[c.val] w fun r w' => r = .returned (.bool (fewX n x)) ∧ Below w.heap.size w w' := refFewX_any n x c.val w h
theorem c_size {n : Nat} {w : World} {c : EC} {x : ExV} (h : Xp n w c x) (hn : n ≤ 2000) : Calls Tryz.prog 26 #[c.val] w fun r w' => r = .returned (.tuple #[.int .i64 (sizeA x).1, .int .i64 (sizeA x).2]) ∧ Below w.heap.size w w' := progSize_any n c x w h hn
theorem c_right {n : Nat} {w : World} {c : EC} {x : ExV} (h : Xp n w c x) (hn : n ≤ 2000) : Calls Tryz.prog 37 #[c.val] w fun r w' => r = .returned (.bool (rightX x)) ∧ Below w.heap.size w w' := progRight_any n c x w h hn
theorem c_eval {n : Nat} {w : World} {c : EC} {x : ExV} {e : EvV} (h : Xp n w c x) (hn : n ≤ 2000) (hf : evFit e) : Calls Tryz.prog 24 #[c.val, evVal e] w fun r w' => r = .returned (.bool (evalX x e)) ∧ Below w.heap.size w w' := progEval_any n c x e w h hn hf
theorem c_refEval {n : Nat} {w : World} {c : EC} {x : ExV} {e : EvV} (h : Xp n w c x) (hf : evFit e) : Calls Tryz.prog 25 #[c.val, evVal e] w fun r w' => r = .returned (.bool (evalX x e)) ∧ Below w.heap.size w w' := refEvalX_any n c x e w h hf
end Go.Proofs.YtciflobdpenpaaaGreatDoor
/-
  Steps of regions, of the seventh layer: strings, calls that may panic, blocks of which the cells are known.
-/
set_option linter.unusedSimpArgs false
set_option linter.unusedVariables false
namespace Go.Proofs.YtciflobdpenpaaaGreatDoor
open Go.RowKit

/-! ### What is known of a block stays -/
theorem heap_on {w w' : World} {g : Nat} {x : Obj} (h : w.heap[g]? = some x) (hb : Below w.heap.size w w') : w'.heap[g]? = some x := (hb.block _ (lt_heap h)).trans h
theorem heap_gr {w w' : World} {g b : Nat} {x : Obj} (h : w.heap[g]? = some x) (hg : w.grownBy w' (some b)) (hn : g ≠ b) : w'.heap[g]? = some x := (hg.block _ (lt_heap h) (by intro e; injection e with e; exact hn e)).trans h
theorem gr_new {a w w' : World} {r : Option Nat} {g : Nat} (h : a.grownBy w r) (hg : a.heap.size ≤ g) (k : w.grownBy w' (some g)) : a.grownBy w' r :=
  ⟨k.os.trans h.os, k.tape.trans h.tape, k.output.trans h.output, Nat.le_trans h.size k.size, fun i hi hr => (k.block i (Nat.lt_of_lt_of_le hi h.size) (by intro e; injection e with e; omega)).trans (h.block i hi hr)⟩
theorem Rdr.gr {w w' : World} {b g : Nat} {l : List UInt8} (h : Rdr w b l) (k : w.grownBy w' (some g)) (hn : b ≠ g) (h6 : 6 ≤ g) : Rdr w' b l :=
  ⟨h.env.below (B := 6) (Nat.le_refl _) (below_of_grown k h6 (by have := h.env.big; omega)), h.six, by
    rcases h.rd with hr | hr
    · exact Or.inl (heap_gr hr k hn)
    · exact Or.inr (heap_gr hr k hn)⟩
theorem Env.gr {w w' : World} {g : Nat} (h : Env w) (k : w.grownBy w' (some g)) (h6 : 6 ≤ g) : Env w' := h.below (B := 6) (Nat.le_refl _) (below_of_grown k h6 (by have := h.big; omega))
theorem put_cells (g : Nat) (t : TypeId) : ∀ (ds cs pre : List Value) (w : World), w.heap[g]? = some (.cells (pre ++ cs).toArray t (0, 0)) → cs.length = ds.length → (w.setCells g pre.length ds).heap[g]? = some (.cells (pre ++ ds).toArray t (0, 0)) ∧ w.grownBy (w.setCells g pre.length ds) (some g)
  | [], [], pre, w, h, _ => ⟨h, grown_refl _ _⟩
  | d :: ds, c :: cs, pre, w, h, hl => by
    have h1 := heap_setCell (i := pre.length) d h
    have e : ((pre ++ c :: cs).toArray).setIfInBounds pre.length d = ((pre ++ [d]) ++ cs).toArray := by simp
    rw [e] at h1
    obtain ⟨h2, h3⟩ := put_cells g t ds cs (pre ++ [d]) _ h1 (by simpa using hl)
    rw [List.length_append, List.length_cons, List.length_nil] at h2 h3
    rw [List.append_assoc, List.cons_append, List.nil_append] at h2
    exact ⟨h2, grown_trans (grown_put _ _ _ _) h3⟩
theorem put_whole {w : World} {g : Nat} {t : TypeId} {cs : Array Value} (ds : List Value) (h : w.heap[g]? = some (.cells cs t (0, 0))) (hl : cs.size = ds.length) : (w.setCells g 0 ds).heap[g]? = some (.cells ds.toArray t (0, 0)) ∧ w.grownBy (w.setCells g 0 ds) (some g) :=
  put_cells g t ds cs.toList [] w (by simpa using h) (by simpa using hl)
theorem bs_cat (l m : List UInt8) : bs l ++ bs m = bs (l ++ m) := by
  unfold bs
  apply ByteArray.ext
  simp
theorem bs_toList (l : List UInt8) : (bs l).toList = l := by rw [ByteArray.toList_eq, bs_list]
theorem bs_drop (l : List UInt8) (j : Nat) : (bs l).extract j (bs l).size = bs (l.drop j) := by
  apply ByteArray.ext
  apply Array.toList_inj.1
  rw [Lib.extract_data, bs_list, bs_list, List.take_of_length_le]
  rw [List.length_drop, bs_size]
  omega
section
variable {ops : Array Oper} {Q : Exit → Act → World → Prop} {S : World → Prop} {o : Oper} {a : Act}
/-- A call that comes back with a value, or with a panic. -/
theorem wt_call {rest : List Oper} {w : World} (hw : Region.wanted o (yielded ops a.tmps) = true)
    (f : Nat) (xs : Array Operand) (ts : Array TypeId) (ho : o.op = .call { callee := .value (.func f), args := xs, argTypes := ts }) (vs : Array Value) (hv : xs.toList.map a.eval = vs.toList)
    (hrun : ∀ (W : World) (A : Array Value), (callFunc f A).run Tryz.prog W = .ok (.enter f A) W)
    (hc : Calls Tryz.prog f vs w fun r w' => (∃ v, r = .returned v ∧ wpList Tryz.prog ops Q rest (a.put o.dst v) w') ∨ (∃ ch, r = .panicked ch ∧ Q (.panic ch) a w')) : wpList Tryz.prog ops Q (o :: rest) a w := by
  unfold wpList
  rw [if_pos hw]
  left
  have hv : xs.map a.eval = vs := by
    rw [← Array.toList_inj, Array.toList_map]
    exact hv
  have he : a.eval (.func f) = .func (.func f) #[] #[] := rfl
  have hx : (execOp a.eval o).run Tryz.prog w = .ok (.enter f vs) w := by
    have := hrun w vs
    simp [execOp, ho, resolve, he, hv, Deferred.ofValue, invoke, this]
  unfold Oper.wp
  rw [hx, Oper.upon_enter]
  refine hc.mono ?_
  rintro e w' (⟨v, rfl, h1⟩ | ⟨ch, rfl, h1⟩)
  · exact h1
  · exact h1
theorem wt_callv {rest : List Oper} {w : World} (hw : Region.wanted o (yielded ops a.tmps) = true)
    (f : Nat) (x : Operand) (xs : Array Operand) (ts : Array TypeId) (ho : o.op = .call { callee := .value x, args := xs, argTypes := ts }) (caps : Array Value) (hx : a.eval x = .func (.func f) #[] caps) (vs : Array Value) (hv : xs.toList.map a.eval = vs.toList)
    (hrun : ∀ (W : World) (A : Array Value), (callFunc f A).run Tryz.prog W = .ok (.enter f A) W)
    (hc : Calls Tryz.prog f (vs ++ caps) w fun r w' => (∃ v, r = .returned v ∧ wpList Tryz.prog ops Q rest (a.put o.dst v) w') ∨ (∃ ch, r = .panicked ch ∧ Q (.panic ch) a w')) : wpList Tryz.prog ops Q (o :: rest) a w := by
  unfold wpList
  rw [if_pos hw]
  left
  have hv : xs.map a.eval = vs := by
    rw [← Array.toList_inj, Array.toList_map]
    exact hv
  have hx : (execOp a.eval o).run Tryz.prog w = .ok (.enter f (vs ++ caps)) w := by
    have := hrun w (vs ++ caps)
    simp [execOp, ho, resolve, hx, hv, Deferred.ofValue, invoke, this]
  unfold Oper.wp
  rw [hx, Oper.upon_enter]
  refine hc.mono ?_
  rintro e w' (⟨v, rfl, h1⟩ | ⟨ch, rfl, h1⟩)
  · exact h1
  · exact h1
theorem wt_panic {rest : List Oper} {w : World} (hw : Region.wanted o (yielded ops a.tmps) = true) (x : Operand) (ho : o.op = .panic x) (t : TypeId) (v : Value) (hx : a.eval x = .iface t v)
    (h : Q (.panic [{ v := .iface t v, recovered := false }]) a w) : wpList Tryz.prog ops Q (o :: rest) a w := by
  unfold wpList
  rw [if_pos hw]
  left
  have hr : (execOp a.eval o).run Tryz.prog w = .halt (.panic (.iface t v)) w := by
    simp only [execOp, ho, hx]
    go_simp
  unfold Oper.wp
  rw [hr, Oper.upon_panic]
  exact h
theorem yt_iface (hw : Region.wanted o (yielded ops a.tmps) = true) (x : Operand) (ho : o.op = .makeInterface 33 x) (z : Int) (hx : a.eval x = .int .i64 z) : YieldsIf Tryz.prog ops S o (.iface 33 (.int .i64 z)) a :=
  Or.inl ⟨hw, fun w hS => by
    simp only [execOp, ho, hx]
    go_simp⟩
theorem yt_nil (hw : Region.wanted o (yielded ops a.tmps) = true) (x : Operand) (ho : o.op = .nilCheck x) (p : Addr) (hx : a.eval x = .pointer (some p)) : YieldsIf Tryz.prog ops S o (.pointer (some p)) a :=
  Or.inl ⟨hw, fun w hS => by
    simp only [execOp, ho, hx]
    go_simp⟩
theorem yt_fn2 (hw : Region.wanted o (yielded ops a.tmps) = true) (f : Nat) (x y : Operand) (ho : o.op = .makeFunc (.func f) #[] #[x, y]) (v u : Value) (hx : a.eval x = v) (hy : a.eval y = u) : YieldsIf Tryz.prog ops S o (.func (.func f) #[] #[v, u]) a :=
  Or.inl ⟨hw, fun w hS => by
    simp only [execOp, ho, List.map_toArray, List.map_cons, List.map_nil, hx, hy]
    go_simp⟩
/-- The text that a reader has left, stored. -/
theorem wt_left {rest : List Oper} {w : World} (hw : Region.wanted o (yielded ops a.tmps) = true) (x y : Operand) (ho : o.op = .store 9 x y) (g : Nat) (hx : a.eval x = .pointer (some ⟨g, 0, none⟩)) (r : List UInt8) (hy : a.eval y = .string (bs r)) {l : List UInt8} (hc : RdL w g l)
    (h : ∀ W, RdL W g r → w.grownBy W (some g) → wpList Tryz.prog ops Q rest (a.put o.dst undef) W) : wpList Tryz.prog ops Q (o :: rest) a w := by
  obtain ⟨c0, f0⟩ := hc.cell
  refine wl_skip hw (w.setCell ⟨g, 0, none⟩ (.string (bs r))) ?_ (h _ (hc.put r) (grown_put _ _ _ _))
  simp only [execOp, ho, hx, hy]
  go_simp
/-! ### Strings -/
theorem yt_cat (hw : Region.wanted o (yielded ops a.tmps) = true) (x y : Operand) (t : TypeId) (ho : o.op = .binOp .add 9 x y t) (l m : List UInt8) (hx : a.eval x = .string (bs l)) (hy : a.eval y = .string (bs m)) (hl : l.length + m.length ≤ 9223372036854775807) : YieldsIf Tryz.prog ops S o (.string (bs (l ++ m))) a :=
  Or.inl ⟨hw, fun w hS => by
    have h1 : ¬ 9223372036854775807 < (bs l).size + (bs m).size := by rw [bs_size, bs_size]; omega
    simp only [execOp, ho, hx, hy]
    go_simp
    rw [← bs_cat]⟩
theorem yt_lenS (hw : Region.wanted o (yielded ops a.tmps) = true) (x : Operand) (ho : o.op = .call { callee := .builtin .len, args := #[x], argTypes := #[9] }) (l : List UInt8) (hx : a.eval x = .string (bs l)) : YieldsIf Tryz.prog ops S o (.int .i64 (l.length : Nat)) a :=
  Or.inl ⟨hw, fun w hS => by
    unfold execOp
    simp only [ho, resolve, invoke, builtin, Sem.run_bind, Sem.run_pure, Result.andThen_ok, List.map_toArray, List.map_cons, List.map_nil, hx]
    go_simp
    rw [bs_size]⟩
theorem yt_eqS (hw : Region.wanted o (yielded ops a.tmps) = true) (x y : Operand) (t : TypeId) (ho : o.op = .binOp .eql 9 x y t) (l m : List UInt8) (r : Bool) (hx : a.eval x = .string (bs l)) (hy : a.eval y = .string (bs m)) (hr : (l == m) = r) : YieldsIf Tryz.prog ops S o (.bool r) a :=
  Or.inl ⟨hw, fun w hS => by
    subst hr
    simp only [execOp, ho, hx, hy]
    go_simp
    simp [bs_toList]⟩
theorem yt_neqS (hw : Region.wanted o (yielded ops a.tmps) = true) (x y : Operand) (t : TypeId) (ho : o.op = .binOp .neq 9 x y t) (l m : List UInt8) (r : Bool) (hx : a.eval x = .string (bs l)) (hy : a.eval y = .string (bs m)) (hr : (l != m) = r) : YieldsIf Tryz.prog ops S o (.bool r) a :=
  Or.inl ⟨hw, fun w hS => by
    subst hr
    simp only [execOp, ho, hx, hy]
    go_simp
    simp [bs_toList, bne]⟩
theorem yt_fromS (hw : Region.wanted o (yielded ops a.tmps) = true) (x y : Operand) (ho : o.op = .slice 9 x (some y) none none) (l : List UInt8) (j : Nat) (hx : a.eval x = .string (bs l)) (hy : a.eval y = .int .i64 j) (hj : j ≤ l.length) : YieldsIf Tryz.prog ops S o (.string (bs (l.drop j))) a :=
  Or.inl ⟨hw, fun w hS => by
    have h1 : j ≤ (bs l).size := by rw [bs_size]; exact hj
    have h2 : ¬ (bs l).size < j := by omega
    simp only [execOp, ho, hx, hy, Option.map]
    rw [← bs_drop]
    go_simp⟩
/-! ### Numbers -/
theorem yt_addI (hw : Region.wanted o (yielded ops a.tmps) = true) (x y : Operand) (t : TypeId) (ho : o.op = .binOp .add 3 x y t) (p q r : Int) (hx : a.eval x = .int .i64 p) (hy : a.eval y = .int .i64 q) (hr : p + q = r) (h0 : -9223372036854775808 ≤ r) (h1 : r ≤ 9223372036854775807) : YieldsIf Tryz.prog ops S o (.int .i64 r) a :=
  Or.inl ⟨hw, fun w hS => by
    subst hr
    simp only [execOp, ho, hx, hy]
    go_simp
    rw [IntKind.wrap_i64]; omega⟩
theorem yt_eqlI (hw : Region.wanted o (yielded ops a.tmps) = true) (x y : Operand) (t : TypeId) (ho : o.op = .binOp .eql 3 x y t) (p q : Int) (r : Bool) (hx : a.eval x = .int .i64 p) (hy : a.eval y = .int .i64 q) (hr : decide (p = q) = r) : YieldsIf Tryz.prog ops S o (.bool r) a :=
  Or.inl ⟨hw, fun w hS => by
    subst hr
    simp only [execOp, ho, hx, hy]
    go_simp
    all_goals (by_cases h : p = q <;> simp [h] <;> (try omega))⟩
theorem yt_neqI (hw : Region.wanted o (yielded ops a.tmps) = true) (x y : Operand) (t : TypeId) (ho : o.op = .binOp .neq 3 x y t) (p q : Int) (r : Bool) (hx : a.eval x = .int .i64 p) (hy : a.eval y = .int .i64 q) (hr : decide (¬ p = q) = r) : YieldsIf Tryz.prog ops S o (.bool r) a :=
  Or.inl ⟨hw, fun w hS => by
    subst hr
    simp only [execOp, ho, hx, hy]
    go_simp
    all_goals (by_cases h : p = q <;> simp [h] <;> (try omega))⟩
theorem yt_lssI (hw : Region.wanted o (yielded ops a.tmps) = true) (x y : Operand) (t : TypeId) (ho : o.op = .binOp .lss 3 x y t) (p q : Int) (r : Bool) (hx : a.eval x = .int .i64 p) (hy : a.eval y = .int .i64 q) (hr : decide (p < q) = r) : YieldsIf Tryz.prog ops S o (.bool r) a :=
  Or.inl ⟨hw, fun w hS => by
    subst hr
    simp only [execOp, ho, hx, hy]
    go_simp
    all_goals (by_cases h : p < q <;> simp [h] <;> (try omega))⟩
theorem yt_gtrI (hw : Region.wanted o (yielded ops a.tmps) = true) (x y : Operand) (t : TypeId) (ho : o.op = .binOp .gtr 3 x y t) (p q : Int) (r : Bool) (hx : a.eval x = .int .i64 p) (hy : a.eval y = .int .i64 q) (hr : decide (q < p) = r) : YieldsIf Tryz.prog ops S o (.bool r) a :=
  Or.inl ⟨hw, fun w hS => by
    subst hr
    simp only [execOp, ho, hx, hy]
    go_simp
    all_goals (by_cases h : q < p <;> simp [h] <;> (try omega))⟩
theorem yt_geqI (hw : Region.wanted o (yielded ops a.tmps) = true) (x y : Operand) (t : TypeId) (ho : o.op = .binOp .geq 3 x y t) (p q : Int) (r : Bool) (hx : a.eval x = .int .i64 p) (hy : a.eval y = .int .i64 q) (hr : decide (q ≤ p) = r) : YieldsIf Tryz.prog ops S o (.bool r) a :=
  Or.inl ⟨hw, fun w hS => by
    subst hr
    simp only [execOp, ho, hx, hy]
    go_simp
    all_goals (by_cases h : q ≤ p <;> simp [h] <;> (try omega))⟩
theorem yt_eqlE (hw : Region.wanted o (yielded ops a.tmps) = true) (x y : Operand) (t : TypeId) (ho : o.op = .binOp .eql 33 x y t) (p q : Int) (r : Bool) (hx : a.eval x = .int .i64 p) (hy : a.eval y = .int .i64 q) (hr : decide (p = q) = r) : YieldsIf Tryz.prog ops S o (.bool r) a :=
  Or.inl ⟨hw, fun w hS => by
    subst hr
    simp only [execOp, ho, hx, hy]
    go_simp
    by_cases h : p = q <;> simp [h]⟩
theorem yt_neqE (hw : Region.wanted o (yielded ops a.tmps) = true) (x y : Operand) (t : TypeId) (ho : o.op = .binOp .neq 33 x y t) (p q : Int) (r : Bool) (hx : a.eval x = .int .i64 p) (hy : a.eval y = .int .i64 q) (hr : decide (¬ p = q) = r) : YieldsIf Tryz.prog ops S o (.bool r) a :=
  Or.inl ⟨hw, fun w hS => by
    subst hr
    simp only [execOp, ho, hx, hy]
    go_simp
    by_cases h : p = q <;> simp [h]⟩
/-! ### Parts of a tuple -/
theorem yt_ext3_0 (hw : Region.wanted o (yielded ops a.tmps) = true) (x : Operand) (ho : o.op = .extract x 0) (x0 x1 x2 : Value) (hx : a.eval x = .tuple #[x0, x1, x2]) : YieldsIf Tryz.prog ops S o x0 a :=
  Or.inl ⟨hw, fun w hS => by
    simp only [execOp, ho, hx]
    go_simp⟩
theorem yt_ext3_1 (hw : Region.wanted o (yielded ops a.tmps) = true) (x : Operand) (ho : o.op = .extract x 1) (x0 x1 x2 : Value) (hx : a.eval x = .tuple #[x0, x1, x2]) : YieldsIf Tryz.prog ops S o x1 a :=
  Or.inl ⟨hw, fun w hS => by
    simp only [execOp, ho, hx]
    go_simp⟩
theorem yt_ext3_2 (hw : Region.wanted o (yielded ops a.tmps) = true) (x : Operand) (ho : o.op = .extract x 2) (x0 x1 x2 : Value) (hx : a.eval x = .tuple #[x0, x1, x2]) : YieldsIf Tryz.prog ops S o x2 a :=
  Or.inl ⟨hw, fun w hS => by
    simp only [execOp, ho, hx]
    go_simp⟩
/-! ### Places in structs -/
set_option maxRecDepth 100000 in
theorem yt_fRd0 (hw : Region.wanted o (yielded ops a.tmps) = true) (x : Operand) (ho : o.op = .fieldAddr 120 x 0) (g k : Nat) (hx : a.eval x = .pointer (some ⟨g, k, none⟩)) : YieldsIf Tryz.prog ops S o (.pointer (some ⟨g, k + 0, none⟩)) a :=
  Or.inl ⟨hw, fun w hS => by
    simp only [execOp, ho, hx]
    go_simp⟩
set_option maxRecDepth 100000 in
theorem yt_fRd1 (hw : Region.wanted o (yielded ops a.tmps) = true) (x : Operand) (ho : o.op = .fieldAddr 120 x 1) (g k : Nat) (hx : a.eval x = .pointer (some ⟨g, k, none⟩)) : YieldsIf Tryz.prog ops S o (.pointer (some ⟨g, k + 1, none⟩)) a :=
  Or.inl ⟨hw, fun w hS => by
    simp only [execOp, ho, hx]
    go_simp⟩
set_option maxRecDepth 100000 in
theorem yt_fVa0 (hw : Region.wanted o (yielded ops a.tmps) = true) (x : Operand) (ho : o.op = .fieldAddr 44 x 0) (g k : Nat) (hx : a.eval x = .pointer (some ⟨g, k, none⟩)) : YieldsIf Tryz.prog ops S o (.pointer (some ⟨g, k + 0, none⟩)) a :=
  Or.inl ⟨hw, fun w hS => by
    simp only [execOp, ho, hx]
    go_simp⟩
set_option maxRecDepth 100000 in
theorem yt_fVa1 (hw : Region.wanted o (yielded ops a.tmps) = true) (x : Operand) (ho : o.op = .fieldAddr 44 x 1) (g k : Nat) (hx : a.eval x = .pointer (some ⟨g, k, none⟩)) : YieldsIf Tryz.prog ops S o (.pointer (some ⟨g, k + 1, none⟩)) a :=
  Or.inl ⟨hw, fun w hS => by
    simp only [execOp, ho, hx]
    go_simp⟩
set_option maxRecDepth 100000 in
theorem yt_fVa2 (hw : Region.wanted o (yielded ops a.tmps) = true) (x : Operand) (ho : o.op = .fieldAddr 44 x 2) (g k : Nat) (hx : a.eval x = .pointer (some ⟨g, k, none⟩)) : YieldsIf Tryz.prog ops S o (.pointer (some ⟨g, k + 2, none⟩)) a :=
  Or.inl ⟨hw, fun w hS => by
    simp only [execOp, ho, hx]
    go_simp⟩
set_option maxRecDepth 100000 in
theorem yt_fSt0 (hw : Region.wanted o (yielded ops a.tmps) = true) (x : Operand) (ho : o.op = .fieldAddr 25 x 0) (g k : Nat) (hx : a.eval x = .pointer (some ⟨g, k, none⟩)) : YieldsIf Tryz.prog ops S o (.pointer (some ⟨g, k + 0, none⟩)) a :=
  Or.inl ⟨hw, fun w hS => by
    simp only [execOp, ho, hx]
    go_simp⟩
set_option maxRecDepth 100000 in
theorem yt_fSt1 (hw : Region.wanted o (yielded ops a.tmps) = true) (x : Operand) (ho : o.op = .fieldAddr 25 x 1) (g k : Nat) (hx : a.eval x = .pointer (some ⟨g, k, none⟩)) : YieldsIf Tryz.prog ops S o (.pointer (some ⟨g, k + 1, none⟩)) a :=
  Or.inl ⟨hw, fun w hS => by
    simp only [execOp, ho, hx]
    go_simp⟩
set_option maxRecDepth 100000 in
theorem yt_fSt2 (hw : Region.wanted o (yielded ops a.tmps) = true) (x : Operand) (ho : o.op = .fieldAddr 25 x 2) (g k : Nat) (hx : a.eval x = .pointer (some ⟨g, k, none⟩)) : YieldsIf Tryz.prog ops S o (.pointer (some ⟨g, k + 2, none⟩)) a :=
  Or.inl ⟨hw, fun w hS => by
    simp only [execOp, ho, hx]
    go_simp⟩
set_option maxRecDepth 100000 in
theorem yt_fSt3 (hw : Region.wanted o (yielded ops a.tmps) = true) (x : Operand) (ho : o.op = .fieldAddr 25 x 3) (g k : Nat) (hx : a.eval x = .pointer (some ⟨g, k, none⟩)) : YieldsIf Tryz.prog ops S o (.pointer (some ⟨g, k + 3, none⟩)) a :=
  Or.inl ⟨hw, fun w hS => by
    simp only [execOp, ho, hx]
    go_simp⟩
set_option maxRecDepth 100000 in
theorem yt_fRg0 (hw : Region.wanted o (yielded ops a.tmps) = true) (x : Operand) (ho : o.op = .fieldAddr 60 x 0) (g k : Nat) (hx : a.eval x = .pointer (some ⟨g, k, none⟩)) : YieldsIf Tryz.prog ops S o (.pointer (some ⟨g, k + 0, none⟩)) a :=
  Or.inl ⟨hw, fun w hS => by
    simp only [execOp, ho, hx]
    go_simp⟩
set_option maxRecDepth 100000 in
theorem yt_fRg1 (hw : Region.wanted o (yielded ops a.tmps) = true) (x : Operand) (ho : o.op = .fieldAddr 60 x 1) (g k : Nat) (hx : a.eval x = .pointer (some ⟨g, k, none⟩)) : YieldsIf Tryz.prog ops S o (.pointer (some ⟨g, k + 1, none⟩)) a :=
  Or.inl ⟨hw, fun w hS => by
    simp only [execOp, ho, hx]
    go_simp⟩
set_option maxRecDepth 100000 in
theorem yt_fEx0 (hw : Region.wanted o (yielded ops a.tmps) = true) (x : Operand) (ho : o.op = .fieldAddr 28 x 0) (g k : Nat) (hx : a.eval x = .pointer (some ⟨g, k, none⟩)) : YieldsIf Tryz.prog ops S o (.pointer (some ⟨g, k + 0, none⟩)) a :=
  Or.inl ⟨hw, fun w hS => by
    simp only [execOp, ho, hx]
    go_simp⟩
set_option maxRecDepth 100000 in
theorem yt_fEx1 (hw : Region.wanted o (yielded ops a.tmps) = true) (x : Operand) (ho : o.op = .fieldAddr 28 x 1) (g k : Nat) (hx : a.eval x = .pointer (some ⟨g, k, none⟩)) : YieldsIf Tryz.prog ops S o (.pointer (some ⟨g, k + 1, none⟩)) a :=
  Or.inl ⟨hw, fun w hS => by
    simp only [execOp, ho, hx]
    go_simp⟩
set_option maxRecDepth 100000 in
theorem yt_fEx2 (hw : Region.wanted o (yielded ops a.tmps) = true) (x : Operand) (ho : o.op = .fieldAddr 28 x 2) (g k : Nat) (hx : a.eval x = .pointer (some ⟨g, k, none⟩)) : YieldsIf Tryz.prog ops S o (.pointer (some ⟨g, k + 2, none⟩)) a :=
  Or.inl ⟨hw, fun w hS => by
    simp only [execOp, ho, hx]
    go_simp⟩
set_option maxRecDepth 100000 in
theorem yt_fEx3 (hw : Region.wanted o (yielded ops a.tmps) = true) (x : Operand) (ho : o.op = .fieldAddr 28 x 3) (g k : Nat) (hx : a.eval x = .pointer (some ⟨g, k, none⟩)) : YieldsIf Tryz.prog ops S o (.pointer (some ⟨g, k + 6, none⟩)) a :=
  Or.inl ⟨hw, fun w hS => by
    simp only [execOp, ho, hx]
    go_simp⟩
/-! ### One cell -/
theorem yt_ldS (hw : Region.wanted o (yielded ops a.tmps) = true) (x : Operand) (ho : o.op = .load 9 x) (g k : Nat) (hx : a.eval x = .pointer (some ⟨g, k, none⟩)) (s : ByteArray) (h : ∀ w, S w → w.cell? ⟨g, k, none⟩ = some (.string s)) : YieldsIf Tryz.prog ops S o (.string s) a :=
  Or.inl ⟨hw, fun w hS => by
    have := h w hS
    simp only [execOp, ho, hx]
    go_simp⟩
theorem yt_ldI (hw : Region.wanted o (yielded ops a.tmps) = true) (x : Operand) (ho : o.op = .load 3 x) (g k : Nat) (hx : a.eval x = .pointer (some ⟨g, k, none⟩)) (z : Int) (h : ∀ w, S w → w.cell? ⟨g, k, none⟩ = some (.int .i64 z)) : YieldsIf Tryz.prog ops S o (.int .i64 z) a :=
  Or.inl ⟨hw, fun w hS => by
    have := h w hS
    simp only [execOp, ho, hx]
    go_simp⟩
theorem yt_ldB (hw : Region.wanted o (yielded ops a.tmps) = true) (x : Operand) (ho : o.op = .load 4 x) (g k : Nat) (hx : a.eval x = .pointer (some ⟨g, k, none⟩)) (z : Bool) (h : ∀ w, S w → w.cell? ⟨g, k, none⟩ = some (.bool z)) : YieldsIf Tryz.prog ops S o (.bool z) a :=
  Or.inl ⟨hw, fun w hS => by
    have := h w hS
    simp only [execOp, ho, hx]
    go_simp⟩
theorem wt_putB {rest : List Oper} {w : World} (hw : Region.wanted o (yielded ops a.tmps) = true) (x y : Operand) (ho : o.op = .store 4 x y) (g k : Nat) (hx : a.eval x = .pointer (some ⟨g, k, none⟩)) (z : Bool) (hy : a.eval y = .bool z) {cs : Array Value} {t : TypeId} (hc : w.heap[g]? = some (.cells cs t (0, 0))) (hk : k < cs.size)
    (h : ∀ W, W.heap[g]? = some (.cells (cs.setIfInBounds k (.bool z)) t (0, 0)) → w.grownBy W (some g) → wpList Tryz.prog ops Q rest (a.put o.dst undef) W) : wpList Tryz.prog ops Q (o :: rest) a w := by
  have c0 : w.cell? ⟨g, k, none⟩ = some cs[k] := by rw [cell_heap hc, Array.getElem?_eq_getElem hk]
  have f0 := frozen_heap hc k
  refine wl_skip hw (w.setCell ⟨g, k, none⟩ (.bool z)) ?_ (h _ (heap_setCell _ hc) (grown_put _ _ _ _))
  simp only [execOp, ho, hx, hy]
  go_simp
theorem wt_putE {rest : List Oper} {w : World} (hw : Region.wanted o (yielded ops a.tmps) = true) (x y : Operand) (ho : o.op = .store 33 x y) (g k : Nat) (hx : a.eval x = .pointer (some ⟨g, k, none⟩)) (z : Int) (hy : a.eval y = .int .i64 z) {cs : Array Value} {t : TypeId} (hc : w.heap[g]? = some (.cells cs t (0, 0))) (hk : k < cs.size)
    (h : ∀ W, W.heap[g]? = some (.cells (cs.setIfInBounds k (.int .i64 z)) t (0, 0)) → w.grownBy W (some g) → wpList Tryz.prog ops Q rest (a.put o.dst undef) W) : wpList Tryz.prog ops Q (o :: rest) a w := by
  have c0 : w.cell? ⟨g, k, none⟩ = some cs[k] := by rw [cell_heap hc, Array.getElem?_eq_getElem hk]
  have f0 := frozen_heap hc k
  refine wl_skip hw (w.setCell ⟨g, k, none⟩ (.int .i64 z)) ?_ (h _ (heap_setCell _ hc) (grown_put _ _ _ _))
  simp only [execOp, ho, hx, hy]
  go_simp
theorem wt_allocE {rest : List Oper} {w : World} (hw : Region.wanted o (yielded ops a.tmps) = true) (ho : o.op = .alloc 33)
    (h : ∀ W g, w.heap.size ≤ g → W.heap[g]? = some (.cells #[.int .i64 0] 33 (0, 0)) → Below w.heap.size w W → wpList Tryz.prog ops Q rest (a.put o.dst (.pointer (some ⟨g, 0, none⟩))) W) : wpList Tryz.prog ops Q (o :: rest) a w := by
  refine wl_run hw (.pointer (some ⟨w.heap.size, 0, none⟩)) (w.alloc (.cells #[.int .i64 0] 33 (0, 0))) ?_ (h _ _ (Nat.le_refl _) (heap_new _ _) ((Below.refl _ w).alloc (Nat.le_refl _) _))
  simp only [execOp, ho]
  go_simp
theorem yt_ldLr (hw : Region.wanted o (yielded ops a.tmps) = true) (x : Operand) (ho : o.op = .load 22 x) (g k : Nat) (hx : a.eval x = .pointer (some ⟨g, k, none⟩)) (p : Option Addr) (n c : Nat) (h : ∀ w, S w → w.cell? ⟨g, k, none⟩ = some (.slice p n c)) : YieldsIf Tryz.prog ops S o (.slice p n c) a :=
  Or.inl ⟨hw, fun w hS => by
    have := h w hS
    simp only [execOp, ho, hx]
    go_simp⟩
theorem yt_ldLs (hw : Region.wanted o (yielded ops a.tmps) = true) (x : Operand) (ho : o.op = .load 23 x) (g k : Nat) (hx : a.eval x = .pointer (some ⟨g, k, none⟩)) (p : Option Addr) (n c : Nat) (h : ∀ w, S w → w.cell? ⟨g, k, none⟩ = some (.slice p n c)) : YieldsIf Tryz.prog ops S o (.slice p n c) a :=
  Or.inl ⟨hw, fun w hS => by
    have := h w hS
    simp only [execOp, ho, hx]
    go_simp⟩
theorem yt_ldLx (hw : Region.wanted o (yielded ops a.tmps) = true) (x : Operand) (ho : o.op = .load 26 x) (g k : Nat) (hx : a.eval x = .pointer (some ⟨g, k, none⟩)) (p : Option Addr) (n c : Nat) (h : ∀ w, S w → w.cell? ⟨g, k, none⟩ = some (.slice p n c)) : YieldsIf Tryz.prog ops S o (.slice p n c) a :=
  Or.inl ⟨hw, fun w hS => by
    have := h w hS
    simp only [execOp, ho, hx]
    go_simp⟩
theorem wt_allocLx {rest : List Oper} {w : World} (hw : Region.wanted o (yielded ops a.tmps) = true) (ho : o.op = .alloc 26)
    (h : ∀ W g, w.heap.size ≤ g → W.heap[g]? = some (.cells #[.slice none 0 0] 26 (0, 0)) → Below w.heap.size w W → wpList Tryz.prog ops Q rest (a.put o.dst (.pointer (some ⟨g, 0, none⟩))) W) : wpList Tryz.prog ops Q (o :: rest) a w := by
  refine wl_run hw (.pointer (some ⟨w.heap.size, 0, none⟩)) (w.alloc (.cells #[.slice none 0 0] 26 (0, 0))) ?_ (h _ _ (Nat.le_refl _) (heap_new _ _) ((Below.refl _ w).alloc (Nat.le_refl _) _))
  simp only [execOp, ho]
  go_simp
theorem yt_ldPr (hw : Region.wanted o (yielded ops a.tmps) = true) (x : Operand) (ho : o.op = .load 87 x) (g k : Nat) (hx : a.eval x = .pointer (some ⟨g, k, none⟩)) (p : Option Addr) (h : ∀ w, S w → w.cell? ⟨g, k, none⟩ = some (.pointer p)) : YieldsIf Tryz.prog ops S o (.pointer p) a :=
  Or.inl ⟨hw, fun w hS => by
    have := h w hS
    simp only [execOp, ho, hx]
    go_simp⟩
theorem wt_boxPr {rest : List Oper} {w : World} (hw : Region.wanted o (yielded ops a.tmps) = true) (x : Operand) (ho : o.op = .box 87 x) (p : Option Addr) (hx : a.eval x = .pointer p)
    (h : ∀ W g, w.heap.size ≤ g → W.heap[g]? = some (.cells #[.pointer p] 87 (0, 0)) → Below w.heap.size w W → wpList Tryz.prog ops Q rest (a.put o.dst (.pointer (some ⟨g, 0, none⟩))) W) : wpList Tryz.prog ops Q (o :: rest) a w := by
  refine wl_run hw (.pointer (some ⟨w.heap.size, 0, none⟩)) (w.alloc (.cells #[.pointer p] 87 (0, 0))) ?_ (h _ _ (Nat.le_refl _) (heap_new _ _) ((Below.refl _ w).alloc (Nat.le_refl _) _))
  simp only [execOp, ho, hx]
  go_simp
/-! ### Structs whole -/
theorem infoEv12 : (Tryz.prog.info? 46).map (·.size) = some 12 := by kernel_rfl
def vZ : Va := (0, 0, ⟨#[]⟩)
def rgObj (r : Rg) : Obj := .cells #[.int .i64 r.1, .int .i64 r.2] 60 (0, 0)
theorem infoRg2 : (Tryz.prog.info? 60).map (·.size) = some 2 := by kernel_rfl
set_option maxHeartbeats 1000000 in
set_option maxRecDepth 100000 in
theorem wt_putVa {rest : List Oper} {w : World} (hw : o.guard = none) (x y : Operand) (ho : o.op = .store 44 x y) (g : Nat) (hx : a.eval x = .pointer (some ⟨g, 0, none⟩)) (v : Va) (hy : a.eval y = vVal v) {cs : Array Value} (hc : w.heap[g]? = some (.cells cs 44 (0, 0))) (hk : cs.size = 3)
    (h : ∀ W, W.heap[g]? = some (vObj v) → w.grownBy W (some g) → wpList Tryz.prog ops Q rest (a.put o.dst undef) W) : wpList Tryz.prog ops Q (o :: rest) a w := by
  have ht : w.there g 0 3 := fun j hj => ⟨by rw [cell_heap hc, Nat.zero_add, Array.getElem?_eq_getElem (by omega)]; rfl, frozen_heap hc _⟩
  refine wpList_store_mid hw 44 x y ho g 0 #[Value.int .i64 v.1, .int .i64 v.2.1, .string v.2.2] hx hy ht (by rw [infoV]; rfl) (by simp [Value.oneCell']) ?_
  obtain ⟨h1, h2⟩ := put_whole [Value.int .i64 v.1, .int .i64 v.2.1, .string v.2.2] hc (by rw [hk]; rfl)
  exact h _ h1 h2
theorem wt_allocVa {rest : List Oper} {w : World} (hw : Region.wanted o (yielded ops a.tmps) = true) (ho : o.op = .alloc 44)
    (h : ∀ W g, w.heap.size ≤ g → W.heap[g]? = some (vObj vZ) → Below w.heap.size w W → wpList Tryz.prog ops Q rest (a.put o.dst (.pointer (some ⟨g, 0, none⟩))) W) : wpList Tryz.prog ops Q (o :: rest) a w := by
  refine wl_run hw (.pointer (some ⟨w.heap.size, 0, none⟩)) (w.alloc (vObj vZ)) ?_ (h _ _ (Nat.le_refl _) (heap_new _ _) ((Below.refl _ w).alloc (Nat.le_refl _) _))
  simp only [execOp, ho, vObj, vZ]
  go_simp
set_option maxHeartbeats 1000000 in
set_option maxRecDepth 100000 in
theorem wt_putSt {rest : List Oper} {w : World} (hw : o.guard = none) (x y : Operand) (ho : o.op = .store 25 x y) (g : Nat) (hx : a.eval x = .pointer (some ⟨g, 0, none⟩)) (s : SC) (hy : a.eval y = s.val) {cs : Array Value} (hc : w.heap[g]? = some (.cells cs 25 (0, 0))) (hk : cs.size = 4)
    (h : ∀ W, W.heap[g]? = some (stObj s) → w.grownBy W (some g) → wpList Tryz.prog ops Q rest (a.put o.dst undef) W) : wpList Tryz.prog ops Q (o :: rest) a w := by
  have ht : w.there g 0 4 := fun j hj => ⟨by rw [cell_heap hc, Nat.zero_add, Array.getElem?_eq_getElem (by omega)]; rfl, frozen_heap hc _⟩
  refine wpList_store_mid hw 25 x y ho g 0 #[Value.bool s.a, .slice s.p s.n s.c, .bool s.d, .slice s.q s.m s.e] hx hy ht (by rw [infoSet4]; rfl) (by simp [Value.oneCell']) ?_
  obtain ⟨h1, h2⟩ := put_whole [Value.bool s.a, .slice s.p s.n s.c, .bool s.d, .slice s.q s.m s.e] hc (by rw [hk]; rfl)
  exact h _ h1 h2
theorem wt_boxSt {rest : List Oper} {w : World} (hw : Region.wanted o (yielded ops a.tmps) = true) (x : Operand) (ho : o.op = .box 25 x) (s : SC) (hx : a.eval x = s.val)
    (h : ∀ W g, w.heap.size ≤ g → W.heap[g]? = some (stObj s) → Below w.heap.size w W → wpList Tryz.prog ops Q rest (a.put o.dst (.pointer (some ⟨g, 0, none⟩))) W) : wpList Tryz.prog ops Q (o :: rest) a w := by
  refine wl_run hw (.pointer (some ⟨w.heap.size, 0, none⟩)) (w.alloc (stObj s)) ?_ (h _ _ (Nat.le_refl _) (heap_new _ _) ((Below.refl _ w).alloc (Nat.le_refl _) _))
  simp only [execOp, ho, hx, SC.val, stObj]
  go_simp
theorem wt_allocSt {rest : List Oper} {w : World} (hw : Region.wanted o (yielded ops a.tmps) = true) (ho : o.op = .alloc 25)
    (h : ∀ W g, w.heap.size ≤ g → W.heap[g]? = some (stObj SC.zero) → Below w.heap.size w W → wpList Tryz.prog ops Q rest (a.put o.dst (.pointer (some ⟨g, 0, none⟩))) W) : wpList Tryz.prog ops Q (o :: rest) a w := by
  refine wl_run hw (.pointer (some ⟨w.heap.size, 0, none⟩)) (w.alloc (stObj SC.zero)) ?_ (h _ _ (Nat.le_refl _) (heap_new _ _) ((Below.refl _ w).alloc (Nat.le_refl _) _))
  simp only [execOp, ho, stObj, SC.zero]
  go_simp
set_option maxHeartbeats 1000000 in
set_option maxRecDepth 100000 in
theorem wt_putEx {rest : List Oper} {w : World} (hw : o.guard = none) (x y : Operand) (ho : o.op = .store 28 x y) (g : Nat) (hx : a.eval x = .pointer (some ⟨g, 0, none⟩)) (c : EC) (hy : a.eval y = c.val) {cs : Array Value} (hc : w.heap[g]? = some (.cells cs 28 (0, 0))) (hk : cs.size = 7)
    (h : ∀ W, W.heap[g]? = some (exObj c) → w.grownBy W (some g) → wpList Tryz.prog ops Q rest (a.put o.dst undef) W) : wpList Tryz.prog ops Q (o :: rest) a w := by
  have ht : w.there g 0 7 := fun j hj => ⟨by rw [cell_heap hc, Nat.zero_add, Array.getElem?_eq_getElem (by omega)]; rfl, frozen_heap hc _⟩
  refine wpList_store_mid hw 28 x y ho g 0 #[Value.int .i64 c.k, .int .i64 c.t, .bool c.s.a, .slice c.s.p c.s.n c.s.c, .bool c.s.d, .slice c.s.q c.s.m c.s.e, .slice c.p c.n c.c] hx hy ht (by rw [infoEx]; rfl) (by simp [Value.oneCell']) ?_
  obtain ⟨h1, h2⟩ := put_whole [Value.int .i64 c.k, .int .i64 c.t, .bool c.s.a, .slice c.s.p c.s.n c.s.c, .bool c.s.d, .slice c.s.q c.s.m c.s.e, .slice c.p c.n c.c] hc (by rw [hk]; rfl)
  exact h _ h1 h2
theorem wt_boxEx {rest : List Oper} {w : World} (hw : Region.wanted o (yielded ops a.tmps) = true) (x : Operand) (ho : o.op = .box 28 x) (c : EC) (hx : a.eval x = c.val)
    (h : ∀ W g, w.heap.size ≤ g → W.heap[g]? = some (exObj c) → Below w.heap.size w W → wpList Tryz.prog ops Q rest (a.put o.dst (.pointer (some ⟨g, 0, none⟩))) W) : wpList Tryz.prog ops Q (o :: rest) a w := by
  refine wl_run hw (.pointer (some ⟨w.heap.size, 0, none⟩)) (w.alloc (exObj c)) ?_ (h _ _ (Nat.le_refl _) (heap_new _ _) ((Below.refl _ w).alloc (Nat.le_refl _) _))
  simp only [execOp, ho, hx, EC.val, exObj]
  go_simp
theorem wt_allocEx {rest : List Oper} {w : World} (hw : Region.wanted o (yielded ops a.tmps) = true) (ho : o.op = .alloc 28)
    (h : ∀ W g, w.heap.size ≤ g → W.heap[g]? = some (exObj ec0) → Below w.heap.size w W → wpList Tryz.prog ops Q rest (a.put o.dst (.pointer (some ⟨g, 0, none⟩))) W) : wpList Tryz.prog ops Q (o :: rest) a w := by
  refine wl_run hw (.pointer (some ⟨w.heap.size, 0, none⟩)) (w.alloc (exObj ec0)) ?_ (h _ _ (Nat.le_refl _) (heap_new _ _) ((Below.refl _ w).alloc (Nat.le_refl _) _))
  simp only [execOp, ho, exObj, ec0, SC.zero]
  go_simp
set_option maxHeartbeats 1000000 in
set_option maxRecDepth 100000 in
theorem wt_putRg {rest : List Oper} {w : World} (hw : o.guard = none) (x y : Operand) (ho : o.op = .store 60 x y) (g : Nat) (hx : a.eval x = .pointer (some ⟨g, 0, none⟩)) (r : Rg) (hy : a.eval y = .agg #[.int .i64 r.1, .int .i64 r.2]) {cs : Array Value} (hc : w.heap[g]? = some (.cells cs 60 (0, 0))) (hk : cs.size = 2)
    (h : ∀ W, W.heap[g]? = some (rgObj r) → w.grownBy W (some g) → wpList Tryz.prog ops Q rest (a.put o.dst undef) W) : wpList Tryz.prog ops Q (o :: rest) a w := by
  have ht : w.there g 0 2 := fun j hj => ⟨by rw [cell_heap hc, Nat.zero_add, Array.getElem?_eq_getElem (by omega)]; rfl, frozen_heap hc _⟩
  refine wpList_store_mid hw 60 x y ho g 0 #[Value.int .i64 r.1, .int .i64 r.2] hx hy ht (by rw [infoRg2]; rfl) (by simp [Value.oneCell']) ?_
  obtain ⟨h1, h2⟩ := put_whole [Value.int .i64 r.1, .int .i64 r.2] hc (by rw [hk]; rfl)
  exact h _ h1 h2
theorem wt_boxRg {rest : List Oper} {w : World} (hw : Region.wanted o (yielded ops a.tmps) = true) (x : Operand) (ho : o.op = .box 60 x) (r : Rg) (hx : a.eval x = .agg #[.int .i64 r.1, .int .i64 r.2])
    (h : ∀ W g, w.heap.size ≤ g → W.heap[g]? = some (rgObj r) → Below w.heap.size w W → wpList Tryz.prog ops Q rest (a.put o.dst (.pointer (some ⟨g, 0, none⟩))) W) : wpList Tryz.prog ops Q (o :: rest) a w := by
  refine wl_run hw (.pointer (some ⟨w.heap.size, 0, none⟩)) (w.alloc (rgObj r)) ?_ (h _ _ (Nat.le_refl _) (heap_new _ _) ((Below.refl _ w).alloc (Nat.le_refl _) _))
  simp only [execOp, ho, hx, rgObj]
  go_simp
theorem wt_allocRg {rest : List Oper} {w : World} (hw : Region.wanted o (yielded ops a.tmps) = true) (ho : o.op = .alloc 60)
    (h : ∀ W g, w.heap.size ≤ g → W.heap[g]? = some (rgObj (0, 0)) → Below w.heap.size w W → wpList Tryz.prog ops Q rest (a.put o.dst (.pointer (some ⟨g, 0, none⟩))) W) : wpList Tryz.prog ops Q (o :: rest) a w := by
  refine wl_run hw (.pointer (some ⟨w.heap.size, 0, none⟩)) (w.alloc (rgObj (0, 0))) ?_ (h _ _ (Nat.le_refl _) (heap_new _ _) ((Below.refl _ w).alloc (Nat.le_refl _) _))
  simp only [execOp, ho, rgObj]
  go_simp
set_option maxHeartbeats 1000000 in
set_option maxRecDepth 100000 in
theorem wt_putEv {rest : List Oper} {w : World} (hw : o.guard = none) (x y : Operand) (ho : o.op = .store 46 x y) (g : Nat) (hx : a.eval x = .pointer (some ⟨g, 0, none⟩)) (e : EvV) (hy : a.eval y = evVal e) {cs : Array Value} (hc : w.heap[g]? = some (.cells cs 46 (0, 0))) (hk : cs.size = 12)
    (h : ∀ W, W.heap[g]? = some (evObj e) → w.grownBy W (some g) → wpList Tryz.prog ops Q rest (a.put o.dst undef) W) : wpList Tryz.prog ops Q (o :: rest) a w := by
  have ht : w.there g 0 12 := fun j hj => ⟨by rw [cell_heap hc, Nat.zero_add, Array.getElem?_eq_getElem (by omega)]; rfl, frozen_heap hc _⟩
  refine wpList_store_mid hw 46 x y ho g 0 #[Value.int .i64 e.v0.1, .int .i64 e.v0.2.1, .string e.v0.2.2, .int .i64 e.v1.1, .int .i64 e.v1.2.1, .string e.v1.2.2, .int .i64 e.v2.1, .int .i64 e.v2.2.1, .string e.v2.2.2, .int .i64 e.v3.1, .int .i64 e.v3.2.1, .string e.v3.2.2] hx hy ht (by rw [infoEv12]; rfl) (by simp [Value.oneCell']) ?_
  obtain ⟨h1, h2⟩ := put_whole [Value.int .i64 e.v0.1, .int .i64 e.v0.2.1, .string e.v0.2.2, .int .i64 e.v1.1, .int .i64 e.v1.2.1, .string e.v1.2.2, .int .i64 e.v2.1, .int .i64 e.v2.2.1, .string e.v2.2.2, .int .i64 e.v3.1, .int .i64 e.v3.2.1, .string e.v3.2.2] hc (by rw [hk]; rfl)
  exact h _ h1 h2
theorem wt_boxEv {rest : List Oper} {w : World} (hw : Region.wanted o (yielded ops a.tmps) = true) (x : Operand) (ho : o.op = .box 46 x) (e : EvV) (hx : a.eval x = evVal e)
    (h : ∀ W g, w.heap.size ≤ g → W.heap[g]? = some (evObj e) → Below w.heap.size w W → wpList Tryz.prog ops Q rest (a.put o.dst (.pointer (some ⟨g, 0, none⟩))) W) : wpList Tryz.prog ops Q (o :: rest) a w := by
  refine wl_run hw (.pointer (some ⟨w.heap.size, 0, none⟩)) (w.alloc (evObj e)) ?_ (h _ _ (Nat.le_refl _) (heap_new _ _) ((Below.refl _ w).alloc (Nat.le_refl _) _))
  simp only [execOp, ho, hx, evVal, evObj]
  go_simp
theorem wt_allocEv {rest : List Oper} {w : World} (hw : Region.wanted o (yielded ops a.tmps) = true) (ho : o.op = .alloc 46)
    (h : ∀ W g, w.heap.size ≤ g → W.heap[g]? = some (evObj evZ) → Below w.heap.size w W → wpList Tryz.prog ops Q rest (a.put o.dst (.pointer (some ⟨g, 0, none⟩))) W) : wpList Tryz.prog ops Q (o :: rest) a w := by
  refine wl_run hw (.pointer (some ⟨w.heap.size, 0, none⟩)) (w.alloc (evObj evZ)) ?_ (h _ _ (Nat.le_refl _) (heap_new _ _) ((Below.refl _ w).alloc (Nat.le_refl _) _))
  simp only [execOp, ho, evObj, evZ, vaZ]
  go_simp
end
end Go.Proofs.YtciflobdpenpaaaGreatDoor
/-
  The reader's calls: value, highest, attr.
-/
set_option linter.unusedSimpArgs false
set_option linter.unusedVariables false
namespace Go.Proofs.YtciflobdpenpaaaGreatDoor
open Go.RowKit

/-- What a reading is, in the words of the values read. -/
theorem valL_read {l r : List UInt8} {v : Va} (h : valL l = some (v, r)) : ∃ j, readL l = some (v.1, v.2.1, v.2.2.data.toList, j) ∧ j ≤ l.length ∧ r = l.drop j := by
  unfold valL at h
  cases e : readL l with
  | none => rw [e] at h; cases h
  | some q =>
    obtain ⟨k, n, s, j⟩ := q
    rw [e] at h
    injection h with h
    injection h with h1 h2
    subst h1
    exact ⟨j, by simp, (readL_long e).2, h2.symm⟩
theorem read_no (l : List UInt8) (w : World) (hE : Env w) (hs : l.length ≤ 1048576) (hv : valL l = none) :
    Calls Tryz.prog 99 #[.string (bs l)] w fun e w' => e = .returned (.tuple #[.agg #[.int .i64 0, .int .i64 0, .string (bs [])], .int .i64 0, .bool false]) ∧ Below w.heap.size w w' := by
  have hr : readL l = none := by
    unfold valL at hv
    cases e : readL l with
    | none => rfl
    | some q => obtain ⟨k, n, s, j⟩ := q; rw [e] at hv; cases hv
  have := read_list l w hE hs
  rw [hr] at this
  exact this
theorem read_yes {l : List UInt8} {v : Va} {j : Nat} (hr : readL l = some (v.1, v.2.1, v.2.2.data.toList, j)) (l' : List UInt8) (w : World) (hE : Env w) (hs : l.length ≤ 1048576) :
    Calls Tryz.prog 99 #[.string (bs l)] w fun e w' => e = .returned (.tuple #[vVal v, .int .i64 (j : Nat), .bool true]) ∧ Below w.heap.size w w' := by
  have := read_list l w hE hs
  rw [hr] at this
  exact this
set_option maxHeartbeats 1000000 in
set_option maxRecDepth 100000 in
theorem value_no (b : Nat) (l : List UInt8) (w : World) (H : Rdr w b l) (hs : l.length ≤ 1048576) (hv : valL l = none) :
    Calls Tryz.prog 79 #[.pointer (some ⟨b, 0, none⟩)] w fun e w' => e = .panicked chE ∧ w.grownBy w' (some b) := by
  have w6 : 6 ≤ w.heap.size := H.env.big
  have D : w.grownBy w (some b) := grown_refl _ _
  go_enter Tryz.func79, Tryz.ntmps79
  refine wp_seq_k (fun K1 hK1 => ?_)
  refine wp_region_lit ?_
  refine wt_allocVa (o := ⟨_, _, _, _, _, _⟩) (by rfl) rfl (fun v1 g1 hg G1 kb => ?_)
  simp only [Act.put, List.setIfInBounds_toArray, List.set_cons_zero, List.set_cons_succ]
  have n_b_g1 : b ≠ g1 := by have := H.lt; omega
  have ge_g1 : w.heap.size ≤ g1 := Nat.le_trans D.size hg
  have six_g1 : 6 ≤ g1 := Nat.le_trans w6 ge_g1
  clear hg
  replace D := grown_below D kb
  replace H := H.on kb
  clear kb
  replace G1 : v1.heap[g1]? = some (.cells #[.int .i64 0, .int .i64 0, .string (bs ([]))] 44 (0, 0)) := G1
  refine wpList_nil ?_
  refine hK1 _ _ ?_
  clear hK1 K1
  refine wp_seq_k (fun K2 hK2 => ?_)
  refine wp_region_lit ?_
  refine wl_yield (o := ⟨_, _, _, _, _, _⟩) (.pointer (some ⟨b, 0, none⟩)) (yl_move (by rfl) _ rfl _ rfl) ?_
  simp only [Act.put, List.setIfInBounds_toArray, List.set_cons_zero, List.set_cons_succ]
  refine wl_yield (o := ⟨_, _, _, _, _, _⟩) (.pointer (some ⟨b, 0, none⟩)) (yt_nil (by rfl) _ rfl _ rfl) ?_
  simp only [Act.put, List.setIfInBounds_toArray, List.set_cons_zero, List.set_cons_succ]
  refine wl_yield (o := ⟨_, _, _, _, _, _⟩) (.pointer (some ⟨b, 0, none⟩)) (yt_fRd0 (by rfl) _ rfl b 0 rfl) ?_
  simp only [Act.put, List.setIfInBounds_toArray, List.set_cons_zero, List.set_cons_succ]
  refine wl_yield (o := ⟨_, _, _, _, _, _⟩) (.string (bs l)) (yt_ldS (by rfl) _ rfl _ _ rfl (bs l) (fun _ h => by subst h; exact H.rd.cell.1)) ?_
  simp only [Act.put, List.setIfInBounds_toArray, List.set_cons_zero, List.set_cons_succ]
  refine wt_call (o := ⟨_, _, _, _, _, _⟩) (by rfl) 99 _ _ rfl #[.string (bs l)] rfl (run_call Tryz.func99 (by kernel_rfl) (by kernel_rfl)) ?_
  refine (read_no l _ H.env hs hv).mono ?_
  rintro r v2 ⟨rfl, kb⟩
  replace D := grown_below D kb
  replace H := H.on kb
  replace G1 := heap_on G1 kb
  clear kb
  refine Or.inl ⟨.tuple #[.agg #[.int .i64 0, .int .i64 0, .string (bs ([]))], .int .i64 0, .bool false], rfl, ?_⟩
  simp only [Act.put, List.setIfInBounds_toArray, List.set_cons_zero, List.set_cons_succ]
  refine wl_yield (o := ⟨_, _, _, _, _, _⟩) (.tuple #[.agg #[.int .i64 0, .int .i64 0, .string (bs ([]))], .int .i64 0, .bool false]) (yl_move (by rfl) _ rfl _ rfl) ?_
  simp only [Act.put, List.setIfInBounds_toArray, List.set_cons_zero, List.set_cons_succ]
  refine wl_yield (o := ⟨_, _, _, _, _, _⟩) (.agg #[.int .i64 0, .int .i64 0, .string (bs ([]))]) (yt_ext3_0 (by rfl) _ rfl _ _ _ rfl) ?_
  simp only [Act.put, List.setIfInBounds_toArray, List.set_cons_zero, List.set_cons_succ]
  refine wl_yield (o := ⟨_, _, _, _, _, _⟩) (.int .i64 0) (yt_ext3_1 (by rfl) _ rfl _ _ _ rfl) ?_
  simp only [Act.put, List.setIfInBounds_toArray, List.set_cons_zero, List.set_cons_succ]
  refine wl_yield (o := ⟨_, _, _, _, _, _⟩) (.bool false) (yt_ext3_2 (by rfl) _ rfl _ _ _ rfl) ?_
  simp only [Act.put, List.setIfInBounds_toArray, List.set_cons_zero, List.set_cons_succ]
  refine wt_allocVa (o := ⟨_, _, _, _, _, _⟩) (by rfl) rfl (fun v3 g3 hg G3 kb => ?_)
  simp only [Act.put, List.setIfInBounds_toArray, List.set_cons_zero, List.set_cons_succ]
  have n_b_g3 : b ≠ g3 := by have := H.lt; omega
  have n_g1_g3 : g1 ≠ g3 := by have := lt_heap G1; omega
  have ge_g3 : w.heap.size ≤ g3 := Nat.le_trans D.size hg
  have six_g3 : 6 ≤ g3 := Nat.le_trans w6 ge_g3
  clear hg
  replace D := grown_below D kb
  replace H := H.on kb
  replace G1 := heap_on G1 kb
  clear kb
  replace G3 : v3.heap[g3]? = some (.cells #[.int .i64 0, .int .i64 0, .string (bs ([]))] 44 (0, 0)) := G3
  refine wt_putVa (o := ⟨_, _, _, _, _, _⟩) rfl _ _ rfl _ rfl ((0, 0, (bs ([])))) rfl G3 rfl (fun v4 X kg => ?_)
  simp only [Act.put, List.setIfInBounds_toArray, List.set_cons_zero, List.set_cons_succ]
  replace D := gr_new D ge_g3 kg
  replace H := H.gr kg n_b_g3 six_g3
  replace G1 := heap_gr G1 kg n_g1_g3
  clear kg
  replace G3 : v4.heap[g3]? = some (.cells #[.int .i64 0, .int .i64 0, .string (bs ([]))] 44 (0, 0)) := X
  clear X
  refine wl_yield (o := ⟨_, _, _, _, _, _⟩) (.int .i64 0) (yl_assign (by rfl) _ rfl _ rfl) ?_
  simp only [Act.put, List.setIfInBounds_toArray, List.set_cons_zero, List.set_cons_succ]
  refine wl_yield (o := ⟨_, _, _, _, _, _⟩) (.bool false) (yl_assign (by rfl) _ rfl _ rfl) ?_
  simp only [Act.put, List.setIfInBounds_toArray, List.set_cons_zero, List.set_cons_succ]
  refine wpList_nil ?_
  refine hK2 _ _ ?_
  clear hK2 K2
  refine wp_seq_k (fun K3 hK3 => ?_)
  refine wp_seq_k (fun K4 hK4 => ?_)
  refine wp_region_lit ?_
  refine wl_yield (o := ⟨_, _, _, _, _, _⟩) (.bool false) (yl_move (by rfl) _ rfl _ rfl) ?_
  simp only [Act.put, List.setIfInBounds_toArray, List.set_cons_zero, List.set_cons_succ]
  refine wl_yield (o := ⟨_, _, _, _, _, _⟩) (.bool true) (yl_not (by rfl) _ _ rfl false rfl) ?_
  simp only [Act.put, List.setIfInBounds_toArray, List.set_cons_zero, List.set_cons_succ]
  refine wpList_nil ?_
  refine hK4 _ _ ?_
  clear hK4 K4
  refine wp_cond_true rfl ?_
  refine wp_region_lit ?_
  refine wl_yield (o := ⟨_, _, _, _, _, _⟩) (.iface 33 (.int .i64 2)) (yt_iface (by rfl) _ rfl 2 rfl) ?_
  simp only [Act.put, List.setIfInBounds_toArray, List.set_cons_zero, List.set_cons_succ]
  refine wt_panic (o := ⟨_, _, _, _, _, _⟩) (by rfl) _ rfl _ _ rfl ?_
  exact ⟨rfl, rfl, D⟩

set_option maxHeartbeats 1000000 in
set_option maxRecDepth 100000 in
theorem value_yes (b : Nat) (l r : List UInt8) (v : Va) (w : World) (H : Rdr w b l) (hs : l.length ≤ 1048576) (hv : valL l = some (v, r)) :
    Calls Tryz.prog 79 #[.pointer (some ⟨b, 0, none⟩)] w fun e w' => e = .returned (vVal v) ∧ RdL w' b r ∧ w.grownBy w' (some b) := by
  obtain ⟨j, hr, hj, rfl⟩ := valL_read hv
  have w6 : 6 ≤ w.heap.size := H.env.big
  have D : w.grownBy w (some b) := grown_refl _ _
  go_enter Tryz.func79, Tryz.ntmps79
  refine wp_seq_k (fun K1 hK1 => ?_)
  refine wp_region_lit ?_
  refine wt_allocVa (o := ⟨_, _, _, _, _, _⟩) (by rfl) rfl (fun v1 g1 hg G1 kb => ?_)
  simp only [Act.put, List.setIfInBounds_toArray, List.set_cons_zero, List.set_cons_succ]
  have n_b_g1 : b ≠ g1 := by have := H.lt; omega
  have ge_g1 : w.heap.size ≤ g1 := Nat.le_trans D.size hg
  have six_g1 : 6 ≤ g1 := Nat.le_trans w6 ge_g1
  clear hg
  replace D := grown_below D kb
  replace H := H.on kb
  clear kb
  replace G1 : v1.heap[g1]? = some (.cells #[.int .i64 0, .int .i64 0, .string (bs ([]))] 44 (0, 0)) := G1
  refine wpList_nil ?_
  refine hK1 _ _ ?_
  clear hK1 K1
  refine wp_seq_k (fun K2 hK2 => ?_)
  refine wp_region_lit ?_
  refine wl_yield (o := ⟨_, _, _, _, _, _⟩) (.pointer (some ⟨b, 0, none⟩)) (yl_move (by rfl) _ rfl _ rfl) ?_
  simp only [Act.put, List.setIfInBounds_toArray, List.set_cons_zero, List.set_cons_succ]
  refine wl_yield (o := ⟨_, _, _, _, _, _⟩) (.pointer (some ⟨b, 0, none⟩)) (yt_nil (by rfl) _ rfl _ rfl) ?_
  simp only [Act.put, List.setIfInBounds_toArray, List.set_cons_zero, List.set_cons_succ]
  refine wl_yield (o := ⟨_, _, _, _, _, _⟩) (.pointer (some ⟨b, 0, none⟩)) (yt_fRd0 (by rfl) _ rfl b 0 rfl) ?_
  simp only [Act.put, List.setIfInBounds_toArray, List.set_cons_zero, List.set_cons_succ]
  refine wl_yield (o := ⟨_, _, _, _, _, _⟩) (.string (bs l)) (yt_ldS (by rfl) _ rfl _ _ rfl (bs l) (fun _ h => by subst h; exact H.rd.cell.1)) ?_
  simp only [Act.put, List.setIfInBounds_toArray, List.set_cons_zero, List.set_cons_succ]
  refine wt_call (o := ⟨_, _, _, _, _, _⟩) (by rfl) 99 _ _ rfl #[.string (bs l)] rfl (run_call Tryz.func99 (by kernel_rfl) (by kernel_rfl)) ?_
  refine (read_yes hr l _ H.env hs).mono ?_
  rintro r v2 ⟨rfl, kb⟩
  replace D := grown_below D kb
  replace H := H.on kb
  replace G1 := heap_on G1 kb
  clear kb
  refine Or.inl ⟨.tuple #[vVal v, .int .i64 (j : Nat), .bool true], rfl, ?_⟩
  simp only [Act.put, List.setIfInBounds_toArray, List.set_cons_zero, List.set_cons_succ]
  refine wl_yield (o := ⟨_, _, _, _, _, _⟩) (.tuple #[vVal v, .int .i64 (j : Nat), .bool true]) (yl_move (by rfl) _ rfl _ rfl) ?_
  simp only [Act.put, List.setIfInBounds_toArray, List.set_cons_zero, List.set_cons_succ]
  refine wl_yield (o := ⟨_, _, _, _, _, _⟩) (vVal v) (yt_ext3_0 (by rfl) _ rfl _ _ _ rfl) ?_
  simp only [Act.put, List.setIfInBounds_toArray, List.set_cons_zero, List.set_cons_succ]
  refine wl_yield (o := ⟨_, _, _, _, _, _⟩) (.int .i64 (j : Nat)) (yt_ext3_1 (by rfl) _ rfl _ _ _ rfl) ?_
  simp only [Act.put, List.setIfInBounds_toArray, List.set_cons_zero, List.set_cons_succ]
  refine wl_yield (o := ⟨_, _, _, _, _, _⟩) (.bool true) (yt_ext3_2 (by rfl) _ rfl _ _ _ rfl) ?_
  simp only [Act.put, List.setIfInBounds_toArray, List.set_cons_zero, List.set_cons_succ]
  refine wt_allocVa (o := ⟨_, _, _, _, _, _⟩) (by rfl) rfl (fun v3 g3 hg G3 kb => ?_)
  simp only [Act.put, List.setIfInBounds_toArray, List.set_cons_zero, List.set_cons_succ]
  have n_b_g3 : b ≠ g3 := by have := H.lt; omega
  have n_g1_g3 : g1 ≠ g3 := by have := lt_heap G1; omega
  have ge_g3 : w.heap.size ≤ g3 := Nat.le_trans D.size hg
  have six_g3 : 6 ≤ g3 := Nat.le_trans w6 ge_g3
  clear hg
  replace D := grown_below D kb
  replace H := H.on kb
  replace G1 := heap_on G1 kb
  clear kb
  replace G3 : v3.heap[g3]? = some (.cells #[.int .i64 0, .int .i64 0, .string (bs ([]))] 44 (0, 0)) := G3
  refine wt_putVa (o := ⟨_, _, _, _, _, _⟩) rfl _ _ rfl _ rfl (v) rfl G3 rfl (fun v4 X kg => ?_)
  simp only [Act.put, List.setIfInBounds_toArray, List.set_cons_zero, List.set_cons_succ]
  replace D := gr_new D ge_g3 kg
  replace H := H.gr kg n_b_g3 six_g3
  replace G1 := heap_gr G1 kg n_g1_g3
  clear kg
  replace G3 : v4.heap[g3]? = some (.cells #[.int .i64 (v.1), .int .i64 (v.2.1), .string v.2.2] 44 (0, 0)) := X
  clear X
  refine wl_yield (o := ⟨_, _, _, _, _, _⟩) (.int .i64 (j : Nat)) (yl_assign (by rfl) _ rfl _ rfl) ?_
  simp only [Act.put, List.setIfInBounds_toArray, List.set_cons_zero, List.set_cons_succ]
  refine wl_yield (o := ⟨_, _, _, _, _, _⟩) (.bool true) (yl_assign (by rfl) _ rfl _ rfl) ?_
  simp only [Act.put, List.setIfInBounds_toArray, List.set_cons_zero, List.set_cons_succ]
  refine wpList_nil ?_
  refine hK2 _ _ ?_
  clear hK2 K2
  refine wp_seq_k (fun K3 hK3 => ?_)
  refine wp_seq_k (fun K4 hK4 => ?_)
  refine wp_region_lit ?_
  refine wl_yield (o := ⟨_, _, _, _, _, _⟩) (.bool true) (yl_move (by rfl) _ rfl _ rfl) ?_
  simp only [Act.put, List.setIfInBounds_toArray, List.set_cons_zero, List.set_cons_succ]
  refine wl_yield (o := ⟨_, _, _, _, _, _⟩) (.bool false) (yl_not (by rfl) _ _ rfl true rfl) ?_
  simp only [Act.put, List.setIfInBounds_toArray, List.set_cons_zero, List.set_cons_succ]
  refine wpList_nil ?_
  refine hK4 _ _ ?_
  clear hK4 K4
  refine wp_cond_false rfl ?_
  refine wp_skip ?_
  refine hK3 _ _ ?_
  clear hK3 K3
  refine wp_seq_k (fun K5 hK5 => ?_)
  refine wp_region_lit ?_
  refine wl_yield (o := ⟨_, _, _, _, _, _⟩) (.pointer (some ⟨b, 0, none⟩)) (yl_move (by rfl) _ rfl _ rfl) ?_
  simp only [Act.put, List.setIfInBounds_toArray, List.set_cons_zero, List.set_cons_succ]
  refine wl_yield (o := ⟨_, _, _, _, _, _⟩) (.pointer (some ⟨b, 0, none⟩)) (yl_move (by rfl) _ rfl _ rfl) ?_
  simp only [Act.put, List.setIfInBounds_toArray, List.set_cons_zero, List.set_cons_succ]
  refine wl_yield (o := ⟨_, _, _, _, _, _⟩) (.pointer (some ⟨b, 0, none⟩)) (yt_nil (by rfl) _ rfl _ rfl) ?_
  simp only [Act.put, List.setIfInBounds_toArray, List.set_cons_zero, List.set_cons_succ]
  refine wl_yield (o := ⟨_, _, _, _, _, _⟩) (.pointer (some ⟨b, 0, none⟩)) (yt_fRd0 (by rfl) _ rfl b 0 rfl) ?_
  simp only [Act.put, List.setIfInBounds_toArray, List.set_cons_zero, List.set_cons_succ]
  refine wl_yield (o := ⟨_, _, _, _, _, _⟩) (.string (bs l)) (yt_ldS (by rfl) _ rfl _ _ rfl (bs l) (fun _ h => by subst h; exact H.rd.cell.1)) ?_
  simp only [Act.put, List.setIfInBounds_toArray, List.set_cons_zero, List.set_cons_succ]
  refine wl_yield (o := ⟨_, _, _, _, _, _⟩) (.int .i64 (j : Nat)) (yl_move (by rfl) _ rfl _ rfl) ?_
  simp only [Act.put, List.setIfInBounds_toArray, List.set_cons_zero, List.set_cons_succ]
  refine wl_yield (o := ⟨_, _, _, _, _, _⟩) (.string (bs (l.drop j))) (yt_fromS (by rfl) _ _ rfl l j rfl rfl (hj)) ?_
  simp only [Act.put, List.setIfInBounds_toArray, List.set_cons_zero, List.set_cons_succ]
  refine wl_yield (o := ⟨_, _, _, _, _, _⟩) (.pointer (some ⟨b, 0, none⟩)) (yt_nil (by rfl) _ rfl _ rfl) ?_
  simp only [Act.put, List.setIfInBounds_toArray, List.set_cons_zero, List.set_cons_succ]
  refine wl_yield (o := ⟨_, _, _, _, _, _⟩) (.pointer (some ⟨b, 0, none⟩)) (yt_fRd0 (by rfl) _ rfl b 0 rfl) ?_
  simp only [Act.put, List.setIfInBounds_toArray, List.set_cons_zero, List.set_cons_succ]
  refine wt_left (o := ⟨_, _, _, _, _, _⟩) (by rfl) _ _ rfl b rfl (l.drop j) rfl H.rd (fun v5 hr kg => ?_)
  simp only [Act.put, List.setIfInBounds_toArray, List.set_cons_zero, List.set_cons_succ]
  replace H := H.grown kg hr
  clear hr
  replace D := grown_trans D kg
  replace G1 := heap_gr G1 kg (Ne.symm n_b_g1)
  replace G3 := heap_gr G3 kg (Ne.symm n_b_g3)
  clear kg
  refine wpList_nil ?_
  refine hK5 _ _ ?_
  clear hK5 K5
  refine wp_seq_k (fun K6 hK6 => ?_)
  refine wp_region_lit ?_
  refine wl_yield (o := ⟨_, _, _, _, _, _⟩) (vVal v) (yl_val (by rfl) _ rfl _ 0 rfl _ _ _ (fun _ h => by subst h; exact ⟨cell_heap G3 0, cell_heap G3 1, cell_heap G3 2⟩)) ?_
  simp only [Act.put, List.setIfInBounds_toArray, List.set_cons_zero, List.set_cons_succ]
  refine wt_putVa (o := ⟨_, _, _, _, _, _⟩) rfl _ _ rfl _ rfl (v) rfl G1 rfl (fun v6 X kg => ?_)
  simp only [Act.put, List.setIfInBounds_toArray, List.set_cons_zero, List.set_cons_succ]
  replace D := gr_new D ge_g1 kg
  replace H := H.gr kg n_b_g1 six_g1
  replace G3 := heap_gr G3 kg (Ne.symm n_g1_g3)
  clear kg
  replace G1 : v6.heap[g1]? = some (.cells #[.int .i64 (v.1), .int .i64 (v.2.1), .string v.2.2] 44 (0, 0)) := X
  clear X
  refine wpList_nil ?_
  refine hK6 _ _ ?_
  clear hK6 K6
  refine wp_ret ?_
  refine bodyPost_ret (results_cell_row rfl _ _ g1 44 _ (0, 0) _ rfl G1 Tryz.underlying44 rfl infoV) rfl ⟨rfl, H.rd, D⟩

/-! ### In one form: what was read, or given up -/
theorem has_or (b : Nat) (l m : List UInt8) (w : World) (h : RdL w b l) :
    Calls Tryz.prog 70 #[.pointer (some ⟨b, 0, none⟩), .string (bs m)] w fun e w' => (∃ r, cut m l = some r ∧ e = .returned (.bool true) ∧ RdL w' b r ∧ w.grownBy w' (some b)) ∨ (cut m l = none ∧ e = .returned (.bool false) ∧ RdL w' b l ∧ w.grownBy w' (some b)) := by
  cases hc : cut m l with
  | none => exact (has_no b l m w h hc).mono fun e w' hp => Or.inr ⟨rfl, hp⟩
  | some r => exact (has_yes b l m r w h hc).mono fun e w' hp => Or.inl ⟨r, rfl, hp⟩
theorem need_or (b : Nat) (l m : List UInt8) (w : World) (h : RdL w b l) :
    Calls Tryz.prog 73 #[.pointer (some ⟨b, 0, none⟩), .string (bs m)] w fun e w' => (∃ r, cut m l = some r ∧ e = .returned (.tuple #[]) ∧ RdL w' b r ∧ w.grownBy w' (some b)) ∨ (cut m l = none ∧ e = .panicked chE ∧ w.grownBy w' (some b)) := by
  cases hc : cut m l with
  | none => exact (need_no b l m w h hc).mono fun e w' hp => Or.inr ⟨rfl, hp⟩
  | some r => exact (need_yes b l m r w h hc).mono fun e w' hp => Or.inl ⟨r, rfl, hp⟩
theorem value_or (b : Nat) (l : List UInt8) (w : World) (h : Rdr w b l) (hs : l.length ≤ 1048576) :
    Calls Tryz.prog 79 #[.pointer (some ⟨b, 0, none⟩)] w fun e w' => (∃ v r, valL l = some (v, r) ∧ e = .returned (vVal v) ∧ RdL w' b r ∧ w.grownBy w' (some b)) ∨ (valL l = none ∧ e = .panicked chE ∧ w.grownBy w' (some b)) := by
  cases hc : valL l with
  | none => exact (value_no b l w h hs hc).mono fun e w' hp => Or.inr ⟨rfl, hp⟩
  | some q => obtain ⟨v, r⟩ := q; exact (value_yes b l r v w h hs hc).mono fun e w' hp => Or.inl ⟨v, r, rfl, hp⟩
theorem name_rd (b : Nat) (k : Nat) (l : List UInt8) (w : World) (h : RdL w b l) (hk : k < 4) :
    Calls Tryz.prog 51 #[.pointer (some ⟨b, 1, none⟩), .int .i64 (k : Nat)] w fun e w' => e = .returned (.string (bs (nameL (k : Nat)))) ∧ RdL w' b l ∧ w.grownBy w' (some b) := by
  refine (name_some1 b k w (bs l) h).mono ?_
  rintro e w' ⟨rfl, h1, h2⟩
  refine ⟨ret_str ?_, h1, h2⟩
  match k, hk with
  | 0, _ => rfl
  | 1, _ => rfl
  | 2, _ => rfl
  | 3, _ => rfl
theorem hi_len {lo z : Int} {l r : List UInt8} (h : hiL lo l = some (z, r)) : r.length ≤ l.length := by
  unfold hiL at h
  split at h
  · injection h with h; injection h with _ h; rw [h]; exact Nat.le_refl _
  · rename_i q hq
    have := cut_len hq
    split at h
    · cases h
    · rename_i v r' hv
      have := valL_len hv
      split at h
      · injection h with h; injection h with _ h; rw [← h]; omega
      · cases h
theorem attr_hit {l r : List UInt8} {k : Nat} (hk : k < 4) (h : cut (nameL (k : Nat)) l = some r) : attrL l = some ((k : Int), r) := by
  rw [cut_some h]
  exact attr_back k (by omega) (by omega) r
theorem attr_miss {l : List UInt8} (h : ∀ j : Nat, j < 4 → cut (nameL (j : Nat)) l = none) : attrL l = none := by
  cases l with
  | nil => rfl
  | cons c l =>
    show (if 97 ≤ c.toNat ∧ c.toNat ≤ 100 then some ((c.toNat : Int) - 97, l) else none) = none
    rw [if_neg]
    rintro ⟨h1, h2⟩
    have := h (c.toNat - 97) (by omega)
    have e : nameL ((c.toNat - 97 : Nat) : Int) = [c] := by
      unfold nameL
      have : 97 + ((c.toNat - 97 : Nat) : Int).toNat = c.toNat := by omega
      rw [this]
      simp
    rw [e, cut_one] at this
    cases this

set_option maxHeartbeats 1000000 in
set_option maxRecDepth 100000 in
theorem highest_or (b : Nat) (lo : Int) (l : List UInt8) (w : World) (H : Rdr w b l) (hs : l.length ≤ 1048576) :
    Calls Tryz.prog 115 #[.pointer (some ⟨b, 0, none⟩), .int .i64 lo] w fun e w' => (∃ z r, hiL lo l = some (z, r) ∧ e = .returned (.int .i64 z) ∧ RdL w' b r ∧ w.grownBy w' (some b)) ∨ (hiL lo l = none ∧ e = .panicked chE ∧ w.grownBy w' (some b)) := by
  have w6 : 6 ≤ w.heap.size := H.env.big
  have D : w.grownBy w (some b) := grown_refl _ _
  go_enter Tryz.func115, Tryz.ntmps115
  refine wp_seq_k (fun K1 hK1 => ?_)
  refine wp_region_lit ?_
  refine wl_yield (o := ⟨_, _, _, _, _, _⟩) (.int .i64 0) (yl_assign (by rfl) _ rfl _ rfl) ?_
  simp only [Act.put, List.setIfInBounds_toArray, List.set_cons_zero, List.set_cons_succ]
  refine wpList_nil ?_
  refine hK1 _ _ ?_
  clear hK1 K1
  refine wp_seq_k (fun K2 hK2 => ?_)
  refine wp_seq_k (fun K3 hK3 => ?_)
  refine wp_region_lit ?_
  refine wl_yield (o := ⟨_, _, _, _, _, _⟩) (.pointer (some ⟨b, 0, none⟩)) (yl_move (by rfl) _ rfl _ rfl) ?_
  simp only [Act.put, List.setIfInBounds_toArray, List.set_cons_zero, List.set_cons_succ]
  refine wt_call (o := ⟨_, _, _, _, _, _⟩) (by rfl) 70 _ _ rfl #[.pointer (some ⟨b, 0, none⟩), .string (bs ([46, 46]))] rfl (run_call Tryz.func70 (by kernel_rfl) (by kernel_rfl)) ?_
  refine (has_or b _ _ _ H.rd).mono ?_
  rintro r v1 (⟨hq, hc, rfl, hr, kg⟩ | ⟨hc, rfl, hr, kg⟩)
  · replace H := H.grown kg hr
    clear hr
    replace D := grown_trans D kg
    clear kg
    refine Or.inl ⟨.bool true, rfl, ?_⟩
    simp only [Act.put, List.setIfInBounds_toArray, List.set_cons_zero, List.set_cons_succ]
    refine wl_yield (o := ⟨_, _, _, _, _, _⟩) (.bool false) (yl_not (by rfl) _ _ rfl true rfl) ?_
    simp only [Act.put, List.setIfInBounds_toArray, List.set_cons_zero, List.set_cons_succ]
    refine wpList_nil ?_
    refine hK3 _ _ ?_
    clear hK3 K3
    refine wp_cond_false rfl ?_
    refine wp_skip ?_
    refine hK2 _ _ ?_
    clear hK2 K2
    refine wp_seq_k (fun K4 hK4 => ?_)
    refine wp_region_lit ?_
    refine wl_yield (o := ⟨_, _, _, _, _, _⟩) (.pointer (some ⟨b, 0, none⟩)) (yl_move (by rfl) _ rfl _ rfl) ?_
    simp only [Act.put, List.setIfInBounds_toArray, List.set_cons_zero, List.set_cons_succ]
    refine wt_call (o := ⟨_, _, _, _, _, _⟩) (by rfl) 79 _ _ rfl #[.pointer (some ⟨b, 0, none⟩)] rfl (run_call Tryz.func79 (by kernel_rfl) (by kernel_rfl)) ?_
    refine (value_or b _ _ H (by have := cut_len hc; omega)).mono ?_
    rintro r v2 (⟨v, r2, hv, rfl, hr, kg⟩ | ⟨hv, rfl, kg⟩)
    · replace H := H.grown kg hr
      clear hr
      replace D := grown_trans D kg
      clear kg
      refine Or.inl ⟨vVal v, rfl, ?_⟩
      simp only [Act.put, List.setIfInBounds_toArray, List.set_cons_zero, List.set_cons_succ]
      refine wt_allocVa (o := ⟨_, _, _, _, _, _⟩) (by rfl) rfl (fun v3 g3 hg G3 kb => ?_)
      simp only [Act.put, List.setIfInBounds_toArray, List.set_cons_zero, List.set_cons_succ]
      have n_b_g3 : b ≠ g3 := by have := H.lt; omega
      have ge_g3 : w.heap.size ≤ g3 := Nat.le_trans D.size hg
      have six_g3 : 6 ≤ g3 := Nat.le_trans w6 ge_g3
      clear hg
      replace D := grown_below D kb
      replace H := H.on kb
      clear kb
      replace G3 : v3.heap[g3]? = some (.cells #[.int .i64 0, .int .i64 0, .string (bs ([]))] 44 (0, 0)) := G3
      refine wt_putVa (o := ⟨_, _, _, _, _, _⟩) rfl _ _ rfl _ rfl (v) rfl G3 rfl (fun v4 X kg => ?_)
      simp only [Act.put, List.setIfInBounds_toArray, List.set_cons_zero, List.set_cons_succ]
      replace D := gr_new D ge_g3 kg
      replace H := H.gr kg n_b_g3 six_g3
      clear kg
      replace G3 : v4.heap[g3]? = some (.cells #[.int .i64 (v.1), .int .i64 (v.2.1), .string v.2.2] 44 (0, 0)) := X
      clear X
      refine wpList_nil ?_
      refine hK4 _ _ ?_
      clear hK4 K4
      refine wp_seq_k (fun K5 hK5 => ?_)
      refine wp_seq_k (fun K6 hK6 => ?_)
      refine wp_region_lit ?_
      refine wl_yield (o := ⟨_, _, _, _, _, _⟩) (.pointer (some ⟨g3, 0, none⟩)) (yt_fVa0 (by rfl) _ rfl g3 0 rfl) ?_
      simp only [Act.put, List.setIfInBounds_toArray, List.set_cons_zero, List.set_cons_succ]
      refine wl_yield (o := ⟨_, _, _, _, _, _⟩) (.int .i64 (v.1)) (yt_ldI (by rfl) _ rfl _ _ rfl v.1 (fun _ h => by subst h; exact cell_heap G3 0)) ?_
      simp only [Act.put, List.setIfInBounds_toArray, List.set_cons_zero, List.set_cons_succ]
      refine wl_yield (o := ⟨_, _, _, _, _, _⟩) (.bool (decide (¬ v.1 = 1))) (yt_neqI (by rfl) _ _ _ rfl v.1 1 (decide (¬ v.1 = 1)) rfl rfl (rfl)) ?_
      simp only [Act.put, List.setIfInBounds_toArray, List.set_cons_zero, List.set_cons_succ]
      refine wpList_nil ?_
      refine hK6 _ _ ?_
      clear hK6 K6
      refine wp_cond_split (t := (decide (¬ v.1 = 1))) rfl (fun hk => ?_) (fun hk => ?_)
      · refine wp_region_lit ?_
        refine wl_yield (o := ⟨_, _, _, _, _, _⟩) (.iface 33 (.int .i64 2)) (yt_iface (by rfl) _ rfl 2 rfl) ?_
        simp only [Act.put, List.setIfInBounds_toArray, List.set_cons_zero, List.set_cons_succ]
        refine wt_panic (o := ⟨_, _, _, _, _, _⟩) (by rfl) _ rfl _ _ rfl ?_
        exact ⟨rfl, Or.inr ⟨by unfold hiL; rw [hc]; dsimp only; rw [hv]; exact if_neg (of_decide_eq_true hk), rfl, D⟩⟩
      · refine wp_skip ?_
        refine hK5 _ _ ?_
        clear hK5 K5
        refine wp_seq_k (fun K7 hK7 => ?_)
        refine wp_region_lit ?_
        refine wl_yield (o := ⟨_, _, _, _, _, _⟩) (.pointer (some ⟨g3, 1, none⟩)) (yt_fVa1 (by rfl) _ rfl g3 0 rfl) ?_
        simp only [Act.put, List.setIfInBounds_toArray, List.set_cons_zero, List.set_cons_succ]
        refine wl_yield (o := ⟨_, _, _, _, _, _⟩) (.int .i64 (v.2.1)) (yt_ldI (by rfl) _ rfl _ _ rfl v.2.1 (fun _ h => by subst h; exact cell_heap G3 1)) ?_
        simp only [Act.put, List.setIfInBounds_toArray, List.set_cons_zero, List.set_cons_succ]
        refine wl_yield (o := ⟨_, _, _, _, _, _⟩) (.int .i64 (v.2.1)) (yl_assign (by rfl) _ rfl _ rfl) ?_
        simp only [Act.put, List.setIfInBounds_toArray, List.set_cons_zero, List.set_cons_succ]
        refine wpList_nil ?_
        refine hK7 _ _ ?_
        clear hK7 K7
        refine wp_ret ?_
        have hk1 : v.1 = 1 := Decidable.not_not.1 (of_decide_eq_false hk)
        go_ret
        exact Or.inl ⟨_, _, by unfold hiL; rw [hc]; dsimp only; rw [hv]; exact if_pos hk1, rfl, H.rd, D⟩
    · replace D := grown_trans D kg
      refine Or.inr ⟨_, rfl, ?_⟩
      exact ⟨rfl, Or.inr ⟨by unfold hiL; rw [hc]; dsimp only; rw [hv], rfl, D⟩⟩
  · replace H := H.grown kg hr
    clear hr
    replace D := grown_trans D kg
    clear kg
    refine Or.inl ⟨.bool false, rfl, ?_⟩
    simp only [Act.put, List.setIfInBounds_toArray, List.set_cons_zero, List.set_cons_succ]
    refine wl_yield (o := ⟨_, _, _, _, _, _⟩) (.bool true) (yl_not (by rfl) _ _ rfl false rfl) ?_
    simp only [Act.put, List.setIfInBounds_toArray, List.set_cons_zero, List.set_cons_succ]
    refine wpList_nil ?_
    refine hK3 _ _ ?_
    clear hK3 K3
    refine wp_cond_true rfl ?_
    refine wp_seq_k (fun K4 hK4 => ?_)
    refine wp_region_lit ?_
    refine wl_yield (o := ⟨_, _, _, _, _, _⟩) (.int .i64 lo) (yl_move (by rfl) _ rfl _ rfl) ?_
    simp only [Act.put, List.setIfInBounds_toArray, List.set_cons_zero, List.set_cons_succ]
    refine wl_yield (o := ⟨_, _, _, _, _, _⟩) (.int .i64 lo) (yl_assign (by rfl) _ rfl _ rfl) ?_
    simp only [Act.put, List.setIfInBounds_toArray, List.set_cons_zero, List.set_cons_succ]
    refine wpList_nil ?_
    refine hK4 _ _ ?_
    clear hK4 K4
    refine wp_ret ?_
    go_ret
    exact Or.inl ⟨lo, l, by unfold hiL; rw [hc], rfl, H.rd, D⟩

set_option maxHeartbeats 1000000 in
set_option maxRecDepth 100000 in
theorem attr_or (b : Nat) (l : List UInt8) (w : World) (H : Rdr w b l) :
    Calls Tryz.prog 72 #[.pointer (some ⟨b, 0, none⟩)] w fun e w' => (∃ z r, attrL l = some (z, r) ∧ e = .returned (.int .i64 z) ∧ RdL w' b r ∧ w.grownBy w' (some b)) ∨ (attrL l = none ∧ e = .panicked chE ∧ w.grownBy w' (some b)) := by
  have w6 : 6 ≤ w.heap.size := H.env.big
  have D : w.grownBy w (some b) := grown_refl _ _
  go_enter Tryz.func72, Tryz.ntmps72
  refine wp_seq_k (fun K1 hK1 => ?_)
  refine wp_region_lit ?_
  refine wl_yield (o := ⟨_, _, _, _, _, _⟩) (.int .i64 0) (yl_assign (by rfl) _ rfl _ rfl) ?_
  simp only [Act.put, List.setIfInBounds_toArray, List.set_cons_zero, List.set_cons_succ]
  refine wpList_nil ?_
  refine hK1 _ _ ?_
  clear hK1 K1
  refine wp_seq_k (fun K2 hK2 => ?_)
  refine wp_seq_k (fun K3 hK3 => ?_)
  refine wp_region_lit ?_
  refine wl_yield (o := ⟨_, _, _, _, _, _⟩) (.int .i64 0) (yl_move (by rfl) _ rfl _ rfl) ?_
  simp only [Act.put, List.setIfInBounds_toArray, List.set_cons_zero, List.set_cons_succ]
  refine wpList_nil ?_
  refine hK3 _ _ ?_
  clear hK3 K3
  refine wp_block ?_
  go_loopw [4] (fun i wr => ∃ k : Nat, i = .int .i64 k ∧ k ≤ 4 ∧ (∀ j : Nat, j < k → cut (nameL (j : Nat)) l = none) ∧ Rdr wr b l ∧ w.grownBy wr (some b)) (fun i _ => 4 - (intOf i).toNat)
  case atStart => exact ⟨0, rfl, by omega, fun j h => by omega, H, D⟩
  case round =>
    clear D H
    obtain ⟨k, rfl, hk, hF, H, D⟩ := hrel
    by_cases hlt : k < 4
    · refine wp_seq_k (fun K4 hK4 => ?_)
      refine wp_region_lit ?_
      refine wl_yield (o := ⟨_, _, _, _, _, _⟩) (.bool true) (yt_lssI (by rfl) _ _ _ rfl (((k : Nat) : Int)) 4 true rfl rfl (decide_eq_true (by omega))) ?_
      simp only [Act.put, List.setIfInBounds_toArray, List.set_cons_zero, List.set_cons_succ]
      refine wpList_nil ?_
      refine hK4 _ _ ?_
      clear hK4 K4
      refine wp_seq_k (fun K5 hK5 => ?_)
      refine wp_cond_true rfl ?_
      refine wp_skip ?_
      refine hK5 _ _ ?_
      clear hK5 K5
      refine wp_seq_k (fun K6 hK6 => ?_)
      refine wp_block ?_
      refine wp_seq_k (fun K7 hK7 => ?_)
      refine wp_region_lit ?_
      refine wl_yield (o := ⟨_, _, _, _, _, _⟩) (.int .i64 (k : Nat)) (yl_move (by rfl) _ rfl _ rfl) ?_
      simp only [Act.put, List.setIfInBounds_toArray, List.set_cons_zero, List.set_cons_succ]
      refine wl_yield (o := ⟨_, _, _, _, _, _⟩) (.int .i64 (k : Nat)) (yl_assign (by rfl) _ rfl _ rfl) ?_
      simp only [Act.put, List.setIfInBounds_toArray, List.set_cons_zero, List.set_cons_succ]
      refine wpList_nil ?_
      refine hK7 _ _ ?_
      clear hK7 K7
      refine wp_seq_k (fun K8 hK8 => ?_)
      refine wp_region_lit ?_
      refine wl_yield (o := ⟨_, _, _, _, _, _⟩) (.pointer (some ⟨b, 0, none⟩)) (yl_move (by rfl) _ rfl _ rfl) ?_
      simp only [Act.put, List.setIfInBounds_toArray, List.set_cons_zero, List.set_cons_succ]
      refine wl_yield (o := ⟨_, _, _, _, _, _⟩) (.pointer (some ⟨b, 0, none⟩)) (yl_move (by rfl) _ rfl _ rfl) ?_
      simp only [Act.put, List.setIfInBounds_toArray, List.set_cons_zero, List.set_cons_succ]
      refine wl_yield (o := ⟨_, _, _, _, _, _⟩) (.pointer (some ⟨b, 0, none⟩)) (yt_nil (by rfl) _ rfl _ rfl) ?_
      simp only [Act.put, List.setIfInBounds_toArray, List.set_cons_zero, List.set_cons_succ]
      refine wl_yield (o := ⟨_, _, _, _, _, _⟩) (.pointer (some ⟨b, 1, none⟩)) (yt_fRd1 (by rfl) _ rfl b 0 rfl) ?_
      simp only [Act.put, List.setIfInBounds_toArray, List.set_cons_zero, List.set_cons_succ]
      refine wl_yield (o := ⟨_, _, _, _, _, _⟩) (.int .i64 (k : Nat)) (yl_move (by rfl) _ rfl _ rfl) ?_
      simp only [Act.put, List.setIfInBounds_toArray, List.set_cons_zero, List.set_cons_succ]
      refine wt_call (o := ⟨_, _, _, _, _, _⟩) (by rfl) 51 _ _ rfl #[.pointer (some ⟨b, 1, none⟩), .int .i64 (k : Nat)] rfl (run_call Tryz.func51 (by kernel_rfl) (by kernel_rfl)) ?_
      refine (name_rd b k l _ H.rd hlt).mono ?_
      rintro r v1 ⟨rfl, hr, kg⟩
      replace H := H.grown kg hr
      clear hr
      replace D := grown_trans D kg
      clear kg
      refine Or.inl ⟨.string (bs (nameL (k : Nat))), rfl, ?_⟩
      simp only [Act.put, List.setIfInBounds_toArray, List.set_cons_zero, List.set_cons_succ]
      refine wt_call (o := ⟨_, _, _, _, _, _⟩) (by rfl) 70 _ _ rfl #[.pointer (some ⟨b, 0, none⟩), .string (bs (nameL (k : Nat)))] rfl (run_call Tryz.func70 (by kernel_rfl) (by kernel_rfl)) ?_
      refine (has_or b _ _ _ H.rd).mono ?_
      rintro r v2 (⟨hq, hc, rfl, hr, kg⟩ | ⟨hc, rfl, hr, kg⟩)
      · replace H := H.grown kg hr
        clear hr
        replace D := grown_trans D kg
        clear kg
        refine Or.inl ⟨.bool true, rfl, ?_⟩
        simp only [Act.put, List.setIfInBounds_toArray, List.set_cons_zero, List.set_cons_succ]
        refine wpList_nil ?_
        refine hK8 _ _ ?_
        clear hK8 K8
        refine wp_cond_true rfl ?_
        refine wp_seq_k (fun K9 hK9 => ?_)
        refine wp_region_lit ?_
        refine wl_yield (o := ⟨_, _, _, _, _, _⟩) (.int .i64 (k : Nat)) (yl_move (by rfl) _ rfl _ rfl) ?_
        simp only [Act.put, List.setIfInBounds_toArray, List.set_cons_zero, List.set_cons_succ]
        refine wl_yield (o := ⟨_, _, _, _, _, _⟩) (.int .i64 (k : Nat)) (yl_assign (by rfl) _ rfl _ rfl) ?_
        simp only [Act.put, List.setIfInBounds_toArray, List.set_cons_zero, List.set_cons_succ]
        refine wpList_nil ?_
        refine hK9 _ _ ?_
        clear hK9 K9
        refine wp_ret ?_
        go_ret
        exact Or.inl ⟨_, _, attr_hit hlt hc, rfl, H.rd, D⟩
      · replace H := H.grown kg hr
        clear hr
        replace D := grown_trans D kg
        clear kg
        refine Or.inl ⟨.bool false, rfl, ?_⟩
        simp only [Act.put, List.setIfInBounds_toArray, List.set_cons_zero, List.set_cons_succ]
        refine wpList_nil ?_
        refine hK8 _ _ ?_
        clear hK8 K8
        refine wp_cond_false rfl ?_
        refine wp_skip ?_
        refine hK6 _ _ ?_
        clear hK6 K6
        refine wp_region_lit ?_
        refine wl_yield (o := ⟨_, _, _, _, _, _⟩) (.int .i64 (k + 1 : Nat)) (yt_addI (by rfl) _ _ _ rfl (((k : Nat) : Int)) 1 (((k + 1 : Nat) : Int)) rfl rfl (by omega) (by omega) (by omega)) ?_
        simp only [Act.put, List.setIfInBounds_toArray, List.set_cons_zero, List.set_cons_succ]
        refine wl_yield (o := ⟨_, _, _, _, _, _⟩) (.int .i64 (k + 1 : Nat)) (yl_move (by rfl) _ rfl _ rfl) ?_
        simp only [Act.put, List.setIfInBounds_toArray, List.set_cons_zero, List.set_cons_succ]
        refine wpList_nil ?_
        show _ ∧ _
        go_roundw
        case rel => exact ⟨k + 1, rfl, by omega, fun j hj => by
          rcases Nat.lt_succ_iff_lt_or_eq.1 hj with h | rfl
          · exact hF j h
          · exact hc, H, D⟩
        case measure => simp [intOf]; omega
    · refine wp_seq_k (fun K4 hK4 => ?_)
      refine wp_region_lit ?_
      refine wl_yield (o := ⟨_, _, _, _, _, _⟩) (.bool false) (yt_lssI (by rfl) _ _ _ rfl (((k : Nat) : Int)) 4 false rfl rfl (decide_eq_false (by omega))) ?_
      simp only [Act.put, List.setIfInBounds_toArray, List.set_cons_zero, List.set_cons_succ]
      refine wpList_nil ?_
      refine hK4 _ _ ?_
      clear hK4 K4
      refine wp_seq_k (fun K5 hK5 => ?_)
      refine wp_cond_false rfl ?_
      refine wp_exit ?_
      refine hK2 _ _ ?_
      clear hK5 K5 hK2 K2
      refine wp_region_lit ?_
      refine wl_yield (o := ⟨_, _, _, _, _, _⟩) (.iface 33 (.int .i64 2)) (yt_iface (by rfl) _ rfl 2 rfl) ?_
      simp only [Act.put, List.setIfInBounds_toArray, List.set_cons_zero, List.set_cons_succ]
      refine wt_panic (o := ⟨_, _, _, _, _, _⟩) (by rfl) _ rfl _ _ rfl ?_
      exact ⟨rfl, Or.inr ⟨attr_miss fun j hj => hF j (by omega), rfl, D⟩⟩

end Go.Proofs.YtciflobdpenpaaaGreatDoor
/-
  A drawn region by an invariant over what has been listed.
-/
set_option linter.unusedSimpArgs false
set_option linter.unusedVariables false
namespace Go.Proofs.YtciflobdpenpaaaGreatDoor
open Go.RowKit

end Go.Proofs.YtciflobdpenpaaaGreatDoor
/-
  A drawn region whose operations make memory: what each has made lies in blocks of its own, whenever it came up.
-/
set_option linter.unusedSimpArgs false
set_option linter.unusedVariables false
namespace Go.Proofs.YtciflobdpenpaaaGreatDoor
open Go.RowKit

theorem getD_flip {l : Array Bool} {i : Nat} (h : i < l.size) (d d' : Bool) : l.getD i d = l.getD i d' := by
  rw [Array.getD_eq_getD_getElem?, Array.getD_eq_getD_getElem?, Array.getElem?_eq_getElem h]
  rfl
section
variable {P : Program} {ops : Array Oper} {Q : Exit → Act → World → Prop}
end
end Go.Proofs.YtciflobdpenpaaaGreatDoor
/-
  A drawn region at whose end there are stores: what its loads read holds till these come up, and each of them waits for the loads. Rows of the call's own: strings, ranges, expressions.
-/
set_option linter.unusedSimpArgs false
set_option linter.unusedVariables false
namespace Go.Proofs.YtciflobdpenpaaaGreatDoor
open Go.RowKit

/-! ### Orders with late operations -/
/-- Whatever order is picked from here on; S holds behind each operation that is not late. -/
def wpAnyL (P : Program) (ops : Array Oper) (Q : Exit → Act → World → Prop) (S : World → Prop) (late : Nat → Bool) : Nat → Array Bool → Act → World → Prop
  | 0, l, a, w => Region.ready .any ops l = [] ∧ Q .normal a w
  | n + 1, l, a, w => (Region.ready .any ops l = [] → Q .normal a w) ∧ ∀ i ∈ Region.ready .any ops l, wpOp P ops Q i (fun a' w' => (late i = false → S w → S w') ∧ wpAnyL P ops Q S late n (l.setIfInBounds i true) a' w') a w
section
variable {P : Program} {ops : Array Oper} {Q : Exit → Act → World → Prop} {S : World → Prop} {late : Nat → Bool}
theorem wpAny_of_late : ∀ (n : Nat) (l : Array Bool) (a : Act) (w : World), wpAnyL P ops Q S late n l a w → wpAny P .any ops Q n l a w
  | 0, _, _, _, h => h
  | n + 1, l, a, w, h => ⟨h.1, fun i hi => wpOp_mono (fun a' w' k => wpAny_of_late n _ a' w' k.2) (h.2 i hi)⟩
theorem wp_region_late {id : Nat} {a : Act} {w : World} (hm : P.follows .mixedOrders = true) (h : wpAnyL P ops Q S late ops.size (Array.replicate ops.size false) a w.drew) : (Code.region id ops true).wp P Q a w :=
  wp_region_any hm (wpAny_of_late _ _ _ _ h)
theorem wpAnyL_done {l : Array Bool} {a : Act} {w : World} (hr : Region.ready .any ops l = []) (h : Q .normal a w) : ∀ n, wpAnyL P ops Q S late n l a w
  | 0 => ⟨hr, h⟩
  | n + 1 => ⟨fun _ => h, fun i hi => by rw [hr] at hi; cases hi⟩
theorem wpAnyL_all {rs : List Nat} {n : Nat} {l : Array Bool} {a : Act} {w : World} (hr : Region.ready .any ops l = rs) (hne : rs ≠ [])
    (h : ∀ i ∈ rs, wpOp P ops Q i (fun a' w' => (late i = false → S w → S w') ∧ wpAnyL P ops Q S late n (l.setIfInBounds i true) a' w') a w) : wpAnyL P ops Q S late (n + 1) l a w :=
  ⟨fun e => absurd (hr.symm.trans e) hne, fun i hi => h i (hr ▸ hi)⟩
/-- Each late operation waits for number i. -/
def lateOn (ops : Array Oper) (late : Nat → Bool) (i : Nat) : Bool := (List.range ops.size).all fun j => !late j || ((ops[j]?).map fun o => o.after.any fun e => Region.binds .any e && (e.on == i)).getD true
theorem lateOn_spec {i j : Nat} {o : Oper} (h : lateOn ops late i = true) (ho : ops[j]? = some o) (hl : late j = true) : ∃ e ∈ o.after, Region.binds .any e = true ∧ e.on = i := by
  unfold lateOn at h
  rw [List.all_eq_true] at h
  have hj := h j (List.mem_range.2 (Array.getElem?_eq_some_iff.1 ho).1)
  rw [hl, ho] at hj
  simp only [Bool.not_true, Bool.false_or, Option.map_some, Option.getD_some] at hj
  rw [Array.any_eq_true'] at hj
  obtain ⟨e, he, hb⟩ := hj
  rw [Bool.and_eq_true, beq_iff_eq] at hb
  exact ⟨e, he, hb.1, hb.2⟩
/-- An operation that yields its value wherever T holds may be taken first, if T holds now and stays as long as it may come up: it is S and each late operation waits for it, or it asks for nothing. -/
theorem wpAnyL_swap {T : World → Prop} {i : Nat} {oi : Oper} {v : Value} (hi : ops[i]? = some oi) (hs : Region.noSelect ops = true) (hQ : ∀ c a w, Q (.panic c) (a.put oi.dst v) w → Q (.panic c) a w)
    (hT : ∀ (j : Nat) (o : Oper) (w w' : World), ops[j]? = some o → (∀ e ∈ o.after, Region.binds .any e = true → e.on ≠ i) → T w → (late j = false → S w → S w') → T w') :
    ∀ (n : Nat) (l : Array Bool) (a : Act) (w : World), (∀ j o, ops[j]? = some o → j ≠ i → l.getD j true = false → (∀ e ∈ o.after, Region.binds .any e = true → e.on ≠ i) → oi.apart ops o = true) →
      i ∈ Region.ready .any ops l → YieldsIf P ops T oi v a → T w → wpAnyL P ops Q S late n (l.setIfInBounds i true) (a.put oi.dst v) w → wpAnyL P ops Q S late (n + 1) l a w := by
  intro n
  induction n with
  | zero =>
    intro l a w _ hr hy hw H
    refine And.intro (fun e => by rw [e] at hr; cases hr) (fun j hj => ?_)
    by_cases e : j = i
    · subst e
      exact hy.wpOp hi hw (And.intro (fun _ h => h) H)
    · have hm := ready_mono hj e
      rw [H.1] at hm
      cases hm
  | succ n ih =>
    intro l a w hf hr hy hw H
    refine And.intro (fun e => by rw [e] at hr; cases hr) (fun j hj => ?_)
    by_cases e : j = i
    · subst e
      exact hy.wpOp hi hw (And.intro (fun _ h => h) H)
    · obtain ⟨hun, oj, hoj, hall⟩ := mem_ready.1 hj
      have hno : ∀ x ∈ oj.after, Region.binds .any x = true → x.on ≠ i := by
        intro x hx hb hxi
        have h1 := hall x hx hb
        rw [hxi] at h1
        have h0 := (mem_ready.1 hr).1
        by_cases hlt : i < l.size
        · rw [getD_flip hlt true false] at h0
          rw [h0] at h1
          cases h1
        · have : l.getD i false = false := by rw [Array.getD_eq_getD_getElem?, Array.getElem?_eq_none (by omega)]; rfl
          rw [this] at h1
          cases h1
      have hput := wpOp_putIf hoj (hf j oj hoj e hun hno) (fun cs b => Region.noSelect_spec hs i oi cs b hi) (fun cs b => Region.noSelect_spec hs j oj cs b hoj) hQ hy (H.2 j (ready_mono hj e))
      refine wpOp_mono ?_ hput
      rintro a' w' ⟨hy', hS', hH⟩
      refine ⟨hS', ih (l.setIfInBounds j true) a' w' ?_ (ready_mono hr (Ne.symm e)) hy' (hT j oj w w' hoj hno hw hS') ?_⟩
      · intro k ok hk hki hku hkn
        refine hf k ok hk hki ?_ hkn
        by_cases hjk : j = k
        · subst hjk; exact hun
        · rwa [getD_set_ne true hjk] at hku
      · rw [Array.setIfInBounds_comm _ _ e]
        exact hH
/-- A load is taken first: each late operation waits for it. -/
theorem wpAnyL_load {i : Nat} {oi : Oper} {v : Value} {n : Nat} {l : Array Bool} {a : Act} {w : World} (hi : ops[i]? = some oi) (hs : Region.noSelect ops = true) (hf : Region.free .any ops l i = true) (hr : (Region.ready .any ops l).contains i = true)
    (hl : lateOn ops late i = true) (hQ : ∀ c a w, Q (.panic c) (a.put oi.dst v) w → Q (.panic c) a w) (hy : YieldsIf P ops S oi v a) (hS : S w)
    (h : wpAnyL P ops Q S late n (l.setIfInBounds i true) (a.put oi.dst v) w) : wpAnyL P ops Q S late (n + 1) l a w :=
  wpAnyL_swap hi hs hQ (fun j o w w' ho hno hw hk => by
    cases e : late j
    · exact hk e hw
    · obtain ⟨x, hx, hb, hxi⟩ := lateOn_spec hl ho e
      exact absurd hxi (hno x hx hb)) n l a w (Region.free_spec hi hf) (by simpa using hr) hy hS h
/-- What yields its value in every world is taken first. -/
theorem wpAnyL_pure {i : Nat} {oi : Oper} {v : Value} {n : Nat} {l : Array Bool} {a : Act} {w : World} (hi : ops[i]? = some oi) (hs : Region.noSelect ops = true) (hf : Region.free .any ops l i = true) (hr : (Region.ready .any ops l).contains i = true)
    (hQ : ∀ c a w, Q (.panic c) (a.put oi.dst v) w → Q (.panic c) a w) (hy : YieldsIf P ops (fun _ => True) oi v a)
    (h : wpAnyL P ops Q S late n (l.setIfInBounds i true) (a.put oi.dst v) w) : wpAnyL P ops Q S late (n + 1) l a w :=
  wpAnyL_swap (T := fun _ => True) hi hs hQ (fun _ _ _ _ _ _ _ _ => trivial) n l a w (Region.free_spec hi hf) (by simpa using hr) hy trivial h
end
end Go.Proofs.YtciflobdpenpaaaGreatDoor
/-
  Rows of the call's own: append, and where the new row lies; single operations of a drawn region.
-/
set_option linter.unusedSimpArgs false
set_option linter.unusedVariables false
namespace Go.Proofs.YtciflobdpenpaaaGreatDoor
open Go.RowKit

/-- append of one element, and where the new row lies. -/
theorem app_where (w : World) (base t ty e : TypeId) (i : TypeInfo) (z : Value) (size bytes : Nat) (ht : Tryz.prog.underlying t = some (.slice e)) (hi : Tryz.prog.info? e = some i) (hz : i.zero = some z)
    (hsize : i.size = size) (hby : i.bytes = bytes) (hzs : z.cells.size = size) (hsz : 0 < size) (hb : bytes ≤ 1000) (v : Value) (n : Nat) (xs : List Value) (hown : w.ownsRow base e size v n xs)
    (a : Addr) (c : Nat) (news : List Value) (hl : news.length = size) (hnews : ∀ j u, news[j]? = some u → w.cell? (a.add j) = some u) (h1 : ∀ u ∈ news, u.oneCell' = true) (hn : n ≤ 1000000) (hbase : base ≤ w.heap.size) :
    ∃ v' w', (Builtin.append_ #[t, t] ty #[v, .slice (some a) 1 c]).run Tryz.prog w = .ok v' w' ∧ w'.ownsRow base e size v' (n + 1) (xs ++ news) ∧ w.grownBy w' v.ownBlock ∧ (∀ g, v'.ownBlock = some g → some g = v.ownBlock ∨ w.heap.size ≤ g) := by
  have hb2 : (n + 1) * bytes ≤ 140737488355328 := Nat.le_trans (Nat.mul_le_mul (show n + 1 ≤ 1000001 by omega) hb) (by decide)
  obtain ⟨v', w', hr, ho, hg, _⟩ := run_append_own (P := Tryz.prog) w base t ty e i z size bytes ht hi hz hsize hby hzs hsz v n xs hown a 1 c news (by rw [hl]; omega) hnews h1 (by unfold maxLen; omega) hb2 hbase
  refine ⟨v', w', hr, ho, hg, ?_⟩
  subst hsize
  rcases hown.2 with ⟨rfl, rfl⟩ | ⟨g, cap, cur, rfl, hbg, hgc, hnc, hcm, hcs, htake⟩
  · have hr2 := run_append_nil (P := Tryz.prog) w t ty e i z ht hi hz a 1 c news (by rw [hl]; omega) hnews (by omega) (by omega) (by rw [hby]; omega)
    rw [hr] at hr2
    injection hr2 with e1 e2
    intro g hg'
    rw [e1] at hg'
    simp only [Value.ownBlock, Option.some.injEq] at hg'
    right
    omega
  · by_cases hroom : n + 1 ≤ cap
    · have hr2 := run_append_room (P := Tryz.prog) w t ty e i ht hi g n cap cur hgc a 1 c news (by rw [hl]; omega) hnews h1 hroom (by rw [hl, hcs]; have := Nat.mul_le_mul_right i.size hroom; rw [Nat.add_mul] at this; omega)
      rw [hr] at hr2
      injection hr2 with e1 e2
      intro k hk
      rw [e1] at hk
      left
      simp only [Value.ownBlock] at hk ⊢
      exact hk.symm
    · have hr2 := run_append_grow (P := Tryz.prog) w t ty e i z ht hi hz ⟨g, 0, none⟩ n cap xs hown.1 (hown.cells (g := g) rfl) a 1 c news (by rw [hl]; omega) hnews (by omega) (by omega) (by rw [hby]; exact growslice_fits (by omega) hb2)
      rw [hr] at hr2
      injection hr2 with e1 e2
      intro k hk
      rw [e1] at hk
      simp only [Value.ownBlock, Option.some.injEq] at hk
      right
      omega
/-! ### Rows by type -/
def rgCells1 (l : List Rg) : List Value := l.flatMap fun r => [.int .i64 r.1, .int .i64 r.2]
def stCells1 (l : List ByteArray) : List Value := l.flatMap fun s => [.string s]
def exCells1 (l : List EC) : List Value := l.flatMap EC.list
def RowS (w : World) (B : Nat) (v : Value) (l : List ByteArray) : Prop := w.ownsRow B 9 1 v l.length (stCells1 l)
def RowR (w : World) (B : Nat) (v : Value) (l : List Rg) : Prop := w.ownsRow B 60 2 v l.length (rgCells1 l)
def RowE (w : World) (B : Nat) (v : Value) (l : List EC) : Prop := w.ownsRow B 28 7 v l.length (exCells1 l)
/-- A block of another type is not the row's. -/
theorem own_ne {w : World} {B : Nat} {e t : TypeId} {size n g : Nat} {v : Value} {xs : List Value} {cs : Array Value} {fz : Nat × Nat} (h : w.ownsRow B e size v n xs) (hg : w.heap[g]? = some (.cells cs t fz)) (hne : t ≠ e) : v.ownBlock ≠ some g := by
  rcases h.2 with ⟨rfl, _⟩ | ⟨k, cap, cur, rfl, _, hk, _⟩
  · simp [Value.ownBlock]
  · intro e1
    simp only [Value.ownBlock, Option.some.injEq] at e1
    rw [e1, hg] at hk
    injection hk with hk
    injection hk with _ hk
    exact hne hk
theorem heap_gro {w w' : World} {g : Nat} {x : Obj} {r : Option Nat} (h : w.heap[g]? = some x) (hg : w.grownBy w' r) (hn : r ≠ some g) : w'.heap[g]? = some x := (hg.block _ (lt_heap h) (Ne.symm hn)).trans h
theorem gr_own {a w w' : World} {r r' : Option Nat} (h : a.grownBy w r) (hg : ∀ g, r' = some g → a.heap.size ≤ g) (k : w.grownBy w' r') : a.grownBy w' r :=
  ⟨k.os.trans h.os, k.tape.trans h.tape, k.output.trans h.output, Nat.le_trans h.size k.size, fun i hi hr => (k.block i (Nat.lt_of_lt_of_le hi h.size) (by intro e; have := hg i e.symm; omega)).trans (h.block i hi hr)⟩
theorem Rdr.gro {w w' : World} {b : Nat} {l : List UInt8} {B : Nat} {e : TypeId} {size n : Nat} {v : Value} {xs : List Value} (h : Rdr w b l) (ho : w.ownsRow B e size v n xs) (k : w.grownBy w' v.ownBlock) (hB : 6 ≤ B) (hne : 120 ≠ e) : Rdr w' b l := by
  have hb : v.ownBlock ≠ some b := by
    rcases h.rd with hr | hr
    · exact own_ne ho hr hne
    · exact own_ne ho hr hne
  refine ⟨h.env.below (B := 6) (Nat.le_refl _) ⟨k.os, k.tape, k.output, k.size, fun i hi => k.block i (by have := h.env.big; omega) (fun e => by have := (World.ownsRow.lt ho i e.symm).1; omega)⟩, h.six, ?_⟩
  rcases h.rd with hr | hr
  · exact Or.inl (heap_gro hr k hb)
  · exact Or.inr (heap_gro hr k hb)
theorem row_gr_heap {w w' : World} {B : Nat} {e t : TypeId} {size n g : Nat} {v : Value} {xs : List Value} {cs : Array Value} {fz : Nat × Nat} (h : w.ownsRow B e size v n xs) (k : w.grownBy w' (some g)) (hg : w.heap[g]? = some (.cells cs t fz)) (hne : t ≠ e) : w'.ownsRow B e size v n xs := by
  refine ⟨h.1, ?_⟩
  have hn := own_ne h hg hne
  rcases h.2 with h2 | ⟨g', cap, cur, e1, hgb, hc, hr⟩
  · exact Or.inl h2
  · refine Or.inr ⟨g', cap, cur, e1, hgb, heap_gr hc k ?_, hr⟩
    intro e2
    subst e2
    exact hn (by rw [e1]; rfl)
theorem row_gr_rd {w w' : World} {B : Nat} {e : TypeId} {size n b : Nat} {v : Value} {xs : List Value} {l : List UInt8} (h : w.ownsRow B e size v n xs) (k : w.grownBy w' (some b)) (hg : RdL w b l) (hne : 120 ≠ e) : w'.ownsRow B e size v n xs := by
  rcases hg with hg | hg
  · exact row_gr_heap h k hg hne
  · exact row_gr_heap h k hg hne
theorem Rdr.row {w w' : World} {B : Nat} {e : TypeId} {size n b : Nat} {v : Value} {xs : List Value} {l : List UInt8} (h : Rdr w b l) (ho : w.ownsRow B e size v n xs) (k : w.grownBy w' (some b)) (hne : 120 ≠ e) : w'.ownsRow B e size v n xs := row_gr_rd ho k h.rd hne
theorem Env.gro {w w' : World} {B : Nat} {e : TypeId} {size n : Nat} {v : Value} {xs : List Value} (h : Env w) (ho : w.ownsRow B e size v n xs) (k : w.grownBy w' v.ownBlock) (hB : 6 ≤ B) : Env w' :=
  h.below (B := 6) (Nat.le_refl _) ⟨k.os, k.tape, k.output, k.size, fun i hi => k.block i (by have := h.big; omega) (fun e => by have := (World.ownsRow.lt ho i e.symm).1; omega)⟩
/-- The tables lie as ever, and the block b is a value.Names. -/
structure Nmr (w : World) (b : Nat) : Prop where
  env : Env w
  six : 6 ≤ b
  nm : NamesAt w b
theorem Nmr.lt {w : World} {b : Nat} (h : Nmr w b) : b < w.heap.size := by rcases h.nm with h | h <;> exact lt_heap h
theorem Nmr.on {w w' : World} {b : Nat} (h : Nmr w b) (hb : Below w.heap.size w w') : Nmr w' b := ⟨h.env.on hb, h.six, by
  rcases h.nm with h | h
  · exact Or.inl (heap_on h hb)
  · exact Or.inr (heap_on h hb)⟩
theorem Nmr.gr {w w' : World} {b g : Nat} (h : Nmr w b) (k : w.grownBy w' (some g)) (hn : b ≠ g) (h6 : 6 ≤ g) : Nmr w' b :=
  ⟨Env.gr h.env k h6, h.six, by
    rcases h.nm with hr | hr
    · exact Or.inl (heap_gr hr k hn)
    · exact Or.inr (heap_gr hr k hn)⟩
theorem Nmr.grown {w w' : World} {b : Nat} (h : Nmr w b) (hg : w.grownBy w' (some b)) (hr : NamesAt w' b) : Nmr w' b :=
  ⟨h.env.below h.six (below_of_grown hg (Nat.le_refl _) (Nat.le_of_lt h.lt)), h.six, hr⟩
theorem Nmr.gro {w w' : World} {b : Nat} {B : Nat} {e : TypeId} {size n : Nat} {v : Value} {xs : List Value} (h : Nmr w b) (ho : w.ownsRow B e size v n xs) (k : w.grownBy w' v.ownBlock) (hB : 6 ≤ B) (hne : 83 ≠ e) : Nmr w' b := by
  have hb : v.ownBlock ≠ some b := by
    rcases h.nm with hr | hr
    · exact own_ne ho hr hne
    · exact own_ne ho hr hne
  refine ⟨Env.gro h.env ho k hB, h.six, ?_⟩
  rcases h.nm with hr | hr
  · exact Or.inl (heap_gro hr k hb)
  · exact Or.inr (heap_gro hr k hb)
theorem Nmr.row {w w' : World} {B : Nat} {e : TypeId} {size n b : Nat} {v : Value} {xs : List Value} (h : Nmr w b) (ho : w.ownsRow B e size v n xs) (k : w.grownBy w' (some b)) (hne : 83 ≠ e) : w'.ownsRow B e size v n xs := by
  rcases h.nm with hg | hg
  · exact row_gr_heap ho k hg hne
  · exact row_gr_heap ho k hg hne
/-- Rows of unlike types are unlike blocks. -/
theorem row_row {w w' : World} {B B' : Nat} {e e' : TypeId} {size size' n n' : Nat} {v u : Value} {xs ys : List Value} (h : w.ownsRow B e size v n xs) (h' : w.ownsRow B' e' size' u n' ys) (k : w.grownBy w' u.ownBlock) (hne : e ≠ e') : w'.ownsRow B e size v n xs := by
  refine ⟨h.1, ?_⟩
  rcases h.2 with h2 | ⟨g', cap, cur, e1, hgb, hc, hr⟩
  · exact Or.inl h2
  · exact Or.inr ⟨g', cap, cur, e1, hgb, heap_gro hc k (own_ne h' hc hne), hr⟩
theorem ownsRow_on {w w' : World} {B : Nat} {e : TypeId} {size n : Nat} {v : Value} {xs : List Value} (h : w.ownsRow B e size v n xs) (hb : Below w.heap.size w w') : w'.ownsRow B e size v n xs := by
  refine ⟨h.1, ?_⟩
  rcases h.2 with h2 | ⟨g, cap, cur, e1, hg, hc, hr⟩
  · exact Or.inl h2
  · exact Or.inr ⟨g, cap, cur, e1, hg, heap_on hc hb, hr⟩
theorem ownsRow_gr {w w' : World} {B : Nat} {e : TypeId} {size n : Nat} {v : Value} {xs : List Value} {r : Option Nat} (h : w.ownsRow B e size v n xs) (hg : w.grownBy w' r) (hne : ∀ g, v.ownBlock = some g → r ≠ some g) : w'.ownsRow B e size v n xs := by
  refine ⟨h.1, ?_⟩
  rcases h.2 with h2 | ⟨g, cap, cur, e1, hgb, hc, hr⟩
  · exact Or.inl h2
  · exact Or.inr ⟨g, cap, cur, e1, hgb, heap_gro hc hg (hne g (by rw [e1]; rfl)), hr⟩
theorem RowS.nil (w : World) (B : Nat) : RowS w B (.slice none 0 0) [] := World.ownsRow_nil w B _ _
theorem RowS.on {w w' : World} {B : Nat} {v : Value} {l : List ByteArray} (h : RowS w B v l) (hb : Below w.heap.size w w') : RowS w' B v l := ownsRow_on h hb
theorem stCells1_one (d : ByteArray) : stCells1 [d] = [.string d] := by simp [stCells1]
theorem stCells1_app (l : List ByteArray) (d : ByteArray) : stCells1 (l ++ [d]) = stCells1 l ++ [.string d] := by
  rw [← stCells1_one d]
  unfold stCells1
  rw [List.flatMap_append]
theorem rn_appS {o : Oper} {w : World} (a : Act) (s x : Operand) (ho : o.op = .call { callee := .builtin .append, args := #[s, x], argTypes := #[23, 23] }) (B : Nat) (v : Value) (l : List ByteArray) (hs : a.eval s = v) (hown : RowS w B v l)
    (g : Nat) (d : ByteArray) (hx : a.eval x = .slice (some ⟨g, 0, none⟩) 1 1) (hd : w.heap[g]? = some (.cells #[.string d] 9 (0, 0))) (hn : l.length ≤ 1000000) (hB : B ≤ w.heap.size) :
    ∃ v' w', (execOp a.eval o).run Tryz.prog w = .ok (.value v') w' ∧ RowS w' B v' (l ++ [d]) ∧ w.grownBy w' v.ownBlock ∧ (∀ g, v'.ownBlock = some g → some g = v.ownBlock ∨ w.heap.size ≤ g) := by
  obtain ⟨i0, hi, hz0, hz1, hz2⟩ := info_parts cInfoS
  obtain ⟨v', w', hr, h2, h3, h4⟩ := app_where w B 23 o.type 9 i0 _ 1 16 Tryz.underlying23 hi hz0 hz1 hz2 rfl (by decide) (by decide) v l.length _ hown ⟨g, 0, none⟩ 1 [.string d] (by rfl) (fun j u hu => by
    rw [Addr.add_mid, Nat.zero_add, cell_heap hd]
    exact List.getElem?_toArray.trans hu) (fun u hu => by
    first
      | exact d.list_one u hu
      | (simp only [List.mem_cons, List.not_mem_nil, or_false] at hu; rcases hu with rfl | rfl <;> rfl)
      | (simp only [List.mem_cons, List.not_mem_nil, or_false] at hu; rw [hu]; rfl)) hn hB
  refine ⟨v', w', ?_, ?_, h3, h4⟩
  · unfold execOp
    simp only [ho, resolve, invoke, builtin, Sem.run_bind, Sem.run_pure, Result.andThen_ok, List.map_toArray, List.map_cons, List.map_nil, hs, hx, hr]
  · show w'.ownsRow B 9 1 v' (l ++ [d]).length (stCells1 (l ++ [d]))
    rw [stCells1_app, List.length_append]
    exact h2
theorem RowR.nil (w : World) (B : Nat) : RowR w B (.slice none 0 0) [] := World.ownsRow_nil w B _ _
theorem RowR.on {w w' : World} {B : Nat} {v : Value} {l : List Rg} (h : RowR w B v l) (hb : Below w.heap.size w w') : RowR w' B v l := ownsRow_on h hb
theorem rgCells1_one (d : Rg) : rgCells1 [d] = [.int .i64 d.1, .int .i64 d.2] := by simp [rgCells1]
theorem rgCells1_app (l : List Rg) (d : Rg) : rgCells1 (l ++ [d]) = rgCells1 l ++ [.int .i64 d.1, .int .i64 d.2] := by
  rw [← rgCells1_one d]
  unfold rgCells1
  rw [List.flatMap_append]
theorem rn_appR {o : Oper} {w : World} (a : Act) (s x : Operand) (ho : o.op = .call { callee := .builtin .append, args := #[s, x], argTypes := #[22, 22] }) (B : Nat) (v : Value) (l : List Rg) (hs : a.eval s = v) (hown : RowR w B v l)
    (g : Nat) (d : Rg) (hx : a.eval x = .slice (some ⟨g, 0, none⟩) 1 1) (hd : w.heap[g]? = some (.cells #[.int .i64 d.1, .int .i64 d.2] 60 (0, 0))) (hn : l.length ≤ 1000000) (hB : B ≤ w.heap.size) :
    ∃ v' w', (execOp a.eval o).run Tryz.prog w = .ok (.value v') w' ∧ RowR w' B v' (l ++ [d]) ∧ w.grownBy w' v.ownBlock ∧ (∀ g, v'.ownBlock = some g → some g = v.ownBlock ∨ w.heap.size ≤ g) := by
  obtain ⟨i0, hi, hz0, hz1, hz2⟩ := info_parts cInfoR
  obtain ⟨v', w', hr, h2, h3, h4⟩ := app_where w B 22 o.type 60 i0 _ 2 16 Tryz.underlying22 hi hz0 hz1 hz2 rfl (by decide) (by decide) v l.length _ hown ⟨g, 0, none⟩ 1 [.int .i64 d.1, .int .i64 d.2] (by rfl) (fun j u hu => by
    rw [Addr.add_mid, Nat.zero_add, cell_heap hd]
    exact List.getElem?_toArray.trans hu) (fun u hu => by
    first
      | exact d.list_one u hu
      | (simp only [List.mem_cons, List.not_mem_nil, or_false] at hu; rcases hu with rfl | rfl <;> rfl)
      | (simp only [List.mem_cons, List.not_mem_nil, or_false] at hu; rw [hu]; rfl)) hn hB
  refine ⟨v', w', ?_, ?_, h3, h4⟩
  · unfold execOp
    simp only [ho, resolve, invoke, builtin, Sem.run_bind, Sem.run_pure, Result.andThen_ok, List.map_toArray, List.map_cons, List.map_nil, hs, hx, hr]
  · show w'.ownsRow B 60 2 v' (l ++ [d]).length (rgCells1 (l ++ [d]))
    rw [rgCells1_app, List.length_append]
    exact h2
theorem RowE.nil (w : World) (B : Nat) : RowE w B (.slice none 0 0) [] := World.ownsRow_nil w B _ _
theorem RowE.on {w w' : World} {B : Nat} {v : Value} {l : List EC} (h : RowE w B v l) (hb : Below w.heap.size w w') : RowE w' B v l := ownsRow_on h hb
theorem exCells1_one (d : EC) : exCells1 [d] = d.list := by simp [exCells1]
theorem exCells1_app (l : List EC) (d : EC) : exCells1 (l ++ [d]) = exCells1 l ++ d.list := by
  rw [← exCells1_one d]
  unfold exCells1
  rw [List.flatMap_append]
theorem rn_appE {o : Oper} {w : World} (a : Act) (s x : Operand) (ho : o.op = .call { callee := .builtin .append, args := #[s, x], argTypes := #[26, 26] }) (B : Nat) (v : Value) (l : List EC) (hs : a.eval s = v) (hown : RowE w B v l)
    (g : Nat) (d : EC) (hx : a.eval x = .slice (some ⟨g, 0, none⟩) 1 1) (hd : w.heap[g]? = some (exObj d)) (hn : l.length ≤ 1000000) (hB : B ≤ w.heap.size) :
    ∃ v' w', (execOp a.eval o).run Tryz.prog w = .ok (.value v') w' ∧ RowE w' B v' (l ++ [d]) ∧ w.grownBy w' v.ownBlock ∧ (∀ g, v'.ownBlock = some g → some g = v.ownBlock ∨ w.heap.size ≤ g) := by
  obtain ⟨i0, hi, hz0, hz1, hz2⟩ := info_parts cInfoX
  obtain ⟨v', w', hr, h2, h3, h4⟩ := app_where w B 26 o.type 28 i0 _ 7 104 Tryz.underlying26 hi hz0 hz1 hz2 rfl (by decide) (by decide) v l.length _ hown ⟨g, 0, none⟩ 1 d.list (by rfl) (fun j u hu => by
    rw [Addr.add_mid, Nat.zero_add, cell_heap hd]
    exact List.getElem?_toArray.trans hu) (fun u hu => by
    first
      | exact d.list_one u hu
      | (simp only [List.mem_cons, List.not_mem_nil, or_false] at hu; rcases hu with rfl | rfl <;> rfl)
      | (simp only [List.mem_cons, List.not_mem_nil, or_false] at hu; rw [hu]; rfl)) hn hB
  refine ⟨v', w', ?_, ?_, h3, h4⟩
  · unfold execOp
    simp only [ho, resolve, invoke, builtin, Sem.run_bind, Sem.run_pure, Result.andThen_ok, List.map_toArray, List.map_cons, List.map_nil, hs, hx, hr]
  · show w'.ownsRow B 28 7 v' (l ++ [d]).length (exCells1 (l ++ [d]))
    rw [exCells1_app, List.length_append]
    exact h2
/-! ### A row of one -/
theorem rn_row1S {o : Oper} {w : World} (a : Act) (x : Operand) (ho : o.op = .buildSlice 23 1 #[(0, x)]) (d : ByteArray) (hx : a.eval x = .string d) : (execOp a.eval o).run Tryz.prog w = .ok (.value (.slice (some ⟨w.heap.size, 0, none⟩) 1 1)) (w.alloc (.cells #[.string d] 9 (0, 0))) := by
  simp only [execOp, ho, List.map_toArray, List.map_cons, List.map_nil, hx]
  go_simp
theorem rn_row1R {o : Oper} {w : World} (a : Act) (x : Operand) (ho : o.op = .buildSlice 22 1 #[(0, x)]) (d : Rg) (hx : a.eval x = .agg #[.int .i64 d.1, .int .i64 d.2]) : (execOp a.eval o).run Tryz.prog w = .ok (.value (.slice (some ⟨w.heap.size, 0, none⟩) 1 1)) (w.alloc (.cells #[.int .i64 d.1, .int .i64 d.2] 60 (0, 0))) := by
  simp only [execOp, ho, List.map_toArray, List.map_cons, List.map_nil, hx]
  go_simp
set_option maxHeartbeats 1000000 in
set_option maxRecDepth 100000 in
theorem rn_row1E {o : Oper} {w : World} (a : Act) (x : Operand) (ho : o.op = .buildSlice 26 1 #[(0, x)]) (d : EC) (hx : a.eval x = d.val) : (execOp a.eval o).run Tryz.prog w = .ok (.value (.slice (some ⟨w.heap.size, 0, none⟩) 1 1)) (w.alloc (exObj d)) := by
  simp only [execOp, ho, List.map_toArray, List.map_cons, List.map_nil, hx, EC.val, exObj]
  go_simp
theorem yt_buildR {ops : Array Oper} {S : World → Prop} {o : Oper} {a : Act} (hw : Region.wanted o (yielded ops a.tmps) = true) (x y : Operand) (ho : o.op = .build 60 #[(0, x), (1, y)]) (p q : Int) (hx : a.eval x = .int .i64 p) (hy : a.eval y = .int .i64 q) : YieldsIf Tryz.prog ops S o (.agg #[.int .i64 p, .int .i64 q]) a :=
  Or.inl ⟨hw, fun w _ => by
    simp only [execOp, ho, List.map_toArray, List.map_cons, List.map_nil, hx, hy]
    go_simp⟩
/-! ### Single operations of a drawn region -/
section
variable {ops : Array Oper} {Q : Exit → Act → World → Prop} {o : Oper} {a : Act} {i : Nat} {w : World} {K : Act → World → Prop}
theorem ot_run (hi : ops[i]? = some o) (hw : Region.wanted o (yielded ops a.tmps) = true) (v : Value) (w' : World) (hr : (execOp a.eval o).run Tryz.prog w = .ok (.value v) w') (h : K (a.put o.dst v) w') : wpOp Tryz.prog ops Q i K a w := by
  unfold wpOp
  simp only [hi]
  rw [if_pos hw]
  refine Or.inl ?_
  unfold Oper.wp
  rw [hr]
  exact h
theorem ot_skip (hi : ops[i]? = some o) (hw : Region.wanted o (yielded ops a.tmps) = true) (w' : World) (hr : (execOp a.eval o).run Tryz.prog w = .ok .skip w') (h : K (a.put o.dst undef) w') : wpOp Tryz.prog ops Q i K a w := by
  unfold wpOp
  simp only [hi]
  rw [if_pos hw]
  refine Or.inl ?_
  unfold Oper.wp
  rw [hr]
  exact h
theorem ot_call (hi : ops[i]? = some o) (hw : Region.wanted o (yielded ops a.tmps) = true)
    (f : Nat) (xs : Array Operand) (ts : Array TypeId) (ho : o.op = .call { callee := .value (.func f), args := xs, argTypes := ts }) (vs : Array Value) (hv : xs.toList.map a.eval = vs.toList)
    (hrun : ∀ (W : World) (A : Array Value), (callFunc f A).run Tryz.prog W = .ok (.enter f A) W)
    (hc : Calls Tryz.prog f vs w fun r w' => (∃ v, r = .returned v ∧ K (a.put o.dst v) w') ∨ (∃ ch, r = .panicked ch ∧ Q (.panic ch) a w')) : wpOp Tryz.prog ops Q i K a w := by
  unfold wpOp
  simp only [hi]
  rw [if_pos hw]
  refine Or.inl ?_
  have hv : xs.map a.eval = vs := by
    rw [← Array.toList_inj, Array.toList_map]
    exact hv
  have he : a.eval (.func f) = .func (.func f) #[] #[] := rfl
  have hx : (execOp a.eval o).run Tryz.prog w = .ok (.enter f vs) w := by
    have := hrun w vs
    simp [execOp, ho, resolve, he, hv, Deferred.ofValue, invoke, this]
  unfold Oper.wp
  rw [hx, Oper.upon_enter]
  refine hc.mono ?_
  rintro e w' (⟨v, rfl, h1⟩ | ⟨ch, rfl, h1⟩)
  · exact h1
  · exact h1
/-- A slice stored in a cell that lies there. -/
theorem rn_putL (T : TypeId) (hT : T = 22 ∨ T = 23 ∨ T = 26) (x y : Operand) (ho : o.op = .store T x y) (g k : Nat) (hx : a.eval x = .pointer (some ⟨g, k, none⟩)) (p : Option Addr) (n c : Nat) (hy : a.eval y = .slice p n c)
    {cs : Array Value} {t : TypeId} (hc : w.heap[g]? = some (.cells cs t (0, 0))) (hk : k < cs.size) : (execOp a.eval o).run Tryz.prog w = .ok .skip (w.setCell ⟨g, k, none⟩ (.slice p n c)) := by
  have c0 : w.cell? ⟨g, k, none⟩ = some cs[k] := by rw [cell_heap hc, Array.getElem?_eq_getElem hk]
  have f0 := frozen_heap hc k
  rcases hT with rfl | rfl | rfl
  · simp only [execOp, ho, hx, hy]
    go_simp
  · simp only [execOp, ho, hx, hy]
    go_simp
  · simp only [execOp, ho, hx, hy]
    go_simp
/-- An expression stored in a row. -/
theorem ot_putE (hi : ops[i]? = some o) (hw : Region.wanted o (yielded ops a.tmps) = true) (x y : Operand) (ho : o.op = .store 28 x y) (g k : Nat) (c : EC) (hx : a.eval x = .pointer (some ⟨g, k, none⟩)) (hy : a.eval y = c.val) (ht : w.there g k 7)
    (h : K (a.put o.dst undef) (w.setCells g k c.list)) : wpOp Tryz.prog ops Q i K a w := by
  unfold wpOp
  simp only [hi]
  rw [if_pos hw]
  exact Or.inl (wp_store_mid 28 x y ho g k c.list.toArray hx hy ht (by rw [infoEx]; rfl) (all_oneCell_toArray c.list_one) h)
theorem ot_row1S (hi : ops[i]? = some o) (hw : Region.wanted o (yielded ops a.tmps) = true) (x : Operand) (ho : o.op = .buildSlice 23 1 #[(0, x)]) (d : ByteArray) (hx : a.eval x = .string d)
    (h : ∀ W g, w.heap.size ≤ g → W.heap[g]? = some (.cells #[.string d] 9 (0, 0)) → Below w.heap.size w W → K (a.put o.dst (.slice (some ⟨g, 0, none⟩) 1 1)) W) : wpOp Tryz.prog ops Q i K a w :=
  ot_run hi hw _ _ (rn_row1S a x ho d hx) (h _ _ (Nat.le_refl _) (heap_new _ _) ((Below.refl _ w).alloc (Nat.le_refl _) _))
theorem ot_appS (hi : ops[i]? = some o) (hw : Region.wanted o (yielded ops a.tmps) = true) (s x : Operand) (ho : o.op = .call { callee := .builtin .append, args := #[s, x], argTypes := #[23, 23] }) (B : Nat) (v : Value) (l : List ByteArray) (hs : a.eval s = v) (hown : RowS w B v l)
    (g : Nat) (d : ByteArray) (hx : a.eval x = .slice (some ⟨g, 0, none⟩) 1 1) (hd : w.heap[g]? = some (.cells #[.string d] 9 (0, 0))) (hn : l.length ≤ 1000000) (hB : B ≤ w.heap.size)
    (h : ∀ v' W, RowS W B v' (l ++ [d]) → w.grownBy W v.ownBlock → (∀ g, v'.ownBlock = some g → some g = v.ownBlock ∨ w.heap.size ≤ g) → K (a.put o.dst v') W) : wpOp Tryz.prog ops Q i K a w := by
  obtain ⟨v', w', hr, h2, h3, h4⟩ := rn_appS a s x ho B v l hs hown g d hx hd hn hB
  exact ot_run hi hw v' w' hr (h v' w' h2 h3 h4)
theorem wt_row1S {rest : List Oper} (hw : Region.wanted o (yielded ops a.tmps) = true) (x : Operand) (ho : o.op = .buildSlice 23 1 #[(0, x)]) (d : ByteArray) (hx : a.eval x = .string d)
    (h : ∀ W g, w.heap.size ≤ g → W.heap[g]? = some (.cells #[.string d] 9 (0, 0)) → Below w.heap.size w W → wpList Tryz.prog ops Q rest (a.put o.dst (.slice (some ⟨g, 0, none⟩) 1 1)) W) : wpList Tryz.prog ops Q (o :: rest) a w :=
  wl_run hw _ _ (rn_row1S a x ho d hx) (h _ _ (Nat.le_refl _) (heap_new _ _) ((Below.refl _ w).alloc (Nat.le_refl _) _))
theorem wt_appS {rest : List Oper} (hw : Region.wanted o (yielded ops a.tmps) = true) (s x : Operand) (ho : o.op = .call { callee := .builtin .append, args := #[s, x], argTypes := #[23, 23] }) (B : Nat) (v : Value) (l : List ByteArray) (hs : a.eval s = v) (hown : RowS w B v l)
    (g : Nat) (d : ByteArray) (hx : a.eval x = .slice (some ⟨g, 0, none⟩) 1 1) (hd : w.heap[g]? = some (.cells #[.string d] 9 (0, 0))) (hn : l.length ≤ 1000000) (hB : B ≤ w.heap.size)
    (h : ∀ v' W, RowS W B v' (l ++ [d]) → w.grownBy W v.ownBlock → (∀ g, v'.ownBlock = some g → some g = v.ownBlock ∨ w.heap.size ≤ g) → wpList Tryz.prog ops Q rest (a.put o.dst v') W) : wpList Tryz.prog ops Q (o :: rest) a w := by
  obtain ⟨v', w', hr, h2, h3, h4⟩ := rn_appS a s x ho B v l hs hown g d hx hd hn hB
  exact wl_run hw v' w' hr (h v' w' h2 h3 h4)
theorem ot_row1R (hi : ops[i]? = some o) (hw : Region.wanted o (yielded ops a.tmps) = true) (x : Operand) (ho : o.op = .buildSlice 22 1 #[(0, x)]) (d : Rg) (hx : a.eval x = .agg #[.int .i64 d.1, .int .i64 d.2])
    (h : ∀ W g, w.heap.size ≤ g → W.heap[g]? = some (.cells #[.int .i64 d.1, .int .i64 d.2] 60 (0, 0)) → Below w.heap.size w W → K (a.put o.dst (.slice (some ⟨g, 0, none⟩) 1 1)) W) : wpOp Tryz.prog ops Q i K a w :=
  ot_run hi hw _ _ (rn_row1R a x ho d hx) (h _ _ (Nat.le_refl _) (heap_new _ _) ((Below.refl _ w).alloc (Nat.le_refl _) _))
theorem ot_appR (hi : ops[i]? = some o) (hw : Region.wanted o (yielded ops a.tmps) = true) (s x : Operand) (ho : o.op = .call { callee := .builtin .append, args := #[s, x], argTypes := #[22, 22] }) (B : Nat) (v : Value) (l : List Rg) (hs : a.eval s = v) (hown : RowR w B v l)
    (g : Nat) (d : Rg) (hx : a.eval x = .slice (some ⟨g, 0, none⟩) 1 1) (hd : w.heap[g]? = some (.cells #[.int .i64 d.1, .int .i64 d.2] 60 (0, 0))) (hn : l.length ≤ 1000000) (hB : B ≤ w.heap.size)
    (h : ∀ v' W, RowR W B v' (l ++ [d]) → w.grownBy W v.ownBlock → (∀ g, v'.ownBlock = some g → some g = v.ownBlock ∨ w.heap.size ≤ g) → K (a.put o.dst v') W) : wpOp Tryz.prog ops Q i K a w := by
  obtain ⟨v', w', hr, h2, h3, h4⟩ := rn_appR a s x ho B v l hs hown g d hx hd hn hB
  exact ot_run hi hw v' w' hr (h v' w' h2 h3 h4)
theorem ot_row1E (hi : ops[i]? = some o) (hw : Region.wanted o (yielded ops a.tmps) = true) (x : Operand) (ho : o.op = .buildSlice 26 1 #[(0, x)]) (d : EC) (hx : a.eval x = d.val)
    (h : ∀ W g, w.heap.size ≤ g → W.heap[g]? = some (exObj d) → Below w.heap.size w W → K (a.put o.dst (.slice (some ⟨g, 0, none⟩) 1 1)) W) : wpOp Tryz.prog ops Q i K a w :=
  ot_run hi hw _ _ (rn_row1E a x ho d hx) (h _ _ (Nat.le_refl _) (heap_new _ _) ((Below.refl _ w).alloc (Nat.le_refl _) _))
theorem ot_appE (hi : ops[i]? = some o) (hw : Region.wanted o (yielded ops a.tmps) = true) (s x : Operand) (ho : o.op = .call { callee := .builtin .append, args := #[s, x], argTypes := #[26, 26] }) (B : Nat) (v : Value) (l : List EC) (hs : a.eval s = v) (hown : RowE w B v l)
    (g : Nat) (d : EC) (hx : a.eval x = .slice (some ⟨g, 0, none⟩) 1 1) (hd : w.heap[g]? = some (exObj d)) (hn : l.length ≤ 1000000) (hB : B ≤ w.heap.size)
    (h : ∀ v' W, RowE W B v' (l ++ [d]) → w.grownBy W v.ownBlock → (∀ g, v'.ownBlock = some g → some g = v.ownBlock ∨ w.heap.size ≤ g) → K (a.put o.dst v') W) : wpOp Tryz.prog ops Q i K a w := by
  obtain ⟨v', w', hr, h2, h3, h4⟩ := rn_appE a s x ho B v l hs hown g d hx hd hn hB
  exact ot_run hi hw v' w' hr (h v' w' h2 h3 h4)
theorem wt_row1E {rest : List Oper} (hw : Region.wanted o (yielded ops a.tmps) = true) (x : Operand) (ho : o.op = .buildSlice 26 1 #[(0, x)]) (d : EC) (hx : a.eval x = d.val)
    (h : ∀ W g, w.heap.size ≤ g → W.heap[g]? = some (exObj d) → Below w.heap.size w W → wpList Tryz.prog ops Q rest (a.put o.dst (.slice (some ⟨g, 0, none⟩) 1 1)) W) : wpList Tryz.prog ops Q (o :: rest) a w :=
  wl_run hw _ _ (rn_row1E a x ho d hx) (h _ _ (Nat.le_refl _) (heap_new _ _) ((Below.refl _ w).alloc (Nat.le_refl _) _))
theorem ot_putL (hi : ops[i]? = some o) (hw : Region.wanted o (yielded ops a.tmps) = true) (T : TypeId) (hT : T = 22 ∨ T = 23 ∨ T = 26) (x y : Operand) (ho : o.op = .store T x y) (g k : Nat) (hx : a.eval x = .pointer (some ⟨g, k, none⟩)) (p : Option Addr) (n c : Nat) (hy : a.eval y = .slice p n c)
    {cs : Array Value} {t : TypeId} (hc : w.heap[g]? = some (.cells cs t (0, 0))) (hk : k < cs.size)
    (h : ∀ W, W.heap[g]? = some (.cells (cs.setIfInBounds k (.slice p n c)) t (0, 0)) → w.grownBy W (some g) → K (a.put o.dst undef) W) : wpOp Tryz.prog ops Q i K a w :=
  ot_skip hi hw _ (rn_putL T hT x y ho g k hx p n c hy hc hk) (h _ (heap_setCell _ hc) (grown_put _ _ _ _))
end
end Go.Proofs.YtciflobdpenpaaaGreatDoor
/-
  The reader's items: one after the other, whatever an item is.
-/
set_option linter.unusedSimpArgs false
set_option linter.unusedVariables false
namespace Go.Proofs.YtciflobdpenpaaaGreatDoor
open Go.RowKit

/-- How much a reader has left. -/
def leftOf (w : World) (b : Nat) : Nat := match w.cell? ⟨b, 0, none⟩ with
  | some (.string s) => s.size
  | _ => 0
theorem items_step {σ : Type} (stop : UInt8) (f : σ → List UInt8 → Option (σ × List UInt8)) (k : Nat) (first : Bool) (a : σ) (l : List UInt8) : itemsL stop f (k + 1) first a l = (match cut [stop] l with
    | some r => some (a, r)
    | none =>
      match (if first then some l else cut [32] l) with
      | none => none
      | some l' =>
        match f a l' with
        | none => none
        | some (a', r) => itemsL stop f k false a' r) := rfl
theorem leftOf_rd {w : World} {b : Nat} {l : List UInt8} (h : Rdr w b l) : leftOf w b = l.length := by
  unfold leftOf
  rw [h.rd.cell.1]
  exact bs_size l
set_option maxHeartbeats 1000000 in
set_option maxRecDepth 100000 in
theorem items_any {σ : Type} (b : Nat) (stop : UInt8) (N f : Nat) (caps : Array Value) (g : σ → List UInt8 → Option (σ × List UInt8)) (I : World → σ → List UInt8 → Prop) (G : World → Prop)
    (hrun : ∀ (W : World) (A : Array Value), (callFunc f A).run Tryz.prog W = .ok (.enter f A) W) (hG : ∀ W a l, I W a l → G W) (hI : ∀ W W' a l l', I W a l → W.grownBy W' (some b) → l'.length ≤ l.length → I W' a l')
    (hitem : ∀ W a l, I W a l → Rdr W b l → l.length ≤ N → Calls Tryz.prog f caps W fun e W' => (∃ a' r, g a l = some (a', r) ∧ r.length < l.length ∧ e = .returned (.tuple #[]) ∧ I W' a' r ∧ Rdr W' b r) ∨ (g a l = none ∧ e = .panicked chE ∧ G W'))
    (k : Nat) (a : σ) (l : List UInt8) (w : World) (hk : l.length < k) (hl : l.length ≤ N) (HI : I w a l) (H : Rdr w b l) :
    Calls Tryz.prog 77 #[.pointer (some ⟨b, 0, none⟩), .string (bs [stop]), .func (.func f) #[] caps] w fun e w' => (∃ a' r, itemsL stop g k true a l = some (a', r) ∧ r.length < l.length ∧ e = .returned (.tuple #[]) ∧ I w' a' r ∧ Rdr w' b r) ∨ (itemsL stop g k true a l = none ∧ e = .panicked chE ∧ G w') := by
  have w6 : 6 ≤ w.heap.size := H.env.big
  have D : w.grownBy w (some b) := grown_refl _ _
  go_enter Tryz.func77, Tryz.ntmps77
  refine wp_seq_k (fun K1 hK1 => ?_)
  refine wp_region_lit ?_
  refine wl_yield (o := ⟨_, _, _, _, _, _⟩) (.bool true) (yl_assign (by rfl) _ rfl _ rfl) ?_
  simp only [Act.put, List.setIfInBounds_toArray, List.set_cons_zero, List.set_cons_succ]
  refine wpList_nil ?_
  refine hK1 _ _ ?_
  clear hK1 K1
  refine wp_block ?_
  go_loopw [6] (fun i wr => ∃ (first : Bool) (a1 : σ) (l1 : List UInt8) (k1 : Nat), i = .bool first ∧ I wr a1 l1 ∧ Rdr wr b l1 ∧ l1.length < k1 ∧ l1.length ≤ N ∧ l1.length ≤ l.length ∧ itemsL stop g k true a l = itemsL stop g k1 first a1 l1) (fun _ wr => leftOf wr b)
  case atStart => exact ⟨true, a, l, k, rfl, HI, H, hk, hl, Nat.le_refl _, rfl⟩
  case round =>
    clear HI H D
    obtain ⟨first, a1, l1, k1, rfl, HI, H, hk1, hl1, hle, E⟩ := hrel
    obtain ⟨k2, rfl⟩ : ∃ k2, k1 = k2 + 1 := ⟨k1 - 1, by omega⟩
    have D : wr.grownBy wr (some b) := grown_refl _ _
    have w6 : 6 ≤ wr.heap.size := H.env.big
    have M := leftOf_rd H
    have HM := hide M
    clear M
    cases first
    · refine wp_seq_k (fun K2 hK2 => ?_)
      refine wp_seq_k (fun K3 hK3 => ?_)
      refine wp_region_lit ?_
      refine wl_yield (o := ⟨_, _, _, _, _, _⟩) (.pointer (some ⟨b, 0, none⟩)) (yl_move (by rfl) _ rfl _ rfl) ?_
      simp only [Act.put, List.setIfInBounds_toArray, List.set_cons_zero, List.set_cons_succ]
      refine wl_yield (o := ⟨_, _, _, _, _, _⟩) (.string (bs ([stop]))) (yl_move (by rfl) _ rfl _ rfl) ?_
      simp only [Act.put, List.setIfInBounds_toArray, List.set_cons_zero, List.set_cons_succ]
      refine wt_call (o := ⟨_, _, _, _, _, _⟩) (by rfl) 70 _ _ rfl #[.pointer (some ⟨b, 0, none⟩), .string (bs ([stop]))] rfl (run_call Tryz.func70 (by kernel_rfl) (by kernel_rfl)) ?_
      refine (has_or b _ _ _ H.rd).mono ?_
      rintro r v1 (⟨hq, hc, rfl, hr, kg⟩ | ⟨hc, rfl, hr, kg⟩)
      · replace H := H.grown kg hr
        clear hr
        replace D := grown_trans D kg
        clear kg
        have hcl0 := cut_len hc
        replace HI := hI _ _ _ _ hq HI D (by omega)
        refine Or.inl ⟨.bool true, rfl, ?_⟩
        simp only [Act.put, List.setIfInBounds_toArray, List.set_cons_zero, List.set_cons_succ]
        refine wl_yield (o := ⟨_, _, _, _, _, _⟩) (.bool false) (yl_not (by rfl) _ _ rfl true rfl) ?_
        simp only [Act.put, List.setIfInBounds_toArray, List.set_cons_zero, List.set_cons_succ]
        refine wpList_nil ?_
        refine hK3 _ _ ?_
        clear hK3 K3
        refine wp_cond_false rfl ?_
        refine wp_exit ?_
        simp only [Exit.inBlock, Exit.then, if_true, eq_self_iff_true, beq_self_eq_true]
        go_end0
        exact Or.inl ⟨a1, hq, by rw [E]; rw [items_step, hc], by have := cut_len hc; simp only [List.length_cons, List.length_nil] at this; omega, rfl, HI, H⟩
      · replace H := H.grown kg hr
        clear hr
        replace D := grown_trans D kg
        clear kg
        replace HI := hI _ _ _ _ l1 HI D (Nat.le_refl _)
        refine Or.inl ⟨.bool false, rfl, ?_⟩
        simp only [Act.put, List.setIfInBounds_toArray, List.set_cons_zero, List.set_cons_succ]
        refine wl_yield (o := ⟨_, _, _, _, _, _⟩) (.bool true) (yl_not (by rfl) _ _ rfl false rfl) ?_
        simp only [Act.put, List.setIfInBounds_toArray, List.set_cons_zero, List.set_cons_succ]
        refine wpList_nil ?_
        refine hK3 _ _ ?_
        clear hK3 K3
        refine wp_cond_true rfl ?_
        refine wp_skip ?_
        refine hK2 _ _ ?_
        clear hK2 K2
        refine wp_seq_k (fun K4 hK4 => ?_)
        refine wp_block ?_
        refine wp_seq_k (fun K5 hK5 => ?_)
        refine wp_seq_k (fun K6 hK6 => ?_)
        refine wp_region_lit ?_
        refine wl_yield (o := ⟨_, _, _, _, _, _⟩) (.bool false) (yl_move (by rfl) _ rfl _ rfl) ?_
        simp only [Act.put, List.setIfInBounds_toArray, List.set_cons_zero, List.set_cons_succ]
        refine wl_yield (o := ⟨_, _, _, _, _, _⟩) (.bool true) (yl_not (by rfl) _ _ rfl false rfl) ?_
        simp only [Act.put, List.setIfInBounds_toArray, List.set_cons_zero, List.set_cons_succ]
        refine wpList_nil ?_
        refine hK6 _ _ ?_
        clear hK6 K6
        refine wp_cond_true rfl ?_
        refine wp_region_lit ?_
        refine wl_yield (o := ⟨_, _, _, _, _, _⟩) (.pointer (some ⟨b, 0, none⟩)) (yl_move (by rfl) _ rfl _ rfl) ?_
        simp only [Act.put, List.setIfInBounds_toArray, List.set_cons_zero, List.set_cons_succ]
        refine wt_call (o := ⟨_, _, _, _, _, _⟩) (by rfl) 73 _ _ rfl #[.pointer (some ⟨b, 0, none⟩), .string (bs ([32]))] rfl (run_call Tryz.func73 (by kernel_rfl) (by kernel_rfl)) ?_
        refine (need_or b _ _ _ H.rd).mono ?_
        rintro r v2 (⟨nq, nc, rfl, hr, kg⟩ | ⟨nc, rfl, kg⟩)
        · have hcl1 := cut_len nc
          replace HI := hI _ _ _ _ nq HI kg (by omega)
          replace H := H.grown kg hr
          clear hr
          replace D := grown_trans D kg
          clear kg
          refine Or.inl ⟨.tuple #[], rfl, ?_⟩
          simp only [Act.put, List.setIfInBounds_toArray, List.set_cons_zero, List.set_cons_succ]
          refine wpList_nil ?_
          refine hK5 _ _ ?_
          clear hK5 K5
          refine wp_region_lit ?_
          refine wl_yield (o := ⟨_, _, _, _, _, _⟩) (.func (.func f) #[] caps) (yl_move (by rfl) _ rfl _ rfl) ?_
          simp only [Act.put, List.setIfInBounds_toArray, List.set_cons_zero, List.set_cons_succ]
          refine wt_callv (o := ⟨_, _, _, _, _, _⟩) (by rfl) f _ _ _ rfl caps rfl #[] rfl (hrun) ?_
          rw [show (#[] : Array Value) ++ caps = caps from by simp]
          refine (hitem _ a1 nq HI H (by have := cut_len nc; simp only [List.length_cons, List.length_nil] at this; omega)).mono ?_
          rintro r v3 (⟨a2, r2, hg1, hlt, rfl, HI2, H2⟩ | ⟨hg1, rfl, HG⟩)
          · clear HI H D
            have HI := HI2
            have H := H2
            clear HI2 H2
            have hE : itemsL stop g k true a l = itemsL stop g k2 false a2 r2 := by rw [E]; rw [items_step, hc]; dsimp only; rw [if_neg (by decide), nc]; dsimp only; rw [hg1]
            have hcl := cut_len nc
            simp only [List.length_cons, List.length_nil] at hcl
            replace hlt : r2.length < l1.length := by omega
            refine Or.inl ⟨.tuple #[], rfl, ?_⟩
            simp only [Act.put, List.setIfInBounds_toArray, List.set_cons_zero, List.set_cons_succ]
            refine wpList_nil ?_
            refine hK4 _ _ ?_
            clear hK4 K4
            refine wp_region_lit ?_
            refine wl_yield (o := ⟨_, _, _, _, _, _⟩) (.bool false) (yl_assign (by rfl) _ rfl _ rfl) ?_
            simp only [Act.put, List.setIfInBounds_toArray, List.set_cons_zero, List.set_cons_succ]
            refine wpList_nil ?_
            show _ ∧ _
            go_roundw
            case rel => exact ⟨false, a2, r2, k2, rfl, HI, H, by omega, by omega, by omega, hE⟩
            case measure => rw [HM.out, leftOf_rd H]; exact hlt
          · refine Or.inr ⟨_, rfl, ?_⟩
            exact ⟨rfl, Or.inr ⟨by rw [E]; rw [items_step, hc]; dsimp only; rw [if_neg (by decide), nc]; dsimp only; rw [hg1], rfl, HG⟩⟩
        · have kg' := kg
          replace D := grown_trans D kg
          refine Or.inr ⟨_, rfl, ?_⟩
          exact ⟨rfl, Or.inr ⟨by rw [E]; rw [items_step, hc]; dsimp only; rw [if_neg (by decide), nc], rfl, hG _ _ _ (hI _ _ _ _ l1 HI kg' (Nat.le_refl _))⟩⟩
    · refine wp_seq_k (fun K2 hK2 => ?_)
      refine wp_seq_k (fun K3 hK3 => ?_)
      refine wp_region_lit ?_
      refine wl_yield (o := ⟨_, _, _, _, _, _⟩) (.pointer (some ⟨b, 0, none⟩)) (yl_move (by rfl) _ rfl _ rfl) ?_
      simp only [Act.put, List.setIfInBounds_toArray, List.set_cons_zero, List.set_cons_succ]
      refine wl_yield (o := ⟨_, _, _, _, _, _⟩) (.string (bs ([stop]))) (yl_move (by rfl) _ rfl _ rfl) ?_
      simp only [Act.put, List.setIfInBounds_toArray, List.set_cons_zero, List.set_cons_succ]
      refine wt_call (o := ⟨_, _, _, _, _, _⟩) (by rfl) 70 _ _ rfl #[.pointer (some ⟨b, 0, none⟩), .string (bs ([stop]))] rfl (run_call Tryz.func70 (by kernel_rfl) (by kernel_rfl)) ?_
      refine (has_or b _ _ _ H.rd).mono ?_
      rintro r v1 (⟨hq, hc, rfl, hr, kg⟩ | ⟨hc, rfl, hr, kg⟩)
      · replace H := H.grown kg hr
        clear hr
        replace D := grown_trans D kg
        clear kg
        have hcl0 := cut_len hc
        replace HI := hI _ _ _ _ hq HI D (by omega)
        refine Or.inl ⟨.bool true, rfl, ?_⟩
        simp only [Act.put, List.setIfInBounds_toArray, List.set_cons_zero, List.set_cons_succ]
        refine wl_yield (o := ⟨_, _, _, _, _, _⟩) (.bool false) (yl_not (by rfl) _ _ rfl true rfl) ?_
        simp only [Act.put, List.setIfInBounds_toArray, List.set_cons_zero, List.set_cons_succ]
        refine wpList_nil ?_
        refine hK3 _ _ ?_
        clear hK3 K3
        refine wp_cond_false rfl ?_
        refine wp_exit ?_
        simp only [Exit.inBlock, Exit.then, if_true, eq_self_iff_true, beq_self_eq_true]
        go_end0
        exact Or.inl ⟨a1, hq, by rw [E]; rw [items_step, hc], by have := cut_len hc; simp only [List.length_cons, List.length_nil] at this; omega, rfl, HI, H⟩
      · replace H := H.grown kg hr
        clear hr
        replace D := grown_trans D kg
        clear kg
        replace HI := hI _ _ _ _ l1 HI D (Nat.le_refl _)
        refine Or.inl ⟨.bool false, rfl, ?_⟩
        simp only [Act.put, List.setIfInBounds_toArray, List.set_cons_zero, List.set_cons_succ]
        refine wl_yield (o := ⟨_, _, _, _, _, _⟩) (.bool true) (yl_not (by rfl) _ _ rfl false rfl) ?_
        simp only [Act.put, List.setIfInBounds_toArray, List.set_cons_zero, List.set_cons_succ]
        refine wpList_nil ?_
        refine hK3 _ _ ?_
        clear hK3 K3
        refine wp_cond_true rfl ?_
        refine wp_skip ?_
        refine hK2 _ _ ?_
        clear hK2 K2
        refine wp_seq_k (fun K4 hK4 => ?_)
        refine wp_block ?_
        refine wp_seq_k (fun K5 hK5 => ?_)
        refine wp_seq_k (fun K6 hK6 => ?_)
        refine wp_region_lit ?_
        refine wl_yield (o := ⟨_, _, _, _, _, _⟩) (.bool true) (yl_move (by rfl) _ rfl _ rfl) ?_
        simp only [Act.put, List.setIfInBounds_toArray, List.set_cons_zero, List.set_cons_succ]
        refine wl_yield (o := ⟨_, _, _, _, _, _⟩) (.bool false) (yl_not (by rfl) _ _ rfl true rfl) ?_
        simp only [Act.put, List.setIfInBounds_toArray, List.set_cons_zero, List.set_cons_succ]
        refine wpList_nil ?_
        refine hK6 _ _ ?_
        clear hK6 K6
        refine wp_cond_false rfl ?_
        refine wp_skip ?_
        refine hK5 _ _ ?_
        clear hK5 K5
        refine wp_region_lit ?_
        refine wl_yield (o := ⟨_, _, _, _, _, _⟩) (.func (.func f) #[] caps) (yl_move (by rfl) _ rfl _ rfl) ?_
        simp only [Act.put, List.setIfInBounds_toArray, List.set_cons_zero, List.set_cons_succ]
        refine wt_callv (o := ⟨_, _, _, _, _, _⟩) (by rfl) f _ _ _ rfl caps rfl #[] rfl (hrun) ?_
        rw [show (#[] : Array Value) ++ caps = caps from by simp]
        refine (hitem _ a1 l1 HI H (by omega)).mono ?_
        rintro r v2 (⟨a2, r2, hg1, hlt, rfl, HI2, H2⟩ | ⟨hg1, rfl, HG⟩)
        · clear HI H D
          have HI := HI2
          have H := H2
          clear HI2 H2
          have hE : itemsL stop g k true a l = itemsL stop g k2 false a2 r2 := by rw [E]; rw [items_step, hc]; dsimp only; rw [if_pos rfl]; dsimp only; rw [hg1]
          refine Or.inl ⟨.tuple #[], rfl, ?_⟩
          simp only [Act.put, List.setIfInBounds_toArray, List.set_cons_zero, List.set_cons_succ]
          refine wpList_nil ?_
          refine hK4 _ _ ?_
          clear hK4 K4
          refine wp_region_lit ?_
          refine wl_yield (o := ⟨_, _, _, _, _, _⟩) (.bool false) (yl_assign (by rfl) _ rfl _ rfl) ?_
          simp only [Act.put, List.setIfInBounds_toArray, List.set_cons_zero, List.set_cons_succ]
          refine wpList_nil ?_
          show _ ∧ _
          go_roundw
          case rel => exact ⟨false, a2, r2, k2, rfl, HI, H, by omega, by omega, by omega, hE⟩
          case measure => rw [HM.out, leftOf_rd H]; exact hlt
        · refine Or.inr ⟨_, rfl, ?_⟩
          exact ⟨rfl, Or.inr ⟨by rw [E]; rw [items_step, hc]; dsimp only; rw [if_pos rfl]; dsimp only; rw [hg1], rfl, HG⟩⟩

end Go.Proofs.YtciflobdpenpaaaGreatDoor
