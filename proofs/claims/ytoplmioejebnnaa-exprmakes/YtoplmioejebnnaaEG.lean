/-
  The fifth reference's each and Right, walked; the third one's Small.
-/
import Derived.Test.YtoplmioejebnnaaEF
import Derived.Test.YtoplmioejebnnaaSD
import Derived.Test.YtoplmioejebnnaaSC
import Derived.Test.YtoplmioejebnnaaXF
set_option linter.unusedSimpArgs false
set_option linter.unusedVariables false
namespace Go.Proofs.Ytoplmioejebnnaa
open Go.RowKit

set_option maxHeartbeats 4000000 in
set_option maxRecDepth 100000 in
theorem refSmall_any (v : Value) (S : SetV) (w : World) (hv : SetAt w v S) :
    Calls Try.prog 50 #[v] w fun r w' => r = .returned (.bool (smallB S)) ∧ Below w.heap.size w w' := by
  obtain ⟨vi, vs, rfl, hI, hS⟩ := hv
  obtain ⟨ai, ci, rfl⟩ := hI.form
  obtain ⟨aq, cq, rfl⟩ := hS.form
  have B0 := fun (o : Obj) => hide ((Below.refl _ w).alloc (Nat.le_refl _) o)
  have n1 := hI.2.1
  have n2 := hS.2.1
  unfold smallB
  clear hI hS
  generalize S.ints.length = a at *
  generalize S.strs.length = b at *
  by_cases h1 : a ≤ 6
  · have e1 : decide ((a : Int) ≤ 6) = true := decide_eq_true (by omega)
    have e1' : decide (a ≤ 6) = true := decide_eq_true h1
    go_enter Try.func50, Try.ntmps50
    go_wp2
    go_ret
    exact ⟨ret_bool (by rw [e1', Bool.true_and]; exact decide_eq_decide.2 (by omega)), (B0 _).out⟩
  · have e1 : decide ((a : Int) ≤ 6) = false := decide_eq_false (by omega)
    have e1' : decide (a ≤ 6) = false := decide_eq_false h1
    go_enter Try.func50, Try.ntmps50
    go_wp2
    go_ret
    exact ⟨ret_bool (by rw [e1', Bool.false_and]), (B0 _).out⟩

def eachL (n : Nat) (l : List ExV) : Bool := l.all (eachX n)
theorem eachL_step (n : Nat) (l : List ExV) (k : Nat) (h : k < l.length) : (l.drop k).all (eachX n) = (eachX n (l.getD k noX) && (l.drop (k + 1)).all (eachX n)) := by
  rw [drop_getX l k h, List.all_cons]

structure XAt1 (w W : World) (c : EC) : Prop where
  x : W.heap[w.heap.size]? = some (Obj.cells #[.int .i64 c.k, .int .i64 c.t, .bool c.s.a, .slice c.s.p c.s.n c.s.c, .bool c.s.d, .slice c.s.q c.s.m c.s.e, .slice c.p c.n c.c] 28 (0, 0))
  b : Below w.heap.size w W
theorem XAt1.new (w : World) (c : EC) : XAt1 w (w.alloc (Obj.cells #[.int .i64 c.k, .int .i64 c.t, .bool c.s.a, .slice c.s.p c.s.n c.s.c, .bool c.s.d, .slice c.s.q c.s.m c.s.e, .slice c.p c.n c.c] 28)) c := ⟨heap_new w _, (Below.refl _ w).alloc (Nat.le_refl _) _⟩
theorem XAt1.on {w W W' : World} {c : EC} (h : XAt1 w W c) (hb : Below W.heap.size W W') : XAt1 w W' c := ⟨(hb.block _ (lt_heap h.x)).trans h.x, h.b.trans (hb.mono h.b.size)⟩
theorem nodeX_1 {x : ExV} (hk : x.kind = 1) : nodeX x = (decide (0 ≤ x.attr ∧ x.attr ≤ 3 ∧ x.sub.length = 0) && (rightSet x.set && smallB x.set)) := by unfold nodeX; rw [if_pos hk]
theorem nodeX_2 {x : ExV} (hk : x.kind = 2 ∨ x.kind = 3 ∨ x.kind = 4) : nodeX x = ((decide (x.attr = 0) && sameB x.set noSet) && decide (x.kind = 4 → x.sub.length = 1)) := by unfold nodeX; rw [if_neg (by omega), if_pos hk]
theorem nodeX_3 {x : ExV} (h1 : ¬ x.kind = 1) (hk : ¬ (x.kind = 2 ∨ x.kind = 3 ∨ x.kind = 4)) : nodeX x = false := by unfold nodeX; rw [if_neg h1, if_neg hk]

set_option maxHeartbeats 8000000 in
set_option maxRecDepth 100000 in
theorem refEach_atom (n : Nat) (x : ExV) (c : EC) (w : World) (hx : ExAt (n + 1) w c.val x) (hk : x.kind = 1) :
    Calls Try.prog 31 #[c.val] w fun r w' => r = .returned (.bool (eachX (n + 1) x)) ∧ Below w.heap.size w w' := by
  obtain ⟨c', hv, hc, _⟩ := id hx
  obtain rfl := ec_inj hv
  have ek : (c.k == 1) = true := by rw [hc.k, hk]; rfl
  have HC : Hid (eachX (n + 1) x = ((decide (0 ≤ x.attr ∧ x.attr ≤ 3 ∧ x.sub.length = 0) && (rightSet x.set && smallB x.set)) && x.sub.all (eachX n))) := hide (by rw [← nodeX_1 hk]; rfl)
  rw [← hc.t, ← hc.n] at HC
  have HN := hide hc.n
  have HT := hide (XAt1.new w c)
  have RS := fun (W : World) (hb : Below w.heap.size w W) => hide (refRightSet_any _ _ W (hc.s.on hb))
  have RM := fun (W : World) (hb : Below w.heap.size w W) => hide (refSmall_any _ _ W (hc.s.on hb))
  have big := hc.big
  have room := hc.room
  generalize eachX (n + 1) x = R at HC ⊢
  clear hx hv hc hk
  unfold SC.val at RS RM
  unfold EC.val
  by_cases a0 : c.t < 0
  · have d0 : decide (c.t < 0) = true := decide_eq_true a0
    have E : Hid (R = false) := hide (by rw [HC.out, decide_eq_false (by omega)]; rfl)
    clear HC RS RM
    go_enter Try.func31, Try.ntmps31
    go_wp2
    go_ret
    exact ⟨ret_bool E.out.symm, HT.out.b⟩
  · have d0 : decide (c.t < 0) = false := decide_eq_false a0
    by_cases a3 : 3 < c.t
    · have d3 : decide (3 < c.t) = true := decide_eq_true a3
      have E : Hid (R = false) := hide (by rw [HC.out, decide_eq_false (by omega)]; rfl)
      clear HC RS RM
      go_enter Try.func31, Try.ntmps31
      go_wp2
      go_ret
      exact ⟨ret_bool E.out.symm, HT.out.b⟩
    · have d3 : decide (3 < c.t) = false := decide_eq_false a3
      by_cases hl : c.n = 0
      · have dl : decide ((0 : Int) < (c.n : Int)) = false := decide_eq_false (by omega)
        have E0 : Hid (R = (rightSet x.set && smallB x.set)) := hide (by
          have : x.sub = [] := List.length_eq_zero_iff.1 (by rw [← HN.out]; exact hl)
          rw [HC.out, decide_eq_true ⟨by omega, by omega, hl⟩, this]
          simp)
        rw [hl] at HT ⊢
        have C6 : Hid (∀ W : World, W.cell? ⟨w.heap.size, 6, none⟩ = some (.slice c.p c.n c.c) → W.cell? ⟨w.heap.size, 6, none⟩ = some (.slice c.p 0 c.c)) := hide (fun W h => by rw [h, hl])
        clear HC hl dl
        generalize rightSet x.set = q1 at RS E0
        generalize smallB x.set = q2 at RM E0
        go_enter Try.func31, Try.ntmps31
        go_wp2_with fail
        refine (unhide (RS _ HT.out.b)).mono ?_
        rintro r w1 ⟨rfl, b1⟩
        have HT1 := hide (HT.out.on b1)
        obtain ⟨c0, c1, c2, c3, c4, c5, c6⟩ := ecCells HT1.out.x
        replace c6 := C6.out _ c6
        clear RS b1 HT
        cases q1
        · have E : Hid (R = false) := hide E0.out
          clear E0 RM C6
          go_wp2
          go_ret
          exact ⟨ret_bool E.out.symm, HT1.out.b⟩
        · have E1 : Hid (R = q2) := hide E0.out
          clear E0
          go_wp2_with fail
          refine (unhide (RM _ HT1.out.b)).mono ?_
          rintro r w2 ⟨rfl, b2⟩
          have HT2 := hide (HT1.out.on b2)
          clear RM b2 HT1 c0 c1 c2 c3 c4 c5 c6
          obtain ⟨c0, c1, c2, c3, c4, c5, c6⟩ := ecCells HT2.out.x
          replace c6 := C6.out _ c6
          cases q2
          · go_wp2
            go_ret
            exact ⟨ret_bool E1.out.symm, HT2.out.b⟩
          · go_wp2
            go_loopw [3] (fun i wr => i = .int .i64 0 ∧ wr = w2) (fun i _ => 0)
            case atStart => exact ⟨rfl, rfl⟩
            case round =>
              obtain ⟨rfl, rfl⟩ := hrel
              go_wp2
              go_ret
              exact ⟨ret_bool E1.out.symm, HT2.out.b⟩
      · have dl : decide ((0 : Int) < (c.n : Int)) = true := decide_eq_true (by omega)
        have E : Hid (R = false) := hide (by rw [HC.out, decide_eq_false (by omega)]; rfl)
        clear HC RS RM
        go_enter Try.func31, Try.ntmps31
        go_wp2
        go_ret
        exact ⟨ret_bool E.out.symm, HT.out.b⟩
set_option maxHeartbeats 8000000 in
set_option maxRecDepth 100000 in
theorem refEach_none (n : Nat) (x : ExV) (c : EC) (w : World) (hx : ExAt (n + 1) w c.val x) (h1 : ¬ x.kind = 1) (hk : ¬ (x.kind = 2 ∨ x.kind = 3 ∨ x.kind = 4)) :
    Calls Try.prog 31 #[c.val] w fun r w' => r = .returned (.bool (eachX (n + 1) x)) ∧ Below w.heap.size w w' := by
  obtain ⟨c', hv, hc, _⟩ := id hx
  obtain rfl := ec_inj hv
  have e1 : (c.k == 1) = false := by rw [hc.k]; simpa using h1
  have e2 : (c.k == 2) = false := by rw [hc.k]; simp; omega
  have e3 : (c.k == 3) = false := by rw [hc.k]; simp; omega
  have e4 : (c.k == 4) = false := by rw [hc.k]; simp; omega
  have E : Hid (eachX (n + 1) x = false) := hide (by show (nodeX x && _) = false; rw [nodeX_3 h1 hk]; rfl)
  have HT := hide (XAt1.new w c)
  generalize eachX (n + 1) x = R at E ⊢
  clear hx hv hc h1 hk
  unfold EC.val
  go_enter Try.func31, Try.ntmps31
  go_wp2
  go_ret
  exact ⟨ret_bool E.out.symm, HT.out.b⟩
set_option maxHeartbeats 8000000 in
set_option maxRecDepth 100000 in
theorem refEach_many (n : Nat) (x : ExV) (c : EC) (w : World) (hx : ExAt (n + 1) w c.val x) (hk : x.kind = 2 ∨ x.kind = 3 ∨ x.kind = 4)
    (IH : ∀ (y : ExV) (d : EC) (W : World), ExAt n W d.val y → Calls Try.prog 31 #[d.val] W fun r W' => r = .returned (.bool (eachX n y)) ∧ Below W.heap.size W W') :
    Calls Try.prog 31 #[c.val] w fun r w' => r = .returned (.bool (eachX (n + 1) x)) ∧ Below w.heap.size w w' := by
  obtain ⟨c', hv, hc, _⟩ := id hx
  obtain rfl := ec_inj hv
  have HC : Hid (eachX (n + 1) x = (((decide (x.attr = 0) && sameB x.set noSet) && decide (x.kind = 4 → x.sub.length = 1)) && x.sub.all (eachX n))) := hide (by rw [← nodeX_2 hk]; rfl)
  rw [← hc.t, ← hc.n, ← hc.k] at HC
  rw [← hc.k] at hk
  have HX := hide hx
  have HI := hide IH
  have HN := hide hc.n
  have HT := hide (XAt1.new w c)
  have RS := fun (W : World) (hb : Below w.heap.size w W) => hide (refSame_any _ _ _ _ W (hc.s.on hb) (noSet_at W))
  have big := hc.big
  have room := hc.room
  generalize eachX (n + 1) x = R at HC ⊢
  have e1 : (c.k == 1) = false := by simp; omega
  have hks : ((c.k == 2) = true ∧ (c.k == 4) = false) ∨ ((c.k == 2) = false ∧ (c.k == 3) = true ∧ (c.k == 4) = false) ∨ ((c.k == 2) = false ∧ (c.k == 3) = false ∧ (c.k == 4) = true) := by
    rcases hk with h | h | h
    · left; simp [h]
    · right; left; simp [h]
    · right; right; simp [h]
  clear hx hv hc IH
  unfold SC.val at RS
  unfold EC.val
  by_cases a0 : c.t = 0
  · have d0 : (c.t != 0) = false := by simp [a0]
    generalize sameB x.set noSet = q at RS HC
    cases q
    · have E : Hid (R = false) := hide (by rw [HC.out, Bool.and_false, Bool.false_and, Bool.false_and])
      clear HC a0 hk HX HI
      rcases hks with ⟨e2, e4⟩ | ⟨e2, e3, e4⟩ | ⟨e2, e3, e4⟩
      all_goals
        go_enter Try.func31, Try.ntmps31
        go_wp2_with fail
        refine (unhide (RS _ HT.out.b)).mono ?_
        rintro r w1 ⟨rfl, b1⟩
        have HT1 := hide (HT.out.on b1)
        clear RS b1 HT
        go_wp2
        go_ret
        exact ⟨ret_bool E.out.symm, HT1.out.b⟩
    · by_cases hq : c.k = 4 → c.n = 1
      · have E1 : Hid (R = x.sub.all (eachX n)) := hide (by rw [HC.out, decide_eq_true hq, decide_eq_true a0]; rfl)
        have dn : (c.k == 4) = true → ((c.n : Int) != 1) = false := fun h => by
          have := hq (by simpa using h)
          simp [this]
        have DN := hide dn
        clear HC a0 hk hq dn
        rcases hks with ⟨e2, e4⟩ | ⟨e2, e3, e4⟩ | ⟨e2, e3, e4⟩
        all_goals
          go_enter Try.func31, Try.ntmps31
          go_wp2_with fail
          refine (unhide (RS _ HT.out.b)).mono ?_
          rintro r w1 ⟨rfl, b1⟩
          have HT1 := hide (HT.out.on b1)
          obtain ⟨c0, c1, c2, c3, c4, c5, c6⟩ := ecCells HT1.out.x
          clear RS b1 HT
          first
            | (have dn := DN.out e4; clear DN)
            | clear DN
          go_wp2
          go_loopw [3] (fun i wr => ∃ k : Nat, i = .int .i64 k ∧ k ≤ c.n ∧ Hid ((x.sub.drop k).all (eachX n) = x.sub.all (eachX n)) ∧ Hid (XAt1 w wr c)) (fun i _ => c.n - (intOf i).toNat)
          case atStart => exact ⟨0, rfl, by omega, hide rfl, HT1⟩
          case round =>
            clear c0 c1 c2 c3 c4 c5 c6 HT1
            obtain ⟨k, rfl, hk, HF, HT⟩ := hrel
            obtain ⟨c0, c1, c2, c3, c4, c5, c6⟩ := ecCells HT.out.x
            by_cases hlt : k < c.n
            · have hk' : k < x.sub.length := by rw [← HN.out]; exact hlt
              obtain ⟨g, off, d, hp, hg, hd, hy⟩ := (ExAt.on HT.out.b _ HX.out).part k hk'
              have F1 := HF.out
              rw [eachL_step n _ _ hk'] at F1
              have HF1 := hide F1
              have X := hide (HI.out _ _ _ hy)
              generalize eachX n (x.sub.getD k noX) = q at *
              clear F1 HF hy HI HX
              obtain ⟨d0, d1, d2, d3, d4, d5, d6⟩ := hd
              unfold EC.val at X
              rw [hp] at c6
              clear hp
              go_wp2_with fail
              refine (unhide X).mono ?_
              rintro r w2 ⟨rfl, b2⟩
              have HT2 := hide (HT.out.on b2)
              clear X b2 HT c0 c1 c2 c3 c4 c5 c6 d0 d1 d2 d3 d4 d5 d6
              cases q
              · have E : Hid (R = false) := hide (by rw [E1.out, ← HF1.out, Bool.false_and])
                go_wp2
                go_ret
                exact ⟨ret_bool E.out.symm, HT2.out.b⟩
              · have HF2 := hide ((Bool.true_and _).symm.trans HF1.out)
                go_wp2
                exact ⟨⟨k + 1, by go_num, by omega, HF2, HT2⟩, by simp [intOf]; omega⟩
            · have E : Hid (R = true) := hide (by
                rw [E1.out, ← HF.out, List.drop_eq_nil_of_le (by have := HN.out; omega)]; rfl)
              have hge : decide ((k : Int) < (c.n : Int)) = false := by simp; omega
              clear HX HI
              go_wp2
              go_ret
              exact ⟨ret_bool E.out.symm, HT.out.b⟩
      · have hq' : c.k = 4 ∧ ¬ c.n = 1 := by
          rcases Decidable.em (c.k = 4) with h | h
          · exact ⟨h, fun h1 => hq fun _ => h1⟩
          · exact absurd (fun h1 => absurd h1 h) hq
        have E : Hid (R = false) := hide (by rw [HC.out, decide_eq_false hq, Bool.and_false, Bool.false_and])
        have dn : ((c.n : Int) != 1) = true := by simp; omega
        have e2 : (c.k == 2) = false := by simp; omega
        have e3 : (c.k == 3) = false := by simp; omega
        have e4 : (c.k == 4) = true := by simp; omega
        clear HC a0 hk hq hq' hks HX HI
        go_enter Try.func31, Try.ntmps31
        go_wp2_with fail
        refine (unhide (RS _ HT.out.b)).mono ?_
        rintro r w1 ⟨rfl, b1⟩
        have HT1 := hide (HT.out.on b1)
        obtain ⟨c0, c1, c2, c3, c4, c5, c6⟩ := ecCells HT1.out.x
        clear RS b1 HT
        go_wp2
        go_ret
        exact ⟨ret_bool E.out.symm, HT1.out.b⟩
  · have d0 : (c.t != 0) = true := by simp [a0]
    have E : Hid (R = false) := hide (by rw [HC.out, decide_eq_false a0, Bool.false_and, Bool.false_and, Bool.false_and])
    clear HC a0 hk HX HI RS
    rcases hks with ⟨e2, e4⟩ | ⟨e2, e3, e4⟩ | ⟨e2, e3, e4⟩
    all_goals
      go_enter Try.func31, Try.ntmps31
      go_wp2
      go_ret
      exact ⟨ret_bool E.out.symm, HT.out.b⟩
theorem refEach_any : ∀ (n : Nat) (x : ExV) (c : EC) (w : World), ExAt n w c.val x →
    Calls Try.prog 31 #[c.val] w fun r w' => r = .returned (.bool (eachX n x)) ∧ Below w.heap.size w w' := by
  intro n
  induction n with
  | zero => intro x c w h; cases h
  | succ n ih =>
    intro x c w hx
    by_cases k1 : x.kind = 1
    · exact refEach_atom n x c w hx k1
    · by_cases k2 : x.kind = 2 ∨ x.kind = 3 ∨ x.kind = 4
      · exact refEach_many n x c w hx k2 ih
      · exact refEach_none n x c w hx k1 k2

set_option maxHeartbeats 8000000 in
set_option maxRecDepth 100000 in
theorem refRightX_any (n : Nat) (x : ExV) (c : EC) (w : World) (hx : ExAt n w c.val x) :
    Calls Try.prog 16 #[c.val] w fun r w' => r = .returned (.bool (rightX x)) ∧ Below w.heap.size w w' := by
  have HT := hide (XAt1.new w c)
  have X := hide (refFits_any n x c.val _ (ExAt.on HT.out.b _ hx))
  have Y := fun (W : World) (hb : Below w.heap.size w W) => hide (refEach_any n x c W (ExAt.on hb _ hx))
  have EQ : Hid (rightX x = (fitsX x && eachX n x)) := hide (by
    unfold rightX
    cases hf : fitsX x
    · rfl
    · rw [eachX_any (ExAt.low n hx) (fits_low hf)])
  generalize rightX x = R at EQ ⊢
  generalize eachX n x = q at EQ Y
  generalize fitsX x = p at EQ X
  clear hx
  unfold EC.val at *
  cases p
  · have E : Hid (R = false) := hide EQ.out
    go_enter Try.func16, Try.ntmps16
    go_wp2_with fail
    refine (unhide X).mono ?_
    rintro r w1 ⟨rfl, b1⟩
    have HT1 := hide (HT.out.on b1)
    clear X Y b1 HT
    go_wp2
    go_ret
    exact ⟨ret_bool E.out.symm, HT1.out.b⟩
  · have E : Hid (R = q) := hide EQ.out
    go_enter Try.func16, Try.ntmps16
    go_wp2_with fail
    refine (unhide X).mono ?_
    rintro r w1 ⟨rfl, b1⟩
    have HT1 := hide (HT.out.on b1)
    obtain ⟨c0, c1, c2, c3, c4, c5, c6⟩ := ecCells HT1.out.x
    clear X b1 HT
    go_wp2_with fail
    refine (unhide (Y _ HT1.out.b)).mono ?_
    rintro r w2 ⟨rfl, b2⟩
    have HT2 := hide (HT1.out.on b2)
    clear Y b2 HT1 c0 c1 c2 c3 c4 c5 c6
    go_wp2
    go_ret
    exact ⟨ret_bool E.out.symm, HT2.out.b⟩
end Go.Proofs.Ytoplmioejebnnaa
