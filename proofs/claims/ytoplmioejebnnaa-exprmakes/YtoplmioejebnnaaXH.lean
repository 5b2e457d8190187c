/-
  The program's isSo, with the library's IndexFunc and ContainsFunc over the parts of an expression.
-/
import Derived.Test.YtoplmioejebnnaaXG
import Derived.Test.YtoplmioejebnnaaXF
import Derived.Test.YtoplmioejebnnaaTK1
set_option linter.unusedSimpArgs false
set_option linter.unusedVariables false
namespace Go.Proofs.Ytoplmioejebnnaa
open Go.RowKit

/-- What a function value of one captured variable answers of each part. -/
def PartFn (fid : Nat) (cap : Value) (n : Nat) (x : ExV) (p : Nat → Bool) (w : World) : Prop :=
  ∀ i, i < x.sub.length → ∀ (d : EC) (W : World), Below w.heap.size w W → ExAt n W d.val (x.sub.getD i noX) → Calls Try.prog fid #[d.val, cap] W fun r W' => r = .returned (.bool (p i)) ∧ Below W.heap.size W W'

set_option maxHeartbeats 4000000 in
set_option maxRecDepth 100000 in
theorem indexFunc1_any (cap : Value) (n : Nat) (c : EC) (x : ExV) (p : Nat → Bool) (w : World) (hx : ExAt (n + 1) w c.val x) (H : PartFn 54 cap n x p w) :
    Calls Try.prog 69 #[.slice c.p c.n c.c, .func (.func 54) #[] #[cap]] w fun r w' => (∃ z : Int, r = .returned (.int .i64 z) ∧ decide (0 ≤ z) = (List.range x.sub.length).any p ∧ z < 9223372036854775807) ∧ Below w.heap.size w w' := by
  obtain ⟨c', hv, hc, _⟩ := id hx
  obtain rfl := ec_inj hv
  have HX := hide hx
  have HH := hide H
  have HN := hide hc.n
  have big := hc.big
  have room := hc.room
  clear hx hv hc H
  go_enter Try.func69, Try.ntmps69
  go_wp2
  go_loopw [8] (fun i wr => ∃ k : Nat, i = .int .i64 k ∧ k ≤ c.n ∧ Hid (∀ j, j < k → p j = false) ∧ Hid (Below w.heap.size w wr)) (fun i _ => c.n - (intOf i).toNat)
  case atStart => exact ⟨0, rfl, by omega, hide (fun j h => by omega), hide (Below.refl _ _)⟩
  case round =>
    obtain ⟨k, rfl, hk, HF, HB⟩ := hrel
    by_cases hlt : k < c.n
    · have hk' : k < x.sub.length := by rw [← HN.out]; exact hlt
      obtain ⟨g, off, d, hp, hg, hd, hy⟩ := (ExAt.on HB.out _ HX.out).part k hk'
      have X := hide (HH.out k hk' d wr HB.out hy)
      obtain ⟨d0, d1, d2, d3, d4, d5, d6⟩ := hd
      clear hy HX HH
      unfold EC.val at X
      rw [hp]
      cases hq : p k
      · rw [hq] at X
        have HF2 : Hid (∀ j, j < k + 1 → p j = false) := hide (fun j hj => by
          rcases Nat.lt_succ_iff_lt_or_eq.1 hj with h | rfl
          · exact HF.out j h
          · exact hq)
        go_wp2_with fail
        refine (unhide X).mono ?_
        rintro r w2 ⟨rfl, b2⟩
        have HB2 := hide (HB.out.trans (b2.mono HB.out.size))
        clear X b2 HB d0 d1 d2 d3 d4 d5 d6 HF hq
        go_wp2
        exact ⟨⟨k + 1, by go_num, by omega, HF2, HB2⟩, by simp [intOf]; omega⟩
      · rw [hq] at X
        have E : Hid ((List.range x.sub.length).any p = true) := hide (List.any_eq_true.2 ⟨k, List.mem_range.2 hk', hq⟩)
        go_wp2_with fail
        refine (unhide X).mono ?_
        rintro r w2 ⟨rfl, b2⟩
        have HB2 := hide (HB.out.trans (b2.mono HB.out.size))
        clear X b2 HB d0 d1 d2 d3 d4 d5 d6 HF hq
        go_wp2
        go_ret
        exact ⟨⟨k, rfl, by rw [E.out]; simp, by omega⟩, HB2.out⟩
    · have hge : decide ((k : Int) < (c.n : Int)) = false := by simp; omega
      have E : Hid ((List.range x.sub.length).any p = false) := hide (List.any_eq_false.2 fun j hj => by
        have := List.mem_range.1 hj
        have h2 := HN.out
        rw [HF.out j (by omega)]
        simp)
      go_wp2
      go_ret
      exact ⟨⟨-1, rfl, by rw [E.out]; simp, by omega⟩, HB.out⟩
set_option maxHeartbeats 4000000 in
set_option maxRecDepth 100000 in
theorem containsFunc1_any (cap : Value) (n : Nat) (c : EC) (x : ExV) (p : Nat → Bool) (w : World) (hx : ExAt (n + 1) w c.val x) (H : PartFn 54 cap n x p w) :
    Calls Try.prog 53 #[.slice c.p c.n c.c, .func (.func 54) #[] #[cap]] w fun r w' => r = .returned (.bool ((List.range x.sub.length).any p)) ∧ Below w.heap.size w w' := by
  have X := hide (indexFunc1_any cap n c x p w hx H)
  generalize (List.range x.sub.length).any p = q at X ⊢
  clear hx H
  go_enter Try.func53, Try.ntmps53
  go_wp2_with fail
  refine (unhide X).mono ?_
  rintro r w2 ⟨⟨z, rfl, hz, _⟩, b2⟩
  have B2 := hide b2
  have HZ := hide hz
  clear X b2 hz
  go_wp2
  go_ret
  exact ⟨ret_bool (by have := HZ.out; simpa using this), B2.out⟩
set_option maxHeartbeats 4000000 in
set_option maxRecDepth 100000 in
theorem indexFunc2_any (cap : Value) (n : Nat) (c : EC) (x : ExV) (p : Nat → Bool) (w : World) (hx : ExAt (n + 1) w c.val x) (H : PartFn 55 cap n x p w) :
    Calls Try.prog 69 #[.slice c.p c.n c.c, .func (.func 55) #[] #[cap]] w fun r w' => (∃ z : Int, r = .returned (.int .i64 z) ∧ decide (0 ≤ z) = (List.range x.sub.length).any p ∧ z < 9223372036854775807) ∧ Below w.heap.size w w' := by
  obtain ⟨c', hv, hc, _⟩ := id hx
  obtain rfl := ec_inj hv
  have HX := hide hx
  have HH := hide H
  have HN := hide hc.n
  have big := hc.big
  have room := hc.room
  clear hx hv hc H
  go_enter Try.func69, Try.ntmps69
  go_wp2
  go_loopw [8] (fun i wr => ∃ k : Nat, i = .int .i64 k ∧ k ≤ c.n ∧ Hid (∀ j, j < k → p j = false) ∧ Hid (Below w.heap.size w wr)) (fun i _ => c.n - (intOf i).toNat)
  case atStart => exact ⟨0, rfl, by omega, hide (fun j h => by omega), hide (Below.refl _ _)⟩
  case round =>
    obtain ⟨k, rfl, hk, HF, HB⟩ := hrel
    by_cases hlt : k < c.n
    · have hk' : k < x.sub.length := by rw [← HN.out]; exact hlt
      obtain ⟨g, off, d, hp, hg, hd, hy⟩ := (ExAt.on HB.out _ HX.out).part k hk'
      have X := hide (HH.out k hk' d wr HB.out hy)
      obtain ⟨d0, d1, d2, d3, d4, d5, d6⟩ := hd
      clear hy HX HH
      unfold EC.val at X
      rw [hp]
      cases hq : p k
      · rw [hq] at X
        have HF2 : Hid (∀ j, j < k + 1 → p j = false) := hide (fun j hj => by
          rcases Nat.lt_succ_iff_lt_or_eq.1 hj with h | rfl
          · exact HF.out j h
          · exact hq)
        go_wp2_with fail
        refine (unhide X).mono ?_
        rintro r w2 ⟨rfl, b2⟩
        have HB2 := hide (HB.out.trans (b2.mono HB.out.size))
        clear X b2 HB d0 d1 d2 d3 d4 d5 d6 HF hq
        go_wp2
        exact ⟨⟨k + 1, by go_num, by omega, HF2, HB2⟩, by simp [intOf]; omega⟩
      · rw [hq] at X
        have E : Hid ((List.range x.sub.length).any p = true) := hide (List.any_eq_true.2 ⟨k, List.mem_range.2 hk', hq⟩)
        go_wp2_with fail
        refine (unhide X).mono ?_
        rintro r w2 ⟨rfl, b2⟩
        have HB2 := hide (HB.out.trans (b2.mono HB.out.size))
        clear X b2 HB d0 d1 d2 d3 d4 d5 d6 HF hq
        go_wp2
        go_ret
        exact ⟨⟨k, rfl, by rw [E.out]; simp, by omega⟩, HB2.out⟩
    · have hge : decide ((k : Int) < (c.n : Int)) = false := by simp; omega
      have E : Hid ((List.range x.sub.length).any p = false) := hide (List.any_eq_false.2 fun j hj => by
        have := List.mem_range.1 hj
        have h2 := HN.out
        rw [HF.out j (by omega)]
        simp)
      go_wp2
      go_ret
      exact ⟨⟨-1, rfl, by rw [E.out]; simp, by omega⟩, HB.out⟩
set_option maxHeartbeats 4000000 in
set_option maxRecDepth 100000 in
theorem containsFunc2_any (cap : Value) (n : Nat) (c : EC) (x : ExV) (p : Nat → Bool) (w : World) (hx : ExAt (n + 1) w c.val x) (H : PartFn 55 cap n x p w) :
    Calls Try.prog 53 #[.slice c.p c.n c.c, .func (.func 55) #[] #[cap]] w fun r w' => r = .returned (.bool ((List.range x.sub.length).any p)) ∧ Below w.heap.size w w' := by
  have X := hide (indexFunc2_any cap n c x p w hx H)
  generalize (List.range x.sub.length).any p = q at X ⊢
  clear hx H
  go_enter Try.func53, Try.ntmps53
  go_wp2_with fail
  refine (unhide X).mono ?_
  rintro r w2 ⟨⟨z, rfl, hz, _⟩, b2⟩
  have B2 := hide b2
  have HZ := hide hz
  clear X b2 hz
  go_wp2
  go_ret
  exact ⟨ret_bool (by have := HZ.out; simpa using this), B2.out⟩
theorem range_any (f : ExV → Bool) (l : List ExV) : (List.range l.length).any (fun i => f (l.getD i noX)) = l.any f := by
  rw [Bool.eq_iff_iff, List.any_eq_true, List.any_eq_true]
  constructor
  · rintro ⟨i, hi, h⟩
    exact ⟨_, getD_mem (List.mem_range.1 hi), h⟩
  · rintro ⟨y, hy, h⟩
    obtain ⟨i, hi, rfl⟩ := List.getElem_of_mem hy
    refine ⟨i, List.mem_range.2 hi, ?_⟩
    rwa [List.getD_eq_getElem?_getD, List.getElem?_eq_getElem hi, Option.getD_some]
theorem setAt_i64 {w : World} {v : Value} {s : SetV} (h : SetAt w v s) : inI64 s.ints := by
  obtain ⟨vi, vs, rfl, hI, _⟩ := h
  intro r hr
  obtain ⟨i, hi, rfl⟩ := List.getElem_of_mem hr
  have := hI.bound i hi
  rwa [List.getD_eq_getElem?_getD, List.getElem?_eq_getElem hi, Option.getD_some] at this
theorem node_atom {w : World} {c : EC} {x : ExV} (h : nodeX x = true) (hk : x.kind = 1) (hc : EcFor w c x) : 0 ≤ x.attr ∧ x.attr ≤ 3 ∧ Fit x.set := by
  unfold nodeX at h
  rw [if_pos hk, Bool.and_eq_true, decide_eq_true_eq, Bool.and_eq_true] at h
  obtain ⟨⟨h0, h1, _⟩, h2, h3⟩ := h
  unfold smallB at h3
  rw [Bool.and_eq_true, decide_eq_true_eq, decide_eq_true_eq] at h3
  exact ⟨h0, h1, ⟨h2, setAt_i64 hc.s⟩, by omega, by omega⟩
theorem node_not {x : ExV} (h : nodeX x = true) (k1 : ¬ x.kind = 1) (k2 : ¬ x.kind = 2) (k3 : ¬ x.kind = 3) : x.sub.length = 1 := by
  unfold nodeX at h
  rw [if_neg k1] at h
  by_cases k4 : x.kind = 4
  · rw [if_pos (by omega), Bool.and_eq_true, decide_eq_true_eq] at h
    exact h.2 k4
  · rw [if_neg (by omega)] at h
    cases h
theorem evFit_get {e : EvV} (h : evFit e) (i : Nat) (hi : i < 4) : (e.get i).2.2.size ≤ maxLen := by
  match i, hi with
  | 0, _ => exact h.1
  | 1, _ => exact h.2.1
  | 2, _ => exact h.2.2.1
  | 3, _ => exact h.2.2.2

set_option maxHeartbeats 4000000 in
set_option maxRecDepth 100000 in
theorem isSo1_fn (e : EvV) (g n : Nat) (x : ExV) (w : World) (hE : EvIn w g e) (IH : ∀ y ∈ x.sub, ∀ (d : EC) (W : World), ExAt n W d.val y → Calls Try.prog 33 #[d.val, evVal e] W fun r W' => r = .returned (.bool (isX n y e)) ∧ Below W.heap.size W W') :
    PartFn 54 (.pointer (some ⟨g, 0, none⟩)) n x (fun i => !isX n (x.sub.getD i noX) e) w := by
  intro i hi d W hB hy
  dsimp only
  have hE1 := (hE.on hB)
  have b1 := (Below.refl _ W).alloc (Nat.le_refl _) (Obj.cells #[.int .i64 d.k, .int .i64 d.t, .bool d.s.a, .slice d.s.p d.s.n d.s.c, .bool d.s.d, .slice d.s.q d.s.m d.s.e, .slice d.p d.n d.c] 28)
  have X := hide (IH _ (getD_mem hi) d _ (ExAt.on b1 _ hy))
  obtain ⟨e0, e1, e2, e3, e4, e5, e6, e7, e8, e9, e10, e11⟩ := evCells (hE1.on b1)
  have B1 := hide b1
  generalize isX n (x.sub.getD i noX) e = q at X ⊢
  clear IH hy hE hE1 b1
  unfold EC.val evVal at *
  go_enter Try.func54, Try.ntmps54
  go_wp2_with fail
  refine (unhide X).mono ?_
  rintro r w2 ⟨rfl, b2⟩
  have B2 := hide (B1.out.trans (b2.mono B1.out.size))
  clear X b2 B1 e0 e1 e2 e3 e4 e5 e6 e7 e8 e9 e10 e11
  go_wp2
  go_ret
  exact ⟨rfl, B2.out⟩
set_option maxHeartbeats 4000000 in
set_option maxRecDepth 100000 in
theorem isSo2_fn (e : EvV) (g n : Nat) (x : ExV) (w : World) (hE : EvIn w g e) (IH : ∀ y ∈ x.sub, ∀ (d : EC) (W : World), ExAt n W d.val y → Calls Try.prog 33 #[d.val, evVal e] W fun r W' => r = .returned (.bool (isX n y e)) ∧ Below W.heap.size W W') :
    PartFn 55 (.pointer (some ⟨g, 0, none⟩)) n x (fun i => isX n (x.sub.getD i noX) e) w := by
  intro i hi d W hB hy
  dsimp only
  have hE1 := (hE.on hB)
  have b1 := (Below.refl _ W).alloc (Nat.le_refl _) (Obj.cells #[.int .i64 d.k, .int .i64 d.t, .bool d.s.a, .slice d.s.p d.s.n d.s.c, .bool d.s.d, .slice d.s.q d.s.m d.s.e, .slice d.p d.n d.c] 28)
  have X := hide (IH _ (getD_mem hi) d _ (ExAt.on b1 _ hy))
  obtain ⟨e0, e1, e2, e3, e4, e5, e6, e7, e8, e9, e10, e11⟩ := evCells (hE1.on b1)
  have B1 := hide b1
  generalize isX n (x.sub.getD i noX) e = q at X ⊢
  clear IH hy hE hE1 b1
  unfold EC.val evVal at *
  go_enter Try.func55, Try.ntmps55
  go_wp2_with fail
  refine (unhide X).mono ?_
  rintro r w2 ⟨rfl, b2⟩
  have B2 := hide (B1.out.trans (b2.mono B1.out.size))
  clear X b2 B1 e0 e1 e2 e3 e4 e5 e6 e7 e8 e9 e10 e11
  go_wp2
  go_ret
  exact ⟨rfl, B2.out⟩
theorem each_sub {n : Nat} {x : ExV} (h : eachX (n + 1) x = true) : nodeX x = true ∧ ∀ y ∈ x.sub, eachX n y = true := by
  unfold eachX at h
  rw [Bool.and_eq_true, List.all_eq_true] at h
  exact h
end Go.Proofs.Ytoplmioejebnnaa
