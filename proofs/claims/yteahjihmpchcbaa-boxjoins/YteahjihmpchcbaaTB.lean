/-
  The program's set: otherRanges.
-/
import Derived.Test.YteahjihmpchcbaaTA
set_option linter.unusedSimpArgs false
set_option linter.unusedVariables false
namespace Go.Proofs.Yteahjihmpchcbaa
open Go.RowKit

theorem notR_big (l : List Rg) (f : Int) (hf : 9223372036854775807 < f) (h : rightFrom (f - 1) l) (hi : inI64 l) : notR f l = [] := by
  cases l with
  | nil => unfold notR; rw [if_neg (by omega)]
  | cons r l => have := h.1; have := hi r (by simp); omega

/-- As 'wpList_appR', and blocks other than the row's own stay. -/
theorem wpList_appR2 {ops : Array Oper} {rest : List Oper} {o : Oper} {a : Act} {Q : Exit → Act → World → Prop} (w : World) (hgd : o.guard = none) (s x : Operand)
    (ho : o.op = .call { callee := .builtin .append, args := #[s, x], argTypes := #[22, 22] })
    (B : Nat) (v : Value) (l : List Rg) (hs : a.eval s = v) (hown : OwnR w B v l) (g m c : Nat) (cs : Array Value) (news : List Rg) (hm : news.length = m)
    (hx : a.eval x = .slice (some ⟨g, 0, none⟩) m c) (hb : w.heap[g]? = some (.cells cs 55 (0, 0))) (hcs : cs.toList = rgCells news) (hlen : l.length + m ≤ 1000000) (hB : B ≤ w.heap.size)
    (h : ∀ v' w', OwnR w' B v' (l ++ news) → Below B w w' → (∀ k ob, w.heap[k]? = some ob → (∀ j, v.ownBlock = some j → j ≠ k) → w'.heap[k]? = some ob) → wpList Try.prog ops Q rest (a.put o.dst v') w') : wpList Try.prog ops Q (o :: rest) a w := by
  obtain ⟨i0, hi, hz0, hz1, hz2⟩ := info_parts infoRg
  refine wpList_append_own w hgd s x 22 ho B 55 i0 _ 2 16 Try.underlying22 hi hz0 hz1 hz2 rfl (by decide) v l.length (rgCells l) hs hown ⟨g, 0, none⟩ m c (rgCells news) hx (by rw [rgCells_len, hm]) ?_ (rgCells_one _) (by unfold maxLen; omega) (by omega) hB ?_
  · rw [← hcs]; exact World.news_of_block hb
  · intro v' w' h1 h2 _
    refine h v' w' ?_ (OwnR.grownB hown hB h2) (fun k ob hk hne => (h2.block k (lt_heap hk) (fun e => hne k e.symm rfl)).trans hk)
    unfold OwnR
    rw [List.length_append, hm, rgCells_append]
    exact h1
theorem OwnR.lt {w : World} {B : Nat} {v : Value} {l : List Rg} (h : OwnR w B v l) : ∀ j, v.ownBlock = some j → j ≠ w.heap.size := fun j hj => Nat.ne_of_lt (World.ownsRow.lt h j hj).2

set_option maxHeartbeats 4000000 in
set_option maxRecDepth 100000 in
theorem otherRanges_any (v : Value) (l : List Rg) (w : World) (hv : RngsAt w v l) (hr : rightR l) (hn : l.length ≤ 10000) :
    Calls Try.prog 63 #[v] w fun r w' => (∃ u, r = .returned u ∧ OwnR w' w.heap.size u (notR (-9223372036854775808) l)) ∧ Below w.heap.size w w' := by
  have HV := hide hv
  have HI := hide hv.1
  obtain ⟨_, hlen, a, cap, rfl, hel⟩ := hv
  clear hel
  have HR0 := hide (rightR_low hr HI.out)
  clear hr
  obtain ⟨N, hN⟩ : ∃ N : Nat, N = l.length := ⟨_, rfl⟩
  rw [← hN] at hlen hn HV ⊢
  have HN := hide hN
  clear hN
  go_enter Try.func63, Try.ntmps63
  go_wp2
  go_loopw [3, 4, 9] (fun o f i wr => ∃ (k : Nat) (x : Int) (acc : List Rg), i = .int .i64 k ∧ f = .int .i64 x ∧ k ≤ N ∧ -9223372036854775808 ≤ x ∧ x ≤ 9223372036854775807 ∧ Hid (OwnR wr w.heap.size o acc) ∧ Hid (acc.length ≤ k) ∧ Hid (rightFrom (x - 1) (l.drop k)) ∧ Hid (acc ++ notR x (l.drop k) = notR (-9223372036854775808) l) ∧ Hid (Below w.heap.size w wr)) (fun _ _ i _ => N - (intOf i).toNat)
  case atStart => exact ⟨0, -9223372036854775808, [], rfl, rfl, by omega, by omega, by omega, hide (ownR_none _ _), hide (Nat.le_refl _), HR0, hide rfl, hide (Below.refl _ _)⟩
  case round =>
    obtain ⟨k, x, acc, rfl, rfl, hk, hx0, hx1, HO, HL, HR, HE, HB⟩ := hrel
    by_cases hlt : k < N
    · have hk' : k < l.length := by rw [← HN.out]; exact hlt
      have IW := HV.out.on HB.out
      obtain ⟨b, off, ha, hb, c0, c1⟩ := IW.at.2 k hk'
      subst ha
      obtain ⟨q0, q1, q2, q3⟩ := IW.bound k hk'
      have R0 := HR.out
      have E0 := HE.out
      rw [drop_getD l k (0, 0) hk'] at R0 E0
      have HI1 : Hid (inI64 (l.drop (k + 1))) := hide (fun y hy => HI.out y (List.mem_of_mem_drop hy))
      generalize l.getD k (0, 0) = q at *
      obtain ⟨r1, r2, r3⟩ := R0
      have HR1 : Hid (rightFrom (q.2 + 1 - 1) (l.drop (k + 1))) := hide (rightFrom_mono r3 (by omega))
      simp only [notR] at E0
      have E1 := hide E0
      clear r3 E0 HE HR IW
      have szB := HB.out.size
      have LE : Hid (acc.length + 1 ≤ 1000000) := hide (by have := HL.out; omega)
      obtain ⟨e1, e2, _⟩ := two_boxes wr (Obj.cells #[Value.int IntKind.i64 q.1, Value.int IntKind.i64 q.2] 55) (Obj.cells #[Value.int IntKind.i64 x, Value.int IntKind.i64 (q.1 - 1)] 55)
      have E1' := hide e1
      clear e1 e2
      have hw2 : q.2 ≠ 9223372036854775807 → IntKind.i64.wrap (q.2 + 1) = q.2 + 1 := fun h => by rw [IntKind.wrap_i64]; omega
      by_cases h1 : x < q.1
      · have d1 : decide (x < q.1) = true := decide_eq_true h1
        have E2 := E1.out
        rw [if_pos h1] at E2
        have hw1 : IntKind.i64.wrap (q.1 - 1) = q.1 - 1 := by rw [IntKind.wrap_i64]; omega
        have HE2 := hide E2
        clear E2 E1
        by_cases h2 : q.2 = 9223372036854775807
        · have d2 : (q.2 == 9223372036854775807) = true := beq_iff_eq.2 h2
          have HZ : Hid (notR (q.2 + 1) (l.drop (k + 1)) = []) := hide (notR_big _ _ (by omega) HR1.out HI1.out)
          clear h2 hw2
          go_wp2_with (at_builtin; refine wpList_appR2 _ rfl _ _ rfl w.heap.size _ _ rfl ((HO.out.alloc _).alloc _) _ 1 1 _ [(x, q.1 - 1)] rfl rfl (heap_at (by simp)) rfl LE.out (by simp; omega) ?_; intro v8 w8 hO8 hb8 hx8; have O8 := hide hO8; have B8 := hide (((HB.out.alloc szB _).alloc (by simp; omega) _).trans hb8); have f1 := cell_heap (hx8 _ _ E1'.out HO.out.lt) 1; simp only [List.getElem?_toArray, List.getElem?_cons_zero, List.getElem?_cons_succ] at f1; clear hO8 hb8 hx8)
          go_ret
          refine ⟨⟨_, rfl, ?_⟩, B8.out⟩
          have := O8.out
          rw [← HE2.out, HZ.out]; exact this
        · have d2 : (q.2 == 9223372036854775807) = false := beq_eq_false_iff_ne.2 h2
          have hw3 := hw2 h2
          clear hw2
          go_wp2_with (at_builtin; refine wpList_appR2 _ rfl _ _ rfl w.heap.size _ _ rfl ((HO.out.alloc _).alloc _) _ 1 1 _ [(x, q.1 - 1)] rfl rfl (heap_at (by simp)) rfl LE.out (by simp; omega) ?_; intro v8 w8 hO8 hb8 hx8; have O8 := hide hO8; have B8 := hide (((HB.out.alloc szB _).alloc (by simp; omega) _).trans hb8); have f1 := cell_heap (hx8 _ _ E1'.out HO.out.lt) 1; simp only [List.getElem?_toArray, List.getElem?_cons_zero, List.getElem?_cons_succ] at f1; clear hO8 hb8 hx8)
          refine ⟨⟨k + 1, q.2 + 1, acc ++ [(x, q.1 - 1)], by go_num, rfl, by omega, by omega, by omega, O8, hide (by have := HL.out; simp; omega), HR1, hide (by rw [← HE2.out, List.append_assoc]; rfl), B8⟩, by simp [intOf]; omega⟩
      · have d1 : decide (x < q.1) = false := decide_eq_false h1
        have E2 := E1.out
        rw [if_neg h1] at E2
        have HE2 := hide E2
        clear E2 E1 E1'
        by_cases h2 : q.2 = 9223372036854775807
        · have d2 : (q.2 == 9223372036854775807) = true := beq_iff_eq.2 h2
          have HZ : Hid (notR (q.2 + 1) (l.drop (k + 1)) = []) := hide (notR_big _ _ (by omega) HR1.out HI1.out)
          clear h2 hw2
          go_wp2
          go_ret
          refine ⟨⟨_, rfl, ?_⟩, HB.out.alloc szB _⟩
          rw [← HE2.out, HZ.out, List.append_nil]
          exact HO.out.alloc _
        · have d2 : (q.2 == 9223372036854775807) = false := beq_eq_false_iff_ne.2 h2
          have hw3 := hw2 h2
          clear hw2
          go_wp2
          refine ⟨⟨k + 1, q.2 + 1, acc, by go_num, rfl, by omega, by omega, by omega, hide (HO.out.alloc _), hide (by have := HL.out; omega), HR1, HE2, hide (HB.out.alloc szB _)⟩, by simp [intOf]; omega⟩
    · have hge : (N : Int) ≤ (k : Int) := by omega
      have E2 := HE.out
      rw [List.drop_eq_nil_of_le (by have := HN.out; omega)] at E2
      simp only [notR] at E2
      rw [if_pos hx1] at E2
      have HE2 := hide E2
      clear E2 HE
      have szB := HB.out.size
      have LE : Hid (acc.length + 1 ≤ 1000000) := hide (by have := HL.out; omega)
      go_wp2_with (at_builtin; refine wpList_appR _ rfl _ _ rfl w.heap.size _ _ rfl (HO.out.alloc _) _ 1 1 _ [(x, 9223372036854775807)] rfl rfl (heap_top _ _) rfl LE.out (by simp; omega) ?_; intro v8 w8 hO8 hb8; have O8 := hide hO8; have B8 := hide ((HB.out.alloc szB _).trans hb8); clear hO8 hb8)
      go_ret
      refine ⟨⟨_, rfl, ?_⟩, B8.out⟩
      have := O8.out
      rw [← HE2.out]; exact this
end Go.Proofs.Yteahjihmpchcbaa
