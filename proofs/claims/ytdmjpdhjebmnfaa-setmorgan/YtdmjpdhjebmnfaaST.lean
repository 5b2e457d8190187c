/-
  What each call of the program's set is to answer, as the laws of the third layer want it; 'awake' out of that.
-/
import Derived.Test.YtdmjpdhjebmnfaaSQ
import Derived.Test.YtdmjpdhjebmnfaaSM
set_option linter.unusedSimpArgs false
set_option linter.unusedVariables false
namespace Go.Proofs.Ytdmjpdhjebmnfaa
open Go.RowKit

def emptyB (S : SetV) : Bool := ((!S.absent && S.ints.isEmpty) && !S.co) && S.strs.isEmpty
def inB (A B : SetV) : Bool := sameB (andV A B) A
/-- Not more than the laws ask. -/
structure Fit (S : SetV) : Prop where
  good : Good S
  ni : S.ints.length ≤ 1000
  ns : S.strs.length ≤ 1000
/-- The program's set keeps its promises. -/
structure SetProg : Prop where
  all : ∀ w : World, Calls Try.prog 19 #[] w fun r w' => (∃ u, r = .returned u ∧ SetAt w' u allV) ∧ Below w.heap.size w w'
  not : ∀ (v : Value) (S : SetV) (w : World), SetAt w v S → Fit S → Calls Try.prog 11 #[v] w fun r w' => (∃ u, r = .returned u ∧ SetAt w' u (notV S)) ∧ Below w.heap.size w w'
  or : ∀ (v u : Value) (A B : SetV) (w : World), SetAt w v A → SetAt w u B → Fit A → Fit B → Calls Try.prog 12 #[v, u] w fun r w' => (∃ x, r = .returned x ∧ SetAt w' x (orV A B)) ∧ Below w.heap.size w w'
  and : ∀ (v u : Value) (A B : SetV) (w : World), SetAt w v A → SetAt w u B → Fit A → Fit B → Calls Try.prog 13 #[v, u] w fun r w' => (∃ x, r = .returned x ∧ SetAt w' x (andV A B)) ∧ Below w.heap.size w w'
  in_ : ∀ (v u : Value) (A B : SetV) (w : World), SetAt w v A → SetAt w u B → Fit A → Fit B → Calls Try.prog 17 #[v, u] w fun r w' => r = .returned (.bool (inB A B)) ∧ Below w.heap.size w w'
  empty : ∀ (v : Value) (S : SetV) (w : World), SetAt w v S → Fit S → Calls Try.prog 20 #[v] w fun r w' => r = .returned (.bool (emptyB S)) ∧ Below w.heap.size w w'
  same : ∀ (v u : Value) (A B : SetV) (w : World), SetAt w v A → SetAt w u B → Fit A → Fit B → Calls Try.prog 14 #[v, u] w fun r w' => r = .returned (.bool (sameB A B)) ∧ Below w.heap.size w w'
  has : ∀ (v : Value) (S : SetV) (k n : Int) (s : ByteArray) (w : World), SetAt w v S → Fit S → -9223372036854775808 ≤ n → n ≤ 9223372036854775807 → s.size ≤ maxLen → Calls Try.prog 24 #[v, .agg #[.int .i64 k, .int .i64 n, .string s]] w fun r w' => r = .returned (.bool (hasB S k n s)) ∧ Below w.heap.size w w'
  ranges : ∀ (v : Value) (l : List Rg) (w : World), RngsAt w v l → l.length ≤ 1000 → Calls Try.prog 21 #[v] w fun r w' => (∃ u o, r = .returned u ∧ RangesOut l o ∧ RngsAt w' u o) ∧ Below w.heap.size w w'

theorem rngs_none (w : World) : RngsAt w (.slice none 0 0) [] := ⟨fun _ h => by simp at h, by simp, none, 0, rfl, fun i hi => by simp at hi⟩
theorem strs_none (w : World) : StrsAt w (.slice none 0 0) [] := ⟨fun _ h => by simp at h, by simp, none, 0, rfl, fun i hi => by simp at hi⟩
/-- A new row of ranges. -/
theorem rngs_new (w : World) (cs : Array Value) (l : List Rg) (h : cs.toList = rgCells l) (hi : inI64 l) (hl : l.length ≤ 1000) (n : Nat) (hn : n = w.heap.size) (k c : Nat) (hk : k = l.length) (hkc : k ≤ c := by omega) : RngsAt (w.alloc (.cells cs 45)) (.slice (some ⟨n, 0, none⟩) k c) l := by
  subst hn hk
  obtain ⟨sp, rfl⟩ := capOf_of (a := some ⟨w.heap.size, 0, none⟩) hkc (fun e => by cases e)
  refine ⟨hi, by omega, _, sp, rfl, fun i hi' => ⟨_, 0, rfl, by show _ < (w.heap.push _).size; simp, ?_, ?_⟩⟩
  · rw [cell_heap (heap_new w _), ← (rgCells_at l i hi').1, ← h]; simp
  · rw [cell_heap (heap_new w _), ← (rgCells_at l i hi').2, ← h]; simp
theorem OwnR.rngs {w : World} {B : Nat} {v : Value} {l : List Rg} (h : OwnR w B v l) (hi : inI64 l) (hl : l.length ≤ 9223372036854775807) : RngsAt w v l := by
  refine ⟨hi, hl, ?_⟩
  rcases h.2 with ⟨e, h0⟩ | ⟨g, cap, cur, e, _, hg, hc, _⟩
  · exact ⟨none, 0, by rw [e, h0]; rfl, fun i hi' => by omega⟩
  · obtain ⟨sp, hsp⟩ := capOf_of (a := some ⟨g, 0, none⟩) hc (fun e => by cases e)
    subst e
    refine ⟨_, sp, by rw [← hsp], fun i hi' => ⟨g, 0, rfl, lt_heap hg, ?_, ?_⟩⟩
    · rw [Nat.zero_add]; exact (h.at i hi').1
    · rw [Nat.zero_add]; exact (h.at i hi').2
theorem noSet_at (w : World) : SetAt w (.agg #[.bool false, .slice none 0 0, .bool false, .slice none 0 0]) noSet := ⟨_, _, rfl, rngs_none w, strs_none w⟩
theorem has_x : hasB ⟨true, [(-9223372036854775808, 6), (8, 9223372036854775807)], true, []⟩ 2 0 ⟨#[120]⟩ = true := by
  have := has_str ⟨true, [(-9223372036854775808, 6), (8, 9223372036854775807)], true, []⟩ (s := ⟨#[120]⟩) (by decide)
  unfold hasP at this
  rw [this]; rfl
theorem has_7 : hasB ⟨true, [(-9223372036854775808, 6), (8, 9223372036854775807)], true, []⟩ 1 7 ⟨#[]⟩ = false := by
  have := has_num ⟨true, [(-9223372036854775808, 6), (8, 9223372036854775807)], true, []⟩ 7
  unfold hasP at this
  exact this.trans rfl
theorem noSet_good : Good noSet := ⟨rfl, fun _ h => by simp [noSet] at h⟩
theorem seven_good : Good ⟨false, [(7, 7)], false, []⟩ := ⟨by rfl, fun r hr => by simp at hr; rw [hr]; dsimp only; omega⟩
theorem seven_not : notV ⟨false, [(7, 7)], false, []⟩ = ⟨true, [(-9223372036854775808, 6), (8, 9223372036854775807)], true, []⟩ := by rfl
theorem not_none : notV noSet = allV := by rfl
theorem good_not7 : Good ⟨true, [(-9223372036854775808, 6), (8, 9223372036854775807)], true, []⟩ := seven_not ▸ notV_good seven_good
theorem awake_ranges (o : List Rg) (h : RangesOut [(1, 3), (4, 5), (9, 8)] o) : o = [(1, 5)] := by
  refine rightR_ext o [(1, 5)] h.1 ⟨by dsimp only; omega, trivial⟩ fun n => ?_
  rw [h.2.2.2 n]
  simp only [memR_cons, memR_nil, or_false]
  omega

set_option maxHeartbeats 4000000 in
set_option maxRecDepth 100000 in
theorem awake3_any (P : SetProg) (w : World) :
    Calls Try.prog 8 #[] w fun r w' => r = .returned (.bool true) ∧ Below w.heap.size w w' := by
  have H1 := hide (P.ranges _ [(1, 3), (4, 5), (9, 8)] _ (rngs_new w #[.int .i64 1, .int .i64 3, .int .i64 4, .int .i64 5, .int .i64 9, .int .i64 8] [(1, 3), (4, 5), (9, 8)] rfl (fun r hr => by simp at hr; rcases hr with rfl | rfl | rfl <;> (dsimp only; omega)) (by simp) _ rfl 3 3 rfl) (by simp))
  go_enter Try.func8, Try.ntmps8
  go_wp2_with fail
  refine (unhide H1).mono ?_
  rintro r w1 ⟨⟨u, o, rfl, ho, hr⟩, b1⟩
  rw [awake_ranges o ho] at hr
  have R1 := hide hr
  have B1 := hide (below_alloc b1)
  have sz1 := B1.out.size
  clear hr b1 ho H1
  have H2 := hide (P.not _ ⟨false, [(7, 7)], false, []⟩ _ ⟨_, _, rfl, rngs_new w1 #[.int .i64 7, .int .i64 7] [(7, 7)] rfl (fun r hr => by simp at hr; rw [hr]; dsimp only; omega) (by simp) _ rfl 1 1 rfl, strs_none _⟩ ⟨seven_good, by simp, by simp⟩)
  rw [seven_not] at H2
  go_wp2_with fail
  refine (unhide H2).mono ?_
  rintro r w2 ⟨⟨u2, rfl, hs⟩, b2⟩
  obtain ⟨vi, vs, rfl, hI, hS⟩ := hs
  dsimp only at hI hS
  have b2' := below_alloc b2
  have B2 := hide (B1.out.trans (b2'.mono sz1))
  have R2 := R1.out.on b2'
  obtain ⟨a1, cap1, rfl⟩ := R2.form
  obtain ⟨a2, cap2, rfl⟩ := hI.form
  obtain ⟨a3, cap3, rfl⟩ := hS.form
  obtain ⟨g1, o1, rfl, hg1, e0, e1⟩ := R2.at.2 0 (by simp)
  obtain ⟨g2, o2, rfl, hg2, f0, f1⟩ := hI.at.2 0 (by simp)
  obtain ⟨g2', o2', hx, hg2', f2, f3⟩ := hI.at.2 1 (by simp)
  simp at hx
  obtain ⟨rfl, rfl⟩ := hx
  simp only [List.getD_cons_zero, List.getD_cons_succ, Nat.zero_mul, Nat.one_mul, Nat.add_zero] at e0 e1 f0 f1 f2 f3
  have hN : SetAt w2 _ ⟨true, [(-9223372036854775808, 6), (8, 9223372036854775807)], true, []⟩ := ⟨_, _, rfl, hI, hS⟩
  have bo := fun (o : Obj) => (Below.refl _ w2).alloc (Nat.le_refl _) o
  have NN := fun (o : Obj) => hide (hN.on (bo o))
  have B3 := fun (o : Obj) => hide (B2.out.alloc B2.out.size o)
  have E0 := fun (o : Obj) => ((bo o).cell (p := ⟨g1, _, none⟩) hg1).trans e0
  have E1 := fun (o : Obj) => ((bo o).cell (p := ⟨g1, _, none⟩) hg1).trans e1
  have F1 := fun (o : Obj) => ((bo o).cell (p := ⟨g2, _, none⟩) hg2).trans f1
  have F2 := fun (o : Obj) => ((bo o).cell (p := ⟨g2, _, none⟩) hg2).trans f2
  clear hN hI hS R2 b2 b2' e0 e1 f0 f1 f2 f3 bo R1 H2
  simp only [List.length_cons, List.length_nil, Nat.zero_add, Nat.reduceAdd]
  have N3 := NN (Obj.cells #[Value.bool true, Value.slice (some { block := g2, off := o2 }) 2 cap2, Value.bool true, Value.slice a3 0 cap3] 25)
  have B3' := B3 (Obj.cells #[Value.bool true, Value.slice (some { block := g2, off := o2 }) 2 cap2, Value.bool true, Value.slice a3 0 cap3] 25)
  have H3 := heap_new w2 (Obj.cells #[Value.bool true, Value.slice (some { block := g2, off := o2 }) 2 cap2, Value.bool true, Value.slice a3 0 cap3] 25)
  go_wp2_with fail
  clear E0 E1 F1 F2 NN B3
  generalize w2.alloc (Obj.cells #[Value.bool true, Value.slice (some { block := g2, off := o2 }) 2 cap2, Value.bool true, Value.slice a3 0 cap3] 25) = w3 at *
  have fit7 : Fit ⟨true, [(-9223372036854775808, 6), (8, 9223372036854775807)], true, []⟩ := ⟨good_not7, by simp, by simp⟩
  have fit0 : Fit noSet := ⟨noSet_good, by simp [noSet], by simp [noSet]⟩
  have fitA : Fit allV := ⟨allV_good, by simp [allV], by simp [allV]⟩
  refine (P.has _ _ 2 0 _ _ N3.out fit7 (by omega) (by omega) (by decide)).mono ?_
  rintro r w4 ⟨rfl, b4⟩
  rw [has_x]
  have H4 := (b4.block _ (lt_heap H3)).trans H3
  have N4 := hide (N3.out.on b4)
  have B4 := hide (B3'.out.trans (b4.mono B3'.out.size))
  have c0 := cell_heap H4 0
  have c1 := cell_heap H4 1
  have c2 := cell_heap H4 2
  have c3 := cell_heap H4 3
  simp only [List.getElem?_toArray, List.getElem?_cons_zero, List.getElem?_cons_succ] at c0 c1 c2 c3
  have HF7 := hide fit7
  have HF0 := hide fit0
  have HFA := hide fitA
  clear N3 B3' H3 b4 H4 fit7 fit0 fitA
  go_wp2_with fail
  refine (P.has _ _ 1 7 _ _ N4.out HF7.out (by omega) (by omega) (by decide)).mono ?_
  rintro r w5 ⟨rfl, b5⟩
  rw [has_7]
  have B5 := hide (B4.out.trans (b5.mono B4.out.size))
  clear N4 B4 b5 c0 c1 c2 c3
  go_wp2_with fail
  refine (P.empty _ noSet _ (noSet_at _) HF0.out).mono ?_
  rintro r w6 ⟨rfl, b6⟩
  rw [show emptyB noSet = true from rfl]
  have B6 := hide (B5.out.trans (b6.mono B5.out.size))
  clear B5 b6
  go_wp2_with fail
  refine (P.all _).mono ?_
  rintro r w7 ⟨⟨u7, rfl, s7⟩, b7⟩
  have S7 := hide s7
  have B7 := hide (B6.out.trans (b7.mono B6.out.size))
  clear B6 b7 s7
  go_wp2_with fail
  refine (P.not _ noSet _ (noSet_at _) HF0.out).mono ?_
  rintro r w8 ⟨⟨u8, rfl, s8⟩, b8⟩
  rw [not_none] at s8
  have X := hide (P.same _ _ _ _ _ (S7.out.on b8) s8 HFA.out HFA.out)
  have B8 := hide (B7.out.trans (b8.mono B7.out.size))
  clear B7 b8 s8 S7
  go_wp2_with fail
  refine (unhide X).mono ?_
  rintro r w9 ⟨rfl, b9⟩
  rw [(sameB_iff allV allV).2 rfl]
  have B9 := hide (B8.out.trans (b9.mono B8.out.size))
  clear B8 b9 X
  go_wp2
  go_ret
  exact ⟨rfl, B9.out⟩
end Go.Proofs.Ytdmjpdhjebmnfaa
