/-
  The program's set: either (slices.Concat, slices.Sort, slices.Compact of strings); orStrings.
-/
import Derived.Test.YteahjihmpchcbaaTH
import Derived.Test.YteahjihmpchcbaaShelf
import Derived.Sort.OwnSorted
import Derived.Lib.OwnBridge
set_option linter.unusedSimpArgs false
set_option linter.unusedVariables false
namespace Go.Proofs.Yteahjihmpchcbaa
open Go.RowKit

/-! ### Plain mathematics -/
theorem lt_less : ∀ a b : St, a < b ↔ Op.bytesLess a b = true
  | [], [] => by simp [Op.bytesLess]
  | [], _ :: _ => by simp [Op.bytesLess]
  | _ :: _, [] => by simp [Op.bytesLess]
  | x :: a, y :: b => by
    rw [List.cons_lt_cons_iff, lt_less a b]
    simp [Op.bytesLess]
theorem le_less {a b : St} (h : a ≤ b) : Op.bytesLess a b = true ∨ a = b := by
  rcases lessB_tri a b with h1 | h1 | h1
  · exact Or.inl h1
  · exact Or.inr h1
  · exact absurd ((lt_less b a).2 h1) (List.not_lt.2 h)
theorem risesS_concat : ∀ (l : List St) (x : St), risesS l → (∀ y ∈ l, Op.bytesLess y x = true) → risesS (l ++ [x])
  | [], x, _, _ => ⟨fun b h => by simp at h, trivial⟩
  | a :: l, x, ⟨h1, h2⟩, h => by
    refine ⟨fun b hb => ?_, risesS_concat l x h2 (fun y hy => h y (by simp [hy]))⟩
    rcases List.mem_append.1 hb with hb | hb
    · exact h1 b hb
    · simp at hb; rw [hb]; exact h a (by simp)
theorem compact_upto (d : Array St) (hs : ∀ i j, i < j → j < d.size → d[i]! ≤ d[j]!) : ∀ m, m ≤ d.size → risesS (Lib.compactUpTo d m) ∧ (∀ x, x ∈ Lib.compactUpTo d m ↔ ∃ j, j < m ∧ d[j]! = x) ∧ (Lib.compactUpTo d m).length ≤ m
  | 0, _ => by
    refine ⟨trivial, fun x => ?_, by simp [Lib.compactUpTo]⟩
    simp [Lib.compactUpTo]
  | m + 1, hm => by
    obtain ⟨h1, h2, h3⟩ := compact_upto d hs m (by omega)
    rw [Lib.compactUpTo_succ]
    cases hk : Lib.keeps d m
    · have hk' : ¬ (m = 0 ∨ d[m]! ≠ d[m - 1]!) := by
        unfold Lib.keeps at hk
        exact of_decide_eq_false hk
      have h0 : m ≠ 0 := fun e => hk' (Or.inl e)
      have he : d[m]! = d[m - 1]! := Classical.byContradiction fun e => hk' (Or.inr e)
      rw [if_neg (by simp), List.append_nil]
      refine ⟨h1, fun x => ?_, by omega⟩
      rw [h2 x]
      constructor
      · rintro ⟨j, hj, e⟩; exact ⟨j, by omega, e⟩
      · rintro ⟨j, hj, e⟩
        by_cases hjm : j = m
        · subst hjm; exact ⟨j - 1, by omega, by rw [← he]; exact e⟩
        · exact ⟨j, by omega, e⟩
    · have hk' : m = 0 ∨ d[m]! ≠ d[m - 1]! := by
        unfold Lib.keeps at hk
        exact of_decide_eq_true hk
      rw [if_pos rfl]
      refine ⟨risesS_concat _ _ h1 (fun y hy => ?_), fun x => ?_, by simp; omega⟩
      · obtain ⟨j, hj, rfl⟩ := (h2 y).1 hy
        have hne : d[m]! ≠ d[m - 1]! := by
          rcases hk' with e | e
          · omega
          · exact e
        have hA : Op.bytesLess d[m - 1]! d[m]! = true := by
          rcases le_less (hs (m - 1) m (by omega) (by omega)) with h | h
          · exact h
          · exact absurd h.symm hne
        by_cases hjm : j = m - 1
        · rw [hjm]; exact hA
        · rcases le_less (hs j (m - 1) (by omega) (by omega)) with h | h
          · exact lessB_trans _ _ _ h hA
          · rw [h]; exact hA
      · rw [List.mem_append, h2 x]
        constructor
        · rintro (⟨j, hj, e⟩ | h)
          · exact ⟨j, by omega, e⟩
          · simp at h; exact ⟨m, by omega, by simp [h]⟩
        · rintro ⟨j, hj, e⟩
          by_cases hjm : j = m
          · subst hjm; exact Or.inr (by simp [e])
          · exact Or.inl ⟨j, by omega, e⟩
/-- Sorted, and each once. -/
theorem compact_sorted (zs : List St) : risesS (Lib.compact (zs.mergeSort fun x y => decide (x ≤ y))) ∧ (∀ x, x ∈ Lib.compact (zs.mergeSort fun x y => decide (x ≤ y)) ↔ x ∈ zs) ∧ (Lib.compact (zs.mergeSort fun x y => decide (x ≤ y))).length ≤ zs.length := by
  have tr : ∀ a b c : St, decide (a ≤ b) = true → decide (b ≤ c) = true → decide (a ≤ c) = true := fun a b c h1 h2 => by
    simp only [decide_eq_true_eq] at *; exact List.le_trans h1 h2
  have to : ∀ a b : St, (decide (a ≤ b) || decide (b ≤ a)) = true := fun a b => by
    simp only [Bool.or_eq_true, decide_eq_true_eq]; exact List.le_total a b
  have hp := List.pairwise_mergeSort tr to zs
  have hm := List.mergeSort_perm zs (fun x y => decide (x ≤ y))
  generalize zs.mergeSort (fun x y => decide (x ≤ y)) = ts at hp hm ⊢
  have hg : ∀ j, j < ts.length → ts.toArray[j]! = ts.getD j [] := fun j hj => by simp [List.getD_eq_getElem?_getD, hj]
  obtain ⟨h1, h2, h3⟩ := compact_upto ts.toArray (fun i j hij hj => by
    have hj' : j < ts.length := by simpa using hj
    rw [hg i (by omega), hg j hj']
    have := List.pairwise_iff_getElem.1 hp i j (by omega) hj' hij
    simpa [List.getD_eq_getElem?_getD, hj', show i < ts.length by omega] using this) ts.length (by simp)
  refine ⟨h1, fun x => ?_, by have := hm.length_eq; unfold Lib.compact; omega⟩
  rw [← hm.mem_iff]
  unfold Lib.compact
  rw [h2 x]
  constructor
  · rintro ⟨j, hj, e⟩
    rw [← e, hg j hj, List.getD_eq_getElem?_getD, List.getElem?_eq_getElem hj]
    exact List.getElem_mem _
  · intro h
    obtain ⟨j, hj, e⟩ := List.getElem_of_mem h
    exact ⟨j, hj, by rw [hg j hj, List.getD_eq_getElem?_getD, List.getElem?_eq_getElem hj]; exact e⟩
def ofSt (l : St) : ByteArray := ⟨l.toArray⟩
theorem ofSt_toList (l : St) : (ofSt l).toList = l := by rw [ByteArray.toList_eq]; rfl
theorem data_toList (s : ByteArray) : s.data.toList = s.toList := (ByteArray.toList_eq s).symm
theorem map_ofSt (l : List St) : (l.map ofSt).map Value.string = l.map encStr := by rw [List.map_map]; rfl
/-- Sorted, and each once: just the strings of both. -/
theorem either_is (a b : List ByteArray) (ha : rightS a) (hb : rightS b) : (Lib.compact (((a ++ b).map (·.data.toList)).mergeSort fun x y => decide (x ≤ y))).map ofSt = orS a b := by
  obtain ⟨o1, _, o3⟩ := orS_all a b ha.1 hb
  obtain ⟨c1, c2, _⟩ := compact_sorted ((a ++ b).map (·.data.toList))
  generalize Lib.compact (((a ++ b).map (·.data.toList)).mergeSort fun x y => decide (x ≤ y)) = c at c1 c2 ⊢
  have hm : ∀ x : ByteArray, x ∈ c.map ofSt ↔ x ∈ a ∨ x ∈ b := fun x => by
    rw [List.mem_map]
    constructor
    · rintro ⟨y, hy, rfl⟩
      obtain ⟨z, hz, e⟩ := List.mem_map.1 ((c2 y).1 hy)
      have : ofSt y = z := by
        apply toList_inj
        rw [ofSt_toList, ← e]
        exact data_toList z
      rw [this]
      exact List.mem_append.1 hz
    · intro hx
      refine ⟨x.data.toList, (c2 _).2 (List.mem_map.2 ⟨x, List.mem_append.2 hx, rfl⟩), ?_⟩
      apply toList_inj
      rw [ofSt_toList]
      exact data_toList x
  refine rightS_ext _ _ ⟨fun s hs => ?_, ?_⟩ o1 (fun s => by rw [hm s, o3 s])
  · rcases (hm s).1 hs with h | h
    · exact ha.1 s h
    · exact hb.1 s h
  · rw [List.map_map]
    have : (fun b => b.toList) ∘ ofSt = id := funext fun l => ofSt_toList l
    rw [this, List.map_id]
    exact c1

/-! ### The walks -/
set_option maxHeartbeats 2000000 in
set_option maxRecDepth 100000 in
theorem either_any (v u : Value) (a b : List ByteArray) (w : World) (hv : StrsAt w v a) (hu : StrsAt w u b) (ha : rightS a) (hb : rightS b) (hl : a.length + b.length ≤ 100000) :
    Calls Try.prog 43 #[v, u] w fun r w' => (∃ x, r = .returned x ∧ OwnS w' w.heap.size x (orS a b)) ∧ Below w.heap.size w w' := by
  obtain ⟨pa, ca, rfl⟩ := hv.form
  obtain ⟨pb, cb, rfl⟩ := hu.form
  have CO := hide (concatS_any w.heap.size _ _ a b (w.alloc (.cells #[.slice pa a.length ca, .slice pb b.length cb] 23)) (heap_new _ _) (hv.on ((Below.refl _ w).alloc (Nat.le_refl _) _)) (hu.on ((Below.refl _ w).alloc (Nat.le_refl _) _)) hl)
  have EI := hide (either_is a b ha hb)
  have CL := hide (compact_sorted ((a ++ b).map (·.data.toList))).2.2
  have hsz := hide hl
  clear hv hu hl
  go_enter Try.func43, Try.ntmps43
  go_wp2_with fail
  refine (unhide CO).mono ?_
  rintro r w1 ⟨⟨x, rfl, ho⟩, hb1⟩
  have B1 := hide (below_alloc hb1)
  have hB : w.heap.size ≤ (w.alloc (.cells #[.slice pa a.length ca, .slice pb b.length cb] 23)).heap.size := by simp
  have HO : Hid (w1.ownsRow w.heap.size 9 1 x (a ++ b).length (((a ++ b).map (·.data.toList)).map encStr)) := hide (by
    rw [Lib.map_encStr]
    obtain ⟨h1, h2⟩ := ho
    refine ⟨h1, ?_⟩
    rcases h2 with h2 | ⟨g, cap, cur, e1, e2, e3⟩
    · exact Or.inl h2
    · exact Or.inr ⟨g, cap, cur, e1, by omega, e3⟩)
  clear CO ho hb1 hB
  generalize hzs : (a ++ b).map (·.data.toList) = zs at HO EI CL
  have hzl : (a ++ b).length = zs.length := by rw [← hzs]; simp
  rw [hzl] at HO
  have hzn : zs.length ≤ 100000 := by rw [← hzl, List.length_append]; exact hsz.out
  clear hzs hzl hsz
  rcases HO.out.2 with ⟨rfl, h0⟩ | ⟨g, cap, cur, rfl, hg, hcur, hcap, hmx, hcs, hct⟩
  · have hz : zs = [] := List.eq_nil_of_length_eq_zero h0
    subst hz
    have ES : Hid (orS a b = []) := hide (by rw [← EI.out, List.mergeSort_nil]; rfl)
    clear HO EI CL h0 hzn
    have S0 := hide (Try.slices_Sort_string_none none 0 w1)
    have C0 := hide (Try.slices_Compact_string_empty none 0 w1)
    go_wp2_with fail
    refine (unhide S0).mono ?_
    rintro r w2 ⟨rfl, rfl⟩
    go_wp2_with fail
    refine (unhide C0).mono ?_
    rintro r w3 ⟨rfl, rfl⟩
    go_wp2
    go_ret
    refine ⟨⟨_, rfl, ?_⟩, B1.out⟩
    rw [ES.out]; exact ownS_none _ _
  · have hlt := lt_heap hcur
    have S0 := hide (Try.slices_Sort_string g 0 cap zs w1 (holds_of_block hcur (by rw [Nat.mul_one] at hct; exact hct)) hlt (by omega))
    have hml : (zs.mergeSort fun x y => decide (x ≤ y)).length = zs.length := List.length_mergeSort _
    generalize zs.mergeSort (fun x y => decide (x ≤ y)) = ts at S0 EI CL hml
    have OS := fun (n : Nat) (os : Array Obj) => hide (ownsRow_sorted (w := w1) (n := n) (os := os) hml hg hcur hcap hmx hcs)
    have GS := fun (n : Nat) (os : Array Obj) => hide (B1.out.grown (grownBy_sorted (w := w1) (g := g) (n := n) (os := os) ts.toArray) B1.out.size (fun k hk => by cases hk; exact hg))
    have HC := hide hcur
    have HML := hide hml
    clear HO hcur hct hcs hml
    go_wp2_with fail
    refine (unhide S0).mono ?_
    rintro r w2 ⟨rfl, n, os, rfl⟩
    have O2 := OS n os
    have B2 := GS n os
    clear OS GS S0 B1 HC hlt
    generalize Sort.grow (Sort.putRow encStr (Sort.ahead w1 n) g 0 ts.toArray) os = w2 at O2 B2 ⊢
    obtain ⟨g', cap', e, _, _, _, _, _, hH⟩ := Lib.holds_of_ownsRow O2.out (by simp)
    injection e with e1 e2 e3
    injection e1 with e1
    injection e1 with e1
    subst e1
    have hcl : (Lib.compact ts).length ≤ zs.length := CL.out
    have hyl : (Lib.compact ts ++ List.replicate (zs.length - (Lib.compact ts).length) []).length = zs.length := by simp; omega
    have C0 := hide (Try.slices_Compact_string g 0 cap ts w2 hH (by have := HML.out; omega) (by have := HML.out; omega))
    rw [HML.out] at C0
    have OC := fun (q : Nat) => hide (Lib.ownsRow_putRow (q := q) O2.out hyl hcl)
    have BC := fun (q : Nat) => hide (Lib.below_putRow (enc := encStr) (q := q) (g := g) (d := (Lib.compact ts ++ List.replicate (zs.length - (Lib.compact ts).length) []).toArray) B2.out hg)
    clear hH e2 e3 O2 B2 hyl hcl
    go_wp2_with fail
    refine (unhide C0).mono ?_
    rintro r w3 ⟨rfl, q, rfl⟩
    have O3 := OC q
    have B3 := BC q
    clear OC BC C0
    generalize Sort.putRow encStr (Sort.ahead w2 q) g 0 (Lib.compact ts ++ List.replicate (zs.length - (Lib.compact ts).length) []).toArray = w3 at O3 B3 ⊢
    go_wp2
    go_ret
    refine ⟨⟨_, rfl, ?_⟩, B3.out⟩
    have O4 := O3.out
    rw [List.take_append_of_le_length (Nat.le_refl _), List.take_length] at O4
    rw [← EI.out]
    unfold OwnS
    rw [map_ofSt, List.length_map]
    exact O4

set_option maxHeartbeats 2000000 in
set_option maxRecDepth 100000 in
theorem orStrings_any (v u : Value) (A B : SetV) (w : World) (hv : StrsAt w v A.strs) (hu : StrsAt w u B.strs) (ha : rightS A.strs) (hb : rightS B.strs) (hl : A.strs.length + B.strs.length ≤ 100000) :
    Calls Try.prog 28 #[.bool A.co, v, .bool B.co, u] w fun r w' => (∃ x, r = .returned (.tuple #[.bool (A.co || B.co), x]) ∧ OwnS w' w.heap.size x (orStr A B)) ∧ Below w.heap.size w w' := by
  obtain ⟨_, _, ac, a⟩ := A
  obtain ⟨_, _, bc, b⟩ := B
  unfold orStr
  dsimp only at *
  have f0 : ∀ (m : List ByteArray), (fun s => inStrsB m s == true) = fun s => inStrsB m s := fun m => funext fun s => by cases inStrsB m s <;> rfl
  have f1 : ∀ (m : List ByteArray), (fun s => inStrsB m s == false) = fun s => !inStrsB m s := fun m => funext fun s => by cases inStrsB m s <;> rfl
  have P0 := hide (picked_any v u a b true w hv hu hb.2 (by omega) (by omega))
  have P1 := hide (picked_any v u a b false w hv hu hb.2 (by omega) (by omega))
  have P2 := hide (picked_any u v b a false w hu hv ha.2 (by omega) (by omega))
  have P3 := hide (either_any v u a b w hv hu ha hb hl)
  rw [f0] at P0
  rw [f1] at P1 P2
  clear f0 f1 hv hu ha hb hl
  cases ac
  · cases bc
    · go_enter Try.func28, Try.ntmps28
      go_wp2_with fail
      refine (unhide P3).mono ?_
      rintro r w1 ⟨⟨x, rfl, ho⟩, b1⟩
      have O1 := hide ho
      have B1 := hide b1
      clear ho b1 P0 P1 P2 P3
      go_wp2
      go_ret2
      exact ⟨⟨_, rfl, O1.out⟩, B1.out⟩
    · go_enter Try.func28, Try.ntmps28
      go_wp2_with fail
      refine (unhide P2).mono ?_
      rintro r w1 ⟨⟨x, rfl, ho⟩, b1⟩
      have O1 := hide ho
      have B1 := hide b1
      clear ho b1 P0 P1 P2 P3
      go_wp2
      go_ret2
      exact ⟨⟨_, rfl, O1.out⟩, B1.out⟩
  · cases bc
    · go_enter Try.func28, Try.ntmps28
      go_wp2_with fail
      refine (unhide P1).mono ?_
      rintro r w1 ⟨⟨x, rfl, ho⟩, b1⟩
      have O1 := hide ho
      have B1 := hide b1
      clear ho b1 P0 P1 P2 P3
      go_wp2
      go_ret2
      exact ⟨⟨_, rfl, O1.out⟩, B1.out⟩
    · go_enter Try.func28, Try.ntmps28
      go_wp2_with fail
      refine (unhide P0).mono ?_
      rintro r w1 ⟨⟨x, rfl, ho⟩, b1⟩
      have O1 := hide ho
      have B1 := hide b1
      clear ho b1 P0 P1 P2 P3
      go_wp2
      go_ret2
      exact ⟨⟨_, rfl, O1.out⟩, B1.out⟩
end Go.Proofs.Yteahjihmpchcbaa
