/-
  The program's set: Ranges (slices.SortFunc of ranges).
-/
import Derived.Test.YteahjihmpchcbaaTD
import Derived.Test.YteahjihmpchcbaaTF
import Derived.Test.YteahjihmpchcbaaShelf
import Derived.Shelf.SlSortCmp.NoneTotal
import Derived.Laws.MakeOwn
set_option linter.unusedSimpArgs false
set_option linter.unusedVariables false
namespace Go.Proofs.Yteahjihmpchcbaa
open Go.RowKit

/-! ### The comparison -/
def encRg (x : Rg) : List Value := [.int .i64 x.1, .int .i64 x.2]
def cmpRg (x y : Rg) : Int := Lib.compareInt x.1 y.1
set_option maxHeartbeats 1000000 in
theorem closure_any (x y : Rg) (W : World) : Calls Try.prog 45 #[.agg #[.int .i64 x.1, .int .i64 x.2], .agg #[.int .i64 y.1, .int .i64 y.2]] W fun e w' => e = .returned (.int .i64 (cmpRg x y)) ∧ ∃ q os', w' = Sort.grow (W.drewN q) os' := by
  have hcon := fun W' => hide (Try.cmp_Compare_int x.1 y.1 W')
  unfold cmpRg
  generalize Lib.compareInt x.1 y.1 = r at hcon ⊢
  go_enter Try.func45, Try.ntmps45
  go_wp2_with fail
  refine (unhide (hcon _)).mono ?_
  rintro e w' ⟨rfl, rfl⟩
  go_wp2
  go_ret
  exact ⟨rfl, 0, _, by rw [Sort.alloc_eq_grow, Sort.alloc_eq_grow, Sort.grow_grow]; rfl⟩
theorem ltRg (x y : Rg) : ltOf cmpRg x y = decide (x.1 < y.1) := by
  unfold ltOf cmpRg Lib.compareInt
  by_cases h1 : x.1 < y.1
  · simp [h1]
  · by_cases h2 : y.1 < x.1 <;> simp [h1, h2]
theorem swoRg : Sort.SWO (ltOf cmpRg) := {
  irrefl := fun x => by rw [ltRg]; simp,
  trans := fun x y z h1 h2 => by rw [ltRg] at *; simp at *; omega,
  ntrans := fun x y z h1 h2 => by rw [ltRg] at *; simp at *; omega }

/-! ### The row, in the sort's words -/
theorem flat_rg (l : List Rg) : Sort.flatK encRg 2 l.toArray = (rgCells l).toArray := by
  apply Array.ext
  · rw [Sort.size_flatK]; simp [rgCells_len]
  · intro j h1 h2
    rw [Sort.size_flatK] at h1
    have h1' : j < l.length * 2 := by simpa using h1
    have e1 := Sort.get_flatK encRg 2 l.toArray j (by simpa using h1)
    rw [getElem!_pos _ j (by rw [Sort.size_flatK]; simpa using h1)] at e1
    rw [e1]
    have hj : j / 2 < l.length := by omega
    obtain ⟨a0, a1⟩ := rgCells_at l (j / 2) hj
    have hg : l.toArray[j / 2]! = l.getD (j / 2) (0, 0) := by simp [List.getD_eq_getElem?_getD, hj]
    rw [hg]
    have hb : some ((rgCells l).toArray[j]) = (rgCells l)[j]? := by simp
    rcases Nat.mod_two_eq_zero_or_one j with hm | hm
    · rw [hm]
      have : (rgCells l)[j]? = some (.int .i64 (l.getD (j / 2) (0, 0)).1) := by rw [← a0]; exact congrArg (fun k => (rgCells l)[k]?) (by omega)
      rw [this] at hb
      exact (Option.some.inj hb).symm
    · rw [hm]
      have : (rgCells l)[j]? = some (.int .i64 (l.getD (j / 2) (0, 0)).2) := by rw [← a1]; exact congrArg (fun k => (rgCells l)[k]?) (by omega)
      rw [this] at hb
      exact (Option.some.inj hb).symm
theorem holds_rg {w : World} {g : Nat} {cur : Array Value} {l : List Rg} (hb : w.heap[g]? = some (.cells cur 55 (0, 0))) (ht : cur.toList.take (l.length * 2) = rgCells l) : Sort.HoldsK encRg 2 w g 0 l.toArray := by
  unfold Sort.HoldsK
  rw [flat_rg]
  intro j hj
  have hj' : j < l.length * 2 := by simpa [rgCells_len] using hj
  refine ⟨?_, by simp [World.frozen?, hb]⟩
  have h1 : (cur.toList.take (l.length * 2))[j]? = (rgCells l)[j]? := by rw [ht]
  rw [List.getElem?_take_of_lt hj', Array.getElem?_toList] at h1
  rw [Nat.zero_add, cell_heap hb, h1]
  have hlt : j < (rgCells l).length := by rw [rgCells_len]; exact hj'
  simp [hlt]
theorem own_sortedR {w : World} {B g cap n : Nat} {os : Array Obj} {cur : Array Value} {l l' : List Rg} (hl : l'.length = l.length) (hB : B ≤ g) (hb : w.heap[g]? = some (.cells cur 55 (0, 0))) (h1 : l.length ≤ cap) (h2 : cap ≤ maxLen) (h3 : cur.size = cap * 2) :
    OwnR (sortWorldK encRg 2 w g 0 n l'.toArray os) B (.slice (some ⟨g, 0, none⟩) l.length cap) l' ∧ w.grownBy (sortWorldK encRg 2 w g 0 n l'.toArray os) (some g) := by
  have hg : g < w.heap.size := lt_heap hb
  have hh : (sortWorldK encRg 2 w g 0 n l'.toArray os).heap[g]? = some (.cells (Sort.putCells id 0 (rgCells l').toArray cur) 55 (0, 0)) := by
    unfold sortWorldK Sort.putRowK
    rw [flat_rg, Sort.heap_grow_old _ _ (by simpa using hg)]
    simp [Sort.putRow, Sort.mapBlock, Sort.ahead, Array.getElem?_modify, hb, Sort.onCells]
  refine ⟨⟨by rw [rgCells_len], Or.inr ⟨g, cap, _, by rw [hl], hB, hh, by omega, h2, by simp [Sort.putCells, h3], ?_⟩⟩, ⟨rfl, rfl, rfl, ?_, fun k hk hne => ?_⟩⟩
  · apply List.ext_getElem?
    intro j
    by_cases hj : j < l'.length * 2
    · rw [List.getElem?_take_of_lt hj, Array.getElem?_toList]
      have hjc : j < cur.size := by omega
      have hlt : j < (rgCells l').length := by rw [rgCells_len]; exact hj
      simp [Sort.putCells, hlt, hjc]
    · rw [List.getElem?_take_eq_none (by omega), List.getElem?_eq_none (by rw [rgCells_len]; omega)]
  · unfold sortWorldK Sort.putRowK
    simp
  · unfold sortWorldK Sort.putRowK
    rw [Sort.heap_grow_old _ _ (by simpa using hk)]
    have : g ≠ k := fun e => hne (by rw [e])
    simp [Sort.putRow, Sort.mapBlock, Sort.ahead, Array.getElem?_modify, this]
theorem perm_all {d d' : Array Rg} (h : Sort.PermIn 0 d.size d d') : d'.toList.Perm d.toList := by
  obtain ⟨h1, _, h3⟩ := h
  have e1 : d'.extract 0 d.size = d' := by rw [← h1]; simp
  have e2 : d.extract 0 d.size = d := by simp
  rwa [e1, e2] at h3
theorem sorted_rises {d : Array Rg} {n : Nat} (hn : d.size = n) (h : Sort.SortedIn (ltOf cmpRg) 0 n d) : risesL d.toList := by
  refine List.pairwise_iff_getElem.2 fun i j hi hj hij => ?_
  have hj' : j < d.size := by simpa using hj
  have := h i j (Nat.zero_le _) hij (by omega)
  rw [ltRg, getElem!_pos _ j hj', getElem!_pos _ i (by omega)] at this
  have := of_decide_eq_false this
  simp
  omega

/-! ### The walk -/
def rightOnes (l : List Rg) : List Rg := l.filter fun r => decide (r.1 ≤ r.2)
theorem rightOnes_succ {l : List Rg} {k : Nat} (h : k < l.length) : rightOnes (l.take (k + 1)) = rightOnes (l.take k) ++ (if (l.getD k (0, 0)).1 ≤ (l.getD k (0, 0)).2 then [l.getD k (0, 0)] else []) := by
  unfold rightOnes
  rw [take_succ_getD h, List.filter_append, List.filter_cons, List.filter_nil]
  congr 1
  by_cases hh : (l.getD k (0, 0)).1 ≤ (l.getD k (0, 0)).2
  · rw [if_pos (decide_eq_true hh), if_pos hh]
  · rw [if_neg (by rw [decide_eq_false hh]; simp), if_neg hh]
theorem memR_perm {a b : List Rg} (h : a.Perm b) (n : Int) : memR a n ↔ memR b n := by
  constructor
  · rintro ⟨r, hr, x⟩; exact ⟨r, h.mem_iff.1 hr, x⟩
  · rintro ⟨r, hr, x⟩; exact ⟨r, h.mem_iff.2 hr, x⟩
theorem memR_rightOnes (l : List Rg) (n : Int) : memR (rightOnes l) n ↔ memR l n := by
  constructor
  · rintro ⟨r, hr, x⟩; exact ⟨r, (List.mem_filter.1 hr).1, x⟩
  · rintro ⟨r, hr, x⟩; exact ⟨r, List.mem_filter.2 ⟨hr, decide_eq_true (by omega)⟩, x⟩
theorem ranges_out {l m o : List Rg} (h : RangesOut m o) (hp : m.Perm (rightOnes l)) : RangesOut l o := by
  refine ⟨h.1, h.2.1, ?_, fun n => by rw [h.2.2.2 n, memR_perm hp n, memR_rightOnes]⟩
  have h1 := h.2.2.1
  have h2 := hp.length_eq
  have h3 : (rightOnes l).length ≤ l.length := List.length_filter_le _ _
  omega
theorem OwnR.mono {w : World} {B B' : Nat} {v : Value} {l : List Rg} (h : OwnR w B v l) (hB : B' ≤ B) : OwnR w B' v l := by
  refine ⟨h.1, ?_⟩
  rcases h.2 with h2 | ⟨g, cap, cur, e1, e2, e3⟩
  · exact Or.inl h2
  · exact Or.inr ⟨g, cap, cur, e1, by omega, e3⟩

set_option maxHeartbeats 4000000 in
set_option maxRecDepth 100000 in
theorem setRanges_any (v : Value) (l : List Rg) (w : World) (hv : RngsAt w v l) (hn : l.length ≤ 100000) :
    Calls Try.prog 29 #[v] w fun r w' => (∃ u o, r = .returned u ∧ RangesOut l o ∧ OwnR w' w.heap.size u o) ∧ Below w.heap.size w w' := by
  have HV := hide hv
  have HI := hide hv.1
  have hlen := hv.2.1
  obtain ⟨a, cap, rfl⟩ := hv.form
  clear hv
  obtain ⟨N, hN⟩ : ∃ N : Nat, N = l.length := ⟨_, rfl⟩
  rw [← hN] at hlen hn HV ⊢
  have HN := hide hN
  clear hN
  obtain ⟨i0, hi, hz0, hz1, hz2⟩ := info_parts infoRg
  obtain ⟨w1, hm1, hm2, hm3⟩ := run_make_own (P := Try.prog) w w.heap.size 22 55 i0 _ 2 Try.underlying22 hi hz0 hz1 .i64 .i64 N (by rw [hz2]; omega) (by unfold maxLen; omega) (Nat.le_refl _)
  have O1 : Hid (OwnR w1 w.heap.size (.slice (some ⟨w.heap.size, 0, none⟩) 0 N) []) := hide hm2
  have B1 := hide ((Below.refl _ w).grown hm3 (Nat.le_refl _) (fun k hk => by cases hk))
  clear hi hz0 hz1 hz2 hm2 hm3
  go_enter Try.func29, Try.ntmps29
  go_wp2
  go_loopw [3, 11] (fun o i wr => ∃ k : Nat, i = .int .i64 k ∧ k ≤ N ∧ Hid (OwnR wr w.heap.size o (rightOnes (l.take k))) ∧ Hid (Below w.heap.size w wr)) (fun _ i _ => N - (intOf i).toNat)
  case atStart => exact ⟨0, rfl, by omega, O1, B1⟩
  case round =>
    clear hm1 O1 B1
    obtain ⟨k, rfl, hk, HO, HB⟩ := hrel
    by_cases hlt : k < N
    · have hk' : k < l.length := by rw [← HN.out]; exact hlt
      obtain ⟨b, off, ha, hb, c0, c1⟩ := (HV.out.on HB.out).at.2 k hk'
      subst ha
      have HF := hide (rightOnes_succ hk')
      have LE : Hid ((rightOnes (l.take k)).length + 1 ≤ 1000000) := hide (by
        have h1 : (rightOnes (l.take k)).length ≤ (l.take k).length := List.length_filter_le _ _
        have h2 : (l.take k).length ≤ k := by simp; omega
        omega)
      generalize l.getD k (0, 0) = q at c0 c1 HF
      have szB := HB.out.size
      have B5 := hide (HB.out.alloc szB (Obj.cells #[Value.int IntKind.i64 q.1, Value.int IntKind.i64 q.2] 55))
      have O5 := hide (HO.out.alloc (Obj.cells #[Value.int IntKind.i64 q.1, Value.int IntKind.i64 q.2] 55))
      by_cases hq : q.1 ≤ q.2
      · have E : Hid (rightOnes (l.take (k + 1)) = rightOnes (l.take k) ++ [q]) := hide (by rw [HF.out, if_pos hq])
        clear HF
        go_wp2_with (at_builtin; refine wpList_appR _ rfl _ _ rfl w.heap.size _ _ rfl (O5.out.alloc _) _ 1 1 _ [q] rfl rfl (heap_at (by simp)) rfl LE.out (by simp; omega) ?_; intro v8 w8 hO8 hb8; have O8 := hide hO8; have B8 := hide ((B5.out.alloc B5.out.size _).trans hb8); clear hO8 hb8)
        refine ⟨⟨k + 1, by go_num, by omega, ?_, B8⟩, by simp [intOf]; omega⟩
        rw [E.out]; exact O8
      · have E : Hid (rightOnes (l.take (k + 1)) = rightOnes (l.take k)) := hide (by rw [HF.out, if_neg hq, List.append_nil])
        clear HF
        go_wp2
        refine ⟨⟨k + 1, by go_num, by omega, ?_, B5⟩, by simp [intOf]; omega⟩
        rw [E.out]; exact O5
    · have hge : (N : Int) ≤ (k : Int) := by omega
      have E : Hid (l.take k = l) := hide (List.take_of_length_le (by have := HN.out; omega))
      rw [E.out] at HO
      have hml : (rightOnes l).length ≤ N := by rw [HN.out]; exact List.length_filter_le _ _
      have HRI : Hid (inI64 (rightOnes l)) := hide (fun x hx => HI.out x (List.mem_filter.1 hx).1)
      have HRL : Hid (∀ r ∈ rightOnes l, r.1 ≤ r.2) := hide (fun r hr => of_decide_eq_true (List.mem_filter.1 hr).2)
      have RO := fun (m o : List Rg) (h : RangesOut m o) (hp : m.Perm (rightOnes l)) => hide (ranges_out h hp)
      clear E HV HI
      generalize hms : rightOnes l = ms at *
      clear hms
      have J := fun (u : Value) (m : List Rg) (w2 : World) (hO : OwnR w2 w.heap.size u m) (hp : m.Perm ms) (hs : risesL m) => hide (joined_any u m w2 (hO.rngs (fun x hx => HRI.out x (hp.mem_iff.1 hx)) (by have := hp.length_eq; omega)) hs (fun r hr => HRL.out r (hp.mem_iff.1 hr)) (by have := hp.length_eq; omega))
      cases ms with
      | nil =>
        obtain ⟨p, c, rfl⟩ := HO.out.empty_form
        have S0 : Hid (Calls Try.prog 44 #[.slice p 0 c, .func (.func 45) #[] #[]] wr fun e w' => e = .returned (.tuple #[]) ∧ w' = wr) := hide (AnyF.slices_SortFunc_none Try.sortRg p c (.func (.func 45) #[] #[]) wr)
        have J0 := J _ [] _ HO.out (List.Perm.refl _) List.Pairwise.nil
        clear J
        go_wp2_with fail
        refine (unhide S0).mono ?_
        rintro r w2 ⟨rfl, rfl⟩
        go_wp2_with fail
        refine (unhide J0).mono ?_
        rintro r w3 ⟨⟨u3, o3, rfl, ho3, hO3⟩, b3⟩
        have R3 := RO [] o3 ho3 (List.Perm.refl _)
        have O3 := hide (hO3.mono HB.out.size)
        have B3 := hide (HB.out.trans (b3.mono HB.out.size))
        clear ho3 hO3 b3 RO J0 S0
        go_wp2
        go_ret
        exact ⟨⟨_, o3, rfl, R3.out, O3.out⟩, B3.out⟩
      | cons q qs =>
        have hpos : 0 < (q :: qs).length := by simp
        generalize q :: qs = ms at *
        rcases HO.out.2 with ⟨_, h0⟩ | ⟨g, mc, cur, rfl, hg, hcur, hcap, hmx, hcs, hct⟩
        · omega
        · have hlt := lt_heap hcur
          have eg : ∀ args w, (callFunc 45 args).run Try.prog w = .ok (.enter 45 args) w := enters_of Try.func45 (by kernel_rfl) rfl
          have hcmp : CmpLays Try.prog 45 #[] encRg 2 cmpRg g 0 ms.toArray.size wr := fun _ _ _ _ x y => closure_any x y _
          have S0 : Hid (Calls Try.prog 44 #[.slice (some ⟨g, 0, none⟩) ms.length mc, .func (.func 45) #[] #[]] wr fun e w' => e = .returned (.tuple #[]) ∧ ∃ d' n os, Sort.PermIn 0 ms.toArray.size ms.toArray d' ∧ Sort.SortedIn (ltOf cmpRg) 0 ms.toArray.size d' ∧ w' = sortWorldK encRg 2 wr g 0 n d' os) :=
            hide (AnyQ.slices_SortFunc Try.sortRg 2 Try.isAgg55 Try.sizeOf55 encRg (fun _ => rfl) (fun x v hv => by simp [encRg] at hv; rcases hv with rfl | rfl <;> rfl) cmpRg swoRg 45 #[] g 0 mc ms.toArray wr eg hcmp (holds_rg hcur hct) hlt (by simp; omega))
          have OS := fun (l' : List Rg) (n : Nat) (os : Array Obj) (hl : l'.length = ms.length) => hide (own_sortedR (n := n) (os := os) hl hg hcur hcap hmx hcs)
          clear eg hcmp hcur hct hcs HO hcap hmx
          go_wp2_with fail
          refine (unhide S0).mono ?_
          rintro r w2 ⟨rfl, d', n, os, hp, hs, rfl⟩
          have hp' := perm_all hp
          have hs' := sorted_rises (n := ms.toArray.size) hp.1 hs
          have hl' := hp'.length_eq
          have hX := (OS d'.toList n os (by simpa using hl')).out
          simp only [Array.toArray_toList] at hX hp'
          obtain ⟨o2, g2⟩ := hX
          have B2 := hide (HB.out.grown g2 HB.out.size (fun k hk => by cases hk; exact hg))
          have J0 := J _ d'.toList _ o2 hp' hs'
          have HP := hide hp'
          clear hp hs hs' hl' hp' OS S0 o2 g2 J HB hlt
          generalize sortWorldK encRg 2 wr g 0 n d' os = w2 at B2 J0 ⊢
          go_wp2_with fail
          refine (unhide J0).mono ?_
          rintro r w3 ⟨⟨u3, o3, rfl, ho3, hO3⟩, b3⟩
          have R3 := RO _ o3 ho3 HP.out
          have O3 := hide (hO3.mono B2.out.size)
          have B3 := hide (B2.out.trans (b3.mono B2.out.size))
          clear ho3 hO3 b3 RO J0
          go_wp2
          go_ret
          exact ⟨⟨_, o3, rfl, R3.out, O3.out⟩, B3.out⟩
end Go.Proofs.Yteahjihmpchcbaa
