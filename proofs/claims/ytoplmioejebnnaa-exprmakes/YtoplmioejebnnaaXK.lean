/-
  slices.Clone of ranges, of strings, of expressions; what lies in new blocks alone; the program's copiedSet.
-/
import Derived.Test.YtoplmioejebnnaaXI
import Derived.Test.YtoplmioejebnnaaEO
import Derived.Deep.MidRow
import Derived.Laws.AppendOwnNone
set_option linter.unusedSimpArgs false
set_option linter.unusedVariables false
namespace Go.Proofs.Ytoplmioejebnnaa
open Go.RowKit

/-! ### From a block on all is as it was -/
structure Kept (m : Nat) (w w' : World) : Prop where
  size : w.heap.size ≤ w'.heap.size
  block : ∀ g, m ≤ g → g < w.heap.size → w'.heap[g]? = w.heap[g]?
theorem Kept.refl (m : Nat) (w : World) : Kept m w w := ⟨Nat.le_refl _, fun _ _ _ => rfl⟩
theorem Kept.ofBelow {m : Nat} {w w' : World} (h : Below w.heap.size w w') : Kept m w w' := ⟨h.size, fun g _ hg => h.block g hg⟩
theorem Kept.trans {m : Nat} {w w' w'' : World} (h : Kept m w w') (k : Kept m w' w'') : Kept m w w'' := ⟨Nat.le_trans h.size k.size, fun g hm hg => (k.block g hm (Nat.lt_of_lt_of_le hg h.size)).trans (h.block g hm hg)⟩
theorem Kept.mono {m m' : Nat} {w w' : World} (h : Kept m w w') (hm : m ≤ m') : Kept m' w w' := ⟨h.size, fun g hg => h.block g (Nat.le_trans hm hg)⟩
theorem Kept.cell {m : Nat} {w w' : World} (h : Kept m w w') {p : Addr} (hm : m ≤ p.block) (hp : p.block < w.heap.size) : w'.cell? p = w.cell? p := World.cell?_of_block (h.block _ hm hp)
theorem Kept.setCell {m : Nat} (w : World) (g i : Nat) (v : Value) (h : g < m) : Kept m w (w.setCell ⟨g, i, none⟩ v) := ⟨by simp, fun k hk _ => Below.heap_setCell _ _ _ k (fun e => by dsimp only at e; omega)⟩
theorem ownsRow_kept {w w' : World} {B : Nat} {e : TypeId} {size : Nat} {v : Value} {n : Nat} {xs : List Value} (h : w.ownsRow B e size v n xs) (hk : Kept B w w') : w'.ownsRow B e size v n xs := by
  refine ⟨h.1, ?_⟩
  rcases h.2 with h2 | ⟨g, cap, cur, e1, hg, hc, hr⟩
  · exact Or.inl h2
  · exact Or.inr ⟨g, cap, cur, e1, hg, (hk.block g hg (Array.getElem?_eq_some_iff.1 hc).1).trans hc, hr⟩
theorem soft_heap {w : World} {g : Nat} {cs : Array Value} {t : TypeId} (h : w.heap[g]? = some (.cells cs t (0, 0))) (i : Nat) : w.frozen? ⟨g, i, none⟩ = false := by
  unfold World.frozen?
  rw [h]
  simp
theorem ownsRow_form {w : World} {B : Nat} {e : TypeId} {size : Nat} {v : Value} {n : Nat} {xs : List Value} (h : w.ownsRow B e size v n xs) : ∃ p c, v = .slice p n c ∧ n ≤ c ∧ c ≤ maxLen ∧ (p = none → n = 0 ∧ c = 0) := by
  rcases h.2 with ⟨rfl, rfl⟩ | ⟨g, cap, cur, rfl, _, _, h1, h2, _⟩
  · exact ⟨none, 0, rfl, Nat.le_refl _, by unfold maxLen; omega, fun _ => ⟨rfl, rfl⟩⟩
  · exact ⟨_, cap, rfl, h1, h2, fun e => by cases e⟩
theorem ownsRow_cell {w : World} {B : Nat} {e : TypeId} {size : Nat} {g n c : Nat} {xs : List Value} (h : w.ownsRow B e size (.slice (some ⟨g, 0, none⟩) n c) n xs) (i : Nat) (u : Value) (hi : xs[i]? = some u) : w.cell? ⟨g, i, none⟩ = some u := by
  rcases h.2 with ⟨h0, _⟩ | ⟨g', cap, cur, e1, _, hc, _, _, _, ht⟩
  · cases h0
  · injection e1 with e1 _ _
    injection e1 with e1
    injection e1 with e1 _ _
    subst e1
    have hl : i < n * size := by rw [← h.1]; exact (List.getElem?_eq_some_iff.1 hi).1
    rw [cell_heap hc, ← hi, ← ht, List.getElem?_take, if_pos hl]
    simp
theorem ownsRow_at {w : World} {B : Nat} {e : TypeId} {size : Nat} {a : Addr} {n c : Nat} {xs : List Value} (h : w.ownsRow B e size (.slice (some a) n c) n xs) : ∃ g cur, a = ⟨g, 0, none⟩ ∧ B ≤ g ∧ w.heap[g]? = some (.cells cur e (0, 0)) := by
  rcases h.2 with ⟨h0, _⟩ | ⟨g', cap, cur, e1, hb, hc, _⟩
  · cases h0
  · injection e1 with e1 _ _
    injection e1 with e1
    exact ⟨g', cur, e1, hb, hc⟩
theorem cInfoR : (Try.prog.info? 54).map (fun i => (i.zero, i.size, i.bytes)) = some (some (.agg #[.int .i64 0, .int .i64 0]), 2, 16) := by kernel_rfl
set_option maxHeartbeats 1000000 in
set_option maxRecDepth 100000 in
theorem cloneR_nil (w : World) : Calls Try.prog 61 #[.slice none 0 0] w fun r w' => r = .returned (.slice none 0 0) ∧ w' = w := by
  have QN := fun (W : World) => Lib.run_eql_slice_nil W _ _ none 0 0 0 0 Try.underlying22
  simp only [Option.isNone_none] at QN
  go_enter Try.func61, Try.ntmps61
  go_wp2
  go_ret
  exact ⟨rfl, rfl⟩
set_option maxHeartbeats 1000000 in
set_option maxRecDepth 100000 in
theorem cloneR_some (ad : Addr) (m c : Nat) (news : List Value) (w : World) (hl : news.length = m * 2) (hnews : ∀ j u, news[j]? = some u → w.cell? (ad.add j) = some u) (h1 : ∀ u ∈ news, u.oneCell' = true) (hb : m * 16 ≤ 140737488355328) :
    Calls Try.prog 61 #[.slice (some ad) m c] w fun r w' => (∃ v, r = .returned v ∧ w'.ownsRow w.heap.size 54 2 v m news) ∧ Below w.heap.size w w' := by
  obtain ⟨i0, hi, hz0, hz1, hz2⟩ := info_parts cInfoR
  have HI := hide hi
  have HZ0 := hide hz0
  have HZ1 := hide hz1
  have HZ2 := hide hz2
  have HL := hide hl
  have H1 := hide h1
  have HB := hide hb
  have HN : Hid (∀ j u, news[j]? = some u → (w.alloc (Obj.cells #[] 54)).cell? (ad.add j) = some u) := hide (fun j u hj => (World.grownBy_alloc w (Obj.cells #[] 54) none).cell (hnews j u hj) (by simp))
  have HO : Hid ((w.alloc (Obj.cells #[] 54)).ownsRow w.heap.size 54 2 (.slice (some ⟨w.heap.size, 0, none⟩) 0 0) 0 []) := hide ⟨rfl, Or.inr ⟨w.heap.size, 0, #[], rfl, Nat.le_refl _, heap_top _ _, Nat.le_refl _, by unfold maxLen; omega, rfl, rfl⟩⟩
  have b0 := (Below.refl _ w).alloc (Nat.le_refl _) (Obj.cells #[] 54)
  have B0 := hide b0
  have QN := fun (W : World) => Lib.run_eql_slice_nil W _ _ (some ad) m c 0 0 Try.underlying22
  simp only [Option.isNone_some] at QN
  clear hi hz0 hz1 hz2 hl h1 hb hnews b0
  go_enter Try.func61, Try.ntmps61
  go_wp2_with (at_builtin; refine wpList_append_own _ rfl _ _ 22 rfl w.heap.size 54 i0 _ 2 16 Try.underlying22 HI.out HZ0.out HZ1.out HZ2.out rfl (by decide) _ 0 [] rfl HO.out ad m c news rfl HL.out HN.out H1.out (by have := HB.out; unfold maxLen; omega) (by have := HB.out; omega) B0.out.size ?_; intro v8 w8 h8 g8 _; have O8 := hide h8; have B8 := hide (B0.out.grown g8 B0.out.size (fun k hk => by cases hk; exact Nat.le_refl _)); clear h8 g8)
  go_ret
  have := O8.out
  rw [Nat.zero_add, List.nil_append] at this
  exact ⟨⟨_, rfl, this⟩, B8.out⟩
theorem cInfoS : (Try.prog.info? 9).map (fun i => (i.zero, i.size, i.bytes)) = some (some (.string ⟨#[]⟩), 1, 16) := by kernel_rfl
set_option maxHeartbeats 1000000 in
set_option maxRecDepth 100000 in
theorem cloneS_nil (w : World) : Calls Try.prog 62 #[.slice none 0 0] w fun r w' => r = .returned (.slice none 0 0) ∧ w' = w := by
  have QN := fun (W : World) => Lib.run_eql_slice_nil W _ _ none 0 0 0 0 Try.underlying23
  simp only [Option.isNone_none] at QN
  go_enter Try.func62, Try.ntmps62
  go_wp2
  go_ret
  exact ⟨rfl, rfl⟩
set_option maxHeartbeats 1000000 in
set_option maxRecDepth 100000 in
theorem cloneS_some (ad : Addr) (m c : Nat) (news : List Value) (w : World) (hl : news.length = m * 1) (hnews : ∀ j u, news[j]? = some u → w.cell? (ad.add j) = some u) (h1 : ∀ u ∈ news, u.oneCell' = true) (hb : m * 16 ≤ 140737488355328) :
    Calls Try.prog 62 #[.slice (some ad) m c] w fun r w' => (∃ v, r = .returned v ∧ w'.ownsRow w.heap.size 9 1 v m news) ∧ Below w.heap.size w w' := by
  obtain ⟨i0, hi, hz0, hz1, hz2⟩ := info_parts cInfoS
  have HI := hide hi
  have HZ0 := hide hz0
  have HZ1 := hide hz1
  have HZ2 := hide hz2
  have HL := hide hl
  have H1 := hide h1
  have HB := hide hb
  have HN : Hid (∀ j u, news[j]? = some u → (w.alloc (Obj.cells #[] 9)).cell? (ad.add j) = some u) := hide (fun j u hj => (World.grownBy_alloc w (Obj.cells #[] 9) none).cell (hnews j u hj) (by simp))
  have HO : Hid ((w.alloc (Obj.cells #[] 9)).ownsRow w.heap.size 9 1 (.slice (some ⟨w.heap.size, 0, none⟩) 0 0) 0 []) := hide ⟨rfl, Or.inr ⟨w.heap.size, 0, #[], rfl, Nat.le_refl _, heap_top _ _, Nat.le_refl _, by unfold maxLen; omega, rfl, rfl⟩⟩
  have b0 := (Below.refl _ w).alloc (Nat.le_refl _) (Obj.cells #[] 9)
  have B0 := hide b0
  have QN := fun (W : World) => Lib.run_eql_slice_nil W _ _ (some ad) m c 0 0 Try.underlying23
  simp only [Option.isNone_some] at QN
  clear hi hz0 hz1 hz2 hl h1 hb hnews b0
  go_enter Try.func62, Try.ntmps62
  go_wp2_with (at_builtin; refine wpList_append_own _ rfl _ _ 23 rfl w.heap.size 9 i0 _ 1 16 Try.underlying23 HI.out HZ0.out HZ1.out HZ2.out rfl (by decide) _ 0 [] rfl HO.out ad m c news rfl HL.out HN.out H1.out (by have := HB.out; unfold maxLen; omega) (by have := HB.out; omega) B0.out.size ?_; intro v8 w8 h8 g8 _; have O8 := hide h8; have B8 := hide (B0.out.grown g8 B0.out.size (fun k hk => by cases hk; exact Nat.le_refl _)); clear h8 g8)
  go_ret
  have := O8.out
  rw [Nat.zero_add, List.nil_append] at this
  exact ⟨⟨_, rfl, this⟩, B8.out⟩
theorem cInfoX : (Try.prog.info? 28).map (fun i => (i.zero, i.size, i.bytes)) = some (some (.agg #[.int .i64 0, .int .i64 0, .bool false, .slice none 0 0, .bool false, .slice none 0 0, .slice none 0 0]), 7, 104) := by kernel_rfl
set_option maxHeartbeats 1000000 in
set_option maxRecDepth 100000 in
theorem cloneX_nil (w : World) : Calls Try.prog 57 #[.slice none 0 0] w fun r w' => r = .returned (.slice none 0 0) ∧ w' = w := by
  have QN := fun (W : World) => Lib.run_eql_slice_nil W _ _ none 0 0 0 0 Try.underlying26
  simp only [Option.isNone_none] at QN
  go_enter Try.func57, Try.ntmps57
  go_wp2
  go_ret
  exact ⟨rfl, rfl⟩
set_option maxHeartbeats 1000000 in
set_option maxRecDepth 100000 in
theorem cloneX_some (ad : Addr) (m c : Nat) (news : List Value) (w : World) (hl : news.length = m * 7) (hnews : ∀ j u, news[j]? = some u → w.cell? (ad.add j) = some u) (h1 : ∀ u ∈ news, u.oneCell' = true) (hb : m * 104 ≤ 140737488355328) :
    Calls Try.prog 57 #[.slice (some ad) m c] w fun r w' => (∃ v, r = .returned v ∧ w'.ownsRow w.heap.size 28 7 v m news) ∧ Below w.heap.size w w' := by
  obtain ⟨i0, hi, hz0, hz1, hz2⟩ := info_parts cInfoX
  have HI := hide hi
  have HZ0 := hide hz0
  have HZ1 := hide hz1
  have HZ2 := hide hz2
  have HL := hide hl
  have H1 := hide h1
  have HB := hide hb
  have HN : Hid (∀ j u, news[j]? = some u → (w.alloc (Obj.cells #[] 28)).cell? (ad.add j) = some u) := hide (fun j u hj => (World.grownBy_alloc w (Obj.cells #[] 28) none).cell (hnews j u hj) (by simp))
  have HO : Hid ((w.alloc (Obj.cells #[] 28)).ownsRow w.heap.size 28 7 (.slice (some ⟨w.heap.size, 0, none⟩) 0 0) 0 []) := hide ⟨rfl, Or.inr ⟨w.heap.size, 0, #[], rfl, Nat.le_refl _, heap_top _ _, Nat.le_refl _, by unfold maxLen; omega, rfl, rfl⟩⟩
  have b0 := (Below.refl _ w).alloc (Nat.le_refl _) (Obj.cells #[] 28)
  have B0 := hide b0
  have QN := fun (W : World) => Lib.run_eql_slice_nil W _ _ (some ad) m c 0 0 Try.underlying26
  simp only [Option.isNone_some] at QN
  clear hi hz0 hz1 hz2 hl h1 hb hnews b0
  go_enter Try.func57, Try.ntmps57
  go_wp2_with (at_builtin; refine wpList_append_own _ rfl _ _ 26 rfl w.heap.size 28 i0 _ 7 104 Try.underlying26 HI.out HZ0.out HZ1.out HZ2.out rfl (by decide) _ 0 [] rfl HO.out ad m c news rfl HL.out HN.out H1.out (by have := HB.out; unfold maxLen; omega) (by have := HB.out; omega) B0.out.size ?_; intro v8 w8 h8 g8 _; have O8 := hide h8; have B8 := hide (B0.out.grown g8 B0.out.size (fun k hk => by cases hk; exact Nat.le_refl _)); clear h8 g8)
  go_ret
  have := O8.out
  rw [Nat.zero_add, List.nil_append] at this
  exact ⟨⟨_, rfl, this⟩, B8.out⟩

/-! ### Rows of ranges and of strings, in new memory -/
theorem cloneR_new (v : Value) (l : List Rg) (w : World) (hv : RngsAt w v l) (hl : l.length * 16 ≤ 140737488355328) :
    Calls Try.prog 61 #[v] w fun r w' => (∃ p n c, r = .returned (.slice p n c) ∧ ∀ w'', Kept w.heap.size w' w'' → RngsAt w'' (.slice p n c) l) ∧ Below w.heap.size w w' := by
  have hi := hv.1
  obtain ⟨a, cap, rfl⟩ := hv.form
  have hr := hv.room
  cases a with
  | none =>
    obtain ⟨e1, e2⟩ := hr.2 rfl
    have e3 : l = [] := List.length_eq_zero_iff.1 e1
    subst e3
    simp only [List.length_nil] at *
    subst e2
    refine (cloneR_nil w).mono ?_
    rintro r w' ⟨rfl, rfl⟩
    exact ⟨⟨none, 0, 0, rfl, fun w'' _ => (ownR_none w'' 0).rngs (by intro r h; cases h) (by simp)⟩, Below.refl _ _⟩
  | some ad =>
    obtain ⟨_, _, ad', cap', e0, hel⟩ := hv
    simp at e0
    obtain ⟨e0, rfl⟩ := e0
    subst e0
    refine (cloneR_some ad l.length _ (rgCells l) w (rgCells_len l) ?_ (rgCells_one l) hl).mono ?_
    · intro j u hj
      have hjl : j < l.length * 2 := by
        have := (List.getElem?_eq_some_iff.1 hj).1
        rwa [rgCells_len] at this
      obtain ⟨b, off, e, _, c0, c1⟩ := hel (j / 2) (by omega)
      obtain ⟨a0, a1⟩ := rgCells_at l (j / 2) (by omega)
      simp at e
      subst e
      rw [Go.WideShapes.add_plain]
      rcases Nat.mod_two_eq_zero_or_one j with h | h
      · rw [show j = j / 2 * 2 by omega] at hj ⊢
        rw [← hj, a0]
        exact c0
      · rw [show j = j / 2 * 2 + 1 by omega] at hj ⊢
        rw [← hj, a1, ← Nat.add_assoc]
        exact c1
    · rintro r w' ⟨⟨v, rfl, ho⟩, hb⟩
      obtain ⟨p, c, rfl, _⟩ := ownsRow_form ho
      exact ⟨⟨p, l.length, c, rfl, fun w'' hk => OwnR.rngs (B := w.heap.size) (ownsRow_kept ho hk) hi (by omega)⟩, hb⟩
theorem strs_cells_at (l : List ByteArray) (i : Nat) (h : i < l.length) : (l.map Value.string)[i]? = some (.string (l.getD i ⟨#[]⟩)) := by
  rw [List.getElem?_map, List.getElem?_eq_getElem h, List.getD_eq_getElem?_getD, List.getElem?_eq_getElem h]
  rfl
theorem cloneS_new (v : Value) (l : List ByteArray) (w : World) (hv : StrsAt w v l) (hl : l.length * 16 ≤ 140737488355328) :
    Calls Try.prog 62 #[v] w fun r w' => (∃ p n c, r = .returned (.slice p n c) ∧ ∀ w'', Kept w.heap.size w' w'' → StrsAt w'' (.slice p n c) l) ∧ Below w.heap.size w w' := by
  have hi := hv.1
  obtain ⟨a, cap, rfl⟩ := hv.form
  have hr := hv.room
  cases a with
  | none =>
    obtain ⟨e1, e2⟩ := hr.2 rfl
    have e3 : l = [] := List.length_eq_zero_iff.1 e1
    subst e3
    simp only [List.length_nil] at *
    subst e2
    refine (cloneS_nil w).mono ?_
    rintro r w' ⟨rfl, rfl⟩
    exact ⟨⟨none, 0, 0, rfl, fun w'' _ => ⟨hi, hv.2.1, none, 0, rfl, fun i h => by simp at h⟩⟩, Below.refl _ _⟩
  | some ad =>
    have h2 := hv.2.1
    obtain ⟨_, _, ad', cap', e0, hel⟩ := hv
    simp at e0
    obtain ⟨e0, rfl⟩ := e0
    subst e0
    refine (cloneS_some ad l.length _ (l.map Value.string) w (by simp) ?_ (fun u hu => by obtain ⟨s, _, rfl⟩ := List.mem_map.1 hu; rfl) hl).mono ?_
    · intro j u hj
      have hjl : j < l.length := by
        have := (List.getElem?_eq_some_iff.1 hj).1
        simpa using this
      obtain ⟨b, off, e, _, c0⟩ := hel j hjl
      simp at e
      subst e
      rw [Go.WideShapes.add_plain, c0, ← hj, strs_cells_at l j hjl]
    · rintro r w' ⟨⟨v, rfl, ho⟩, hb⟩
      obtain ⟨p, c, rfl, _, _⟩ := ownsRow_form ho
      refine ⟨⟨p, l.length, c, rfl, fun w'' hk => ?_⟩, hb⟩
      have ho' := ownsRow_kept ho hk
      refine ⟨hi, h2, ?_⟩
      rcases ho'.2 with ⟨e, h0⟩ | ⟨g, cap, cur, e, _, hg, hc, _⟩
      · exact ⟨none, 0, by rw [e, h0]; rfl, fun i hi' => by omega⟩
      · obtain ⟨sp, hsp⟩ := capOf_of (a := some ⟨g, 0, none⟩) hc (fun e => by cases e)
        rw [e] at ho' ⊢
        refine ⟨_, sp, by rw [← hsp], fun i hi' => ⟨g, 0, rfl, lt_heap hg, ?_⟩⟩
        rw [Nat.zero_add]
        exact ownsRow_cell ho' i _ (strs_cells_at l i hi')
end Go.Proofs.Ytoplmioejebnnaa
