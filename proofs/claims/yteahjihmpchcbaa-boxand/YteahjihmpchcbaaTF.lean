/-
  Rows of strings of the call's own; slices.Grow and slices.Concat, of ranges and of strings.
-/
import Derived.Test.YteahjihmpchcbaaTB
import Derived.Test.YteahjihmpchcbaaM0
import Derived.Lib.AppendZeros
import Derived.Laws.AppendOwnNone
set_option linter.unusedSimpArgs false
set_option linter.unusedVariables false
namespace Go.Proofs.Yteahjihmpchcbaa
open Go.RowKit

/-! ### Rows of strings of the call's own -/
theorem strCells_one (l : List ByteArray) : ∀ u ∈ l.map Value.string, u.oneCell' = true := by
  intro u hu
  obtain ⟨s, _, rfl⟩ := List.mem_map.1 hu
  rfl
theorem infoSt : (Try.prog.info? 9).map (fun i => (i.zero, i.size, i.bytes)) = some (some (.string ⟨#[]⟩), 1, 16) := by kernel_rfl
/-- The slice value owns just these strings, from block B on. -/
def OwnS (w : World) (B : Nat) (v : Value) (l : List ByteArray) : Prop := w.ownsRow B 9 1 v l.length (l.map Value.string)
theorem OwnS.alloc {w : World} {B : Nat} {v : Value} {l : List ByteArray} (h : OwnS w B v l) (o : Obj) : OwnS (w.alloc o) B v l := World.ownsRow.alloc h o
theorem OwnS.drewN {w : World} {B : Nat} {v : Value} {l : List ByteArray} (h : OwnS w B v l) (n : Nat) : OwnS (w.drewN n) B v l := h
theorem OwnS.grownB {w w' : World} {B : Nat} {v : Value} {l : List ByteArray} (h : OwnS w B v l) (hB : B ≤ w.heap.size) (hg : w.grownBy w' v.ownBlock) : Below B w w' :=
  (Below.refl _ _).grown hg hB (fun k hk => (World.ownsRow.lt h k hk).1)
theorem OwnS.on {w w' : World} {B : Nat} {v : Value} {l : List ByteArray} (h : OwnS w B v l) (hb : Below w.heap.size w w') : OwnS w' B v l :=
  World.ownsRow.kept (row := none) h ⟨hb.os, hb.tape, hb.output, hb.size, fun k hk _ => hb.block k hk⟩ (by cases v.ownBlock <;> simp)
theorem ownS_none (w : World) (B : Nat) : OwnS w B (.slice none 0 0) [] := ⟨rfl, Or.inl ⟨rfl, rfl⟩⟩
theorem wpList_appS {ops : Array Oper} {rest : List Oper} {o : Oper} {a : Act} {Q : Exit → Act → World → Prop} (w : World) (hgd : o.guard = none) (s x : Operand)
    (ho : o.op = .call { callee := .builtin .append, args := #[s, x], argTypes := #[23, 23] })
    (B : Nat) (v : Value) (l : List ByteArray) (hs : a.eval s = v) (hown : OwnS w B v l) (g m c : Nat) (cs : Array Value) (news : List ByteArray) (hm : news.length = m)
    (hx : a.eval x = .slice (some ⟨g, 0, none⟩) m c) (hb : w.heap[g]? = some (.cells cs 9 (0, 0))) (hcs : cs.toList = news.map Value.string) (hlen : l.length + m ≤ 1000000) (hB : B ≤ w.heap.size)
    (h : ∀ v' w', OwnS w' B v' (l ++ news) → Below B w w' → wpList Try.prog ops Q rest (a.put o.dst v') w') : wpList Try.prog ops Q (o :: rest) a w := by
  obtain ⟨i0, hi, hz0, hz1, hz2⟩ := info_parts infoSt
  refine wpList_append_own w hgd s x 23 ho B 9 i0 _ 1 16 Try.underlying23 hi hz0 hz1 hz2 rfl (by decide) v l.length (l.map Value.string) hs hown ⟨g, 0, none⟩ m c (news.map Value.string) hx (by simp [hm]) ?_ (strCells_one _) (by unfold maxLen; omega) (by omega) hB ?_
  · rw [← hcs]; exact World.news_of_block hb
  · intro v' w' h1 h2 _
    refine h v' w' ?_ (OwnS.grownB hown hB h2)
    unfold OwnS
    rw [List.length_append, hm, List.map_append]
    exact h1
/-- A row of strings, wherever it lies, put behind one of the call's own. -/
theorem wpList_appRowS {ops : Array Oper} {rest : List Oper} {o : Oper} {a : Act} {Q : Exit → Act → World → Prop} (w : World) (hgd : o.guard = none) (s x : Operand)
    (ho : o.op = .call { callee := .builtin .append, args := #[s, x], argTypes := #[23, 23] })
    (B : Nat) (v u : Value) (l m : List ByteArray) (hs : a.eval s = v) (hown : OwnS w B v l) (hu : a.eval x = u) (hx : StrsAt w u m) (hlen : l.length + m.length ≤ 1000000) (hB : B ≤ w.heap.size)
    (h : ∀ v' w', OwnS w' B v' (l ++ m) → Below B w w' → wpList Try.prog ops Q rest (a.put o.dst v') w') : wpList Try.prog ops Q (o :: rest) a w := by
  obtain ⟨i0, hi, hz0, hz1, hz2⟩ := info_parts infoSt
  obtain ⟨_, _, ad, cap, rfl, hel⟩ := hx
  cases ad with
  | none =>
    have hm : m = [] := by
      cases m with
      | nil => rfl
      | cons r m =>
        obtain ⟨b, off, e, _⟩ := hel 0 (by simp)
        cases e
    subst hm
    refine wpList_append_own_none hgd s x 23 ho B 9 i0 1 Try.underlying23 hi v l.length (l.map Value.string) hs hown hu ?_
    refine h v w ?_ (Below.refl _ _)
    rw [List.append_nil]; exact hown
  | some ad =>
    refine wpList_append_own w hgd s x 23 ho B 9 i0 _ 1 16 Try.underlying23 hi hz0 hz1 hz2 rfl (by decide) v l.length (l.map Value.string) hs hown ad m.length _ (m.map Value.string) hu (by simp) ?_ (strCells_one _) (by unfold maxLen; omega) (by omega) hB ?_
    · intro j u hj
      have hjl : j < m.length := by
        have := (List.getElem?_eq_some_iff.1 hj).1
        simpa using this
      obtain ⟨b, off, e, _, c0⟩ := hel j hjl
      simp at e
      subst e
      rw [Go.WideShapes.add_plain, c0, ← hj, List.getElem?_map, List.getElem?_eq_getElem hjl, List.getD_eq_getElem?_getD, List.getElem?_eq_getElem hjl]
      rfl
    · intro v' w' h1 h2 _
      refine h v' w' ?_ (OwnS.grownB hown hB h2)
      unfold OwnS
      rw [List.length_append, List.map_append]
      exact h1
theorem OwnS.cellAt {w : World} {B g n cap : Nat} {l : List ByteArray} (h : OwnS w B (.slice (some ⟨g, 0, none⟩) n cap) l) (i : Nat) (hi : i < l.length) : w.cell? ⟨g, i, none⟩ = some (.string (l.getD i ⟨#[]⟩)) := by
  obtain ⟨hl, hr⟩ := h
  rcases hr with ⟨h0, _⟩ | ⟨g', cap', cur, h1, h2, h3, h4, h5, h6, h7⟩
  · cases h0
  · injection h1 with e1 e2 e3
    injection e1 with e1
    injection e1 with e1
    subst e1
    have hc : w.cell? ⟨g, i, none⟩ = (l.map Value.string)[i]? := by
      rw [cell_heap h3, ← h7, List.getElem?_take, if_pos (by omega)]
      simp
    rw [hc, List.getElem?_map, List.getElem?_eq_getElem hi, List.getD_eq_getElem?_getD, List.getElem?_eq_getElem hi]
    rfl
theorem OwnS.strs {w : World} {B : Nat} {v : Value} {l : List ByteArray} (h : OwnS w B v l) (hi : ∀ s ∈ l, s.size ≤ 9223372036854775807) (hl : l.length ≤ 9223372036854775807) : StrsAt w v l := by
  refine ⟨hi, hl, ?_⟩
  rcases h.2 with ⟨e, h0⟩ | ⟨g, cap, cur, e, _, hg, hc, _⟩
  · exact ⟨none, 0, by rw [e, h0]; rfl, fun i hi' => by omega⟩
  · obtain ⟨sp, hsp⟩ := capOf_of (a := some ⟨g, 0, none⟩) hc (fun e => by cases e)
    subst e
    refine ⟨_, sp, by rw [← hsp], fun i hi' => ⟨g, 0, rfl, lt_heap hg, ?_⟩⟩
    rw [Nat.zero_add]; exact h.cellAt i hi'
/-- A row of ranges put behind one of the call's own: nil ones have no room. -/
theorem rngs_nil {w : World} {u : Value} {m : List Rg} (h : RngsAt w u m) : ∀ n c, u = .slice none n c → u = .slice none 0 0 := by
  rintro n c rfl
  obtain ⟨h1, h2⟩ := h.room.2 rfl
  rw [h1, h2]

/-! ### slices.Grow, slices.Concat of ranges -/
theorem ownR_grown {w : World} {c : Nat} {cs : Array Value} (hc : c ≤ maxLen) (hs : cs.size = c * 2) : OwnR (w.drew.alloc (.cells cs 55)) w.heap.size (.slice (some ⟨w.heap.size, 0, none⟩) 0 c) [] := by
  refine ⟨rfl, Or.inr ⟨w.heap.size, c, cs, rfl, Nat.le_refl _, ?_, Nat.zero_le _, hc, hs, ?_⟩⟩
  · show (w.heap.push _)[w.heap.size]? = _
    simp
  · show List.take (0 * 2) _ = []
    rw [Nat.zero_mul]; rfl
set_option maxHeartbeats 2000000 in
set_option maxRecDepth 100000 in
theorem growR_any (n : Nat) (w : World) (hn : n ≤ 100000) :
    Calls Try.prog 48 #[.slice none 0 0, .int .i64 n] w fun r w' => (∃ u, r = .returned u ∧ OwnR w' w.heap.size u []) ∧ Below w.heap.size w w' := by
  rcases Nat.eq_zero_or_pos n with h0 | h0
  · subst h0
    go_enter Try.func48, Try.ntmps48
    go_wp2
    go_ret
    exact ⟨⟨_, rfl, ownR_none _ _⟩, Below.refl _ _⟩
  · obtain ⟨i0, hi, hz0, hz1, hz2⟩ := info_parts infoRg
    have A := hide (fun ty => Lib.run_append_nil_zeros (P := Try.prog) w 22 3 ty 55 i0 _ .i64 .i64 Try.underlying22 Try.underlying3 hi hz0 n h0 (by rw [hz1]; omega) (by omega) (by rw [hz2]; omega))
    have hc1 := grownCap_ge w n 0 55
    have hc2 := grownCap_le_maxLen w n 0 55 (by unfold maxLen; omega)
    generalize grownCap w n 0 55 = c at *
    have HC2 := hide hc2
    clear hi hz0 hz1 hz2 hc2
    go_enter Try.func48, Try.ntmps48
    go_wp2_with (at_builtin; refine Lib.wpList_append_run _ rfl _ _ _ _ rfl _ _ rfl rfl _ _ (A.out _) ?_)
    go_ret
    refine ⟨⟨_, rfl, ownR_grown HC2.out ?_⟩, ((Below.refl _ _).drew).alloc (Nat.le_refl _) _⟩
    rw [Array.size_append, size_zeroCells, size_zeroCells, ← Nat.add_mul, show n + (c - n) = c by omega]
    rfl
set_option maxHeartbeats 4000000 in
set_option maxRecDepth 100000 in
theorem concatR_any (g : Nat) (va vb : Value) (la lb : List Rg) (w : World) (hg : w.heap[g]? = some (.cells #[va, vb] 22 (0, 0))) (ha : RngsAt w va la) (hb : RngsAt w vb lb) (hl : la.length + lb.length ≤ 100000) :
    Calls Try.prog 30 #[.slice (some ⟨g, 0, none⟩) 2 2] w fun r w' => (∃ u, r = .returned u ∧ OwnR w' w.heap.size u (la ++ lb)) ∧ Below w.heap.size w w' := by
  have HA := hide ha
  have HB := hide hb
  have hlt := lt_heap hg
  have c0 := cell_heap hg 0
  have c1 := cell_heap hg 1
  simp only [List.getElem?_toArray, List.getElem?_cons_zero, List.getElem?_cons_succ] at c0 c1
  obtain ⟨pa, ca, rfl⟩ := ha.form
  obtain ⟨pb, cb, rfl⟩ := hb.form
  have HL := hide hl
  clear ha hb hg
  have GR := hide (growR_any (la.length + lb.length) w hl)
  obtain ⟨x, hx⟩ : ∃ x : Nat, x = la.length := ⟨_, rfl⟩
  obtain ⟨y, hy⟩ : ∃ y : Nat, y = lb.length := ⟨_, rfl⟩
  rw [← hx] at hl HL c0 HA GR
  rw [← hy] at hl HL c1 HB GR
  have HX := hide hx
  have HY := hide hy
  clear hx hy
  go_enter Try.func30, Try.ntmps30
  go_wp2
  go_loopw [3, 11] (fun s i wr => wr = w ∧ ((i = .int .i64 0 ∧ s = .int .i64 0) ∨ (i = .int .i64 1 ∧ s = .int .i64 (x : Int)) ∨ (i = .int .i64 2 ∧ s = .int .i64 ((x : Int) + (y : Int))))) (fun _ i _ => 2 - (intOf i).toNat)
  case atStart => exact ⟨rfl, Or.inl ⟨rfl, rfl⟩⟩
  case round =>
    obtain ⟨rfl, ⟨rfl, rfl⟩ | ⟨rfl, rfl⟩ | ⟨rfl, rfl⟩⟩ := hrel
    · go_wp2
      exact ⟨⟨trivial, Or.inr (Or.inl ⟨rfl, by first | rfl | simp⟩)⟩, by simp [intOf]⟩
    · go_wp2
      exact ⟨⟨trivial, Or.inr (Or.inr ⟨rfl, rfl⟩)⟩, by simp [intOf]⟩
    · rw [Int.natCast_add] at GR
      go_wp2_with fail
      refine (unhide GR).mono ?_
      rintro r w1 ⟨⟨u1, rfl, o1⟩, b1⟩
      have c0' := (b1.cell (p := ⟨g, 0, none⟩) hlt).trans c0
      have c1' := (b1.cell (p := ⟨g, 1, none⟩) hlt).trans c1
      have O1 := hide o1
      have B1 := hide b1
      clear GR o1 b1
      go_wp2
      go_loopw [6, 27] (fun o i wr' => Hid (Below wr.heap.size wr wr') ∧ ((i = .int .i64 0 ∧ Hid (OwnR wr' wr.heap.size o [])) ∨ (i = .int .i64 1 ∧ Hid (OwnR wr' wr.heap.size o la)) ∨ (i = .int .i64 2 ∧ Hid (OwnR wr' wr.heap.size o (la ++ lb))))) (fun _ i _ => 2 - (intOf i).toNat)
      case atStart => exact ⟨B1, Or.inl ⟨rfl, O1⟩⟩
      case round =>
        clear c0' c1' B1 O1
        obtain ⟨HW, ⟨rfl, HO⟩ | ⟨rfl, HO⟩ | ⟨rfl, HO⟩⟩ := hrel
        · have d0 := (HW.out.cell (p := ⟨g, 0, none⟩) hlt).trans c0
          have szW := HW.out.size
          have LE : Hid (([] : List Rg).length + la.length ≤ 1000000) := hide (by have := HX.out; have := HL.out; simp; omega)
          have VA := hide (HA.out.on HW.out)
          go_wp2_with (at_builtin; refine wpList_appRow _ rfl _ _ rfl _ _ _ _ la rfl HO.out rfl VA.out (rngs_nil VA.out) LE.out szW ?_; intro v8 w8 hO8 hb8; have O8 := hide hO8; have B8 := hide (HW.out.trans hb8); clear hO8 hb8)
          rw [List.nil_append] at O8
          exact ⟨⟨B8, Or.inr (Or.inl ⟨rfl, O8⟩)⟩, by simp [intOf]⟩
        · have d0 := (HW.out.cell (p := ⟨g, 1, none⟩) hlt).trans c1
          have szW := HW.out.size
          have LE : Hid (la.length + lb.length ≤ 1000000) := hide (by have := HX.out; have := HY.out; have := HL.out; omega)
          have VB := hide (HB.out.on HW.out)
          go_wp2_with (at_builtin; refine wpList_appRow _ rfl _ _ rfl _ _ _ _ lb rfl HO.out rfl VB.out (rngs_nil VB.out) LE.out szW ?_; intro v8 w8 hO8 hb8; have O8 := hide hO8; have B8 := hide (HW.out.trans hb8); clear hO8 hb8)
          exact ⟨⟨B8, Or.inr (Or.inr ⟨rfl, O8⟩)⟩, by simp [intOf]⟩
        · go_wp2
          go_ret
          exact ⟨⟨_, rfl, HO.out⟩, HW.out⟩

/-! ### slices.Grow, slices.Concat of strings -/
theorem ownS_grown {w : World} {c : Nat} {cs : Array Value} (hc : c ≤ maxLen) (hs : cs.size = c * 1) : OwnS (w.drew.alloc (.cells cs 9)) w.heap.size (.slice (some ⟨w.heap.size, 0, none⟩) 0 c) [] := by
  refine ⟨rfl, Or.inr ⟨w.heap.size, c, cs, rfl, Nat.le_refl _, ?_, Nat.zero_le _, hc, hs, ?_⟩⟩
  · show (w.heap.push _)[w.heap.size]? = _
    simp
  · show List.take (0 * 1) _ = []
    rw [Nat.zero_mul]; rfl
set_option maxHeartbeats 2000000 in
set_option maxRecDepth 100000 in
theorem growS_any (n : Nat) (w : World) (hn : n ≤ 100000) :
    Calls Try.prog 64 #[.slice none 0 0, .int .i64 n] w fun r w' => (∃ u, r = .returned u ∧ OwnS w' w.heap.size u []) ∧ Below w.heap.size w w' := by
  rcases Nat.eq_zero_or_pos n with h0 | h0
  · subst h0
    go_enter Try.func64, Try.ntmps64
    go_wp2
    go_ret
    exact ⟨⟨_, rfl, ownS_none _ _⟩, Below.refl _ _⟩
  · obtain ⟨i0, hi, hz0, hz1, hz2⟩ := info_parts infoSt
    have A := hide (fun ty => Lib.run_append_nil_zeros (P := Try.prog) w 23 3 ty 9 i0 _ .i64 .i64 Try.underlying23 Try.underlying3 hi hz0 n h0 (by rw [hz1]; omega) (by omega) (by rw [hz2]; omega))
    have hc1 := grownCap_ge w n 0 9
    have hc2 := grownCap_le_maxLen w n 0 9 (by unfold maxLen; omega)
    generalize grownCap w n 0 9 = c at *
    have HC2 := hide hc2
    clear hi hz0 hz1 hz2 hc2
    go_enter Try.func64, Try.ntmps64
    go_wp2_with (at_builtin; refine Lib.wpList_append_run _ rfl _ _ _ _ rfl _ _ rfl rfl _ _ (A.out _) ?_)
    go_ret
    refine ⟨⟨_, rfl, ownS_grown HC2.out ?_⟩, ((Below.refl _ _).drew).alloc (Nat.le_refl _) _⟩
    rw [Array.size_append, size_zeroCells, size_zeroCells, ← Nat.add_mul, show n + (c - n) = c by omega]
    rfl
set_option maxHeartbeats 4000000 in
set_option maxRecDepth 100000 in
theorem concatS_any (g : Nat) (va vb : Value) (la lb : List ByteArray) (w : World) (hg : w.heap[g]? = some (.cells #[va, vb] 23 (0, 0))) (ha : StrsAt w va la) (hb : StrsAt w vb lb) (hl : la.length + lb.length ≤ 100000) :
    Calls Try.prog 55 #[.slice (some ⟨g, 0, none⟩) 2 2] w fun r w' => (∃ u, r = .returned u ∧ OwnS w' w.heap.size u (la ++ lb)) ∧ Below w.heap.size w w' := by
  have HA := hide ha
  have HB := hide hb
  have hlt := lt_heap hg
  have c0 := cell_heap hg 0
  have c1 := cell_heap hg 1
  simp only [List.getElem?_toArray, List.getElem?_cons_zero, List.getElem?_cons_succ] at c0 c1
  obtain ⟨pa, ca, rfl⟩ := ha.form
  obtain ⟨pb, cb, rfl⟩ := hb.form
  have HL := hide hl
  clear ha hb hg
  have GR := hide (growS_any (la.length + lb.length) w hl)
  obtain ⟨x, hx⟩ : ∃ x : Nat, x = la.length := ⟨_, rfl⟩
  obtain ⟨y, hy⟩ : ∃ y : Nat, y = lb.length := ⟨_, rfl⟩
  rw [← hx] at hl HL c0 HA GR
  rw [← hy] at hl HL c1 HB GR
  have HX := hide hx
  have HY := hide hy
  clear hx hy
  go_enter Try.func55, Try.ntmps55
  go_wp2
  go_loopw [3, 11] (fun s i wr => wr = w ∧ ((i = .int .i64 0 ∧ s = .int .i64 0) ∨ (i = .int .i64 1 ∧ s = .int .i64 (x : Int)) ∨ (i = .int .i64 2 ∧ s = .int .i64 ((x : Int) + (y : Int))))) (fun _ i _ => 2 - (intOf i).toNat)
  case atStart => exact ⟨rfl, Or.inl ⟨rfl, rfl⟩⟩
  case round =>
    obtain ⟨rfl, ⟨rfl, rfl⟩ | ⟨rfl, rfl⟩ | ⟨rfl, rfl⟩⟩ := hrel
    · go_wp2
      exact ⟨⟨trivial, Or.inr (Or.inl ⟨rfl, by first | rfl | simp⟩)⟩, by simp [intOf]⟩
    · go_wp2
      exact ⟨⟨trivial, Or.inr (Or.inr ⟨rfl, rfl⟩)⟩, by simp [intOf]⟩
    · rw [Int.natCast_add] at GR
      go_wp2_with fail
      refine (unhide GR).mono ?_
      rintro r w1 ⟨⟨u1, rfl, o1⟩, b1⟩
      have c0' := (b1.cell (p := ⟨g, 0, none⟩) hlt).trans c0
      have c1' := (b1.cell (p := ⟨g, 1, none⟩) hlt).trans c1
      have O1 := hide o1
      have B1 := hide b1
      clear GR o1 b1
      go_wp2
      go_loopw [6, 27] (fun o i wr' => Hid (Below wr.heap.size wr wr') ∧ ((i = .int .i64 0 ∧ Hid (OwnS wr' wr.heap.size o [])) ∨ (i = .int .i64 1 ∧ Hid (OwnS wr' wr.heap.size o la)) ∨ (i = .int .i64 2 ∧ Hid (OwnS wr' wr.heap.size o (la ++ lb))))) (fun _ i _ => 2 - (intOf i).toNat)
      case atStart => exact ⟨B1, Or.inl ⟨rfl, O1⟩⟩
      case round =>
        clear c0' c1' B1 O1
        obtain ⟨HW, ⟨rfl, HO⟩ | ⟨rfl, HO⟩ | ⟨rfl, HO⟩⟩ := hrel
        · have d0 := (HW.out.cell (p := ⟨g, 0, none⟩) hlt).trans c0
          have szW := HW.out.size
          have LE : Hid (([] : List ByteArray).length + la.length ≤ 1000000) := hide (by have := HX.out; have := HL.out; simp; omega)
          have VA := hide (HA.out.on HW.out)
          go_wp2_with (at_builtin; refine wpList_appRowS _ rfl _ _ rfl _ _ _ _ la rfl HO.out rfl VA.out LE.out szW ?_; intro v8 w8 hO8 hb8; have O8 := hide hO8; have B8 := hide (HW.out.trans hb8); clear hO8 hb8)
          rw [List.nil_append] at O8
          exact ⟨⟨B8, Or.inr (Or.inl ⟨rfl, O8⟩)⟩, by simp [intOf]⟩
        · have d0 := (HW.out.cell (p := ⟨g, 1, none⟩) hlt).trans c1
          have szW := HW.out.size
          have LE : Hid (la.length + lb.length ≤ 1000000) := hide (by have := HX.out; have := HY.out; have := HL.out; omega)
          have VB := hide (HB.out.on HW.out)
          go_wp2_with (at_builtin; refine wpList_appRowS _ rfl _ _ rfl _ _ _ _ lb rfl HO.out rfl VB.out LE.out szW ?_; intro v8 w8 hO8 hb8; have O8 := hide hO8; have B8 := hide (HW.out.trans hb8); clear hO8 hb8)
          exact ⟨⟨B8, Or.inr (Or.inr ⟨rfl, O8⟩)⟩, by simp [intOf]⟩
        · go_wp2
          go_ret
          exact ⟨⟨_, rfl, HO.out⟩, HW.out⟩
end Go.Proofs.Yteahjihmpchcbaa
