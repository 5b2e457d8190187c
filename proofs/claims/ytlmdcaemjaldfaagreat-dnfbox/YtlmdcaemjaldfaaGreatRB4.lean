import Derived.Test.YtlmdcaemjaldfaaGreatRB3
import Derived.Test.YtlmdcaemjaldfaaGreatRB1
import Derived.Lib.AppendZeros
import Derived.Laws.AppendOwnNone
import Derived.Shelf.Sort.Plain
import Derived.Shelf.Slices.Clone
import Derived.Shelf.Slices.CompactS
import Derived.Shelf.Slices.In.SortNone
import Derived.Test.YtlmdcaemjaldfaaGreatProg
import Derived.Sort.OwnSorted
import Derived.Lib.OwnBridge
import Derived.Deep.RegionHeld3
import Derived.Test.YtlmdcaemjaldfaaGreatRB2
import Derived.Lib.MinMax
import Derived.Lib.QuietBelow
set_option linter.unusedSimpArgs false
set_option linter.unusedVariables false
namespace Go.Proofs.YtlmdcaemjaldfaaGreat
open Go.RowKit
theorem strCells_one (l : List ByteArray) : ∀ u ∈ l.map Value.string, u.oneCell' = true := by
 intro u hu;obtain ⟨s, _, rfl⟩ := List.mem_map.1 hu
 rfl
theorem infoSt : (Tryz.prog.info? 9).map (fun i => (i.zero, i.size, i.bytes)) = some (some (.string ⟨#[]⟩), 1, 16) := by kernel_rfl
def OwnS (w : World) (B : Nat) (v : Value) (l : List ByteArray) : Prop := w.ownsRow B 9 1 v l.length (l.map Value.string)
theorem OwnS.alloc {w : World} {B : Nat} {v : Value} {l : List ByteArray} (h : OwnS w B v l) (o : Obj) : OwnS (w.alloc o) B v l := World.ownsRow.alloc h o
theorem OwnS.grownB {w w' : World} {B : Nat} {v : Value} {l : List ByteArray} (h : OwnS w B v l) (hB : B ≤ w.heap.size) (hg : w.grownBy w' v.ownBlock) : Below B w w' :=
 (Below.refl _ _).grown hg hB (fun k hk => (World.ownsRow.lt h k hk).1)
theorem OwnS.on {w w' : World} {B : Nat} {v : Value} {l : List ByteArray} (h : OwnS w B v l) (hb : Below w.heap.size w w') : OwnS w' B v l :=
 World.ownsRow.kept (row := none) h ⟨hb.os, hb.tape, hb.output, hb.size, fun k hk _ => hb.block k hk⟩ (by cases v.ownBlock <;> simp)
theorem ownS_none (w : World) (B : Nat) : OwnS w B (.slice none 0 0) [] := ⟨rfl, Or.inl ⟨rfl, rfl⟩⟩
theorem wpList_appS {ops : Array Oper} {rest : List Oper} {o : Oper} {a : Act} {Q : Exit → Act → World → Prop} (w : World) (hgd : o.guard = none) (s x : Operand)
  (ho : o.op = .call { callee := .builtin .append, args := #[s, x], argTypes := #[23, 23] })
  (B : Nat) (v : Value) (l : List ByteArray) (hs : a.eval s = v) (hown : OwnS w B v l) (g m c : Nat) (cs : Array Value) (news : List ByteArray) (hm : news.length = m)
  (hx : a.eval x = .slice (some ⟨g, 0, none⟩) m c) (hb : w.heap[g]? = some (.cells cs 9 (0, 0))) (hcs : cs.toList = news.map Value.string) (hlen : l.length + m ≤ 1000000) (hB : B ≤ w.heap.size)
  (h : ∀ v' w', OwnS w' B v' (l ++ news) → Below B w w' → wpList Tryz.prog ops Q rest (a.put o.dst v') w') : wpList Tryz.prog ops Q (o :: rest) a w := by
 obtain ⟨i0, hi, hz0, hz1, hz2⟩ := info_parts infoSt;refine wpList_append_own w hgd s x 23 ho B 9 i0 _ 1 16 Tryz.underlying23 hi hz0 hz1 hz2 rfl (by decide) v l.length (l.map Value.string) hs hown ⟨g, 0, none⟩ m c (news.map Value.string) hx (by simp [hm]) ?_ (strCells_one _) (by unfold maxLen; omega) (by omega) hB ?_
 ·rw [← hcs]; exact World.news_of_block hb
 ·intro v' w' h1 h2 _;refine h v' w' ?_ (OwnS.grownB hown hB h2);unfold OwnS;rw [List.length_append, hm, List.map_append];exact h1
theorem wpList_appRowS {ops : Array Oper} {rest : List Oper} {o : Oper} {a : Act} {Q : Exit → Act → World → Prop} (w : World) (hgd : o.guard = none) (s x : Operand)
  (ho : o.op = .call { callee := .builtin .append, args := #[s, x], argTypes := #[23, 23] })
  (B : Nat) (v u : Value) (l m : List ByteArray) (hs : a.eval s = v) (hown : OwnS w B v l) (hu : a.eval x = u) (hx : StrsAt w u m) (hlen : l.length + m.length ≤ 1000000) (hB : B ≤ w.heap.size)
  (h : ∀ v' w', OwnS w' B v' (l ++ m) → Below B w w' → wpList Tryz.prog ops Q rest (a.put o.dst v') w') : wpList Tryz.prog ops Q (o :: rest) a w := by
 obtain ⟨i0, hi, hz0, hz1, hz2⟩ := info_parts infoSt;obtain ⟨_, _, ad, cap, rfl, hel⟩ := hx;cases ad with
 | none =>
  have hm : m = [] := by
   cases m with
   | nil => rfl
   | cons r m =>
    obtain ⟨b, off, e, _⟩ := hel 0 (by simp);cases e
  subst hm;refine wpList_append_own_none hgd s x 23 ho B 9 i0 1 Tryz.underlying23 hi v l.length (l.map Value.string) hs hown hu ?_;refine h v w ?_ (Below.refl _ _);rw [List.append_nil]; exact hown
 | some ad =>
  refine wpList_append_own w hgd s x 23 ho B 9 i0 _ 1 16 Tryz.underlying23 hi hz0 hz1 hz2 rfl (by decide) v l.length (l.map Value.string) hs hown ad m.length _ (m.map Value.string) hu (by simp) ?_ (strCells_one _) (by unfold maxLen; omega) (by omega) hB ?_
  ·intro j u hj;have hjl : j < m.length := by
    have := (List.getElem?_eq_some_iff.1 hj).1
    simpa using this
   obtain ⟨b, off, e, _, c0⟩ := hel j hjl
   simp at e
   subst e;rw [Go.WideShapes.add_plain, c0, ← hj, List.getElem?_map, List.getElem?_eq_getElem hjl, List.getD_eq_getElem?_getD, List.getElem?_eq_getElem hjl]
   rfl
  ·intro v' w' h1 h2 _;refine h v' w' ?_ (OwnS.grownB hown hB h2);unfold OwnS;rw [List.length_append, List.map_append];exact h1
theorem OwnS.cellAt {w : World} {B g n cap : Nat} {l : List ByteArray} (h : OwnS w B (.slice (some ⟨g, 0, none⟩) n cap) l) (i : Nat) (hi : i < l.length) : w.cell? ⟨g, i, none⟩ = some (.string (l.getD i ⟨#[]⟩)) := by
 obtain ⟨hl, hr⟩ := h;rcases hr with ⟨h0, _⟩ | ⟨g', cap', cur, h1, h2, h3, h4, h5, h6, h7⟩
 ·cases h0
 ·injection h1 with e1 e2 e3
  injection e1 with e1
  injection e1 with e1
  subst e1;have hc : w.cell? ⟨g, i, none⟩ = (l.map Value.string)[i]? := by
   rw [cell_heap h3, ← h7, List.getElem?_take, if_pos (by omega)]
   simp
  rw [hc, List.getElem?_map, List.getElem?_eq_getElem hi, List.getD_eq_getElem?_getD, List.getElem?_eq_getElem hi]
  rfl
theorem OwnS.strs {w : World} {B : Nat} {v : Value} {l : List ByteArray} (h : OwnS w B v l) (hi : ∀ s ∈ l, s.size ≤ 9223372036854775807) (hl : l.length ≤ 9223372036854775807) : StrsAt w v l := by
 refine ⟨hi, hl, ?_⟩;rcases h.2 with ⟨e, h0⟩ | ⟨g, cap, cur, e, _, hg, hc, _⟩
 ·exact ⟨none, 0, by rw [e, h0]; rfl, fun i hi' => by omega⟩
 ·obtain ⟨sp, hsp⟩ := capOf_of (a := some ⟨g, 0, none⟩) hc (fun e => by cases e);subst e;refine ⟨_, sp, by rw [← hsp], fun i hi' => ⟨g, 0, rfl, lt_heap hg, ?_⟩⟩;rw [Nat.zero_add]; exact h.cellAt i hi'
theorem rngs_nil {w : World} {u : Value} {m : List Rg} (h : RngsAt w u m) : ∀ n c, u = .slice none n c → u = .slice none 0 0 := by
 rintro n c rfl;obtain ⟨h1, h2⟩ := h.room.2 rfl;rw [h1, h2]
theorem ownS_grown {w : World} {c : Nat} {cs : Array Value} (hc : c ≤ maxLen) (hs : cs.size = c * 1) : OwnS (w.drew.alloc (.cells cs 9)) w.heap.size (.slice (some ⟨w.heap.size, 0, none⟩) 0 c) [] := by
 refine ⟨rfl, Or.inr ⟨w.heap.size, c, cs, rfl, Nat.le_refl _, ?_, Nat.zero_le _, hc, hs, ?_⟩⟩
 ·show (w.heap.push _)[w.heap.size]? = _
  simp
 ·show List.take (0 * 1) _ = [];rw [Nat.zero_mul]; rfl
set_option maxHeartbeats 2000000 in
set_option maxRecDepth 100000 in
theorem growS_any (n : Nat) (w : World) (hn : n ≤ 100000) :
  Calls Tryz.prog 185 #[.slice none 0 0, .int .i64 n] w fun r w' => (∃ u, r = .returned u ∧ OwnS w' w.heap.size u []) ∧ Below w.heap.size w w' := by
 rcases Nat.eq_zero_or_pos n with h0 | h0
 ·subst h0;go_enter Tryz.func185, Tryz.ntmps185
  go_wp2
  go_ret
  exact ⟨⟨_, rfl, ownS_none _ _⟩, Below.refl _ _⟩
 ·obtain ⟨i0, hi, hz0, hz1, hz2⟩ := info_parts infoSt;have A := hide (fun ty => Lib.run_append_nil_zeros (P := Tryz.prog) w 23 3 ty 9 i0 _ .i64 .i64 Tryz.underlying23 Tryz.underlying3 hi hz0 n h0 (by rw [hz1]; omega) (by omega) (by rw [hz2]; omega));have hc1 := grownCap_ge w n 0 9;have hc2 := grownCap_le_maxLen w n 0 9 (by unfold maxLen; omega);generalize grownCap w n 0 9 = c at *;have HC2 := hide hc2;clear hi hz0 hz1 hz2 hc2;go_enter Tryz.func185, Tryz.ntmps185
  go_wp2_with (at_builtin; refine Lib.wpList_append_run _ rfl _ _ _ _ rfl _ _ rfl rfl _ _ (A.out _) ?_)
  go_ret
  refine ⟨⟨_, rfl, ownS_grown HC2.out ?_⟩, ((Below.refl _ _).drew).alloc (Nat.le_refl _) _⟩;rw [Array.size_append, size_zeroCells, size_zeroCells, ← Nat.add_mul, show n + (c - n) = c by omega]
  rfl
set_option maxHeartbeats 4000000 in
set_option maxRecDepth 100000 in
theorem concatS_any (g : Nat) (va vb : Value) (la lb : List ByteArray) (w : World) (hg : w.heap[g]? = some (.cells #[va, vb] 23 (0, 0))) (ha : StrsAt w va la) (hb : StrsAt w vb lb) (hl : la.length + lb.length ≤ 100000) :
  Calls Tryz.prog 181 #[.slice (some ⟨g, 0, none⟩) 2 2] w fun r w' => (∃ u, r = .returned u ∧ OwnS w' w.heap.size u (la ++ lb)) ∧ Below w.heap.size w w' := by
 have HA := hide ha;have HB := hide hb;have hlt := lt_heap hg;have c0 := cell_heap hg 0;have c1 := cell_heap hg 1;simp only [List.getElem?_toArray, List.getElem?_cons_zero, List.getElem?_cons_succ] at c0 c1;obtain ⟨pa, ca, rfl⟩ := ha.form;obtain ⟨pb, cb, rfl⟩ := hb.form;have HL := hide hl;clear ha hb hg;have GR := hide (growS_any (la.length + lb.length) w hl);obtain ⟨x, hx⟩ : ∃ x : Nat, x = la.length := ⟨_, rfl⟩
 obtain ⟨y, hy⟩ : ∃ y : Nat, y = lb.length := ⟨_, rfl⟩
 rw [← hx] at hl HL c0 HA GR;rw [← hy] at hl HL c1 HB GR;have HX := hide hx;have HY := hide hy;clear hx hy;go_enter Tryz.func181, Tryz.ntmps181
 go_wp2
 go_loopw [3, 11] (fun s i wr => wr = w ∧ ((i = .int .i64 0 ∧ s = .int .i64 0) ∨ (i = .int .i64 1 ∧ s = .int .i64 (x : Int)) ∨ (i = .int .i64 2 ∧ s = .int .i64 ((x : Int) + (y : Int))))) (fun _ i _ => 2 - (intOf i).toNat)
 case atStart => exact ⟨rfl, Or.inl ⟨rfl, rfl⟩⟩
 case round =>
  obtain ⟨rfl, ⟨rfl, rfl⟩ | ⟨rfl, rfl⟩ | ⟨rfl, rfl⟩⟩ := hrel
  ·go_wp2
   exact ⟨⟨trivial, Or.inr (Or.inl ⟨rfl, by first | rfl | simp⟩)⟩, by simp [intOf]⟩
  ·go_wp2
   exact ⟨⟨trivial, Or.inr (Or.inr ⟨rfl, rfl⟩)⟩, by simp [intOf]⟩
  ·rw [Int.natCast_add] at GR
   go_wp2_with fail
   refine (unhide GR).mono ?_;rintro r w1 ⟨⟨u1, rfl, o1⟩, b1⟩;have c0' := (b1.cell (p := ⟨g, 0, none⟩) hlt).trans c0;have c1' := (b1.cell (p := ⟨g, 1, none⟩) hlt).trans c1;have O1 := hide o1;have B1 := hide b1;clear GR o1 b1
   go_wp2
   go_loopw [6, 27] (fun o i wr' => Hid (Below wr.heap.size wr wr') ∧ ((i = .int .i64 0 ∧ Hid (OwnS wr' wr.heap.size o [])) ∨ (i = .int .i64 1 ∧ Hid (OwnS wr' wr.heap.size o la)) ∨ (i = .int .i64 2 ∧ Hid (OwnS wr' wr.heap.size o (la ++ lb))))) (fun _ i _ => 2 - (intOf i).toNat)
   case atStart => exact ⟨B1, Or.inl ⟨rfl, O1⟩⟩
   case round =>
    clear c0' c1' B1 O1;obtain ⟨HW, ⟨rfl, HO⟩ | ⟨rfl, HO⟩ | ⟨rfl, HO⟩⟩ := hrel
    ·have d0 := (HW.out.cell (p := ⟨g, 0, none⟩) hlt).trans c0;have szW := HW.out.size;have LE : Hid (([] : List ByteArray).length + la.length ≤ 1000000) := hide (by have := HX.out; have := HL.out; simp; omega);have VA := hide (HA.out.on HW.out)
     go_wp2_with (at_builtin; refine wpList_appRowS _ rfl _ _ rfl _ _ _ _ la rfl HO.out rfl VA.out LE.out szW ?_; intro v8 w8 hO8 hb8; have O8 := hide hO8; have B8 := hide (HW.out.trans hb8); clear hO8 hb8)
     rw [List.nil_append] at O8;exact ⟨⟨B8, Or.inr (Or.inl ⟨rfl, O8⟩)⟩, by simp [intOf]⟩
    ·have d0 := (HW.out.cell (p := ⟨g, 1, none⟩) hlt).trans c1;have szW := HW.out.size;have LE : Hid (la.length + lb.length ≤ 1000000) := hide (by have := HX.out; have := HY.out; have := HL.out; omega);have VB := hide (HB.out.on HW.out)
     go_wp2_with (at_builtin; refine wpList_appRowS _ rfl _ _ rfl _ _ _ _ lb rfl HO.out rfl VB.out LE.out szW ?_; intro v8 w8 hO8 hb8; have O8 := hide hO8; have B8 := hide (HW.out.trans hb8); clear hO8 hb8)
     exact ⟨⟨B8, Or.inr (Or.inr ⟨rfl, O8⟩)⟩, by simp [intOf]⟩
    ·go_wp2
     go_ret
     exact ⟨⟨_, rfl, HO.out⟩, HW.out⟩
end Go.Proofs.YtlmdcaemjaldfaaGreat
namespace Go.Proofs.YtlmdcaemjaldfaaGreat
open Go.RowKit
set_option maxHeartbeats 400000 in
theorem nanC_any (s : ByteArray) (w : World) : Calls Tryz.prog 179 #[.string s] w fun e w' => e = .returned (.bool false) ∧ w' = w := by
 have h : (s.toList != s.toList) = false := by simp
 go_enter Tryz.func179, Tryz.ntmps179
 go_wp2
 go_ret
 exact ⟨ret_bool (by simp), rfl⟩
set_option maxHeartbeats 400000 in
theorem nanS_any (s : ByteArray) (w : World) : Calls Tryz.prog 175 #[.string s] w fun e w' => e = .returned (.bool false) ∧ w' = w := by
 have h : (s.toList != s.toList) = false := by simp
 go_enter Tryz.func175, Tryz.ntmps175
 go_wp2
 go_ret
 exact ⟨ret_bool (by simp), rfl⟩
set_option maxHeartbeats 400000 in
theorem lessC_any (a b : ByteArray) (w : World) : Calls Tryz.prog 174 #[.string a, .string b] w fun e w' => e = .returned (.bool (Op.bytesLess a.toList b.toList)) ∧ w' = w := by
 have X := hide (nanC_any a w);go_enter Tryz.func174, Tryz.ntmps174
 go_wp2_with fail
 refine (unhide X).mono ?_;rintro r w1 ⟨rfl, rfl⟩
 go_wp2
 go_ret
 exact ⟨rfl, rfl⟩
theorem risesS_at : ∀ (l : List St) (i j : Nat), risesS l → i < j → j < l.length → Op.bytesLess (l.getD i []) (l.getD j []) = true
 | [], i, j, _, _, h => by simp at h
 | a :: l, 0, 0, _, h, _ => by omega
 | a :: l, 0, j + 1, h, _, hj => by
  have hj' : j < l.length := by simpa using hj
  simp only [List.getD_cons_zero, List.getD_cons_succ];refine h.1 _ ?_;rw [List.getD_eq_getElem?_getD, List.getElem?_eq_getElem hj'];exact List.getElem_mem _
 | a :: l, i + 1, 0, _, h, _ => by omega
 | a :: l, i + 1, j + 1, h, hij, hj => by
  simp only [List.getD_cons_succ];exact risesS_at l i j h.2 (by omega) (by simpa using hj)
theorem getD_map_toList (l : List ByteArray) (i : Nat) (hi : i < l.length) : (l.map fun b => b.toList).getD i [] = (l.getD i ⟨#[]⟩).toList := by
 simp [List.getD_eq_getElem?_getD, hi]
structure Sought (l : List ByteArray) (s : ByteArray) (i j : Nat) : Prop where
 le : i ≤ j
 top : j ≤ l.length
 low : ∀ k, k < i → Op.bytesLess (l.getD k ⟨#[]⟩).toList s.toList = true
 high : ∀ k, j ≤ k → k < l.length → Op.bytesLess (l.getD k ⟨#[]⟩).toList s.toList = false
theorem sought_start (l : List ByteArray) (s : ByteArray) : Sought l s 0 l.length := ⟨Nat.zero_le _, Nat.le_refl _, fun k h => by omega, fun k h1 h2 => by omega⟩
theorem rises_lt {l : List ByteArray} (h : risesS (l.map fun b => b.toList)) {i j : Nat} (hij : i < j) (hj : j < l.length) : Op.bytesLess (l.getD i ⟨#[]⟩).toList (l.getD j ⟨#[]⟩).toList = true := by
 have := risesS_at _ i j h hij (by simpa using hj)
 rwa [getD_map_toList l i (by omega), getD_map_toList l j hj] at this
theorem sought_low {l : List ByteArray} {s : ByteArray} {i j h : Nat} (hr : risesS (l.map fun b => b.toList)) (hS : Sought l s i j) (h1 : i ≤ h) (h2 : h < j) (hl : Op.bytesLess (l.getD h ⟨#[]⟩).toList s.toList = true) : Sought l s (h + 1) j := by
 refine ⟨by omega, hS.top, fun k hk => ?_, hS.high⟩;by_cases e : k = h
 ·rw [e]; exact hl
 ·exact lessB_trans _ _ _ (rises_lt hr (show k < h by omega) (by have := hS.top; omega)) hl
theorem sought_high {l : List ByteArray} {s : ByteArray} {i j h : Nat} (hr : risesS (l.map fun b => b.toList)) (hS : Sought l s i j) (h1 : i ≤ h) (h2 : h < j) (hl : Op.bytesLess (l.getD h ⟨#[]⟩).toList s.toList = false) : Sought l s i h := by
 refine ⟨h1, by have := hS.top; omega, hS.low, fun k hk1 hk2 => ?_⟩;by_cases e : k = h
 ·rw [e]; exact hl
 ·cases hx : Op.bytesLess (l.getD k ⟨#[]⟩).toList s.toList
  ·rfl
  ·have := lessB_trans _ _ _ (rises_lt hr (show h < k by omega) hk2) hx;rw [hl] at this;cases this
theorem sought_end {l : List ByteArray} {s : ByteArray} {i : Nat} (hr : risesS (l.map fun b => b.toList)) (hS : Sought l s i i) : inStrsB l s = (decide (i < l.length) && ((l.getD i ⟨#[]⟩).toList == s.toList)) := by
 apply bool_of_iff
 rw [inStrs_iff, Bool.and_eq_true, decide_eq_true_iff, bytes_eq]
 constructor
 ·intro hm;obtain ⟨k, hk, e⟩ := List.getElem_of_mem hm;have e' : l.getD k ⟨#[]⟩ = s := by rw [List.getD_eq_getElem?_getD, List.getElem?_eq_getElem hk]; exact e
  have h1 : i ≤ k := Classical.byContradiction fun hn => by
   have := hS.low k (by omega);rw [e', lessB_irrefl] at this;cases this
  have h2 : ¬ i < k := fun hn => by
   have h3 := rises_lt hr hn hk;rw [e', hS.high i (Nat.le_refl _) (by omega)] at h3;cases h3
  have : i = k := by omega
  subst this;exact ⟨hk, e'⟩
 ·rintro ⟨h1, h2⟩;rw [← h2, List.getD_eq_getElem?_getD, List.getElem?_eq_getElem h1];exact List.getElem_mem _
set_option maxHeartbeats 2000000 in
set_option maxRecDepth 100000 in
theorem search_any (v : Value) (l : List ByteArray) (s : ByteArray) (w : World) (hv : StrsAt w v l) (hr : risesS (l.map fun b => b.toList)) (hn : l.length ≤ 100000) :
  Calls Tryz.prog 163 #[v, .string s] w fun r w' => (∃ i, r = .returned (.tuple #[.int .i64 i, .bool (inStrsB l s)])) ∧ w' = w := by
 have HV := hide hv;have HR := hide hr;have hlen := hv.2.1;obtain ⟨a, cap, rfl⟩ := hv.form;clear hv hr;have HS0 := hide (sought_start l s);obtain ⟨N, hN⟩ : ∃ N : Nat, N = l.length := ⟨_, rfl⟩
 rw [← hN] at hlen hn HV HS0 ⊢;have HN := hide hN;clear hN;have LS := fun (a : ByteArray) => hide (lessC_any a s w)
 have NS := fun (a : ByteArray) => hide (nanS_any a w)
 go_enter Tryz.func163, Tryz.ntmps163
 go_wp2
 go_loopw [7, 8] (fun iv jv wr => ∃ (i j : Nat), iv = .int .i64 i ∧ jv = .int .i64 j ∧ i ≤ j ∧ j ≤ N ∧ wr = w ∧ Hid (Sought l s i j)) (fun iv jv _ => (intOf jv).toNat - (intOf iv).toNat)
 case atStart => exact ⟨0, N, rfl, rfl, by omega, by omega, rfl, HS0⟩
 case round =>
  obtain ⟨i, j, rfl, rfl, hij, hj, rfl, HS⟩ := hrel;by_cases hlt : i < j
  ·have hw1 : IntKind.i64.wrap ((i : Int) + (j : Int)) = (i : Int) + (j : Int) := by rw [IntKind.wrap_i64]; omega
   obtain ⟨b, off, ha, hb, c0⟩ := HV.out.at.2 ((i + j) / 2) (by rw [← HN.out]; omega);subst ha;have SL := hide (fun h => sought_low HR.out HS.out (h := (i + j) / 2) (by omega) (by omega) h);have SH := hide (fun h => sought_high HR.out HS.out (h := (i + j) / 2) (by omega) (by omega) h);generalize l.getD ((i + j) / 2) ⟨#[]⟩ = q at c0 SL SH;have X := LS q;clear LS NS HS0 HS;cases hq : Op.bytesLess q.toList s.toList
   ·rw [hq] at X
    go_wp2_with fail
    refine (unhide X).mono ?_;rintro r w2 ⟨rfl, rfl⟩
    go_wp2
    exact ⟨⟨i, (i + j) / 2, rfl, by simp, by omega, by omega, trivial, hide (SH.out hq)⟩, by simp [intOf]; omega⟩
   ·rw [hq] at X
    go_wp2_with fail
    refine (unhide X).mono ?_;rintro r w2 ⟨rfl, rfl⟩
    go_wp2
    exact ⟨⟨(i + j) / 2 + 1, j, by simp, rfl, by omega, by omega, trivial, hide (SL.out hq)⟩, by simp [intOf]; omega⟩
  ·have hij' : i = j := by omega
   subst hij';have E := hide (sought_end HR.out HS.out);rw [← HN.out] at E;clear LS HS0 HS hlt hij;by_cases hiN : i < N
   ·obtain ⟨b, off, ha, hb, c0⟩ := HV.out.at.2 i (by rw [← HN.out]; omega);subst ha;generalize l.getD i ⟨#[]⟩ = q at c0 E;have X := NS q;cases hq : (q.toList == s.toList)
    ·have E1 : Hid (inStrsB l s = false) := hide (by rw [E.out, hq]; simp)
     go_wp2_with fail
     refine (unhide X).mono ?_;rintro r w2 ⟨rfl, rfl⟩
     go_wp2
     go_ret2
     exact ⟨⟨i, by rw [E1.out]; rfl⟩, rfl⟩
    ·have E1 : Hid (inStrsB l s = true) := hide (by rw [E.out, hq, decide_eq_true hiN]; rfl)
     go_wp2
     go_ret2
     exact ⟨⟨i, by rw [E1.out]; rfl⟩, rfl⟩
   ·have E1 : Hid (inStrsB l s = false) := hide (by rw [E.out, decide_eq_false hiN]; rfl);have hge : (N : Int) ≤ (i : Int) := by omega
    go_wp2
    go_ret2
    exact ⟨⟨i, by rw [E1.out]; rfl⟩, rfl⟩
set_option maxHeartbeats 400000 in
theorem hasString_any (v : Value) (l : List ByteArray) (s : ByteArray) (w : World) (hv : StrsAt w v l) (hr : risesS (l.map fun b => b.toList)) (hn : l.length ≤ 100000) :
  Calls Tryz.prog 143 #[v, .string s] w fun r w' => r = .returned (.bool (inStrsB l s)) ∧ w' = w := by
 have X := hide (search_any v l s w hv hr hn);obtain ⟨a, cap, rfl⟩ := hv.form;clear hv hr hn;generalize inStrsB l s = IB at *;generalize l.length = N at *;go_enter Tryz.func143, Tryz.ntmps143
 go_wp2_with fail
 refine (unhide X).mono ?_;rintro r w1 ⟨⟨i, rfl⟩, rfl⟩
 go_wp2
 go_ret
 exact ⟨rfl, rfl⟩
end Go.Proofs.YtlmdcaemjaldfaaGreat
namespace Go.Proofs.YtlmdcaemjaldfaaGreat
open Go.RowKit
theorem filter_take_succ {l : List ByteArray} {p : ByteArray → Bool} {k : Nat} (h : k < l.length) : (l.take (k + 1)).filter p = (l.take k).filter p ++ (if p (l.getD k ⟨#[]⟩) then [l.getD k ⟨#[]⟩] else []) := by
 rw [List.take_add_one, List.filter_append, List.getD_eq_getElem?_getD, List.getElem?_eq_getElem h];simp only [Option.toList_some, Option.getD_some, List.filter_cons, List.filter_nil]
set_option maxHeartbeats 2000000 in
set_option maxRecDepth 100000 in
theorem picked_any (v u : Value) (l m : List ByteArray) (h : Bool) (w : World) (hv : StrsAt w v l) (hu : StrsAt w u m) (hr : risesS (m.map fun b => b.toList)) (hl : l.length ≤ 100000) (hm : m.length ≤ 100000) :
  Calls Tryz.prog 177 #[v, u, .bool h] w fun r w' => (∃ x, r = .returned x ∧ OwnS w' w.heap.size x (l.filter fun s => inStrsB m s == h)) ∧ Below w.heap.size w w' := by
 have HV := hide hv;have HU := hide hu;have X := fun (s : ByteArray) (w1 : World) (hb : Below w.heap.size w w1) => hide (hasString_any u m s w1 (hu.on hb) hr hm)
 have hlen := hv.2.1;obtain ⟨a, cap, rfl⟩ := hv.form;obtain ⟨a1, cap1, rfl⟩ := hu.form;clear hv hu hr;obtain ⟨N, hN⟩ : ∃ N : Nat, N = l.length := ⟨_, rfl⟩
 rw [← hN] at hlen hl HV ⊢;have HN := hide hN;clear hN;go_enter Tryz.func177, Tryz.ntmps177
 go_wp2
 go_loopw [7, 12] (fun o i wr => ∃ k : Nat, i = .int .i64 k ∧ k ≤ N ∧ Hid (OwnS wr w.heap.size o ((l.take k).filter fun s => inStrsB m s == h)) ∧ Hid (Below w.heap.size w wr)) (fun _ i _ => N - (intOf i).toNat)
 case atStart => exact ⟨0, rfl, by omega, hide (ownS_none _ _), hide (Below.refl _ _)⟩
 case round =>
  obtain ⟨k, rfl, hk, HO, HB⟩ := hrel;by_cases hlt : k < N
  ·have hk' : k < l.length := by rw [← HN.out]; exact hlt
   obtain ⟨b, off, ha, hb, c0⟩ := (HV.out.on HB.out).at.2 k hk';subst ha;have HF := hide (filter_take_succ (p := fun s => inStrsB m s == h) hk');have LE : Hid (((l.take k).filter fun s => inStrsB m s == h).length + 1 ≤ 1000000) := hide (by
    have h1 := List.length_filter_le (fun s => inStrsB m s == h) (l.take k);have h2 : (l.take k).length ≤ k := by simp; omega
    omega)
   generalize l.getD k ⟨#[]⟩ = q at c0 HF;have Y := X q _ HB.out;have szB := HB.out.size;cases hq : (inStrsB m q == h)
   ·have E : Hid ((l.take (k + 1)).filter (fun s => inStrsB m s == h) = (l.take k).filter fun s => inStrsB m s == h) := hide (by rw [HF.out, hq]; simp);clear HF LE X;generalize inStrsB m q = IB at Y hq
    go_wp2_with fail
    refine (unhide Y).mono ?_;rintro r w2 ⟨rfl, rfl⟩
    go_wp2
    refine ⟨⟨k + 1, by go_num, by omega, ?_, HB⟩, by simp [intOf]; omega⟩;rw [E.out]; exact HO
   ·have E : Hid ((l.take (k + 1)).filter (fun s => inStrsB m s == h) = ((l.take k).filter fun s => inStrsB m s == h) ++ [q]) := hide (by rw [HF.out, hq]; simp);clear HF X;generalize inStrsB m q = IB at Y hq
    go_wp2_with fail
    refine (unhide Y).mono ?_;rintro r w2 ⟨rfl, rfl⟩
    go_wp2_with (at_builtin; refine wpList_appS _ rfl _ _ rfl w.heap.size _ _ rfl (HO.out.alloc _) _ 1 1 _ [q] rfl rfl (heap_top _ _) rfl LE.out (by simp; omega) ?_; intro v8 w8 hO8 hb8; have O8 := hide hO8; have B8 := hide ((HB.out.alloc szB _).trans hb8); clear hO8 hb8)
    refine ⟨⟨k + 1, by go_num, by omega, ?_, B8⟩, by simp [intOf]; omega⟩;rw [E.out]; exact O8
  ·have hge : (N : Int) ≤ (k : Int) := by omega
   have E : Hid (l.take k = l) := hide (List.take_of_length_le (by have := HN.out; omega));rw [E.out] at HO
   go_wp2
   go_ret
   exact ⟨⟨_, rfl, HO.out⟩, HB.out⟩
end Go.Proofs.YtlmdcaemjaldfaaGreat
namespace Go.Proofs
open Go.Shelf
def Tryz.lays190_ren : Go.Shelf.Ren := ⟨fun | 190 => 182 | 125 => 187 | 258 => 186 | 128 => 196 | 129 => 197 | 302 => 188 | 303 => 189 | 304 => 190 | 305 => 191 | 306 => 192 | 307 => 193 | 308 => 174 | 309 => 194 | 310 => 195 | 333 => 198 | 329 => 199 | 330 => 200 | 334 => 201 | 335 => 202 | 336 => 179 | 344 => 203 | n => n, fun | 31 => 23 | 9 => 9 | 3 => 3 | 46 => 177 | 0 => 0 | 51 => 195 | 53 => 91 | 4 => 4 | 183 => 189 | 182 => 188 | 131 => 164 | 5 => 5 | 218 => 197 | 222 => 200 | 228 => 202 | 229 => 117 | n => n, fun | n => n⟩
theorem Tryz.lays190 : Go.Proofs.Lays.n190 Tryz.prog Tryz.lays190_ren := {
 mixed := by kernel_rfl
 f125 := Tryz.func187.trans (congrArg some (by kernel_rfl))
 f128 := Tryz.func196.trans (congrArg some (by kernel_rfl))
 f129 := Tryz.func197.trans (congrArg some (by kernel_rfl))
 f190 := Tryz.func182.trans (congrArg some (by kernel_rfl))
 f258 := Tryz.func186.trans (congrArg some (by kernel_rfl))
 f302 := Tryz.func188.trans (congrArg some (by kernel_rfl))
 f303 := Tryz.func189.trans (congrArg some (by kernel_rfl))
 f304 := Tryz.func190.trans (congrArg some (by kernel_rfl))
 f305 := Tryz.func191.trans (congrArg some (by kernel_rfl))
 f306 := Tryz.func192.trans (congrArg some (by kernel_rfl))
 f307 := Tryz.func193.trans (congrArg some (by kernel_rfl))
 f308 := Tryz.func174.trans (congrArg some (by kernel_rfl))
 f309 := Tryz.func194.trans (congrArg some (by kernel_rfl))
 f310 := Tryz.func195.trans (congrArg some (by kernel_rfl))
 f329 := Tryz.func199.trans (congrArg some (by kernel_rfl))
 f330 := Tryz.func200.trans (congrArg some (by kernel_rfl))
 f333 := Tryz.func198.trans (congrArg some (by kernel_rfl))
 f334 := Tryz.func201.trans (congrArg some (by kernel_rfl))
 f335 := Tryz.func202.trans (congrArg some (by kernel_rfl))
 f336 := Tryz.func179.trans (congrArg some (by kernel_rfl))
 f344 := Tryz.func203.trans (congrArg some (by kernel_rfl))
 t0 := Tryz.underlying0
 a0 := Tryz.isAgg0
 z0 := Tryz.sizeOf0
 v0 := Tryz.zeroValue0
 t3 := Tryz.underlying3
 a3 := Tryz.isAgg3
 z3 := Tryz.sizeOf3
 v3 := Tryz.zeroValue3
 t4 := Tryz.underlying4
 a4 := Tryz.isAgg4
 z4 := Tryz.sizeOf4
 v4 := Tryz.zeroValue4
 t5 := Tryz.underlying5
 a5 := Tryz.isAgg5
 z5 := Tryz.sizeOf5
 v5 := Tryz.zeroValue5
 t9 := Tryz.underlying9
 a9 := Tryz.isAgg9
 z9 := Tryz.sizeOf9
 v9 := Tryz.zeroValue9
 t31 := Tryz.underlying23
 a31 := Tryz.isAgg23
 z31 := Tryz.sizeOf23
 v31 := Tryz.zeroValue23
 t46 := Tryz.underlying177
 a46 := Tryz.isAgg177
 z46 := Tryz.sizeOf177
 v46 := Tryz.zeroValue177
 t51 := Tryz.underlying195
 a51 := Tryz.isAgg195
 z51 := Tryz.sizeOf195
 v51 := Tryz.zeroValue195
 t53 := Tryz.underlying91
 a53 := Tryz.isAgg91
 z53 := Tryz.sizeOf91
 v53 := Tryz.zeroValue91
 t131 := Tryz.underlying164
 a131 := Tryz.isAgg164
 z131 := Tryz.sizeOf164
 v131 := Tryz.zeroValue164
 t182 := Tryz.underlying188
 a182 := Tryz.isAgg188
 z182 := Tryz.sizeOf188
 v182 := Tryz.zeroValue188
 t183 := Tryz.underlying189
 a183 := Tryz.isAgg189
 z183 := Tryz.sizeOf189
 v183 := Tryz.zeroValue189
 t218 := Tryz.underlying197
 a218 := Tryz.isAgg197
 z218 := Tryz.sizeOf197
 v218 := Tryz.zeroValue197
 t222 := Tryz.underlying200
 a222 := Tryz.isAgg200
 z222 := Tryz.sizeOf200
 v222 := Tryz.zeroValue200
 t228 := Tryz.underlying202
 a228 := Tryz.isAgg202
 z228 := Tryz.sizeOf202
 v228 := Tryz.zeroValue202
 t229 := Tryz.underlying117
 a229 := Tryz.isAgg117
 z229 := Tryz.sizeOf117
 v229 := Tryz.zeroValue117 }
open Go.Sort Go.RowKit in
theorem Tryz.slices_Sort_string (blk off cap : Nat) (ss : List (List UInt8)) (w : World) (hH : Holds encStr w blk off ss.toArray) (hblk : blk < w.heap.size) (hsz : ss.length < 4611686018427387904) :
  Calls Tryz.prog 182 #[.slice (some ⟨blk, off, none⟩) ss.length cap] w fun e w' =>
   e = .returned (.tuple #[]) ∧ ∃ n os, w' = grow (putRow encStr (Sort.ahead w n) blk off (ss.mergeSort fun x y => decide (x ≤ y)).toArray) os := Any.slices_Sort_string Tryz.lays190 blk off cap ss w hH hblk hsz
def Tryz.laysNm216_ren : Go.Shelf.Ren := ⟨fun | 16 => 103 | n => n, fun | 24 => 23 | 9 => 9 | 4 => 4 | n => n, fun | n => n⟩
theorem Tryz.laysNm216 : Go.Proofs.Lays2.n16 Tryz.prog Tryz.laysNm216_ren := {
 mixed := by kernel_rfl
 f16 := Tryz.func103.trans (congrArg some (by kernel_rfl))
 t4 := Tryz.underlying4
 a4 := Tryz.isAgg4
 z4 := Tryz.sizeOf4
 v4 := Tryz.zeroValue4
 t9 := Tryz.underlying9
 a9 := Tryz.isAgg9
 z9 := Tryz.sizeOf9
 v9 := Tryz.zeroValue9
 t24 := Tryz.underlying23
 a24 := Tryz.isAgg23
 z24 := Tryz.sizeOf23
 v24 := Tryz.zeroValue23
 i9 := by kernel_rfl }
open Go.RowKit Go.Lib in
theorem Tryz.slices_Clone_string (b off n c : Nat) (zs : List ByteArray) (w : World) (hz : n ≤ zs.length) (hbig : n * 16 ≤ 140737488355328) (hc : ∀ j, j < zs.length → w.cell? ⟨b, off + j, none⟩ = some (.string (zs.getD j ByteArray.empty))) :
  Calls Tryz.prog 103 #[.slice (some ⟨b, off, none⟩) n c] w fun e w' => ∃ v', e = .returned v' ∧ w'.ownsRow w.heap.size 9 1 v' n ((zs.take n).map (Value.string)) ∧ v' ≠ .slice none 0 0 ∧ Below w.heap.size w w' := Any.slices_Clone_string Tryz.laysNm216 b off n c zs w hz hbig hc
open Go.RowKit Go.Lib in
theorem Tryz.slices_Clone_string_nil (n c : Nat) (w : World) :
  Calls Tryz.prog 103 #[.slice none n c] w fun e w' => e = .returned (.slice none 0 0) ∧ w' = w := Any.slices_Clone_string_nil Tryz.laysNm216 n c w
open Go.RowKit Go.Lib in
theorem Tryz.slices_Clone_string_zero (a : Addr) (c : Nat) (w : World) :
  Calls Tryz.prog 103 #[.slice (some a) 0 c] w fun e w' => ∃ v', e = .returned v' ∧ w'.ownsRow w.heap.size 9 1 v' 0 [] ∧ v' ≠ .slice none 0 0 ∧ Below w.heap.size w w' := Any.slices_Clone_string_zero Tryz.laysNm216 a c w
def Tryz.lays194_ren : Go.Shelf.Ren := ⟨fun | 194 => 183 | n => n, fun | 31 => 23 | 9 => 9 | 3 => 3 | 4 => 4 | 0 => 0 | n => n, fun | n => n⟩
theorem Tryz.lays194 : Go.Proofs.Lays.n194 Tryz.prog Tryz.lays194_ren := {
 mixed := by kernel_rfl
 f194 := Tryz.func183.trans (congrArg some (by kernel_rfl))
 t0 := Tryz.underlying0
 a0 := Tryz.isAgg0
 z0 := Tryz.sizeOf0
 v0 := Tryz.zeroValue0
 t3 := Tryz.underlying3
 a3 := Tryz.isAgg3
 z3 := Tryz.sizeOf3
 v3 := Tryz.zeroValue3
 t4 := Tryz.underlying4
 a4 := Tryz.isAgg4
 z4 := Tryz.sizeOf4
 v4 := Tryz.zeroValue4
 t9 := Tryz.underlying9
 a9 := Tryz.isAgg9
 z9 := Tryz.sizeOf9
 v9 := Tryz.zeroValue9
 t31 := Tryz.underlying23
 a31 := Tryz.isAgg23
 z31 := Tryz.sizeOf23
 v31 := Tryz.zeroValue23 }
open Go.RowKit Go.Lib Go.Sort in
theorem Tryz.slices_Compact_string (blk off cap : Nat) (zs : List (List UInt8)) (w : World) (hH : Holds encStr w blk off zs.toArray) (hsz : zs.length ≤ 9223372036854775807) (hcap : zs.length ≤ cap) :
  Calls Tryz.prog 183 #[.slice (some ⟨blk, off, none⟩) zs.length cap] w fun e w' => e = .returned (.slice (some ⟨blk, off, none⟩) (Lib.compact zs).length cap) ∧ ∃ q, w' = putRow encStr (Sort.ahead w q) blk off (Lib.compact zs ++ List.replicate (zs.length - (Lib.compact zs).length) []).toArray := Any.slices_Compact_string Tryz.lays194 blk off cap zs w hH hsz hcap
open Go.RowKit Go.Lib Go.Sort in
theorem Tryz.slices_Compact_string_empty (a : Option Addr) (cap : Nat) (w : World) :
  Calls Tryz.prog 183 #[.slice a 0 cap] w fun e w' => e = .returned (.slice a 0 cap) ∧ w' = w := Any.slices_Compact_string_empty Tryz.lays194 a cap w
open Go.RowKit Go.Sort in
theorem Tryz.slices_Sort_string_none (p : Option Addr) (cap : Nat) (w : World) :
  Calls Tryz.prog 182 #[.slice p 0 cap] w fun e w' => e = .returned (.tuple #[]) ∧ w' = w := Any.slices_Sort_string_none Tryz.lays190 p cap w
end Go.Proofs
namespace Go.Proofs.YtlmdcaemjaldfaaGreat
open Go.RowKit
theorem lt_less : ∀ a b : St, a < b ↔ Op.bytesLess a b = true
 | [], [] => by simp [Op.bytesLess]
 | [], _ :: _ => by simp [Op.bytesLess]
 | _ :: _, [] => by simp [Op.bytesLess]
 | x :: a, y :: b => by
  rw [List.cons_lt_cons_iff, lt_less a b]
  simp [Op.bytesLess]
theorem le_less {a b : St} (h : a ≤ b) : Op.bytesLess a b = true ∨ a = b := by
 rcases lessB_tri a b with h1 | h1 | h1
 ·exact Or.inl h1
 ·exact Or.inr h1
 ·exact absurd ((lt_less b a).2 h1) (List.not_lt.2 h)
theorem risesS_concat : ∀ (l : List St) (x : St), risesS l → (∀ y ∈ l, Op.bytesLess y x = true) → risesS (l ++ [x])
 | [], x, _, _ => ⟨fun b h => by simp at h, trivial⟩
 | a :: l, x, ⟨h1, h2⟩, h => by
  refine ⟨fun b hb => ?_, risesS_concat l x h2 (fun y hy => h y (by simp [hy]))⟩;rcases List.mem_append.1 hb with hb | hb
  ·exact h1 b hb
  ·simp at hb; rw [hb]; exact h a (by simp)
theorem compact_upto (d : Array St) (hs : ∀ i j, i < j → j < d.size → d[i]! ≤ d[j]!) : ∀ m, m ≤ d.size → risesS (Lib.compactUpTo d m) ∧ (∀ x, x ∈ Lib.compactUpTo d m ↔ ∃ j, j < m ∧ d[j]! = x) ∧ (Lib.compactUpTo d m).length ≤ m
 | 0, _ => by
  refine ⟨trivial, fun x => ?_, by simp [Lib.compactUpTo]⟩
  simp [Lib.compactUpTo]
 | m + 1, hm => by
  obtain ⟨h1, h2, h3⟩ := compact_upto d hs m (by omega);rw [Lib.compactUpTo_succ];cases hk : Lib.keeps d m
  ·have hk' : ¬ (m = 0 ∨ d[m]! ≠ d[m - 1]!) := by
    unfold Lib.keeps at hk;exact of_decide_eq_false hk
   have h0 : m ≠ 0 := fun e => hk' (Or.inl e)
   have he : d[m]! = d[m - 1]! := Classical.byContradiction fun e => hk' (Or.inr e)
   rw [if_neg (by simp), List.append_nil];refine ⟨h1, fun x => ?_, by omega⟩;rw [h2 x]
   constructor
   ·rintro ⟨j, hj, e⟩; exact ⟨j, by omega, e⟩
   ·rintro ⟨j, hj, e⟩;by_cases hjm : j = m
    ·subst hjm; exact ⟨j - 1, by omega, by rw [← he]; exact e⟩
    ·exact ⟨j, by omega, e⟩
  ·have hk' : m = 0 ∨ d[m]! ≠ d[m - 1]! := by
    unfold Lib.keeps at hk;exact of_decide_eq_true hk
   rw [if_pos rfl];refine ⟨risesS_concat _ _ h1 (fun y hy => ?_), fun x => ?_, by simp; omega⟩
   ·obtain ⟨j, hj, rfl⟩ := (h2 y).1 hy;have hne : d[m]! ≠ d[m - 1]! := by
     rcases hk' with e | e
     ·omega
     ·exact e
    have hA : Op.bytesLess d[m - 1]! d[m]! = true := by
     rcases le_less (hs (m - 1) m (by omega) (by omega)) with h | h
     ·exact h
     ·exact absurd h.symm hne
    by_cases hjm : j = m - 1
    ·rw [hjm]; exact hA
    ·rcases le_less (hs j (m - 1) (by omega) (by omega)) with h | h
     ·exact lessB_trans _ _ _ h hA
     ·rw [h]; exact hA
   ·rw [List.mem_append, h2 x]
    constructor
    ·rintro (⟨j, hj, e⟩ | h)
     ·exact ⟨j, by omega, e⟩
     ·simp at h; exact ⟨m, by omega, by simp [h]⟩
    ·rintro ⟨j, hj, e⟩;by_cases hjm : j = m
     ·subst hjm; exact Or.inr (by simp [e])
     ·exact Or.inl ⟨j, by omega, e⟩
theorem compact_sorted (zs : List St) : risesS (Lib.compact (zs.mergeSort fun x y => decide (x ≤ y))) ∧ (∀ x, x ∈ Lib.compact (zs.mergeSort fun x y => decide (x ≤ y)) ↔ x ∈ zs) ∧ (Lib.compact (zs.mergeSort fun x y => decide (x ≤ y))).length ≤ zs.length := by
 have tr : ∀ a b c : St, decide (a ≤ b) = true → decide (b ≤ c) = true → decide (a ≤ c) = true := fun a b c h1 h2 => by
  simp only [decide_eq_true_eq] at *; exact List.le_trans h1 h2
 have tot : ∀ a b : St, (decide (a ≤ b) || decide (b ≤ a)) = true := fun a b => by
  simp only [Bool.or_eq_true, decide_eq_true_eq]; exact List.le_total a b
 have hp := List.pairwise_mergeSort tr tot zs;have hm := List.mergeSort_perm zs (fun x y => decide (x ≤ y));generalize zs.mergeSort (fun x y => decide (x ≤ y)) = ts at hp hm ⊢;have hg : ∀ j, j < ts.length → ts.toArray[j]! = ts.getD j [] := fun j hj => by simp [List.getD_eq_getElem?_getD, hj]
 obtain ⟨h1, h2, h3⟩ := compact_upto ts.toArray (fun i j hij hj => by
  have hj' : j < ts.length := by simpa using hj
  rw [hg i (by omega), hg j hj'];have := List.pairwise_iff_getElem.1 hp i j (by omega) hj' hij
  simpa [List.getD_eq_getElem?_getD, hj', show i < ts.length by omega] using this) ts.length (by simp)
 refine ⟨h1, fun x => ?_, by have := hm.length_eq; unfold Lib.compact; omega⟩;rw [← hm.mem_iff];unfold Lib.compact;rw [h2 x]
 constructor
 ·rintro ⟨j, hj, e⟩;rw [← e, hg j hj, List.getD_eq_getElem?_getD, List.getElem?_eq_getElem hj];exact List.getElem_mem _
 ·intro h;obtain ⟨j, hj, e⟩ := List.getElem_of_mem h;exact ⟨j, hj, by rw [hg j hj, List.getD_eq_getElem?_getD, List.getElem?_eq_getElem hj]; exact e⟩
def ofSt (l : St) : ByteArray := ⟨l.toArray⟩
theorem ofSt_toList (l : St) : (ofSt l).toList = l := by rw [ByteArray.toList_eq]; rfl
theorem data_toList (s : ByteArray) : s.data.toList = s.toList := (ByteArray.toList_eq s).symm
theorem map_ofSt (l : List St) : (l.map ofSt).map Value.string = l.map encStr := by rw [List.map_map]; rfl
theorem either_is (a b : List ByteArray) (ha : rightS a) (hb : rightS b) : (Lib.compact (((a ++ b).map (·.data.toList)).mergeSort fun x y => decide (x ≤ y))).map ofSt = orS a b := by
 obtain ⟨o1, _, o3⟩ := orS_all a b ha.1 hb;obtain ⟨c1, c2, _⟩ := compact_sorted ((a ++ b).map (·.data.toList));generalize Lib.compact (((a ++ b).map (·.data.toList)).mergeSort fun x y => decide (x ≤ y)) = c at c1 c2 ⊢;have hm : ∀ x : ByteArray, x ∈ c.map ofSt ↔ x ∈ a ∨ x ∈ b := fun x => by
  rw [List.mem_map]
  constructor
  ·rintro ⟨y, hy, rfl⟩;obtain ⟨z, hz, e⟩ := List.mem_map.1 ((c2 y).1 hy);have : ofSt y = z := by
    apply toList_inj
    rw [ofSt_toList, ← e];exact data_toList z
   rw [this];exact List.mem_append.1 hz
  ·intro hx;refine ⟨x.data.toList, (c2 _).2 (List.mem_map.2 ⟨x, List.mem_append.2 hx, rfl⟩), ?_⟩
   apply toList_inj
   rw [ofSt_toList];exact data_toList x
 refine rightS_ext _ _ ⟨fun s hs => ?_, ?_⟩ o1 (fun s => by rw [hm s, o3 s])
 ·rcases (hm s).1 hs with h | h
  ·exact ha.1 s h
  ·exact hb.1 s h
 ·rw [List.map_map];have : (fun b => b.toList) ∘ ofSt = id := funext fun l => ofSt_toList l
  rw [this, List.map_id];exact c1
set_option maxHeartbeats 2000000 in
set_option maxRecDepth 100000 in
theorem either_any (v u : Value) (a b : List ByteArray) (w : World) (hv : StrsAt w v a) (hu : StrsAt w u b) (ha : rightS a) (hb : rightS b) (hl : a.length + b.length ≤ 100000) :
  Calls Tryz.prog 178 #[v, u] w fun r w' => (∃ x, r = .returned x ∧ OwnS w' w.heap.size x (orS a b)) ∧ Below w.heap.size w w' := by
 obtain ⟨pa, ca, rfl⟩ := hv.form;obtain ⟨pb, cb, rfl⟩ := hu.form;have CO := hide (concatS_any w.heap.size _ _ a b (w.alloc (.cells #[.slice pa a.length ca, .slice pb b.length cb] 23)) (heap_new _ _) (hv.on ((Below.refl _ w).alloc (Nat.le_refl _) _)) (hu.on ((Below.refl _ w).alloc (Nat.le_refl _) _)) hl);have EI := hide (either_is a b ha hb);have CL := hide (compact_sorted ((a ++ b).map (·.data.toList))).2.2;have hsz := hide hl;clear hv hu hl;go_enter Tryz.func178, Tryz.ntmps178
 go_wp2_with fail
 refine (unhide CO).mono ?_;rintro r w1 ⟨⟨x, rfl, ho⟩, hb1⟩;have B1 := hide (below_alloc hb1);have hB : w.heap.size ≤ (w.alloc (.cells #[.slice pa a.length ca, .slice pb b.length cb] 23)).heap.size := by simp
 have HO : Hid (w1.ownsRow w.heap.size 9 1 x (a ++ b).length (((a ++ b).map (·.data.toList)).map encStr)) := hide (by
  rw [Lib.map_encStr];obtain ⟨h1, h2⟩ := ho;refine ⟨h1, ?_⟩;rcases h2 with h2 | ⟨g, cap, cur, e1, e2, e3⟩
  ·exact Or.inl h2
  ·exact Or.inr ⟨g, cap, cur, e1, by omega, e3⟩)
 clear CO ho hb1 hB;generalize hzs : (a ++ b).map (·.data.toList) = zs at HO EI CL;have hzl : (a ++ b).length = zs.length := by rw [← hzs]; simp
 rw [hzl] at HO;have hzn : zs.length ≤ 100000 := by rw [← hzl, List.length_append]; exact hsz.out
 clear hzs hzl hsz;rcases HO.out.2 with ⟨rfl, h0⟩ | ⟨g, cap, cur, rfl, hg, hcur, hcap, hmx, hcs, hct⟩
 ·have hz : zs = [] := List.eq_nil_of_length_eq_zero h0;subst hz;have ES : Hid (orS a b = []) := hide (by rw [← EI.out, List.mergeSort_nil]; rfl);clear HO EI CL h0 hzn;have S0 := hide (Tryz.slices_Sort_string_none none 0 w1);have C0 := hide (Tryz.slices_Compact_string_empty none 0 w1)
  go_wp2_with fail
  refine (unhide S0).mono ?_;rintro r w2 ⟨rfl, rfl⟩
  go_wp2_with fail
  refine (unhide C0).mono ?_;rintro r w3 ⟨rfl, rfl⟩
  go_wp2
  go_ret
  refine ⟨⟨_, rfl, ?_⟩, B1.out⟩;rw [ES.out]; exact ownS_none _ _
 ·have hlt := lt_heap hcur;have S0 := hide (Tryz.slices_Sort_string g 0 cap zs w1 (holds_of_block hcur (by rw [Nat.mul_one] at hct; exact hct)) hlt (by omega));have hml : (zs.mergeSort fun x y => decide (x ≤ y)).length = zs.length := List.length_mergeSort _;generalize zs.mergeSort (fun x y => decide (x ≤ y)) = ts at S0 EI CL hml;have OS := fun (n : Nat) (os : Array Obj) => hide (ownsRow_sorted (w := w1) (n := n) (os := os) hml hg hcur hcap hmx hcs)
  have GS := fun (n : Nat) (os : Array Obj) => hide (B1.out.grown (grownBy_sorted (w := w1) (g := g) (n := n) (os := os) ts.toArray) B1.out.size (fun k hk => by cases hk; exact hg))
  have HC := hide hcur;have HML := hide hml;clear HO hcur hct hcs hml
  go_wp2_with fail
  refine (unhide S0).mono ?_;rintro r w2 ⟨rfl, n, os, rfl⟩;have O2 := OS n os;have B2 := GS n os;clear OS GS S0 B1 HC hlt;generalize Sort.grow (Sort.putRow encStr (Sort.ahead w1 n) g 0 ts.toArray) os = w2 at O2 B2 ⊢;obtain ⟨g', cap', e, _, _, _, _, _, hH⟩ := Lib.holds_of_ownsRow O2.out (by simp)
  injection e with e1 e2 e3
  injection e1 with e1
  injection e1 with e1
  subst e1;have hcl : (Lib.compact ts).length ≤ zs.length := CL.out;have hyl : (Lib.compact ts ++ List.replicate (zs.length - (Lib.compact ts).length) []).length = zs.length := by simp; omega
  have C0 := hide (Tryz.slices_Compact_string g 0 cap ts w2 hH (by have := HML.out; omega) (by have := HML.out; omega));rw [HML.out] at C0;have OC := fun (q : Nat) => hide (Lib.ownsRow_putRow (q := q) O2.out hyl hcl)
  have BC := fun (q : Nat) => hide (Lib.below_putRow (enc := encStr) (q := q) (g := g) (d := (Lib.compact ts ++ List.replicate (zs.length - (Lib.compact ts).length) []).toArray) B2.out hg)
  clear hH e2 e3 O2 B2 hyl hcl
  go_wp2_with fail
  refine (unhide C0).mono ?_;rintro r w3 ⟨rfl, q, rfl⟩;have O3 := OC q;have B3 := BC q;clear OC BC C0;generalize Sort.putRow encStr (Sort.ahead w2 q) g 0 (Lib.compact ts ++ List.replicate (zs.length - (Lib.compact ts).length) []).toArray = w3 at O3 B3 ⊢
  go_wp2
  go_ret
  refine ⟨⟨_, rfl, ?_⟩, B3.out⟩;have O4 := O3.out;rw [List.take_append_of_le_length (Nat.le_refl _), List.take_length] at O4;rw [← EI.out];unfold OwnS;rw [map_ofSt, List.length_map];exact O4
set_option maxHeartbeats 2000000 in
set_option maxRecDepth 100000 in
theorem orStrings_any (v u : Value) (A B : SetV) (w : World) (hv : StrsAt w v A.strs) (hu : StrsAt w u B.strs) (ha : rightS A.strs) (hb : rightS B.strs) (hl : A.strs.length + B.strs.length ≤ 100000) :
  Calls Tryz.prog 172 #[.bool A.co, v, .bool B.co, u] w fun r w' => (∃ x, r = .returned (.tuple #[.bool (A.co || B.co), x]) ∧ OwnS w' w.heap.size x (orStr A B)) ∧ Below w.heap.size w w' := by
 obtain ⟨_, _, ac, a⟩ := A;obtain ⟨_, _, bc, b⟩ := B;unfold orStr;dsimp only at *;have f0 : ∀ (m : List ByteArray), (fun s => inStrsB m s == true) = fun s => inStrsB m s := fun m => funext fun s => by cases inStrsB m s <;> rfl
 have f1 : ∀ (m : List ByteArray), (fun s => inStrsB m s == false) = fun s => !inStrsB m s := fun m => funext fun s => by cases inStrsB m s <;> rfl
 have P0 := hide (picked_any v u a b true w hv hu hb.2 (by omega) (by omega));have P1 := hide (picked_any v u a b false w hv hu hb.2 (by omega) (by omega));have P2 := hide (picked_any u v b a false w hu hv ha.2 (by omega) (by omega));have P3 := hide (either_any v u a b w hv hu ha hb hl);rw [f0] at P0;rw [f1] at P1 P2;clear f0 f1 hv hu ha hb hl;cases ac
 ·cases bc
  ·go_enter Tryz.func172, Tryz.ntmps172
   go_wp2_with fail
   refine (unhide P3).mono ?_;rintro r w1 ⟨⟨x, rfl, ho⟩, b1⟩;have O1 := hide ho;have B1 := hide b1;clear ho b1 P0 P1 P2 P3
   go_wp2
   go_ret2
   exact ⟨⟨_, rfl, O1.out⟩, B1.out⟩
  ·go_enter Tryz.func172, Tryz.ntmps172
   go_wp2_with fail
   refine (unhide P2).mono ?_;rintro r w1 ⟨⟨x, rfl, ho⟩, b1⟩;have O1 := hide ho;have B1 := hide b1;clear ho b1 P0 P1 P2 P3
   go_wp2
   go_ret2
   exact ⟨⟨_, rfl, O1.out⟩, B1.out⟩
 ·cases bc
  ·go_enter Tryz.func172, Tryz.ntmps172
   go_wp2_with fail
   refine (unhide P1).mono ?_;rintro r w1 ⟨⟨x, rfl, ho⟩, b1⟩;have O1 := hide ho;have B1 := hide b1;clear ho b1 P0 P1 P2 P3
   go_wp2
   go_ret2
   exact ⟨⟨_, rfl, O1.out⟩, B1.out⟩
  ·go_enter Tryz.func172, Tryz.ntmps172
   go_wp2_with fail
   refine (unhide P0).mono ?_;rintro r w1 ⟨⟨x, rfl, ho⟩, b1⟩;have O1 := hide ho;have B1 := hide b1;clear ho b1 P0 P1 P2 P3
   go_wp2
   go_ret2
   exact ⟨⟨_, rfl, O1.out⟩, B1.out⟩
end Go.Proofs.YtlmdcaemjaldfaaGreat
namespace Go.Proofs.YtlmdcaemjaldfaaGreat
open Go.RowKit
theorem right_size {l : List ByteArray} (h : rightS l) : ∀ s ∈ l, s.size ≤ 9223372036854775807 := fun s hs => by have := h.1 s hs; omega
theorem OwnR.frm {w : World} {B : Nat} {v : Value} {l : List Rg} (h : OwnR w B v l) : ∃ a n cap, v = .slice a n cap := by
 rcases h.2 with ⟨e, _⟩ | ⟨g, cap, cur, e, _⟩
 ·exact ⟨_, _, _, e⟩
 ·exact ⟨_, _, _, e⟩
theorem OwnS.frm {w : World} {B : Nat} {v : Value} {l : List ByteArray} (h : OwnS w B v l) : ∃ a n cap, v = .slice a n cap := by
 rcases h.2 with ⟨e, _⟩ | ⟨g, cap, cur, e, _⟩
 ·exact ⟨_, _, _, e⟩
 ·exact ⟨_, _, _, e⟩
theorem put4 {B p : Nat} {w0 w : World} {t : TypeId} {y0 y1 y2 y3 : Value} (x0 x1 x2 x3 : Value) (hp : w.heap[p]? = some (.cells #[y0, y1, y2, y3] t (0, 0))) (hB : B ≤ p) (hb : Below B w0 w) :
  ((((w.setCell ⟨p, 0, none⟩ x0).setCell ⟨p, 1, none⟩ x1).setCell ⟨p, 2, none⟩ x2).setCell ⟨p, 3, none⟩ x3).heap[p]? = some (.cells #[x0, x1, x2, x3] t (0, 0)) ∧
  Below B w0 ((((w.setCell ⟨p, 0, none⟩ x0).setCell ⟨p, 1, none⟩ x1).setCell ⟨p, 2, none⟩ x2).setCell ⟨p, 3, none⟩ x3) ∧
  (∀ k, k ≠ p → ((((w.setCell ⟨p, 0, none⟩ x0).setCell ⟨p, 1, none⟩ x1).setCell ⟨p, 2, none⟩ x2).setCell ⟨p, 3, none⟩ x3).heap[k]? = w.heap[k]?) := by
 refine ⟨?_, ?_, fun k hk => ?_⟩
 ·have h0 := heap_setCell (i := 0) x0 hp;have h1 := heap_setCell (i := 1) x1 h0;have h2 := heap_setCell (i := 2) x2 h1;have h3 := heap_setCell (i := 3) x3 h2;exact h3
 ·exact (((hb.setCell (p := ⟨p, 0, none⟩) hB _).setCell (p := ⟨p, 1, none⟩) hB _).setCell (p := ⟨p, 2, none⟩) hB _).setCell (p := ⟨p, 3, none⟩) hB _
 ·have hk' : p ≠ k := fun e => hk e.symm
  simp [World.setCell, Array.getElem?_modify, hk']
theorem OwnR.aside {w W : World} {B p : Nat} {v : Value} {l : List Rg} (h : OwnR w B v l) (hp : p < B) (hk : ∀ k, k ≠ p → W.heap[k]? = w.heap[k]?) : OwnR W B v l := by
 refine ⟨h.1, ?_⟩;rcases h.2 with h2 | ⟨g, cap, cur, e, hg, hc, hr⟩
 ·exact Or.inl h2
 ·exact Or.inr ⟨g, cap, cur, e, hg, (hk g (by omega)).trans hc, hr⟩
theorem OwnS.aside {w W : World} {B p : Nat} {v : Value} {l : List ByteArray} (h : OwnS w B v l) (hp : p < B) (hk : ∀ k, k ≠ p → W.heap[k]? = w.heap[k]?) : OwnS W B v l := by
 refine ⟨h.1, ?_⟩;rcases h.2 with h2 | ⟨g, cap, cur, e, hg, hc, hr⟩
 ·exact Or.inl h2
 ·exact Or.inr ⟨g, cap, cur, e, hg, (hk g (by omega)).trans hc, hr⟩
theorem made_set {w0 w : World} {p : Nat} {t : TypeId} {y0 y1 y2 y3 ui us : Value} {B1 B2 : Nat} (S : SetV) (hp : w.heap[p]? = some (.cells #[y0, y1, y2, y3] t (0, 0))) (hw : w0.heap.size ≤ p) (hb : Below w0.heap.size w0 w)
  (hi : OwnR w B1 ui S.ints) (hs : OwnS w B2 us S.strs) (h1 : p < B1) (h2 : p < B2) (hg : Good S) (n1 : S.ints.length ≤ 9223372036854775807) (n2 : S.strs.length ≤ 9223372036854775807) :
  ((((w.setCell ⟨p, 0, none⟩ (.bool S.absent)).setCell ⟨p, 1, none⟩ ui).setCell ⟨p, 2, none⟩ (.bool S.co)).setCell ⟨p, 3, none⟩ us).heap[p]? = some (.cells #[.bool S.absent, ui, .bool S.co, us] t (0, 0)) ∧
  SetAt ((((w.setCell ⟨p, 0, none⟩ (.bool S.absent)).setCell ⟨p, 1, none⟩ ui).setCell ⟨p, 2, none⟩ (.bool S.co)).setCell ⟨p, 3, none⟩ us) (.agg #[.bool S.absent, ui, .bool S.co, us]) S ∧
  Below w0.heap.size w0 ((((w.setCell ⟨p, 0, none⟩ (.bool S.absent)).setCell ⟨p, 1, none⟩ ui).setCell ⟨p, 2, none⟩ (.bool S.co)).setCell ⟨p, 3, none⟩ us) := by
 obtain ⟨a1, a2, a3⟩ := put4 (.bool S.absent) ui (.bool S.co) us hp hw hb;exact ⟨a1, ⟨ui, us, rfl, (hi.aside h1 a3).rngs hg.i n1, (hs.aside h2 a3).strs (right_size hg.rs) n2⟩, a2⟩
theorem clone_any (v : Value) (l : List ByteArray) (w : World) (hv : StrsAt w v l) (hl : l.length ≤ 100000) :
  Calls Tryz.prog 103 #[v] w fun r w' => (∃ x, r = .returned x ∧ OwnS w' w.heap.size x l) ∧ Below w.heap.size w w' := by
 obtain ⟨_, _, a, cap, rfl, hel⟩ := hv;cases a with
 | none =>
  have hm : l = [] := by
   cases l with
   | nil => rfl
   | cons r m =>
    obtain ⟨b, off, e, _⟩ := hel 0 (by simp);cases e
  subst hm;refine (Tryz.slices_Clone_string_nil _ _ w).mono ?_;rintro r w1 ⟨rfl, rfl⟩;exact ⟨⟨_, rfl, ownS_none _ _⟩, Below.refl _ _⟩
 | some ad =>
  cases l with
  | nil =>
   refine (Tryz.slices_Clone_string_zero ad _ w).mono ?_;rintro r w1 ⟨x, rfl, h1, _, h2⟩;exact ⟨⟨x, rfl, h1⟩, h2⟩
  | cons s m =>
   obtain ⟨b, off, e, _⟩ := hel 0 (by simp);cases e
   refine (Tryz.slices_Clone_string b off (s :: m).length _ (s :: m) w (Nat.le_refl _) (by omega) (fun j hj => ?_)).mono ?_
   ·obtain ⟨b', off', e, _, c0⟩ := hel j hj
    simp at e
    obtain ⟨rfl, rfl⟩ := e;exact c0
   ·rintro r w1 ⟨x, rfl, h1, _, h2⟩;rw [List.take_length] at h1;exact ⟨⟨x, rfl, h1⟩, h2⟩
set_option maxHeartbeats 4000000 in
set_option maxRecDepth 100000 in
theorem not_any (v : Value) (S : SetV) (w : World) (hv : SetAt w v S) (hf : Fit S) :
  Calls Tryz.prog 137 #[v] w fun r w' => (∃ u, r = .returned u ∧ SetAt w' u (notV S)) ∧ Below w.heap.size w w' := by
 have HG := hide hf.good;have HNI := hide hf.ni;have HNS := hide hf.ns;clear hf;obtain ⟨vi, vs, rfl, hI, hS⟩ := hv;obtain ⟨ai, ci, rfl⟩ := hI.form;obtain ⟨aq, cq, rfl⟩ := hS.form;obtain ⟨sa, si, sc, ss⟩ := S;dsimp only at *;have T0 := Two.start w (.cells #[.bool sa, .slice ai si.length ci, .bool sc, .slice aq ss.length cq] 25) (.cells #[.bool false, .slice none 0 0, .bool false, .slice none 0 0] 25);have OR := fun (W : World) (h : RngsAt W (.slice ai si.length ci) si) => hide (otherRanges_any _ si W h HG.out.ri (Nat.le_trans HNI.out (by omega)))
 have CL := fun (W : World) (h : StrsAt W (.slice aq ss.length cq) ss) => hide (clone_any _ ss W h (Nat.le_trans HNS.out (by omega)))
 have I0 := hide (hI.on T0.b);have S0 := hide (hS.on T0.b);clear hI hS;go_enter Tryz.func137, Tryz.ntmps137
 go_wp2
 generalize hw0 : ((w.alloc (Obj.cells #[.bool sa, .slice ai si.length ci, .bool sc, .slice aq ss.length cq] 25)).alloc (Obj.cells #[.bool false, .slice none 0 0, .bool false, .slice none 0 0] 25)) = w1 at *;clear hw0;have T1 := hide T0;clear T0;obtain ⟨c0, c1, c2, c3⟩ := setCells T1.out.e1;have HLT := hide (lt_heap T1.out.e2);have PH1 := True.intro
 go_region_held3 (fun w' => (w'.cell? ⟨w.heap.size, 0, none⟩ = some (.bool sa) ∧ w'.cell? ⟨w.heap.size, 1, none⟩ = some (.slice ai si.length ci)) ∧ w'.cell? ⟨w.heap.size, 2, none⟩ = some (.bool sc) ∧ w'.cell? ⟨w.heap.size, 3, none⟩ = some (.slice aq ss.length cq)) (first | go_keep | (refine ⟨⟨?_, ?_⟩, ?_, ?_⟩ <;> assumption))
  ((first
   | (go_at_call 159; have pz := PH1; clear pz PH1; refine (unhide (OR _ ?_)).mono ?_; exact I0.out; rintro r w2 ⟨⟨u2, rfl, o2⟩, b'⟩; obtain ⟨p2, n2, k2, rfl⟩ := o2.frm; have b : Below w1.heap.size w1 w2 := ⟨b'.os, b'.tape, b'.output, b'.size, b'.block⟩; have HL2 : Hid (w1.heap.size ≤ w2.heap.size) := hide b.size; have T2 := hide (T1.out.on b); have O2 := hide o2; have S2 := hide (S0.out.on b); obtain ⟨e0, e1, e2, e3⟩ := setCells T2.out.e1; have PH2 := True.intro; clear b b' o2 T1 S0 I0)
   | (go_at_call 103; have pz := PH2; clear pz PH2; refine (unhide (CL _ ?_)).mono ?_; exact S2.out; rintro r w3 ⟨⟨u3, rfl, o3⟩, b'⟩; obtain ⟨p3, n3, k3, rfl⟩ := o3.frm; have b : Below w2.heap.size w2 w3 := ⟨b'.os, b'.tape, b'.output, b'.size, b'.block⟩; have T3 := hide (T2.out.on b); have O3 := hide o3; have O2' := hide (O2.out.on b); obtain ⟨e0, e1, e2, e3⟩ := setCells T3.out.e1; obtain ⟨f0, f1, f2, f3⟩ := setCells T3.out.e2; have z0 := frozen_heap T3.out.e2 0; have z1 := frozen_heap T3.out.e2 1; have z2 := frozen_heap T3.out.e2 2; have z3 := frozen_heap T3.out.e2 3; have PH3 := True.intro; clear b b' o3 T2 S2 O2)))
 have hsz := T3.out.b.size;have MS := made_set (notV ⟨sa, si, sc, ss⟩) (p := w.heap.size + 1) T3.out.e2 (by omega) T3.out.b O2'.out O3.out HLT.out (Nat.lt_of_lt_of_le HLT.out HL2.out) (notV_good HG.out) (by have := (notV_len _ HG.out).1; have := HNI.out; dsimp only at *; omega) (by have := HNS.out; unfold notV; dsimp only; omega);dsimp only [notV] at MS;obtain ⟨m1, m2, m3⟩ := MS
 go_wp2
 exact bodyPost_ret (results_cell_row rfl _ _ (w.heap.size + 1) 25 _ (0, 0) _ rfl m1 Tryz.underlying25 rfl infoSet) rfl ⟨⟨_, rfl, m2⟩, m3⟩
end Go.Proofs.YtlmdcaemjaldfaaGreat
namespace Go.Proofs.YtlmdcaemjaldfaaGreat
open Go.RowKit
set_option maxHeartbeats 2000000 in
set_option maxRecDepth 100000 in
theorem has_any (v : Value) (S : SetV) (k n : Int) (s : ByteArray) (w : World) (hv : SetAt w v S) (hf : Fit S) (hs : s.size ≤ maxLen) :
  Calls Tryz.prog 105 #[v, .agg #[.int .i64 k, .int .i64 n, .string s]] w fun r w' => r = .returned (.bool (hasB S k n s)) ∧ Below w.heap.size w w' := by
 have HR1 := hide hf.good.rs.2;have HL1 := hide hf.ns;clear hf;obtain ⟨vi, vs, rfl, hI, hS⟩ := hv;obtain ⟨ai, ci, rfl⟩ := hI.form;obtain ⟨aq, cq, rfl⟩ := hS.form;obtain ⟨sa, si, sc, ss⟩ := S;dsimp only at *;have HI := hide hI;have HS := hide hS;have HR := fun (W : World) => hide (valRight_any k n s W hs)
 have HSX := fun (W : World) (h : StrsAt W (.slice aq ss.length cq) ss) => hide (hasString_any _ _ s W h HR1.out (Nat.le_trans HL1.out (by omega)))
 clear HL1;generalize hH : hasB ⟨sa, si, sc, ss⟩ k n s = B;have HH := hide hH;have R2 : rightB k n s = true → k ≠ 0 → k ≠ 1 → k = 2 := fun h h0 h1 => by
  unfold rightB at h;rw [if_neg h0, if_neg h1] at h
  split at h
  ·assumption
  ·simp at h
 have HR2 := hide R2;clear hI hS hH R2;generalize si.length = nI at *;generalize ss.length = nS at *;cases hr : rightB k n s
 ·rw [hr] at HR;have E : Hid (B = false) := hide (by rw [← HH.out]; unfold hasB; rw [hr]; rfl);clear HH hr;go_enter Tryz.func105, Tryz.ntmps105
  go_wp2_with fail
  refine (unhide (HR _)).mono ?_;rintro r w1 ⟨rfl, b1⟩;have B1 := hide b1;clear b1
  go_wp2
  go_ret
  exact ⟨ret_bool E.out.symm, (two_new B1.out).2.2⟩
 ·rw [hr] at HR;have hB := HH.out;unfold hasB at hB;rw [hr, Bool.true_and] at hB;have HB := hide hB;have k2 := HR2.out hr;have K2 := hide k2;clear HH hr hB k2 HR2;go_enter Tryz.func105, Tryz.ntmps105
  go_wp2_with fail
  refine (unhide (HR _)).mono ?_;rintro r w1 ⟨rfl, b1⟩;obtain ⟨e1, e2, b2⟩ := two_new b1;have c0 := cell_heap e1 0;have c1 := cell_heap e1 1;have c2 := cell_heap e1 2;have c3 := cell_heap e1 3;have d0 := cell_heap e2 0;have d1 := cell_heap e2 1;have d2 := cell_heap e2 2;simp only [List.getElem?_toArray, List.getElem?_cons_zero, List.getElem?_cons_succ] at c0 c1 c2 c3 d0 d1 d2;have B2 := hide b2;have I1 := hide (HI.out.on b2);have S1 := hide (HS.out.on b2);clear b1 b2 e1 e2 HR HI HS;by_cases k0 : k = 0
  ·subst k0;have E : Hid (B = sa) := hide (by rw [← HB.out, if_pos rfl]);clear HB
   go_wp2
   go_ret
   exact ⟨ret_bool E.out.symm, B2.out⟩
  ·have kb : (k == 0) = false := beq_eq_false_iff_ne.2 k0;by_cases k1 : k = 1
   ·subst k1;have E : Hid (B = inIntsB si n) := hide (by rw [← HB.out, if_neg (by omega), if_pos rfl]);have X := hide (hasNumber_any _ _ n _ I1.out);clear HB I1 S1
    go_wp2_with fail
    refine (unhide X).mono ?_;rintro r w2 ⟨rfl, b2⟩
    go_wp2
    go_ret
    exact ⟨ret_bool E.out.symm, B2.out.trans (b2.mono B2.out.size)⟩
   ·have kb1 : (k == 1) = false := beq_eq_false_iff_ne.2 k1;have kk : k = 2 := K2.out k0 k1;subst kk;have E : Hid (B = (inStrsB ss s != sc)) := hide (by rw [← HB.out, if_neg k0, if_neg k1]);have X := fun (d : Nat) (os : Array Obj) => hide (Calls.regrown_of ((HSX (Sort.grow (redrawn w1 d) os) (S1.out.on (below_regrown w1 d os))).out.mono (by rintro r w2 ⟨rfl, rfl⟩; exact ⟨rfl, Below.refl _ _⟩)))
    clear HSX;generalize inStrsB ss s = IB at *;have p0 := cell_regrown c2;have p1 := cell_regrown c3;have p2 := cell_regrown d2;have p3 := cell_regrown d0;have p4 := cell_regrown d1;clear HB I1 S1
    go_wp2
    clear c0 c1 c2 c3 d0 d1 d2;refine wp_region_quiet_below mixed (by kernel_rfl) ?_
    repeat (first | go_big_quiet_step (exact unhide (X _ _)) | quiet_step (exact unhide (X _ _)))
    refine wpQuiet_nil ?_;intro _ hw';obtain ⟨⟨dq, osq⟩, hw''⟩ := hw';subst hw''
    go_wp2
    go_ret
    refine ⟨ret_bool (by rw [E.out]; cases IB <;> cases sc <;> rfl), B2.out.trans ((below_regrown w1 dq osq).mono B2.out.size)⟩
end Go.Proofs.YtlmdcaemjaldfaaGreat
namespace Go.Proofs.YtlmdcaemjaldfaaGreat
open Go.RowKit
structure Fit2 (S : SetV) : Prop where
 good : Good S
 ni : S.ints.length ≤ 2000
 ns : S.strs.length ≤ 2000
theorem Fit.two {S : SetV} (h : Fit S) : Fit2 S := ⟨h.good, Nat.le_trans h.ni (by omega), Nat.le_trans h.ns (by omega)⟩
structure Trio (w0 w : World) (o1 o2 o3 : Obj) : Prop where
 e1 : w.heap[w0.heap.size]? = some o1
 e2 : w.heap[w0.heap.size + 1]? = some o2
 e3 : w.heap[w0.heap.size + 1 + 1]? = some o3
 b : Below w0.heap.size w0 w
theorem Trio.on {w0 w w' : World} {o1 o2 o3 : Obj} (h : Trio w0 w o1 o2 o3) (hb : Below w.heap.size w w') : Trio w0 w' o1 o2 o3 :=
 ⟨(hb.block _ (lt_heap h.e1)).trans h.e1, (hb.block _ (lt_heap h.e2)).trans h.e2, (hb.block _ (lt_heap h.e3)).trans h.e3, h.b.trans (hb.mono h.b.size)⟩
theorem Trio.start (w : World) (o1 o2 o3 : Obj) : Trio w (((w.alloc o1).alloc o2).alloc o3) o1 o2 o3 := by
 have T := Two.start w o1 o2;have s1 : (w.alloc o1).heap.size = w.heap.size + 1 := by show (w.heap.push _).size = _; simp
 have s2 : ((w.alloc o1).alloc o2).heap.size = w.heap.size + 1 + 1 := by show ((w.alloc o1).heap.push _).size = _; rw [Array.size_push, s1]
 have T' := T.al o3;exact ⟨T'.e1, T'.e2, by rw [← s2]; exact heap_new _ _, T'.b⟩
theorem put4_cell {w : World} {p k o : Nat} {x0 x1 x2 x3 : Value} (h : ¬ (p = k)) : ((((w.setCell ⟨p, 0, none⟩ x0).setCell ⟨p, 1, none⟩ x1).setCell ⟨p, 2, none⟩ x2).setCell ⟨p, 3, none⟩ x3).cell? ⟨k, o, none⟩ = w.cell? ⟨k, o, none⟩ := by
 rw [World.cell?_setCell_far _ _ _ _ h, World.cell?_setCell_far _ _ _ _ h, World.cell?_setCell_far _ _ _ _ h, World.cell?_setCell_far _ _ _ _ h]
theorem andR_out {A B : SetV} {o : List Rg} (hA : Good A) (hB : Good B) (h : CommonOut A.ints B.ints o) : o = (andV A B).ints := by
 refine rightR_ext64 _ _ h.1 (andV_good hA hB).ri h.2.1 (andV_good hA hB).i (fun n n0 n1 => ?_);have hh := andV_has hA hB (1, n, noS) n0 n1;rw [has_num, has_num, has_num] at hh;rw [h.2.2.2 n, ← inInts_iff, ← inInts_iff, ← inInts_iff, hh, Bool.and_eq_true]
set_option maxHeartbeats 4000000 in
set_option maxRecDepth 100000 in
theorem and_raw (v u : Value) (sa : Bool) (si : List Rg) (sc : Bool) (ss : List ByteArray) (ta : Bool) (ti : List Rg) (tc : Bool) (ts : List ByteArray) (w : World) (hv : SetAt w v ⟨sa, si, sc, ss⟩) (hu : SetAt w u ⟨ta, ti, tc, ts⟩) (fA : Fit2 ⟨sa, si, sc, ss⟩) (fB : Fit2 ⟨ta, ti, tc, ts⟩) :
  Calls Tryz.prog 160 #[v, u] w fun r w' => (∃ x, r = .returned x ∧ SetAt w' x (andV ⟨sa, si, sc, ss⟩ ⟨ta, ti, tc, ts⟩)) ∧ Below w.heap.size w w' := by
 have HA := hide fA.good;have HB := hide fB.good;have HAI := hide fA.ni;have HAS := hide fA.ns;have HBI := hide fB.ni;have HBS := hide fB.ns;clear fA fB;obtain ⟨vi, vs, rfl, hI, hS⟩ := hv;obtain ⟨ui, us, rfl, hJ, hT⟩ := hu;dsimp only at HAI HAS HBI HBS hI hS hJ hT;obtain ⟨ai, ci, rfl⟩ := hI.form;obtain ⟨aq, cq, rfl⟩ := hS.form;obtain ⟨bi, di, rfl⟩ := hJ.form;obtain ⟨bq, dq, rfl⟩ := hT.form;have T0 := Trio.start w (.cells #[.bool sa, .slice ai si.length ci, .bool sc, .slice aq ss.length cq] 25) (.cells #[.bool ta, .slice bi ti.length di, .bool tc, .slice bq ts.length dq] 25) (.cells #[.bool false, .slice none 0 0, .bool false, .slice none 0 0] 25);have OS := hide (orStrings_any _ _ (notV ⟨sa, si, sc, ss⟩) (notV ⟨ta, ti, tc, ts⟩) _ (hS.on T0.b) (hT.on T0.b) HA.out.rs HB.out.rs (by have := HAS.out; have := HBS.out; unfold notV; dsimp only; omega));dsimp only [notV] at OS;have I0 := hide (hI.on T0.b);have J0 := hide (hJ.on T0.b);have HSI := hide hI.1;have HTI := hide hJ.1;clear hI hJ hS hT;obtain ⟨c0, c1, c2, c3⟩ := setCells T0.e1;obtain ⟨d0, d1, d2, d3⟩ := setCells T0.e2;have CM := fun (W : World) (h1 : RngsAt W (.slice ai si.length ci) si) (h2 : RngsAt W (.slice bi ti.length di) ti) => hide (commonRanges_any _ _ si ti W h1 h2 HA.out.ri HB.out.ri (by have := HAI.out; have := HBI.out; omega))
 go_enter Tryz.func160, Tryz.ntmps160
 go_wp2_with fail
 refine (unhide OS).mono ?_;rintro r w1 ⟨⟨x1, rfl, o1⟩, b1⟩;obtain ⟨p1, n1, k1, rfl⟩ := o1.frm;have T1 := hide (T0.on b1);have I1 := hide (I0.out.on b1);have J1 := hide (J0.out.on b1);have O1 := hide o1;have HLT := hide (lt_heap T0.e3);have HL1 := hide b1.size;clear T0 b1 I0 J0 o1 OS c0 c1 c2 c3 d0 d1 d2 d3;generalize hw0 : (((w.alloc (Obj.cells #[.bool sa, .slice ai si.length ci, .bool sc, .slice aq ss.length cq] 25)).alloc (Obj.cells #[.bool ta, .slice bi ti.length di, .bool tc, .slice bq ts.length dq] 25)).alloc (Obj.cells #[.bool false, .slice none 0 0, .bool false, .slice none 0 0] 25)) = w0 at HLT HL1 O1;clear hw0;obtain ⟨c0, c1, c2, c3⟩ := setCells T1.out.e1;obtain ⟨d0, d1, d2, d3⟩ := setCells T1.out.e2;have ne1 : ¬ (w.heap.size = w.heap.size + 1 + 1) := by omega
 have ne2 : ¬ (w.heap.size + 1 + 1 = w.heap.size) := by omega
 have ne3 : ¬ (w.heap.size + 1 + 1 = w.heap.size + 1) := by omega
 have PH1 := True.intro
 go_wp2
 cases sa
 ·refine wp_region_held_drew (S := (fun w' => (w'.cell? ⟨w.heap.size, 0, none⟩ = some (.bool false) ∧ w'.cell? ⟨w.heap.size, 1, none⟩ = some (.slice ai si.length ci)) ∧ w'.cell? ⟨w.heap.size + 1, 0, none⟩ = some (.bool ta) ∧ w'.cell? ⟨w.heap.size + 1, 1, none⟩ = some (.slice bi ti.length di))) (by kernel_rfl) ⟨⟨c0, c1⟩, d0, d1⟩ (fun hHeld => ?_);refine wpAnyH_take (i := 0) (v := .pointer (some ⟨w.heap.size, 0, none⟩)) rfl (by kernel_rfl) (by kernel_rfl) (by kernel_rfl) (fun _ _ _ h => h) (Or.inl ⟨by rfl, ?_⟩) (by assumption) ?_
  ·intro w' hSw; (try dsimp only at hSw); go_simp; done
  simp only [Act.put, lz];refine wpAnyH_take (i := 1) (v := .bool false) rfl (by kernel_rfl) (by kernel_rfl) (by kernel_rfl) (fun _ _ _ h => h) (Or.inl ⟨by rfl, ?_⟩) (by assumption) ?_
  ·intro w' hSw; (try dsimp only at hSw); go_simp; done
  simp only [Act.put, lz];refine wpAnyH_take (i := 2) (v := .bool false) rfl (by kernel_rfl) (by kernel_rfl) (by kernel_rfl) (fun _ _ _ h => h) (Or.inl ⟨by rfl, ?_⟩) (by assumption) ?_
  ·intro w' hSw; (try dsimp only at hSw); go_simp; done
  simp only [Act.put, lz];refine wpAnyH_take (i := 3) (v := undef) rfl (by kernel_rfl) (by kernel_rfl) (by kernel_rfl) (fun _ _ _ h => h) (Or.inr ⟨by rfl, rfl⟩) (by assumption) ?_;simp only [Act.put, lz];refine wpAnyH_take (i := 4) (v := undef) rfl (by kernel_rfl) (by kernel_rfl) (by kernel_rfl) (fun _ _ _ h => h) (Or.inr ⟨by rfl, rfl⟩) (by assumption) ?_;simp only [Act.put, lz];refine wpAnyH_take (i := 5) (v := .bool false) rfl (by kernel_rfl) (by kernel_rfl) (by kernel_rfl) (fun _ _ _ h => h) (Or.inl ⟨by rfl, ?_⟩) (by assumption) ?_
  ·intro w' hSw; (try dsimp only at hSw); go_simp; done
  simp only [Act.put, lz];refine wpAnyH_take (i := 6) (v := .pointer (some ⟨w.heap.size, 1, none⟩)) rfl (by kernel_rfl) (by kernel_rfl) (by kernel_rfl) (fun _ _ _ h => h) (Or.inl ⟨by rfl, ?_⟩) (by assumption) ?_
  ·intro w' hSw; (try dsimp only at hSw); go_simp; done
  simp only [Act.put, lz];refine wpAnyH_take (i := 7) (v := .slice ai si.length ci) rfl (by kernel_rfl) (by kernel_rfl) (by kernel_rfl) (fun _ _ _ h => h) (Or.inl ⟨by rfl, ?_⟩) (by assumption) ?_
  ·intro w' hSw; (try dsimp only at hSw); go_simp; done
  simp only [Act.put, lz];refine wpAnyH_take (i := 8) (v := .pointer (some ⟨w.heap.size + 1, 1, none⟩)) rfl (by kernel_rfl) (by kernel_rfl) (by kernel_rfl) (fun _ _ _ h => h) (Or.inl ⟨by rfl, ?_⟩) (by assumption) ?_
  ·intro w' hSw; (try dsimp only at hSw); go_simp; done
  simp only [Act.put, lz];refine wpAnyH_take (i := 9) (v := .slice bi ti.length di) rfl (by kernel_rfl) (by kernel_rfl) (by kernel_rfl) (fun _ _ _ h => h) (Or.inl ⟨by rfl, ?_⟩) (by assumption) ?_
  ·intro w' hSw; (try dsimp only at hSw); go_simp; done
  simp only [Act.put, lz];refine wpAnyH_take (i := 11) (v := .bool (!sc || !tc)) rfl (by kernel_rfl) (by kernel_rfl) (by kernel_rfl) (fun _ _ _ h => h) (Or.inl ⟨by rfl, ?_⟩) (by assumption) ?_
  ·intro w' hSw; (try dsimp only at hSw); go_simp; done
  simp only [Act.put, lz];refine wpAnyH_take (i := 12) (v := .bool (!(!sc || !tc))) rfl (by kernel_rfl) (by kernel_rfl) (by kernel_rfl) (fun _ _ _ h => h) (Or.inl ⟨by rfl, ?_⟩) (by assumption) ?_
  ·intro w' hSw; (try dsimp only at hSw); go_simp; done
  simp only [Act.put, lz];refine wpAnyH_take (i := 13) (v := .slice p1 n1 k1) rfl (by kernel_rfl) (by kernel_rfl) (by kernel_rfl) (fun _ _ _ h => h) (Or.inl ⟨by rfl, ?_⟩) (by assumption) ?_
  ·intro w' hSw; (try dsimp only at hSw); go_simp; done
  simp only [Act.put, lz];refine wpAnyH_ready (rs := [10]) (by kernel_rfl) (by simp) ?_;refine AllReadyH.cons rfl (fun K hK => ?_) AllReadyH.nil;go_simp;refine (unhide (CM _ ?_ ?_)).mono ?_; exact I1.out; exact J1.out; rintro r w3 ⟨⟨x3, o3, rfl, ho3, oo3⟩, b'⟩; obtain ⟨p3, n3, k3, rfl⟩ := oo3.frm; have b : Below w1.heap.size w1 w3 := ⟨b'.os, b'.tape, b'.output, b'.size, b'.block⟩; have T3 := hide (T1.out.on b); have O3 := hide oo3; have H3 := hide ho3; have N3 := hide (O1.out.on b); obtain ⟨e0, e1, e2, e3⟩ := setCells T3.out.e1; obtain ⟨f0, f1, f2, f3⟩ := setCells T3.out.e2; obtain ⟨g0, g1, g2, g3⟩ := setCells T3.out.e3; have z0 := frozen_heap T3.out.e3 0; have z1 := frozen_heap T3.out.e3 1; have z2 := frozen_heap T3.out.e3 2; have z3 := frozen_heap T3.out.e3 3; clear b b' oo3 ho3 T1 O1 I1 J1 CM c0 c1 c2 c3 d0 d1 d2 d3;refine hK.out _ _ ⟨⟨e0, e1⟩, f0, f1⟩ (fun hHeld => ?_);clear hK K;refine wpAnyH_take (i := 14) (v := .agg #[.bool false, .slice p3 n3 k3, .bool (!(!sc || !tc)), .slice p1 n1 k1]) rfl (by kernel_rfl) (by kernel_rfl) (by kernel_rfl) (fun _ _ _ h => h) (Or.inl ⟨by rfl, ?_⟩) (by assumption) ?_
  ·intro w' hSw; (try dsimp only at hSw); go_simp; done
  simp only [Act.put, lz];refine wpAnyH_ready (rs := [15]) (by kernel_rfl) (by simp) ?_;refine AllReadyH.cons rfl (fun K hK => ?_) AllReadyH.nil;go_simp;refine hK.out _ _ ⟨⟨(put4_cell ne2).trans e0, (put4_cell ne2).trans e1⟩, (put4_cell ne3).trans f0, (put4_cell ne3).trans f1⟩ (fun hHeld => ?_);clear hK K;refine wpAnyH_done (by kernel_rfl) ?_ _;have hsz := T3.out.b.size;have E3 := andR_out HA.out HB.out H3.out;subst E3;have MS := made_set (andV ⟨false, si, sc, ss⟩ ⟨ta, ti, tc, ts⟩) (p := w.heap.size + 1 + 1) T3.out.e3 (by omega) T3.out.b O3.out N3.out (Nat.lt_of_lt_of_le HLT.out HL1.out) HLT.out (andV_good HA.out HB.out) (by have := (andV_len HA.out HB.out).1; have := HAI.out; have := HBI.out; dsimp only at *; omega) (by have := (andV_len HA.out HB.out).2; have := HAS.out; have := HBS.out; dsimp only at *; omega);have hab : (andV ⟨false, si, sc, ss⟩ ⟨ta, ti, tc, ts⟩).absent = false := by cases ta <;> rfl
  have hco : (andV ⟨false, si, sc, ss⟩ ⟨ta, ti, tc, ts⟩).co = (sc && tc) := by cases sc <;> cases tc <;> rfl
  rw [hab, hco] at MS;obtain ⟨m1, m2, m3⟩ := MS
  go_wp2
  exact bodyPost_ret (results_cell_row rfl _ _ (w.heap.size + 1 + 1) 25 _ (0, 0) _ rfl m1 Tryz.underlying25 rfl infoSet) rfl ⟨⟨_, rfl, m2⟩, m3⟩
 ·go_region_held3 (fun w' => (w'.cell? ⟨w.heap.size, 0, none⟩ = some (.bool true) ∧ w'.cell? ⟨w.heap.size, 1, none⟩ = some (.slice ai si.length ci)) ∧ w'.cell? ⟨w.heap.size + 1, 0, none⟩ = some (.bool ta) ∧ w'.cell? ⟨w.heap.size + 1, 1, none⟩ = some (.slice bi ti.length di)) (first | go_keep | (dsimp only; refine ⟨⟨?_, ?_⟩, ?_, ?_⟩ <;> first | assumption | go_keep))
  ((first
   | (go_at_call 173; have pz := PH1; clear pz PH1; refine (unhide (CM _ ?_ ?_)).mono ?_; exact I1.out; exact J1.out; rintro r w3 ⟨⟨x3, o3, rfl, ho3, oo3⟩, b'⟩; obtain ⟨p3, n3, k3, rfl⟩ := oo3.frm; have b : Below w1.heap.size w1 w3 := ⟨b'.os, b'.tape, b'.output, b'.size, b'.block⟩; have T3 := hide (T1.out.on b); have O3 := hide oo3; have H3 := hide ho3; have N3 := hide (O1.out.on b); obtain ⟨e0, e1, e2, e3⟩ := setCells T3.out.e1; obtain ⟨f0, f1, f2, f3⟩ := setCells T3.out.e2; obtain ⟨g0, g1, g2, g3⟩ := setCells T3.out.e3; have z0 := frozen_heap T3.out.e3 0; have z1 := frozen_heap T3.out.e3 1; have z2 := frozen_heap T3.out.e3 2; have z3 := frozen_heap T3.out.e3 3; have PH3 := True.intro; clear b b' oo3 ho3 T1 O1 I1 J1 CM c0 c1 c2 c3 d0 d1 d2 d3)))
  have hsz := T3.out.b.size;have E3 := andR_out HA.out HB.out H3.out;subst E3;have MS := made_set (andV ⟨true, si, sc, ss⟩ ⟨ta, ti, tc, ts⟩) (p := w.heap.size + 1 + 1) T3.out.e3 (by omega) T3.out.b O3.out N3.out (Nat.lt_of_lt_of_le HLT.out HL1.out) HLT.out (andV_good HA.out HB.out) (by have := (andV_len HA.out HB.out).1; have := HAI.out; have := HBI.out; dsimp only at *; omega) (by have := (andV_len HA.out HB.out).2; have := HAS.out; have := HBS.out; dsimp only at *; omega);have hab : (andV ⟨true, si, sc, ss⟩ ⟨ta, ti, tc, ts⟩).absent = ta := by cases ta <;> rfl
  have hco : (andV ⟨true, si, sc, ss⟩ ⟨ta, ti, tc, ts⟩).co = (sc && tc) := by cases sc <;> cases tc <;> rfl
  rw [hab, hco] at MS;obtain ⟨m1, m2, m3⟩ := MS
  go_wp2
  exact bodyPost_ret (results_cell_row rfl _ _ (w.heap.size + 1 + 1) 25 _ (0, 0) _ rfl m1 Tryz.underlying25 rfl infoSet) rfl ⟨⟨_, rfl, m2⟩, m3⟩
theorem and_any (v u : Value) (A B : SetV) (w : World) (hv : SetAt w v A) (hu : SetAt w u B) (fA : Fit2 A) (fB : Fit2 B) :
  Calls Tryz.prog 160 #[v, u] w fun r w' => (∃ x, r = .returned x ∧ SetAt w' x (andV A B)) ∧ Below w.heap.size w w' := and_raw v u A.absent A.ints A.co A.strs B.absent B.ints B.co B.strs w hv hu fA fB
theorem in_empty {A B : SetV} (hA : Good A) (hB : Good B) (lA : A.strs.length ≤ 1000) (lB : B.strs.length ≤ 1000) : emptyB (andV A (notV B)) = inB A B := by
 have gN := notV_good hB;have gX := andV_good hA gN;have xl := (andV_len hA gN).2;have nl := (notV_len B hB).2
 apply bool_of_iff
 rw [inB_iff hA hB (by omega)];have he : emptyB (andV A (notV B)) = true ↔ andV A (notV B) = noSet := by
  rw [← sameB_iff];generalize andV A (notV B) = X;obtain ⟨xa, xi, xc, xs⟩ := X;cases xa <;> cases xi <;> cases xc <;> cases xs <;> simp [emptyB, sameB, noSet, rngEqB, strEqB]
 rw [he]
 constructor
 ·intro h p b0 b1 hp;have h1 := andV_has hA gN p b0 b1;have h2 := notV_has hB p b0 b1;rw [h, hp, h2, has_right hp] at h1;cases hb : hasP B p
  ·rw [hb] at h1;have h3 : hasP noSet p = false := by
    have := andV_has noSet_good noSet_good p b0 b1;cases hn : hasP noSet p
    ·rfl
    ·exfalso
     have hr := has_right hn;rcases rightV_cases hr with e | ⟨n, e⟩ | ⟨s, hs, e⟩
     ·rw [e, has_abs] at hn; exact absurd hn (by simp [noSet])
     ·rw [e, has_num] at hn; exact absurd hn (by simp [noSet, inIntsB])
     ·rw [e, has_str _ hs] at hn; exact absurd hn (by simp [noSet, inStrsB])
   rw [h3] at h1;exact absurd h1 (by simp)
  ·rfl
 ·intro h;refine good_ext gX noSet_good (by simp [noSet]; omega) (fun p b0 b1 => ?_);have h1 := andV_has hA gN p b0 b1;have h2 := notV_has hB p b0 b1;have h3 : hasP noSet p = false := by
   cases hn : hasP noSet p
   ·rfl
   ·exfalso
    have hr := has_right hn;rcases rightV_cases hr with e | ⟨n, e⟩ | ⟨s, hs, e⟩
    ·rw [e, has_abs] at hn; exact absurd hn (by simp [noSet])
    ·rw [e, has_num] at hn; exact absurd hn (by simp [noSet, inIntsB])
    ·rw [e, has_str _ hs] at hn; exact absurd hn (by simp [noSet, inStrsB])
  rw [h1, h2, h3];cases ha : hasP A p
  ·rfl
  ·rw [h p b0 b1 ha]; simp
set_option maxHeartbeats 4000000 in
set_option maxRecDepth 100000 in
theorem in_any (v u : Value) (A B : SetV) (w : World) (hv : SetAt w v A) (hu : SetAt w u B) (fA : Fit A) (fB : Fit B) :
  Calls Tryz.prog 170 #[v, u] w fun r w' => r = .returned (.bool (inB A B)) ∧ Below w.heap.size w w' := by
 have HE := hide (in_empty fA.good fB.good fA.ns fB.ns);have nl := notV_len B fB.good;have al := andV_len fA.good (notV_good fB.good);have a1 := fA.ni;have a2 := fA.ns;have b1 := fB.ni;have b2 := fB.ns;have NB := fun (W : World) (x : Value) (h : SetAt W x B) => hide (not_any x B W h fB)
 have AB := fun (W : World) (x y : Value) (h1 : SetAt W x A) (h2 : SetAt W y (notV B)) => hide (and_any x y A (notV B) W h1 h2 fA.two ⟨notV_good fB.good, by omega, by omega⟩)
 have EB := fun (W : World) (x : Value) (h : SetAt W x (andV A (notV B))) => hide (empty_any x _ W h)
 clear nl al a1 a2 b1 b2 fA fB;obtain ⟨vi, vs, rfl, hI, hS⟩ := hv;obtain ⟨ui, us, rfl, hJ, hT⟩ := hu;obtain ⟨ai, ci, rfl⟩ := hI.form;obtain ⟨aq, cq, rfl⟩ := hS.form;obtain ⟨bi, di, rfl⟩ := hJ.form;obtain ⟨bq, dq, rfl⟩ := hT.form;have T0 := Two.start w (.cells #[.bool A.absent, .slice ai A.ints.length ci, .bool A.co, .slice aq A.strs.length cq] 25) (.cells #[.bool B.absent, .slice bi B.ints.length di, .bool B.co, .slice bq B.strs.length dq] 25);have V0 : Hid (SetAt _ (.agg #[.bool A.absent, .slice ai A.ints.length ci, .bool A.co, .slice aq A.strs.length cq]) A) := hide ⟨_, _, rfl, hI.on T0.b, hS.on T0.b⟩;have U0 : Hid (SetAt _ (.agg #[.bool B.absent, .slice bi B.ints.length di, .bool B.co, .slice bq B.strs.length dq]) B) := hide ⟨_, _, rfl, hJ.on T0.b, hT.on T0.b⟩;clear hI hJ hS hT;obtain ⟨c0, c1, c2, c3⟩ := setCells T0.e1;obtain ⟨d0, d1, d2, d3⟩ := setCells T0.e2;have T1 := hide T0;clear T0;go_enter Tryz.func170, Tryz.ntmps170
 go_wp2
 generalize ((w.alloc (Obj.cells #[.bool A.absent, .slice ai A.ints.length ci, .bool A.co, .slice aq A.strs.length cq] 25)).alloc (Obj.cells #[.bool B.absent, .slice bi B.ints.length di, .bool B.co, .slice bq B.strs.length dq] 25)) = w1 at T1 V0 U0 c0 c1 c2 c3 d0 d1 d2 d3 ⊢;have PH1 := True.intro
 go_region_held3 (fun w' => ((w'.cell? ⟨w.heap.size, 0, none⟩ = some (.bool A.absent) ∧ w'.cell? ⟨w.heap.size, 1, none⟩ = some (.slice ai A.ints.length ci)) ∧ w'.cell? ⟨w.heap.size, 2, none⟩ = some (.bool A.co) ∧ w'.cell? ⟨w.heap.size, 3, none⟩ = some (.slice aq A.strs.length cq)) ∧ (w'.cell? ⟨w.heap.size + 1, 0, none⟩ = some (.bool B.absent) ∧ w'.cell? ⟨w.heap.size + 1, 1, none⟩ = some (.slice bi B.ints.length di)) ∧ w'.cell? ⟨w.heap.size + 1, 2, none⟩ = some (.bool B.co) ∧ w'.cell? ⟨w.heap.size + 1, 3, none⟩ = some (.slice bq B.strs.length dq)) (first | go_keep | (refine ⟨⟨⟨?_, ?_⟩, ?_, ?_⟩, ⟨?_, ?_⟩, ?_, ?_⟩ <;> assumption))
  ((first
   | (go_at_call 137; have pz := PH1; clear pz PH1; refine (unhide (NB _ _ ?_)).mono ?_; exact U0.out; rintro r w2 ⟨⟨x2, rfl, s2⟩, b'⟩; have b : Below w1.heap.size w1 w2 := ⟨b'.os, b'.tape, b'.output, b'.size, b'.block⟩; have T2 := hide (T1.out.on b); have V2 := hide (V0.out.on b); have S2 := hide s2; obtain ⟨e0, e1, e2, e3⟩ := setCells T2.out.e1; obtain ⟨f0, f1, f2, f3⟩ := setCells T2.out.e2; have PH2 := True.intro; clear b b' s2 T1 V0 U0)
   | (go_at_call 160; have pz := PH2; clear pz PH2; refine (unhide (AB _ _ _ ?_ ?_)).mono ?_; exact V2.out; exact S2.out; rintro r w3 ⟨⟨x3, rfl, s3⟩, b'⟩; have b : Below w2.heap.size w2 w3 := ⟨b'.os, b'.tape, b'.output, b'.size, b'.block⟩; have T3 := hide (T2.out.on b); have S3 := hide s3; obtain ⟨e0, e1, e2, e3⟩ := setCells T3.out.e1; obtain ⟨f0, f1, f2, f3⟩ := setCells T3.out.e2; have PH3 := True.intro; clear b b' s3 T2 V2 S2)
   | (go_at_call 153; have pz := PH3; clear pz PH3; refine (unhide (EB _ _ ?_)).mono ?_; exact S3.out; rintro r w4 ⟨rfl, b'⟩; have b : Below w3.heap.size w3 w4 := ⟨b'.os, b'.tape, b'.output, b'.size, b'.block⟩; have T4 := hide (T3.out.on b); obtain ⟨e0, e1, e2, e3⟩ := setCells T4.out.e1; obtain ⟨f0, f1, f2, f3⟩ := setCells T4.out.e2; have PH4 := True.intro; clear b b' T3 S3)))
 go_wp2
 go_ret
 exact ⟨ret_bool HE.out, T4.out.b⟩
theorem setProg : SetProg := {
 all := all_any,
 not := not_any,
 and := fun v u A B w hv hu fA fB => and_any v u A B w hv hu fA.two fB.two,
 in_ := in_any,
 empty := fun v S w hv _ => empty_any v S w hv,
 same := fun v u A B w hv hu _ _ => same_any v u A B w hv hu,
 has := fun v S k n s w hv hf _ _ hs => has_any v S k n s w hv hf hs }
end Go.Proofs.YtlmdcaemjaldfaaGreat
namespace Go.Proofs.YtlmdcaemjaldfaaGreat
open Go.RowKit
structure BoxProgS : Prop where
 in_ : ∀ (v u : Value) (a b : BoxV) (w : World), BoxAt w v a → BoxAt w u b → FitBx a → FitBx b → Calls Tryz.prog 135 #[v, u] w fun r w' => r = .returned (.bool (inBx a b)) ∧ Below w.heap.size w w'
 empty : ∀ (v : Value) (b : BoxV) (w : World), BoxAt w v b → FitBx b → Calls Tryz.prog 131 #[v] w fun r w' => r = .returned (.bool (emptyBx b)) ∧ Below w.heap.size w w'
 has : ∀ (v : Value) (b : BoxV) (e : EvV) (w : World), BoxAt w v b → FitBx b → evFit e → inE e → Calls Tryz.prog 56 #[v, evVal e] w fun r w' => r = .returned (.bool (hasE b e)) ∧ Below w.heap.size w w'
theorem boxProg0 : BoxProgS := {
 in_ := fun v u a b w h h' f f' => boxIn_any setProg v u a b w h h' f f'
 empty := fun v b w h f => boxEmpty_any setProg v b w h f
 has := fun v b e w h f ef ee => boxHas_any setProg v b e w h f ef ee }
def nilOk (v : Value) : Prop := ∀ n c, v = .slice none n c → v = .slice none 0 0
section
variable {ops : Array Oper} {Q : Exit → Act → World → Prop} {S : World → Prop} {o : Oper} {a : Act}
theorem wl_evBox {rest : List Oper} {w : World} (hw : Region.wanted o (yielded ops a.tmps) = true) (x : Operand) (ho : o.op = .box 44 x) {e : EvV} (hx : a.eval x = evVal e)
  (h : ∀ W g, EvIn W g e → Below w.heap.size w W → wpList Tryz.prog ops Q rest (a.put o.dst (.pointer (some ⟨g, 0, none⟩))) W) : wpList Tryz.prog ops Q (o :: rest) a w := by
 refine wl_run hw (.pointer (some ⟨w.heap.size, 0, none⟩)) (w.alloc (evObj e)) ?_ (h _ _ (heap_new _ _) ((Below.refl _ w).alloc (Nat.le_refl _) _));simp only [execOp, ho, hx, evVal, evObj];go_simp
end
end Go.Proofs.YtlmdcaemjaldfaaGreat
namespace Go.Proofs.YtlmdcaemjaldfaaGreat
open Go.RowKit
set_option maxHeartbeats 4000000 in
set_option maxRecDepth 100000 in
theorem tidied1_any (c d : BxC) (g : Nat) (a b : BoxV) (w : World) (hv : BoxAt w c.val a) (HQ : BcIn w g d) (hu : BoxAt w d.val b) (fa : FitBx a) (fb : FitBx b) :
  Calls Tryz.prog 134 #[c.val, .pointer (some ⟨g, 0, none⟩)] w fun r w' => r = .returned (.bool (inBx a b)) ∧ Below w.heap.size w w' := by
 have D := Below.refl w.heap.size w;go_enter Tryz.func134, Tryz.ntmps134;refine wp_seq_k (fun K1 hK1 => ?_);refine wp_region_lit ?_;refine wl_boxBc (o := .mk ..) (by rfl) _ rfl rfl (fun v1 gb1 hggb1 IO2 kb => ?_);simp only [Act.put, lz];replace D := D.trans (kb.mono D.size);replace HQ := HQ.on kb;replace hv := hv.on kb;replace hu := hu.on kb;clear kb;refine wl_yield (o := .mk ..) (.bool false) (yl_assign (by rfl) _ rfl _ rfl) ?_;simp only [Act.put, lz];refine wpList_nil ?_;refine hK1 _ _ ?_;clear hK1 K1;refine wp_seq_k (fun K2 hK2 => ?_);refine wp_region_lit ?_;refine wl_yield (o := .mk ..) (BxC.val c) (yl_bx (by rfl) _ rfl _ _ rfl _ (fun _ h => by subst h; exact BcIn.at IO2)) ?_;simp only [Act.put, lz];refine wl_yield (o := .mk ..) (BxC.val d) (yl_bx (by rfl) _ rfl _ _ rfl _ (fun _ h => by subst h; exact BcIn.at HQ)) ?_;simp only [Act.put, lz];refine wl_call (o := .mk ..) (by rfl) 135 _ _ rfl #[BxC.val c, BxC.val d] rfl (run_call Tryz.func135 (by kernel_rfl) (by kernel_rfl)) ?_;refine (boxProg0.in_ _ _ a b _ hv hu fa fb).mono ?_;rintro r v2 ⟨rfl, kb⟩;replace D := D.trans (kb.mono D.size);replace HQ := HQ.on kb;replace hv := hv.on kb;replace hu := hu.on kb;replace IO2 := IO2.on kb;clear kb;refine ⟨.bool (inBx a b), rfl, ?_⟩;simp only [Act.put, lz];refine wl_yield (o := .mk ..) (.bool (inBx a b)) (yl_assign (by rfl) _ rfl _ rfl) ?_;simp only [Act.put, lz];refine wpList_nil ?_;refine hK2 _ _ ?_;clear hK2 K2;refine wp_ret ?_;go_ret
 exact ⟨rfl, D⟩
set_option maxHeartbeats 4000000 in
set_option maxRecDepth 100000 in
theorem lies1_any (c d : BxC) (g : Nat) (a b : BoxV) (w : World) (hv : BoxAt w c.val a) (HQ : BcIn w g d) (hu : BoxAt w d.val b) (fa : FitBx a) (fb : FitBx b) :
  Calls Tryz.prog 155 #[c.val, .pointer (some ⟨g, 0, none⟩)] w fun r w' => r = .returned (.bool (inBx b a)) ∧ Below w.heap.size w w' := by
 have D := Below.refl w.heap.size w;go_enter Tryz.func155, Tryz.ntmps155;refine wp_seq_k (fun K1 hK1 => ?_);refine wp_region_lit ?_;refine wl_boxBc (o := .mk ..) (by rfl) _ rfl rfl (fun v1 gb1 hggb1 IO2 kb => ?_);simp only [Act.put, lz];replace D := D.trans (kb.mono D.size);replace HQ := HQ.on kb;replace hv := hv.on kb;replace hu := hu.on kb;clear kb;refine wl_yield (o := .mk ..) (.bool false) (yl_assign (by rfl) _ rfl _ rfl) ?_;simp only [Act.put, lz];refine wpList_nil ?_;refine hK1 _ _ ?_;clear hK1 K1;refine wp_seq_k (fun K2 hK2 => ?_);refine wp_region_lit ?_;refine wl_yield (o := .mk ..) (BxC.val d) (yl_bx (by rfl) _ rfl _ _ rfl _ (fun _ h => by subst h; exact BcIn.at HQ)) ?_;simp only [Act.put, lz];refine wl_yield (o := .mk ..) (BxC.val c) (yl_bx (by rfl) _ rfl _ _ rfl _ (fun _ h => by subst h; exact BcIn.at IO2)) ?_;simp only [Act.put, lz];refine wl_call (o := .mk ..) (by rfl) 135 _ _ rfl #[BxC.val d, BxC.val c] rfl (run_call Tryz.func135 (by kernel_rfl) (by kernel_rfl)) ?_;refine (boxProg0.in_ _ _ b a _ hu hv fb fa).mono ?_;rintro r v2 ⟨rfl, kb⟩;replace D := D.trans (kb.mono D.size);replace HQ := HQ.on kb;replace hv := hv.on kb;replace hu := hu.on kb;replace IO2 := IO2.on kb;clear kb;refine ⟨.bool (inBx b a), rfl, ?_⟩;simp only [Act.put, lz];refine wl_yield (o := .mk ..) (.bool (inBx b a)) (yl_assign (by rfl) _ rfl _ rfl) ?_;simp only [Act.put, lz];refine wpList_nil ?_;refine hK2 _ _ ?_;clear hK2 K2;refine wp_ret ?_;go_ret
 exact ⟨rfl, D⟩
set_option maxHeartbeats 4000000 in
set_option maxRecDepth 100000 in
theorem has1_any (c : BxC) (e : EvV) (g : Nat) (a : BoxV) (w : World) (hv : BoxAt w c.val a) (HE : EvIn w g e) (fa : FitBx a) (hf : evFit e) (he : inE e) :
  Calls Tryz.prog 55 #[c.val, .pointer (some ⟨g, 0, none⟩)] w fun r w' => r = .returned (.bool (hasE a e)) ∧ Below w.heap.size w w' := by
 have D := Below.refl w.heap.size w;go_enter Tryz.func55, Tryz.ntmps55;refine wp_seq_k (fun K1 hK1 => ?_);refine wp_region_lit ?_;refine wl_boxBc (o := .mk ..) (by rfl) _ rfl rfl (fun v1 gb1 hggb1 IO2 kb => ?_);simp only [Act.put, lz];replace D := D.trans (kb.mono D.size);replace HE := HE.on kb;replace hv := hv.on kb;clear kb;refine wl_yield (o := .mk ..) (.bool false) (yl_assign (by rfl) _ rfl _ rfl) ?_;simp only [Act.put, lz];refine wpList_nil ?_;refine hK1 _ _ ?_;clear hK1 K1;refine wp_seq_k (fun K2 hK2 => ?_);refine wp_region_lit ?_;refine wl_yield (o := .mk ..) (BxC.val c) (yl_bx (by rfl) _ rfl _ _ rfl _ (fun _ h => by subst h; exact BcIn.at IO2)) ?_;simp only [Act.put, lz];refine wl_yield (o := .mk ..) (evVal e) (yl_ev (by rfl) _ rfl _ 0 rfl _ _ _ _ _ _ _ _ _ _ _ _ (fun _ h => by subst h; exact evCells HE)) ?_;simp only [Act.put, lz];refine wl_call (o := .mk ..) (by rfl) 56 _ _ rfl #[BxC.val c, evVal e] rfl (run_call Tryz.func56 (by kernel_rfl) (by kernel_rfl)) ?_;refine (boxProg0.has _ a e _ hv fa hf he).mono ?_;rintro r v2 ⟨rfl, kb⟩;replace D := D.trans (kb.mono D.size);replace HE := HE.on kb;replace hv := hv.on kb;replace IO2 := IO2.on kb;clear kb;refine ⟨.bool (hasE a e), rfl, ?_⟩;simp only [Act.put, lz];refine wl_yield (o := .mk ..) (.bool (hasE a e)) (yl_assign (by rfl) _ rfl _ rfl) ?_;simp only [Act.put, lz];refine wpList_nil ?_;refine hK2 _ _ ?_;clear hK2 K2;refine wp_ret ?_;go_ret
 exact ⟨rfl, D⟩
def FitL (l : List BoxV) : Prop := ∀ b ∈ l, FitBx b
theorem range_anyC (f : BoxV → Bool) {cs : List BxC} {l : List BoxV} (h : cs.length = l.length) : (List.range cs.length).any (fun i => f (l.getD i zBox)) = l.any f := by rw [h]; exact range_anyB f l
set_option maxHeartbeats 4000000 in
set_option maxRecDepth 100000 in
theorem liesInOne_any (d : BxC) (b : BoxV) (v : Value) (cs : List BxC) (l : List BoxV) (w : World) (hu : BoxAt w d.val b) (fb : FitBx b) (hr : BxRow w v cs) (ha : AllBx w cs l) (fl : FitL l) :
  Calls Tryz.prog 132 #[d.val, v] w fun r w' => r = .returned (.bool (l.any fun k => inBx b k)) ∧ Below w.heap.size w w' := by
 have D := Below.refl w.heap.size w;go_enter Tryz.func132, Tryz.ntmps132;refine wp_seq_k (fun K1 hK1 => ?_);refine wp_region_lit ?_;refine wl_boxBc (o := .mk ..) (by rfl) _ rfl rfl (fun v1 gb1 hggb1 HQ kb => ?_);simp only [Act.put, lz];replace D := D.trans (kb.mono D.size);clear kb;refine wl_yield (o := .mk ..) (.bool false) (yl_assign (by rfl) _ rfl _ rfl) ?_;simp only [Act.put, lz];refine wpList_nil ?_;refine hK1 _ _ ?_;clear hK1 K1;refine wp_seq_k (fun K2 hK2 => ?_);refine wp_region_lit ?_;refine wl_yield (o := .mk ..) (v) (yl_move (by rfl) _ rfl _ rfl) ?_;simp only [Act.put, lz];refine wl_yield (o := .mk ..) (.func (.func 155) #[] #[.pointer (some ⟨gb1, 0, none⟩)]) (yl_fn (by rfl) _ _ rfl _ rfl) ?_;simp only [Act.put, lz];refine wl_call (o := .mk ..) (by rfl) 154 _ _ rfl #[v, .func (.func 155) #[] #[.pointer (some ⟨gb1, 0, none⟩)]] rfl (run_call Tryz.func154 (by kernel_rfl) (by kernel_rfl)) ?_;refine (containsB_any 155 (run_call Tryz.func155 (by kernel_rfl) (by kernel_rfl)) _ v cs (fun i => inBx b (l.getD i zBox)) _ (hr.on D) (fun i hi W hb => lies1_any _ d _ _ b _ ((ha.2 i (by rw [← ha.1]; exact hi)).on (D.trans (hb.mono D.size))) (HQ.on hb) (hu.on (D.trans (hb.mono D.size))) (fl _ (getB_mem (by rw [← ha.1]; exact hi))) fb)).mono ?_;rintro r v2 ⟨rfl, kb⟩;replace D := D.trans (kb.mono D.size);replace HQ := HQ.on kb;clear kb;refine ⟨.bool ((List.range cs.length).any fun i => inBx b (l.getD i zBox)), rfl, ?_⟩;simp only [Act.put, lz];refine wl_yield (o := .mk ..) (.bool ((List.range cs.length).any fun i => inBx b (l.getD i zBox))) (yl_assign (by rfl) _ rfl _ rfl) ?_;simp only [Act.put, lz];refine wpList_nil ?_;refine hK2 _ _ ?_;clear hK2 K2;refine wp_ret ?_;go_ret
 exact ⟨by rw [range_anyC (fun k => inBx b k) ha.1]; rfl, D⟩
set_option maxHeartbeats 4000000 in
set_option maxRecDepth 100000 in
theorem progHas_any (v : Value) (l : List BoxV) (e : EvV) (w : World) (hv : Bxs w v l) (fl : FitL l) (hf : evFit e) (he : inE e) :
  Calls Tryz.prog 18 #[v, evVal e] w fun r w' => r = .returned (.bool (hasL l e)) ∧ Below w.heap.size w w' := by
 obtain ⟨cs, hr, ha⟩ := hv;have D := Below.refl w.heap.size w;go_enter Tryz.func18, Tryz.ntmps18;refine wp_seq_k (fun K1 hK1 => ?_);refine wp_region_lit ?_;refine wl_evBox (o := .mk ..) (by rfl) _ rfl rfl (fun v1 gb1 HE kb => ?_);simp only [Act.put, lz];replace D := D.trans (kb.mono D.size);clear kb;refine wl_yield (o := .mk ..) (.bool false) (yl_assign (by rfl) _ rfl _ rfl) ?_;simp only [Act.put, lz];refine wpList_nil ?_;refine hK1 _ _ ?_;clear hK1 K1;refine wp_seq_k (fun K2 hK2 => ?_);refine wp_region_lit ?_;refine wl_yield (o := .mk ..) (v) (yl_move (by rfl) _ rfl _ rfl) ?_;simp only [Act.put, lz];refine wl_yield (o := .mk ..) (.func (.func 55) #[] #[.pointer (some ⟨gb1, 0, none⟩)]) (yl_fn (by rfl) _ _ rfl _ rfl) ?_;simp only [Act.put, lz];refine wl_call (o := .mk ..) (by rfl) 54 _ _ rfl #[v, .func (.func 55) #[] #[.pointer (some ⟨gb1, 0, none⟩)]] rfl (run_call Tryz.func54 (by kernel_rfl) (by kernel_rfl)) ?_;refine (containsF_any 55 (run_call Tryz.func55 (by kernel_rfl) (by kernel_rfl)) _ v cs (fun i => hasE (l.getD i zBox) e) _ (hr.on D) (fun i hi W hb => has1_any _ e _ _ _ ((ha.2 i (by rw [← ha.1]; exact hi)).on (D.trans (hb.mono D.size))) (HE.on hb) (fl _ (getB_mem (by rw [← ha.1]; exact hi))) hf he)).mono ?_;rintro r v2 ⟨rfl, kb⟩;replace D := D.trans (kb.mono D.size);replace HE := HE.on kb;clear kb;refine ⟨.bool ((List.range cs.length).any fun i => hasE (l.getD i zBox) e), rfl, ?_⟩;simp only [Act.put, lz];refine wl_yield (o := .mk ..) (.bool ((List.range cs.length).any fun i => hasE (l.getD i zBox) e)) (yl_assign (by rfl) _ rfl _ rfl) ?_;simp only [Act.put, lz];refine wpList_nil ?_;refine hK2 _ _ ?_;clear hK2 K2;refine wp_ret ?_;go_ret
 exact ⟨by rw [range_anyC (fun k => hasE k e) ha.1]; rfl, D⟩
end Go.Proofs.YtlmdcaemjaldfaaGreat
namespace Go.Proofs.YtlmdcaemjaldfaaGreat
open Go.RowKit
theorem allBx_snoc {w : World} {ks : List BxC} {L : List BoxV} {c : BxC} {b : BoxV} (h : AllBx w ks L) (hb : BoxAt w c.val b) : AllBx w (ks ++ [c]) (L ++ [b]) := by
 refine ⟨by rw [List.length_append, List.length_append, h.1]; rfl, fun i hi => ?_⟩;rw [List.length_append, List.length_singleton] at hi;by_cases hi' : i < L.length
 ·rw [getB_lt hi', List.getD_eq_getElem?_getD, List.getElem?_append_left (by rw [h.1]; exact hi'), ← List.getD_eq_getElem?_getD];exact h.2 i hi'
 ·have e : i = L.length := by omega
  subst e;rw [getB_end, List.getD_eq_getElem?_getD, ← h.1, List.getElem?_append_right (Nat.le_refl _)]
  simpa using hb
theorem allBx_filter {w : World} {ks : List BxC} {L : List BoxV} (h : AllBx w ks L) (q : BoxV → Bool) : ∀ m, m ≤ L.length → AllBx w (keptB (fun i => q (L.getD i zBox)) ks m) ((L.take m).filter fun k => !q k)
 | 0, _ => ⟨by simp [keptB], fun i hi => by simp at hi⟩
 | m + 1, hm => by
  have ih := allBx_filter h q m (by omega);have e : L.take (m + 1) = L.take m ++ [L.getD m zBox] := by
   rw [List.take_add_one, List.getD_eq_getElem?_getD, List.getElem?_eq_getElem (by omega)]
   rfl
  rw [e, List.filter_append];cases hq : q (L.getD m zBox)
  ·rw [keptB_no hq, show [L.getD m zBox].filter (fun k => !q k) = [L.getD m zBox] by rw [List.filter_cons, List.filter_nil, hq]; rfl];exact allBx_snoc ih (h.2 m (by omega))
  ·rw [keptB_yes hq, show [L.getD m zBox].filter (fun k => !q k) = [] by rw [List.filter_cons, List.filter_nil, hq]; rfl, List.append_nil];exact ih
theorem tidP_take (l : List BoxV) (k : Nat) (hk : k < l.length) : tidP (l.take (k + 1)) = stepT (tidP (l.take k)) (l.getD k zBox) := by
 have h1 : l.take (k + 1) = l.take k ++ [l.getD k zBox] := by
  rw [List.take_add_one, List.getD_eq_getElem?_getD, List.getElem?_eq_getElem hk]
  rfl
 unfold tidP;rw [h1, List.foldl_append]
 rfl
theorem stepT_len (L : List BoxV) (b : BoxV) : (stepT L b).length ≤ L.length + 1 := by
 unfold stepT
 split
 ·omega
 ·rw [List.length_append, List.length_singleton];have := List.length_filter_le (fun k => !inBx k b) L;omega
theorem tidP_len (l : List BoxV) : ∀ k, k ≤ l.length → (tidP (l.take k)).length ≤ k
 | 0, _ => by simp [tidP]
 | k + 1, hk => by
  rw [tidP_take l k (by omega)];have := tidP_len l k (by omega);have := stepT_len (tidP (l.take k)) (l.getD k zBox);omega
theorem stepT_mem {L : List BoxV} {b x : BoxV} (h : x ∈ stepT L b) : x ∈ L ∨ x = b := by
 unfold stepT at h
 split at h
 ·exact Or.inl h
 ·rcases List.mem_append.1 h with h | h
  ·exact Or.inl (List.mem_filter.1 h).1
  ·exact Or.inr (List.mem_singleton.1 h)
theorem tidP_mem (l : List BoxV) : ∀ k, k ≤ l.length → ∀ x ∈ tidP (l.take k), x ∈ l
 | 0, _, x, h => by simp [tidP] at h
 | k + 1, hk, x, h => by
  rw [tidP_take l k (by omega)] at h;rcases stepT_mem h with h | rfl
  ·exact tidP_mem l k (by omega) x h
  ·exact getB_mem (by omega)
theorem tidied_step {w : World} {ks ks' : List BxC} {l : List BoxV} {c : BxC} {k : Nat} (hA : AllBx w ks (tidP (l.take k))) (hk : k < l.length) (hb : BoxAt w c.val (l.getD k zBox))
  (h : (emptyBx (l.getD k zBox) = false ∧ ((tidP (l.take k)).any fun k' => inBx (l.getD k zBox) k') = false ∧ ks' = keptB (fun i => inBx ((tidP (l.take k)).getD i zBox) (l.getD k zBox)) ks ks.length ++ [c]) ∨
   ((emptyBx (l.getD k zBox) = true ∨ ((tidP (l.take k)).any fun k' => inBx (l.getD k zBox) k') = true) ∧ ks' = ks)) : AllBx w ks' (tidP (l.take (k + 1))) := by
 rw [tidP_take l k hk];unfold stepT;rcases h with ⟨h1, h2, rfl⟩ | ⟨h, rfl⟩
 ·rw [h1, h2, Bool.or_false, if_neg (by simp)];have := allBx_filter hA (fun x => inBx x (l.getD k zBox)) _ (Nat.le_refl _);rw [List.take_length, ← hA.1] at this;exact allBx_snoc this hb
 ·rw [if_pos (by rcases h with h | h <;> rw [h] <;> simp)];exact hA
set_option maxHeartbeats 4000000 in
set_option maxRecDepth 100000 in
theorem tidied_any (v : Value) (l : List BoxV) (w : World) (hv : Bxs w v l) (fl : FitL l) (hl : l.length ≤ 1000) :
  Calls Tryz.prog 85 #[v] w fun r w' => (∃ u ks, r = .returned u ∧ OwnB w' w.heap.size u ks ∧ AllBx w' ks (tidP l)) ∧ Below w.heap.size w w' := by
 obtain ⟨cs, hr, ha⟩ := hv;have hbig := hr.1;have hcl := ha.1;obtain ⟨q, cp, rfl⟩ := hr.form;have D := Below.refl w.heap.size w;go_enter Tryz.func85, Tryz.ntmps85;refine wp_seq_k (fun K1 hK1 => ?_);refine wp_region_lit ?_;refine wl_yield (o := .mk ..) (.slice none 0 0) (yl_assign (by rfl) _ rfl _ rfl) ?_;simp only [Act.put, lz];refine wpList_nil ?_;refine hK1 _ _ ?_;clear hK1 K1;refine wp_seq_k (fun K2 hK2 => ?_);refine wp_region_lit ?_;refine wl_yield (o := .mk ..) (.slice none 0 0) (yl_assign (by rfl) _ rfl _ rfl) ?_;simp only [Act.put, lz];refine wpList_nil ?_;refine hK2 _ _ ?_;clear hK2 K2;refine wp_seq_k (fun K3 hK3 => ?_);refine wp_seq_k (fun K4 hK4 => ?_);refine wp_region_lit ?_;refine wl_yield (o := .mk ..) (.slice q cs.length cp) (yl_move (by rfl) _ rfl _ rfl) ?_;simp only [Act.put, lz];refine wl_yield (o := .mk ..) (.int .i64 (cs.length : Nat)) (yl_lenB (by rfl) _ rfl _ _ _ rfl) ?_;simp only [Act.put, lz];refine wl_yield (o := .mk ..) (.int .i64 0) (yl_move (by rfl) _ rfl _ rfl) ?_;simp only [Act.put, lz];refine wpList_nil ?_;refine hK4 _ _ ?_;clear hK4 K4;refine wp_block ?_;go_loopw [3, 8] (fun u i wr => ∃ (k : Nat) (ks : List BxC), i = .int .i64 k ∧ k ≤ cs.length ∧ OwnB wr w.heap.size u ks ∧ AllBx w ks (tidP (l.take k)) ∧ Below w.heap.size w wr) (fun _ i _ => cs.length - (intOf i).toNat)
 case atStart => exact ⟨0, [], rfl, by omega, ownB_nil _ _, ⟨rfl, fun i h => by simp [tidP] at h⟩, D⟩
 case round =>
  clear D;obtain ⟨k, ks, rfl, hk, hown, hA, D⟩ := hrel;by_cases hlt : k < cs.length
  ·have hkl : k < l.length := by rw [← ha.1]; exact hlt
   obtain ⟨g, off, rfl, HC⟩ := (hr.on D).at.2 k hlt;have hownR := hown;have hKL := tidP_len l k (by omega);have hKM := tidP_mem l k (by omega);have hKF : FitL (tidP (l.take k)) := fun x hx => fl x (hKM x hx)
   have hks : ks.length ≤ 1000 := by rw [hA.1]; omega
   have fb : FitBx (l.getD k zBox) := fl _ (getB_mem hkl);have hb := ha.2 k hkl;refine wp_seq_k (fun K5 hK5 => ?_);refine wp_region_lit ?_;refine wl_yield (o := .mk ..) (.bool true) (yl_lssI (by rfl) _ _ _ rfl (((k : Nat) : Int)) (((cs.length : Nat) : Int)) true rfl rfl (decide_eq_true (by omega))) ?_;simp only [Act.put, lz];refine wpList_nil ?_;refine hK5 _ _ ?_;clear hK5 K5;refine wp_seq_k (fun K6 hK6 => ?_);refine wp_cond_true rfl ?_;refine wp_skip ?_;refine hK6 _ _ ?_;clear hK6 K6;refine wp_seq_k (fun K7 hK7 => ?_);refine wp_block ?_;refine wp_seq_k (fun K8 hK8 => ?_);refine wp_region_lit ?_;refine wl_yield (o := .mk ..) (.pointer (some ⟨g, off + k * 16, none⟩)) (yl_bxAt (by rfl) _ _ rfl g (off) _ _ (k) rfl rfl (hlt)) ?_;simp only [Act.put, lz];refine wl_yield (o := .mk ..) (BxC.val (cs.getD k bc0)) (yl_bx (by rfl) _ rfl _ _ rfl _ (fun _ h => by subst h; exact HC)) ?_;simp only [Act.put, lz];refine wl_newB (o := .mk ..) (o2 := ⟨_, _, _, _, _, _⟩) (by rfl) rfl _ _ rfl rfl (fun _ => rfl) (fun _ => rfl) (fun v1 gb1 hggb1 HQ kb => ?_);simp only [Act.put, lz];replace D := D.trans (kb.mono D.size);replace hown := hown.on kb;clear kb;refine wpList_nil ?_;refine hK8 _ _ ?_;clear hK8 K8;refine wp_seq_k (fun K9 hK9 => ?_);refine wp_seq_k (fun K10 hK10 => ?_);refine wp_region_lit ?_;refine wl_yield (o := .mk ..) (BxC.val (cs.getD k bc0)) (yl_bx (by rfl) _ rfl _ _ rfl _ (fun _ h => by subst h; exact BcIn.at HQ)) ?_;simp only [Act.put, lz];refine wl_call (o := .mk ..) (by rfl) 131 _ _ rfl #[BxC.val (cs.getD k bc0)] rfl (run_call Tryz.func131 (by kernel_rfl) (by kernel_rfl)) ?_;refine (boxProg0.empty _ _ _ (hb.on D) fb).mono ?_;rintro r v2 ⟨rfl, kb⟩;replace D := D.trans (kb.mono D.size);replace hown := hown.on kb;replace HQ := HQ.on kb;clear kb;cases hq1 : emptyBx (l.getD k zBox)
   ·refine ⟨.bool false, rfl, ?_⟩;simp only [Act.put, lz];refine wl_yield (o := .mk ..) (.bool false) (yl_move (by rfl) _ rfl _ rfl) ?_;simp only [Act.put, lz];refine wl_yield (o := .mk ..) (BxC.val (cs.getD k bc0)) (yl_bx (by rfl) _ rfl _ _ rfl _ (fun _ h => by subst h; exact BcIn.at HQ)) ?_;simp only [Act.put, lz];refine wl_yield (o := .mk ..) (u3) (yl_move (by rfl) _ rfl _ rfl) ?_;simp only [Act.put, lz];refine wl_call (o := .mk ..) (by rfl) 132 _ _ rfl #[BxC.val (cs.getD k bc0), u3] rfl (run_call Tryz.func132 (by kernel_rfl) (by kernel_rfl)) ?_;refine (liesInOne_any (cs.getD k bc0) (l.getD k zBox) u3 ks (tidP (l.take k)) _ (hb.on D) fb (hown.row (by omega)) (hA.on D) hKF).mono ?_;rintro r v3 ⟨rfl, kb⟩;replace D := D.trans (kb.mono D.size);replace hown := hown.on kb;replace HQ := HQ.on kb;clear kb;cases hq2 : (tidP (l.take k)).any fun k' => inBx (l.getD k zBox) k'
    ·refine ⟨.bool false, rfl, ?_⟩;simp only [Act.put, lz];refine wl_yield (o := .mk ..) (.bool false) (yl_pickF (by rfl) _ _ _ rfl rfl _ rfl) ?_;simp only [Act.put, lz];refine wpList_nil ?_;refine hK10 _ _ ?_;clear hK10 K10;refine wp_cond_false rfl ?_;refine wp_skip ?_;refine hK9 _ _ ?_;clear hK9 K9;refine wp_seq_k (fun K11 hK11 => ?_);refine wp_region_lit ?_;refine wl_yield (o := .mk ..) (u3) (yl_move (by rfl) _ rfl _ rfl) ?_;simp only [Act.put, lz];refine wl_yield (o := .mk ..) (.func (.func 134) #[] #[.pointer (some ⟨gb1, 0, none⟩)]) (yl_fn (by rfl) _ _ rfl _ rfl) ?_;simp only [Act.put, lz];refine wl_call (o := .mk ..) (by rfl) 133 _ _ rfl #[u3, .func (.func 134) #[] #[.pointer (some ⟨gb1, 0, none⟩)]] rfl (run_call Tryz.func133 (by kernel_rfl) (by kernel_rfl)) ?_;refine (deleteB_any 134 (run_call Tryz.func134 (by kernel_rfl) (by kernel_rfl)) _ u3 w.heap.size ks (fun i => inBx ((tidP (l.take k)).getD i zBox) (l.getD k zBox)) _ hown D.size hks (fun i hi W hW => tidied1_any _ _ _ _ _ _ ((hA.2 i (by rw [← hA.1]; exact hi)).on (D.trans hW.b)) ((hW.k _ (lt_heap HQ) (hownR.ne hggb1)).trans HQ) (hb.on (D.trans hW.b)) (hKF _ (getB_mem (by rw [← hA.1]; exact hi))) fb)).mono ?_;rintro r v4 ⟨⟨u2, rfl, hown2⟩, kb⟩;replace D := D.trans kb.b;replace hown := hown2;replace HQ : BcIn v4 gb1 (cs.getD k bc0) := (kb.k _ (lt_heap HQ) (hownR.ne hggb1)).trans HQ;clear hown2 kb;refine ⟨u2, rfl, ?_⟩;simp only [Act.put, lz];refine wl_yield (o := .mk ..) (u2) (yl_assign (by rfl) _ rfl _ rfl) ?_;simp only [Act.put, lz];refine wpList_nil ?_;refine hK11 _ _ ?_;clear hK11 K11;refine wp_region_lit ?_;refine wl_yield (o := .mk ..) (u2) (yl_move (by rfl) _ rfl _ rfl) ?_;simp only [Act.put, lz];refine wl_yield (o := .mk ..) (BxC.val (cs.getD k bc0)) (yl_bx (by rfl) _ rfl _ _ rfl _ (fun _ h => by subst h; exact BcIn.at HQ)) ?_;simp only [Act.put, lz];refine wl_rowB1 (o := .mk ..) (by rfl) _ rfl rfl (fun v5 gb5 hggb5 IO24 kb => ?_);simp only [Act.put, lz];replace D := D.trans (kb.mono D.size);replace hown := hown.on kb;replace HQ := HQ.on kb;clear kb;refine wl_appB (o := .mk ..) (by rfl) _ _ rfl w.heap.size u2 (keptB (fun i => inBx ((tidP (l.take k)).getD i zBox) (l.getD k zBox)) ks ks.length) rfl hown gb5 (cs.getD k bc0) rfl IO24 (by have := keptB_le (fun i => inBx ((tidP (l.take k)).getD i zBox) (l.getD k zBox)) ks ks.length; omega) D.size (fun u9 v6 hown3 kb hs3 => ?_);simp only [Act.put, lz];replace D := D.trans kb;replace hown := hown3;clear hown3 kb hs3;refine wl_yield (o := .mk ..) (u9) (yl_assign (by rfl) _ rfl _ rfl) ?_;simp only [Act.put, lz];refine wpList_nil ?_;refine hK7 _ _ ?_;clear hK7 K7;refine wp_region_lit ?_;refine wl_yield (o := .mk ..) (.int .i64 (k + 1 : Nat)) (yl_addI (by rfl) _ _ _ rfl (((k : Nat) : Int)) (1) (((k + 1 : Nat) : Int)) rfl rfl (by omega) (by omega) (by omega)) ?_;simp only [Act.put, lz];refine wl_yield (o := .mk ..) (.int .i64 (k + 1 : Nat)) (yl_move (by rfl) _ rfl _ rfl) ?_;simp only [Act.put, lz];refine wpList_nil ?_;show _ ∧ _;go_roundw
     case rel => exact ⟨k + 1, _, rfl, by omega, hown, tidied_step hA hkl hb (.inl ⟨hq1, hq2, rfl⟩), D⟩
     case measure => simp [intOf]; omega
    ·refine ⟨.bool true, rfl, ?_⟩;simp only [Act.put, lz];refine wl_yield (o := .mk ..) (.bool true) (yl_pickF (by rfl) _ _ _ rfl rfl _ rfl) ?_;simp only [Act.put, lz];refine wpList_nil ?_;refine hK10 _ _ ?_;clear hK10 K10;refine wp_cond_true rfl ?_;refine wp_exit ?_;refine hK7 _ _ ?_;clear hK9 K9 hK7 K7;refine wp_region_lit ?_;refine wl_yield (o := .mk ..) (.int .i64 (k + 1 : Nat)) (yl_addI (by rfl) _ _ _ rfl (((k : Nat) : Int)) (1) (((k + 1 : Nat) : Int)) rfl rfl (by omega) (by omega) (by omega)) ?_;simp only [Act.put, lz];refine wl_yield (o := .mk ..) (.int .i64 (k + 1 : Nat)) (yl_move (by rfl) _ rfl _ rfl) ?_;simp only [Act.put, lz];refine wpList_nil ?_;show _ ∧ _;go_roundw
     case rel => exact ⟨k + 1, _, rfl, by omega, hown, tidied_step hA hkl hb (.inr ⟨.inr hq2, rfl⟩), D⟩
     case measure => simp [intOf]; omega
   ·refine ⟨.bool true, rfl, ?_⟩;simp only [Act.put, lz];refine wl_yield (o := .mk ..) (.bool true) (yl_move (by rfl) _ rfl _ rfl) ?_;simp only [Act.put, lz];with_reducible refine wl_yield (o := .mk ..) undef (yl_undef (by kernel_rfl)) ?_
    simp only [Act.put, lz];with_reducible refine wl_yield (o := .mk ..) undef (yl_undef (by kernel_rfl)) ?_
    simp only [Act.put, lz];with_reducible refine wl_yield (o := .mk ..) undef (yl_undef (by kernel_rfl)) ?_
    simp only [Act.put, lz];refine wl_yield (o := .mk ..) (.bool true) (yl_pickT (by rfl) _ _ _ rfl rfl _ rfl) ?_;simp only [Act.put, lz];refine wpList_nil ?_;refine hK10 _ _ ?_;clear hK10 K10;refine wp_cond_true rfl ?_;refine wp_exit ?_;refine hK7 _ _ ?_;clear hK9 K9 hK7 K7;refine wp_region_lit ?_;refine wl_yield (o := .mk ..) (.int .i64 (k + 1 : Nat)) (yl_addI (by rfl) _ _ _ rfl (((k : Nat) : Int)) (1) (((k + 1 : Nat) : Int)) rfl rfl (by omega) (by omega) (by omega)) ?_;simp only [Act.put, lz];refine wl_yield (o := .mk ..) (.int .i64 (k + 1 : Nat)) (yl_move (by rfl) _ rfl _ rfl) ?_;simp only [Act.put, lz];refine wpList_nil ?_;show _ ∧ _;go_roundw
    case rel => exact ⟨k + 1, _, rfl, by omega, hown, tidied_step hA hkl hb (.inr ⟨.inl hq1, rfl⟩), D⟩
    case measure => simp [intOf]; omega
  ·refine wp_seq_k (fun K5 hK5 => ?_);refine wp_region_lit ?_;refine wl_yield (o := .mk ..) (.bool false) (yl_lssI (by rfl) _ _ _ rfl (((k : Nat) : Int)) (((cs.length : Nat) : Int)) false rfl rfl (decide_eq_false (by omega))) ?_;simp only [Act.put, lz];refine wpList_nil ?_;refine hK5 _ _ ?_;clear hK5 K5;refine wp_seq_k (fun K6 hK6 => ?_);refine wp_cond_false rfl ?_;refine wp_exit ?_;refine hK3 _ _ ?_;clear hK6 K6 hK3 K3;refine wp_seq_k (fun K7 hK7 => ?_);refine wp_region_lit ?_;refine wl_yield (o := .mk ..) (u3) (yl_move (by rfl) _ rfl _ rfl) ?_;simp only [Act.put, lz];refine wl_yield (o := .mk ..) (u3) (yl_assign (by rfl) _ rfl _ rfl) ?_;simp only [Act.put, lz];refine wpList_nil ?_;refine hK7 _ _ ?_;clear hK7 K7;refine wp_ret ?_;go_ret
   have ek : k = l.length := by rw [← ha.1]; omega
   rw [ek, List.take_length] at hA;exact ⟨⟨_, _, rfl, hown, hA.on D⟩, D⟩
end Go.Proofs.YtlmdcaemjaldfaaGreat
namespace Go.Proofs.YtlmdcaemjaldfaaGreat
open Go.RowKit
def plainV : Value → Bool
 | .int _ _ => false
 | .string _ => false
 | _ => true
theorem plain_list (c : BxC) : ∀ x ∈ c.list, plainV x = true := by
 intro v hv;unfold BxC.list at hv;simp only [List.mem_cons, List.not_mem_nil, or_false] at hv;rcases hv with rfl | rfl | rfl | rfl | rfl | rfl | rfl | rfl | rfl | rfl | rfl | rfl | rfl | rfl | rfl | rfl <;> rfl
theorem plain_cells (cs : List BxC) : ∀ x ∈ bcCells cs, plainV x = true := by
 intro x hx;unfold bcCells at hx;obtain ⟨c, _, hx⟩ := List.mem_flatMap.1 hx;exact plain_list c x hx
theorem plain_zero (n : Nat) : ∀ x ∈ (Builtin.zeroCells bc0.val.cells n).toList, plainV x = true := by
 intro v hv;simp only [Builtin.zeroCells, Array.toList_map, List.mem_map] at hv;obtain ⟨i, -, rfl⟩ := hv;have hm : ∀ j : Nat, j < 16 → plainV (bc0.list.toArray[j]!) = true := by
  intro j hj;have : bc0.list.toArray[j]! = bc0.list[j]'(by rw [BxC.list_len]; exact hj) := by simp [hj, BxC.list_len]
  rw [this];exact plain_list bc0 _ (List.getElem_mem _)
 exact hm _ (Nat.mod_lt _ (by decide))
theorem plain_made (n : Nat) : ∀ x ∈ (madeCells bc0.val.cells n).toList, plainV x = true := by
 intro v hv;simp only [madeCells, Array.toList_map, List.mem_map] at hv;obtain ⟨i, -, rfl⟩ := hv;have hm : ∀ j : Nat, j < 16 → plainV (bc0.list.toArray[j]!) = true := by
  intro j hj;have : bc0.list.toArray[j]! = bc0.list[j]'(by rw [BxC.list_len]; exact hj) := by simp [hj, BxC.list_len]
  rw [this];exact plain_list bc0 _ (List.getElem_mem _)
 exact hm _ (Nat.mod_lt _ (by decide))
structure OwnC (w : World) (B : Nat) (v : Value) (cs : List BxC) : Prop where
 own : OwnB w B v cs
 pl : ∀ g, v.ownBlock = some g → ∃ cur, w.heap[g]? = some (.cells cur 40 (0, 0)) ∧ ∀ x ∈ cur.toList, plainV x = true
theorem OwnC.on {w w' : World} {B : Nat} {v : Value} {cs : List BxC} (h : OwnC w B v cs) (hb : Below w.heap.size w w') : OwnC w' B v cs :=
 ⟨h.own.on hb, fun g hg => by
  obtain ⟨cur, h1, h2⟩ := h.pl g hg;exact ⟨cur, (hb.block _ (lt_heap h1)).trans h1, h2⟩⟩
theorem RngsAt.aside {w w' : World} {v : Value} {l : List Rg} {p : Nat} {cs : Array Value} {t : TypeId} {fz : Nat × Nat} (h : RngsAt w v l) (hp : w.heap[p]? = some (.cells cs t fz)) (hn : ∀ x ∈ cs.toList, plainV x = true) (hs : w.heap.size ≤ w'.heap.size) (hk : ∀ k, k < w.heap.size → k ≠ p → w'.heap[k]? = w.heap[k]?) : RngsAt w' v l := by
 obtain ⟨h1, h2, a, cap, hv, h⟩ := h;refine ⟨h1, h2, a, cap, hv, fun i hi => ?_⟩;obtain ⟨b, off, ha, hlt, c0, c1⟩ := h i hi;have hb : b ≠ p := by
  rintro rfl;rw [cell_heap hp] at c0;obtain ⟨hj, e⟩ := Array.getElem?_eq_some_iff.1 c0;have hm := hn _ (Array.getElem_mem_toList hj);rw [e] at hm;cases hm
 have hc : ∀ o, w'.cell? ⟨b, o, none⟩ = w.cell? ⟨b, o, none⟩ := fun o => by unfold World.cell?; simp only [hk b hlt hb]
 exact ⟨b, off, ha, Nat.lt_of_lt_of_le hlt hs, (hc _).trans c0, (hc _).trans c1⟩
theorem StrsAt.aside {w w' : World} {v : Value} {l : List ByteArray} {p : Nat} {cs : Array Value} {t : TypeId} {fz : Nat × Nat} (h : StrsAt w v l) (hp : w.heap[p]? = some (.cells cs t fz)) (hn : ∀ x ∈ cs.toList, plainV x = true) (hs : w.heap.size ≤ w'.heap.size) (hk : ∀ k, k < w.heap.size → k ≠ p → w'.heap[k]? = w.heap[k]?) : StrsAt w' v l := by
 obtain ⟨h1, h2, a, cap, hv, h⟩ := h;refine ⟨h1, h2, a, cap, hv, fun i hi => ?_⟩;obtain ⟨b, off, ha, hlt, c0⟩ := h i hi;have hb : b ≠ p := by
  rintro rfl;rw [cell_heap hp] at c0;obtain ⟨hj, e⟩ := Array.getElem?_eq_some_iff.1 c0;have hm := hn _ (Array.getElem_mem_toList hj);rw [e] at hm;cases hm
 have hc : ∀ o, w'.cell? ⟨b, o, none⟩ = w.cell? ⟨b, o, none⟩ := fun o => by unfold World.cell?; simp only [hk b hlt hb]
 exact ⟨b, off, ha, Nat.lt_of_lt_of_le hlt hs, (hc _).trans c0⟩
theorem BoxAt.aside {w w' : World} {v : Value} {b : BoxV} {p : Nat} {cs : Array Value} {t : TypeId} {fz : Nat × Nat} (h : BoxAt w v b) (hp : w.heap[p]? = some (.cells cs t fz)) (hn : ∀ x ∈ cs.toList, plainV x = true) (hs : w.heap.size ≤ w'.heap.size) (hk : ∀ k, k < w.heap.size → k ≠ p → w'.heap[k]? = w.heap[k]?) : BoxAt w' v b := by
 obtain ⟨s0, s1, s2, s3, rfl, h0, h1, h2, h3⟩ := h.scs;have H : ∀ {u : Value} {S : SetV}, SetAt w u S → SetAt w' u S := fun {u S} q => by
  obtain ⟨vi, vs, hv, q1, q2⟩ := q;exact ⟨vi, vs, hv, q1.aside hp hn hs hk, q2.aside hp hn hs hk⟩
 exact boxAt_of (H h0) (H h1) (H h2) (H h3)
theorem OwnC.carry {w w' : World} {B B' : Nat} {v : Value} {cs : List BxC} (h : OwnC w B v cs) (ha : Asd v.ownBlock B' w w') {y : Value} {b : BoxV} (hb : BoxAt w y b) : BoxAt w' y b := by
 cases ho : v.ownBlock with
 | none =>
  rw [ho] at ha;have H : ∀ k, k < w.heap.size → w'.heap[k]? = w.heap[k]? := fun k hk => ha.k k hk (by simp)
  exact hb.on ⟨ha.b.os, ha.b.tape, ha.b.output, ha.s, H⟩
 | some g =>
  obtain ⟨cur, h1, h2⟩ := h.pl g ho;rw [ho] at ha;exact hb.aside h1 h2 ha.s (fun k hk hne => ha.k k hk (fun e => hne (Option.some.inj e)))
theorem AllBx.carry {w w' : World} {cs : List BxC} {l : List BoxV} (h : AllBx w cs l) (c : ∀ {y : Value} {b : BoxV}, BoxAt w y b → BoxAt w' y b) : AllBx w' cs l := ⟨h.1, fun i hi => c (h.2 i hi)⟩
theorem run_appC (w : World) (B ty : Nat) (v : Value) (cs : List BxC) (hown : OwnC w B v cs) (g : Nat) (d : BxC) (hd : BcIn w g d) (hn : cs.length ≤ 1000) (hB : B ≤ w.heap.size) :
  ∃ v' w', (Builtin.append_ #[31, 31] ty #[v, .slice (some ⟨g, 0, none⟩) 1 1]).run Tryz.prog w = .ok v' w' ∧ OwnC w' B v' (cs ++ [d]) ∧ Asd v.ownBlock B w w' ∧ (∀ k, v'.ownBlock = some k → some k = v.ownBlock ∨ w.heap.size ≤ k) := by
 obtain ⟨i0, hi, hz0, hz1, hz2⟩ := info_parts cInfoB;have hnews : ∀ j u, d.list[j]? = some u → w.cell? ((⟨g, 0, none⟩ : Addr).add j) = some u := fun j u hu => by rw [Addr.add_mid]; exact hd.range j u hu
 obtain ⟨v', w', hr, ho, hg, _⟩ := run_append_own (P := Tryz.prog) w B 31 ty 40 i0 _ 16 256 Tryz.underlying31 hi hz0 hz1 hz2 rfl (by decide) v cs.length (bcCells cs) hown.own ⟨g, 0, none⟩ 1 1 d.list (by rw [BxC.list_len]) hnews d.list_one (by unfold maxLen; omega) (by omega) hB;have hO : OwnB w' B v' (cs ++ [d]) := by
  show w'.ownsRow B 40 16 v' (cs ++ [d]).length (bcCells (cs ++ [d]));rw [bcCells_append, List.length_append];have : bcCells [d] = d.list := by unfold bcCells; simp
  rw [this];exact ho
 have hA : Asd v.ownBlock B w w' := ⟨(Below.refl _ _).grown hg hB (fun k hk => (World.ownsRow.lt hown.own k hk).1), hg.size, fun k hk hne => hg.block k hk hne⟩
 rcases hown.own.2 with ⟨rfl, hlen⟩ | ⟨g0, cap, cur, rfl, hbg, hgc, hnc, hcm, hcs, htake⟩
 ·have hr2 := run_append_nil (P := Tryz.prog) w 31 ty 40 i0 _ Tryz.underlying31 hi hz0 ⟨g, 0, none⟩ 1 1 d.list (by rw [BxC.list_len, hz1]) hnews (by omega) (by omega) (by rw [hz2]; omega);rw [hr] at hr2
  injection hr2 with e1 e2
  refine ⟨v', w', hr, ⟨hO, fun k hk => ?_⟩, hA, fun k hk => ?_⟩
  ·rw [e1] at hk;obtain rfl : w.heap.size = k := Option.some.inj hk;refine ⟨_, by rw [e2]; exact heap_new w.drew _, fun x hx => ?_⟩;rw [Array.toList_append, List.mem_append] at hx;rcases hx with hx | hx
   ·exact plain_list d x (by simpa using hx)
   ·exact plain_zero _ x hx
  ·rw [e1] at hk;obtain rfl : w.heap.size = k := Option.some.inj hk;exact Or.inr (Nat.le_refl _)
 ·by_cases hroom : cs.length + 1 ≤ cap
  ·have hr2 := run_append_room (P := Tryz.prog) w 31 ty 40 i0 Tryz.underlying31 hi g0 cs.length cap cur hgc ⟨g, 0, none⟩ 1 1 d.list (by rw [BxC.list_len, hz1]) hnews d.list_one hroom (by rw [BxC.list_len, hz1, hcs]; omega);rw [hr] at hr2
   injection hr2 with e1 e2
   obtain ⟨cur0, p1, p2⟩ := hown.pl g0 rfl;rw [hgc] at p1
   injection p1 with p1
   injection p1 with p1 _ _
   subst p1;refine ⟨v', w', hr, ⟨hO, fun k hk => ?_⟩, hA, fun k hk => ?_⟩
   ·rw [e1] at hk;obtain rfl : g0 = k := Option.some.inj hk;refine ⟨_, by rw [e2]; exact setRow_heap w g0 cur _ _ _ hgc, fun x hx => ?_⟩;simp only [List.mem_append] at hx;rcases hx with (hx | hx) | hx
    ·exact p2 x (List.mem_of_mem_take hx)
    ·exact plain_list d x hx
    ·exact p2 x (List.mem_of_mem_drop hx)
   ·rw [e1] at hk
    left
    exact hk.symm
  ·have hr2 := run_append_grow (P := Tryz.prog) w 31 ty 40 i0 _ Tryz.underlying31 hi hz0 ⟨g0, 0, none⟩ cs.length cap (bcCells cs) (by rw [hz1]; exact hown.own.1) (hown.own.cells (g := g0) rfl) ⟨g, 0, none⟩ 1 1 d.list (by rw [BxC.list_len, hz1]) hnews (by omega) (by omega) (growslice_fits (by omega) (by rw [hz2]; omega));rw [hr] at hr2
   injection hr2 with e1 e2
   refine ⟨v', w', hr, ⟨hO, fun k hk => ?_⟩, hA, fun k hk => ?_⟩
   ·rw [e1] at hk;obtain rfl : w.heap.size = k := Option.some.inj hk;refine ⟨_, by rw [e2]; exact heap_new w.drew _, fun x hx => ?_⟩;rw [Array.toList_append, Array.toList_append, List.mem_append, List.mem_append] at hx;rcases hx with (hx | hx) | hx
    ·exact plain_cells cs x (by simpa using hx)
    ·exact plain_list d x (by simpa using hx)
    ·exact plain_zero _ x hx
   ·rw [e1] at hk;obtain rfl : w.heap.size = k := Option.some.inj hk;exact Or.inr (Nat.le_refl _)
section
variable {ops : Array Oper} {Q : Exit → Act → World → Prop} {S : World → Prop} {o : Oper} {a : Act}
theorem wl_appC {rest : List Oper} {w : World} (hw : Region.wanted o (yielded ops a.tmps) = true) (s x : Operand) (ho : o.op = .call { callee := .builtin .append, args := #[s, x], argTypes := #[31, 31] })
  (B : Nat) (v : Value) (cs : List BxC) (hs : a.eval s = v) (hown : OwnC w B v cs) (g : Nat) (d : BxC) (hx : a.eval x = .slice (some ⟨g, 0, none⟩) 1 1) (hd : BcIn w g d) (hn : cs.length ≤ 1000) (hB : B ≤ w.heap.size)
  (h : ∀ v' w', OwnC w' B v' (cs ++ [d]) → Asd v.ownBlock B w w' → (∀ k, v'.ownBlock = some k → some k = v.ownBlock ∨ w.heap.size ≤ k) → (∀ {y : Value} {b : BoxV}, BoxAt w y b → BoxAt w' y b) → wpList Tryz.prog ops Q rest (a.put o.dst v') w') : wpList Tryz.prog ops Q (o :: rest) a w := by
 obtain ⟨v', w', hr, h1, h2, h3⟩ := run_appC w B o.type v cs hown g d hd hn hB;refine wl_run hw v' w' ?_ (h v' w' h1 h2 h3 (fun q => hown.carry h2 q));unfold execOp;simp only [ho, resolve, invoke, builtin, Sem.run_bind, Sem.run_pure, Result.andThen_ok, List.map_toArray, List.map_cons, List.map_nil, hs, hx, hr]
theorem yl_mulI (hw : Region.wanted o (yielded ops a.tmps) = true) (x y : Operand) (t : TypeId) (ho : o.op = .binOp .mul 3 x y t) (p q r : Int) (hx : a.eval x = .int .i64 p) (hy : a.eval y = .int .i64 q) (hr : p * q = r) (h0 : -9223372036854775808 ≤ r) (h1 : r ≤ 9223372036854775807) : YieldsIf Tryz.prog ops S o (.int .i64 r) a :=
 Or.inl ⟨hw, fun w hS => by
  subst hr;simp only [execOp, ho, hx, hy];go_simp;rw [IntKind.wrap_i64]; omega⟩
theorem madeC {w : World} {i0 : TypeInfo} (hi : Tryz.prog.info? 40 = some i0) (hz0 : i0.zero = some bc0.val) (hz1 : i0.size = 16) (hz2 : i0.bytes = 256) (N : Nat) (hN : N ≤ 100000) :
  ∃ w', (Instr.makeSlice 31 (.int .i64 0) (.int .i64 (N : Int))).run Tryz.prog w = .ok (.slice (some ⟨w.heap.size, 0, none⟩) 0 N) w' ∧ OwnC w' w.heap.size (.slice (some ⟨w.heap.size, 0, none⟩) 0 N) [] ∧ Below w.heap.size w w' := by
 have hr := run_make (P := Tryz.prog) w 31 40 i0 _ Tryz.underlying31 hi hz0 .i64 .i64 0 N (Int.le_refl _) (by omega) (by rw [hz2]; omega) (by omega);obtain ⟨w', hm1, hm2, hm3⟩ := run_make_own (P := Tryz.prog) w w.heap.size 31 40 i0 _ 16 Tryz.underlying31 hi hz0 hz1 .i64 .i64 N (by rw [hz2]; omega) (by unfold maxLen; omega) (Nat.le_refl _);refine ⟨w', hm1, ⟨hm2, fun g hg => ?_⟩, (Below.refl _ w).grown hm3 (Nat.le_refl _) (fun k hk => by cases hk)⟩;obtain rfl : w.heap.size = g := Option.some.inj hg;rw [hm1] at hr
 injection hr with e1 e2
 refine ⟨_, by rw [e2]; exact heap_new w _, fun x hx => ?_⟩;exact plain_made _ x hx
theorem wl_makeC {rest : List Oper} {w : World} (hw : Region.wanted o (yielded ops a.tmps) = true) (y x : Operand) (ho : o.op = .makeSlice 31 y x) (hy : a.eval y = .int .i64 0) (N : Nat) (hx : a.eval x = .int .i64 N) (hN : N ≤ 100000)
  (h : ∀ v W, OwnC W w.heap.size v [] → Below w.heap.size w W → wpList Tryz.prog ops Q rest (a.put o.dst v) W) : wpList Tryz.prog ops Q (o :: rest) a w := by
 obtain ⟨i0, hi, hz0, hz1, hz2⟩ := info_parts cInfoB;obtain ⟨w', h1, h2, h3⟩ := madeC (w := w) hi hz0 hz1 hz2 N hN;refine wl_run hw _ w' ?_ (h _ w' h2 h3);simp only [execOp, ho, hy, hx, Sem.run_bind, h1, Result.andThen_ok, Sem.run_pure]
end
end Go.Proofs.YtlmdcaemjaldfaaGreat
namespace Go.Proofs.YtlmdcaemjaldfaaGreat
open Go.RowKit
theorem OwnB.nilOk {w : World} {B : Nat} {v : Value} {cs : List BxC} (h : OwnB w B v cs) : nilOk v := by
 rcases h.form with ⟨rfl, rfl⟩ | ⟨g, cap, cur, rfl, _⟩
 ·exact fun _ _ _ => rfl
 ·intro n c e; cases e
theorem wpList_appRowB {ops : Array Oper} {rest : List Oper} {o : Oper} {a : Act} {Q : Exit → Act → World → Prop} (w : World) (hgd : o.guard = none) (s x : Operand)
  (ho : o.op = .call { callee := .builtin .append, args := #[s, x], argTypes := #[31, 31] })
  (B : Nat) (v u : Value) (l m : List BxC) (hs : a.eval s = v) (hown : OwnB w B v l) (hu : a.eval x = u) (hx : BxRow w u m) (hnil : nilOk u) (hlen : l.length + m.length ≤ 1000000) (hB : B ≤ w.heap.size)
  (h : ∀ v' w', OwnB w' B v' (l ++ m) → Below B w w' → wpList Tryz.prog ops Q rest (a.put o.dst v') w') : wpList Tryz.prog ops Q (o :: rest) a w := by
 obtain ⟨i0, hi, hz0, hz1, hz2⟩ := info_parts cInfoB;obtain ⟨_, ad, cap, rfl, hel⟩ := hx;cases ad with
 | none =>
  have hm : m = [] := by
   cases m with
   | nil => rfl
   | cons r m =>
    obtain ⟨b, off, e, _⟩ := hel 0 (by simp);cases e
  subst hm;refine wpList_append_own_none hgd s x 31 ho B 40 i0 16 Tryz.underlying31 hi v l.length (bcCells l) hs hown (hu.trans (hnil _ _ rfl)) ?_;refine h v w ?_ (Below.refl _ _);rw [List.append_nil]; exact hown
 | some ad =>
  refine wpList_append_own w hgd s x 31 ho B 40 i0 _ 16 256 Tryz.underlying31 hi hz0 hz1 hz2 rfl (by decide) v l.length (bcCells l) hs hown ad m.length _ (bcCells m) hu (by rw [bcCells_len]) ?_ (bcCells_one _) (by unfold maxLen; omega) (by omega) hB ?_
  ·intro j u hj;have hjl : j < m.length * 16 := by
    have := (List.getElem?_eq_some_iff.1 hj).1
    rwa [bcCells_len] at this
   obtain ⟨b, off, e, _, hr⟩ := hel (j / 16) (by omega);have h1 := bcCells_at m (j / 16) (j % 16) (by omega) (Nat.mod_lt _ (by decide))
   simp at e
   subst e;rw [Go.WideShapes.add_plain];rw [show j / 16 * 16 + j % 16 = j by omega, hj] at h1;have := hr (j % 16) u h1.symm
   rwa [show off + j / 16 * 16 + j % 16 = off + j by omega] at this
  ·intro v' w' h1 h2 _;refine h v' w' ?_ ((Below.refl _ _).grown h2 hB (fun k hk => (World.ownsRow.lt hown k hk).1));unfold OwnB;rw [List.length_append, bcCells_append];exact h1
theorem ownB_grown {w : World} {c : Nat} {cs : Array Value} (hc : c ≤ maxLen) (hs : cs.size = c * 16) : OwnB (w.drew.alloc (.cells cs 40)) w.heap.size (.slice (some ⟨w.heap.size, 0, none⟩) 0 c) [] := by
 refine ⟨rfl, Or.inr ⟨w.heap.size, c, cs, rfl, Nat.le_refl _, ?_, Nat.zero_le _, hc, hs, ?_⟩⟩
 ·show (w.heap.push _)[w.heap.size]? = _
  simp
 ·show List.take (0 * 16) _ = [];rw [Nat.zero_mul]; rfl
set_option maxHeartbeats 2000000 in
set_option maxRecDepth 100000 in
theorem growB_any (n : Nat) (w : World) (hn : n ≤ 100000) :
  Calls Tryz.prog 161 #[.slice none 0 0, .int .i64 n] w fun r w' => (∃ u, r = .returned u ∧ OwnB w' w.heap.size u []) ∧ Below w.heap.size w w' := by
 rcases Nat.eq_zero_or_pos n with h0 | h0
 ·subst h0;go_enter Tryz.func161, Tryz.ntmps161
  go_wp2
  go_ret
  exact ⟨⟨_, rfl, ownB_nil _ _⟩, Below.refl _ _⟩
 ·obtain ⟨i0, hi, hz0, hz1, hz2⟩ := info_parts cInfoB;replace hz0 : i0.zero = some (.agg bc0.list.toArray) := hz0;have A := hide (fun ty => Lib.run_append_nil_zeros (P := Tryz.prog) w 31 3 ty 40 i0 _ .i64 .i64 Tryz.underlying31 Tryz.underlying3 hi hz0 n h0 (by rw [hz1]; omega) (by omega) (by rw [hz2]; omega));have hc1 := grownCap_ge w n 0 40;have hc2 := grownCap_le_maxLen w n 0 40 (by unfold maxLen; omega);generalize grownCap w n 0 40 = c at *;have HC2 := hide hc2;clear hi hz0 hz1 hz2 hc2;go_enter Tryz.func161, Tryz.ntmps161
  go_wp2_with (at_builtin; refine Lib.wpList_append_run _ rfl _ _ _ _ rfl _ _ rfl rfl _ _ (A.out _) ?_)
  go_ret
  refine ⟨⟨_, rfl, ownB_grown HC2.out ?_⟩, ((Below.refl _ _).drew).alloc (Nat.le_refl _) _⟩;rw [Array.size_append, size_zeroCells, size_zeroCells, ← Nat.add_mul, show n + (c - n) = c by omega]
  rfl
set_option maxHeartbeats 4000000 in
set_option maxRecDepth 100000 in
theorem concatB_any (g : Nat) (va vb : Value) (la lb : List BxC) (w : World) (hg : w.heap[g]? = some (.cells #[va, vb] 31 (0, 0))) (ha : BxRow w va la) (hb : BxRow w vb lb) (na : nilOk va) (nb : nilOk vb) (hl : la.length + lb.length ≤ 100000) :
  Calls Tryz.prog 140 #[.slice (some ⟨g, 0, none⟩) 2 2] w fun r w' => (∃ u, r = .returned u ∧ OwnB w' w.heap.size u (la ++ lb)) ∧ Below w.heap.size w w' := by
 have HA := hide ha;have HB := hide hb;have hlt := lt_heap hg;have c0 := cell_heap hg 0;have c1 := cell_heap hg 1;simp only [List.getElem?_toArray, List.getElem?_cons_zero, List.getElem?_cons_succ] at c0 c1;obtain ⟨pa, ca, rfl⟩ := ha.form;obtain ⟨pb, cb, rfl⟩ := hb.form;have HL := hide hl;clear ha hb hg;have GR := hide (growB_any (la.length + lb.length) w hl);obtain ⟨x, hx⟩ : ∃ x : Nat, x = la.length := ⟨_, rfl⟩
 obtain ⟨y, hy⟩ : ∃ y : Nat, y = lb.length := ⟨_, rfl⟩
 rw [← hx] at hl HL c0 HA GR na;rw [← hy] at hl HL c1 HB GR nb;have HX := hide hx;have HY := hide hy;clear hx hy;go_enter Tryz.func140, Tryz.ntmps140
 go_wp2
 go_loopw [3, 11] (fun s i wr => wr = w ∧ ((i = .int .i64 0 ∧ s = .int .i64 0) ∨ (i = .int .i64 1 ∧ s = .int .i64 (x : Int)) ∨ (i = .int .i64 2 ∧ s = .int .i64 ((x : Int) + (y : Int))))) (fun _ i _ => 2 - (intOf i).toNat)
 case atStart => exact ⟨rfl, Or.inl ⟨rfl, rfl⟩⟩
 case round =>
  obtain ⟨rfl, ⟨rfl, rfl⟩ | ⟨rfl, rfl⟩ | ⟨rfl, rfl⟩⟩ := hrel
  ·go_wp2
   exact ⟨⟨trivial, Or.inr (Or.inl ⟨rfl, by first | rfl | simp⟩)⟩, by simp [intOf]⟩
  ·go_wp2
   exact ⟨⟨trivial, Or.inr (Or.inr ⟨rfl, rfl⟩)⟩, by simp [intOf]⟩
  ·rw [Int.natCast_add] at GR
   go_wp2_with fail
   refine (unhide GR).mono ?_;rintro r w1 ⟨⟨u1, rfl, o1⟩, b1⟩;have c0' := (b1.cell (p := ⟨g, 0, none⟩) hlt).trans c0;have c1' := (b1.cell (p := ⟨g, 1, none⟩) hlt).trans c1;have O1 := hide o1;have B1 := hide b1;clear GR o1 b1
   go_wp2
   go_loopw [6, 27] (fun o i wr' => Hid (Below wr.heap.size wr wr') ∧ ((i = .int .i64 0 ∧ Hid (OwnB wr' wr.heap.size o [])) ∨ (i = .int .i64 1 ∧ Hid (OwnB wr' wr.heap.size o la)) ∨ (i = .int .i64 2 ∧ Hid (OwnB wr' wr.heap.size o (la ++ lb))))) (fun _ i _ => 2 - (intOf i).toNat)
   case atStart => exact ⟨B1, Or.inl ⟨rfl, O1⟩⟩
   case round =>
    clear c0' c1' B1 O1;obtain ⟨HW, ⟨rfl, HO⟩ | ⟨rfl, HO⟩ | ⟨rfl, HO⟩⟩ := hrel
    ·have d0 := (HW.out.cell (p := ⟨g, 0, none⟩) hlt).trans c0;have szW := HW.out.size;have LE : Hid (([] : List BxC).length + la.length ≤ 1000000) := hide (by have := HX.out; have := HL.out; simp; omega);have VA := hide (HA.out.on HW.out)
     go_wp2_with (at_builtin; refine wpList_appRowB _ rfl _ _ rfl _ _ _ _ la rfl HO.out rfl VA.out na LE.out szW ?_; intro v8 w8 hO8 hb8; have O8 := hide hO8; have B8 := hide (HW.out.trans hb8); clear hO8 hb8)
     rw [List.nil_append] at O8;exact ⟨⟨B8, Or.inr (Or.inl ⟨rfl, O8⟩)⟩, by simp [intOf]⟩
    ·have d0 := (HW.out.cell (p := ⟨g, 1, none⟩) hlt).trans c1;have szW := HW.out.size;have LE : Hid (la.length + lb.length ≤ 1000000) := hide (by have := HX.out; have := HY.out; have := HL.out; omega);have VB := hide (HB.out.on HW.out)
     go_wp2_with (at_builtin; refine wpList_appRowB _ rfl _ _ rfl _ _ _ _ lb rfl HO.out rfl VB.out nb LE.out szW ?_; intro v8 w8 hO8 hb8; have O8 := hide hO8; have B8 := hide (HW.out.trans hb8); clear hO8 hb8)
     exact ⟨⟨B8, Or.inr (Or.inr ⟨rfl, O8⟩)⟩, by simp [intOf]⟩
    ·go_wp2
     go_ret
     exact ⟨⟨_, rfl, HO.out⟩, HW.out⟩
section
variable {ops : Array Oper} {Q : Exit → Act → World → Prop} {o : Oper} {a : Act}
theorem wl_rows2 {rest : List Oper} {w : World} (hw : Region.wanted o (yielded ops a.tmps) = true) (x y : Operand) (ho : o.op = .buildSlice 161 2 #[(0, x), (1, y)]) {p q : Option Addr} {n m c d : Nat} (hx : a.eval x = .slice p n c) (hy : a.eval y = .slice q m d)
  (h : ∀ W g, W.heap[g]? = some (.cells #[.slice p n c, .slice q m d] 31 (0, 0)) → Below w.heap.size w W → wpList Tryz.prog ops Q rest (a.put o.dst (.slice (some ⟨g, 0, none⟩) 2 2)) W) : wpList Tryz.prog ops Q (o :: rest) a w := by
 refine wl_run hw (.slice (some ⟨w.heap.size, 0, none⟩) 2 2) (w.alloc (.cells #[.slice p n c, .slice q m d] 31)) ?_ (h _ _ (heap_new _ _) ((Below.refl _ w).alloc (Nat.le_refl _) _));simp only [execOp, ho, List.map_toArray, List.map_cons, List.map_nil, hx, hy];go_simp
end
theorem prod_take (l m : List BoxV) (k : Nat) (h : k < l.length) : prodL (l.take (k + 1)) m = prodL (l.take k) m ++ m.map fun b => andBx (l.getD k zBox) b := by
 unfold prodL;exact take_flat _ l k zBox h
theorem idx_lt {k n j m N : Nat} (h : k < n) (hj : j < m) (hN : n * m = N) : k * m + j < N := by
 have : (k + 1) * m ≤ n * m := Nat.mul_le_mul_right m h;rw [Nat.succ_mul] at this;omega
theorem allBx_append {w : World} {ks ms : List BxC} {K M : List BoxV} (h : AllBx w ks K) (h' : AllBx w ms M) : AllBx w (ks ++ ms) (K ++ M) := by
 refine ⟨by rw [List.length_append, List.length_append, h.1, h'.1], fun i hi => ?_⟩;rw [List.length_append] at hi;by_cases hi' : i < K.length
 ·rw [List.getD_eq_getElem?_getD, List.getD_eq_getElem?_getD, List.getElem?_append_left (by rw [h.1]; exact hi'), List.getElem?_append_left hi', ← List.getD_eq_getElem?_getD, ← List.getD_eq_getElem?_getD];exact h.2 i hi'
 ·rw [List.getD_eq_getElem?_getD, List.getD_eq_getElem?_getD, List.getElem?_append_right (by rw [h.1]; omega), List.getElem?_append_right (by omega), ← List.getD_eq_getElem?_getD, ← List.getD_eq_getElem?_getD, h.1];exact h'.2 (i - K.length) (by omega)
end Go.Proofs.YtlmdcaemjaldfaaGreat
namespace Go.Proofs.YtlmdcaemjaldfaaGreat
open Go.RowKit
def BxC.sc (c : BxC) : Nat → SC
 | 0 => c.s0
 | 1 => c.s1
 | 2 => c.s2
 | _ => c.s3
theorem BoxAt.sc {w : World} {c : BxC} {b : BoxV} (h : BoxAt w c.val b) (i : Nat) (hi : i < 4) : SetAt w (c.sc i).val (b.get i) := by
 obtain ⟨⟨h0, h1, h2, h3⟩, _⟩ := sc_forms (s0 := c.s0) (s1 := c.s1) (s2 := c.s2) (s3 := c.s3) h
 match i, hi with
 | 0, _ => exact h0
 | 1, _ => exact h1
 | 2, _ => exact h2
 | 3, _ => exact h3
section
variable {ops : Array Oper} {Q : Exit → Act → World → Prop} {S : World → Prop} {o : Oper} {a : Act}
theorem yl_bxIdx (hw : Region.wanted o (yielded ops a.tmps) = true) (x y : Operand) (ho : o.op = .index 40 x y) (c : BxC) (i : Nat) (hx : a.eval x = c.val) (hy : a.eval y = .int .i64 i) (hi : i < 4) : YieldsIf Tryz.prog ops S o (c.sc i).val a :=
 Or.inl ⟨hw, fun w hS => by
  simp only [execOp, ho, hx, hy]
  match i, hi with
  | 0, _ =>
   have := run_at0 w c.s0 c.s1 c.s2 c.s3;simp only [Sem.run_bind, BxC.val, bxVal] at this ⊢;rw [show ((0 : Nat) : Int) = 0 from rfl, this]; rfl
  | 1, _ =>
   have := run_at1 w c.s0 c.s1 c.s2 c.s3;simp only [Sem.run_bind, BxC.val, bxVal] at this ⊢;rw [show ((1 : Nat) : Int) = 1 from rfl, this]; rfl
  | 2, _ =>
   have := run_at2 w c.s0 c.s1 c.s2 c.s3;simp only [Sem.run_bind, BxC.val, bxVal] at this ⊢;rw [show ((2 : Nat) : Int) = 2 from rfl, this]; rfl
  | 3, _ =>
   have := run_at3 w c.s0 c.s1 c.s2 c.s3;simp only [Sem.run_bind, BxC.val, bxVal] at this ⊢;rw [show ((3 : Nat) : Int) = 3 from rfl, this]; rfl⟩
theorem infoSt4 : (Tryz.prog.info? 25).map (·.size) = some 4 := by kernel_rfl
def SC.list (s : SC) : List Value := [.bool s.a, .slice s.p s.n s.c, .bool s.d, .slice s.q s.m s.e]
theorem SC.list_one (s : SC) : ∀ v ∈ s.list, v.oneCell' = true := by
 intro v hv;unfold SC.list at hv;simp only [List.mem_cons, List.not_mem_nil, or_false] at hv;rcases hv with rfl | rfl | rfl | rfl <;> rfl
set_option maxRecDepth 100000 in
theorem wl_newS {o2 : Oper} {rest : List Oper} {w : World} (hw : Region.wanted o (yielded ops a.tmps) = true) (ho : o.op = .alloc 25) (x y : Operand) (ho2 : o2.op = .store 25 x y) (hg2 : o2.guard = none)
  (hx : ∀ v, (a.put o.dst v).eval x = v) {s : SC} (hy : ∀ v, (a.put o.dst v).eval y = s.val)
  (h : ∀ W g, StIn W g s → Below w.heap.size w W → wpList Tryz.prog ops Q rest ((a.put o.dst (.pointer (some ⟨g, 0, none⟩))).put o2.dst undef) W) : wpList Tryz.prog ops Q (o :: o2 :: rest) a w := by
 refine wl_run hw (.pointer (some ⟨w.heap.size, 0, none⟩)) (w.alloc (.cells #[.bool false, .slice none 0 0, .bool false, .slice none 0 0] 25)) ?_ ?_
 ·simp only [execOp, ho];go_simp
 ·have hz : StIn (w.alloc (.cells #[.bool false, .slice none 0 0, .bool false, .slice none 0 0] 25)) w.heap.size SC.zero := heap_new _ _;have ht : (w.alloc (.cells #[.bool false, .slice none 0 0, .bool false, .slice none 0 0] 25)).there w.heap.size 0 4 := there_of hz (by decide);refine wpList_store_mid hg2 25 x y ho2 w.heap.size 0 s.list.toArray (hx _) (hy _) ht (by rw [infoSt4]; rfl) (all_oneCell_toArray s.list_one) ?_;refine h _ _ ?_ (Below.setCells w.heap.size (Nat.le_refl _) s.list 0 _ ((Below.refl _ w).alloc (Nat.le_refl _) _));exact heap_setCell (i := 3) (.slice s.q s.m s.e) (heap_setCell (i := 2) (.bool s.d) (heap_setCell (i := 1) (.slice s.p s.n s.c) (heap_setCell (i := 0) (.bool s.a) hz)))
end
theorem OwnB.sl {w : World} {B : Nat} {v : Value} {cs : List BxC} (h : OwnB w B v cs) : ∃ p c, v = .slice p cs.length c := by
 rcases h.form with ⟨rfl, rfl⟩ | ⟨g, cap, cur, rfl, _⟩
 ·exact ⟨none, 0, rfl⟩
 ·exact ⟨_, cap, rfl⟩
def smallBx (b : BoxV) : Bool := all4 fun i => smallB (b.get i)
theorem smallB_any (v : Value) (S : SetV) (w : World) (hv : SetAt w v S) : Calls Tryz.prog 128 #[v] w fun r w' => r = .returned (.bool (smallB S)) ∧ Below w.heap.size w w' := small_any v S w hv
theorem all4_no {f : Nat → Bool} {i : Nat} (hi : i < 4) (h : f i = false) : all4 f = false := by
 cases hq : all4 f
 ·rfl
 ·rw [(all4_iff f).1 hq i hi] at h; cases h
theorem fit_small {w : World} {v : Value} {b : BoxV} (h : BoxAt w v b) (hs : smallBx b = true) (hr : rightBx b = true) : FitBx b := by
 have hS : ∀ i, i < 4 → (b.get i).ints.length ≤ 6 ∧ (b.get i).strs.length ≤ 6 := fun i hi => by
  have := (all4_iff _).1 hs i hi;unfold smallB at this;rw [Bool.and_eq_true, decide_eq_true_eq, decide_eq_true_eq] at this;exact this
 exact ⟨⟨fun i hi => ⟨(all4_iff _).1 hr i hi, h.i64 i hi⟩, fun i hi => by have := (hS i hi).2; omega⟩, fun i hi => by have := (hS i hi).1; omega, fun i hi => by have := (hS i hi).2; omega⟩
def rightF (l : List BoxV) : Bool := decide (l.length ≤ 4) && (l.all (fun b => smallBx b && rightBx b) && decide ((tidP l).length = l.length))
end Go.Proofs.YtlmdcaemjaldfaaGreat
namespace Go.Proofs.YtlmdcaemjaldfaaGreat
open Go.RowKit
set_option maxHeartbeats 4000000 in
set_option maxRecDepth 100000 in
theorem boxSmall_any (c : BxC) (b : BoxV) (w : World) (hv0 : BoxAt w c.val b) :
  Calls Tryz.prog 91 #[c.val] w fun r w' => r = .returned (.bool (smallBx b)) ∧ Below w.heap.size w w' := by
 have hv := hv0;have D := Below.refl w.heap.size w;go_enter Tryz.func91, Tryz.ntmps91;refine wp_seq_k (fun K1 hK1 => ?_);refine wp_region_lit ?_;refine wl_boxBc (o := .mk ..) (by rfl) _ rfl rfl (fun v1 gb1 hggb1 IO1 kb => ?_);simp only [Act.put, lz];replace D := D.trans (kb.mono D.size);replace hv := hv.on kb;clear kb;refine wl_yield (o := .mk ..) (.bool false) (yl_assign (by rfl) _ rfl _ rfl) ?_;simp only [Act.put, lz];refine wpList_nil ?_;refine hK1 _ _ ?_;clear hK1 K1;refine wp_seq_k (fun K2 hK2 => ?_);refine wp_seq_k (fun K3 hK3 => ?_);refine wp_region_lit ?_;refine wl_yield (o := .mk ..) (BxC.val c) (yl_bx (by rfl) _ rfl _ _ rfl _ (fun _ h => by subst h; exact BcIn.at IO1)) ?_;simp only [Act.put, lz];refine wl_yield (o := .mk ..) (.int .i64 0) (yl_move (by rfl) _ rfl _ rfl) ?_;simp only [Act.put, lz];refine wpList_nil ?_;refine hK3 _ _ ?_;clear hK3 K3;refine wp_block ?_;go_loopw [6] (fun i wr => ∃ k : Nat, i = .int .i64 k ∧ k ≤ 4 ∧ (∀ j, j < k → smallB (b.get j) = true) ∧ Below w.heap.size w wr) (fun i _ => 4 - (intOf i).toNat)
 case atStart => exact ⟨0, rfl, by omega, fun j h => by omega, D⟩
 case round =>
  replace hv := hv0;clear D;obtain ⟨k, rfl, hk, hF, D⟩ := hrel;replace hv := hv.on D;by_cases hlt : k < 4
  ·refine wp_seq_k (fun K4 hK4 => ?_);refine wp_region_lit ?_;refine wl_yield (o := .mk ..) (.bool true) (yl_lssI (by rfl) _ _ _ rfl (((k : Nat) : Int)) (4) true rfl rfl (decide_eq_true (by omega))) ?_;simp only [Act.put, lz];refine wpList_nil ?_;refine hK4 _ _ ?_;clear hK4 K4;refine wp_seq_k (fun K5 hK5 => ?_);refine wp_cond_true rfl ?_;refine wp_skip ?_;refine hK5 _ _ ?_;clear hK5 K5;refine wp_seq_k (fun K6 hK6 => ?_);refine wp_block ?_;refine wp_seq_k (fun K7 hK7 => ?_);refine wp_region_lit ?_;refine wl_yield (o := .mk ..) (SC.val (BxC.sc c k)) (yl_bxIdx (by rfl) _ _ rfl c k rfl rfl (hlt)) ?_;simp only [Act.put, lz];refine wl_newS (o := .mk ..) (o2 := ⟨_, _, _, _, _, _⟩) (by rfl) rfl _ _ rfl rfl (fun _ => rfl) (fun _ => rfl) (fun v2 gb2 IO4 kb => ?_);simp only [Act.put, lz];replace D := D.trans (kb.mono D.size);replace hv := hv.on kb;clear kb;refine wpList_nil ?_;refine hK7 _ _ ?_;clear hK7 K7;refine wp_seq_k (fun K8 hK8 => ?_);refine wp_region_lit ?_;refine wl_yield (o := .mk ..) (SC.val (BxC.sc c k)) (yl_set (by rfl) _ rfl _ 0 rfl _ _ _ _ (fun _ h => by subst h; exact stCells IO4)) ?_;simp only [Act.put, lz];refine wl_call (o := .mk ..) (by rfl) 128 _ _ rfl #[SC.val (BxC.sc c k)] rfl (run_call Tryz.func128 (by kernel_rfl) (by kernel_rfl)) ?_;refine (smallB_any _ (b.get k) _ (hv.sc k hlt)).mono ?_;rintro r v3 ⟨rfl, kb⟩;replace D := D.trans (kb.mono D.size);replace hv := hv.on kb;replace IO4 := IO4.on kb;clear kb;cases hq : smallB (b.get k)
   ·refine ⟨.bool false, rfl, ?_⟩;simp only [Act.put, lz];refine wl_yield (o := .mk ..) (.bool true) (yl_not (by rfl) _ _ rfl false rfl) ?_;simp only [Act.put, lz];refine wpList_nil ?_;refine hK8 _ _ ?_;clear hK8 K8;refine wp_cond_true rfl ?_;refine wp_seq_k (fun K9 hK9 => ?_);refine wp_region_lit ?_;refine wl_yield (o := .mk ..) (.bool false) (yl_assign (by rfl) _ rfl _ rfl) ?_;simp only [Act.put, lz];refine wpList_nil ?_;refine hK9 _ _ ?_;clear hK9 K9;refine wp_ret ?_;go_ret
    exact ⟨by rw [show smallBx b = false from all4_no hlt hq]; rfl, D⟩
   ·refine ⟨.bool true, rfl, ?_⟩;simp only [Act.put, lz];refine wl_yield (o := .mk ..) (.bool false) (yl_not (by rfl) _ _ rfl true rfl) ?_;simp only [Act.put, lz];refine wpList_nil ?_;refine hK8 _ _ ?_;clear hK8 K8;refine wp_cond_false rfl ?_;refine wp_skip ?_;refine hK6 _ _ ?_;clear hK6 K6;refine wp_region_lit ?_;refine wl_yield (o := .mk ..) (.int .i64 (k + 1 : Nat)) (yl_addI (by rfl) _ _ _ rfl (((k : Nat) : Int)) (1) (((k + 1 : Nat) : Int)) rfl rfl (by omega) (by omega) (by omega)) ?_;simp only [Act.put, lz];refine wl_yield (o := .mk ..) (.int .i64 (k + 1 : Nat)) (yl_move (by rfl) _ rfl _ rfl) ?_;simp only [Act.put, lz];refine wpList_nil ?_;show _ ∧ _;go_roundw
    case rel => exact ⟨k + 1, rfl, by omega, fun j hj => by
     rcases Nat.lt_succ_iff_lt_or_eq.1 hj with h | rfl
     ·exact hF j h
     ·exact hq, D⟩
    case measure => simp [intOf]; omega
  ·refine wp_seq_k (fun K4 hK4 => ?_);refine wp_region_lit ?_;refine wl_yield (o := .mk ..) (.bool false) (yl_lssI (by rfl) _ _ _ rfl (((k : Nat) : Int)) (4) false rfl rfl (decide_eq_false (by omega))) ?_;simp only [Act.put, lz];refine wpList_nil ?_;refine hK4 _ _ ?_;clear hK4 K4;refine wp_seq_k (fun K5 hK5 => ?_);refine wp_cond_false rfl ?_;refine wp_exit ?_;refine hK2 _ _ ?_;clear hK5 K5 hK2 K2;refine wp_seq_k (fun K6 hK6 => ?_);refine wp_region_lit ?_;refine wl_yield (o := .mk ..) (.bool true) (yl_assign (by rfl) _ rfl _ rfl) ?_;simp only [Act.put, lz];refine wpList_nil ?_;refine hK6 _ _ ?_;clear hK6 K6;refine wp_ret ?_;go_ret
   exact ⟨by rw [show smallBx b = true from (all4_iff _).2 fun i hi => hF i (by omega)]; rfl, D⟩
set_option maxHeartbeats 4000000 in
set_option maxRecDepth 100000 in
theorem boxRight_any (c : BxC) (b : BoxV) (w : World) (hv0 : BoxAt w c.val b) :
  Calls Tryz.prog 92 #[c.val] w fun r w' => r = .returned (.bool (rightBx b)) ∧ Below w.heap.size w w' := by
 have hv := hv0;have D := Below.refl w.heap.size w;go_enter Tryz.func92, Tryz.ntmps92;refine wp_seq_k (fun K1 hK1 => ?_);refine wp_region_lit ?_;refine wl_boxBc (o := .mk ..) (by rfl) _ rfl rfl (fun v1 gb1 hggb1 IO1 kb => ?_);simp only [Act.put, lz];replace D := D.trans (kb.mono D.size);replace hv := hv.on kb;clear kb;refine wl_yield (o := .mk ..) (.bool false) (yl_assign (by rfl) _ rfl _ rfl) ?_;simp only [Act.put, lz];refine wpList_nil ?_;refine hK1 _ _ ?_;clear hK1 K1;refine wp_seq_k (fun K2 hK2 => ?_);refine wp_seq_k (fun K3 hK3 => ?_);refine wp_region_lit ?_;refine wl_yield (o := .mk ..) (BxC.val c) (yl_bx (by rfl) _ rfl _ _ rfl _ (fun _ h => by subst h; exact BcIn.at IO1)) ?_;simp only [Act.put, lz];refine wl_yield (o := .mk ..) (.int .i64 0) (yl_move (by rfl) _ rfl _ rfl) ?_;simp only [Act.put, lz];refine wpList_nil ?_;refine hK3 _ _ ?_;clear hK3 K3;refine wp_block ?_;go_loopw [6] (fun i wr => ∃ k : Nat, i = .int .i64 k ∧ k ≤ 4 ∧ (∀ j, j < k → rightSet (b.get j) = true) ∧ Below w.heap.size w wr) (fun i _ => 4 - (intOf i).toNat)
 case atStart => exact ⟨0, rfl, by omega, fun j h => by omega, D⟩
 case round =>
  replace hv := hv0;clear D;obtain ⟨k, rfl, hk, hF, D⟩ := hrel;replace hv := hv.on D;by_cases hlt : k < 4
  ·refine wp_seq_k (fun K4 hK4 => ?_);refine wp_region_lit ?_;refine wl_yield (o := .mk ..) (.bool true) (yl_lssI (by rfl) _ _ _ rfl (((k : Nat) : Int)) (4) true rfl rfl (decide_eq_true (by omega))) ?_;simp only [Act.put, lz];refine wpList_nil ?_;refine hK4 _ _ ?_;clear hK4 K4;refine wp_seq_k (fun K5 hK5 => ?_);refine wp_cond_true rfl ?_;refine wp_skip ?_;refine hK5 _ _ ?_;clear hK5 K5;refine wp_seq_k (fun K6 hK6 => ?_);refine wp_block ?_;refine wp_seq_k (fun K7 hK7 => ?_);refine wp_region_lit ?_;refine wl_yield (o := .mk ..) (SC.val (BxC.sc c k)) (yl_bxIdx (by rfl) _ _ rfl c k rfl rfl (hlt)) ?_;simp only [Act.put, lz];refine wl_newS (o := .mk ..) (o2 := ⟨_, _, _, _, _, _⟩) (by rfl) rfl _ _ rfl rfl (fun _ => rfl) (fun _ => rfl) (fun v2 gb2 IO4 kb => ?_);simp only [Act.put, lz];replace D := D.trans (kb.mono D.size);replace hv := hv.on kb;clear kb;refine wpList_nil ?_;refine hK7 _ _ ?_;clear hK7 K7;refine wp_seq_k (fun K8 hK8 => ?_);refine wp_region_lit ?_;refine wl_yield (o := .mk ..) (SC.val (BxC.sc c k)) (yl_set (by rfl) _ rfl _ 0 rfl _ _ _ _ (fun _ h => by subst h; exact stCells IO4)) ?_;simp only [Act.put, lz];refine wl_call (o := .mk ..) (by rfl) 129 _ _ rfl #[SC.val (BxC.sc c k)] rfl (run_call Tryz.func129 (by kernel_rfl) (by kernel_rfl)) ?_;refine (setRight_any _ (b.get k) _ (hv.sc k hlt)).mono ?_;rintro r v3 ⟨rfl, kb⟩;replace D := D.trans (kb.mono D.size);replace hv := hv.on kb;replace IO4 := IO4.on kb;clear kb;cases hq : rightSet (b.get k)
   ·refine ⟨.bool false, rfl, ?_⟩;simp only [Act.put, lz];refine wl_yield (o := .mk ..) (.bool true) (yl_not (by rfl) _ _ rfl false rfl) ?_;simp only [Act.put, lz];refine wpList_nil ?_;refine hK8 _ _ ?_;clear hK8 K8;refine wp_cond_true rfl ?_;refine wp_seq_k (fun K9 hK9 => ?_);refine wp_region_lit ?_;refine wl_yield (o := .mk ..) (.bool false) (yl_assign (by rfl) _ rfl _ rfl) ?_;simp only [Act.put, lz];refine wpList_nil ?_;refine hK9 _ _ ?_;clear hK9 K9;refine wp_ret ?_;go_ret
    exact ⟨by rw [show rightBx b = false from all4_no hlt hq]; rfl, D⟩
   ·refine ⟨.bool true, rfl, ?_⟩;simp only [Act.put, lz];refine wl_yield (o := .mk ..) (.bool false) (yl_not (by rfl) _ _ rfl true rfl) ?_;simp only [Act.put, lz];refine wpList_nil ?_;refine hK8 _ _ ?_;clear hK8 K8;refine wp_cond_false rfl ?_;refine wp_skip ?_;refine hK6 _ _ ?_;clear hK6 K6;refine wp_region_lit ?_;refine wl_yield (o := .mk ..) (.int .i64 (k + 1 : Nat)) (yl_addI (by rfl) _ _ _ rfl (((k : Nat) : Int)) (1) (((k + 1 : Nat) : Int)) rfl rfl (by omega) (by omega) (by omega)) ?_;simp only [Act.put, lz];refine wl_yield (o := .mk ..) (.int .i64 (k + 1 : Nat)) (yl_move (by rfl) _ rfl _ rfl) ?_;simp only [Act.put, lz];refine wpList_nil ?_;show _ ∧ _;go_roundw
    case rel => exact ⟨k + 1, rfl, by omega, fun j hj => by
     rcases Nat.lt_succ_iff_lt_or_eq.1 hj with h | rfl
     ·exact hF j h
     ·exact hq, D⟩
    case measure => simp [intOf]; omega
  ·refine wp_seq_k (fun K4 hK4 => ?_);refine wp_region_lit ?_;refine wl_yield (o := .mk ..) (.bool false) (yl_lssI (by rfl) _ _ _ rfl (((k : Nat) : Int)) (4) false rfl rfl (decide_eq_false (by omega))) ?_;simp only [Act.put, lz];refine wpList_nil ?_;refine hK4 _ _ ?_;clear hK4 K4;refine wp_seq_k (fun K5 hK5 => ?_);refine wp_cond_false rfl ?_;refine wp_exit ?_;refine hK2 _ _ ?_;clear hK5 K5 hK2 K2;refine wp_seq_k (fun K6 hK6 => ?_);refine wp_region_lit ?_;refine wl_yield (o := .mk ..) (.bool true) (yl_assign (by rfl) _ rfl _ rfl) ?_;simp only [Act.put, lz];refine wpList_nil ?_;refine hK6 _ _ ?_;clear hK6 K6;refine wp_ret ?_;go_ret
   exact ⟨by rw [show rightBx b = true from (all4_iff _).2 fun i hi => hF i (by omega)]; rfl, D⟩
set_option maxHeartbeats 4000000 in
set_option maxRecDepth 100000 in
theorem dnfRight_any (v : Value) (l : List BoxV) (w : World) (hv : Bxs w v l) :
  Calls Tryz.prog 47 #[v] w fun r w' => r = .returned (.bool (rightF l)) ∧ Below w.heap.size w w' := by
 obtain ⟨cs, hr, ha⟩ := hv;have hbig := hr.1;have hcl := ha.1;obtain ⟨q, cp, rfl⟩ := hr.form;have D := Below.refl w.heap.size w;go_enter Tryz.func47, Tryz.ntmps47;refine wp_seq_k (fun K1 hK1 => ?_);refine wp_region_lit ?_;refine wl_yield (o := .mk ..) (.bool false) (yl_assign (by rfl) _ rfl _ rfl) ?_;simp only [Act.put, lz];refine wpList_nil ?_;refine hK1 _ _ ?_;clear hK1 K1;refine wp_seq_k (fun K2 hK2 => ?_);refine wp_seq_k (fun K3 hK3 => ?_);refine wp_region_lit ?_;refine wl_yield (o := .mk ..) (.slice q cs.length cp) (yl_move (by rfl) _ rfl _ rfl) ?_;simp only [Act.put, lz];refine wl_yield (o := .mk ..) (.int .i64 (cs.length : Nat)) (yl_lenF (by rfl) _ rfl _ _ _ rfl) ?_;simp only [Act.put, lz];refine wl_yield (o := .mk ..) (.bool (decide (4 < cs.length))) (yl_gtrI (by rfl) _ _ _ rfl (((cs.length : Nat) : Int)) (4) (decide (4 < cs.length)) rfl rfl (by rw [decide_eq_decide]; omega)) ?_;simp only [Act.put, lz];refine wpList_nil ?_;refine hK3 _ _ ?_;clear hK3 K3;refine wp_cond_split (t := (decide (4 < cs.length))) rfl (fun hc => ?_) (fun hc => ?_)
 ·have h4 : 4 < cs.length := of_decide_eq_true hc;refine wp_seq_k (fun K4 hK4 => ?_);refine wp_region_lit ?_;refine wl_yield (o := .mk ..) (.bool false) (yl_assign (by rfl) _ rfl _ rfl) ?_;simp only [Act.put, lz];refine wpList_nil ?_;refine hK4 _ _ ?_;clear hK4 K4;refine wp_ret ?_;go_ret
  exact ⟨by unfold rightF; rw [decide_eq_false (show ¬ l.length ≤ 4 by omega), Bool.false_and]; rfl, D⟩
 ·have h4 : ¬ 4 < cs.length := of_decide_eq_false hc;refine wp_skip ?_;refine hK2 _ _ ?_;clear hK2 K2;refine wp_seq_k (fun K4 hK4 => ?_);refine wp_seq_k (fun K5 hK5 => ?_);refine wp_region_lit ?_;refine wl_yield (o := .mk ..) (.slice q cs.length cp) (yl_move (by rfl) _ rfl _ rfl) ?_;simp only [Act.put, lz];refine wl_yield (o := .mk ..) (.int .i64 (cs.length : Nat)) (yl_lenF (by rfl) _ rfl _ _ _ rfl) ?_;simp only [Act.put, lz];refine wl_yield (o := .mk ..) (.int .i64 0) (yl_move (by rfl) _ rfl _ rfl) ?_;simp only [Act.put, lz];refine wpList_nil ?_;refine hK5 _ _ ?_;clear hK5 K5;refine wp_block ?_;go_loopw [10] (fun i wr => ∃ k : Nat, i = .int .i64 k ∧ k ≤ cs.length ∧ (∀ j, j < k → (smallBx (l.getD j zBox) && rightBx (l.getD j zBox)) = true) ∧ Below w.heap.size w wr) (fun i _ => cs.length - (intOf i).toNat)
  case atStart => exact ⟨0, rfl, by omega, fun j h => by omega, D⟩
  case round =>
   clear D;obtain ⟨k, rfl, hk, hF, D⟩ := hrel;by_cases hlt : k < cs.length
   ·have hkl : k < l.length := by rw [← ha.1]; exact hlt
    obtain ⟨g, off, rfl, HC⟩ := (hr.on D).at.2 k hlt;have hb := ha.2 k hkl;refine wp_seq_k (fun K6 hK6 => ?_);refine wp_region_lit ?_;refine wl_yield (o := .mk ..) (.bool true) (yl_lssI (by rfl) _ _ _ rfl (((k : Nat) : Int)) (((cs.length : Nat) : Int)) true rfl rfl (decide_eq_true (by omega))) ?_;simp only [Act.put, lz];refine wpList_nil ?_;refine hK6 _ _ ?_;clear hK6 K6;refine wp_seq_k (fun K7 hK7 => ?_);refine wp_cond_true rfl ?_;refine wp_skip ?_;refine hK7 _ _ ?_;clear hK7 K7;refine wp_seq_k (fun K8 hK8 => ?_);refine wp_block ?_;refine wp_seq_k (fun K9 hK9 => ?_);refine wp_region_lit ?_;refine wl_yield (o := .mk ..) (.pointer (some ⟨g, off + k * 16, none⟩)) (yl_fxAt (by rfl) _ _ rfl g (off) _ _ (k) rfl rfl (hlt)) ?_;simp only [Act.put, lz];refine wl_yield (o := .mk ..) (BxC.val (cs.getD k bc0)) (yl_bx (by rfl) _ rfl _ _ rfl _ (fun _ h => by subst h; exact HC)) ?_;simp only [Act.put, lz];refine wl_newB (o := .mk ..) (o2 := ⟨_, _, _, _, _, _⟩) (by rfl) rfl _ _ rfl rfl (fun _ => rfl) (fun _ => rfl) (fun v1 gb1 hggb1 IO4 kb => ?_);simp only [Act.put, lz];replace D := D.trans (kb.mono D.size);clear kb;refine wpList_nil ?_;refine hK9 _ _ ?_;clear hK9 K9;refine wp_seq_k (fun K10 hK10 => ?_);refine wp_region_lit ?_;refine wl_yield (o := .mk ..) (BxC.val (cs.getD k bc0)) (yl_bx (by rfl) _ rfl _ _ rfl _ (fun _ h => by subst h; exact BcIn.at IO4)) ?_;simp only [Act.put, lz];refine wl_call (o := .mk ..) (by rfl) 91 _ _ rfl #[BxC.val (cs.getD k bc0)] rfl (run_call Tryz.func91 (by kernel_rfl) (by kernel_rfl)) ?_;refine (boxSmall_any (cs.getD k bc0) (l.getD k zBox) _ (hb.on D)).mono ?_;rintro r v2 ⟨rfl, kb⟩;replace D := D.trans (kb.mono D.size);replace IO4 := IO4.on kb;clear kb;cases hq1 : smallBx (l.getD k zBox)
    ·refine ⟨.bool false, rfl, ?_⟩;simp only [Act.put, lz];refine wl_yield (o := .mk ..) (.bool true) (yl_not (by rfl) _ _ rfl false rfl) ?_;simp only [Act.put, lz];refine wl_yield (o := .mk ..) (.bool true) (yl_move (by rfl) _ rfl _ rfl) ?_;simp only [Act.put, lz];with_reducible refine wl_yield (o := .mk ..) undef (yl_undef (by kernel_rfl)) ?_
     simp only [Act.put, lz];with_reducible refine wl_yield (o := .mk ..) undef (yl_undef (by kernel_rfl)) ?_
     simp only [Act.put, lz];with_reducible refine wl_yield (o := .mk ..) undef (yl_undef (by kernel_rfl)) ?_
     simp only [Act.put, lz];refine wl_yield (o := .mk ..) (.bool true) (yl_pickT (by rfl) _ _ _ rfl rfl _ rfl) ?_;simp only [Act.put, lz];refine wpList_nil ?_;refine hK10 _ _ ?_;clear hK10 K10;refine wp_cond_true rfl ?_;refine wp_seq_k (fun K11 hK11 => ?_);refine wp_region_lit ?_;refine wl_yield (o := .mk ..) (.bool false) (yl_assign (by rfl) _ rfl _ rfl) ?_;simp only [Act.put, lz];refine wpList_nil ?_;refine hK11 _ _ ?_;clear hK11 K11;refine wp_ret ?_;go_ret
     exact ⟨by unfold rightF; rw [show l.all (fun b => smallBx b && rightBx b) = false from List.all_eq_false.2 ⟨_, getB_mem hkl, by rw [hq1]; simp⟩, Bool.false_and, Bool.and_false]; rfl, D⟩
    ·refine ⟨.bool true, rfl, ?_⟩;simp only [Act.put, lz];refine wl_yield (o := .mk ..) (.bool false) (yl_not (by rfl) _ _ rfl true rfl) ?_;simp only [Act.put, lz];refine wl_yield (o := .mk ..) (.bool false) (yl_move (by rfl) _ rfl _ rfl) ?_;simp only [Act.put, lz];refine wl_yield (o := .mk ..) (BxC.val (cs.getD k bc0)) (yl_bx (by rfl) _ rfl _ _ rfl _ (fun _ h => by subst h; exact BcIn.at IO4)) ?_;simp only [Act.put, lz];refine wl_call (o := .mk ..) (by rfl) 92 _ _ rfl #[BxC.val (cs.getD k bc0)] rfl (run_call Tryz.func92 (by kernel_rfl) (by kernel_rfl)) ?_;refine (boxRight_any (cs.getD k bc0) (l.getD k zBox) _ (hb.on D)).mono ?_;rintro r v3 ⟨rfl, kb⟩;replace D := D.trans (kb.mono D.size);replace IO4 := IO4.on kb;clear kb;cases hq2 : rightBx (l.getD k zBox)
     ·refine ⟨.bool false, rfl, ?_⟩;simp only [Act.put, lz];refine wl_yield (o := .mk ..) (.bool true) (yl_not (by rfl) _ _ rfl false rfl) ?_;simp only [Act.put, lz];refine wl_yield (o := .mk ..) (.bool true) (yl_pickF (by rfl) _ _ _ rfl rfl _ rfl) ?_;simp only [Act.put, lz];refine wpList_nil ?_;refine hK10 _ _ ?_;clear hK10 K10;refine wp_cond_true rfl ?_;refine wp_seq_k (fun K11 hK11 => ?_);refine wp_region_lit ?_;refine wl_yield (o := .mk ..) (.bool false) (yl_assign (by rfl) _ rfl _ rfl) ?_;simp only [Act.put, lz];refine wpList_nil ?_;refine hK11 _ _ ?_;clear hK11 K11;refine wp_ret ?_;go_ret
      exact ⟨by unfold rightF; rw [show l.all (fun b => smallBx b && rightBx b) = false from List.all_eq_false.2 ⟨_, getB_mem hkl, by rw [hq1, hq2]; simp⟩, Bool.false_and, Bool.and_false]; rfl, D⟩
     ·refine ⟨.bool true, rfl, ?_⟩;simp only [Act.put, lz];refine wl_yield (o := .mk ..) (.bool false) (yl_not (by rfl) _ _ rfl true rfl) ?_;simp only [Act.put, lz];refine wl_yield (o := .mk ..) (.bool false) (yl_pickF (by rfl) _ _ _ rfl rfl _ rfl) ?_;simp only [Act.put, lz];refine wpList_nil ?_;refine hK10 _ _ ?_;clear hK10 K10;refine wp_cond_false rfl ?_;refine wp_skip ?_;refine hK8 _ _ ?_;clear hK8 K8;refine wp_region_lit ?_;refine wl_yield (o := .mk ..) (.int .i64 (k + 1 : Nat)) (yl_addI (by rfl) _ _ _ rfl (((k : Nat) : Int)) (1) (((k + 1 : Nat) : Int)) rfl rfl (by omega) (by omega) (by omega)) ?_;simp only [Act.put, lz];refine wl_yield (o := .mk ..) (.int .i64 (k + 1 : Nat)) (yl_move (by rfl) _ rfl _ rfl) ?_;simp only [Act.put, lz];refine wpList_nil ?_;show _ ∧ _;go_roundw
      case rel => exact ⟨k + 1, rfl, by omega, fun j hj => by
       rcases Nat.lt_succ_iff_lt_or_eq.1 hj with h | rfl
       ·exact hF j h
       ·rw [hq1, hq2]; rfl, D⟩
      case measure => simp [intOf]; omega
   ·have hall : ∀ b ∈ l, (smallBx b && rightBx b) = true := fun b hb => by
     obtain ⟨i, hi, rfl⟩ := List.getElem_of_mem hb;have := hF i (by omega)
     rwa [List.getD_eq_getElem?_getD, List.getElem?_eq_getElem hi] at this
    have fl : FitL l := fun b hb => by
     have h := hall b hb;rw [Bool.and_eq_true] at h;obtain ⟨i, hi, rfl⟩ := List.getElem_of_mem hb;have hbx := ha.2 i hi;rw [List.getD_eq_getElem?_getD, List.getD_eq_getElem?_getD, List.getElem?_eq_getElem hi] at hbx;exact fit_small hbx h.1 h.2
    refine wp_seq_k (fun K6 hK6 => ?_);refine wp_region_lit ?_;refine wl_yield (o := .mk ..) (.bool false) (yl_lssI (by rfl) _ _ _ rfl (((k : Nat) : Int)) (((cs.length : Nat) : Int)) false rfl rfl (decide_eq_false (by omega))) ?_;simp only [Act.put, lz];refine wpList_nil ?_;refine hK6 _ _ ?_;clear hK6 K6;refine wp_seq_k (fun K7 hK7 => ?_);refine wp_cond_false rfl ?_;refine wp_exit ?_;refine hK4 _ _ ?_;clear hK7 K7 hK4 K4;refine wp_seq_k (fun K8 hK8 => ?_);refine wp_region_lit ?_;refine wl_yield (o := .mk ..) (.slice q cs.length cp) (yl_move (by rfl) _ rfl _ rfl) ?_;simp only [Act.put, lz];refine wl_call (o := .mk ..) (by rfl) 85 _ _ rfl #[.slice q cs.length cp] rfl (run_call Tryz.func85 (by kernel_rfl) (by kernel_rfl)) ?_;refine (tidied_any _ l _ (⟨cs, hr.on D, ha.on D⟩) fl (by omega)).mono ?_;rintro r v1 ⟨⟨u1, ks, rfl, hO, hA⟩, kb⟩;replace D := D.trans (kb.mono D.size);clear kb;obtain ⟨q1, c1, rfl⟩ := hO.sl;refine ⟨.slice q1 ks.length c1, rfl, ?_⟩;simp only [Act.put, lz];refine wl_yield (o := .mk ..) (.int .i64 (ks.length : Nat)) (yl_lenB (by rfl) _ rfl _ _ _ rfl) ?_;simp only [Act.put, lz];refine wl_yield (o := .mk ..) (.slice q cs.length cp) (yl_move (by rfl) _ rfl _ rfl) ?_;simp only [Act.put, lz];refine wl_yield (o := .mk ..) (.int .i64 (cs.length : Nat)) (yl_lenF (by rfl) _ rfl _ _ _ rfl) ?_;simp only [Act.put, lz];refine wl_yield (o := .mk ..) (.bool (decide (ks.length = cs.length))) (yl_eqlI (by rfl) _ _ _ rfl (((ks.length : Nat) : Int)) (((cs.length : Nat) : Int)) (decide (ks.length = cs.length)) rfl rfl (by rw [decide_eq_decide]; omega)) ?_;simp only [Act.put, lz];refine wl_yield (o := .mk ..) (.bool (decide (ks.length = cs.length))) (yl_assign (by rfl) _ rfl _ rfl) ?_;simp only [Act.put, lz];refine wpList_nil ?_;refine hK8 _ _ ?_;clear hK8 K8;refine wp_ret ?_;go_ret
    exact ⟨by unfold rightF; rw [decide_eq_true (show l.length ≤ 4 by omega), List.all_eq_true.2 hall, ← hA.1, ← ha.1]; rfl, D⟩
end Go.Proofs.YtlmdcaemjaldfaaGreat
namespace Go.Proofs.YtlmdcaemjaldfaaGreat
open Go.RowKit
set_option maxHeartbeats 4000000 in
set_option maxRecDepth 100000 in
theorem product_any (v u0 : Value) (l m : List BoxV) (w : World) (hv : Bxs w v l) (hu : Bxs w u0 m) (fl : FitL l) (fm : FitL m) (hlm : l.length * m.length ≤ 1000) :
  Calls Tryz.prog 89 #[v, u0] w fun r w' => (∃ u ks B, r = .returned u ∧ OwnB w' B u ks ∧ AllBx w' ks (prodL l m)) ∧ Below w.heap.size w w' := by
 obtain ⟨cs, h1, ha⟩ := hv;obtain ⟨ds, h2, hb⟩ := hu;have hbig := h1.1;have hbig2 := h2.1;have hcl := ha.1;have hdl := hb.1;obtain ⟨N, hN⟩ : ∃ N, cs.length * ds.length = N := ⟨_, rfl⟩
 have hN1 : N ≤ 1000 := by rw [← hN, hcl, hdl]; exact hlm
 obtain ⟨q1, p1, rfl⟩ := h1.form;obtain ⟨q2, p2, rfl⟩ := h2.form;have D := Below.refl w.heap.size w;go_enter Tryz.func89, Tryz.ntmps89;refine wp_seq_k (fun K1 hK1 => ?_);refine wp_region_lit ?_;refine wl_yield (o := .mk ..) (.slice none 0 0) (yl_assign (by rfl) _ rfl _ rfl) ?_;simp only [Act.put, lz];refine wpList_nil ?_;refine hK1 _ _ ?_;clear hK1 K1;refine wp_seq_k (fun K2 hK2 => ?_);refine wp_region_lit ?_;refine wl_yield (o := .mk ..) (.slice q1 cs.length p1) (yl_move (by rfl) _ rfl _ rfl) ?_;simp only [Act.put, lz];refine wl_yield (o := .mk ..) (.int .i64 (cs.length : Nat)) (yl_lenB (by rfl) _ rfl _ _ _ rfl) ?_;simp only [Act.put, lz];refine wl_yield (o := .mk ..) (.slice q2 ds.length p2) (yl_move (by rfl) _ rfl _ rfl) ?_;simp only [Act.put, lz];refine wl_yield (o := .mk ..) (.int .i64 (ds.length : Nat)) (yl_lenB (by rfl) _ rfl _ _ _ rfl) ?_;simp only [Act.put, lz];refine wl_yield (o := .mk ..) (.int .i64 (N : Nat)) (yl_mulI (by rfl) _ _ _ rfl (((cs.length : Nat) : Int)) (((ds.length : Nat) : Int)) ((N : Nat) : Int) rfl rfl (by rw [← hN]; exact (Int.natCast_mul _ _).symm) (by omega) (by omega)) ?_;simp only [Act.put, lz];refine wl_makeC (o := .mk ..) (by rfl) _ _ rfl rfl N rfl (by omega) (fun u v1 hown kb => ?_);simp only [Act.put, lz];replace D := D.trans (kb.mono D.size);clear kb;refine wl_yield (o := .mk ..) (u) (yl_assign (by rfl) _ rfl _ rfl) ?_;simp only [Act.put, lz];refine wpList_nil ?_;refine hK2 _ _ ?_;clear hK2 K2;refine wp_seq_k (fun K3 hK3 => ?_);refine wp_seq_k (fun K4 hK4 => ?_);refine wp_region_lit ?_;refine wl_yield (o := .mk ..) (.slice q1 cs.length p1) (yl_move (by rfl) _ rfl _ rfl) ?_;simp only [Act.put, lz];refine wl_yield (o := .mk ..) (.int .i64 (cs.length : Nat)) (yl_lenB (by rfl) _ rfl _ _ _ rfl) ?_;simp only [Act.put, lz];refine wl_yield (o := .mk ..) (.int .i64 0) (yl_move (by rfl) _ rfl _ rfl) ?_;simp only [Act.put, lz];refine wpList_nil ?_;refine hK4 _ _ ?_;clear hK4 K4;refine wp_block ?_;go_loopw [5, 18] (fun u i wr => ∃ (k : Nat) (ks : List BxC), i = .int .i64 k ∧ k ≤ cs.length ∧ OwnC wr w.heap.size u ks ∧ ks.length = k * ds.length ∧ AllBx wr ks (prodL (l.take k) m) ∧ Below w.heap.size w wr) (fun _ i _ => cs.length - (intOf i).toNat)
 case atStart => exact ⟨0, [], rfl, by omega, hown, by simp, ⟨by simp [prodL], fun i h => by simp [prodL] at h⟩, D⟩
 case round =>
  clear D hown;obtain ⟨k, ks, rfl, hk, hown, hkl, hA, D⟩ := hrel;by_cases hlt : k < cs.length
  ·have hkL : k < l.length := by rw [← ha.1]; exact hlt
   obtain ⟨g1, o1, rfl, HC⟩ := (h1.on D).at.2 k hlt;have hb1 := ha.2 k hkL;have hownR := hown;refine wp_seq_k (fun K5 hK5 => ?_);refine wp_region_lit ?_;refine wl_yield (o := .mk ..) (.bool true) (yl_lssI (by rfl) _ _ _ rfl (((k : Nat) : Int)) (((cs.length : Nat) : Int)) true rfl rfl (decide_eq_true (by omega))) ?_;simp only [Act.put, lz];refine wpList_nil ?_;refine hK5 _ _ ?_;clear hK5 K5;refine wp_seq_k (fun K6 hK6 => ?_);refine wp_cond_true rfl ?_;refine wp_skip ?_;refine hK6 _ _ ?_;clear hK6 K6;refine wp_seq_k (fun K7 hK7 => ?_);refine wp_block ?_;refine wp_seq_k (fun K8 hK8 => ?_);refine wp_region_lit ?_;refine wl_yield (o := .mk ..) (.pointer (some ⟨g1, o1 + k * 16, none⟩)) (yl_bxAt (by rfl) _ _ rfl g1 (o1) _ _ (k) rfl rfl (hlt)) ?_;simp only [Act.put, lz];refine wl_yield (o := .mk ..) (BxC.val (cs.getD k bc0)) (yl_bx (by rfl) _ rfl _ _ rfl _ (fun _ h => by subst h; exact HC)) ?_;simp only [Act.put, lz];refine wl_newB (o := .mk ..) (o2 := ⟨_, _, _, _, _, _⟩) (by rfl) rfl _ _ rfl rfl (fun _ => rfl) (fun _ => rfl) (fun v2 gb2 hggb2 H7 kb => ?_);simp only [Act.put, lz];replace D := D.trans (kb.mono D.size);replace hown := hown.on kb;replace hA := hA.on kb;clear kb;refine wpList_nil ?_;refine hK8 _ _ ?_;clear hK8 K8;refine wp_seq_k (fun K9 hK9 => ?_);refine wp_region_lit ?_;refine wl_yield (o := .mk ..) (.slice q2 ds.length p2) (yl_move (by rfl) _ rfl _ rfl) ?_;simp only [Act.put, lz];refine wl_yield (o := .mk ..) (.int .i64 (ds.length : Nat)) (yl_lenB (by rfl) _ rfl _ _ _ rfl) ?_;simp only [Act.put, lz];refine wl_yield (o := .mk ..) (.int .i64 0) (yl_move (by rfl) _ rfl _ rfl) ?_;simp only [Act.put, lz];refine wpList_nil ?_;refine hK9 _ _ ?_;clear hK9 K9;refine wp_block ?_;have hne := hownR.own.ne hggb2;go_loopw [5, 24] (fun u i wr => ∃ (j : Nat) (ks' : List BxC), i = .int .i64 j ∧ j ≤ ds.length ∧ OwnC wr w.heap.size u ks' ∧ ks'.length = k * ds.length + j ∧ AllBx wr ks' (prodL (l.take k) m ++ (m.take j).map fun b => andBx (l.getD k zBox) b) ∧ BcIn wr gb2 (cs.getD k bc0) ∧ some gb2 ≠ u.ownBlock ∧ Below w.heap.size w wr) (fun _ i _ => ds.length - (intOf i).toNat)
   case atStart => exact ⟨0, ks, rfl, by omega, hown, by omega, by rw [List.take_zero, List.map_nil, List.append_nil]; exact hA, H7, hne, D⟩
   case round =>
    clear D hown hA H7 hne;obtain ⟨j, ks', rfl, hj, hown, hkl', hA, H7, hne, D⟩ := hrel;by_cases hlt2 : j < ds.length
    ·have hjM : j < m.length := by rw [← hb.1]; exact hlt2
     obtain ⟨g2, o2, rfl, HC2⟩ := (h2.on D).at.2 j hlt2;have hb2 := hb.2 j hjM;have hixN := idx_lt hlt hlt2 hN;refine wp_seq_k (fun K10 hK10 => ?_);refine wp_region_lit ?_;refine wl_yield (o := .mk ..) (.bool true) (yl_lssI (by rfl) _ _ _ rfl (((j : Nat) : Int)) (((ds.length : Nat) : Int)) true rfl rfl (decide_eq_true (by omega))) ?_;simp only [Act.put, lz];refine wpList_nil ?_;refine hK10 _ _ ?_;clear hK10 K10;refine wp_seq_k (fun K11 hK11 => ?_);refine wp_cond_true rfl ?_;refine wp_skip ?_;refine hK11 _ _ ?_;clear hK11 K11;refine wp_seq_k (fun K12 hK12 => ?_);refine wp_block ?_;refine wp_seq_k (fun K13 hK13 => ?_);refine wp_region_lit ?_;refine wl_yield (o := .mk ..) (.pointer (some ⟨g2, o2 + j * 16, none⟩)) (yl_bxAt (by rfl) _ _ rfl g2 (o2) _ _ (j) rfl rfl (hlt2)) ?_;simp only [Act.put, lz];refine wl_yield (o := .mk ..) (BxC.val (ds.getD j bc0)) (yl_bx (by rfl) _ rfl _ _ rfl _ (fun _ h => by subst h; exact HC2)) ?_;simp only [Act.put, lz];refine wl_newB (o := .mk ..) (o2 := ⟨_, _, _, _, _, _⟩) (by rfl) rfl _ _ rfl rfl (fun _ => rfl) (fun _ => rfl) (fun v3 gb3 hggb3 H9 kb => ?_);simp only [Act.put, lz];replace D := D.trans (kb.mono D.size);replace hown := hown.on kb;replace hA := hA.on kb;replace H7 := H7.on kb;clear kb;refine wpList_nil ?_;refine hK13 _ _ ?_;clear hK13 K13;refine wp_region_lit ?_;refine wl_yield (o := .mk ..) (u5) (yl_move (by rfl) _ rfl _ rfl) ?_;simp only [Act.put, lz];refine wl_yield (o := .mk ..) (BxC.val (cs.getD k bc0)) (yl_bx (by rfl) _ rfl _ _ rfl _ (fun _ h => by subst h; exact BcIn.at H7)) ?_;simp only [Act.put, lz];refine wl_yield (o := .mk ..) (BxC.val (ds.getD j bc0)) (yl_bx (by rfl) _ rfl _ _ rfl _ (fun _ h => by subst h; exact BcIn.at H9)) ?_;simp only [Act.put, lz];refine wl_call (o := .mk ..) (by rfl) 139 _ _ rfl #[BxC.val (cs.getD k bc0), BxC.val (ds.getD j bc0)] rfl (run_call Tryz.func139 (by kernel_rfl) (by kernel_rfl)) ?_;refine (boxAnd_any setProg _ _ _ _ _ (hb1.on D) (hb2.on D) (fl _ (getB_mem hkL)) (fm _ (getB_mem hjM))).mono ?_;rintro r v4 ⟨⟨y1, rfl, hy⟩, kb⟩;replace D := D.trans (kb.mono D.size);replace hown := hown.on kb;replace hA := hA.on kb;replace H7 := H7.on kb;replace H9 := H9.on kb;clear kb;obtain ⟨cy, rfl⟩ := hy.bc;refine ⟨BxC.val cy, rfl, ?_⟩;simp only [Act.put, lz];refine wl_rowB1 (o := .mk ..) (by rfl) _ rfl rfl (fun v5 gb5 hggb5 IO32 kb => ?_);simp only [Act.put, lz];replace D := D.trans (kb.mono D.size);replace hown := hown.on kb;replace hA := hA.on kb;replace H7 := H7.on kb;replace H9 := H9.on kb;replace hy := hy.on kb;clear kb;refine wl_appC (o := .mk ..) (by rfl) _ _ rfl w.heap.size u5 ks' rfl hown gb5 cy rfl IO32 (by omega) D.size (fun u9 v6 hown9 hA9 hw9 hc9 => ?_);simp only [Act.put, lz];have hlt9 := lt_heap H7;replace H7 : BcIn v6 gb2 (cs.getD k bc0) := (hA9.k _ (lt_heap H7) hne).trans H7;replace hA := allBx_snoc (hA.carry hc9) (hc9 hy);rw [List.append_assoc, ← take_map _ m j zBox hjM] at hA;replace hne : some gb2 ≠ u9.ownBlock := fun e => by
      rcases hw9 _ e.symm with h | h
      ·exact hne h
      ·omega
     replace D := D.trans hA9.b;replace hown := hown9;clear hown9 hA9 hw9 hc9 hy;refine wl_yield (o := .mk ..) (u9) (yl_assign (by rfl) _ rfl _ rfl) ?_;simp only [Act.put, lz];refine wpList_nil ?_;refine hK12 _ _ ?_;clear hK12 K12;refine wp_region_lit ?_;refine wl_yield (o := .mk ..) (.int .i64 (j + 1 : Nat)) (yl_addI (by rfl) _ _ _ rfl (((j : Nat) : Int)) (1) (((j + 1 : Nat) : Int)) rfl rfl (by omega) (by omega) (by omega)) ?_;simp only [Act.put, lz];refine wl_yield (o := .mk ..) (.int .i64 (j + 1 : Nat)) (yl_move (by rfl) _ rfl _ rfl) ?_;simp only [Act.put, lz];refine wpList_nil ?_;show _ ∧ _;go_roundw
     case rel => exact ⟨j + 1, _, rfl, by omega, hown, by rw [List.length_append, List.length_singleton, hkl']; omega, hA, H7, hne, D⟩
     case measure => simp [intOf]; omega
    ·refine wp_seq_k (fun K10 hK10 => ?_);refine wp_region_lit ?_;refine wl_yield (o := .mk ..) (.bool false) (yl_lssI (by rfl) _ _ _ rfl (((j : Nat) : Int)) (((ds.length : Nat) : Int)) false rfl rfl (decide_eq_false (by omega))) ?_;simp only [Act.put, lz];refine wpList_nil ?_;refine hK10 _ _ ?_;clear hK10 K10;refine wp_seq_k (fun K11 hK11 => ?_);refine wp_cond_false rfl ?_;refine wp_exit ?_;refine hK7 _ _ ?_;clear hK11 K11 hK7 K7;refine wp_region_lit ?_;refine wl_yield (o := .mk ..) (.int .i64 (k + 1 : Nat)) (yl_addI (by rfl) _ _ _ rfl (((k : Nat) : Int)) (1) (((k + 1 : Nat) : Int)) rfl rfl (by omega) (by omega) (by omega)) ?_;simp only [Act.put, lz];refine wl_yield (o := .mk ..) (.int .i64 (k + 1 : Nat)) (yl_move (by rfl) _ rfl _ rfl) ?_;simp only [Act.put, lz];refine wpList_nil ?_;show _ ∧ _;go_roundw
     case rel => exact ⟨k + 1, ks', rfl, by omega, hown, by rw [hkl', Nat.succ_mul]; omega, by rw [prod_take l m k hkL]; rw [show j = m.length by omega, List.take_length] at hA; exact hA, D⟩
     case measure => simp [intOf]; omega
  ·refine wp_seq_k (fun K5 hK5 => ?_);refine wp_region_lit ?_;refine wl_yield (o := .mk ..) (.bool false) (yl_lssI (by rfl) _ _ _ rfl (((k : Nat) : Int)) (((cs.length : Nat) : Int)) false rfl rfl (decide_eq_false (by omega))) ?_;simp only [Act.put, lz];refine wpList_nil ?_;refine hK5 _ _ ?_;clear hK5 K5;refine wp_seq_k (fun K6 hK6 => ?_);refine wp_cond_false rfl ?_;refine wp_exit ?_;refine hK3 _ _ ?_;clear hK6 K6 hK3 K3;refine wp_seq_k (fun K7 hK7 => ?_);refine wp_region_lit ?_;refine wl_yield (o := .mk ..) (u5) (yl_move (by rfl) _ rfl _ rfl) ?_;simp only [Act.put, lz];refine wl_yield (o := .mk ..) (u5) (yl_assign (by rfl) _ rfl _ rfl) ?_;simp only [Act.put, lz];refine wpList_nil ?_;refine hK7 _ _ ?_;clear hK7 K7;refine wp_ret ?_;go_ret
   exact ⟨⟨_, ks, _, rfl, hown.own, by rw [show k = l.length by have := ha.1; omega, List.take_length] at hA; exact hA⟩, D⟩
set_option maxHeartbeats 4000000 in
set_option maxRecDepth 100000 in
theorem sum_any (v u0 : Value) (l m : List BoxV) (w : World) (hv : Bxs w v l) (hu : Bxs w u0 m) (n1 : nilOk v) (n2 : nilOk u0) (hlm : l.length + m.length ≤ 1000) :
  Calls Tryz.prog 90 #[v, u0] w fun r w' => (∃ u ks B, r = .returned u ∧ OwnB w' B u ks ∧ AllBx w' ks (l ++ m)) ∧ Below w.heap.size w w' := by
 obtain ⟨cs, h1, ha⟩ := hv;obtain ⟨ds, h2, hb⟩ := hu;have hbig := h1.1;have hbig2 := h2.1;have hcl := ha.1;have hdl := hb.1;obtain ⟨q1, p1, rfl⟩ := h1.form;obtain ⟨q2, p2, rfl⟩ := h2.form;have D := Below.refl w.heap.size w;go_enter Tryz.func90, Tryz.ntmps90;refine wp_seq_k (fun K1 hK1 => ?_);refine wp_region_lit ?_;refine wl_yield (o := .mk ..) (.slice none 0 0) (yl_assign (by rfl) _ rfl _ rfl) ?_;simp only [Act.put, lz];refine wpList_nil ?_;refine hK1 _ _ ?_;clear hK1 K1;refine wp_seq_k (fun K2 hK2 => ?_);refine wp_region_lit ?_;refine wl_yield (o := .mk ..) (.slice q1 cs.length p1) (yl_move (by rfl) _ rfl _ rfl) ?_;simp only [Act.put, lz];refine wl_yield (o := .mk ..) (.slice q2 ds.length p2) (yl_move (by rfl) _ rfl _ rfl) ?_;simp only [Act.put, lz];refine wl_rows2 (o := .mk ..) (by rfl) _ _ rfl rfl rfl (fun v1 gr HR kb => ?_);simp only [Act.put, lz];replace D := D.trans (kb.mono D.size);clear kb;refine wl_call (o := .mk ..) (by rfl) 140 _ _ rfl #[.slice (some ⟨gr, 0, none⟩) 2 2] rfl (run_call Tryz.func140 (by kernel_rfl) (by kernel_rfl)) ?_;refine (concatB_any gr _ _ cs ds _ HR (h1.on D) (h2.on D) n1 n2 (by omega)).mono ?_;rintro r v2 ⟨⟨u1, rfl, hO⟩, kb⟩;replace D := D.trans (kb.mono D.size);clear kb;refine ⟨u1, rfl, ?_⟩;simp only [Act.put, lz];refine wl_yield (o := .mk ..) (u1) (yl_assign (by rfl) _ rfl _ rfl) ?_;simp only [Act.put, lz];refine wpList_nil ?_;refine hK2 _ _ ?_;clear hK2 K2;refine wp_ret ?_;go_ret
 exact ⟨⟨_, _, _, rfl, hO, (allBx_append ha hb).on D⟩, D⟩
end Go.Proofs.YtlmdcaemjaldfaaGreat
namespace Go.Proofs.YtlmdcaemjaldfaaGreat
open Go.RowKit
theorem progRight_any (k : Nat) (c : EC) (x : ExV) (w : World) (hx : ExAt k w c.val x) (hk : k ≤ 2000) :
  Calls Tryz.prog 45 #[c.val] w fun r w' => r = .returned (.bool (rightX x)) ∧ Below w.heap.size w w' := by
 have := right_any k c x w hx hk;rw [right_plain (ExAt.low k hx)] at this;exact this
end Go.Proofs.YtlmdcaemjaldfaaGreat
namespace Go.Proofs.YtlmdcaemjaldfaaGreat
open Go.RowKit
def Xp (n : Nat) (w : World) (c : EC) (x : ExV) : Prop := ExAt n w c.val x
theorem Xp.on {n : Nat} {w w' : World} {c : EC} {x : ExV} (h : Xp n w c x) (hb : Below w.heap.size w w') : Xp n w' c x := ExAt.on hb n h
theorem evZ_fit : evFit evZ := ⟨Nat.zero_le _, Nat.zero_le _, Nat.zero_le _, Nat.zero_le _⟩
section
variable {ops : Array Oper} {Q : Exit → Act → World → Prop} {S : World → Prop} {o : Oper} {a : Act}
set_option maxRecDepth 100000 in
theorem wl_boxEx {rest : List Oper} {w : World} (hw : Region.wanted o (yielded ops a.tmps) = true) (x : Operand) (ho : o.op = .box 28 x) {c : EC} (hx : a.eval x = c.val)
  (h : ∀ W g, ExIn W g c → Below w.heap.size w W → wpList Tryz.prog ops Q rest (a.put o.dst (.pointer (some ⟨g, 0, none⟩))) W) : wpList Tryz.prog ops Q (o :: rest) a w := by
 refine wl_run hw (.pointer (some ⟨w.heap.size, 0, none⟩)) (w.alloc (exObj c)) ?_ (h _ _ (heap_new _ _) ((Below.refl _ w).alloc (Nat.le_refl _) _));simp only [execOp, ho, hx, EC.val, exObj];go_simp
set_option maxRecDepth 100000 in
set_option maxRecDepth 100000 in
theorem wl_newEx {o2 : Oper} {rest : List Oper} {w : World} (hw : Region.wanted o (yielded ops a.tmps) = true) (ho : o.op = .alloc 28) (x y : Operand) (ho2 : o2.op = .store 28 x y) (hg2 : o2.guard = none)
  (hx : ∀ v, (a.put o.dst v).eval x = v) {c : EC} (hy : ∀ v, (a.put o.dst v).eval y = c.val)
  (h : ∀ W g, ExIn W g c → Below w.heap.size w W → wpList Tryz.prog ops Q rest ((a.put o.dst (.pointer (some ⟨g, 0, none⟩))).put o2.dst undef) W) : wpList Tryz.prog ops Q (o :: o2 :: rest) a w := by
 refine wl_run hw (.pointer (some ⟨w.heap.size, 0, none⟩)) (w.alloc (exObj ec0)) ?_ ?_
 ·simp only [execOp, ho, exObj, ec0, SC.zero];go_simp
 ·have hz : ExIn (w.alloc (exObj ec0)) w.heap.size ec0 := heap_new _ _;have ht : (w.alloc (exObj ec0)).there w.heap.size 0 7 := fun j hj => by
   refine ⟨?_, soft_heap hz _⟩;rw [hz.ec.range j _ (List.getElem?_eq_getElem (show j < ec0.list.length from hj))]
   rfl
  refine wpList_store_mid hg2 28 x y ho2 w.heap.size 0 c.list.toArray (hx _) (hy _) ht (by rw [infoEx]; rfl) (all_oneCell_toArray c.list_one) ?_;refine h _ _ ?_ (Below.setCells w.heap.size (Nat.le_refl _) c.list 0 _ ((Below.refl _ w).alloc (Nat.le_refl _) _));exact heap_put (heap_put (heap_put (heap_put (heap_put (heap_put (heap_put hz 0 (.int .i64 c.k)) 1 (.int .i64 c.t)) 2 (.bool c.s.a)) 3 (.slice c.s.p c.s.n c.s.c)) 4 (.bool c.s.d)) 5 (.slice c.s.q c.s.m c.s.e)) 6 (.slice c.p c.n c.c)
theorem yl_zeroE (hw : Region.wanted o (yielded ops a.tmps) = true) (ho : o.op = .build 44 #[]) : YieldsIf Tryz.prog ops S o (evVal evZ) a :=
 Or.inl ⟨hw, fun w _ => by
  simp only [execOp, ho, evVal, evZ, vaZ];go_simp⟩
theorem yl_zeroX (hw : Region.wanted o (yielded ops a.tmps) = true) (ho : o.op = .build 28 #[]) : YieldsIf Tryz.prog ops S o ec0.val a :=
 Or.inl ⟨hw, fun w _ => by
  simp only [execOp, ho, EC.val, ec0, SC.zero];go_simp⟩
theorem yl_neqB (hw : Region.wanted o (yielded ops a.tmps) = true) (x y : Operand) (t : TypeId) (ho : o.op = .binOp .neq 4 x y t) (p q : Bool) (hx : a.eval x = .bool p) (hy : a.eval y = .bool q) : YieldsIf Tryz.prog ops S o (.bool (p != q)) a :=
 Or.inl ⟨hw, fun w hS => by
  simp only [execOp, ho, hx, hy];go_simp;cases p <;> cases q <;> rfl⟩
end
theorem cp_nil (n : Nat) : ∀ y ∈ ([] : List ExV), cpX n y := fun y h => by cases h
theorem c_and {n : Nat} {w : World} {v : Value} {l : List ExV} (h : RowsX n w v l) (hl : l.length ≤ 1000) (hcp : ∀ y ∈ l, cpX n y) : Calls Tryz.prog 16 #[v] w fun r w' => (∃ d : EC, r = .returned d.val ∧ Xp (n + 1) w' d (andX l)) ∧ Below w.heap.size w w' := progAnd_any n v l w h hl hcp
theorem c_and0 (w : World) : Calls Tryz.prog 16 #[.slice none 0 0] w fun r w' => (∃ d : EC, r = .returned d.val ∧ Xp 1 w' d (andX [])) ∧ Below w.heap.size w w' := progAnd_any 0 _ [] w (RowsX.nil 0 w) (by simp) (cp_nil 0)
theorem c_or0 (w : World) : Calls Tryz.prog 39 #[.slice none 0 0] w fun r w' => (∃ d : EC, r = .returned d.val ∧ Xp 1 w' d (orX [])) ∧ Below w.heap.size w w' := progOr_any 0 _ [] w (RowsX.nil 0 w) (by simp) (cp_nil 0)
theorem c_not {n : Nat} {w : World} {c : EC} {x : ExV} (h : Xp n w c x) (hcp : cpX n x) : Calls Tryz.prog 40 #[c.val] w fun r w' => (∃ d : EC, r = .returned d.val ∧ Xp (n + 1) w' d (notX x)) ∧ Below w.heap.size w w' := progNot_any n c x w h hcp
theorem c_right {n : Nat} {w : World} {c : EC} {x : ExV} (h : Xp n w c x) (hn : n ≤ 2000) : Calls Tryz.prog 45 #[c.val] w fun r w' => r = .returned (.bool (rightX x)) ∧ Below w.heap.size w w' := progRight_any n c x w h hn
end Go.Proofs.YtlmdcaemjaldfaaGreat
namespace Go.Proofs.YtlmdcaemjaldfaaGreat
open Go.RowKit
section
variable {ops : Array Oper} {Q : Exit → Act → World → Prop} {S : World → Prop} {o : Oper} {a : Act}
theorem yl_exField0 (hw : Region.wanted o (yielded ops a.tmps) = true) (x : Operand) (ho : o.op = .fieldAddr 28 x 0) (g : Nat) (hx : a.eval x = .pointer (some ⟨g, 0, none⟩)) : YieldsIf Tryz.prog ops S o (.pointer (some ⟨g, 0, none⟩)) a :=
 Or.inl ⟨hw, fun w hS => by
  simp only [execOp, ho, hx];go_simp⟩
theorem yl_exField1 (hw : Region.wanted o (yielded ops a.tmps) = true) (x : Operand) (ho : o.op = .fieldAddr 28 x 1) (g : Nat) (hx : a.eval x = .pointer (some ⟨g, 0, none⟩)) : YieldsIf Tryz.prog ops S o (.pointer (some ⟨g, 1, none⟩)) a :=
 Or.inl ⟨hw, fun w hS => by
  simp only [execOp, ho, hx];go_simp⟩
theorem yl_exField2 (hw : Region.wanted o (yielded ops a.tmps) = true) (x : Operand) (ho : o.op = .fieldAddr 28 x 2) (g : Nat) (hx : a.eval x = .pointer (some ⟨g, 0, none⟩)) : YieldsIf Tryz.prog ops S o (.pointer (some ⟨g, 2, none⟩)) a :=
 Or.inl ⟨hw, fun w hS => by
  simp only [execOp, ho, hx];go_simp⟩
theorem yl_intX (hw : Region.wanted o (yielded ops a.tmps) = true) (x : Operand) (ho : o.op = .load 3 x) (g k : Nat) (hx : a.eval x = .pointer (some ⟨g, k, none⟩)) (z : Int) (h : ∀ w, S w → w.cell? ⟨g, k, none⟩ = some (.int .i64 z)) : YieldsIf Tryz.prog ops S o (.int .i64 z) a :=
 Or.inl ⟨hw, fun w hS => by
  have := h w hS;simp only [execOp, ho, hx];go_simp⟩
set_option maxRecDepth 100000 in
theorem yl_exAtO (hw : Region.wanted o (yielded ops a.tmps) = true) (x y : Operand) (ho : o.op = .indexAddr 26 x y) (b off n c i : Nat) (hx : a.eval x = .slice (some ⟨b, off, none⟩) n c) (hy : a.eval y = .int .i64 i) (hi : i < n) : YieldsIf Tryz.prog ops S o (.pointer (some ⟨b, off + i * 7, none⟩)) a :=
 Or.inl ⟨hw, fun w hS => by
  simp only [execOp, ho, hx, hy];go_simp⟩
theorem yl_lenE (hw : Region.wanted o (yielded ops a.tmps) = true) (x : Operand) (ho : o.op = .call { callee := .builtin .len, args := #[x], argTypes := #[26] }) (p : Option Addr) (n c : Nat) (hx : a.eval x = .slice p n c) : YieldsIf Tryz.prog ops S o (.int .i64 n) a :=
 Or.inl ⟨hw, fun w hS => by
  unfold execOp;simp only [ho, resolve, invoke, builtin, Sem.run_bind, Sem.run_pure, Result.andThen_ok, List.map_toArray, List.map_cons, List.map_nil, hx];go_simp⟩
theorem op_rowB1 {i : Nat} {w : World} {K : Act → World → Prop} (hi : ops[i]? = some o) (hw : Region.wanted o (yielded ops a.tmps) = true) (x : Operand) (ho : o.op = .buildSlice 31 1 #[(0, x)]) {c : BxC} (hx : a.eval x = c.val)
  (h : ∀ W g, w.heap.size ≤ g → BcIn W g c → Below w.heap.size w W → K (a.put o.dst (.slice (some ⟨g, 0, none⟩) 1 1)) W) : wpOp Tryz.prog ops Q i K a w := by
 unfold wpOp;simp only [hi];rw [if_pos hw];refine Or.inl ?_;unfold Oper.wp;rw [rn_rowBx1 x ho hx];exact h _ _ (Nat.le_refl _) (heap_new _ _) ((Below.refl _ w).alloc (Nat.le_refl _) _)
end
theorem ExIn.c0 {w : World} {g : Nat} {c : EC} (h : ExIn w g c) : w.cell? ⟨g, 0, none⟩ = some (.int .i64 c.k) := h.ec.c0
theorem ExIn.c1 {w : World} {g : Nat} {c : EC} (h : ExIn w g c) : w.cell? ⟨g, 1, none⟩ = some (.int .i64 c.t) := h.ec.c1
theorem ExIn.cs {w : World} {g : Nat} {c : EC} (h : ExIn w g c) : w.cell? ⟨g, 2, none⟩ = some (.bool c.s.a) ∧ w.cell? ⟨g, 2 + 1, none⟩ = some (.slice c.s.p c.s.n c.s.c) ∧ w.cell? ⟨g, 2 + 2, none⟩ = some (.bool c.s.d) ∧ w.cell? ⟨g, 2 + 3, none⟩ = some (.slice c.s.q c.s.m c.s.e) := ⟨h.ec.c2, h.ec.c3, h.ec.c4, h.ec.c5⟩
theorem ExIn.c6 {w : World} {g : Nat} {c : EC} (h : ExIn w g c) : w.cell? ⟨g, 6, none⟩ = some (.slice c.p c.n c.c) := h.ec.c6
theorem ExAt.i64 {w : World} : ∀ (n : Nat) {v : Value} {x : ExV}, ExAt n w v x → i64X n x
 | 0, _, _, _ => trivial
 | n + 1, v, x, ⟨c, hv, hc, hs⟩ => ⟨hc.s.i64, fun y hy => by
  obtain ⟨i, hi, rfl⟩ := List.getElem_of_mem hy;obtain ⟨g, off, d, hp, hg, hd, hx⟩ := hs i hi;have := ExAt.i64 n hx
  rwa [List.getD_eq_getElem?_getD, List.getElem?_eq_getElem hi, Option.getD_some] at this⟩
theorem ExAt.rows {w : World} {n : Nat} {c : EC} {x : ExV} (h : ExAt (n + 1) w c.val x) : RowsX n w (.slice c.p c.n c.c) x.sub := by
 obtain ⟨c', hv, hc, hs⟩ := h;have := ec_inj hv;subst this;exact ⟨c.p, c.c, by rw [hc.n], by rw [← hc.n]; exact hc.room, hc.big, fun e => by have := hc.none e; rw [← hc.n]; exact this, hs⟩
theorem ExAt.for {w : World} {n : Nat} {c : EC} {x : ExV} (h : ExAt (n + 1) w c.val x) : EcFor w c x := by
 obtain ⟨c', hv, hc, hs⟩ := h;have := ec_inj hv;subst this;exact hc
theorem Fits.fitL {A : Nat} {l : List BoxV} (h : Fits A l) (hA : A ≤ 39) : FitL l := fun b hb => ⟨(h.f b hb).1, fun i hi => by have := h.i b hb i hi; omega, fun i hi => by have := (h.f b hb).2 i hi; omega⟩
theorem Res.fitL {A : Nat} {l : List BoxV} (h : Res A l) (hA : A ≤ 40) : FitL l := fun b hb => ⟨(h.f b hb).1, fun i hi => by have := h.i b hb i hi; omega, fun i hi => by have := (h.f b hb).2 i hi; omega⟩
theorem FitL.good {l : List BoxV} (h : FitL l) : ∀ c ∈ l, GoodB c := fun c hc => (h c hc).good
theorem sum_take (f : ExV → Nat) (l : List ExV) (k : Nat) (h : k < l.length) : ((l.take (k + 1)).map f).sum = ((l.take k).map f).sum + f (l.getD k noX) := by
 rw [List.take_add_one, List.map_append, List.sum_append, List.getD_eq_getElem?_getD, List.getElem?_eq_getElem h]
 simp
theorem sum_take_le (f : ExV → Nat) (l : List ExV) (k : Nat) : ((l.take k).map f).sum ≤ (l.map f).sum := by
 have := List.take_append_drop k l;have h2 : (l.map f).sum = ((l.take k ++ l.drop k).map f).sum := by rw [this]
 rw [h2, List.map_append, List.sum_append];omega
def BoxesOk (w : World) (r : Ending) (o : Option (List BoxV)) : Prop := match o with
 | none => r = .returned (.tuple #[.slice none 0 0, .bool false])
 | some l => ∃ u, r = .returned (.tuple #[u, .bool true]) ∧ Bxs w u l ∧ nilOk u
theorem len_join {prod : Bool} {a b : List BoxV} (ha : a.length ≤ 16) (hb : b.length ≤ 16) : (joinL prod a b).length ≤ 1000 := by
 unfold joinL prodL;cases prod
 ·simp only [Bool.false_eq_true, if_false, List.length_append]; omega
 ·simp only [if_true];have : (a.flatMap fun x => b.map fun y => andBx x y).length ≤ a.length * 16 := flat_len _ 16 a (fun x _ => by rw [List.length_map]; exact hb);omega
theorem boxes_len : ∀ (n : Nat) (x : ExV) (neg : Bool) (l : List BoxV), boxesX n x neg = some l → l.length ≤ 16
 | 0, _, _, _, h => by cases h
 | n + 1, x, neg, l, h => by
  have F : ∀ (f : ExV → Option (List BoxV)) (prod : Bool) (ys : List ExV) (out l : List BoxV), out.length ≤ 16 → foldX f prod ys out = some l → l.length ≤ 16 := by
   intro f prod ys
   induction ys with
   | nil => intro out l ho h; unfold foldX at h; cases h; exact ho
   | cons y ys ih =>
    intro out l ho h;unfold foldX at h;cases hy : f y with
    | none => rw [hy] at h; cases h
    | some ly =>
     rw [hy] at h;dsimp only at h;obtain ⟨nx, hnx⟩ : ∃ nx, nx = if prod = true then prodL out ly else out ++ ly := ⟨_, rfl⟩
     rw [← hnx] at h
     split at h
     ·exact ih _ _ (by assumption) h
     ·cases h
  unfold boxesX at h
  split at h
  ·cases h
   exact Nat.le_trans (tidy_len _) (by simp)
  ·split at h
   ·exact boxes_len n _ _ l h
   ·refine F _ _ _ _ l ?_ h
    split <;> simp
end Go.Proofs.YtlmdcaemjaldfaaGreat
namespace Go.Proofs.YtlmdcaemjaldfaaGreat
open Go.RowKit
set_option maxHeartbeats 1000000 in
set_option maxRecDepth 100000 in
theorem cloneR_any (v : Value) (l : List Rg) (w : World) (hv : RngsAt w v l) (hl : l.length ≤ 100000) :
  Calls Tryz.prog 102 #[v] w fun r w' => (∃ x, r = .returned x ∧ OwnR w' w.heap.size x l) ∧ Below w.heap.size w w' := by
 have HV := hide hv;obtain ⟨a, cap, rfl⟩ := hv.form;have hr := hv.room;cases a with
 | none =>
  obtain ⟨e1, e2⟩ := hr.2 rfl;subst e2;have hm : l = [] := List.length_eq_zero_iff.1 e1;subst hm;clear hv hr HV e1;simp only [List.length_nil];have QN := fun (W : World) => Lib.run_eql_slice_nil W _ _ none 0 0 0 0 Tryz.underlying22
  simp only [Option.isNone_none] at QN;go_enter Tryz.func102, Tryz.ntmps102
  go_wp2
  go_ret
  exact ⟨⟨_, rfl, ownR_none _ _⟩, Below.refl _ _⟩
 | some ad =>
  have b0 := (Below.refl _ w).alloc (Nat.le_refl _) (Obj.cells #[] 114);have B0 := hide b0;have VA := hide (HV.out.on b0);have HO := hide (ownR_empty w);have LE : Hid (([] : List Rg).length + l.length ≤ 1000000) := hide (by simp; omega);have szW : w.heap.size ≤ (w.alloc (Obj.cells #[] 114)).heap.size := b0.size;have QN := fun (W : World) => Lib.run_eql_slice_nil W _ _ (some ad) l.length cap 0 0 Tryz.underlying22
  simp only [Option.isNone_some] at QN;clear hv hr HV b0 hl;go_enter Tryz.func102, Tryz.ntmps102
  go_wp2_with (at_builtin; refine wpList_appRow _ rfl _ _ rfl _ _ _ _ l rfl HO.out rfl VA.out (rngs_nil VA.out) LE.out szW ?_; intro v8 w8 hO8 hb8; have O8 := hide hO8; have B8 := hide (B0.out.trans hb8); clear hO8 hb8)
  go_ret
  rw [List.nil_append] at O8;exact ⟨⟨_, rfl, O8.out⟩, B8.out⟩
end Go.Proofs.YtlmdcaemjaldfaaGreat
