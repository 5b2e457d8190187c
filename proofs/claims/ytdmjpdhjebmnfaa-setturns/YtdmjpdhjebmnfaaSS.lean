/-
  Region 7 of the law SetTurns, by an invariant over what has been listed. (Written by wip/tools/mkss.py.)
-/
import Derived.Test.YtdmjpdhjebmnfaaSN
set_option linter.unusedSimpArgs false
set_option linter.unusedVariables false
namespace Go.Proofs.Ytdmjpdhjebmnfaa
open Go.RowKit

theorem OwnV.low {w : World} {B B' : Nat} {v : Value} {l : List Va} (h : OwnV w B v l) (hB : B' ≤ B) : OwnV w B' v l := by
  obtain ⟨h1, h2 | ⟨b, c, cs, e, hb, h⟩⟩ := h
  · exact ⟨h1, .inl h2⟩
  · exact ⟨h1, .inr ⟨b, c, cs, e, Nat.le_trans hB hb, h⟩⟩
theorem wp_appV {o : Oper} {a : Act} {K : Act → World → Prop} {Q : Exit → Act → World → Prop} (w : World) (s x : Operand)
    (ho : o.op = .call { callee := .builtin .append, args := #[s, x], argTypes := #[35, 35] })
    (B : Nat) (v : Value) (l : List Va) (hs : a.eval s = v) (hown : OwnV w B v l) (g m c : Nat) (cs : Array Value) (news : List Va) (hm : news.length = m) (hm0 : 0 < m)
    (hx : a.eval x = .slice (some ⟨g, 0, none⟩) m c) (hb : w.heap[g]? = some (.cells cs 27 (0, 0))) (hcs : cs.toList = vaCells news) (hlen : l.length + m ≤ 1000000) (hB : B ≤ w.heap.size)
    (h : ∀ v' w', OwnV w' B v' (l ++ news) → Below B w w' → K (a.put o.dst v') w') : o.wp Try.prog a w K Q := by
  obtain ⟨i0, hi, hz0, hz1, hz2⟩ := info_parts infoVal
  refine wp_append_lies w s x 35 ho B 27 i0 _ 3 32 Try.underlying35 hi hz0 hz1 hz2 rfl (by decide) v l.length (vaCells l) hs hown ⟨g, 0, none⟩ m c (vaCells news) hx (by rw [vaCells_len, hm]) ?_ (vaCells_one _) hm0 (by unfold maxLen; omega) (by omega) hB _ rfl ?_
  · rw [← hcs]; exact World.news_of_block hb
  · intro g' cap w' h1 h2 _ _
    refine h _ w' ?_ (OwnV.grownB hown hB h2)
    unfold OwnV
    rw [List.length_append, hm, vaCells_append]
    exact h1

def ops7 (ps : String) : Array Oper := #[{ dst := some 70, op := .move (.tmp 7), type := 28, pos := ps, after := #[], guard := none },
  { dst := some 71, op := .call { callee := .value (.func 15), args := #[.tmp 70], argTypes := #[28] }, type := 35, pos := ps, after := #[{ on := 0, ground := .data }], guard := none },
  { dst := some 72, op := .load 27 (.tmp 5), type := 27, pos := ps, after := #[], guard := none },
  { dst := some 73, op := .buildSlice 35 1 #[(0, .tmp 72)], type := 35, pos := ps, after := #[{ on := 2, ground := .data }], guard := none },
  { dst := some 74, op := .call { callee := .builtin .append, args := #[.tmp 71, .tmp 73], argTypes := #[35, 35] }, type := 35, pos := ps, after := #[{ on := 1, ground := .data }, { on := 3, ground := .data }, { on := 1, ground := .chain }], guard := none },
  { dst := some 75, op := .call { callee := .builtin .len, args := #[.tmp 74], argTypes := #[35] }, type := 3, pos := ps, after := #[{ on := 4, ground := .data }], guard := none },
  { dst := some 76, op := .move (.const (.int .i64 0)), type := 3, pos := ps, after := #[], guard := none }]

/-- The points of two sets, and one more. -/
def PtsAt (A B : SetV) (w0 w : World) (v : Value) (k n : Int) (s : ByteArray) : Prop := ∃ t, FreshOut [A, B] ⟨#[126]⟩ t ∧ OwnV w w0.heap.size v (ptsL [A, B] ++ [(2, 0, t)] ++ [(k, n, s)])
structure Inv7 (A B : SetV) (lv : Value) (k n : Int) (s : ByteArray) (N : Nat) (w0 w : World) (b0 b1 b2 b3 b4 b5 b6 : Bool) (y70 y71 y72 y73 y74 y75 y76 : Value) : Prop where
  b : Below w0.heap.size w0 w
  i0 : b0 = true → y70 = lv
  i1 : b1 = true → b4 = false → ∃ t, FreshOut [A, B] ⟨#[126]⟩ t ∧ OwnV w w0.heap.size y71 (ptsL [A, B] ++ [(2, 0, t)])
  i2 : b2 = true → y72 = .agg #[.int .i64 k, .int .i64 n, .string s]
  i3 : b3 = true → b4 = false → ∃ p, y73 = .slice (some ⟨p, 0, none⟩) 1 1 ∧ w.heap[p]? = some (.cells #[.int .i64 k, .int .i64 n, .string s] 27 (0, 0))
  i4 : b4 = true → PtsAt A B w0 w y74 k n s
  i5 : b5 = true → y75 = .int .i64 N
  i6 : b6 = true → y76 = .int .i64 0

theorem ready7 {ps : String} {i : Nat} {b0 b1 b2 b3 b4 b5 b6 : Bool} (h : i ∈ Region.ready .any (ops7 ps) #[b0, b1, b2, b3, b4, b5, b6]) : (i = 0 ∧ b0 = false) ∨ (i = 1 ∧ b1 = false ∧ b0 = true) ∨ (i = 2 ∧ b2 = false) ∨ (i = 3 ∧ b3 = false ∧ b2 = true) ∨ (i = 4 ∧ b4 = false ∧ b1 = true ∧ b3 = true) ∨ (i = 5 ∧ b5 = false ∧ b4 = true) ∨ (i = 6 ∧ b6 = false) := by
  obtain ⟨hi, -⟩ := ready_lt h
  have hi' : i < 7 := hi
  unfold Region.ready at h
  rw [List.mem_filter] at h
  replace h := h.2
  match i, hi' with
  | 0, _ => simp [ops7, Region.binds] at h ⊢; simp [h]
  | 1, _ => simp [ops7, Region.binds] at h ⊢; simp [h]
  | 2, _ => simp [ops7, Region.binds] at h ⊢; simp [h]
  | 3, _ => simp [ops7, Region.binds] at h ⊢; simp [h]
  | 4, _ => simp [ops7, Region.binds] at h ⊢; simp [h]
  | 5, _ => simp [ops7, Region.binds] at h ⊢; simp [h]
  | 6, _ => simp [ops7, Region.binds] at h ⊢; simp [h]

theorem done7 {ps : String} {b0 b1 b2 b3 b4 b5 b6 : Bool} (h : Region.ready .any (ops7 ps) #[b0, b1, b2, b3, b4, b5, b6] = []) : b0 = true ∧ b1 = true ∧ b2 = true ∧ b3 = true ∧ b4 = true ∧ b5 = true ∧ b6 = true := by
  have hn : ∀ i, ¬ i ∈ Region.ready .any (ops7 ps) #[b0, b1, b2, b3, b4, b5, b6] := fun i => by rw [h]; simp
  clear h
  have hm : ∀ i, i < 7 → ¬ ((!(#[b0, b1, b2, b3, b4, b5, b6]).getD i true && (((ops7 ps)[i]?).map (·.after.all fun e => !Region.binds .any e || (#[b0, b1, b2, b3, b4, b5, b6]).getD e.on false)).getD false) = true) := fun i hi hc => hn i (by unfold Region.ready; rw [List.mem_filter]; exact ⟨List.mem_range.2 hi, hc⟩)
  clear hn
  have h0 := hm 0 (by omega)
  simp [ops7, Region.binds] at h0
  have g0 : b0 = true := by simpa using h0
  have h2 := hm 2 (by omega)
  simp [ops7, Region.binds] at h2
  have g2 : b2 = true := by simpa using h2
  have h6 := hm 6 (by omega)
  simp [ops7, Region.binds] at h6
  have g6 : b6 = true := by simpa using h6
  have h1 := hm 1 (by omega)
  simp [ops7, Region.binds] at h1
  have g1 : b1 = true := by simpa [g0] using h1
  have h3 := hm 3 (by omega)
  simp [ops7, Region.binds] at h3
  have g3 : b3 = true := by simpa [g2] using h3
  have h4 := hm 4 (by omega)
  simp [ops7, Region.binds] at h4
  have g4 : b4 = true := by simpa [g1, g3] using h4
  have h5 := hm 5 (by omega)
  simp [ops7, Region.binds] at h5
  have g5 : b5 = true := by simpa [g4] using h5
  exact ⟨g0, g1, g2, g3, g4, g5, g6⟩

set_option maxHeartbeats 4000000 in
set_option maxRecDepth 100000 in
theorem region7 {ps : String} (A B : SetV) (lv : Value) (k n : Int) (s : ByteArray) (q5 : Nat) (x0 x1 x2 x3 x4 x6 x8 x9 x10 x11 x12 x13 x14 x15 x16 x17 x18 x19 x20 x21 x22 x23 x24 x25 x26 x27 x28 x29 x30 x31 x32 x33 x34 x35 x36 x37 x38 x39 x40 x41 x42 x43 x44 x45 x46 x47 x48 x49 x50 x51 x52 x53 x54 x55 x56 x57 x58 x59 x60 x61 x62 x63 x64 x65 x66 x67 x68 x69 x70 x71 x72 x73 x74 x75 x76 : Value) (rest : List Value) (ds : List Deferred) (w0 : World) (id : Nat) (Q : Exit → Act → World → Prop)
    (h5 : w0.heap[q5]? = some (.cells #[.int .i64 k, .int .i64 n, .string s] 27 (0, 0))) (hl : SetsAt w0 lv [A, B]) (hA : A.ints.length ≤ 40 ∧ A.strs.length ≤ 40) (hB : B.ints.length ≤ 40 ∧ B.strs.length ≤ 40)
    (hQ : ∀ (w : World) (y70 y71 y72 y73 y74 y75 y76 : Value), Inv7 A B lv k n s ((ptsL [A, B]).length + 2) w0 w true true true true true true true y70 y71 y72 y73 y74 y75 y76 → Q .normal ⟨List.toArray (x0 :: x1 :: x2 :: x3 :: x4 :: (.pointer (some ⟨q5, 0, none⟩)) :: x6 :: lv :: x8 :: x9 :: x10 :: x11 :: x12 :: x13 :: x14 :: x15 :: x16 :: x17 :: x18 :: x19 :: x20 :: x21 :: x22 :: x23 :: x24 :: x25 :: x26 :: x27 :: x28 :: x29 :: x30 :: x31 :: x32 :: x33 :: x34 :: x35 :: x36 :: x37 :: x38 :: x39 :: x40 :: x41 :: x42 :: x43 :: x44 :: x45 :: x46 :: x47 :: x48 :: x49 :: x50 :: x51 :: x52 :: x53 :: x54 :: x55 :: x56 :: x57 :: x58 :: x59 :: x60 :: x61 :: x62 :: x63 :: x64 :: x65 :: x66 :: x67 :: x68 :: x69 :: y70 :: y71 :: y72 :: y73 :: y74 :: y75 :: y76 :: rest), ds⟩ w) :
    (Code.region id (ops7 ps) true).wp Try.prog Q ⟨List.toArray (x0 :: x1 :: x2 :: x3 :: x4 :: (.pointer (some ⟨q5, 0, none⟩)) :: x6 :: lv :: x8 :: x9 :: x10 :: x11 :: x12 :: x13 :: x14 :: x15 :: x16 :: x17 :: x18 :: x19 :: x20 :: x21 :: x22 :: x23 :: x24 :: x25 :: x26 :: x27 :: x28 :: x29 :: x30 :: x31 :: x32 :: x33 :: x34 :: x35 :: x36 :: x37 :: x38 :: x39 :: x40 :: x41 :: x42 :: x43 :: x44 :: x45 :: x46 :: x47 :: x48 :: x49 :: x50 :: x51 :: x52 :: x53 :: x54 :: x55 :: x56 :: x57 :: x58 :: x59 :: x60 :: x61 :: x62 :: x63 :: x64 :: x65 :: x66 :: x67 :: x68 :: x69 :: x70 :: x71 :: x72 :: x73 :: x74 :: x75 :: x76 :: rest), ds⟩ w0 := by
  have hfew : ∀ S ∈ [A, B], S.ints.length ≤ 40 ∧ S.strs.length ≤ 40 := by
    intro S hS
    rcases List.mem_cons.1 hS with rfl | hS
    · exact hA
    · rcases List.mem_cons.1 hS with rfl | hS
      · exact hB
      · simp at hS
  have hlen := ptsL_len [A, B] hfew
  have HF := hide hfew
  have HL := hide hl
  have hlen' : (ptsL [A, B]).length ≤ 404 := by simpa using hlen
  clear hfew hl hlen
  refine wp_region_inv (by rfl) (fun l a w => ∃ (b0 b1 b2 b3 b4 b5 b6 : Bool) (y70 y71 y72 y73 y74 y75 y76 : Value), l = #[b0, b1, b2, b3, b4, b5, b6] ∧ a = ⟨List.toArray (x0 :: x1 :: x2 :: x3 :: x4 :: (.pointer (some ⟨q5, 0, none⟩)) :: x6 :: lv :: x8 :: x9 :: x10 :: x11 :: x12 :: x13 :: x14 :: x15 :: x16 :: x17 :: x18 :: x19 :: x20 :: x21 :: x22 :: x23 :: x24 :: x25 :: x26 :: x27 :: x28 :: x29 :: x30 :: x31 :: x32 :: x33 :: x34 :: x35 :: x36 :: x37 :: x38 :: x39 :: x40 :: x41 :: x42 :: x43 :: x44 :: x45 :: x46 :: x47 :: x48 :: x49 :: x50 :: x51 :: x52 :: x53 :: x54 :: x55 :: x56 :: x57 :: x58 :: x59 :: x60 :: x61 :: x62 :: x63 :: x64 :: x65 :: x66 :: x67 :: x68 :: x69 :: y70 :: y71 :: y72 :: y73 :: y74 :: y75 :: y76 :: rest), ds⟩ ∧ Inv7 A B lv k n s ((ptsL [A, B]).length + 2) w0 w b0 b1 b2 b3 b4 b5 b6 y70 y71 y72 y73 y74 y75 y76) ?_ ?_ ?_
  · refine ⟨false, false, false, false, false, false, false, x70, x71, x72, x73, x74, x75, x76, rfl, rfl, ⟨?_, by simp, by simp, by simp, by simp, by simp, by simp, by simp⟩⟩
    · exact ⟨rfl, rfl, rfl, Nat.le_refl _, fun _ _ => rfl⟩
  · rintro l a w ⟨b0, b1, b2, b3, b4, b5, b6, y70, y71, y72, y73, y74, y75, y76, rfl, rfl, I⟩ i hi
    have e5 := (I.b.block _ (lt_heap h5)).trans h5
    obtain ⟨c0, c1, c2⟩ := valCells e5
    have HI := hide I
    clear I e5
    rcases ready7 hi with ⟨rfl, rfl⟩ | ⟨rfl, rfl, rfl⟩ | ⟨rfl, rfl⟩ | ⟨rfl, rfl, rfl⟩ | ⟨rfl, rfl, rfl, rfl⟩ | ⟨rfl, rfl, rfl⟩ | ⟨rfl, rfl⟩
    · refine wpOp_of ({ dst := some 70, op := .move (.tmp 7), type := 28, pos := ps, after := #[], guard := none }) rfl rfl (fun K hK => ?_)
      clear hi
      go_simp
      exact hK.out _ _ ⟨true, b1, b2, b3, b4, b5, b6, lv, y71, y72, y73, y74, y75, y76, rfl, rfl, { HI.out with i0 := fun _ => rfl }⟩
    · refine wpOp_of ({ dst := some 71, op := .call { callee := .value (.func 15), args := #[.tmp 70], argTypes := #[28] }, type := 35, pos := ps, after := #[{ on := 0, ground := .data }], guard := none }) rfl rfl (fun K hK => ?_)
      clear hi
      have E0 := HI.out.i0 rfl
      subst E0
      go_simp
      refine (refPoints_any y70 [A, B] w (HL.out.on HI.out.b) (by simp) HF.out).mono ?_
      rintro r w' ⟨⟨x, t, rfl, ft, ox⟩, b'⟩
      exact hK.out _ _ ⟨true, true, b2, b3, b4, b5, b6, y70, x, y72, y73, y74, y75, y76, rfl, rfl, { HI.out with b := HI.out.b.trans (b'.mono HI.out.b.size), i1 := fun _ _ => ⟨t, ft, ox.low HI.out.b.size⟩, i3 := fun e e' => (by obtain ⟨p, h1, h2⟩ := HI.out.i3 e e'; exact ⟨p, h1, (b'.block _ (lt_heap h2)).trans h2⟩), i4 := fun e => (by obtain ⟨t', h1, h2⟩ := HI.out.i4 e; exact ⟨t', h1, h2.on b'⟩) }⟩
    · refine wpOp_of ({ dst := some 72, op := .load 27 (.tmp 5), type := 27, pos := ps, after := #[], guard := none }) rfl rfl (fun K hK => ?_)
      clear hi
      go_simp
      exact hK.out _ _ ⟨b0, b1, true, b3, b4, b5, b6, y70, y71, .agg #[.int .i64 k, .int .i64 n, .string s], y73, y74, y75, y76, rfl, rfl, { HI.out with i2 := fun _ => rfl }⟩
    · refine wpOp_of ({ dst := some 73, op := .buildSlice 35 1 #[(0, .tmp 72)], type := 35, pos := ps, after := #[{ on := 2, ground := .data }], guard := none }) rfl rfl (fun K hK => ?_)
      clear hi
      have E2 := HI.out.i2 rfl
      subst E2
      go_simp
      have b' := (Below.refl _ w).alloc (Nat.le_refl _) (.cells #[.int .i64 k, .int .i64 n, .string s] 27)
      exact hK.out _ _ ⟨b0, b1, true, true, b4, b5, b6, y70, y71, .agg #[.int .i64 k, .int .i64 n, .string s], .slice (some ⟨w.heap.size, 0, none⟩) 1 1, y74, y75, y76, rfl, rfl, { HI.out with b := HI.out.b.trans (b'.mono HI.out.b.size), i1 := fun e e' => (by obtain ⟨t, h1, h2⟩ := HI.out.i1 e e'; exact ⟨t, h1, h2.on b'⟩), i3 := fun _ _ => ⟨w.heap.size, rfl, heap_new _ _⟩, i4 := fun e => (by obtain ⟨t', h1, h2⟩ := HI.out.i4 e; exact ⟨t', h1, h2.on b'⟩) }⟩
    · refine wpOp_of ({ dst := some 74, op := .call { callee := .builtin .append, args := #[.tmp 71, .tmp 73], argTypes := #[35, 35] }, type := 35, pos := ps, after := #[{ on := 1, ground := .data }, { on := 3, ground := .data }, { on := 1, ground := .chain }], guard := none }) rfl rfl (fun K hK => ?_)
      clear hi
      obtain ⟨t, ft, ow⟩ := HI.out.i1 rfl rfl
      obtain ⟨p, hp, hc⟩ := HI.out.i3 rfl rfl
      subst hp
      refine wp_appV w _ _ rfl w0.heap.size y71 _ rfl ow p 1 1 _ [(k, n, s)] rfl (by omega) rfl hc rfl (by rw [List.length_append]; simp; omega) HI.out.b.size ?_
      intro v' w' ow' b'
      exact hK.out _ _ ⟨b0, true, b2, true, true, b5, b6, y70, y71, y72, .slice (some ⟨p, 0, none⟩) 1 1, v', y75, y76, rfl, rfl, { HI.out with b := HI.out.b.trans b', i1 := (fun _ e => nomatch e), i3 := (fun _ e => nomatch e), i4 := fun _ => ⟨t, ft, ow'⟩ }⟩
    · refine wpOp_of ({ dst := some 75, op := .call { callee := .builtin .len, args := #[.tmp 74], argTypes := #[35] }, type := 3, pos := ps, after := #[{ on := 4, ground := .data }], guard := none }) rfl rfl (fun K hK => ?_)
      clear hi
      obtain ⟨t, ft, ow⟩ := HI.out.i4 rfl
      obtain ⟨g, cap, hg, hg1, hg2⟩ := ow.form (by simp)
      have hn : (ptsL [A, B] ++ [(2, 0, t)] ++ [(k, n, s)]).length = (ptsL [A, B]).length + 2 := by simp
      rw [hn] at hg
      subst hg
      clear ow hn
      go_simp
      exact hK.out _ _ ⟨b0, b1, b2, b3, true, true, b6, y70, y71, y72, y73, .slice (some ⟨g, 0, none⟩) ((ptsL [A, B]).length + 2) cap, .int .i64 ((ptsL [A, B]).length + 2 : Nat), y76, rfl, rfl, { HI.out with i5 := fun _ => rfl }⟩
    · refine wpOp_of ({ dst := some 76, op := .move (.const (.int .i64 0)), type := 3, pos := ps, after := #[], guard := none }) rfl rfl (fun K hK => ?_)
      clear hi
      go_simp
      exact hK.out _ _ ⟨b0, b1, b2, b3, b4, b5, true, y70, y71, y72, y73, y74, y75, .int .i64 0, rfl, rfl, { HI.out with i6 := fun _ => rfl }⟩
  · rintro l a w ⟨b0, b1, b2, b3, b4, b5, b6, y70, y71, y72, y73, y74, y75, y76, rfl, rfl, I⟩ hr
    obtain ⟨rfl, rfl, rfl, rfl, rfl, rfl, rfl⟩ := done7 hr
    exact hQ w _ _ _ _ _ _ _ I

end Go.Proofs.Ytdmjpdhjebmnfaa
