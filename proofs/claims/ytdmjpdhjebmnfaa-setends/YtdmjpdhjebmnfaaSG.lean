/-
  Rows of values of the call's own; the walk of the third reference's Points.
-/
import Derived.Test.YtdmjpdhjebmnfaaSF
set_option linter.unusedSimpArgs false
set_option linter.unusedVariables false
namespace Go.Proofs.Ytdmjpdhjebmnfaa
open Go.RowKit

abbrev Va := Int × Int × ByteArray
def vaCells (l : List Va) : List Value := l.flatMap fun v => [.int .i64 v.1, .int .i64 v.2.1, .string v.2.2]
theorem vaCells_append (a b : List Va) : vaCells (a ++ b) = vaCells a ++ vaCells b := by unfold vaCells; rw [List.flatMap_append]
theorem vaCells_len : ∀ l : List Va, (vaCells l).length = l.length * 3
  | [] => rfl
  | v :: l => by
    have := vaCells_len l
    unfold vaCells at *
    rw [List.flatMap_cons, List.length_append, this]
    simp; omega
theorem vaCells_one (l : List Va) : ∀ u ∈ vaCells l, u.oneCell' = true := by
  intro u hu
  unfold vaCells at hu
  obtain ⟨v, _, hv⟩ := List.mem_flatMap.1 hu
  simp at hv
  rcases hv with rfl | rfl | rfl <;> rfl
theorem infoVal : (Try.prog.info? 27).map (fun i => (i.zero, i.size, i.bytes)) = some (some (.agg #[.int .i64 0, .int .i64 0, .string ⟨#[]⟩]), 3, 32) := by kernel_rfl
/-- The slice value owns just these values, from block B on. -/
def OwnV (w : World) (B : Nat) (v : Value) (l : List Va) : Prop := w.ownsRow B 27 3 v l.length (vaCells l)
theorem OwnV.alloc {w : World} {B : Nat} {v : Value} {l : List Va} (h : OwnV w B v l) (o : Obj) : OwnV (w.alloc o) B v l := World.ownsRow.alloc h o
theorem OwnV.grownB {w w' : World} {B : Nat} {v : Value} {l : List Va} (h : OwnV w B v l) (hB : B ≤ w.heap.size) (hg : w.grownBy w' v.ownBlock) : Below B w w' :=
  (Below.refl _ _).grown hg hB (fun k hk => (World.ownsRow.lt h k hk).1)
theorem OwnV.on {w w' : World} {B : Nat} {v : Value} {l : List Va} (h : OwnV w B v l) (hb : Below w.heap.size w w') : OwnV w' B v l :=
  World.ownsRow.kept (row := none) h ⟨hb.os, hb.tape, hb.output, hb.size, fun k hk _ => hb.block k hk⟩ (by cases v.ownBlock <;> simp)
theorem ownV_new (w : World) (cs : Array Value) (l : List Va) (h : cs.toList = vaCells l) (hl : l.length ≤ 1000) : OwnV (w.alloc (.cells cs 27)) w.heap.size (.slice (some ⟨w.heap.size, 0, none⟩) l.length l.length) l := by
  have hs : cs.size = l.length * 3 := by rw [← Array.length_toList, h, vaCells_len]
  refine ⟨vaCells_len l, Or.inr ⟨w.heap.size, l.length, cs, rfl, Nat.le_refl _, heap_top _ _, Nat.le_refl _, by unfold maxLen; omega, hs, ?_⟩⟩
  rw [h, List.take_of_length_le (by rw [vaCells_len]; omega)]
theorem wpList_appV {ops : Array Oper} {rest : List Oper} {o : Oper} {a : Act} {Q : Exit → Act → World → Prop} (w : World) (hgd : o.guard = none) (s x : Operand)
    (ho : o.op = .call { callee := .builtin .append, args := #[s, x], argTypes := #[35, 35] })
    (B : Nat) (v : Value) (l : List Va) (hs : a.eval s = v) (hown : OwnV w B v l) (g m c : Nat) (cs : Array Value) (news : List Va) (hm : news.length = m)
    (hx : a.eval x = .slice (some ⟨g, 0, none⟩) m c) (hb : w.heap[g]? = some (.cells cs 27 (0, 0))) (hcs : cs.toList = vaCells news) (hlen : l.length + m ≤ 1000000) (hB : B ≤ w.heap.size)
    (h : ∀ v' w', OwnV w' B v' (l ++ news) → Below B w w' → wpList Try.prog ops Q rest (a.put o.dst v') w') : wpList Try.prog ops Q (o :: rest) a w := by
  obtain ⟨i0, hi, hz0, hz1, hz2⟩ := info_parts infoVal
  refine wpList_append_own w hgd s x 35 ho B 27 i0 _ 3 32 Try.underlying35 hi hz0 hz1 hz2 rfl (by decide) v l.length (vaCells l) hs hown ⟨g, 0, none⟩ m c (vaCells news) hx (by rw [vaCells_len, hm]) ?_ (vaCells_one _) (by unfold maxLen; omega) (by omega) hB ?_
  · rw [← hcs]; exact World.news_of_block hb
  · intro v' w' h1 h2 _
    refine h v' w' ?_ (OwnV.grownB hown hB h2)
    unfold OwnV
    rw [List.length_append, hm, vaCells_append]
    exact h1

/-- In the midst of a round: a row of the call's own, and beside it a range in a block R. -/
structure InR (w0 w : World) (R : Nat) (r : Rg) (o : Value) (l : List Va) : Prop where
  own : OwnV w w0.heap.size o l
  ne : o.ownBlock ≠ some R
  rb : w.heap[R]? = some (.cells #[.int .i64 r.1, .int .i64 r.2] 45 (0, 0))
  below : Below w0.heap.size w0 w
theorem InR.alloc {w0 w : World} {R : Nat} {r : Rg} {o : Value} {l : List Va} (h : InR w0 w R r o l) (x : Obj) : InR w0 (w.alloc x) R r o l :=
  ⟨h.own.alloc x, h.ne, (((Below.refl _ w).alloc (Nat.le_refl _) x).block R (lt_heap h.rb)).trans h.rb, h.below.alloc h.below.size x⟩
theorem InR.cells {w0 w : World} {R : Nat} {r : Rg} {o : Value} {l : List Va} (h : InR w0 w R r o l) : w.cell? ⟨R, 0, none⟩ = some (.int .i64 r.1) ∧ w.cell? ⟨R, 1, none⟩ = some (.int .i64 r.2) := ⟨cell_heap h.rb 0, cell_heap h.rb 1⟩
theorem InR.start {w0 w : World} {r : Rg} {o : Value} {l : List Va} (h : OwnV w w0.heap.size o l) (hb : Below w0.heap.size w0 w) : InR w0 (w.alloc (.cells #[.int .i64 r.1, .int .i64 r.2] 45)) w.heap.size r o l :=
  ⟨h.alloc _, fun e => by have := (World.ownsRow.lt h _ e).2; omega, heap_top _ _, hb.alloc hb.size _⟩
theorem wpList_appI {ops : Array Oper} {rest : List Oper} {o : Oper} {a : Act} {Q : Exit → Act → World → Prop} (w0 w : World) (hgd : o.guard = none) (s x : Operand)
    (ho : o.op = .call { callee := .builtin .append, args := #[s, x], argTypes := #[35, 35] })
    (R : Nat) (r : Rg) (v : Value) (l : List Va) (hs : a.eval s = v) (hin : InR w0 w R r v l) (g m c : Nat) (cs : Array Value) (news : List Va) (hm : news.length = m) (hm0 : 0 < m)
    (hx : a.eval x = .slice (some ⟨g, 0, none⟩) m c) (hb : w.heap[g]? = some (.cells cs 27 (0, 0))) (hcs : cs.toList = vaCells news) (hlen : l.length + m ≤ 1000000)
    (h : ∀ v' w', InR w0 w' R r v' (l ++ news) → wpList Try.prog ops Q rest (a.put o.dst v') w') : wpList Try.prog ops Q (o :: rest) a w := by
  obtain ⟨i0, hi, hz0, hz1, hz2⟩ := info_parts infoVal
  refine wpList_append_lies w hgd s x 35 ho w0.heap.size 27 i0 _ 3 32 Try.underlying35 hi hz0 hz1 hz2 rfl (by decide) v l.length (vaCells l) hs hin.own ⟨g, 0, none⟩ m c (vaCells news) hx (by rw [vaCells_len, hm]) ?_ (vaCells_one _) hm0 (by unfold maxLen; omega) (by omega) hin.below.size w.heap.size rfl ?_
  · rw [← hcs]; exact World.news_of_block hb
  · intro g' cap' w' h1 h2 h3 _
    refine h _ w' ⟨?_, ?_, ?_, hin.below.trans (OwnV.grownB hin.own hin.below.size h2)⟩
    · unfold OwnV
      rw [List.length_append, hm, vaCells_append]
      exact h1
    · rcases h3 with h3 | h3
      · show some g' ≠ some R
        rw [← h3]; exact hin.ne
      · intro e
        have e' : g' = R := by simpa [Value.ownBlock] using e
        have := lt_heap hin.rb
        omega
    · exact (h2.block R (lt_heap hin.rb) (fun e => hin.ne e.symm)).trans hin.rb

theorem two_at (w : World) (o1 o2 : Obj) : ((w.alloc o1).alloc o2).heap[w.heap.size + 1]? = some o2 := (two_new (Below.refl _ _)).2.1

/-! ### The points -/
def noS : ByteArray := ⟨#[]⟩
def ptsR (r : Rg) : List Va := ([(1, r.1, noS), (1, r.2, noS)] ++ if -9223372036854775808 < r.1 then [(1, r.1 - 1, noS)] else []) ++ if r.2 < 9223372036854775807 then [(1, r.2 + 1, noS)] else []
def ptsS (S : SetV) : List Va := S.ints.flatMap ptsR ++ S.strs.map fun s => (2, 0, s)
def pts0 : List Va := [(0, 0, noS), (1, -9223372036854775808, noS), (1, 9223372036854775807, noS), (1, 0, noS)]
def ptsL (l : List SetV) : List Va := pts0 ++ l.flatMap ptsS
theorem ptsR_len (r : Rg) : (ptsR r).length ≤ 4 := by
  unfold ptsR
  split <;> split <;> simp
theorem flat_len {α β : Type} (f : α → List β) (c : Nat) : ∀ l : List α, (∀ x ∈ l, (f x).length ≤ c) → (l.flatMap f).length ≤ l.length * c
  | [], _ => by simp
  | x :: l, h => by
    rw [List.flatMap_cons, List.length_append, List.length_cons, Nat.succ_mul]
    have := flat_len f c l (fun y hy => h y (by simp [hy]))
    have := h x (by simp)
    omega
theorem take_flat {α β : Type} (f : α → List β) (l : List α) (k : Nat) (d : α) (h : k < l.length) : (l.take (k + 1)).flatMap f = (l.take k).flatMap f ++ f (l.getD k d) := by
  rw [List.take_succ_eq_append_getElem h, List.flatMap_append, List.getD_eq_getElem?_getD, List.getElem?_eq_getElem h]
  simp
theorem take_map {α β : Type} (f : α → β) (l : List α) (k : Nat) (d : α) (h : k < l.length) : (l.take (k + 1)).map f = (l.take k).map f ++ [f (l.getD k d)] := by
  rw [List.take_succ_eq_append_getElem h, List.map_append, List.getD_eq_getElem?_getD, List.getElem?_eq_getElem h]
  simp

set_option maxHeartbeats 4000000 in
set_option maxRecDepth 100000 in
theorem refPoints_any (v : Value) (l : List SetV) (w : World) (hv : SetsAt w v l) (hn : l.length ≤ 100) (hfew : ∀ S ∈ l, S.ints.length ≤ 40 ∧ S.strs.length ≤ 40) :
    Calls Try.prog 15 #[v] w fun r w' => (∃ u t, r = .returned u ∧ FreshOut l ⟨#[126]⟩ t ∧ OwnV w' w.heap.size u (ptsL l ++ [(2, 0, t)])) ∧ Below w.heap.size w w' := by
  have HV := hide hv
  have HF := hide hfew
  obtain ⟨hlen, a, cap, rfl, hel⟩ := hv
  clear hel hfew
  obtain ⟨N, hN⟩ : ∃ N : Nat, N = l.length := ⟨_, rfl⟩
  rw [← hN] at hlen hn HV ⊢
  have HN := hide hN
  clear hN
  go_enter Try.func15, Try.ntmps15
  go_wp2
  go_loopw [3, 5] (fun o i wr => ∃ k : Nat, i = .int .i64 k ∧ k ≤ N ∧ Hid (OwnV wr w.heap.size o (pts0 ++ (l.take k).flatMap ptsS)) ∧ Hid (((l.take k).flatMap ptsS).length ≤ k * 200) ∧ Hid (Below w.heap.size w wr)) (fun _ i _ => N - (intOf i).toNat)
  case atStart =>
    refine ⟨0, rfl, by omega, hide ?_, hide (by simp), hide ((Below.refl _ _).alloc (Nat.le_refl _) _)⟩
    exact ownV_new w _ (pts0 ++ []) rfl (by simp [pts0])
  case round =>
    obtain ⟨k, rfl, hk, HO, HL, HB⟩ := hrel
    by_cases hlt : k < N
    · have hk' : k < l.length := by rw [← HN.out]; exact hlt
      obtain ⟨b, off, vi, vs, rfl, hb, c0, c1, c2, c3, hI, hS⟩ := (HV.out.on HB.out).at.2 k hk'
      have hfs := HF.out (l.getD k noSet) (by rw [List.getD_eq_getElem?_getD, List.getElem?_eq_getElem hk']; exact List.getElem_mem _)
      have NX := hide (take_flat ptsS l k noSet hk')
      have SK : Hid (l.getD k noSet = l.getD k noSet) := hide rfl
      obtain ⟨S, hS0⟩ : ∃ S, S = l.getD k noSet := ⟨_, rfl⟩
      rw [← hS0] at NX hfs
      have HSk := hide hS0
      clear hS0 SK c0 c1 c2 c3 hI hS vi vs hb
      obtain ⟨sa, si, sc, ss⟩ := S
      dsimp only at *
      obtain ⟨nI, hnI⟩ : ∃ n : Nat, n = si.length := ⟨_, rfl⟩
      obtain ⟨nS, hnS⟩ : ∃ n : Nat, n = ss.length := ⟨_, rfl⟩
      rw [← hnI, ← hnS] at hfs
      have HnI := hide hnI
      have HnS := hide hnS
      clear hnI hnS
      obtain ⟨PL0, hPL0⟩ : ∃ p, p = pts0 ++ (l.take k).flatMap ptsS := ⟨_, rfl⟩
      rw [← hPL0] at HO
      have PL : Hid (PL0.length ≤ 4 + k * 200) := hide (by have := HL.out; have h4 : pts0.length = 4 := rfl; rw [hPL0, List.length_append]; omega)
      have HPL := hide hPL0
      clear hPL0
      go_wp2
      go_loopw [3, 6] (fun o i wr' => ∃ j : Nat, i = .int .i64 j ∧ j ≤ nI ∧ Hid (OwnV wr' w.heap.size o (PL0 ++ (si.take j).flatMap ptsR)) ∧ Hid (((si.take j).flatMap ptsR).length ≤ j * 4) ∧ Hid (Below w.heap.size w wr')) (fun _ i _ => nI - (intOf i).toNat)
      case atStart => exact ⟨0, rfl, by omega, hide (by simpa using HO.out), hide (by simp), HB⟩
      case round =>
        clear HO HB
        obtain ⟨j, rfl, hj, HO', HL', HB'⟩ := hrel
        obtain ⟨b', off', vi, vs, ha, hb, c0, c1, c2, c3, hI, hS⟩ := (HV.out.on HB'.out).at.2 k hk'
        rw [← HSk.out] at c0 c2 hI hS
        dsimp only at c0 c2 hI hS
        simp at ha
        obtain ⟨rfl, rfl⟩ := ha
        obtain ⟨ai, ci, rfl⟩ := hI.form
        obtain ⟨aq, cq, rfl⟩ := hS.form
        have nIle := hI.2.1
        rw [← HnI.out] at c1 nIle
        rw [← HnS.out] at c3
        by_cases hjt : j < nI
        · have hj' : j < si.length := by rw [← HnI.out]; exact hjt
          obtain ⟨bi, oi, ha2, hbi, y0, y1⟩ := hI.at.2 j hj'
          subst ha2
          obtain ⟨q0, q1, q2, q3⟩ := hI.bound j hj'
          have NXI := hide (take_flat ptsR si j (0, 0) hj')
          generalize si.getD j (0, 0) = r at *
          clear hI hS
          have IN0 := hide (InR.start (r := r) HO'.out HB'.out)
          clear HO' HB'
          by_cases hlo : -9223372036854775808 < r.1
          · by_cases hhi : r.2 < 9223372036854775807
            · go_wp2_with (at_builtin; (first | (refine wpList_appI w _ rfl _ _ rfl wr.heap.size r _ _ rfl (IN0.out.alloc _) _ 2 2 _ [(1, r.1, noS), (1, r.2, noS)] rfl (by omega) rfl (two_at wr _ _) rfl (by have h1 := PL.out; have h2 := HL'.out; simp only [List.length_append, List.length_cons, List.length_nil]; omega) ?_; intro v1 w1 hw1; obtain ⟨zw10, zw11⟩ := hw1.cells; have IN1 := hide hw1; clear hw1 IN0) | (refine wpList_appI w _ rfl _ _ rfl wr.heap.size r _ _ rfl (IN1.out.alloc _) _ 1 1 _ [(1, r.1 - 1, noS)] rfl (by omega) rfl (heap_top _ _) rfl (by have h1 := PL.out; have h2 := HL'.out; simp only [List.length_append, List.length_cons, List.length_nil]; omega) ?_; intro v2 w2 hw2; obtain ⟨zw20, zw21⟩ := hw2.cells; have IN2 := hide hw2; clear hw2 IN1) | (refine wpList_appI w _ rfl _ _ rfl wr.heap.size r _ _ rfl (IN2.out.alloc _) _ 1 1 _ [(1, r.2 + 1, noS)] rfl (by omega) rfl (heap_top _ _) rfl (by have h1 := PL.out; have h2 := HL'.out; simp only [List.length_append, List.length_cons, List.length_nil]; omega) ?_; intro v3 w3 hw3; obtain ⟨zw30, zw31⟩ := hw3.cells; have IN3 := hide hw3; clear hw3 IN2)))
              refine ⟨⟨j + 1, by go_num, by omega, hide ?_, hide ?_, hide IN3.out.below⟩, by simp [intOf]; omega⟩
              · rw [NXI.out, ← List.append_assoc]
                have e : ptsR r = [(1, r.1, noS), (1, r.2, noS)] ++ [(1, r.1 - 1, noS)] ++ [(1, r.2 + 1, noS)] := by unfold ptsR; rw [if_pos hlo, if_pos hhi]
                rw [e]
                have h := IN3.out.own
                simp only [List.append_assoc] at h ⊢
                exact h
              · rw [NXI.out, List.length_append]
                have h1 := HL'.out
                have h2 := ptsR_len r
                omega
            · go_wp2_with (at_builtin; (first | (refine wpList_appI w _ rfl _ _ rfl wr.heap.size r _ _ rfl (IN0.out.alloc _) _ 2 2 _ [(1, r.1, noS), (1, r.2, noS)] rfl (by omega) rfl (two_at wr _ _) rfl (by have h1 := PL.out; have h2 := HL'.out; simp only [List.length_append, List.length_cons, List.length_nil]; omega) ?_; intro v1 w1 hw1; obtain ⟨zw10, zw11⟩ := hw1.cells; have IN1 := hide hw1; clear hw1 IN0) | (refine wpList_appI w _ rfl _ _ rfl wr.heap.size r _ _ rfl (IN1.out.alloc _) _ 1 1 _ [(1, r.1 - 1, noS)] rfl (by omega) rfl (heap_top _ _) rfl (by have h1 := PL.out; have h2 := HL'.out; simp only [List.length_append, List.length_cons, List.length_nil]; omega) ?_; intro v2 w2 hw2; obtain ⟨zw20, zw21⟩ := hw2.cells; have IN2 := hide hw2; clear hw2 IN1)))
              refine ⟨⟨j + 1, by go_num, by omega, hide ?_, hide ?_, hide IN2.out.below⟩, by simp [intOf]; omega⟩
              · rw [NXI.out, ← List.append_assoc]
                have e : ptsR r = [(1, r.1, noS), (1, r.2, noS)] ++ [(1, r.1 - 1, noS)] := by unfold ptsR; rw [if_pos hlo, if_neg hhi]; try simp
                rw [e]
                have h := IN2.out.own
                simp only [List.append_assoc] at h ⊢
                exact h
              · rw [NXI.out, List.length_append]
                have h1 := HL'.out
                have h2 := ptsR_len r
                omega
          · by_cases hhi : r.2 < 9223372036854775807
            · go_wp2_with (at_builtin; (first | (refine wpList_appI w _ rfl _ _ rfl wr.heap.size r _ _ rfl (IN0.out.alloc _) _ 2 2 _ [(1, r.1, noS), (1, r.2, noS)] rfl (by omega) rfl (two_at wr _ _) rfl (by have h1 := PL.out; have h2 := HL'.out; simp only [List.length_append, List.length_cons, List.length_nil]; omega) ?_; intro v1 w1 hw1; obtain ⟨zw10, zw11⟩ := hw1.cells; have IN1 := hide hw1; clear hw1 IN0) | (refine wpList_appI w _ rfl _ _ rfl wr.heap.size r _ _ rfl (IN1.out.alloc _) _ 1 1 _ [(1, r.2 + 1, noS)] rfl (by omega) rfl (heap_top _ _) rfl (by have h1 := PL.out; have h2 := HL'.out; simp only [List.length_append, List.length_cons, List.length_nil]; omega) ?_; intro v3 w3 hw3; obtain ⟨zw30, zw31⟩ := hw3.cells; have IN3 := hide hw3; clear hw3 IN1)))
              refine ⟨⟨j + 1, by go_num, by omega, hide ?_, hide ?_, hide IN3.out.below⟩, by simp [intOf]; omega⟩
              · rw [NXI.out, ← List.append_assoc]
                have e : ptsR r = [(1, r.1, noS), (1, r.2, noS)] ++ [(1, r.2 + 1, noS)] := by unfold ptsR; rw [if_neg hlo, if_pos hhi]; try simp
                rw [e]
                have h := IN3.out.own
                simp only [List.append_assoc] at h ⊢
                exact h
              · rw [NXI.out, List.length_append]
                have h1 := HL'.out
                have h2 := ptsR_len r
                omega
            · go_wp2_with (at_builtin; (first | (refine wpList_appI w _ rfl _ _ rfl wr.heap.size r _ _ rfl (IN0.out.alloc _) _ 2 2 _ [(1, r.1, noS), (1, r.2, noS)] rfl (by omega) rfl (two_at wr _ _) rfl (by have h1 := PL.out; have h2 := HL'.out; simp only [List.length_append, List.length_cons, List.length_nil]; omega) ?_; intro v1 w1 hw1; obtain ⟨zw10, zw11⟩ := hw1.cells; have IN1 := hide hw1; clear hw1 IN0)))
              refine ⟨⟨j + 1, by go_num, by omega, hide ?_, hide ?_, hide IN1.out.below⟩, by simp [intOf]; omega⟩
              · rw [NXI.out, ← List.append_assoc]
                have e : ptsR r = [(1, r.1, noS), (1, r.2, noS)] := by unfold ptsR; rw [if_neg hlo, if_neg hhi]; try simp
                rw [e]
                have h := IN1.out.own
                simp only [List.append_assoc] at h ⊢
                exact h
              · rw [NXI.out, List.length_append]
                have h1 := HL'.out
                have h2 := ptsR_len r
                omega
        · have hge : (nI : Int) ≤ (j : Int) := by omega
          obtain ⟨PL1, hPL1⟩ : ∃ p, p = PL0 ++ si.flatMap ptsR := ⟨_, rfl⟩
          have OWN1 : Hid (OwnV wr w.heap.size u3 PL1) := hide (by
            have h := HO'.out
            rw [List.take_of_length_le (by have := HnI.out; omega), ← hPL1] at h
            exact h)
          have PLE : Hid (PL1.length ≤ 4 + k * 200 + nI * 4) := hide (by
            have h1 := PL.out
            have h2 := flat_len ptsR 4 si (fun x _ => ptsR_len x)
            rw [hPL1, List.length_append, HnI.out]; omega)
          have HPL1 := hide hPL1
          clear hPL1 HO' HL' hI
          go_wp2
          go_loopw [3, 8] (fun o i wr' => ∃ j : Nat, i = .int .i64 j ∧ j ≤ nS ∧ Hid (OwnV wr' w.heap.size o (PL1 ++ (ss.take j).map fun s => (2, 0, s))) ∧ Hid (Below w.heap.size w wr')) (fun _ i _ => nS - (intOf i).toNat)
          case atStart => exact ⟨0, rfl, by omega, hide (by simpa using OWN1.out), HB'⟩
          case round =>
            clear OWN1 HB' c0 c1 c2 c3 hS hb
            obtain ⟨i, rfl, hi, HO', HB'⟩ := hrel
            obtain ⟨b', off', vi, vs, ha, hb, c0, c1, c2, c3, hI, hS⟩ := (HV.out.on HB'.out).at.2 k hk'
            rw [← HSk.out] at c0 c2 hI hS
            dsimp only at c0 c2 hI hS
            simp at ha
            obtain ⟨rfl, rfl⟩ := ha
            obtain ⟨ai, ci, rfl⟩ := hI.form
            obtain ⟨aq, cq, rfl⟩ := hS.form
            have nSle := hS.2.1
            rw [← HnI.out] at c1
            rw [← HnS.out] at c3 nSle
            by_cases hit : i < nS
            · have hi' : i < ss.length := by rw [← HnS.out]; exact hit
              obtain ⟨bi, oi, ha2, hbi, y0⟩ := hS.at.2 i hi'
              subst ha2
              have NXS := hide (take_map (fun s => ((2, 0, s) : Va)) ss i ⟨#[]⟩ hi')
              generalize ss.getD i ⟨#[]⟩ = q at *
              have LE : Hid ((PL1 ++ (ss.take i).map fun s => ((2, 0, s) : Va)).length + 1 ≤ 1000000) := hide (by
                have h1 := PLE.out
                rw [List.length_append, List.length_map, List.length_take]
                omega)
              have szB := HB'.out.size
              clear hI hS
              go_wp2_with (at_builtin; refine wpList_appV _ rfl _ _ rfl w.heap.size _ _ rfl (HO'.out.alloc _) _ 1 1 _ [(2, 0, q)] rfl rfl (heap_top _ _) rfl LE.out (by simp; omega) ?_; intro v1 w1 hO1 hb1; have O1 := hide hO1; have B1 := hide ((HB'.out.alloc szB _).trans hb1); clear hO1 hb1)
              exact ⟨⟨i + 1, by go_num, by omega, hide (by rw [NXS.out, ← List.append_assoc]; exact O1.out), B1⟩, by simp [intOf]; omega⟩
            · have hge : (nS : Int) ≤ (i : Int) := by omega
              have OWN2 : Hid (OwnV wr w.heap.size u3 (pts0 ++ (l.take (k + 1)).flatMap ptsS)) := hide (by
                have h := HO'.out
                rw [List.take_of_length_le (by have := HnS.out; omega), HPL1.out, HPL.out] at h
                rw [NX.out]
                unfold ptsS
                simp only [List.append_assoc] at h ⊢
                exact h)
              have LE2 : Hid (((l.take (k + 1)).flatMap ptsS).length ≤ (k + 1) * 200) := hide (by
                rw [NX.out, List.length_append]
                have h1 := HL.out
                have h2 := flat_len ptsR 4 si (fun x _ => ptsR_len x)
                have h3 := HnI.out
                have h4 := HnS.out
                have h5 : (ptsS ⟨sa, si, sc, ss⟩).length = (si.flatMap ptsR).length + ss.length := by unfold ptsS; rw [List.length_append, List.length_map]
                rw [h5]
                omega)
              clear HO' hI hS
              go_wp2
              exact ⟨⟨k + 1, by go_num, by omega, OWN2, LE2, HB'⟩, by simp [intOf]; omega⟩
    · have hge : (N : Int) ≤ (k : Int) := by omega
      have OWN3 : Hid (OwnV wr w.heap.size u3 (ptsL l)) := hide (by
        have h := HO.out
        rw [List.take_of_length_le (by have := HN.out; omega)] at h
        exact h)
      have LE3 : Hid ((ptsL l).length + 1 ≤ 1000000) := hide (by
        have h := HL.out
        rw [List.take_of_length_le (by have := HN.out; omega)] at h
        unfold ptsL
        have h4 : pts0.length = 4 := rfl
        rw [List.length_append]; omega)
      have X := hide (refFresh_any _ l ⟨#[126]⟩ wr (HV.out.on HB.out) (by decide))
      have szB := HB.out.size
      clear HO HL
      go_wp2_with fail
      refine (unhide X).mono ?_
      rintro r w1 ⟨⟨t, rfl, ht⟩, b1⟩
      have HT := hide ht
      have O1 := hide (OWN3.out.on b1)
      have B1 := hide (HB.out.trans (b1.mono szB))
      have szC := B1.out.size
      clear ht b1 X OWN3
      go_wp2_with (at_builtin; refine wpList_appV _ rfl _ _ rfl w.heap.size _ _ rfl (O1.out.alloc _) _ 1 1 _ [(2, 0, t)] rfl rfl (heap_top _ _) rfl LE3.out (by simp; omega) ?_; intro v1 w2 hO2 hb2; have O2 := hide hO2; have B2 := hide ((B1.out.alloc szC _).trans hb2); clear hO2 hb2)
      go_ret
      exact ⟨⟨_, t, rfl, HT.out, O2.out⟩, B2.out⟩
end Go.Proofs.Ytdmjpdhjebmnfaa
