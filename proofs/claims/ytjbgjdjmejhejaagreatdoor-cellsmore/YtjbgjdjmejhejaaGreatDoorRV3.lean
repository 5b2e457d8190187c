import Derived.Test.YtjbgjdjmejhejaaGreatDoorRV2
import Derived.Test.YtjbgjdjmejhejaaGreatDoorRV1
import Derived.Lib.AppendIntMem
import Derived.Lib.SmallJoins
import Derived.WalkSmall
set_option linter.unusedSimpArgs false
set_option linter.unusedVariables false
namespace Go.Proofs.YtjbgjdjmejhejaaGreatDoor
open Go.RowKit
theorem OwnT.len {w : World} {B g n cap : Nat} {ds : List SC} (h : OwnT w B (.slice (some ⟨g, 0, none⟩) n cap) ds) : n = ds.length ∧ ∃ cur, w.heap[g]? = some (.cells cur 26 (0, 0)) ∧ B ≤ g ∧ ds.length ≤ cap ∧ cap ≤ maxLen ∧ cur.size = cap * 4 := by
  rcases h.form with ⟨h, _⟩ | ⟨g', cap', cur, e, hB, hg, h1, h2, h3⟩
  · cases h
  · cases e
    exact ⟨rfl, cur, hg, hB, h1, h2, h3⟩
theorem ownT_put {w : World} {B g n cap : Nat} {ds : List SC} (h : OwnT w B (.slice (some ⟨g, 0, none⟩) n cap) ds) {k : Nat} (hk : k < ds.length) (c : SC) : OwnT (w.setCells g (k * 4) c.lst) B (.slice (some ⟨g, 0, none⟩) n cap) (ds.set k c) := by
  obtain ⟨rfl, cur, hg, hB, h1, h2, h3⟩ := h.len
  obtain ⟨cur', hg', hs'⟩ := setCells_cur g c.lst (k * 4) w cur hg
  have ht : w.there g (k * 4) c.lst.length := by
    rw [SC.lst_len]
    exact there_of hg (by omega)
  have hlen : (ds.set k c).length = ds.length := List.length_set
  rw [← hlen]
  refine ownT_of hg' hB (by rw [hlen]; exact h1) h2 (by rw [hs', h3]) (fun i hi => ?_)
  rw [hlen] at hi
  by_cases hik : i = k
  · subst hik
    rw [List.getD_eq_getElem?_getD, List.getElem?_set_self hi]
    exact World.rangeAt_setCells_same w g _ _ ht
  · rw [List.getD_eq_getElem?_getD, List.getElem?_set_ne (fun e => hik e.symm), ← List.getD_eq_getElem?_getD]
    exact World.rangeAt_setCells_apart (h.range i hi) g _ _ (Or.inr (by simp only [SC.lst_len]; omega))
set_option maxHeartbeats 1000000 in
set_option maxRecDepth 100000 in
theorem cloneT_nil (w : World) : Calls Tryz.prog 76 #[.slice none 0 0] w fun r w' => r = .returned (.slice none 0 0) ∧ w' = w := by
  have QN := fun (W : World) => Lib.run_eql_slice_nil W _ _ none 0 0 0 0 Tryz.underlying39
  simp only [Option.isNone_none] at QN
  go_enter Tryz.func76, Tryz.ntmps76
  go_wp2
  go_ret
  exact ⟨rfl, rfl⟩
set_option maxHeartbeats 1000000 in
set_option maxRecDepth 100000 in
theorem cloneT_some (ad : Addr) (m c : Nat) (news : List Value) (w : World) (hl : news.length = m * 4) (hnews : ∀ j u, news[j]? = some u → w.cell? (ad.add j) = some u) (h1 : ∀ u ∈ news, u.oneCell' = true) (hb : m * 64 ≤ 140737488355328) :
    Calls Tryz.prog 76 #[.slice (some ad) m c] w fun r w' => (∃ v, r = .returned v ∧ w'.ownsRow w.heap.size 26 4 v m news) ∧ Below w.heap.size w w' := by
  obtain ⟨i0, hi, hz0, hz1, hz2⟩ := info_parts cInfoT
  have HI := hide hi
  have HZ0 := hide hz0
  have HZ1 := hide hz1
  have HZ2 := hide hz2
  have HL := hide hl
  have H1 := hide h1
  have HB := hide hb
  have HN : Hid (∀ j u, news[j]? = some u → (w.alloc (Obj.cells #[] 26)).cell? (ad.add j) = some u) := hide (fun j u hj => (World.grownBy_alloc w (Obj.cells #[] 26) none).cell (hnews j u hj) (by simp))
  have HO : Hid ((w.alloc (Obj.cells #[] 26)).ownsRow w.heap.size 26 4 (.slice (some ⟨w.heap.size, 0, none⟩) 0 0) 0 []) := hide ⟨rfl, Or.inr ⟨w.heap.size, 0, #[], rfl, Nat.le_refl _, heap_top _ _, Nat.le_refl _, by unfold maxLen; omega, rfl, rfl⟩⟩
  have b0 := (Below.refl _ w).alloc (Nat.le_refl _) (Obj.cells #[] 26)
  have B0 := hide b0
  have QN := fun (W : World) => Lib.run_eql_slice_nil W _ _ (some ad) m c 0 0 Tryz.underlying39
  simp only [Option.isNone_some] at QN
  clear hi hz0 hz1 hz2 hl h1 hb hnews b0
  go_enter Tryz.func76, Tryz.ntmps76
  go_wp2_with (at_builtin; refine wpList_append_own _ rfl _ _ 39 rfl w.heap.size 26 i0 _ 4 64 Tryz.underlying39 HI.out HZ0.out HZ1.out HZ2.out rfl (by decide) _ 0 [] rfl HO.out ad m c news rfl HL.out HN.out H1.out (by have := HB.out; unfold maxLen; omega) (by have := HB.out; omega) B0.out.size ?_; intro v8 w8 h8 g8 _; have O8 := hide h8; have B8 := hide (B0.out.grown g8 B0.out.size (fun k hk => by cases hk; exact Nat.le_refl _)); clear h8 g8)
  go_ret
  have := O8.out
  rw [Nat.zero_add, List.nil_append] at this
  exact ⟨⟨_, rfl, this⟩, B8.out⟩
theorem cloneT_own (v : Value) (l : List SetV) (w : World) (hv : SetsAt w v l) (hl : l.length ≤ 100000) (hn : nilOkQ v) :
    Calls Tryz.prog 76 #[v] w fun r w' => (∃ u cs, r = .returned u ∧ OwnT w' w.heap.size u cs ∧ AllSt w cs l) ∧ Below w.heap.size w w' := by
  obtain ⟨cs, hR, hA⟩ := hv.row
  obtain ⟨_, a, cap, rfl, hel⟩ := hR
  cases a with
  | none =>
    have hc : cs = [] := by
      cases cs with
      | nil => rfl
      | cons r m =>
        obtain ⟨b, off, e, _⟩ := hel 0 (by simp)
        cases e
    subst hc
    have e := hn _ _ rfl
    rw [e]
    refine (cloneT_nil w).mono ?_
    rintro r w' ⟨rfl, rfl⟩
    exact ⟨⟨_, [], rfl, ownT_nil _ _, hA⟩, Below.refl _ _⟩
  | some ad =>
    refine (cloneT_some ad cs.length cap (scCells cs) w (by rw [scCells_len]) ?_ (scCells_one cs) (by rw [hA.1]; omega)).mono ?_
    · intro j u hj
      have hjl : j < cs.length * 4 := by
        have := (List.getElem?_eq_some_iff.1 hj).1
        rwa [scCells_len] at this
      obtain ⟨b, off, e, _, hr⟩ := hel (j / 4) (by omega)
      have h1 := scCells_at cs (j / 4) (j % 4) (by omega) (Nat.mod_lt _ (by decide))
      simp at e
      subst e
      rw [Go.WideShapes.add_plain]
      rw [show j / 4 * 4 + j % 4 = j by omega, hj] at h1
      have := hr (j % 4) u h1.symm
      rwa [show off + j / 4 * 4 + j % 4 = off + j by omega] at this
    · rintro r w' ⟨⟨u, rfl, ho⟩, hb⟩
      exact ⟨⟨u, cs, rfl, ho, hA⟩, hb⟩
theorem cloneR_own (v : Value) (l : List Rg) (w : World) (hv : RngsAt w v l) (hl : l.length ≤ 100000) :
    Calls Tryz.prog 123 #[v] w fun r w' => (∃ u, r = .returned u ∧ OwnR w' w.heap.size u l) ∧ Below w.heap.size w w' := by
  have hi := hv.1
  obtain ⟨a, cap, rfl⟩ := hv.form
  have hr := hv.room
  cases a with
  | none =>
    obtain ⟨e1, e2⟩ := hr.2 rfl
    have e3 : l = [] := List.length_eq_zero_iff.1 e1
    subst e3
    simp only [List.length_nil] at *
    subst e2
    refine (cloneR_nil w).mono ?_
    rintro r w' ⟨rfl, rfl⟩
    exact ⟨⟨_, rfl, ownR_none _ _⟩, Below.refl _ _⟩
  | some ad =>
    obtain ⟨_, _, ad', cap', e0, hel⟩ := hv
    simp at e0
    obtain ⟨e0, rfl⟩ := e0
    subst e0
    refine (cloneR_some ad l.length _ (rgCells l) w (rgCells_len l) ?_ (rgCells_one l) (by omega)).mono ?_
    · intro j u hj
      have hjl : j < l.length * 2 := by
        have := (List.getElem?_eq_some_iff.1 hj).1
        rwa [rgCells_len] at this
      obtain ⟨b, off, e, _, c0, c1⟩ := hel (j / 2) (by omega)
      obtain ⟨a0, a1⟩ := rgCells_at l (j / 2) (by omega)
      simp at e
      subst e
      rw [Go.WideShapes.add_plain]
      rcases Nat.mod_two_eq_zero_or_one j with h | h
      · rw [show j = j / 2 * 2 by omega] at hj ⊢
        rw [← hj, a0]
        exact c0
      · rw [show j = j / 2 * 2 + 1 by omega] at hj ⊢
        rw [← hj, a1, ← Nat.add_assoc]
        exact c1
    · rintro r w' ⟨⟨v, rfl, ho⟩, hb⟩
      exact ⟨⟨v, rfl, ho⟩, hb⟩
theorem cloneS_own (v : Value) (l : List ByteArray) (w : World) (hv : StrsAt w v l) (hl : l.length ≤ 100000) :
    Calls Tryz.prog 124 #[v] w fun r w' => (∃ u, r = .returned u ∧ OwnS w' w.heap.size u l) ∧ Below w.heap.size w w' := by
  obtain ⟨a, cap, rfl⟩ := hv.form
  have hr := hv.room
  cases a with
  | none =>
    obtain ⟨e1, e2⟩ := hr.2 rfl
    have e3 : l = [] := List.length_eq_zero_iff.1 e1
    subst e3
    simp only [List.length_nil] at *
    subst e2
    refine (cloneS_nil w).mono ?_
    rintro r w' ⟨rfl, rfl⟩
    exact ⟨⟨_, rfl, ownS_none _ _⟩, Below.refl _ _⟩
  | some ad =>
    obtain ⟨_, _, ad', cap', e0, hel⟩ := hv
    simp at e0
    obtain ⟨e0, rfl⟩ := e0
    subst e0
    refine (cloneS_some ad l.length _ (l.map Value.string) w (by simp) ?_ (fun u hu => by obtain ⟨s, _, rfl⟩ := List.mem_map.1 hu; rfl) (by omega)).mono ?_
    · intro j u hj
      have hjl : j < l.length := by
        have := (List.getElem?_eq_some_iff.1 hj).1
        simpa using this
      obtain ⟨b, off, e, _, c0⟩ := hel j hjl
      simp at e
      subst e
      rw [Go.WideShapes.add_plain, c0, ← hj, strs_cells_at l j hjl]
    · rintro r w' ⟨⟨v, rfl, ho⟩, hb⟩
      exact ⟨⟨v, rfl, ho⟩, hb⟩
theorem OwnR.frmU {w : World} {B : Nat} {v : Value} {l : List Rg} (h : OwnR w B v l) : ∃ a cap, v = .slice a l.length cap ∧ ∀ b, a = some b → B ≤ b.block := by
  rcases h.2 with ⟨e, h0⟩ | ⟨g, cap, cur, e, hB, _⟩
  · exact ⟨none, 0, by rw [e, h0], fun b e => (by cases e)⟩
  · exact ⟨_, cap, e, fun b e => by cases e; exact hB⟩
theorem infoT4 : (Tryz.prog.info? 26).map (·.size) = some 4 := by kernel_rfl
theorem infoQ4 : (Tryz.prog.info? 124).map (·.size) = some 4 := by kernel_rfl
theorem grown_setCells (w : World) (g : Nat) : ∀ (vs : List Value) (o : Nat) (u : World), w.grownBy u (some g) → w.grownBy (u.setCells g o vs) (some g)
  | [], _, _, h => h
  | v :: vs, o, u, h => grown_setCells w g vs (o + 1) _ (grown_trans h (grown_put u g o v))
section
variable {ops : Array Oper} {Q : Exit → Act → World → Prop} {S : World → Prop} {o : Oper} {a : Act}
theorem wq_putQ {rest : List Oper} {w : World} (hw : Region.wanted o (yielded ops a.tmps) = true) (x y : Operand) (ho : o.op = .store 26 x y) (g k : Nat) (hx : a.eval x = .pointer (some ⟨g, 0 + k * 4, none⟩)) (c : SC) (hy : a.eval y = c.val)
    (B m cap : Nat) (cs : List SC) (hown : OwnT w B (.slice (some ⟨g, 0, none⟩) m cap) cs) (hk : k < cs.length)
    (h : ∀ W, OwnT W B (.slice (some ⟨g, 0, none⟩) m cap) (cs.set k c) → w.grownBy W (some g) → wpList Tryz.prog ops Q rest (a.put o.dst undef) W) : wpList Tryz.prog ops Q (o :: rest) a w := by
  rw [Nat.zero_add] at hx
  obtain ⟨rfl, cur, hg, hB, h1, h2, h3⟩ := hown.len
  have ht : w.there g (k * 4) 4 := fun j hj => ⟨by rw [cell_heap hg, Array.getElem?_eq_getElem (by omega)]; rfl, frozen_heap hg _⟩
  have hr := run_storeVar_mid (P := Tryz.prog) w g (k * 4) 26 c.lst.toArray ht (by rw [infoT4]; rfl) (all_oneCell_toArray c.lst_one)
  refine wl_skip hw (w.setCells g (k * 4) c.lst) ?_ (h _ (ownT_put hown hk c) (grown_setCells w g _ _ _ (grown_refl _ _)))
  have hy' : a.eval y = .agg c.lst.toArray := hy
  unfold execOp
  simp only [ho, hx, hy', Instr.storeAt, Instr.sureAddr, Sem.run_bind, Sem.run_pure, Result.andThen_ok, hr]
theorem GridIn.put4 {w : World} {b : Nat} {d m : Int} {s c : Nat → Sl} (h : GridIn w b d m s c) : GridIn (w.setCells b 3 [sl0.val, sl0.val, sl0.val, sl0.val]) b d m (fun _ => sl0) c := by
  have h1 := heap_setCell (i := 3) sl0.val h
  have h2 := heap_setCell (i := 4) sl0.val h1
  have h3 := heap_setCell (i := 5) sl0.val h2
  have h4 := heap_setCell (i := 6) sl0.val h3
  exact h4.trans (by unfold gObj; simp)
theorem wq_putG4 {rest : List Oper} {w : World} (hw : Region.wanted o (yielded ops a.tmps) = true) (x y : Operand) (ho : o.op = .store 124 x y) (b : Nat) (hx : a.eval x = .pointer (some ⟨b, 3, none⟩)) (hy : a.eval y = .agg #[sl0.val, sl0.val, sl0.val, sl0.val])
    (d m : Int) (s c : Nat → Sl) (hG : GridIn w b d m s c)
    (h : ∀ W, GridIn W b d m (fun _ => sl0) c → w.grownBy W (some b) → wpList Tryz.prog ops Q rest (a.put o.dst undef) W) : wpList Tryz.prog ops Q (o :: rest) a w := by
  have ht : w.there b 3 4 := fun j hj => ⟨by rw [cell_heap hG, Array.getElem?_eq_getElem (by simp; omega)]; rfl, frozen_heap hG _⟩
  have hr := run_storeVar_mid (P := Tryz.prog) w b 3 124 #[sl0.val, sl0.val, sl0.val, sl0.val] ht (by rw [infoQ4]; rfl) (by simp [Value.oneCell', Sl.val, sl0])
  refine wl_skip hw _ ?_ (h _ hG.put4 (grown_setCells w b _ _ _ (grown_refl _ _)))
  unfold execOp
  simp only [ho, hx, hy, Instr.storeAt, Instr.sureAddr, Sem.run_bind, Sem.run_pure, Result.andThen_ok, hr]
theorem wq_put4 {rest : List Oper} {w : World} (hw : Region.wanted o (yielded ops a.tmps) = true) (x y : Operand) (ho : o.op = .store 124 x y) (g : Nat) (hx : a.eval x = .pointer (some ⟨g, 0, none⟩)) (c : Nat → Sl) (hy : a.eval y = .agg #[(c 0).val, (c 1).val, (c 2).val, (c 3).val])
    {v0 v1 v2 v3 : Value} (hc : w.heap[g]? = some (.cells #[v0, v1, v2, v3] 124 (0, 0)))
    (h : ∀ W, W.heap[g]? = some (.cells #[(c 0).val, (c 1).val, (c 2).val, (c 3).val] 124 (0, 0)) → w.grownBy W (some g) → wpList Tryz.prog ops Q rest (a.put o.dst undef) W) : wpList Tryz.prog ops Q (o :: rest) a w := by
  have ht : w.there g 0 4 := fun j hj => ⟨by rw [cell_heap hc, Array.getElem?_eq_getElem (by simp; omega)]; rfl, frozen_heap hc _⟩
  have hr := run_storeVar_mid (P := Tryz.prog) w g 0 124 #[(c 0).val, (c 1).val, (c 2).val, (c 3).val] ht (by rw [infoQ4]; rfl) (by simp [Value.oneCell', Sl.val])
  have hpu := put_wholeU [(c 0).val, (c 1).val, (c 2).val, (c 3).val] hc (by simp)
  refine wl_skip hw _ ?_ (h _ hpu.1 hpu.2)
  unfold execOp
  simp only [ho, hx, hy, Instr.storeAt, Instr.sureAddr, Sem.run_bind, Sem.run_pure, Result.andThen_ok, hr]
theorem ot_putGc {i : Nat} {w : World} {K : Act → World → Prop} (hi : ops[i]? = some o) (hw : Region.wanted o (yielded ops a.tmps) = true) (x y : Operand) (ho : o.op = .store 39 x y) (b k : Nat) (hk : k < 4) (hx : a.eval x = .pointer (some ⟨b, 7 + k, none⟩)) (u : Sl) (hy : a.eval y = u.val)
    (d m : Int) (s c : Nat → Sl) (hG : GridIn w b d m s c)
    (h : ∀ W, GridIn W b d m s (fun j => if j = k then u else c j) → w.grownBy W (some b) → K (a.put o.dst undef) W) : wpOp Tryz.prog ops Q i K a w := by
  have f0 := frozen_heap hG (7 + k)
  have c0 : ∃ v, w.cell? ⟨b, 7 + k, none⟩ = some v := by
    rw [cell_heap hG, Array.getElem?_eq_getElem (by simp; omega)]
    exact ⟨_, rfl⟩
  obtain ⟨v, c0⟩ := c0
  have hG' := heap_setCell (i := 7 + k) u.val hG
  refine ot_skip hi hw (w.setCell ⟨b, 7 + k, none⟩ u.val) ?_ (h _ (hG'.trans ?_) (grown_put _ _ _ _))
  · unfold Sl.val at hy ⊢
    simp only [execOp, ho, hx, hy]
    go_simp
  · unfold gObj
    have : k = 0 ∨ k = 1 ∨ k = 2 ∨ k = 3 := by omega
    rcases this with rfl | rfl | rfl | rfl <;> simp
end
end Go.Proofs.YtjbgjdjmejhejaaGreatDoor
namespace Go.Proofs.YtjbgjdjmejhejaaGreatDoor
open Go.RowKit
theorem gPow : Tryz.prog.globalNamed "internal/strconv.uint64pow10" = some 1 := by kernel_rfl
structure Env (w : World) : Prop where
  big : 2 ≤ w.heap.size
  tab : Lib.TabIs Tryz.prog w "internal/strconv.uint64pow10" .u64 Lib.pow10Tab
theorem Env.below {w w' : World} (h : Env w) {B : Nat} (hB : 2 ≤ B) (hb : Below B w w') : Env w' := ⟨Nat.le_trans h.1 hb.size, var?_below hb gPow (by omega) h.2⟩
theorem Env.on {w w' : World} (h : Env w) (hb : Below w.heap.size w w') : Env w' := h.below h.big hb
theorem itoa_any (n : Int) (h0 : -9223372036854775808 ≤ n) (h1 : n ≤ 9223372036854775807) (w : World) (hE : Env w) :
    Calls Tryz.prog 118 #[.int .i64 n] w fun e w' => e = .returned (.string ⟨(Lib.itoa n).toArray⟩) ∧ Below w.heap.size w w' := by
  refine (Tryz.strconv_Itoa n h0 h1 w hE.tab).mono ?_
  rintro e w' ⟨rfl, k, os, rfl⟩
  exact ⟨rfl, Lib.below_grow _ _ (Nat.le_refl _) _ _⟩
end Go.Proofs.YtjbgjdjmejhejaaGreatDoor
namespace Go.Proofs.YtjbgjdjmejhejaaGreatDoor
open Go.RowKit
set_option maxHeartbeats 2000000 in
set_option maxRecDepth 100000 in
theorem has_any (v : Value) (S : SetV) (k n : Int) (s : ByteArray) (w : World) (hv : SetAt w v S) (hf : Fit S) (hs : s.size ≤ maxLen) :
    Calls Tryz.prog 116 #[v, .agg #[.int .i64 k, .int .i64 n, .string s]] w fun r w' => r = .returned (.bool (hasB S k n s)) ∧ Below w.heap.size w w' := by
  have HR1 := hide hf.good.rs.2
  have HL1 := hide hf.ns
  clear hf
  obtain ⟨vi, vs, rfl, hI, hS⟩ := hv
  obtain ⟨ai, ci, rfl⟩ := hI.form
  obtain ⟨aq, cq, rfl⟩ := hS.form
  obtain ⟨sa, si, sc, ss⟩ := S
  dsimp only at *
  have HI := hide hI
  have HS := hide hS
  have HR := fun (W : World) => hide (valRight_any k n s W hs)
  have HSX := fun (W : World) (h : StrsAt W (.slice aq ss.length cq) ss) => hide (hasString_any _ _ s W h HR1.out (Nat.le_trans HL1.out (by omega)))
  clear HL1
  generalize hH : hasB ⟨sa, si, sc, ss⟩ k n s = B
  have HH := hide hH
  have R2 : rightB k n s = true → k ≠ 0 → k ≠ 1 → k = 2 := fun h h0 h1 => by
    unfold rightB at h
    rw [if_neg h0, if_neg h1] at h
    split at h
    · assumption
    · simp at h
  have HR2 := hide R2
  clear hI hS hH R2
  generalize si.length = nI at *
  generalize ss.length = nS at *
  cases hr : rightB k n s
  · rw [hr] at HR
    have E : Hid (B = false) := hide (by rw [← HH.out]; unfold hasB; rw [hr]; rfl)
    clear HH hr
    go_enter Tryz.func116, Tryz.ntmps116
    go_wp2_with fail
    refine (unhide (HR _)).mono ?_
    rintro r w1 ⟨rfl, b1⟩
    have B1 := hide b1
    clear b1
    go_wp2
    go_ret
    exact ⟨ret_bool E.out.symm, (two_new B1.out).2.2⟩
  · rw [hr] at HR
    have hB := HH.out
    unfold hasB at hB
    rw [hr, Bool.true_and] at hB
    have HB := hide hB
    have k2 := HR2.out hr
    have K2 := hide k2
    clear HH hr hB k2 HR2
    go_enter Tryz.func116, Tryz.ntmps116
    go_wp2_with fail
    refine (unhide (HR _)).mono ?_
    rintro r w1 ⟨rfl, b1⟩
    obtain ⟨e1, e2, b2⟩ := two_new b1
    have c0 := cell_heap e1 0
    have c1 := cell_heap e1 1
    have c2 := cell_heap e1 2
    have c3 := cell_heap e1 3
    have d0 := cell_heap e2 0
    have d1 := cell_heap e2 1
    have d2 := cell_heap e2 2
    simp only [List.getElem?_toArray, List.getElem?_cons_zero, List.getElem?_cons_succ] at c0 c1 c2 c3 d0 d1 d2
    have B2 := hide b2
    have I1 := hide (HI.out.on b2)
    have S1 := hide (HS.out.on b2)
    clear b1 b2 e1 e2 HR HI HS
    by_cases k0 : k = 0
    · subst k0
      have E : Hid (B = sa) := hide (by rw [← HB.out, if_pos rfl])
      clear HB
      go_wp2
      go_ret
      exact ⟨ret_bool E.out.symm, B2.out⟩
    · have kb : (k == 0) = false := beq_eq_false_iff_ne.2 k0
      by_cases k1 : k = 1
      · subst k1
        have E : Hid (B = inIntsB si n) := hide (by rw [← HB.out, if_neg (by omega), if_pos rfl])
        have X := hide (hasNumber_any _ _ n _ I1.out)
        clear HB I1 S1
        go_wp2_with fail
        refine (unhide X).mono ?_
        rintro r w2 ⟨rfl, b2⟩
        go_wp2
        go_ret
        exact ⟨ret_bool E.out.symm, B2.out.trans (b2.mono B2.out.size)⟩
      · have kb1 : (k == 1) = false := beq_eq_false_iff_ne.2 k1
        have kk : k = 2 := K2.out k0 k1
        subst kk
        have E : Hid (B = (inStrsB ss s != sc)) := hide (by rw [← HB.out, if_neg k0, if_neg k1])
        have X := fun (d : Nat) (os : Array Obj) => hide (Calls.regrown_of ((HSX (Sort.grow (redrawn w1 d) os) (S1.out.on (below_regrown w1 d os))).out.mono (by rintro r w2 ⟨rfl, rfl⟩; exact ⟨rfl, Below.refl _ _⟩)))
        clear HSX
        generalize inStrsB ss s = IB at *
        have p0 := cell_regrown c2
        have p1 := cell_regrown c3
        have p2 := cell_regrown d2
        have p3 := cell_regrown d0
        have p4 := cell_regrown d1
        clear HB I1 S1
        go_wp2
        clear c0 c1 c2 c3 d0 d1 d2
        refine wp_region_quiet_below mixed (by kernel_rfl) ?_
        repeat (first | go_big_quiet_step (exact unhide (X _ _)) | quiet_step (exact unhide (X _ _)))
        refine wpQuiet_nil ?_
        intro _ hw'
        obtain ⟨⟨dq, osq⟩, hw''⟩ := hw'
        subst hw''
        go_wp2
        go_ret
        refine ⟨ret_bool (by rw [E.out]; cases IB <;> cases sc <;> rfl), B2.out.trans ((below_regrown w1 dq osq).mono B2.out.size)⟩
end Go.Proofs.YtjbgjdjmejhejaaGreatDoor
namespace Go.Proofs.YtjbgjdjmejhejaaGreatDoor
open Go.RowKit
theorem results_cs {fn : Func} {p q : Tmp} {ty : TypeId} (h : fn.results = #[.cell p ty, .tmp q]) (tmps : Array Value) (w : World) (g : Nat) (cs : Array Value) (z : Value)
    (hp : tmps.getD p undef = .pointer (some ⟨g, 0, none⟩)) (hq : tmps.getD q undef = z) (hv : (loadVar ty ⟨g, 0, none⟩).run Tryz.prog w = .ok (.agg cs) w) :
    (results fn tmps).run Tryz.prog w = .ok (.tuple #[.agg cs, z]) w := by
  have hp' : tmps[p]?.getD undef = .pointer (some ⟨g, 0, none⟩) := by simpa using hp
  have hq' : tmps[q]?.getD undef = z := by simpa using hq
  simp [results, h, hp', hq', asAddr, hv]
set_option maxHeartbeats 4000000 in
set_option maxRecDepth 100000 in
theorem Env.gr {w w' : World} {g : Nat} (h : Env w) (k : w.grownBy w' (some g)) (h6 : 2 ≤ g) : Env w' := h.below (Nat.le_refl 2) ((Below.refl 2 w).grown k h.big (fun i hi => by cases hi; exact h6))
theorem try_bs (k : Nat) : bs ([126] ++ Lib.itoa ((k : Nat) : Int)) = tryS tilde k := (bs_cat [126] (Lib.itoa ((k : Nat) : Int))).symm
theorem c_itoa (k : Nat) (w : World) (hE : Env w) (hk : k ≤ 100000) : Calls Tryz.prog 118 #[.int .i64 ((k : Nat) : Int)] w fun e w' => e = .returned (.string (bs (Lib.itoa ((k : Nat) : Int)))) ∧ Below w.heap.size w w' := itoa_any _ (by omega) (by omega) w hE
theorem itoa_le9 (k : Nat) (hk : k ≤ 100000) : (Lib.itoa ((k : Nat) : Int)).length ≤ 21 := Lib.itoa_length_le _ (by omega) (by omega)
theorem c_has (v : Value) (S : SetV) (p : Va) (w : World) (hv : SetAt w v S) (hf : Fit S) (hs : p.2.2.size ≤ maxLen) :
    Calls Tryz.prog 116 #[v, vVal p] w fun r w' => r = .returned (.bool (hasP S p)) ∧ Below w.heap.size w w' := has_any v S p.1 p.2.1 p.2.2 w hv hf hs
theorem sc_open {w : World} {v : Value} {S : SetV} (h : SetAt w v S) : ∃ ai ci az cz, v = SC.val ⟨S.absent, ai, S.ints.length, ci, S.co, az, S.strs.length, cz⟩ ∧ RngsAt w (.slice ai S.ints.length ci) S.ints ∧ StrsAt w (.slice az S.strs.length cz) S.strs := by
  obtain ⟨vi, vs, rfl, hI, hS⟩ := h
  obtain ⟨ai, ci, rfl⟩ := hI.form
  obtain ⟨az, cz, rfl⟩ := hS.form
  exact ⟨ai, ci, az, cz, rfl, hI, hS⟩
theorem has_fresh {S : SetV} (hr : rightSet S = true) (hc : S.co = true) {k : Nat} (hk : k ≤ 9999) : hasP S (2, 0, tryS tilde k) = !inStrsB S.strs (tryS tilde k) := by
  show hasB S 2 0 (tryS tilde k) = _
  rw [has_2, rightB_2 (s := tryS tilde k) (fresh_short (by omega)), hc]
  cases inStrsB S.strs (tryS tilde k) <;> rfl
set_option maxHeartbeats 4000000 in
set_option maxRecDepth 100000 in
theorem cellHas_any (v : Value) (S : SetV) (p : Va) (w : World) (hv : SetAt w v S) (hf : Fit S) (hs : p.2.2.size ≤ maxLen) :
    Calls Tryz.prog 65 #[v, vVal p] w fun r w' => r = .returned (.bool (hasP S p)) ∧ Below w.heap.size w w' := by
  obtain ⟨ai, ci, az, cz, rfl, hI, hT⟩ := sc_open hv
  have hl1 := hI.2.1
  have hl2 := hT.2.1
  have D : w.grownBy w none := grown_refl _ _
  go_enter Tryz.func65, Tryz.ntmps65
  refine wp_seq_k (fun K1 hK1 => ?_)
  refine wp_region_lit ?_
  refine wt_boxSt (o := ⟨_, _, _, _, _, _⟩) (by rfl) _ rfl (⟨S.absent, ai, S.ints.length, ci, S.co, az, S.strs.length, cz⟩) rfl (fun v1 g1 hg G1 kb => ?_)
  simp only [Act.put, lzA, lzB, lzC]
  have ge_g1 : w.heap.size ≤ g1 := Nat.le_trans D.size hg
  clear hg
  replace D := grown_below D kb
  clear kb
  replace G1 : v1.heap[g1]? = some (.cells #[.bool (S.absent), .slice ai S.ints.length ci, .bool (S.co), .slice az S.strs.length cz] 26 (0, 0)) := G1
  refine wt_boxVa (o := ⟨_, _, _, _, _, _⟩) (by rfl) _ rfl (p) rfl (fun v2 g2 hg G2 kb => ?_)
  simp only [Act.put, lzA, lzB, lzC]
  have n_g1_g2 : g1 ≠ g2 := by have := lt_heap G1; omega
  have ge_g2 : w.heap.size ≤ g2 := Nat.le_trans D.size hg
  clear hg
  replace D := grown_below D kb
  replace G1 := heap_on G1 kb
  clear kb
  replace G2 : v2.heap[g2]? = some (.cells #[.int .i64 (p.1), .int .i64 (p.2.1), .string p.2.2] 48 (0, 0)) := G2
  refine wl_yield (o := ⟨_, _, _, _, _, _⟩) (.bool false) (yl_assign (by rfl) _ rfl _ rfl) ?_
  simp only [Act.put, lzA, lzB, lzC]
  refine wpList_nil ?_
  refine hK1 _ _ ?_
  clear hK1 K1
  refine wp_seq_k (fun K2 hK2 => ?_)
  refine wp_seq_k (fun K3 hK3 => ?_)
  refine wp_region_lit ?_
  refine wl_yield (o := ⟨_, _, _, _, _, _⟩) (.agg #[.bool (S.absent), .slice ai S.ints.length ci, .bool (S.co), .slice az S.strs.length cz]) (yl_set (by rfl) _ rfl _ 0 rfl _ _ _ _ (fun _ h => by subst h; exact ⟨cell_heap G1 0, cell_heap G1 1, cell_heap G1 2, cell_heap G1 3⟩)) ?_
  simp only [Act.put, lzA, lzB, lzC]
  refine wt_call (o := ⟨_, _, _, _, _, _⟩) (by rfl) 57 _ _ rfl #[.agg #[.bool (S.absent), .slice ai S.ints.length ci, .bool (S.co), .slice az S.strs.length cz]] rfl (run_call Tryz.func57 (by kernel_rfl) (by kernel_rfl)) ?_
  refine (setRight_any _ S _ (show SetAt _ (SC.val ⟨S.absent, ai, S.ints.length, ci, S.co, az, S.strs.length, cz⟩) S from ⟨_, _, rfl, hI.on (below_none D), hT.on (below_none D)⟩)).mono ?_
  rintro r v3 ⟨rfl, kb⟩
  replace D := grown_below D kb
  replace G1 := heap_on G1 kb
  replace G2 := heap_on G2 kb
  clear kb
  refine Or.inl ⟨.bool true, ret_bool hf.good.r, ?_⟩
  simp only [Act.put, lzA, lzB, lzC]
  refine wpList_nil ?_
  refine hK3 _ _ ?_
  clear hK3 K3
  refine wp_cond_true rfl ?_
  refine wp_seq_k (fun K4 hK4 => ?_)
  refine wp_region_lit ?_
  refine wl_yield (o := ⟨_, _, _, _, _, _⟩) (.agg #[.bool (S.absent), .slice ai S.ints.length ci, .bool (S.co), .slice az S.strs.length cz]) (yl_set (by rfl) _ rfl _ 0 rfl _ _ _ _ (fun _ h => by subst h; exact ⟨cell_heap G1 0, cell_heap G1 1, cell_heap G1 2, cell_heap G1 3⟩)) ?_
  simp only [Act.put, lzA, lzB, lzC]
  refine wl_yield (o := ⟨_, _, _, _, _, _⟩) (vVal p) (yl_val (by rfl) _ rfl _ 0 rfl _ _ _ (fun _ h => by subst h; exact ⟨cell_heap G2 0, cell_heap G2 1, cell_heap G2 2⟩)) ?_
  simp only [Act.put, lzA, lzB, lzC]
  refine wt_call (o := ⟨_, _, _, _, _, _⟩) (by rfl) 116 _ _ rfl #[.agg #[.bool (S.absent), .slice ai S.ints.length ci, .bool (S.co), .slice az S.strs.length cz], vVal p] rfl (run_call Tryz.func116 (by kernel_rfl) (by kernel_rfl)) ?_
  refine (c_has _ S p _ (show SetAt _ (SC.val ⟨S.absent, ai, S.ints.length, ci, S.co, az, S.strs.length, cz⟩) S from ⟨_, _, rfl, hI.on (below_none D), hT.on (below_none D)⟩) hf hs).mono ?_
  rintro r v4 ⟨rfl, kb⟩
  replace D := grown_below D kb
  replace G1 := heap_on G1 kb
  replace G2 := heap_on G2 kb
  clear kb
  refine Or.inl ⟨.bool ((hasP S p)), rfl, ?_⟩
  simp only [Act.put, lzA, lzB, lzC]
  refine wl_yield (o := ⟨_, _, _, _, _, _⟩) (.bool ((hasP S p))) (yl_assign (by rfl) _ rfl _ rfl) ?_
  simp only [Act.put, lzA, lzB, lzC]
  refine wpList_nil ?_
  refine hK4 _ _ ?_
  clear hK4 K4
  refine wp_ret ?_
  try simp only [Exit.inBlock, Exit.then]
  go_ret
  exact ⟨rfl, below_none D⟩
set_option maxHeartbeats 4000000 in
set_option maxRecDepth 100000 in
theorem unnamed_any (v : Value) (S : SetV) (w : World) (HE : Env w) (hv : SetAt w v S) (hf : Fit S) (hco : S.co = true) :
    Calls Tryz.prog 66 #[v] w fun r w' => r = .returned (.tuple #[vVal (2, 0, tryS tilde (freshC S.strs)), .bool true]) ∧ Below w.heap.size w w' := by
  have w6 : 2 ≤ w.heap.size := HE.big
  have hns := hf.ns
  obtain ⟨ai, ci, az, cz, rfl, hI, hT⟩ := sc_open hv
  have hl1 := hI.2.1
  have hl2 := hT.2.1
  have D : w.grownBy w none := grown_refl _ _
  go_enter Tryz.func66, Tryz.ntmps66
  refine wp_seq_k (fun K1 hK1 => ?_)
  refine wp_region_lit ?_
  refine wt_boxSt (o := ⟨_, _, _, _, _, _⟩) (by rfl) _ rfl (⟨S.absent, ai, S.ints.length, ci, S.co, az, S.strs.length, cz⟩) rfl (fun v1 g1 hg G1 kb => ?_)
  simp only [Act.put, lzA, lzB, lzC]
  have ge_g1 : w.heap.size ≤ g1 := Nat.le_trans D.size hg
  have six_g1 : 2 ≤ g1 := Nat.le_trans w6 ge_g1
  clear hg
  replace D := grown_below D kb
  replace HE := HE.on kb
  clear kb
  replace G1 : v1.heap[g1]? = some (.cells #[.bool (S.absent), .slice ai S.ints.length ci, .bool (S.co), .slice az S.strs.length cz] 26 (0, 0)) := G1
  refine wt_allocVa (o := ⟨_, _, _, _, _, _⟩) (by rfl) rfl (fun v2 g2 hg G2 kb => ?_)
  simp only [Act.put, lzA, lzB, lzC]
  have n_g1_g2 : g1 ≠ g2 := by have := lt_heap G1; omega
  have ge_g2 : w.heap.size ≤ g2 := Nat.le_trans D.size hg
  have six_g2 : 2 ≤ g2 := Nat.le_trans w6 ge_g2
  clear hg
  replace D := grown_below D kb
  replace HE := HE.on kb
  replace G1 := heap_on G1 kb
  clear kb
  replace G2 : v2.heap[g2]? = some (.cells #[.int .i64 0, .int .i64 0, .string (bs ([]))] 48 (0, 0)) := G2
  refine wl_yield (o := ⟨_, _, _, _, _, _⟩) (.bool false) (yl_assign (by rfl) _ rfl _ rfl) ?_
  simp only [Act.put, lzA, lzB, lzC]
  refine wpList_nil ?_
  refine hK1 _ _ ?_
  clear hK1 K1
  refine wp_seq_k (fun K2 hK2 => ?_)
  refine wp_seq_k (fun K3 hK3 => ?_)
  refine wp_region_lit ?_
  refine wl_yield (o := ⟨_, _, _, _, _, _⟩) (.pointer (some ⟨g1, 3, none⟩)) (yt_fSt3 (by rfl) _ rfl g1 0 rfl) ?_
  simp only [Act.put, lzA, lzB, lzC]
  refine wl_yield (o := ⟨_, _, _, _, _, _⟩) (.slice az S.strs.length cz) (yt_ldLs (by rfl) _ rfl _ _ rfl az S.strs.length cz (fun _ h => by subst h; exact cell_heap G1 3)) ?_
  simp only [Act.put, lzA, lzB, lzC]
  refine wl_yield (o := ⟨_, _, _, _, _, _⟩) (.int .i64 (S.strs.length : Nat)) (yt_lenT (by rfl) _ rfl az S.strs.length cz rfl) ?_
  simp only [Act.put, lzA, lzB, lzC]
  refine wl_yield (o := ⟨_, _, _, _, _, _⟩) (.int .i64 (S.strs.length + 1 : Nat)) (yt_addI (by rfl) _ _ _ rfl ((S.strs.length : Nat) : Int) 1 ((S.strs.length + 1 : Nat) : Int) rfl rfl (by omega) (by omega) (by omega)) ?_
  simp only [Act.put, lzA, lzB, lzC]
  refine wl_yield (o := ⟨_, _, _, _, _, _⟩) (.int .i64 0) (yl_move (by rfl) _ rfl _ rfl) ?_
  simp only [Act.put, lzA, lzB, lzC]
  refine wpList_nil ?_
  refine hK3 _ _ ?_
  clear hK3 K3
  refine wp_block ?_
  go_loopw [10] (fun i wr => ∃ (k : Nat), i = .int .i64 ((k : Nat) : Int) ∧ k ≤ S.strs.length + 1 ∧ (∀ m, m < k → tryS tilde m ∈ S.strs) ∧ wr.heap[g1]? = some (.cells #[.bool (S.absent), .slice ai S.ints.length ci, .bool (S.co), .slice az S.strs.length cz] 26 (0, 0)) ∧ wr.heap[g2]? = some (.cells #[.int .i64 0, .int .i64 0, .string (bs ([]))] 48 (0, 0)) ∧ Env wr ∧ w.grownBy wr none) (fun i _ => S.strs.length + 1 - (intOf i).toNat)
  case atStart => exact ⟨0, rfl, Nat.zero_le _, fun m hm => absurd hm (Nat.not_lt_zero _), G1, G2, HE, D⟩
  case round =>
    clear D HE G1 G2
    obtain ⟨k, rfl, hk, hm, G1, G2, HE, D⟩ := hrel
    have hkl := fresh_le S.strs k hm
    have hit := itoa_le9 k (by omega)
    refine wp_seq_k (fun K4 hK4 => ?_)
    refine wp_region_lit ?_
    refine wl_yield (o := ⟨_, _, _, _, _, _⟩) (.bool true) (yt_lssI (by rfl) _ _ _ rfl ((k : Nat) : Int) ((S.strs.length + 1 : Nat) : Int) true rfl rfl (decide_eq_true (by omega))) ?_
    simp only [Act.put, lzA, lzB, lzC]
    refine wpList_nil ?_
    refine hK4 _ _ ?_
    clear hK4 K4
    refine wp_seq_k (fun K5 hK5 => ?_)
    refine wp_cond_true rfl ?_
    refine wp_skip ?_
    refine hK5 _ _ ?_
    clear hK5 K5
    refine wp_seq_k (fun K6 hK6 => ?_)
    refine wp_block ?_
    refine wp_seq_k (fun K7 hK7 => ?_)
    refine wp_region_lit ?_
    refine wl_yield (o := ⟨_, _, _, _, _, _⟩) (.int .i64 (k : Nat)) (yl_move (by rfl) _ rfl _ rfl) ?_
    simp only [Act.put, lzA, lzB, lzC]
    refine wl_yield (o := ⟨_, _, _, _, _, _⟩) (.int .i64 (k : Nat)) (yl_assign (by rfl) _ rfl _ rfl) ?_
    simp only [Act.put, lzA, lzB, lzC]
    refine wpList_nil ?_
    refine hK7 _ _ ?_
    clear hK7 K7
    refine wp_seq_k (fun K8 hK8 => ?_)
    refine wp_region_lit ?_
    refine wl_yield (o := ⟨_, _, _, _, _, _⟩) (.int .i64 (k : Nat)) (yl_move (by rfl) _ rfl _ rfl) ?_
    simp only [Act.put, lzA, lzB, lzC]
    refine wt_call (o := ⟨_, _, _, _, _, _⟩) (by rfl) 118 _ _ rfl #[.int .i64 (k : Nat)] rfl (run_call Tryz.func118 (by kernel_rfl) (by kernel_rfl)) ?_
    refine (c_itoa k _ HE (by omega)).mono ?_
    rintro r v3 ⟨rfl, kb⟩
    replace D := grown_below D kb
    replace HE := HE.on kb
    replace G1 := heap_on G1 kb
    replace G2 := heap_on G2 kb
    clear kb
    refine Or.inl ⟨.string (bs (Lib.itoa ((k : Nat) : Int))), rfl, ?_⟩
    simp only [Act.put, lzA, lzB, lzC]
    refine wl_yield (o := ⟨_, _, _, _, _, _⟩) (.string (bs (([126]) ++ (Lib.itoa ((k : Nat) : Int))))) (yt_cat (by rfl) _ _ _ rfl ([126]) (Lib.itoa ((k : Nat) : Int)) rfl rfl (by simp; omega)) ?_
    simp only [Act.put, lzA, lzB, lzC]
    refine wl_yield (o := ⟨_, _, _, _, _, _⟩) (.agg #[.int .i64 2, .int .i64 0, .string (bs (([126]) ++ (Lib.itoa ((k : Nat) : Int))))]) (yq_bV3 (by rfl) _ _ rfl 2 (bs (([126]) ++ (Lib.itoa ((k : Nat) : Int)))) rfl rfl) ?_
    simp only [Act.put, lzA, lzB, lzC]
    refine wt_allocVa (o := ⟨_, _, _, _, _, _⟩) (by rfl) rfl (fun v4 g4 hg G4 kb => ?_)
    simp only [Act.put, lzA, lzB, lzC]
    have n_g1_g4 : g1 ≠ g4 := by have := lt_heap G1; omega
    have n_g2_g4 : g2 ≠ g4 := by have := lt_heap G2; omega
    have ge_g4 : w.heap.size ≤ g4 := Nat.le_trans D.size hg
    have six_g4 : 2 ≤ g4 := Nat.le_trans w6 ge_g4
    clear hg
    replace D := grown_below D kb
    replace HE := HE.on kb
    replace G1 := heap_on G1 kb
    replace G2 := heap_on G2 kb
    clear kb
    replace G4 : v4.heap[g4]? = some (.cells #[.int .i64 0, .int .i64 0, .string (bs ([]))] 48 (0, 0)) := G4
    refine wt_putVa (o := ⟨_, _, _, _, _, _⟩) rfl _ _ rfl _ rfl ((2, 0, (bs (([126]) ++ (Lib.itoa ((k : Nat) : Int)))))) rfl G4 rfl (fun v5 X kg => ?_)
    simp only [Act.put, lzA, lzB, lzC]
    replace D := gr_new D ge_g4 kg
    replace HE := Env.gr HE kg six_g4
    replace G1 := heap_gr G1 kg n_g1_g4
    replace G2 := heap_gr G2 kg n_g2_g4
    clear kg
    replace G4 : v5.heap[g4]? = some (.cells #[.int .i64 2, .int .i64 0, .string (bs (([126]) ++ (Lib.itoa ((k : Nat) : Int))))] 48 (0, 0)) := X
    clear X
    refine wpList_nil ?_
    refine hK8 _ _ ?_
    clear hK8 K8
    refine wp_seq_k (fun K9 hK9 => ?_)
    refine wp_region_lit ?_
    refine wl_yield (o := ⟨_, _, _, _, _, _⟩) (.agg #[.bool (S.absent), .slice ai S.ints.length ci, .bool (S.co), .slice az S.strs.length cz]) (yl_set (by rfl) _ rfl _ 0 rfl _ _ _ _ (fun _ h => by subst h; exact ⟨cell_heap G1 0, cell_heap G1 1, cell_heap G1 2, cell_heap G1 3⟩)) ?_
    simp only [Act.put, lzA, lzB, lzC]
    refine wl_yield (o := ⟨_, _, _, _, _, _⟩) (.agg #[.int .i64 2, .int .i64 0, .string (bs (([126]) ++ (Lib.itoa ((k : Nat) : Int))))]) (yl_val (by rfl) _ rfl _ 0 rfl _ _ _ (fun _ h => by subst h; exact ⟨cell_heap G4 0, cell_heap G4 1, cell_heap G4 2⟩)) ?_
    simp only [Act.put, lzA, lzB, lzC]
    refine wt_call (o := ⟨_, _, _, _, _, _⟩) (by rfl) 116 _ _ rfl #[.agg #[.bool (S.absent), .slice ai S.ints.length ci, .bool (S.co), .slice az S.strs.length cz], .agg #[.int .i64 2, .int .i64 0, .string (bs (([126]) ++ (Lib.itoa ((k : Nat) : Int))))]] rfl (run_call Tryz.func116 (by kernel_rfl) (by kernel_rfl)) ?_
    refine (c_has _ S (2, 0, bs ([126] ++ Lib.itoa ((k : Nat) : Int))) _ (show SetAt _ (SC.val ⟨S.absent, ai, S.ints.length, ci, S.co, az, S.strs.length, cz⟩) S from ⟨_, _, rfl, hI.on (below_none D), hT.on (below_none D)⟩) hf (by rw [try_bs]; have := fresh_short (show k < 100000 by omega); unfold maxLen; exact Nat.le_trans this (by decide))).mono ?_
    rintro r v6 ⟨rfl, kb⟩
    replace D := grown_below D kb
    replace HE := HE.on kb
    replace G1 := heap_on G1 kb
    replace G2 := heap_on G2 kb
    replace G4 := heap_on G4 kb
    clear kb
    refine Or.inl ⟨.bool ((!inStrsB S.strs (tryS tilde k))), ret_bool (by rw [try_bs]; exact has_fresh hf.good.r hco (by omega)), ?_⟩
    simp only [Act.put, lzA, lzB, lzC]
    refine wpList_nil ?_
    refine hK9 _ _ ?_
    clear hK9 K9
    refine wp_cond_split (t := (!inStrsB S.strs (tryS tilde k))) rfl (fun hc => ?_) (fun hc => ?_)
    · refine wp_seq_k (fun K10 hK10 => ?_)
      refine wp_region_lit ?_
      refine wl_yield (o := ⟨_, _, _, _, _, _⟩) (.agg #[.int .i64 2, .int .i64 0, .string (bs (([126]) ++ (Lib.itoa ((k : Nat) : Int))))]) (yl_val (by rfl) _ rfl _ 0 rfl _ _ _ (fun _ h => by subst h; exact ⟨cell_heap G4 0, cell_heap G4 1, cell_heap G4 2⟩)) ?_
      simp only [Act.put, lzA, lzB, lzC]
      refine wt_putVa (o := ⟨_, _, _, _, _, _⟩) rfl _ _ rfl _ rfl ((2, 0, (bs (([126]) ++ (Lib.itoa ((k : Nat) : Int)))))) rfl G2 rfl (fun v7 X kg => ?_)
      simp only [Act.put, lzA, lzB, lzC]
      replace D := gr_new D ge_g2 kg
      replace HE := Env.gr HE kg six_g2
      replace G1 := heap_gr G1 kg n_g1_g2
      replace G4 := heap_gr G4 kg (Ne.symm n_g2_g4)
      clear kg
      replace G2 : v7.heap[g2]? = some (.cells #[.int .i64 2, .int .i64 0, .string (bs (([126]) ++ (Lib.itoa ((k : Nat) : Int))))] 48 (0, 0)) := X
      clear X
      refine wl_yield (o := ⟨_, _, _, _, _, _⟩) (.bool true) (yl_assign (by rfl) _ rfl _ rfl) ?_
      simp only [Act.put, lzA, lzB, lzC]
      refine wpList_nil ?_
      refine hK10 _ _ ?_
      clear hK10 K10
      refine wp_ret ?_
      try simp only [Exit.inBlock, Exit.then]
      refine bodyPost_ret (results_cs rfl _ _ g2 _ (.bool true) rfl rfl (run_loadVar_row _ _ _ _ _ _ _ G2 Tryz.underlying48 rfl (by rw [infoV]; rfl))) rfl ?_
      have hx : IsFresh S.strs k := ⟨fun h => (by rw [inStrs_mem.2 h] at hc; cases hc), hm⟩
      have e : freshC S.strs = k := (freshC_is S.strs).1.uniq hx
      rw [e, ← try_bs]
      exact ⟨rfl, below_none D⟩
    · refine wp_skip ?_
      refine hK6 _ _ ?_
      clear hK6 K6
      refine wp_region_lit ?_
      refine wl_yield (o := ⟨_, _, _, _, _, _⟩) (.int .i64 (k + 1 : Nat)) (yt_addI (by rfl) _ _ _ rfl ((k : Nat) : Int) 1 ((k + 1 : Nat) : Int) rfl rfl (by omega) (by omega) (by omega)) ?_
      simp only [Act.put, lzA, lzB, lzC]
      refine wl_yield (o := ⟨_, _, _, _, _, _⟩) (.int .i64 (k + 1 : Nat)) (yl_move (by rfl) _ rfl _ rfl) ?_
      simp only [Act.put, lzA, lzB, lzC]
      refine wpList_nil ?_
      show _ ∧ _
      go_roundw
      case rel => exact ⟨k + 1, rfl, by omega, fun m h1 => by
          by_cases e : m = k
          · subst e; exact inStrs_mem.1 (by simpa using hc)
          · exact hm m (by omega), G1, G2, HE, D⟩
      case measure => simp [intOf]; omega
set_option maxHeartbeats 4000000 in
set_option maxRecDepth 100000 in
theorem sample_any (v : Value) (S : SetV) (w : World) (HE : Env w) (hv : SetAt w v S) (hfit : rightSet S = true → Fit S) :
    Calls Tryz.prog 25 #[v] w fun r w' => r = .returned (.tuple #[vVal ((sampleV S).getD (0, 0, ⟨#[]⟩)), .bool (sampleV S).isSome]) ∧ Below w.heap.size w w' := by
  have w6 : 2 ≤ w.heap.size := HE.big
  obtain ⟨ai, ci, az, cz, rfl, hI, hT⟩ := sc_open hv
  have hl1 := hI.2.1
  have hl2 := hT.2.1
  have D : w.grownBy w none := grown_refl _ _
  go_enter Tryz.func25, Tryz.ntmps25
  refine wp_seq_k (fun K1 hK1 => ?_)
  refine wp_region_lit ?_
  refine wt_boxSt (o := ⟨_, _, _, _, _, _⟩) (by rfl) _ rfl (⟨S.absent, ai, S.ints.length, ci, S.co, az, S.strs.length, cz⟩) rfl (fun v1 g1 hg G1 kb => ?_)
  simp only [Act.put, lzA, lzB, lzC]
  have ge_g1 : w.heap.size ≤ g1 := Nat.le_trans D.size hg
  have six_g1 : 2 ≤ g1 := Nat.le_trans w6 ge_g1
  clear hg
  replace D := grown_below D kb
  replace HE := HE.on kb
  clear kb
  replace G1 : v1.heap[g1]? = some (.cells #[.bool (S.absent), .slice ai S.ints.length ci, .bool (S.co), .slice az S.strs.length cz] 26 (0, 0)) := G1
  refine wt_allocVa (o := ⟨_, _, _, _, _, _⟩) (by rfl) rfl (fun v2 g2 hg G2 kb => ?_)
  simp only [Act.put, lzA, lzB, lzC]
  have n_g1_g2 : g1 ≠ g2 := by have := lt_heap G1; omega
  have ge_g2 : w.heap.size ≤ g2 := Nat.le_trans D.size hg
  have six_g2 : 2 ≤ g2 := Nat.le_trans w6 ge_g2
  clear hg
  replace D := grown_below D kb
  replace HE := HE.on kb
  replace G1 := heap_on G1 kb
  clear kb
  replace G2 : v2.heap[g2]? = some (.cells #[.int .i64 0, .int .i64 0, .string (bs ([]))] 48 (0, 0)) := G2
  refine wl_yield (o := ⟨_, _, _, _, _, _⟩) (.bool false) (yl_assign (by rfl) _ rfl _ rfl) ?_
  simp only [Act.put, lzA, lzB, lzC]
  refine wpList_nil ?_
  refine hK1 _ _ ?_
  clear hK1 K1
  refine wp_seq_k (fun K2 hK2 => ?_)
  refine wp_block ?_
  refine wp_seq_k (fun K3 hK3 => ?_)
  refine wp_region_lit ?_
  refine wl_yield (o := ⟨_, _, _, _, _, _⟩) (.agg #[.bool (S.absent), .slice ai S.ints.length ci, .bool (S.co), .slice az S.strs.length cz]) (yl_set (by rfl) _ rfl _ 0 rfl _ _ _ _ (fun _ h => by subst h; exact ⟨cell_heap G1 0, cell_heap G1 1, cell_heap G1 2, cell_heap G1 3⟩)) ?_
  simp only [Act.put, lzA, lzB, lzC]
  cases hr : rightSet S
  · refine wt_call (o := ⟨_, _, _, _, _, _⟩) (by rfl) 57 _ _ rfl #[.agg #[.bool (S.absent), .slice ai S.ints.length ci, .bool (S.co), .slice az S.strs.length cz]] rfl (run_call Tryz.func57 (by kernel_rfl) (by kernel_rfl)) ?_
    refine (setRight_any _ S _ (show SetAt _ (SC.val ⟨S.absent, ai, S.ints.length, ci, S.co, az, S.strs.length, cz⟩) S from ⟨_, _, rfl, hI.on (below_none D), hT.on (below_none D)⟩)).mono ?_
    rintro r v3 (⟨rfl, kb⟩)
    · replace D := grown_below D kb
      replace HE := HE.on kb
      replace G1 := heap_on G1 kb
      replace G2 := heap_on G2 kb
      clear kb
      refine Or.inl ⟨.bool false, ret_bool hr, ?_⟩
      simp only [Act.put, lzA, lzB, lzC]
      refine wl_yield (o := ⟨_, _, _, _, _, _⟩) (.bool true) (yl_not (by rfl) _ _ rfl false rfl) ?_
      simp only [Act.put, lzA, lzB, lzC]
      refine wl_yield (o := ⟨_, _, _, _, _, _⟩) (.bool true) (yl_assign (by rfl) _ rfl _ rfl) ?_
      simp only [Act.put, lzA, lzB, lzC]
      refine wpList_nil ?_
      refine hK3 _ _ ?_
      clear hK3 K3
      refine wp_cond_true rfl ?_
      refine wp_seq_k (fun K4 hK4 => ?_)
      refine wp_region_lit ?_
      refine wl_yield (o := ⟨_, _, _, _, _, _⟩) (vVal ((0, 0, ⟨#[]⟩) : Va)) (yq_bV0 (by rfl) rfl) ?_
      simp only [Act.put, lzA, lzB, lzC]
      refine wt_putVa (o := ⟨_, _, _, _, _, _⟩) rfl _ _ rfl _ rfl (((0, 0, ⟨#[]⟩) : Va)) rfl G2 rfl (fun v4 X kg => ?_)
      simp only [Act.put, lzA, lzB, lzC]
      replace D := gr_new D ge_g2 kg
      replace HE := Env.gr HE kg six_g2
      replace G1 := heap_gr G1 kg n_g1_g2
      clear kg
      replace G2 : v4.heap[g2]? = some (.cells #[.int .i64 (((0, 0, ⟨#[]⟩) : Va).1), .int .i64 (((0, 0, ⟨#[]⟩) : Va).2.1), .string ((0, 0, ⟨#[]⟩) : Va).2.2] 48 (0, 0)) := X
      clear X
      refine wl_yield (o := ⟨_, _, _, _, _, _⟩) (.bool false) (yl_assign (by rfl) _ rfl _ rfl) ?_
      simp only [Act.put, lzA, lzB, lzC]
      refine wpList_nil ?_
      refine hK4 _ _ ?_
      clear hK4 K4
      refine wp_ret ?_
      try simp only [Exit.inBlock, Exit.then]
      refine bodyPost_ret (results_cs rfl _ _ g2 _ (.bool false) rfl rfl (run_loadVar_row _ _ _ _ _ _ _ G2 Tryz.underlying48 rfl (by rw [infoV]; rfl))) rfl ?_
      have e : sampleV S = none := by
        unfold sampleV
        rw [if_neg (by rw [hr]; decide)]
        all_goals rfl
      rw [e]
      exact ⟨rfl, below_none D⟩
  · have hf := hfit hr
    refine wt_call (o := ⟨_, _, _, _, _, _⟩) (by rfl) 57 _ _ rfl #[.agg #[.bool (S.absent), .slice ai S.ints.length ci, .bool (S.co), .slice az S.strs.length cz]] rfl (run_call Tryz.func57 (by kernel_rfl) (by kernel_rfl)) ?_
    refine (setRight_any _ S _ (show SetAt _ (SC.val ⟨S.absent, ai, S.ints.length, ci, S.co, az, S.strs.length, cz⟩) S from ⟨_, _, rfl, hI.on (below_none D), hT.on (below_none D)⟩)).mono ?_
    rintro r v3 (⟨rfl, kb⟩)
    · replace D := grown_below D kb
      replace HE := HE.on kb
      replace G1 := heap_on G1 kb
      replace G2 := heap_on G2 kb
      clear kb
      refine Or.inl ⟨.bool true, ret_bool hr, ?_⟩
      simp only [Act.put, lzA, lzB, lzC]
      refine wl_yield (o := ⟨_, _, _, _, _, _⟩) (.bool false) (yl_not (by rfl) _ _ rfl true rfl) ?_
      simp only [Act.put, lzA, lzB, lzC]
      refine wl_yield (o := ⟨_, _, _, _, _, _⟩) (.bool false) (yl_assign (by rfl) _ rfl _ rfl) ?_
      simp only [Act.put, lzA, lzB, lzC]
      refine wpList_nil ?_
      refine hK3 _ _ ?_
      clear hK3 K3
      refine wp_cond_false rfl ?_
      refine wp_seq_k (fun K4 hK4 => ?_)
      refine wp_region_lit ?_
      refine wl_yield (o := ⟨_, _, _, _, _, _⟩) (.pointer (some ⟨g1, 0, none⟩)) (yt_fSt0 (by rfl) _ rfl g1 0 rfl) ?_
      simp only [Act.put, lzA, lzB, lzC]
      refine wl_yield (o := ⟨_, _, _, _, _, _⟩) (.bool (S.absent)) (yt_ldB (by rfl) _ rfl _ _ rfl S.absent (fun _ h => by subst h; exact cell_heap G1 0)) ?_
      simp only [Act.put, lzA, lzB, lzC]
      refine wl_yield (o := ⟨_, _, _, _, _, _⟩) (.bool (S.absent)) (yl_assign (by rfl) _ rfl _ rfl) ?_
      simp only [Act.put, lzA, lzB, lzC]
      refine wpList_nil ?_
      refine hK4 _ _ ?_
      clear hK4 K4
      refine wp_cond_split (t := S.absent) rfl (fun hc => ?_) (fun hc => ?_)
      · have hc3 := hc
        clear hc
        refine wp_seq_k (fun K5 hK5 => ?_)
        refine wp_region_lit ?_
        refine wl_yield (o := ⟨_, _, _, _, _, _⟩) (.agg #[.int .i64 0, .int .i64 0, .string ⟨#[]⟩]) (yq_bV1 (by rfl) _ rfl 0 rfl) ?_
        simp only [Act.put, lzA, lzB, lzC]
        refine wt_putVa (o := ⟨_, _, _, _, _, _⟩) rfl _ _ rfl _ rfl ((0, 0, ⟨#[]⟩)) rfl G2 rfl (fun v4 X kg => ?_)
        simp only [Act.put, lzA, lzB, lzC]
        replace D := gr_new D ge_g2 kg
        replace HE := Env.gr HE kg six_g2
        replace G1 := heap_gr G1 kg n_g1_g2
        clear kg
        replace G2 : v4.heap[g2]? = some (.cells #[.int .i64 0, .int .i64 0, .string ⟨#[]⟩] 48 (0, 0)) := X
        clear X
        refine wl_yield (o := ⟨_, _, _, _, _, _⟩) (.bool true) (yl_assign (by rfl) _ rfl _ rfl) ?_
        simp only [Act.put, lzA, lzB, lzC]
        refine wpList_nil ?_
        refine hK5 _ _ ?_
        clear hK5 K5
        refine wp_ret ?_
        try simp only [Exit.inBlock, Exit.then]
        refine bodyPost_ret (results_cs rfl _ _ g2 _ (.bool true) rfl rfl (run_loadVar_row _ _ _ _ _ _ _ G2 Tryz.underlying48 rfl (by rw [infoV]; rfl))) rfl ?_
        have e : sampleV S = some (0, 0, ⟨#[]⟩) := by
          unfold sampleV
          rw [if_pos hr, if_pos hc3]
          all_goals rfl
        rw [e]
        exact ⟨rfl, below_none D⟩
      · have hc3 := hc
        clear hc
        refine wp_seq_k (fun K5 hK5 => ?_)
        refine wp_region_lit ?_
        refine wl_yield (o := ⟨_, _, _, _, _, _⟩) (.pointer (some ⟨g1, 1, none⟩)) (yt_fSt1 (by rfl) _ rfl g1 0 rfl) ?_
        simp only [Act.put, lzA, lzB, lzC]
        refine wl_yield (o := ⟨_, _, _, _, _, _⟩) (.slice ai S.ints.length ci) (yt_ldLr (by rfl) _ rfl _ _ rfl ai S.ints.length ci (fun _ h => by subst h; exact cell_heap G1 1)) ?_
        simp only [Act.put, lzA, lzB, lzC]
        refine wl_yield (o := ⟨_, _, _, _, _, _⟩) (.int .i64 (S.ints.length : Nat)) (yt_lenR (by rfl) _ rfl ai S.ints.length ci rfl) ?_
        simp only [Act.put, lzA, lzB, lzC]
        refine wl_yield (o := ⟨_, _, _, _, _, _⟩) (.bool (decide ((S.ints.length : Int) > 0))) (yt_gtrI (by rfl) _ _ _ rfl ((S.ints.length : Nat) : Int) 0 (decide ((S.ints.length : Int) > 0)) rfl rfl (rfl)) ?_
        simp only [Act.put, lzA, lzB, lzC]
        refine wl_yield (o := ⟨_, _, _, _, _, _⟩) (.bool (decide ((S.ints.length : Int) > 0))) (yl_assign (by rfl) _ rfl _ rfl) ?_
        simp only [Act.put, lzA, lzB, lzC]
        refine wpList_nil ?_
        refine hK5 _ _ ?_
        clear hK5 K5
        refine wp_cond_split (t := (decide ((S.ints.length : Int) > 0))) rfl (fun hc => ?_) (fun hc => ?_)
        · have hc5 := hc
          clear hc
          have h0 : 0 < S.ints.length := by have := of_decide_eq_true hc5; omega
          obtain ⟨gI, oI, rfl, hg1, C0, C1⟩ := hI.at.2 0 h0
          have cellD := fun (W : World) (D : w.grownBy W none) (j : Nat) => (below_none D).cell (p := ⟨gI, j, none⟩) hg1
          refine wp_seq_k (fun K6 hK6 => ?_)
          refine wp_region_lit ?_
          refine wl_yield (o := ⟨_, _, _, _, _, _⟩) (.pointer (some ⟨g1, 1, none⟩)) (yt_fSt1 (by rfl) _ rfl g1 0 rfl) ?_
          simp only [Act.put, lzA, lzB, lzC]
          refine wl_yield (o := ⟨_, _, _, _, _, _⟩) (.slice (some ⟨gI, oI, none⟩) S.ints.length ci) (yt_ldLr (by rfl) _ rfl _ _ rfl (some ⟨gI, oI, none⟩) S.ints.length ci (fun _ h => by subst h; exact cell_heap G1 1)) ?_
          simp only [Act.put, lzA, lzB, lzC]
          refine wl_yield (o := ⟨_, _, _, _, _, _⟩) (.pointer (some ⟨gI, oI + 0 * 2, none⟩)) (yt_atR (by rfl) _ _ rfl gI oI _ _ 0 rfl rfl (h0)) ?_
          simp only [Act.put, lzA, lzB, lzC]
          refine wl_yield (o := ⟨_, _, _, _, _, _⟩) (.pointer (some ⟨gI, oI + 0 * 2 + 0, none⟩)) (yt_fRg0 (by rfl) _ rfl gI (oI + 0 * 2) rfl) ?_
          simp only [Act.put, lzA, lzB, lzC]
          refine wl_yield (o := ⟨_, _, _, _, _, _⟩) (.int .i64 ((S.ints.getD 0 (0, 0)).1)) (yt_ldI (by rfl) _ rfl _ _ rfl _ (fun _ h => by subst h; exact (cellD _ D _).trans C0)) ?_
          simp only [Act.put, lzA, lzB, lzC]
          refine wl_yield (o := ⟨_, _, _, _, _, _⟩) (.agg #[.int .i64 1, .int .i64 ((S.ints.getD 0 (0, 0)).1), .string ⟨#[]⟩]) (yq_bV2 (by rfl) _ _ rfl 1 (S.ints.getD 0 (0, 0)).1 rfl rfl) ?_
          simp only [Act.put, lzA, lzB, lzC]
          refine wt_putVa (o := ⟨_, _, _, _, _, _⟩) rfl _ _ rfl _ rfl ((1, (S.ints.getD 0 (0, 0)).1, ⟨#[]⟩)) rfl G2 rfl (fun v4 X kg => ?_)
          simp only [Act.put, lzA, lzB, lzC]
          replace D := gr_new D ge_g2 kg
          replace HE := Env.gr HE kg six_g2
          replace G1 := heap_gr G1 kg n_g1_g2
          clear kg
          replace G2 : v4.heap[g2]? = some (.cells #[.int .i64 1, .int .i64 ((S.ints.getD 0 (0, 0)).1), .string ⟨#[]⟩] 48 (0, 0)) := X
          clear X
          refine wl_yield (o := ⟨_, _, _, _, _, _⟩) (.bool true) (yl_assign (by rfl) _ rfl _ rfl) ?_
          simp only [Act.put, lzA, lzB, lzC]
          refine wpList_nil ?_
          refine hK6 _ _ ?_
          clear hK6 K6
          refine wp_ret ?_
          try simp only [Exit.inBlock, Exit.then]
          refine bodyPost_ret (results_cs rfl _ _ g2 _ (.bool true) rfl rfl (run_loadVar_row _ _ _ _ _ _ _ G2 Tryz.underlying48 rfl (by rw [infoV]; rfl))) rfl ?_
          have e : sampleV S = some (1, (S.ints.getD 0 (0, 0)).1, ⟨#[]⟩) := by
            unfold sampleV
            rw [if_pos hr, if_neg (by rw [hc3]; decide), if_pos h0]
            all_goals rfl
          rw [e]
          exact ⟨rfl, below_none D⟩
        · have hc5 := hc
          clear hc
          refine wp_seq_k (fun K6 hK6 => ?_)
          refine wp_region_lit ?_
          refine wl_yield (o := ⟨_, _, _, _, _, _⟩) (.pointer (some ⟨g1, 2, none⟩)) (yt_fSt2 (by rfl) _ rfl g1 0 rfl) ?_
          simp only [Act.put, lzA, lzB, lzC]
          refine wl_yield (o := ⟨_, _, _, _, _, _⟩) (.bool (S.co)) (yt_ldB (by rfl) _ rfl _ _ rfl S.co (fun _ h => by subst h; exact cell_heap G1 2)) ?_
          simp only [Act.put, lzA, lzB, lzC]
          refine wl_yield (o := ⟨_, _, _, _, _, _⟩) (.bool (S.co)) (yl_assign (by rfl) _ rfl _ rfl) ?_
          simp only [Act.put, lzA, lzB, lzC]
          refine wpList_nil ?_
          refine hK6 _ _ ?_
          clear hK6 K6
          refine wp_cond_split (t := S.co) rfl (fun hc => ?_) (fun hc => ?_)
          · have hc7 := hc
            clear hc
            refine wp_seq_k (fun K7 hK7 => ?_)
            refine wp_region_lit ?_
            refine wl_yield (o := ⟨_, _, _, _, _, _⟩) (.agg #[.bool (S.absent), .slice ai S.ints.length ci, .bool (S.co), .slice az S.strs.length cz]) (yl_set (by rfl) _ rfl _ 0 rfl _ _ _ _ (fun _ h => by subst h; exact ⟨cell_heap G1 0, cell_heap G1 1, cell_heap G1 2, cell_heap G1 3⟩)) ?_
            simp only [Act.put, lzA, lzB, lzC]
            refine wt_call (o := ⟨_, _, _, _, _, _⟩) (by rfl) 66 _ _ rfl #[.agg #[.bool (S.absent), .slice ai S.ints.length ci, .bool (S.co), .slice az S.strs.length cz]] rfl (run_call Tryz.func66 (by kernel_rfl) (by kernel_rfl)) ?_
            refine (unnamed_any _ S _ HE (show SetAt _ (SC.val ⟨S.absent, ai, S.ints.length, ci, S.co, az, S.strs.length, cz⟩) S from ⟨_, _, rfl, hI.on (below_none D), hT.on (below_none D)⟩) hf hc7).mono ?_
            rintro r v4 ⟨rfl, kb⟩
            replace D := grown_below D kb
            replace HE := HE.on kb
            replace G1 := heap_on G1 kb
            replace G2 := heap_on G2 kb
            clear kb
            refine Or.inl ⟨.tuple #[vVal ((2, 0, tryS tilde (freshC S.strs)) : Va), .bool true], rfl, ?_⟩
            simp only [Act.put, lzA, lzB, lzC]
            refine wl_yield (o := ⟨_, _, _, _, _, _⟩) (vVal ((2, 0, tryS tilde (freshC S.strs)) : Va)) (yl_extract0 (by rfl) _ rfl _ _ rfl) ?_
            simp only [Act.put, lzA, lzB, lzC]
            refine wl_yield (o := ⟨_, _, _, _, _, _⟩) (.bool true) (yl_extract1 (by rfl) _ rfl _ _ rfl) ?_
            simp only [Act.put, lzA, lzB, lzC]
            refine wt_putVa (o := ⟨_, _, _, _, _, _⟩) rfl _ _ rfl _ rfl (((2, 0, tryS tilde (freshC S.strs)) : Va)) rfl G2 rfl (fun v5 X kg => ?_)
            simp only [Act.put, lzA, lzB, lzC]
            replace D := gr_new D ge_g2 kg
            replace HE := Env.gr HE kg six_g2
            replace G1 := heap_gr G1 kg n_g1_g2
            clear kg
            replace G2 : v5.heap[g2]? = some (.cells #[.int .i64 (((2, 0, tryS tilde (freshC S.strs)) : Va).1), .int .i64 (((2, 0, tryS tilde (freshC S.strs)) : Va).2.1), .string ((2, 0, tryS tilde (freshC S.strs)) : Va).2.2] 48 (0, 0)) := X
            clear X
            refine wl_yield (o := ⟨_, _, _, _, _, _⟩) (.bool true) (yl_assign (by rfl) _ rfl _ rfl) ?_
            simp only [Act.put, lzA, lzB, lzC]
            refine wpList_nil ?_
            refine hK7 _ _ ?_
            clear hK7 K7
            refine wp_ret ?_
            try simp only [Exit.inBlock, Exit.then]
            refine bodyPost_ret (results_cs rfl _ _ g2 _ (.bool true) rfl rfl (run_loadVar_row _ _ _ _ _ _ _ G2 Tryz.underlying48 rfl (by rw [infoV]; rfl))) rfl ?_
            have e : sampleV S = some (((2, 0, tryS tilde (freshC S.strs)) : Va).1, ((2, 0, tryS tilde (freshC S.strs)) : Va).2.1, ((2, 0, tryS tilde (freshC S.strs)) : Va).2.2) := by
              unfold sampleV
              rw [if_pos hr, if_neg (by rw [hc3]; decide), if_neg (by have := of_decide_eq_false hc5; omega), if_pos hc7]
              all_goals rfl
            rw [e]
            exact ⟨rfl, below_none D⟩
          · have hc7 := hc
            clear hc
            refine wp_seq_k (fun K7 hK7 => ?_)
            refine wp_region_lit ?_
            refine wl_yield (o := ⟨_, _, _, _, _, _⟩) (.pointer (some ⟨g1, 3, none⟩)) (yt_fSt3 (by rfl) _ rfl g1 0 rfl) ?_
            simp only [Act.put, lzA, lzB, lzC]
            refine wl_yield (o := ⟨_, _, _, _, _, _⟩) (.slice az S.strs.length cz) (yt_ldLs (by rfl) _ rfl _ _ rfl az S.strs.length cz (fun _ h => by subst h; exact cell_heap G1 3)) ?_
            simp only [Act.put, lzA, lzB, lzC]
            refine wl_yield (o := ⟨_, _, _, _, _, _⟩) (.int .i64 (S.strs.length : Nat)) (yt_lenT (by rfl) _ rfl az S.strs.length cz rfl) ?_
            simp only [Act.put, lzA, lzB, lzC]
            refine wl_yield (o := ⟨_, _, _, _, _, _⟩) (.bool (decide ((S.strs.length : Int) > 0))) (yt_gtrI (by rfl) _ _ _ rfl ((S.strs.length : Nat) : Int) 0 (decide ((S.strs.length : Int) > 0)) rfl rfl (rfl)) ?_
            simp only [Act.put, lzA, lzB, lzC]
            refine wl_yield (o := ⟨_, _, _, _, _, _⟩) (.bool (decide ((S.strs.length : Int) > 0))) (yl_assign (by rfl) _ rfl _ rfl) ?_
            simp only [Act.put, lzA, lzB, lzC]
            refine wpList_nil ?_
            refine hK7 _ _ ?_
            clear hK7 K7
            refine wp_cond_split (t := (decide ((S.strs.length : Int) > 0))) rfl (fun hc => ?_) (fun hc => ?_)
            · have hc9 := hc
              clear hc
              have h0 : 0 < S.strs.length := by have := of_decide_eq_true hc9; omega
              obtain ⟨gI, oI, rfl, hg1, C0⟩ := hT.at.2 0 h0
              have cellD := fun (W : World) (D : w.grownBy W none) (j : Nat) => (below_none D).cell (p := ⟨gI, j, none⟩) hg1
              refine wp_seq_k (fun K8 hK8 => ?_)
              refine wp_region_lit ?_
              refine wl_yield (o := ⟨_, _, _, _, _, _⟩) (.pointer (some ⟨g1, 3, none⟩)) (yt_fSt3 (by rfl) _ rfl g1 0 rfl) ?_
              simp only [Act.put, lzA, lzB, lzC]
              refine wl_yield (o := ⟨_, _, _, _, _, _⟩) (.slice (some ⟨gI, oI, none⟩) S.strs.length cz) (yt_ldLs (by rfl) _ rfl _ _ rfl (some ⟨gI, oI, none⟩) S.strs.length cz (fun _ h => by subst h; exact cell_heap G1 3)) ?_
              simp only [Act.put, lzA, lzB, lzC]
              refine wl_yield (o := ⟨_, _, _, _, _, _⟩) (.pointer (some ⟨gI, oI + 0 * 1, none⟩)) (yt_atT (by rfl) _ _ rfl gI oI _ _ 0 rfl rfl (h0)) ?_
              simp only [Act.put, lzA, lzB, lzC]
              refine wl_yield (o := ⟨_, _, _, _, _, _⟩) (.string (S.strs.getD 0 ⟨#[]⟩)) (yt_ldS (by rfl) _ rfl _ _ rfl _ (fun _ h => by subst h; exact (cellD _ D _).trans C0)) ?_
              simp only [Act.put, lzA, lzB, lzC]
              refine wl_yield (o := ⟨_, _, _, _, _, _⟩) (.agg #[.int .i64 2, .int .i64 0, .string (S.strs.getD 0 ⟨#[]⟩)]) (yq_bV3 (by rfl) _ _ rfl 2 (S.strs.getD 0 ⟨#[]⟩) rfl rfl) ?_
              simp only [Act.put, lzA, lzB, lzC]
              refine wt_putVa (o := ⟨_, _, _, _, _, _⟩) rfl _ _ rfl _ rfl ((2, 0, (S.strs.getD 0 ⟨#[]⟩))) rfl G2 rfl (fun v4 X kg => ?_)
              simp only [Act.put, lzA, lzB, lzC]
              replace D := gr_new D ge_g2 kg
              replace HE := Env.gr HE kg six_g2
              replace G1 := heap_gr G1 kg n_g1_g2
              clear kg
              replace G2 : v4.heap[g2]? = some (.cells #[.int .i64 2, .int .i64 0, .string (S.strs.getD 0 ⟨#[]⟩)] 48 (0, 0)) := X
              clear X
              refine wl_yield (o := ⟨_, _, _, _, _, _⟩) (.bool true) (yl_assign (by rfl) _ rfl _ rfl) ?_
              simp only [Act.put, lzA, lzB, lzC]
              refine wpList_nil ?_
              refine hK8 _ _ ?_
              clear hK8 K8
              refine wp_ret ?_
              try simp only [Exit.inBlock, Exit.then]
              refine bodyPost_ret (results_cs rfl _ _ g2 _ (.bool true) rfl rfl (run_loadVar_row _ _ _ _ _ _ _ G2 Tryz.underlying48 rfl (by rw [infoV]; rfl))) rfl ?_
              have e : sampleV S = some (2, 0, (S.strs.getD 0 ⟨#[]⟩)) := by
                unfold sampleV
                rw [if_pos hr, if_neg (by rw [hc3]; decide), if_neg (by have := of_decide_eq_false hc5; omega), if_neg (by rw [hc7]; decide), if_pos h0]
                all_goals rfl
              rw [e]
              exact ⟨rfl, below_none D⟩
            · have hc9 := hc
              clear hc
              refine wp_skip ?_
              refine hK2 _ _ ?_
              clear hK2 K2
              refine wp_seq_k (fun K8 hK8 => ?_)
              refine wp_region_lit ?_
              refine wl_yield (o := ⟨_, _, _, _, _, _⟩) (vVal ((0, 0, ⟨#[]⟩) : Va)) (yq_bV0 (by rfl) rfl) ?_
              simp only [Act.put, lzA, lzB, lzC]
              refine wt_putVa (o := ⟨_, _, _, _, _, _⟩) rfl _ _ rfl _ rfl (((0, 0, ⟨#[]⟩) : Va)) rfl G2 rfl (fun v4 X kg => ?_)
              simp only [Act.put, lzA, lzB, lzC]
              replace D := gr_new D ge_g2 kg
              replace HE := Env.gr HE kg six_g2
              replace G1 := heap_gr G1 kg n_g1_g2
              clear kg
              replace G2 : v4.heap[g2]? = some (.cells #[.int .i64 (((0, 0, ⟨#[]⟩) : Va).1), .int .i64 (((0, 0, ⟨#[]⟩) : Va).2.1), .string ((0, 0, ⟨#[]⟩) : Va).2.2] 48 (0, 0)) := X
              clear X
              refine wl_yield (o := ⟨_, _, _, _, _, _⟩) (.bool false) (yl_assign (by rfl) _ rfl _ rfl) ?_
              simp only [Act.put, lzA, lzB, lzC]
              refine wpList_nil ?_
              refine hK8 _ _ ?_
              clear hK8 K8
              refine wp_ret ?_
              try simp only [Exit.inBlock, Exit.then]
              refine bodyPost_ret (results_cs rfl _ _ g2 _ (.bool false) rfl rfl (run_loadVar_row _ _ _ _ _ _ _ G2 Tryz.underlying48 rfl (by rw [infoV]; rfl))) rfl ?_
              have e : sampleV S = none := by
                unfold sampleV
                rw [if_pos hr, if_neg (by rw [hc3]; decide), if_neg (by have := of_decide_eq_false hc5; omega), if_neg (by rw [hc7]; decide), if_neg (by have := of_decide_eq_false hc9; omega)]
                all_goals rfl
              rw [e]
              exact ⟨rfl, below_none D⟩
end Go.Proofs.YtjbgjdjmejhejaaGreatDoor
namespace Go.Proofs.YtjbgjdjmejhejaaGreatDoor
open Go.RowKit
set_option maxHeartbeats 4000000 in
set_option maxRecDepth 100000 in
theorem whichFn_any (v : Value) (S : SetV) (p : Va) (gv : Nat) (w : World) (hv : SetAt w v S) (HV : w.heap[gv]? = some (vObj p)) (hf : Fit S) (hs : p.2.2.size ≤ maxLen) :
    Calls Tryz.prog 70 #[v, .pointer (some ⟨gv, 0, none⟩)] w fun r w' => r = .returned (.bool (hasP S p)) ∧ Below w.heap.size w w' := by
  obtain ⟨ai, ci, az, cz, rfl, hI, hT⟩ := sc_open hv
  have D : w.grownBy w none := grown_refl _ _
  unfold vObj at HV
  go_enter Tryz.func70, Tryz.ntmps70
  refine wp_seq_k (fun K1 hK1 => ?_)
  refine wp_region_lit ?_
  refine wt_boxSt (o := ⟨_, _, _, _, _, _⟩) (by rfl) _ rfl (⟨S.absent, ai, S.ints.length, ci, S.co, az, S.strs.length, cz⟩) rfl (fun v1 g1 hg G1 kb => ?_)
  simp only [Act.put, lzA, lzB, lzC]
  have n_gv_g1 : gv ≠ g1 := by have := lt_heap HV; omega
  have ge_g1 : w.heap.size ≤ g1 := Nat.le_trans D.size hg
  clear hg
  replace D := grown_below D kb
  replace HV := heap_on HV kb
  clear kb
  replace G1 : v1.heap[g1]? = some (.cells #[.bool (S.absent), .slice ai S.ints.length ci, .bool (S.co), .slice az S.strs.length cz] 26 (0, 0)) := G1
  refine wl_yield (o := ⟨_, _, _, _, _, _⟩) (.bool false) (yl_assign (by rfl) _ rfl _ rfl) ?_
  simp only [Act.put, lzA, lzB, lzC]
  refine wpList_nil ?_
  refine hK1 _ _ ?_
  clear hK1 K1
  refine wp_seq_k (fun K2 hK2 => ?_)
  refine wp_region_lit ?_
  refine wl_yield (o := ⟨_, _, _, _, _, _⟩) (.agg #[.bool (S.absent), .slice ai S.ints.length ci, .bool (S.co), .slice az S.strs.length cz]) (yl_set (by rfl) _ rfl _ 0 rfl _ _ _ _ (fun _ h => by subst h; exact ⟨cell_heap G1 0, cell_heap G1 1, cell_heap G1 2, cell_heap G1 3⟩)) ?_
  simp only [Act.put, lzA, lzB, lzC]
  refine wl_yield (o := ⟨_, _, _, _, _, _⟩) (vVal p) (yl_val (by rfl) _ rfl _ 0 rfl _ _ _ (fun _ h => by subst h; exact ⟨cell_heap HV 0, cell_heap HV 1, cell_heap HV 2⟩)) ?_
  simp only [Act.put, lzA, lzB, lzC]
  refine wt_call (o := ⟨_, _, _, _, _, _⟩) (by rfl) 65 _ _ rfl #[.agg #[.bool (S.absent), .slice ai S.ints.length ci, .bool (S.co), .slice az S.strs.length cz], vVal p] rfl (run_call Tryz.func65 (by kernel_rfl) (by kernel_rfl)) ?_
  refine (cellHas_any _ S p _ (show SetAt _ (SC.val ⟨S.absent, ai, S.ints.length, ci, S.co, az, S.strs.length, cz⟩) S from ⟨_, _, rfl, hI.on (below_none D), hT.on (below_none D)⟩) hf hs).mono ?_
  rintro r v2 ⟨rfl, kb⟩
  replace D := grown_below D kb
  replace HV := heap_on HV kb
  replace G1 := heap_on G1 kb
  clear kb
  refine Or.inl ⟨.bool ((hasP S p)), rfl, ?_⟩
  simp only [Act.put, lzA, lzB, lzC]
  refine wl_yield (o := ⟨_, _, _, _, _, _⟩) (.bool ((hasP S p))) (yl_assign (by rfl) _ rfl _ rfl) ?_
  simp only [Act.put, lzA, lzB, lzC]
  refine wpList_nil ?_
  refine hK2 _ _ ?_
  clear hK2 K2
  refine wp_ret ?_
  try simp only [Exit.inBlock, Exit.then]
  go_ret
  exact ⟨rfl, below_none D⟩
set_option maxHeartbeats 4000000 in
set_option maxRecDepth 100000 in
theorem indexFunc_any (v : Value) (l : List SetV) (p : Va) (gv : Nat) (w : World) (hv : SetsAt w v l) (hfit : ∀ S ∈ l, Fit S) (HV : w.heap[gv]? = some (vObj p)) (hs : p.2.2.size ≤ maxLen) :
    Calls Tryz.prog 69 #[v, .func (.func 70) #[] #[.pointer (some ⟨gv, 0, none⟩)]] w fun r w' => r = .returned (.int .i64 (whichI l p)) ∧ Below w.heap.size w w' := by
  obtain ⟨a, cap, rfl, -⟩ := hv.2
  have hl64 := hv.1
  have D : w.grownBy w none := grown_refl _ _
  unfold vObj at HV
  go_enter Tryz.func69, Tryz.ntmps69
  refine wp_seq_k (fun K1 hK1 => ?_)
  refine wp_region_lit ?_
  refine wl_yield (o := ⟨_, _, _, _, _, _⟩) (.int .i64 0) (yl_assign (by rfl) _ rfl _ rfl) ?_
  simp only [Act.put, lzA, lzB, lzC]
  refine wpList_nil ?_
  refine hK1 _ _ ?_
  clear hK1 K1
  refine wp_seq_k (fun K2 hK2 => ?_)
  refine wp_seq_k (fun K3 hK3 => ?_)
  refine wp_region_lit ?_
  refine wl_yield (o := ⟨_, _, _, _, _, _⟩) (.slice a l.length cap) (yl_move (by rfl) _ rfl _ rfl) ?_
  simp only [Act.put, lzA, lzB, lzC]
  refine wl_yield (o := ⟨_, _, _, _, _, _⟩) (.int .i64 (l.length : Nat)) (yt_lenQ (by rfl) _ rfl a l.length cap rfl) ?_
  simp only [Act.put, lzA, lzB, lzC]
  refine wl_yield (o := ⟨_, _, _, _, _, _⟩) (.int .i64 0) (yl_move (by rfl) _ rfl _ rfl) ?_
  simp only [Act.put, lzA, lzB, lzC]
  refine wpList_nil ?_
  refine hK3 _ _ ?_
  clear hK3 K3
  refine wp_block ?_
  go_loopw [8] (fun i wr => ∃ (k : Nat), i = .int .i64 ((k : Nat) : Int) ∧ k ≤ l.length ∧ (∀ j, j < k → hasP (l.getD j noSet) p = false) ∧ wr.heap[gv]? = some (.cells #[.int .i64 (p.1), .int .i64 (p.2.1), .string p.2.2] 48 (0, 0)) ∧ w.grownBy wr none) (fun i _ => l.length - (intOf i).toNat)
  case atStart => exact ⟨0, rfl, Nat.zero_le _, fun j hj => absurd hj (Nat.not_lt_zero _), HV, D⟩
  case round =>
    clear D HV
    obtain ⟨k, rfl, hk, hno, HV, D⟩ := hrel
    by_cases hlt : k < l.length
    · obtain ⟨gI, oI, vi, vs, rfl, hg1, C0, C1, C2, C3, hI, hT⟩ := hv.at.2 k hlt
      have cellD := fun (W : World) (D : w.grownBy W none) (j : Nat) => (below_none D).cell (p := ⟨gI, j, none⟩) hg1
      obtain ⟨ai, ci, rfl⟩ := hI.form
      obtain ⟨az, cz, rfl⟩ := hT.form
      have hf := hfit _ (gD_mem (d := noSet) hlt)
      refine wp_seq_k (fun K4 hK4 => ?_)
      refine wp_region_lit ?_
      refine wl_yield (o := ⟨_, _, _, _, _, _⟩) (.bool true) (yt_lssI (by rfl) _ _ _ rfl ((k : Nat) : Int) ((l.length : Nat) : Int) true rfl rfl (decide_eq_true (by omega))) ?_
      simp only [Act.put, lzA, lzB, lzC]
      refine wpList_nil ?_
      refine hK4 _ _ ?_
      clear hK4 K4
      refine wp_seq_k (fun K5 hK5 => ?_)
      refine wp_cond_true rfl ?_
      refine wp_skip ?_
      refine hK5 _ _ ?_
      clear hK5 K5
      refine wp_seq_k (fun K6 hK6 => ?_)
      refine wp_block ?_
      refine wp_seq_k (fun K7 hK7 => ?_)
      refine wp_region_lit ?_
      refine wl_yield (o := ⟨_, _, _, _, _, _⟩) (.int .i64 (k : Nat)) (yl_move (by rfl) _ rfl _ rfl) ?_
      simp only [Act.put, lzA, lzB, lzC]
      refine wl_yield (o := ⟨_, _, _, _, _, _⟩) (.int .i64 (k : Nat)) (yl_assign (by rfl) _ rfl _ rfl) ?_
      simp only [Act.put, lzA, lzB, lzC]
      refine wpList_nil ?_
      refine hK7 _ _ ?_
      clear hK7 K7
      refine wp_seq_k (fun K8 hK8 => ?_)
      refine wp_region_lit ?_
      refine wl_yield (o := ⟨_, _, _, _, _, _⟩) (.func (.func 70) #[] #[.pointer (some ⟨gv, 0, none⟩)]) (yl_move (by rfl) _ rfl _ rfl) ?_
      simp only [Act.put, lzA, lzB, lzC]
      refine wl_yield (o := ⟨_, _, _, _, _, _⟩) (.slice (some ⟨gI, oI, none⟩) l.length cap) (yl_move (by rfl) _ rfl _ rfl) ?_
      simp only [Act.put, lzA, lzB, lzC]
      refine wl_yield (o := ⟨_, _, _, _, _, _⟩) (.int .i64 (k : Nat)) (yl_move (by rfl) _ rfl _ rfl) ?_
      simp only [Act.put, lzA, lzB, lzC]
      refine wl_yield (o := ⟨_, _, _, _, _, _⟩) (.pointer (some ⟨gI, oI + k * 4, none⟩)) (yt_atQ (by rfl) _ _ rfl gI oI _ _ k rfl rfl (hlt)) ?_
      simp only [Act.put, lzA, lzB, lzC]
      refine wl_yield (o := ⟨_, _, _, _, _, _⟩) (.agg #[.bool ((l.getD k noSet).absent), .slice ai (l.getD k noSet).ints.length ci, .bool ((l.getD k noSet).co), .slice az (l.getD k noSet).strs.length cz]) (yl_set (by rfl) _ rfl _ _ rfl _ _ _ _ (fun _ h => by subst h; exact ⟨(cellD _ D _).trans C0, (cellD _ D _).trans C1, (cellD _ D _).trans C2, (cellD _ D _).trans C3⟩)) ?_
      simp only [Act.put, lzA, lzB, lzC]
      refine wt_callv (o := ⟨_, _, _, _, _, _⟩) (by rfl) 70 _ _ _ rfl #[.pointer (some ⟨gv, 0, none⟩)] rfl #[.agg #[.bool ((l.getD k noSet).absent), .slice ai (l.getD k noSet).ints.length ci, .bool ((l.getD k noSet).co), .slice az (l.getD k noSet).strs.length cz]] rfl (run_call Tryz.func70 (by kernel_rfl) (by kernel_rfl)) ?_
      refine (whichFn_any _ (l.getD k noSet) p gv _ (show SetAt _ (SC.val ⟨(l.getD k noSet).absent, ai, (l.getD k noSet).ints.length, ci, (l.getD k noSet).co, az, (l.getD k noSet).strs.length, cz⟩) _ from ⟨_, _, rfl, hI.on (below_none D), hT.on (below_none D)⟩) HV hf hs).mono ?_
      rintro r v1 ⟨rfl, kb⟩
      replace D := grown_below D kb
      replace HV := heap_on HV kb
      clear kb
      refine Or.inl ⟨.bool ((hasP (l.getD k noSet) p)), rfl, ?_⟩
      simp only [Act.put, lzA, lzB, lzC]
      refine wpList_nil ?_
      refine hK8 _ _ ?_
      clear hK8 K8
      refine wp_cond_split (t := (hasP (l.getD k noSet) p)) rfl (fun hc => ?_) (fun hc => ?_)
      · refine wp_seq_k (fun K9 hK9 => ?_)
        refine wp_region_lit ?_
        refine wl_yield (o := ⟨_, _, _, _, _, _⟩) (.int .i64 (k : Nat)) (yl_move (by rfl) _ rfl _ rfl) ?_
        simp only [Act.put, lzA, lzB, lzC]
        refine wl_yield (o := ⟨_, _, _, _, _, _⟩) (.int .i64 (k : Nat)) (yl_assign (by rfl) _ rfl _ rfl) ?_
        simp only [Act.put, lzA, lzB, lzC]
        refine wpList_nil ?_
        refine hK9 _ _ ?_
        clear hK9 K9
        refine wp_ret ?_
        try simp only [Exit.inBlock, Exit.then]
        go_ret
        exact ⟨ret_int (which_uniq hlt hc hno).symm, below_none D⟩
      · refine wp_skip ?_
        refine hK6 _ _ ?_
        clear hK6 K6
        refine wp_region_lit ?_
        refine wl_yield (o := ⟨_, _, _, _, _, _⟩) (.int .i64 (k + 1 : Nat)) (yt_addI (by rfl) _ _ _ rfl ((k : Nat) : Int) 1 ((k + 1 : Nat) : Int) rfl rfl (by omega) (by omega) (by omega)) ?_
        simp only [Act.put, lzA, lzB, lzC]
        refine wl_yield (o := ⟨_, _, _, _, _, _⟩) (.int .i64 (k + 1 : Nat)) (yl_move (by rfl) _ rfl _ rfl) ?_
        simp only [Act.put, lzA, lzB, lzC]
        refine wpList_nil ?_
        show _ ∧ _
        go_roundw
        case rel => exact ⟨k + 1, rfl, by omega, fun j hj => by
            by_cases e : j = k
            · subst e; exact hc
            · exact hno j (by omega), HV, D⟩
        case measure => simp [intOf]; omega
    · obtain rfl : k = l.length := by omega
      refine wp_seq_k (fun K4 hK4 => ?_)
      refine wp_region_lit ?_
      refine wl_yield (o := ⟨_, _, _, _, _, _⟩) (.bool false) (yt_lssI (by rfl) _ _ _ rfl ((l.length : Nat) : Int) ((l.length : Nat) : Int) false rfl rfl (decide_eq_false (by omega))) ?_
      simp only [Act.put, lzA, lzB, lzC]
      refine wpList_nil ?_
      refine hK4 _ _ ?_
      clear hK4 K4
      refine wp_seq_k (fun K5 hK5 => ?_)
      refine wp_cond_false rfl ?_
      refine wp_exit ?_
      refine hK2 _ _ ?_
      clear hK5 K5 hK2 K2
      refine wp_seq_k (fun K6 hK6 => ?_)
      refine wp_region_lit ?_
      refine wl_yield (o := ⟨_, _, _, _, _, _⟩) (.int .i64 (-1)) (yl_assign (by rfl) _ rfl _ rfl) ?_
      simp only [Act.put, lzA, lzB, lzC]
      refine wpList_nil ?_
      refine hK6 _ _ ?_
      clear hK6 K6
      refine wp_ret ?_
      try simp only [Exit.inBlock, Exit.then]
      go_ret
      exact ⟨ret_int (which_none hno).symm, below_none D⟩
set_option maxHeartbeats 4000000 in
set_option maxRecDepth 100000 in
theorem which_any (v : Value) (l : List SetV) (p : Va) (w : World) (hv : SetsAt w v l) (hfit : ∀ S ∈ l, Fit S) (hs : p.2.2.size ≤ maxLen) :
    Calls Tryz.prog 27 #[v, vVal p] w fun r w' => r = .returned (.int .i64 (whichI l p)) ∧ Below w.heap.size w w' := by
  have D : w.grownBy w none := grown_refl _ _
  go_enter Tryz.func27, Tryz.ntmps27
  refine wp_seq_k (fun K1 hK1 => ?_)
  refine wp_region_lit ?_
  refine wt_boxVa (o := ⟨_, _, _, _, _, _⟩) (by rfl) _ rfl (p) rfl (fun v1 g1 hg G1 kb => ?_)
  simp only [Act.put, lzA, lzB, lzC]
  have ge_g1 : w.heap.size ≤ g1 := Nat.le_trans D.size hg
  clear hg
  replace D := grown_below D kb
  clear kb
  replace G1 : v1.heap[g1]? = some (.cells #[.int .i64 (p.1), .int .i64 (p.2.1), .string p.2.2] 48 (0, 0)) := G1
  refine wl_yield (o := ⟨_, _, _, _, _, _⟩) (.int .i64 0) (yl_assign (by rfl) _ rfl _ rfl) ?_
  simp only [Act.put, lzA, lzB, lzC]
  refine wpList_nil ?_
  refine hK1 _ _ ?_
  clear hK1 K1
  refine wp_seq_k (fun K2 hK2 => ?_)
  refine wp_region_lit ?_
  refine wl_yield (o := ⟨_, _, _, _, _, _⟩) (v) (yl_move (by rfl) _ rfl _ rfl) ?_
  simp only [Act.put, lzA, lzB, lzC]
  refine wl_yield (o := ⟨_, _, _, _, _, _⟩) (.func (.func 70) #[] #[.pointer (some ⟨g1, 0, none⟩)]) (yt_fn1 (by rfl) _ _ rfl _ rfl) ?_
  simp only [Act.put, lzA, lzB, lzC]
  refine wt_call (o := ⟨_, _, _, _, _, _⟩) (by rfl) 69 _ _ rfl #[v, .func (.func 70) #[] #[.pointer (some ⟨g1, 0, none⟩)]] rfl (run_call Tryz.func69 (by kernel_rfl) (by kernel_rfl)) ?_
  refine (indexFunc_any _ l p _ _ (hv.on (below_none D)) hfit G1 hs).mono ?_
  rintro r v2 ⟨rfl, kb⟩
  replace D := grown_below D kb
  replace G1 := heap_on G1 kb
  clear kb
  refine Or.inl ⟨.int .i64 ((whichI l p)), rfl, ?_⟩
  simp only [Act.put, lzA, lzB, lzC]
  refine wl_yield (o := ⟨_, _, _, _, _, _⟩) (.int .i64 ((whichI l p))) (yl_assign (by rfl) _ rfl _ rfl) ?_
  simp only [Act.put, lzA, lzB, lzC]
  refine wpList_nil ?_
  refine hK2 _ _ ?_
  clear hK2 K2
  refine wp_ret ?_
  try simp only [Exit.inBlock, Exit.then]
  go_ret
  exact ⟨rfl, below_none D⟩
end Go.Proofs.YtjbgjdjmejhejaaGreatDoor
namespace Go.Proofs.YtjbgjdjmejhejaaGreatDoor
open Go.RowKit
set_option maxHeartbeats 4000000 in
set_option maxRecDepth 100000 in
theorem lays_any (b gp m : Nat) (s c : Nat → Sl) (l : Nat → List SetV) (w : World) (G : GridIn w b 0 1 s c) (HP : w.heap[gp]? = some (.cells #[.pointer (some ⟨b, 0, none⟩)] 59 (0, 0))) (n_gp_b : gp ≠ b) (HS : ∀ j, j < 4 → SetsAt w (s j).val (l j)) (hf : ∀ j, j < 4 → FewC (l j)) (hbm : b < m) (hm : m ≤ w.heap.size) :
    Calls Tryz.prog 126 #[.pointer (some ⟨gp, 0, none⟩)] w fun r w' => r = .returned (.tuple #[]) ∧ (∃ c', GridIn w' b 0 1 (fun _ => sl0) c' ∧ (∀ j, j < 4 → CutAt m w' (c' j).val (l j)) ∧ w.grownBy w' (some b)) := by
  have D : w.grownBy w (some b) := grown_refl _ _
  go_enter Tryz.func126, Tryz.ntmps126
  refine wp_seq_k (fun K1 hK1 => ?_)
  refine wp_seq_k (fun K2 hK2 => ?_)
  refine wp_region_lit ?_
  refine wl_yield (o := ⟨_, _, _, _, _, _⟩) (.pointer (some ⟨b, 0, none⟩)) (yq_ldPg (by rfl) _ rfl _ 0 rfl (some ⟨b, 0, none⟩) (fun _ h => by subst h; exact cell_heap HP 0)) ?_
  simp only [Act.put, lzA, lzB, lzC]
  refine wl_yield (o := ⟨_, _, _, _, _, _⟩) (.pointer (some ⟨b, 0, none⟩)) (yt_nil (by rfl) _ rfl _ rfl) ?_
  simp only [Act.put, lzA, lzB, lzC]
  refine wl_yield (o := ⟨_, _, _, _, _, _⟩) (.pointer (some ⟨b, 3, none⟩)) (yq_fG 1 (by decide) (by rfl) _ rfl b rfl) ?_
  simp only [Act.put, lzA, lzB, lzC]
  refine wl_yield (o := ⟨_, _, _, _, _, _⟩) (.agg #[(s 0).val, (s 1).val, (s 2).val, (s 3).val]) (yq_ld4 (by rfl) _ rfl _ 3 rfl _ _ _ _ (fun _ h => by subst h; exact ⟨cell_heap G 3, cell_heap G 4, cell_heap G 5, cell_heap G 6⟩)) ?_
  simp only [Act.put, lzA, lzB, lzC]
  refine wl_yield (o := ⟨_, _, _, _, _, _⟩) (.int .i64 0) (yl_move (by rfl) _ rfl _ rfl) ?_
  simp only [Act.put, lzA, lzB, lzC]
  refine wpList_nil ?_
  refine hK2 _ _ ?_
  clear hK2 K2
  refine wp_block ?_
  go_loopw [7] (fun i wr => ∃ (k : Nat) (c : Nat → Sl), i = .int .i64 ((k : Nat) : Int) ∧ k ≤ 4 ∧ GridIn wr b 0 1 s c ∧ (∀ j, j < k → CutAt m wr (c j).val (l j)) ∧ (∀ j, j < 4 → SetsAt wr (s j).val (l j)) ∧ wr.heap[gp]? = some (.cells #[.pointer (some ⟨b, 0, none⟩)] 59 (0, 0)) ∧ w.grownBy wr (some b)) (fun i _ => 4 - (intOf i).toNat)
  case atStart => exact ⟨0, c, rfl, Nat.zero_le _, G, fun j hj => absurd hj (Nat.not_lt_zero _), HS, HP, D⟩
  case round =>
    clear D G HS HP
    obtain ⟨k, c, rfl, hk, G, NC, HS, HP, D⟩ := hrel
    by_cases hlt : k < 4
    · refine wp_seq_k (fun K3 hK3 => ?_)
      refine wp_region_lit ?_
      refine wl_yield (o := ⟨_, _, _, _, _, _⟩) (.bool true) (yt_lssI (by rfl) _ _ _ rfl ((k : Nat) : Int) 4 true rfl rfl (decide_eq_true (by omega))) ?_
      simp only [Act.put, lzA, lzB, lzC]
      refine wpList_nil ?_
      refine hK3 _ _ ?_
      clear hK3 K3
      refine wp_seq_k (fun K4 hK4 => ?_)
      refine wp_cond_true rfl ?_
      refine wp_skip ?_
      refine hK4 _ _ ?_
      clear hK4 K4
      refine wp_seq_k (fun K5 hK5 => ?_)
      refine wp_block ?_
      refine wp_seq_k (fun K6 hK6 => ?_)
      refine wp_region_lit ?_
      refine wl_yield (o := ⟨_, _, _, _, _, _⟩) (.int .i64 (k : Nat)) (yl_move (by rfl) _ rfl _ rfl) ?_
      simp only [Act.put, lzA, lzB, lzC]
      refine wl_yield (o := ⟨_, _, _, _, _, _⟩) (Sl.val (s k)) (yq_ix4 (by rfl) _ _ rfl s k hlt rfl rfl) ?_
      simp only [Act.put, lzA, lzB, lzC]
      refine wl_yield (o := ⟨_, _, _, _, _, _⟩) (.int .i64 (k : Nat)) (yl_assign (by rfl) _ rfl _ rfl) ?_
      simp only [Act.put, lzA, lzB, lzC]
      refine wl_yield (o := ⟨_, _, _, _, _, _⟩) (Sl.val (s k)) (yl_assign (by rfl) _ rfl _ rfl) ?_
      simp only [Act.put, lzA, lzB, lzC]
      refine wpList_nil ?_
      refine hK6 _ _ ?_
      clear hK6 K6
      refine wp_region_late (S := fun w' => w'.heap[gp]? = some (.cells #[.pointer (some ⟨b, 0, none⟩)] 59 (0, 0))) (late := fun j => [7].contains j) (by kernel_rfl) ?_
      have kb : Below wr.heap.size wr wr.drew := (Below.refl _ wr).drew
      replace D := grown_below D kb
      replace HP := heap_on HP kb
      replace HS := fun j hj => (HS j hj).on kb
      replace G := G.on kb
      replace NC := fun j hj => (NC j hj).on kb
      clear kb
      generalize wr.drew = v1 at D HP HS G NC ⊢
      refine wpAnyL_load (i := 0) (oi := ⟨_, _, _, _, _, _⟩) (v := .pointer (some ⟨b, 0, none⟩)) rfl (by kernel_rfl) (by kernel_rfl) (by kernel_rfl) (by kernel_rfl) (fun _ _ _ h => h) (yq_ldPg (by rfl) _ rfl _ 0 rfl (some ⟨b, 0, none⟩) (fun _ h => cell_heap h 0)) HP ?_
      simp only [Act.put, lzA, lzB, lzC]
      refine wpAnyL_pure (i := 1) (oi := ⟨_, _, _, _, _, _⟩) (v := .int .i64 (k : Nat)) rfl (by kernel_rfl) (by kernel_rfl) (by kernel_rfl) (fun _ _ _ h => h) (yl_move (by rfl) _ rfl _ rfl) ?_
      simp only [Act.put, lzA, lzB, lzC]
      refine wpAnyL_pure (i := 2) (oi := ⟨_, _, _, _, _, _⟩) (v := Sl.val (s k)) rfl (by kernel_rfl) (by kernel_rfl) (by kernel_rfl) (fun _ _ _ h => h) (yl_move (by rfl) _ rfl _ rfl) ?_
      simp only [Act.put, lzA, lzB, lzC]
      refine wpAnyL_pure (i := 4) (oi := ⟨_, _, _, _, _, _⟩) (v := .pointer (some ⟨b, 0, none⟩)) rfl (by kernel_rfl) (by kernel_rfl) (by kernel_rfl) (fun _ _ _ h => h) (yt_nil (by rfl) _ rfl _ rfl) ?_
      simp only [Act.put, lzA, lzB, lzC]
      refine wpAnyL_pure (i := 5) (oi := ⟨_, _, _, _, _, _⟩) (v := .pointer (some ⟨b, 7, none⟩)) rfl (by kernel_rfl) (by kernel_rfl) (by kernel_rfl) (fun _ _ _ h => h) (yq_fG 2 (by decide) (by rfl) _ rfl b rfl) ?_
      simp only [Act.put, lzA, lzB, lzC]
      refine wpAnyL_all (rs := [3]) (by kernel_rfl) (by simp) ?_
      intro j hj
      have hj := List.mem_singleton.1 hj
      subst hj
      refine ot_call (o := ⟨_, _, _, _, _, _⟩) rfl (by rfl) 18 _ _ rfl #[Sl.val (s k)] rfl (run_call Tryz.func18 (by kernel_rfl) (by kernel_rfl)) ?_
      refine (cut_any _ (l k) _ (HS k hlt) (hf k hlt)).mono ?_
      rintro r v2 (⟨⟨u, rfl, hC⟩, kb⟩)
      have hm1 := Nat.le_trans hm D.size
      replace D := grown_below D kb
      replace HP := heap_on HP kb
      replace HS := fun j hj => (HS j hj).on kb
      replace G := G.on kb
      replace NC := fun j hj => (NC j hj).on kb
      clear kb
      replace hC := CutAt.mono hC hm1
      obtain ⟨uS, rfl, -⟩ := hC.form
      refine Or.inl ⟨Sl.val uS, rfl, ⟨fun _ _ => HP, ?_⟩⟩
      simp only [Act.put, lzA, lzB, lzC]
      refine wpAnyL_pure (i := 6) (oi := ⟨_, _, _, _, _, _⟩) (v := .pointer (some ⟨b, 7 + k, none⟩)) rfl (by kernel_rfl) (by kernel_rfl) (by kernel_rfl) (fun _ _ _ h => h) (yq_at4 (by rfl) _ _ rfl b 7 k rfl rfl hlt) ?_
      simp only [Act.put, lzA, lzB, lzC]
      refine wpAnyL_all (rs := [7]) (by kernel_rfl) (by simp) ?_
      intro j hj
      have hj := List.mem_singleton.1 hj
      subst hj
      refine ot_putGc (o := ⟨_, _, _, _, _, _⟩) rfl (by rfl) _ _ rfl b k hlt rfl uS rfl _ _ _ _ G (fun v3 X kg => ?_)
      replace D := grown_trans D kg
      replace HP := heap_gr HP kg n_gp_b
      replace HS := fun j hj => (HS j hj).gr G kg
      replace NC := fun j hj => (NC j hj).kept (kept_lt kg hbm)
      replace hC := hC.kept (kept_lt kg hbm)
      clear kg
      replace G := X
      clear X
      refine ⟨fun h => absurd h (by decide), ?_⟩
      simp only [Act.put, lzA, lzB, lzC]
      refine wpAnyL_done (by kernel_rfl) ?_ _
      refine hK5 _ _ ?_
      clear hK5 K5
      refine wp_region_lit ?_
      refine wl_yield (o := ⟨_, _, _, _, _, _⟩) (.int .i64 (k + 1 : Nat)) (yt_addI (by rfl) _ _ _ rfl ((k : Nat) : Int) 1 ((k + 1 : Nat) : Int) rfl rfl (by omega) (by omega) (by omega)) ?_
      simp only [Act.put, lzA, lzB, lzC]
      refine wl_yield (o := ⟨_, _, _, _, _, _⟩) (.int .i64 (k + 1 : Nat)) (yl_move (by rfl) _ rfl _ rfl) ?_
      simp only [Act.put, lzA, lzB, lzC]
      refine wpList_nil ?_
      show _ ∧ _
      go_roundw
      case rel => exact ⟨k + 1, fun j => if j = k then uS else c j, rfl, by omega, G, fun j hj => by
          by_cases e : j = k
          · subst e; simp only [if_pos rfl]; exact hC
          · simp only [if_neg e]; exact NC j (by omega), HS, HP, D⟩
      case measure => simp [intOf]; omega
    · obtain rfl : k = 4 := by omega
      refine wp_seq_k (fun K3 hK3 => ?_)
      refine wp_region_lit ?_
      refine wl_yield (o := ⟨_, _, _, _, _, _⟩) (.bool false) (yt_lssI (by rfl) _ _ _ rfl ((4 : Nat) : Int) 4 false rfl rfl (decide_eq_false (by omega))) ?_
      simp only [Act.put, lzA, lzB, lzC]
      refine wpList_nil ?_
      refine hK3 _ _ ?_
      clear hK3 K3
      refine wp_seq_k (fun K4 hK4 => ?_)
      refine wp_cond_false rfl ?_
      refine wp_exit ?_
      refine hK1 _ _ ?_
      clear hK4 K4 hK1 K1
      refine wp_region_lit ?_
      refine wl_yield (o := ⟨_, _, _, _, _, _⟩) (.pointer (some ⟨b, 0, none⟩)) (yq_ldPg (by rfl) _ rfl _ 0 rfl (some ⟨b, 0, none⟩) (fun _ h => by subst h; exact cell_heap HP 0)) ?_
      simp only [Act.put, lzA, lzB, lzC]
      refine wl_yield (o := ⟨_, _, _, _, _, _⟩) (.agg #[((fun _ => sl0) 0).val, ((fun _ => sl0) 1).val, ((fun _ => sl0) 2).val, ((fun _ => sl0) 3).val]) (yq_b4 (by rfl) rfl) ?_
      simp only [Act.put, lzA, lzB, lzC]
      refine wl_yield (o := ⟨_, _, _, _, _, _⟩) (.pointer (some ⟨b, 0, none⟩)) (yt_nil (by rfl) _ rfl _ rfl) ?_
      simp only [Act.put, lzA, lzB, lzC]
      refine wl_yield (o := ⟨_, _, _, _, _, _⟩) (.pointer (some ⟨b, 3, none⟩)) (yq_fG 1 (by decide) (by rfl) _ rfl b rfl) ?_
      simp only [Act.put, lzA, lzB, lzC]
      refine wq_putG4 (o := ⟨_, _, _, _, _, _⟩) (by rfl) _ _ rfl b rfl rfl _ _ _ _ G (fun v1 X kg => ?_)
      simp only [Act.put, lzA, lzB, lzC]
      replace D := grown_trans D kg
      replace HP := heap_gr HP kg n_gp_b
      replace NC := fun j hj => (NC j hj).kept (kept_lt kg hbm)
      clear kg
      replace G := X
      clear X HS
      refine wpList_nil ?_
      go_end0
      exact ⟨rfl, _, G, NC, D⟩
def GridOk (w : World) (b : Nat) (l : Nat → List SetV) : Prop := (∃ s c, GridIn w b 0 0 s c ∧ ∀ j, j < 4 → SetsAt w (s j).val (l j)) ∨ (∃ s c, GridIn w b 1 0 s c ∧ ∀ j, j < 4 → CutAt (b + 1) w (c j).val (l j))
theorem GridOk.on {w w' : World} {b : Nat} {l : Nat → List SetV} (h : GridOk w b l) (hb : Below w.heap.size w w') : GridOk w' b l := by
  rcases h with ⟨s, c, h1, h2⟩ | ⟨s, c, h1, h2⟩
  · exact Or.inl ⟨s, c, h1.on hb, fun j hj => (h2 j hj).on hb⟩
  · exact Or.inr ⟨s, c, h1.on hb, fun j hj => (h2 j hj).on hb⟩
theorem GridOk.lt {w : World} {b : Nat} {l : Nat → List SetV} (h : GridOk w b l) : b < w.heap.size := by
  rcases h with ⟨s, c, h1, h2⟩ | ⟨s, c, h1, h2⟩ <;> exact h1.lt
theorem GridIn.drew {w : World} {b : Nat} {d m : Int} {s c : Nat → Sl} (h : GridIn w b d m s c) : GridIn w.drew b d m s c := h
set_option maxHeartbeats 4000000 in
set_option maxRecDepth 100000 in
theorem laid_first (b : Nat) (s c : Nat → Sl) (l : Nat → List SetV) (w : World) (G : GridIn w b 0 0 s c) (HS : ∀ j, j < 4 → SetsAt w (s j).val (l j)) (hf : ∀ j, j < 4 → FewC (l j)) :
    Calls Tryz.prog 77 #[.pointer (some ⟨b, 0, none⟩)] w fun r w' => (∃ c' : Nat → Sl, r = .returned (.agg #[(c' 0).val, (c' 1).val, (c' 2).val, (c' 3).val]) ∧ GridIn w' b 1 0 (fun _ => sl0) c' ∧ (∀ j, j < 4 → CutAt (b + 1) w' (c' j).val (l j))) ∧ w.grownBy w' (some b) := by
  have D : w.grownBy w (some b) := grown_refl _ _
  go_enter Tryz.func77, Tryz.ntmps77
  refine wp_seq_k (fun K1 hK1 => ?_)
  refine wp_region_lit ?_
  refine wq_boxPg (o := ⟨_, _, _, _, _, _⟩) (by rfl) _ rfl (some ⟨b, 0, none⟩) rfl (fun v1 g1 hg G1 kb => ?_)
  simp only [Act.put, lzA, lzB, lzC]
  have n_g1_b : g1 ≠ b := by have := GridIn.lt G; omega
  have ge_g1 : w.heap.size ≤ g1 := Nat.le_trans D.size hg
  clear hg
  replace D := grown_below D kb
  replace HS := fun j hj => (HS j hj).on kb
  replace G := G.on kb
  clear kb
  refine wq_alloc4 (o := ⟨_, _, _, _, _, _⟩) (by rfl) rfl (fun v2 g2 hg G2 kb => ?_)
  simp only [Act.put, lzA, lzB, lzC]
  have n_g2_b : g2 ≠ b := by have := GridIn.lt G; omega
  have n_g1_g2 : g1 ≠ g2 := by have := lt_heap G1; omega
  have ge_g2 : w.heap.size ≤ g2 := Nat.le_trans D.size hg
  clear hg
  replace D := grown_below D kb
  replace HS := fun j hj => (HS j hj).on kb
  replace G := G.on kb
  replace G1 := heap_on G1 kb
  clear kb
  refine wpList_nil ?_
  refine hK1 _ _ ?_
  clear hK1 K1
  refine wp_seq_k (fun K2 hK2 => ?_)
  refine wp_seq_k (fun K3 hK3 => ?_)
  refine wp_region_lit ?_
  refine wl_yield (o := ⟨_, _, _, _, _, _⟩) (.pointer (some ⟨b, 0, none⟩)) (yq_ldPg (by rfl) _ rfl _ 0 rfl (some ⟨b, 0, none⟩) (fun _ h => by subst h; exact cell_heap G1 0)) ?_
  simp only [Act.put, lzA, lzB, lzC]
  refine wl_yield (o := ⟨_, _, _, _, _, _⟩) (.bool false) (yq_eqPg (by rfl) _ _ _ rfl (some ⟨b, 0, none⟩) rfl rfl) ?_
  simp only [Act.put, lzA, lzB, lzC]
  refine wpList_nil ?_
  refine hK3 _ _ ?_
  clear hK3 K3
  refine wp_cond_false rfl ?_
  refine wp_skip ?_
  refine hK2 _ _ ?_
  clear hK2 K2
  refine wp_seq_k (fun K4 hK4 => ?_)
  refine wp_region_lit ?_
  refine wl_yield (o := ⟨_, _, _, _, _, _⟩) (.pointer (some ⟨b, 0, none⟩)) (yq_ldPg (by rfl) _ rfl _ 0 rfl (some ⟨b, 0, none⟩) (fun _ h => by subst h; exact cell_heap G1 0)) ?_
  simp only [Act.put, lzA, lzB, lzC]
  refine wl_yield (o := ⟨_, _, _, _, _, _⟩) (.pointer (some ⟨b, 0, none⟩)) (yt_nil (by rfl) _ rfl _ rfl) ?_
  simp only [Act.put, lzA, lzB, lzC]
  refine wl_yield (o := ⟨_, _, _, _, _, _⟩) (.pointer (some ⟨b, 0, none⟩)) (yq_fG 0 (by decide) (by rfl) _ rfl b rfl) ?_
  simp only [Act.put, lzA, lzB, lzC]
  refine wl_yield (o := ⟨_, _, _, _, _, _⟩) (.func (.func 126) #[] #[.pointer (some ⟨g1, 0, none⟩)]) (yt_fn1 (by rfl) _ _ rfl _ rfl) ?_
  simp only [Act.put, lzA, lzB, lzC]
  refine wt_call (o := ⟨_, _, _, _, _, _⟩) (by rfl) 125 _ _ rfl #[.pointer (some ⟨b, 0, none⟩), .func (.func 126) #[] #[.pointer (some ⟨g1, 0, none⟩)]] rfl (run_call Tryz.func125 (by kernel_rfl) (by kernel_rfl)) ?_
  refine (do_gen b ⟨g1, 0, none⟩ s c _ _ G (lays_any b g1 v2.heap.size s c l _ (G.put1 1) (heap_gr G1 (grown_put _ b 1 _) n_g1_b) n_g1_b (fun j hj => (HS j hj).gr G (grown_put _ b 1 _)) hf (GridIn.lt G) (by simp)) (fun w' h => ⟨_, _, h.choose_spec.1⟩)).mono ?_
  rintro r v3 (⟨rfl, u9, hR9, hw9⟩)
  · obtain ⟨c', G', NC', kg'⟩ := hR9
    have kg : v2.grownBy v3 (some b) := by rw [hw9]; exact grown_trans (grown_trans (grown_put _ b 1 _) kg') (grown_trans (grown_drew (grown_refl _ _)) (grown_trans (grown_put _ b 0 _) (grown_put _ b 1 _)))
    have G9 : GridIn v3 b 1 0 (fun _ => sl0) c' := by rw [hw9]; exact (G'.drew.put0 1).put1 0
    have hbm := GridIn.lt G
    have NC : ∀ j, j < 4 → CutAt v2.heap.size v3 (c' j).val (l j) := fun j hj => by
      rw [hw9]
      exact (NC' j hj).kept (kept_lt (grown_trans (grown_drew (grown_refl _ _)) (grown_trans (grown_put _ b 0 _) (grown_put _ b 1 _))) hbm)
    have hm2 := lt_heap G2
    clear HS G' NC' kg' hw9
    replace D := grown_trans D kg
    replace G1 := heap_gr G1 kg n_g1_b
    replace G2 := heap_gr G2 kg n_g2_b
    clear kg
    replace G := G9
    clear G9
    refine Or.inl ⟨.tuple #[], rfl, ?_⟩
    simp only [Act.put, lzA, lzB, lzC]
    refine wpList_nil ?_
    refine hK4 _ _ ?_
    clear hK4 K4
    refine wp_seq_k (fun K5 hK5 => ?_)
    refine wp_region_lit ?_
    refine wl_yield (o := ⟨_, _, _, _, _, _⟩) (.pointer (some ⟨b, 0, none⟩)) (yq_ldPg (by rfl) _ rfl _ 0 rfl (some ⟨b, 0, none⟩) (fun _ h => by subst h; exact cell_heap G1 0)) ?_
    simp only [Act.put, lzA, lzB, lzC]
    refine wl_yield (o := ⟨_, _, _, _, _, _⟩) (.pointer (some ⟨b, 0, none⟩)) (yt_nil (by rfl) _ rfl _ rfl) ?_
    simp only [Act.put, lzA, lzB, lzC]
    refine wl_yield (o := ⟨_, _, _, _, _, _⟩) (.pointer (some ⟨b, 7, none⟩)) (yq_fG 2 (by decide) (by rfl) _ rfl b rfl) ?_
    simp only [Act.put, lzA, lzB, lzC]
    refine wl_yield (o := ⟨_, _, _, _, _, _⟩) (.agg #[(c' 0).val, (c' 1).val, (c' 2).val, (c' 3).val]) (yq_ld4 (by rfl) _ rfl _ 7 rfl _ _ _ _ (fun _ h => by subst h; exact ⟨cell_heap G 7, cell_heap G 8, cell_heap G 9, cell_heap G 10⟩)) ?_
    simp only [Act.put, lzA, lzB, lzC]
    refine wq_put4 (o := ⟨_, _, _, _, _, _⟩) (by rfl) _ _ rfl g2 rfl c' rfl G2 (fun v4 X kg => ?_)
    simp only [Act.put, lzA, lzB, lzC]
    replace D := gr_new D ge_g2 kg
    replace G := heap_gr G kg (Ne.symm n_g2_b)
    replace NC := fun j (hj : j < 4) => (NC j hj).kept (kept_lt kg hm2)
    refine wpList_nil ?_
    refine hK5 _ _ ?_
    clear hK5 K5
    refine wp_ret ?_
    try simp only [Exit.inBlock, Exit.then]
    refine bodyPost_ret (results_cell_row rfl _ _ g2 124 _ (0, 0) _ rfl X Tryz.underlying124 rfl infoQ4) rfl ⟨⟨c', rfl, G, fun j hj => (NC j hj).mono hbm⟩, D⟩
set_option maxHeartbeats 4000000 in
set_option maxRecDepth 100000 in
theorem laid_again (b : Nat) (s c : Nat → Sl) (l : Nat → List SetV) (w : World) (G : GridIn w b 1 0 s c) (N0 : ∀ j, j < 4 → CutAt (b + 1) w (c j).val (l j)) :
    Calls Tryz.prog 77 #[.pointer (some ⟨b, 0, none⟩)] w fun r w' => (∃ c' : Nat → Sl, r = .returned (.agg #[(c' 0).val, (c' 1).val, (c' 2).val, (c' 3).val]) ∧ GridIn w' b 1 0 s c' ∧ (∀ j, j < 4 → CutAt (b + 1) w' (c' j).val (l j))) ∧ w.grownBy w' (some b) := by
  have D : w.grownBy w none := grown_refl _ _
  go_enter Tryz.func77, Tryz.ntmps77
  refine wp_seq_k (fun K1 hK1 => ?_)
  refine wp_region_lit ?_
  refine wq_boxPg (o := ⟨_, _, _, _, _, _⟩) (by rfl) _ rfl (some ⟨b, 0, none⟩) rfl (fun v1 g1 hg G1 kb => ?_)
  simp only [Act.put, lzA, lzB, lzC]
  have n_g1_b : g1 ≠ b := by have := GridIn.lt G; omega
  have ge_g1 : w.heap.size ≤ g1 := Nat.le_trans D.size hg
  clear hg
  replace D := grown_below D kb
  replace G := G.on kb
  clear kb
  refine wq_alloc4 (o := ⟨_, _, _, _, _, _⟩) (by rfl) rfl (fun v2 g2 hg G2 kb => ?_)
  simp only [Act.put, lzA, lzB, lzC]
  have n_g2_b : g2 ≠ b := by have := GridIn.lt G; omega
  have n_g1_g2 : g1 ≠ g2 := by have := lt_heap G1; omega
  have ge_g2 : w.heap.size ≤ g2 := Nat.le_trans D.size hg
  clear hg
  replace D := grown_below D kb
  replace G := G.on kb
  replace G1 := heap_on G1 kb
  clear kb
  refine wpList_nil ?_
  refine hK1 _ _ ?_
  clear hK1 K1
  refine wp_seq_k (fun K2 hK2 => ?_)
  refine wp_seq_k (fun K3 hK3 => ?_)
  refine wp_region_lit ?_
  refine wl_yield (o := ⟨_, _, _, _, _, _⟩) (.pointer (some ⟨b, 0, none⟩)) (yq_ldPg (by rfl) _ rfl _ 0 rfl (some ⟨b, 0, none⟩) (fun _ h => by subst h; exact cell_heap G1 0)) ?_
  simp only [Act.put, lzA, lzB, lzC]
  refine wl_yield (o := ⟨_, _, _, _, _, _⟩) (.bool false) (yq_eqPg (by rfl) _ _ _ rfl (some ⟨b, 0, none⟩) rfl rfl) ?_
  simp only [Act.put, lzA, lzB, lzC]
  refine wpList_nil ?_
  refine hK3 _ _ ?_
  clear hK3 K3
  refine wp_cond_false rfl ?_
  refine wp_skip ?_
  refine hK2 _ _ ?_
  clear hK2 K2
  refine wp_seq_k (fun K4 hK4 => ?_)
  refine wp_region_lit ?_
  refine wl_yield (o := ⟨_, _, _, _, _, _⟩) (.pointer (some ⟨b, 0, none⟩)) (yq_ldPg (by rfl) _ rfl _ 0 rfl (some ⟨b, 0, none⟩) (fun _ h => by subst h; exact cell_heap G1 0)) ?_
  simp only [Act.put, lzA, lzB, lzC]
  refine wl_yield (o := ⟨_, _, _, _, _, _⟩) (.pointer (some ⟨b, 0, none⟩)) (yt_nil (by rfl) _ rfl _ rfl) ?_
  simp only [Act.put, lzA, lzB, lzC]
  refine wl_yield (o := ⟨_, _, _, _, _, _⟩) (.pointer (some ⟨b, 0, none⟩)) (yq_fG 0 (by decide) (by rfl) _ rfl b rfl) ?_
  simp only [Act.put, lzA, lzB, lzC]
  refine wl_yield (o := ⟨_, _, _, _, _, _⟩) (.func (.func 126) #[] #[.pointer (some ⟨g1, 0, none⟩)]) (yt_fn1 (by rfl) _ _ rfl _ rfl) ?_
  simp only [Act.put, lzA, lzB, lzC]
  refine wt_call (o := ⟨_, _, _, _, _, _⟩) (by rfl) 125 _ _ rfl #[.pointer (some ⟨b, 0, none⟩), .func (.func 126) #[] #[.pointer (some ⟨g1, 0, none⟩)]] rfl (run_call Tryz.func125 (by kernel_rfl) (by kernel_rfl)) ?_
  refine (do_done ⟨b, 0, none⟩ _ _ (GridIn.c0 G)).mono ?_
  rintro r v3 (⟨rfl, e9⟩)
  · subst e9
    refine Or.inl ⟨.tuple #[], rfl, ?_⟩
    simp only [Act.put, lzA, lzB, lzC]
    refine wpList_nil ?_
    refine hK4 _ _ ?_
    clear hK4 K4
    refine wp_seq_k (fun K5 hK5 => ?_)
    refine wp_region_lit ?_
    refine wl_yield (o := ⟨_, _, _, _, _, _⟩) (.pointer (some ⟨b, 0, none⟩)) (yq_ldPg (by rfl) _ rfl _ 0 rfl (some ⟨b, 0, none⟩) (fun _ h => by subst h; exact cell_heap G1 0)) ?_
    simp only [Act.put, lzA, lzB, lzC]
    refine wl_yield (o := ⟨_, _, _, _, _, _⟩) (.pointer (some ⟨b, 0, none⟩)) (yt_nil (by rfl) _ rfl _ rfl) ?_
    simp only [Act.put, lzA, lzB, lzC]
    refine wl_yield (o := ⟨_, _, _, _, _, _⟩) (.pointer (some ⟨b, 7, none⟩)) (yq_fG 2 (by decide) (by rfl) _ rfl b rfl) ?_
    simp only [Act.put, lzA, lzB, lzC]
    refine wl_yield (o := ⟨_, _, _, _, _, _⟩) (.agg #[(c 0).val, (c 1).val, (c 2).val, (c 3).val]) (yq_ld4 (by rfl) _ rfl _ 7 rfl _ _ _ _ (fun _ h => by subst h; exact ⟨cell_heap G 7, cell_heap G 8, cell_heap G 9, cell_heap G 10⟩)) ?_
    simp only [Act.put, lzA, lzB, lzC]
    refine wq_put4 (o := ⟨_, _, _, _, _, _⟩) (by rfl) _ _ rfl g2 rfl c rfl G2 (fun v4 X kg => ?_)
    simp only [Act.put, lzA, lzB, lzC]
    replace D := gr_new D ge_g2 kg
    replace G := heap_gr G kg (Ne.symm n_g2_b)
    refine wpList_nil ?_
    refine hK5 _ _ ?_
    clear hK5 K5
    refine wp_ret ?_
    try simp only [Exit.inBlock, Exit.then]
    refine bodyPost_ret (results_cell_row rfl _ _ g2 124 _ (0, 0) _ rfl X Tryz.underlying124 rfl infoQ4) rfl ⟨⟨c, rfl, G, fun j hj => (N0 j hj).on (below_none D)⟩, grown_below (grown_refl _ _) (below_none D)⟩
theorem laid_any (b : Nat) (l : Nat → List SetV) (w : World) (H : GridOk w b l) (hf : ∀ j, j < 4 → FewC (l j)) :
    Calls Tryz.prog 77 #[.pointer (some ⟨b, 0, none⟩)] w fun r w' => (∃ c' : Nat → Sl, r = .returned (.agg #[(c' 0).val, (c' 1).val, (c' 2).val, (c' 3).val]) ∧ (∀ j, j < 4 → CutAt (b + 1) w' (c' j).val (l j)) ∧ GridOk w' b l) ∧ w.grownBy w' (some b) := by
  rcases H with ⟨s, c, G, HS⟩ | ⟨s, c, G, NC⟩
  · refine (laid_first b s c l w G HS hf).mono ?_
    rintro r w' ⟨⟨c', h1, h2, h3⟩, h4⟩
    exact ⟨⟨c', h1, h3, Or.inr ⟨_, c', h2, h3⟩⟩, h4⟩
  · refine (laid_again b s c l w G NC).mono ?_
    rintro r w' ⟨⟨c', h1, h2, h3⟩, h4⟩
    exact ⟨⟨c', h1, h3, Or.inr ⟨_, c', h2, h3⟩⟩, h4⟩
end Go.Proofs.YtjbgjdjmejhejaaGreatDoor
namespace Go.Proofs.YtjbgjdjmejhejaaGreatDoor
open Go.RowKit
set_option maxHeartbeats 4000000 in
set_option maxRecDepth 100000 in
theorem copied9_any (v : Value) (S : SetV) (w : World) (hv : SetAt w v S) (hl1 : S.ints.length ≤ 100000) (hl2 : S.strs.length ≤ 100000) :
    Calls Tryz.prog 75 #[v] w fun r w' => (∃ c : SC, r = .returned c.val ∧ SetAt w' c.val S ∧ UpC w.heap.size c) ∧ Below w.heap.size w w' := by
  obtain ⟨ai, ci, az, cz, rfl, hI, hT⟩ := sc_open hv
  have D : w.grownBy w none := grown_refl _ _
  go_enter Tryz.func75, Tryz.ntmps75
  refine wp_seq_k (fun K1 hK1 => ?_)
  refine wp_region_lit ?_
  refine wt_boxSt (o := ⟨_, _, _, _, _, _⟩) (by rfl) _ rfl (⟨S.absent, ai, S.ints.length, ci, S.co, az, S.strs.length, cz⟩) rfl (fun v1 g1 hg G1 kb => ?_)
  simp only [Act.put, lzA, lzB, lzC]
  have ge_g1 : w.heap.size ≤ g1 := Nat.le_trans D.size hg
  clear hg
  replace D := grown_below D kb
  clear kb
  replace G1 : v1.heap[g1]? = some (.cells #[.bool (S.absent), .slice ai S.ints.length ci, .bool (S.co), .slice az S.strs.length cz] 26 (0, 0)) := G1
  refine wt_allocSt (o := ⟨_, _, _, _, _, _⟩) (by rfl) rfl (fun v2 g2 hg G2 kb => ?_)
  simp only [Act.put, lzA, lzB, lzC]
  have n_g1_g2 : g1 ≠ g2 := by have := lt_heap G1; omega
  have ge_g2 : w.heap.size ≤ g2 := Nat.le_trans D.size hg
  clear hg
  replace D := grown_below D kb
  replace G1 := heap_on G1 kb
  clear kb
  replace G2 : v2.heap[g2]? = some (.cells #[.bool false, .slice none 0 0, .bool false, .slice none 0 0] 26 (0, 0)) := G2
  refine wpList_nil ?_
  refine hK1 _ _ ?_
  clear hK1 K1
  refine wp_seq_k (fun K2 hK2 => ?_)
  refine wp_region_lit ?_
  refine wl_yield (o := ⟨_, _, _, _, _, _⟩) (.pointer (some ⟨g1, 1, none⟩)) (yt_fSt1 (by rfl) _ rfl g1 0 rfl) ?_
  simp only [Act.put, lzA, lzB, lzC]
  refine wl_yield (o := ⟨_, _, _, _, _, _⟩) (.slice ai S.ints.length ci) (yt_ldLr (by rfl) _ rfl _ _ rfl ai S.ints.length ci (fun _ h => by subst h; exact cell_heap G1 1)) ?_
  simp only [Act.put, lzA, lzB, lzC]
  refine wt_call (o := ⟨_, _, _, _, _, _⟩) (by rfl) 123 _ _ rfl #[.slice ai S.ints.length ci] rfl (run_call Tryz.func123 (by kernel_rfl) (by kernel_rfl)) ?_
  refine (cloneR_own _ S.ints _ (hI.on (below_none D)) hl1).mono ?_
  rintro r v3 (⟨⟨u, rfl, RI⟩, kb⟩)
  · have mI := D.size
    replace D := grown_below D kb
    replace G1 := heap_on G1 kb
    replace G2 := heap_on G2 kb
    clear kb
    obtain ⟨pI, cI, rfl, hpI⟩ := RI.frmU
    refine Or.inl ⟨.slice pI S.ints.length cI, rfl, ?_⟩
    simp only [Act.put, lzA, lzB, lzC]
    refine wl_yield (o := ⟨_, _, _, _, _, _⟩) (.pointer (some ⟨g1, 1, none⟩)) (yt_fSt1 (by rfl) _ rfl g1 0 rfl) ?_
    simp only [Act.put, lzA, lzB, lzC]
    refine wt_putLr (o := ⟨_, _, _, _, _, _⟩) (by rfl) _ _ rfl _ 1 rfl pI S.ints.length cI rfl G1 (by simp) (fun v4 X kg => ?_)
    simp only [Act.put, lzA, lzB, lzC]
    replace D := gr_new D ge_g1 kg
    replace G2 := heap_gr G2 kg (Ne.symm n_g1_g2)
    replace RI := row_gr_heap RI kg G1 (by decide)
    clear kg
    replace G1 : v4.heap[g1]? = some (.cells #[.bool (S.absent), .slice pI S.ints.length cI, .bool (S.co), .slice az S.strs.length cz] 26 (0, 0)) := X
    clear X
    refine wpList_nil ?_
    refine hK2 _ _ ?_
    clear hK2 K2
    refine wp_seq_k (fun K3 hK3 => ?_)
    refine wp_region_lit ?_
    refine wl_yield (o := ⟨_, _, _, _, _, _⟩) (.pointer (some ⟨g1, 3, none⟩)) (yt_fSt3 (by rfl) _ rfl g1 0 rfl) ?_
    simp only [Act.put, lzA, lzB, lzC]
    refine wl_yield (o := ⟨_, _, _, _, _, _⟩) (.slice az S.strs.length cz) (yt_ldLs (by rfl) _ rfl _ _ rfl az S.strs.length cz (fun _ h => by subst h; exact cell_heap G1 3)) ?_
    simp only [Act.put, lzA, lzB, lzC]
    refine wt_call (o := ⟨_, _, _, _, _, _⟩) (by rfl) 124 _ _ rfl #[.slice az S.strs.length cz] rfl (run_call Tryz.func124 (by kernel_rfl) (by kernel_rfl)) ?_
    refine (cloneS_own _ S.strs _ (hT.on (below_none D)) hl2).mono ?_
    rintro r v5 (⟨⟨u, rfl, RT⟩, kb⟩)
    · have mT := D.size
      replace D := grown_below D kb
      replace G1 := heap_on G1 kb
      replace G2 := heap_on G2 kb
      replace RI := ownsRow_on RI kb
      clear kb
      obtain ⟨pT, cT, rfl, hpT⟩ := RT.frmN
      refine Or.inl ⟨.slice pT S.strs.length cT, rfl, ?_⟩
      simp only [Act.put, lzA, lzB, lzC]
      refine wl_yield (o := ⟨_, _, _, _, _, _⟩) (.pointer (some ⟨g1, 3, none⟩)) (yt_fSt3 (by rfl) _ rfl g1 0 rfl) ?_
      simp only [Act.put, lzA, lzB, lzC]
      refine wt_putLs (o := ⟨_, _, _, _, _, _⟩) (by rfl) _ _ rfl _ 3 rfl pT S.strs.length cT rfl G1 (by simp) (fun v6 X kg => ?_)
      simp only [Act.put, lzA, lzB, lzC]
      replace D := gr_new D ge_g1 kg
      replace G2 := heap_gr G2 kg (Ne.symm n_g1_g2)
      replace RI := row_gr_heap RI kg G1 (by decide)
      replace RT := row_gr_heap RT kg G1 (by decide)
      clear kg
      replace G1 : v6.heap[g1]? = some (.cells #[.bool (S.absent), .slice pI S.ints.length cI, .bool (S.co), .slice pT S.strs.length cT] 26 (0, 0)) := X
      clear X
      refine wpList_nil ?_
      refine hK3 _ _ ?_
      clear hK3 K3
      refine wp_seq_k (fun K4 hK4 => ?_)
      refine wp_region_lit ?_
      refine wl_yield (o := ⟨_, _, _, _, _, _⟩) (.agg #[.bool (S.absent), .slice pI S.ints.length cI, .bool (S.co), .slice pT S.strs.length cT]) (yl_set (by rfl) _ rfl _ 0 rfl _ _ _ _ (fun _ h => by subst h; exact ⟨cell_heap G1 0, cell_heap G1 1, cell_heap G1 2, cell_heap G1 3⟩)) ?_
      simp only [Act.put, lzA, lzB, lzC]
      refine wt_putSt (o := ⟨_, _, _, _, _, _⟩) rfl _ _ rfl _ rfl (⟨S.absent, pI, S.ints.length, cI, S.co, pT, S.strs.length, cT⟩) rfl G2 rfl (fun v7 X kg => ?_)
      simp only [Act.put, lzA, lzB, lzC]
      replace D := gr_new D ge_g2 kg
      replace G1 := heap_gr G1 kg n_g1_g2
      replace RI := row_gr_heap RI kg G2 (by decide)
      replace RT := row_gr_heap RT kg G2 (by decide)
      clear kg
      replace G2 : v7.heap[g2]? = some (.cells #[.bool (S.absent), .slice pI S.ints.length cI, .bool (S.co), .slice pT S.strs.length cT] 26 (0, 0)) := X
      clear X
      refine wpList_nil ?_
      refine hK4 _ _ ?_
      clear hK4 K4
      refine wp_ret ?_
      try simp only [Exit.inBlock, Exit.then]
      refine bodyPost_ret (results_cell_row rfl _ _ g2 26 _ (0, 0) _ rfl G2 Tryz.underlying26 rfl infoT4) rfl ⟨⟨⟨S.absent, pI, S.ints.length, cI, S.co, pT, S.strs.length, cT⟩, rfl, ⟨_, _, rfl, OwnR.rngs RI hI.1 (by omega), OwnS.strs RT hT.1 (by omega)⟩, fun a e => Nat.le_trans mI (hpI a e), fun a e => Nat.le_trans mT (hpT a e)⟩, below_none D⟩
def cntU (ns : Nat → Nat) : Nat → Nat
  | 0 => 1
  | k + 1 => if cntU ns k * ns k > 1099511627776 then 1099511627776 else cntU ns k * ns k
theorem cntU_le (ns : Nat → Nat) : ∀ k, cntU ns k ≤ 1099511627776
  | 0 => by unfold cntU; omega
  | k + 1 => by unfold cntU; split <;> omega
theorem cntU_top (ns : Nat → Nat) (h : ∀ j, 1 ≤ ns j) : ∀ k j, cntU ns k = 1099511627776 → cntU ns (k + j) = 1099511627776
  | k, 0, e => e
  | k, j + 1, e => by
    have ih := cntU_top ns h k j e
    show cntU ns ((k + j) + 1) = _
    unfold cntU
    rw [ih]
    split
    · rfl
    · rename_i hn
      have := h (k + j)
      have := Nat.mul_le_mul_left 1099511627776 this
      omega
theorem quo_gt {c n : Nat} (hn : 1 ≤ n) : (1099511627776 / n < c) ↔ (1099511627776 < c * n) := by
  rw [Nat.div_lt_iff_lt_mul (by omega)]
theorem quo_dec {c n : Nat} (hn : 1 ≤ n) : decide ((c : Int) > ((1099511627776 / n : Nat) : Int)) = decide (c * n > 1099511627776) := by
  have := @quo_gt c n hn
  by_cases h : 1099511627776 < c * n
  · rw [decide_eq_true (show c * n > 1099511627776 from h), decide_eq_true (by have := this.2 h; omega)]
  · rw [decide_eq_false (show ¬ c * n > 1099511627776 from h), decide_eq_false (by have h2 := fun q => h (this.1 q); omega)]
theorem cutL_len (l : List SetV) : 3 ≤ (cutL l).length := by
  unfold cutL
  rw [cellL_len]
  have := (begs_is (allR l)).pos
  omega
theorem cutL_most {l : List SetV} (h : FewC l) : (cutL l).length ≤ 61000 := by
  unfold cutL
  rw [cellL_len]
  have a1 := sortedN_len (begL (allR l))
  have a2 := begL_len (allR l) (allR l).length
  have a3 := namesOf_len (allS l)
  have a4 := h.r l.length
  have a5 := h.s l.length
  rw [List.take_length] at a2 a4 a5
  omega
section
variable {ops : Array Oper} {S : World → Prop} {o : Oper} {a : Act}
theorem yq_quoI (hw : Region.wanted o (yielded ops a.tmps) = true) (x y : Operand) (t : TypeId) (ho : o.op = .binOp .quo 3 x y t) (n : Nat) (hx : a.eval x = .int .i64 1099511627776) (hy : a.eval y = .int .i64 (n : Int)) (hn : 1 ≤ n) : YieldsIf Tryz.prog ops S o (.int .i64 ((1099511627776 / n : Nat) : Int)) a :=
  Or.inl ⟨hw, fun w hS => by
    have h0 : ¬ ((n : Int) = 0) := by omega
    have h1 : Int.tdiv 1099511627776 (n : Int) = ((1099511627776 / n : Nat) : Int) := by
      rw [Int.tdiv_eq_ediv_of_nonneg (by decide)]
      rfl
    have h2 : (1099511627776 / n : Nat) ≤ 1099511627776 := Nat.div_le_self _ _
    simp only [execOp, ho, hx, hy]
    go_simp
    rw [if_neg (by omega)]
    have h3 : (1099511627776 : Int) / (n : Int) = ((1099511627776 / n : Nat) : Int) := rfl
    rw [h3]
    generalize 1099511627776 / n = q at h2
    rw [IntKind.wrap_i64, show ((q : Int) + 9223372036854775808) % 18446744073709551616 - 9223372036854775808 = (q : Int) by omega]⟩
end
theorem cntU_go (ns : Nat → Nat) (k : Nat) (h : ¬ cntU ns k * ns k > 1099511627776) : cntU ns (k + 1) = cntU ns k * ns k := by
  show (if cntU ns k * ns k > 1099511627776 then 1099511627776 else cntU ns k * ns k) = _
  rw [if_neg h]
theorem cntU_congr (ns ms : Nat → Nat) : ∀ k, (∀ j, j < k → ns j = ms j) → cntU ns k = cntU ms k
  | 0, _ => rfl
  | k + 1, h => by
    unfold cntU
    rw [cntU_congr ns ms k (fun j hj => h j (by omega)), h k (by omega)]
theorem cntU_top9 (ns : Nat → Nat) (k n : Nat) (hk : k ≤ n) (h : ∀ j, j < n → 1 ≤ ns j) (e : cntU ns k = 1099511627776) : cntU ns n = 1099511627776 := by
  have h2 := cntU_congr ns (fun j => if j < n then ns j else 1) n (fun j hj => by rw [if_pos hj])
  have h3 := cntU_congr ns (fun j => if j < n then ns j else 1) k (fun j hj => by rw [if_pos (by omega)])
  rw [h2]
  rw [h3] at e
  have := cntU_top (fun j => if j < n then ns j else 1) (fun j => by show 1 ≤ (if j < n then ns j else 1); split; exact h j (by assumption); exact Nat.le_refl _) k (n - k) e
  rwa [show k + (n - k) = n by omega] at this
set_option maxHeartbeats 4000000 in
set_option maxRecDepth 100000 in
theorem count_any (b : Nat) (l : Nat → List SetV) (w : World) (OK : GridOk w b l) (hf : ∀ j, j < 4 → FewC (l j)) :
    Calls Tryz.prog 32 #[.pointer (some ⟨b, 0, none⟩)] w fun r w' => r = .returned (.int .i64 ((cntU (fun j => (cutL (l j)).length) 4 : Nat) : Int)) ∧ GridOk w' b l ∧ w.grownBy w' (some b) := by
  have D : w.grownBy w (some b) := grown_refl _ _
  go_enter Tryz.func32, Tryz.ntmps32
  refine wp_seq_k (fun K1 hK1 => ?_)
  refine wp_region_lit ?_
  refine wl_yield (o := ⟨_, _, _, _, _, _⟩) (.int .i64 0) (yl_assign (by rfl) _ rfl _ rfl) ?_
  simp only [Act.put, lzA, lzB, lzC]
  refine wpList_nil ?_
  refine hK1 _ _ ?_
  clear hK1 K1
  refine wp_seq_k (fun K2 hK2 => ?_)
  refine wp_region_lit ?_
  refine wl_yield (o := ⟨_, _, _, _, _, _⟩) (.int .i64 1) (yl_assign (by rfl) _ rfl _ rfl) ?_
  simp only [Act.put, lzA, lzB, lzC]
  refine wpList_nil ?_
  refine hK2 _ _ ?_
  clear hK2 K2
  refine wp_seq_k (fun K3 hK3 => ?_)
  refine wp_seq_k (fun K4 hK4 => ?_)
  refine wp_region_lit ?_
  refine wl_yield (o := ⟨_, _, _, _, _, _⟩) (.pointer (some ⟨b, 0, none⟩)) (yl_move (by rfl) _ rfl _ rfl) ?_
  simp only [Act.put, lzA, lzB, lzC]
  refine wt_call (o := ⟨_, _, _, _, _, _⟩) (by rfl) 77 _ _ rfl #[.pointer (some ⟨b, 0, none⟩)] rfl (run_call Tryz.func77 (by kernel_rfl) (by kernel_rfl)) ?_
  refine (laid_any b l _ OK hf).mono ?_
  rintro r v1 (⟨⟨c', rfl, NC, ok⟩, kg⟩)
  · replace D := grown_trans D kg
    clear OK
    have OK := ok
    clear ok kg
    have hn : ∀ j, j < 4 → (c' j).n = (cutL (l j)).length := fun j hj => by
      obtain ⟨q, e1, e2⟩ := (NC j hj).form
      have : (c' j).n = q.n := by unfold Sl.val at e1; injection e1
      omega
    have hge : ∀ j, j < 4 → 3 ≤ (c' j).n ∧ (c' j).n ≤ 61000 := fun j hj => by rw [hn j hj]; exact ⟨cutL_len _, cutL_most (hf j hj)⟩
    refine Or.inl ⟨.agg #[(c' 0).val, (c' 1).val, (c' 2).val, (c' 3).val], rfl, ?_⟩
    simp only [Act.put, lzA, lzB, lzC]
    refine wl_yield (o := ⟨_, _, _, _, _, _⟩) (.int .i64 0) (yl_move (by rfl) _ rfl _ rfl) ?_
    simp only [Act.put, lzA, lzB, lzC]
    refine wpList_nil ?_
    refine hK4 _ _ ?_
    clear hK4 K4
    refine wp_block ?_
    go_loopw [3, 8] (fun x i wr => ∃ (k : Nat), x = .int .i64 ((cntU (fun j => (c' j).n) k : Nat) : Int) ∧ i = .int .i64 ((k : Nat) : Int) ∧ k ≤ 4 ∧ wr = v1) (fun _ i _ => 4 - (intOf i).toNat)
    case atStart => exact ⟨0, rfl, rfl, Nat.zero_le _, rfl⟩
    case round =>
      obtain ⟨k, rfl, rfl, hk, rfl⟩ := hrel
      have hcl := cntU_le (fun j => (c' j).n) k
      by_cases hlt : k < 4
      · refine wp_seq_k (fun K5 hK5 => ?_)
        refine wp_region_lit ?_
        refine wl_yield (o := ⟨_, _, _, _, _, _⟩) (.bool true) (yt_lssI (by rfl) _ _ _ rfl ((k : Nat) : Int) 4 true rfl rfl (decide_eq_true (by omega))) ?_
        simp only [Act.put, lzA, lzB, lzC]
        refine wpList_nil ?_
        refine hK5 _ _ ?_
        clear hK5 K5
        refine wp_seq_k (fun K6 hK6 => ?_)
        refine wp_cond_true rfl ?_
        refine wp_skip ?_
        refine hK6 _ _ ?_
        clear hK6 K6
        refine wp_seq_k (fun K7 hK7 => ?_)
        refine wp_block ?_
        refine wp_seq_k (fun K8 hK8 => ?_)
        refine wp_region_lit ?_
        refine wl_yield (o := ⟨_, _, _, _, _, _⟩) (Sl.val (c' k)) (yq_ix4 (by rfl) _ _ rfl c' k hlt rfl rfl) ?_
        simp only [Act.put, lzA, lzB, lzC]
        refine wl_yield (o := ⟨_, _, _, _, _, _⟩) (Sl.val (c' k)) (yl_assign (by rfl) _ rfl _ rfl) ?_
        simp only [Act.put, lzA, lzB, lzC]
        refine wpList_nil ?_
        refine hK8 _ _ ?_
        clear hK8 K8
        refine wp_seq_k (fun K9 hK9 => ?_)
        refine wp_seq_k (fun K10 hK10 => ?_)
        refine wp_region_lit ?_
        refine wl_yield (o := ⟨_, _, _, _, _, _⟩) (.int .i64 (cntU (fun j => (c' j).n) k : Nat)) (yl_move (by rfl) _ rfl _ rfl) ?_
        simp only [Act.put, lzA, lzB, lzC]
        refine wl_yield (o := ⟨_, _, _, _, _, _⟩) (Sl.val (c' k)) (yl_move (by rfl) _ rfl _ rfl) ?_
        simp only [Act.put, lzA, lzB, lzC]
        refine wl_yield (o := ⟨_, _, _, _, _, _⟩) (.int .i64 ((c' k).n : Nat)) (yt_lenQ (by rfl) _ rfl (c' k).p (c' k).n (c' k).c rfl) ?_
        simp only [Act.put, lzA, lzB, lzC]
        refine wl_yield (o := ⟨_, _, _, _, _, _⟩) (.int .i64 (1099511627776 / (c' k).n : Nat)) (yq_quoI (by rfl) _ _ _ rfl (c' k).n rfl rfl (by have := hge k hlt; omega)) ?_
        simp only [Act.put, lzA, lzB, lzC]
        refine wl_yield (o := ⟨_, _, _, _, _, _⟩) (.bool (decide (cntU (fun j => (c' j).n) k * (c' k).n > 1099511627776))) (yt_gtrI (by rfl) _ _ _ rfl ((cntU (fun j => (c' j).n) k : Nat) : Int) ((1099511627776 / (c' k).n : Nat) : Int) (decide (cntU (fun j => (c' j).n) k * (c' k).n > 1099511627776)) rfl rfl (quo_dec (by have := hge k hlt; omega))) ?_
        simp only [Act.put, lzA, lzB, lzC]
        refine wpList_nil ?_
        refine hK10 _ _ ?_
        clear hK10 K10
        refine wp_cond_split (t := (decide (cntU (fun j => (c' j).n) k * (c' k).n > 1099511627776))) rfl (fun hc => ?_) (fun hc => ?_)
        · have hc2 : (cntU (fun j => (c' j).n) k * (c' k).n > 1099511627776) := of_decide_eq_true hc
          refine wp_seq_k (fun K11 hK11 => ?_)
          refine wp_region_lit ?_
          refine wl_yield (o := ⟨_, _, _, _, _, _⟩) (.int .i64 1099511627776) (yl_assign (by rfl) _ rfl _ rfl) ?_
          simp only [Act.put, lzA, lzB, lzC]
          refine wpList_nil ?_
          refine hK11 _ _ ?_
          clear hK11 K11
          refine wp_ret ?_
          try simp only [Exit.inBlock, Exit.then]
          have e1 : cntU (fun j => (c' j).n) (k + 1) = 1099511627776 := by unfold cntU; rw [if_pos hc2]
          have e2 := cntU_top9 (fun j => (c' j).n) (k + 1) 4 (by omega) (fun j hj => by have := hge j hj; show 1 ≤ (c' j).n; omega) e1
          go_ret
          exact ⟨ret_int (by rw [cntU_congr (fun j => (cutL (l j)).length) (fun j => (c' j).n) 4 (fun j hj => (hn j hj).symm), e2]; rfl), OK, D⟩
        · have hc2 : ¬ (cntU (fun j => (c' j).n) k * (c' k).n > 1099511627776) := of_decide_eq_false hc
          refine wp_skip ?_
          refine hK9 _ _ ?_
          clear hK9 K9
          refine wp_region_lit ?_
          refine wl_yield (o := ⟨_, _, _, _, _, _⟩) (.int .i64 (cntU (fun j => (c' j).n) k : Nat)) (yl_move (by rfl) _ rfl _ rfl) ?_
          simp only [Act.put, lzA, lzB, lzC]
          refine wl_yield (o := ⟨_, _, _, _, _, _⟩) (Sl.val (c' k)) (yl_move (by rfl) _ rfl _ rfl) ?_
          simp only [Act.put, lzA, lzB, lzC]
          refine wl_yield (o := ⟨_, _, _, _, _, _⟩) (.int .i64 ((c' k).n : Nat)) (yt_lenQ (by rfl) _ rfl (c' k).p (c' k).n (c' k).c rfl) ?_
          simp only [Act.put, lzA, lzB, lzC]
          refine wl_yield (o := ⟨_, _, _, _, _, _⟩) (.int .i64 (cntU (fun j => (c' j).n) k * (c' k).n : Nat)) (yq_mulI (by rfl) _ _ _ rfl ((cntU (fun j => (c' j).n) k : Nat) : Int) (((c' k).n : Nat) : Int) ((cntU (fun j => (c' j).n) k * (c' k).n : Nat) : Int) rfl rfl (by omega) (by omega) (by omega)) ?_
          simp only [Act.put, lzA, lzB, lzC]
          refine wl_yield (o := ⟨_, _, _, _, _, _⟩) (.int .i64 (cntU (fun j => (c' j).n) k * (c' k).n : Nat)) (yl_assign (by rfl) _ rfl _ rfl) ?_
          simp only [Act.put, lzA, lzB, lzC]
          refine wpList_nil ?_
          refine hK7 _ _ ?_
          clear hK7 K7
          refine wp_region_lit ?_
          refine wl_yield (o := ⟨_, _, _, _, _, _⟩) (.int .i64 (k + 1 : Nat)) (yt_addI (by rfl) _ _ _ rfl ((k : Nat) : Int) 1 ((k + 1 : Nat) : Int) rfl rfl (by omega) (by omega) (by omega)) ?_
          simp only [Act.put, lzA, lzB, lzC]
          refine wl_yield (o := ⟨_, _, _, _, _, _⟩) (.int .i64 (k + 1 : Nat)) (yl_move (by rfl) _ rfl _ rfl) ?_
          simp only [Act.put, lzA, lzB, lzC]
          refine wpList_nil ?_
          show _ ∧ _
          go_roundw
          case rel => exact ⟨k + 1, by show _ = Value.int .i64 ((cntU (fun j => (c' j).n) (k + 1) : Nat) : Int); rw [cntU_go (fun j => (c' j).n) k (by omega)], rfl, by omega, rfl⟩
          case measure => simp [intOf]; omega
      · obtain rfl : k = 4 := by omega
        refine wp_seq_k (fun K5 hK5 => ?_)
        refine wp_region_lit ?_
        refine wl_yield (o := ⟨_, _, _, _, _, _⟩) (.bool false) (yt_lssI (by rfl) _ _ _ rfl ((4 : Nat) : Int) 4 false rfl rfl (decide_eq_false (by omega))) ?_
        simp only [Act.put, lzA, lzB, lzC]
        refine wpList_nil ?_
        refine hK5 _ _ ?_
        clear hK5 K5
        refine wp_seq_k (fun K6 hK6 => ?_)
        refine wp_cond_false rfl ?_
        refine wp_exit ?_
        refine hK3 _ _ ?_
        clear hK6 K6 hK3 K3
        refine wp_seq_k (fun K7 hK7 => ?_)
        refine wp_region_lit ?_
        refine wl_yield (o := ⟨_, _, _, _, _, _⟩) (.int .i64 (cntU (fun j => (c' j).n) 4 : Nat)) (yl_move (by rfl) _ rfl _ rfl) ?_
        simp only [Act.put, lzA, lzB, lzC]
        refine wl_yield (o := ⟨_, _, _, _, _, _⟩) (.int .i64 (cntU (fun j => (c' j).n) 4 : Nat)) (yl_assign (by rfl) _ rfl _ rfl) ?_
        simp only [Act.put, lzA, lzB, lzC]
        refine wpList_nil ?_
        refine hK7 _ _ ?_
        clear hK7 K7
        refine wp_ret ?_
        try simp only [Exit.inBlock, Exit.then]
        go_ret
        exact ⟨ret_int (by rw [cntU_congr _ (fun j => (c' j).n) 4 (fun j hj => (hn j hj).symm)]), OK, D⟩
end Go.Proofs.YtjbgjdjmejhejaaGreatDoor
namespace Go.Proofs.YtjbgjdjmejhejaaGreatDoor
open Go.RowKit
theorem cutL_small {l : List SetV} (h : FewC l) : ∀ S ∈ cutL l, S.ints.length ≤ 100000 ∧ S.strs.length ≤ 901 := by
  intro S hS
  obtain ⟨i, hi, e⟩ := mem_getD noSet hS
  have h1 := cell_strs (B := sortedN (begL (allR l))) (N := namesOf (allS l)) hi
  have h2 := namesOf_len (allS l)
  have h3 := h.s l.length
  rw [List.take_length] at h3
  rw [← e]
  exact ⟨Nat.le_trans h1.2 (by decide), Nat.le_trans h1.1 (by omega)⟩
theorem SetAt.gr9 {w w' : World} {v : Value} {S : SetV} {g : Nat} {a d : Bool} {p q : Option Addr} {n c m e : Nat} {T : TypeId} (h : SetAt w v S) (hg : w.heap[g]? = some (.cells #[.bool a, .slice p n c, .bool d, .slice q m e] T (0, 0))) (k : w.grownBy w' (some g)) : SetAt w' v S :=
  h.asq hg (fun x hx => by
    simp only [List.mem_cons, List.not_mem_nil, or_false] at hx
    rcases hx with rfl | rfl | rfl | rfl <;> rfl) k.size (fun i hi hne => k.block i hi (fun e => hne (by cases e; rfl)))
theorem OwnT.gr9 {w w' : World} {B gO g n c : Nat} {cs : List SC} (h : OwnT w B (.slice (some ⟨gO, 0, none⟩) n c) cs) (k : w.grownBy w' (some g)) (hne : gO ≠ g) : OwnT w' B (.slice (some ⟨gO, 0, none⟩) n c) cs :=
  ownsRow_gr h k (fun g' e => by cases e; intro e2; cases e2; exact hne rfl)
set_option maxHeartbeats 4000000 in
set_option maxRecDepth 100000 in
theorem attr_any (b i : Nat) (hi : i < 4) (l : Nat → List SetV) (w : World) (OK : GridOk w b l) (hf : ∀ j, j < 4 → FewC (l j)) :
    Calls Tryz.prog 31 #[.pointer (some ⟨b, 0, none⟩), .int .i64 ((i : Nat) : Int)] w fun r w' => (∃ u, r = .returned u ∧ CutAt w.heap.size w' u (l i)) ∧ GridOk w' b l ∧ w.grownBy w' (some b) := by
  have D : w.grownBy w (some b) := grown_refl _ _
  go_enter Tryz.func31, Tryz.ntmps31
  refine wp_seq_k (fun K1 hK1 => ?_)
  refine wp_region_lit ?_
  refine wl_yield (o := ⟨_, _, _, _, _, _⟩) (.slice none 0 0) (yl_assign (by rfl) _ rfl _ rfl) ?_
  simp only [Act.put, lzA, lzB, lzC]
  refine wpList_nil ?_
  refine hK1 _ _ ?_
  clear hK1 K1
  refine wp_seq_k (fun K2 hK2 => ?_)
  refine wp_seq_k (fun K3 hK3 => ?_)
  refine wp_region_lit ?_
  refine wl_yield (o := ⟨_, _, _, _, _, _⟩) (.int .i64 (i : Nat)) (yl_move (by rfl) _ rfl _ rfl) ?_
  simp only [Act.put, lzA, lzB, lzC]
  refine wl_yield (o := ⟨_, _, _, _, _, _⟩) (.bool false) (yt_lssI (by rfl) _ _ _ rfl ((i : Nat) : Int) 0 false rfl rfl (decide_eq_false (by omega))) ?_
  simp only [Act.put, lzA, lzB, lzC]
  refine wl_yield (o := ⟨_, _, _, _, _, _⟩) (.bool false) (yl_move (by rfl) _ rfl _ rfl) ?_
  simp only [Act.put, lzA, lzB, lzC]
  refine wl_yield (o := ⟨_, _, _, _, _, _⟩) (.int .i64 (i : Nat)) (yl_move (by rfl) _ rfl _ rfl) ?_
  simp only [Act.put, lzA, lzB, lzC]
  refine wl_yield (o := ⟨_, _, _, _, _, _⟩) (.bool false) (yt_geqI (by rfl) _ _ _ rfl ((i : Nat) : Int) 4 false rfl rfl (decide_eq_false (by omega))) ?_
  simp only [Act.put, lzA, lzB, lzC]
  refine wl_yield (o := ⟨_, _, _, _, _, _⟩) (.bool false) (yl_pickF (by rfl) _ _ _ rfl rfl _ rfl) ?_
  simp only [Act.put, lzA, lzB, lzC]
  refine wpList_nil ?_
  refine hK3 _ _ ?_
  clear hK3 K3
  refine wp_cond_false rfl ?_
  refine wp_skip ?_
  refine hK2 _ _ ?_
  clear hK2 K2
  refine wp_seq_k (fun K4 hK4 => ?_)
  refine wp_region_lit ?_
  refine wl_yield (o := ⟨_, _, _, _, _, _⟩) (.pointer (some ⟨b, 0, none⟩)) (yl_move (by rfl) _ rfl _ rfl) ?_
  simp only [Act.put, lzA, lzB, lzC]
  refine wt_call (o := ⟨_, _, _, _, _, _⟩) (by rfl) 77 _ _ rfl #[.pointer (some ⟨b, 0, none⟩)] rfl (run_call Tryz.func77 (by kernel_rfl) (by kernel_rfl)) ?_
  refine (laid_any b l _ OK hf).mono ?_
  rintro r v1 (⟨⟨c', rfl, NC, ok⟩, kg⟩)
  · replace D := grown_trans D kg
    clear OK
    have OK := ok
    clear ok kg
    have HC := NC i hi
    clear NC
    have hS0 := HC.sets (Kept.refl _ _)
    have hmost := cutL_most (hf i hi)
    have hleast := cutL_len (l i)
    have hsmall := cutL_small (hf i hi)
    generalize hL : cutL (l i) = L at hS0 hmost hleast hsmall
    have hnil : nilOkQ (c' i).val := by
      obtain ⟨cs, o1, _, _⟩ := HC
      exact OwnT.nilOkQ (B := b + 1) o1
    clear HC
    refine Or.inl ⟨.agg #[(c' 0).val, (c' 1).val, (c' 2).val, (c' 3).val], rfl, ?_⟩
    simp only [Act.put, lzA, lzB, lzC]
    refine wl_yield (o := ⟨_, _, _, _, _, _⟩) (.int .i64 (i : Nat)) (yl_move (by rfl) _ rfl _ rfl) ?_
    simp only [Act.put, lzA, lzB, lzC]
    refine wl_yield (o := ⟨_, _, _, _, _, _⟩) (Sl.val (c' i)) (yq_ix4 (by rfl) _ _ rfl c' i hi rfl rfl) ?_
    simp only [Act.put, lzA, lzB, lzC]
    refine wt_call (o := ⟨_, _, _, _, _, _⟩) (by rfl) 76 _ _ rfl #[Sl.val (c' i)] rfl (run_call Tryz.func76 (by kernel_rfl) (by kernel_rfl)) ?_
    refine (cloneT_own _ L _ hS0 (by omega) hnil).mono ?_
    rintro r v2 (⟨⟨u, cs0, rfl, ROW, hA⟩, kb⟩)
    · have kb0 := kb
      have D0 := D
      have OKV := OK
      have hmD := D.size
      clear D OK kb
      have hcl := hA.1
      obtain ⟨gO, capO, curO, rfl, hgO, hcurO, _⟩ := ROW.form.resolve_left (fun e => by rw [e.2] at hcl; simp at hcl; omega)
      have hltO := lt_heap hcurO
      clear hcurO
      have D : v2.grownBy v2 none := grown_refl _ _
      refine Or.inl ⟨.slice (some ⟨gO, 0, none⟩) cs0.length capO, rfl, ?_⟩
      simp only [Act.put, lzA, lzB, lzC]
      refine wl_yield (o := ⟨_, _, _, _, _, _⟩) (.slice (some ⟨gO, 0, none⟩) cs0.length capO) (yl_assign (by rfl) _ rfl _ rfl) ?_
      simp only [Act.put, lzA, lzB, lzC]
      refine wpList_nil ?_
      refine hK4 _ _ ?_
      clear hK4 K4
      refine wp_seq_k (fun K5 hK5 => ?_)
      refine wp_seq_k (fun K6 hK6 => ?_)
      refine wp_region_lit ?_
      refine wl_yield (o := ⟨_, _, _, _, _, _⟩) (.slice (some ⟨gO, 0, none⟩) cs0.length capO) (yl_move (by rfl) _ rfl _ rfl) ?_
      simp only [Act.put, lzA, lzB, lzC]
      refine wl_yield (o := ⟨_, _, _, _, _, _⟩) (.int .i64 (cs0.length : Nat)) (yt_lenQ (by rfl) _ rfl (some ⟨gO, 0, none⟩) cs0.length capO rfl) ?_
      simp only [Act.put, lzA, lzB, lzC]
      refine wl_yield (o := ⟨_, _, _, _, _, _⟩) (.int .i64 0) (yl_move (by rfl) _ rfl _ rfl) ?_
      simp only [Act.put, lzA, lzB, lzC]
      refine wpList_nil ?_
      refine hK6 _ _ ?_
      clear hK6 K6
      refine wp_block ?_
      go_loopw [21] (fun i wr => ∃ (k : Nat) (cs : List SC), i = .int .i64 ((k : Nat) : Int) ∧ k ≤ cs0.length ∧ cs.length = cs0.length ∧ OwnT wr v1.heap.size (.slice (some ⟨gO, 0, none⟩) cs0.length capO) cs ∧ (∀ j, j < k → SetAt wr (cs.getD j SC.zero).val (L.getD j noSet) ∧ UpC (gO + 1) (cs.getD j SC.zero)) ∧ (∀ j, k ≤ j → j < cs0.length → cs.getD j SC.zero = cs0.getD j SC.zero) ∧ v2.grownBy wr (some gO)) (fun i _ => cs0.length - (intOf i).toNat)
      case atStart => exact ⟨0, cs0, rfl, Nat.zero_le _, rfl, ROW, fun j hj => absurd hj (Nat.not_lt_zero _), fun j _ _ => rfl, grown_refl _ _⟩
      case round =>
        clear D ROW
        obtain ⟨k, cs, rfl, hk, hcs, ROW, hdone, hrest, D⟩ := hrel
        by_cases hlt : k < cs0.length
        · have CR := ROW.range k (by omega)
          have C0 : wr.cell? ⟨gO, 0 + k * 4, none⟩ = some (.bool (cs.getD k SC.zero).a) := by rw [Nat.zero_add]; exact CR 0 _ rfl
          have C1 : wr.cell? ⟨gO, 0 + k * 4 + 1, none⟩ = some (.slice (cs.getD k SC.zero).p (cs.getD k SC.zero).n (cs.getD k SC.zero).c) := by rw [Nat.zero_add]; exact CR 1 _ rfl
          have C2 : wr.cell? ⟨gO, 0 + k * 4 + 2, none⟩ = some (.bool (cs.getD k SC.zero).d) := by rw [Nat.zero_add]; exact CR 2 _ rfl
          have C3 : wr.cell? ⟨gO, 0 + k * 4 + 3, none⟩ = some (.slice (cs.getD k SC.zero).q (cs.getD k SC.zero).m (cs.getD k SC.zero).e) := by rw [Nat.zero_add]; exact CR 3 _ rfl
          refine wp_seq_k (fun K7 hK7 => ?_)
          refine wp_region_lit ?_
          refine wl_yield (o := ⟨_, _, _, _, _, _⟩) (.bool true) (yt_lssI (by rfl) _ _ _ rfl ((k : Nat) : Int) ((cs0.length : Nat) : Int) true rfl rfl (decide_eq_true (by omega))) ?_
          simp only [Act.put, lzA, lzB, lzC]
          refine wpList_nil ?_
          refine hK7 _ _ ?_
          clear hK7 K7
          refine wp_seq_k (fun K8 hK8 => ?_)
          refine wp_cond_true rfl ?_
          refine wp_skip ?_
          refine hK8 _ _ ?_
          clear hK8 K8
          refine wp_seq_k (fun K9 hK9 => ?_)
          refine wp_block ?_
          refine wp_seq_k (fun K10 hK10 => ?_)
          refine wp_region_lit ?_
          refine wl_yield (o := ⟨_, _, _, _, _, _⟩) (.int .i64 (k : Nat)) (yl_move (by rfl) _ rfl _ rfl) ?_
          simp only [Act.put, lzA, lzB, lzC]
          refine wl_yield (o := ⟨_, _, _, _, _, _⟩) (.pointer (some ⟨gO, 0 + k * 4, none⟩)) (yt_atQ (by rfl) _ _ rfl gO 0 _ _ k rfl rfl (hlt)) ?_
          simp only [Act.put, lzA, lzB, lzC]
          refine wl_yield (o := ⟨_, _, _, _, _, _⟩) (SC.val (cs.getD k SC.zero)) (yl_set (by rfl) _ rfl _ _ rfl _ _ _ _ (fun _ h => by subst h; exact ⟨C0, C1, C2, C3⟩)) ?_
          simp only [Act.put, lzA, lzB, lzC]
          refine wt_allocSt (o := ⟨_, _, _, _, _, _⟩) (by rfl) rfl (fun v3 g3 hg G3 kb => ?_)
          simp only [Act.put, lzA, lzB, lzC]
          have ge_g3 : v2.heap.size ≤ g3 := Nat.le_trans D.size hg
          clear hg
          replace D := grown_below D kb
          replace ROW := OwnT.on ROW kb
          replace hdone := fun j hj => And.intro ((hdone j hj).1.on kb) (hdone j hj).2
          clear kb
          replace G3 : v3.heap[g3]? = some (.cells #[.bool false, .slice none 0 0, .bool false, .slice none 0 0] 26 (0, 0)) := G3
          refine wl_yield (o := ⟨_, _, _, _, _, _⟩) (.int .i64 (k : Nat)) (yl_assign (by rfl) _ rfl _ rfl) ?_
          simp only [Act.put, lzA, lzB, lzC]
          refine wt_putSt (o := ⟨_, _, _, _, _, _⟩) rfl _ _ rfl _ rfl ((cs.getD k SC.zero)) rfl G3 rfl (fun v4 X kg => ?_)
          simp only [Act.put, lzA, lzB, lzC]
          replace D := gr_new D ge_g3 kg
          replace ROW := OwnT.gr9 ROW kg (by have := ge_g3; omega)
          replace hdone := fun j hj => And.intro ((hdone j hj).1.gr9 G3 kg) (hdone j hj).2
          clear kg
          replace G3 : v4.heap[g3]? = some (.cells #[.bool ((cs.getD k SC.zero).a), .slice (cs.getD k SC.zero).p (cs.getD k SC.zero).n (cs.getD k SC.zero).c, .bool ((cs.getD k SC.zero).d), .slice (cs.getD k SC.zero).q (cs.getD k SC.zero).m (cs.getD k SC.zero).e] 26 (0, 0)) := X
          clear X
          refine wpList_nil ?_
          refine hK10 _ _ ?_
          clear hK10 K10
          refine wp_region_lit ?_
          refine wl_yield (o := ⟨_, _, _, _, _, _⟩) (.slice (some ⟨gO, 0, none⟩) cs0.length capO) (yl_move (by rfl) _ rfl _ rfl) ?_
          simp only [Act.put, lzA, lzB, lzC]
          refine wl_yield (o := ⟨_, _, _, _, _, _⟩) (.int .i64 (k : Nat)) (yl_move (by rfl) _ rfl _ rfl) ?_
          simp only [Act.put, lzA, lzB, lzC]
          refine wl_yield (o := ⟨_, _, _, _, _, _⟩) (SC.val (cs.getD k SC.zero)) (yl_set (by rfl) _ rfl _ 0 rfl _ _ _ _ (fun _ h => by subst h; exact ⟨cell_heap G3 0, cell_heap G3 1, cell_heap G3 2, cell_heap G3 3⟩)) ?_
          simp only [Act.put, lzA, lzB, lzC]
          have hSk : SetAt v4 (cs.getD k SC.zero).val (L.getD k noSet) := by
            rw [hrest k (Nat.le_refl _) hlt]
            exact (hA.2 k (by omega)).on (kb0.grown D kb0.size (fun z hz => by cases hz; exact hgO))
          have hml := hsmall _ (gD_mem (d := noSet) (show k < L.length by omega))
          refine wt_call (o := ⟨_, _, _, _, _, _⟩) (by rfl) 75 _ _ rfl #[SC.val (cs.getD k SC.zero)] rfl (run_call Tryz.func75 (by kernel_rfl) (by kernel_rfl)) ?_
          refine (copied9_any _ (L.getD k noSet) _ hSk hml.1 (Nat.le_trans hml.2 (by decide))).mono ?_
          rintro r v5 (⟨⟨c9, rfl, hc9, hu9⟩, kb⟩)
          · have hsz9 := D.size
            replace D := grown_below D kb
            replace ROW := OwnT.on ROW kb
            replace hdone := fun j hj => And.intro ((hdone j hj).1.on kb) (hdone j hj).2
            replace G3 := heap_on G3 kb
            clear kb
            clear hSk hml
            refine Or.inl ⟨SC.val c9, rfl, ?_⟩
            simp only [Act.put, lzA, lzB, lzC]
            refine wl_yield (o := ⟨_, _, _, _, _, _⟩) (.pointer (some ⟨gO, 0 + k * 4, none⟩)) (yt_atQ (by rfl) _ _ rfl gO 0 _ _ k rfl rfl (hlt)) ?_
            simp only [Act.put, lzA, lzB, lzC]
            refine wq_putQ (o := ⟨_, _, _, _, _, _⟩) (by rfl) _ _ rfl gO k rfl c9 rfl v1.heap.size cs0.length capO cs ROW (by omega) (fun v6 ROW' kg => ?_)
            simp only [Act.put, lzA, lzB, lzC]
            have hu8 : UpC (gO + 1) c9 := hu9.mono (by omega)
            have hdone' : ∀ j, j < k + 1 → SetAt v6 ((cs.set k c9).getD j SC.zero).val (L.getD j noSet) ∧ UpC (gO + 1) ((cs.set k c9).getD j SC.zero) := fun j hj => by
              by_cases e : j = k
              · subst e
                rw [List.getD_eq_getElem?_getD, List.getElem?_set_self (by omega)]
                exact ⟨hc9.kept hu8 (kept_lt kg (Nat.lt_succ_self gO)), hu8⟩
              · have e1 : (cs.set k c9).getD j SC.zero = cs.getD j SC.zero := by rw [List.getD_eq_getElem?_getD, List.getElem?_set_ne (by omega), ← List.getD_eq_getElem?_getD]
                rw [e1]
                have := hdone j (by omega)
                exact ⟨this.1.kept this.2 (kept_lt kg (Nat.lt_succ_self gO)), this.2⟩
            have hrest' : ∀ j, k + 1 ≤ j → j < cs0.length → (cs.set k c9).getD j SC.zero = cs0.getD j SC.zero := fun j h1 h2 => by
              rw [List.getD_eq_getElem?_getD, List.getElem?_set_ne (by omega), ← List.getD_eq_getElem?_getD]
              exact hrest j (by omega) h2
            replace D := grown_trans D kg
            clear hdone hc9 hu9 ROW hrest
            have ROW := ROW'
            have hdone := hdone'
            clear ROW' hdone' hu8 kg
            refine wpList_nil ?_
            refine hK9 _ _ ?_
            clear hK9 K9
            refine wp_region_lit ?_
            refine wl_yield (o := ⟨_, _, _, _, _, _⟩) (.int .i64 (k + 1 : Nat)) (yt_addI (by rfl) _ _ _ rfl ((k : Nat) : Int) 1 ((k + 1 : Nat) : Int) rfl rfl (by omega) (by omega) (by omega)) ?_
            simp only [Act.put, lzA, lzB, lzC]
            refine wl_yield (o := ⟨_, _, _, _, _, _⟩) (.int .i64 (k + 1 : Nat)) (yl_move (by rfl) _ rfl _ rfl) ?_
            simp only [Act.put, lzA, lzB, lzC]
            refine wpList_nil ?_
            show _ ∧ _
            go_roundw
            case rel => exact ⟨k + 1, _, rfl, by omega, by rw [List.length_set]; exact hcs, ROW, hdone, hrest', D⟩
            case measure => simp [intOf]; omega
        · obtain rfl : k = cs0.length := by omega
          refine wp_seq_k (fun K7 hK7 => ?_)
          refine wp_region_lit ?_
          refine wl_yield (o := ⟨_, _, _, _, _, _⟩) (.bool false) (yt_lssI (by rfl) _ _ _ rfl ((cs0.length : Nat) : Int) ((cs0.length : Nat) : Int) false rfl rfl (decide_eq_false (by omega))) ?_
          simp only [Act.put, lzA, lzB, lzC]
          refine wpList_nil ?_
          refine hK7 _ _ ?_
          clear hK7 K7
          refine wp_seq_k (fun K8 hK8 => ?_)
          refine wp_cond_false rfl ?_
          refine wp_exit ?_
          refine hK5 _ _ ?_
          clear hK8 K8 hK5 K5
          refine wp_seq_k (fun K9 hK9 => ?_)
          refine wp_region_lit ?_
          refine wl_yield (o := ⟨_, _, _, _, _, _⟩) (.slice (some ⟨gO, 0, none⟩) cs0.length capO) (yl_move (by rfl) _ rfl _ rfl) ?_
          simp only [Act.put, lzA, lzB, lzC]
          refine wl_yield (o := ⟨_, _, _, _, _, _⟩) (.slice (some ⟨gO, 0, none⟩) cs0.length capO) (yl_assign (by rfl) _ rfl _ rfl) ?_
          simp only [Act.put, lzA, lzB, lzC]
          refine wpList_nil ?_
          refine hK9 _ _ ?_
          clear hK9 K9
          refine wp_ret ?_
          try simp only [Exit.inBlock, Exit.then]
          have DB := kb0.grown D kb0.size (fun z hz => by cases hz; exact hgO)
          have hns : NewSt w.heap.size wr cs L := ⟨⟨by omega, fun j hj => (hdone j (by omega)).1⟩, fun c hc => by
            obtain ⟨j, hj, e⟩ := mem_getD SC.zero hc
            rw [← e]
            exact (hdone j (by omega)).2.mono (by omega)⟩
          go_ret
          exact ⟨⟨_, rfl, cs, OwnT.mono ROW hmD, by omega, by rw [hL]; exact hns⟩, OKV.on DB, grown_below D0 DB⟩
theorem SetsAt.nil9 (w : World) : SetsAt w sl0.val [] := ⟨Nat.zero_le _, none, 0, rfl, fun i hi => absurd hi (Nat.not_lt_zero _)⟩
section
variable {ops : Array Oper} {S : World → Prop} {o : Oper} {a : Act}
theorem yq_lenNF (hw : Region.wanted o (yielded ops a.tmps) = true) (x : Operand) (ho : o.op = .call { callee := .builtin .len, args := #[x], argTypes := #[123] }) (hx : a.eval x = .slice none 0 0) : YieldsIf Tryz.prog ops S o (.int .i64 0) a :=
  Or.inl ⟨hw, fun w hS => by
    unfold execOp
    simp only [ho, resolve, invoke, builtin, Sem.run_bind, Sem.run_pure, Result.andThen_ok, List.map_toArray, List.map_cons, List.map_nil, hx]
    go_simp⟩
end
set_option maxHeartbeats 4000000 in
set_option maxRecDepth 100000 in
theorem new0_any (w : World) :
    Calls Tryz.prog 30 #[.slice none 0 0] w fun r w' => (∃ b, r = .returned (.pointer (some ⟨b, 0, none⟩)) ∧ w.heap.size ≤ b ∧ GridOk w' b (fun _ => [])) ∧ Below w.heap.size w w' := by
  have D : w.grownBy w none := grown_refl _ _
  go_enter Tryz.func30, Tryz.ntmps30
  refine wp_seq_k (fun K1 hK1 => ?_)
  refine wp_region_lit ?_
  refine wl_yield (o := ⟨_, _, _, _, _, _⟩) (.pointer none) (yl_assign (by rfl) _ rfl _ rfl) ?_
  simp only [Act.put, lzA, lzB, lzC]
  refine wpList_nil ?_
  refine hK1 _ _ ?_
  clear hK1 K1
  refine wp_seq_k (fun K2 hK2 => ?_)
  refine wp_region_lit ?_
  refine wq_allocG (o := ⟨_, _, _, _, _, _⟩) (by rfl) rfl (fun v1 g1 hg G kb => ?_)
  simp only [Act.put, lzA, lzB, lzC]
  replace D := grown_below D kb
  clear kb
  refine wl_yield (o := ⟨_, _, _, _, _, _⟩) (.pointer (some ⟨g1, 0, none⟩)) (yl_assign (by rfl) _ rfl _ rfl) ?_
  simp only [Act.put, lzA, lzB, lzC]
  refine wpList_nil ?_
  refine hK2 _ _ ?_
  clear hK2 K2
  refine wp_seq_k (fun K3 hK3 => ?_)
  refine wp_seq_k (fun K4 hK4 => ?_)
  refine wp_region_lit ?_
  refine wl_yield (o := ⟨_, _, _, _, _, _⟩) (.slice none 0 0) (yl_move (by rfl) _ rfl _ rfl) ?_
  simp only [Act.put, lzA, lzB, lzC]
  refine wl_yield (o := ⟨_, _, _, _, _, _⟩) (.int .i64 0) (yq_lenNF (by rfl) _ rfl rfl) ?_
  simp only [Act.put, lzA, lzB, lzC]
  refine wl_yield (o := ⟨_, _, _, _, _, _⟩) (.int .i64 0) (yl_move (by rfl) _ rfl _ rfl) ?_
  simp only [Act.put, lzA, lzB, lzC]
  refine wpList_nil ?_
  refine hK4 _ _ ?_
  clear hK4 K4
  refine wp_block ?_
  go_loopw [13] (fun i wr => i = .int .i64 0 ∧ wr = v1) (fun _ _ => 0)
  case atStart => exact ⟨rfl, rfl⟩
  case round =>
    obtain ⟨rfl, rfl⟩ := hrel
    refine wp_seq_k (fun K5 hK5 => ?_)
    refine wp_region_lit ?_
    refine wl_yield (o := ⟨_, _, _, _, _, _⟩) (.bool false) (yt_lssI (by rfl) _ _ _ rfl 0 0 false rfl rfl (by decide)) ?_
    simp only [Act.put, lzA, lzB, lzC]
    refine wpList_nil ?_
    refine hK5 _ _ ?_
    clear hK5 K5
    refine wp_seq_k (fun K6 hK6 => ?_)
    refine wp_cond_false rfl ?_
    refine wp_exit ?_
    refine hK3 _ _ ?_
    clear hK6 K6 hK3 K3
    refine wp_seq_k (fun K7 hK7 => ?_)
    refine wp_region_lit ?_
    refine wl_yield (o := ⟨_, _, _, _, _, _⟩) (.pointer (some ⟨g1, 0, none⟩)) (yl_move (by rfl) _ rfl _ rfl) ?_
    simp only [Act.put, lzA, lzB, lzC]
    refine wl_yield (o := ⟨_, _, _, _, _, _⟩) (.pointer (some ⟨g1, 0, none⟩)) (yl_assign (by rfl) _ rfl _ rfl) ?_
    simp only [Act.put, lzA, lzB, lzC]
    refine wpList_nil ?_
    refine hK7 _ _ ?_
    clear hK7 K7
    refine wp_ret ?_
    try simp only [Exit.inBlock, Exit.then]
    go_ret
    exact ⟨⟨g1, rfl, hg, Or.inl ⟨_, _, G, fun j _ => SetsAt.nil9 _⟩⟩, below_none D⟩
end Go.Proofs.YtjbgjdjmejhejaaGreatDoor
namespace Go.Proofs.YtjbgjdjmejhejaaGreatDoor
open Go.RowKit
def l5 : List SetV := [⟨false, [(1, 5)], false, []⟩]
def c5 : List SetV := [cellA, cellN (-9223372036854775808) 0, cellN 1 5, cellN 6 9223372036854775807, ⟨false, [], true, []⟩]
def c0 : List SetV := [cellA, cellN (-9223372036854775808) 9223372036854775807, ⟨false, [], true, []⟩]
theorem namesOf_nil : namesOf [] = [] := by unfold namesOf; rw [List.map_nil, List.mergeSort_nil]; rfl
theorem sorted_5 : sortedN (begL [(1, 5)]) = [-9223372036854775808, 1, 6] := by
  refine risesI_ext (sortedN_is _).1 ⟨fun b hb => ?_, ⟨fun b hb => ?_, ⟨fun b hb => by simp at hb, trivial⟩⟩⟩ (fun x => by rw [(sortedN_is _).2 x]; simp [begL, begR])
  · simp at hb; omega
  · simp at hb; omega
theorem sorted_0 : sortedN (begL []) = [-9223372036854775808] := by
  refine risesI_ext (sortedN_is _).1 ⟨fun b hb => by simp at hb, trivial⟩ (fun x => by rw [(sortedN_is _).2 x]; simp [begL])
theorem cutL_5 : cutL l5 = c5 := by
  have e1 : allR l5 = [(1, 5)] := rfl
  have e2 : allS l5 = [] := rfl
  unfold cutL
  rw [e1, e2, namesOf_nil, sorted_5]
  rfl
theorem cutL_0 : cutL [] = c0 := by
  have e1 : allR [] = [] := rfl
  have e2 : allS [] = [] := rfl
  unfold cutL
  rw [e1, e2, namesOf_nil, sorted_0]
  rfl
theorem few_5 : FewC l5 := fewC_of (fun S hS => by
  have : S = ⟨false, [(1, 5)], false, []⟩ := List.mem_singleton.1 hS
  subst this
  exact ⟨by decide, by decide⟩) (by decide)
theorem few_0 : FewC [] := fewC_of (fun S hS => by simp at hS) (by decide)
theorem itoa_0 : Lib.itoa ((0 : Nat) : Int) = [48] := by rw [Lib.itoa_nonneg]; unfold Lib.decDigits; rfl
theorem itoa_1 : Lib.itoa ((1 : Nat) : Int) = [49] := by rw [Lib.itoa_nonneg]; unfold Lib.decDigits; rfl
theorem fresh_a : freshC [⟨#[126, 48]⟩] = 1 := by
  refine (freshC_is _).1.uniq ⟨fun h => ?_, fun m hm => ?_⟩
  · have e := List.mem_singleton.1 h
    rw [← try_bs, itoa_1] at e
    exact absurd e (by decide)
  · obtain rfl : m = 0 := by omega
    rw [← try_bs, itoa_0]
    exact List.mem_singleton.2 rfl
def s1 : SetV := ⟨false, [], true, [⟨#[126, 48]⟩]⟩
theorem right_s1 : rightSet s1 = true := (rightSet_iff _).2 ⟨trivial, rightS_one (by decide)⟩
theorem fit_s1 : Fit s1 := ⟨⟨right_s1, fun r h => by cases h⟩, by decide, by decide⟩
theorem sample_s1 : sampleV s1 = some (2, 0, bs [126, 49]) := by
  unfold sampleV
  rw [if_pos right_s1]
  show some (2, 0, tryS tilde (freshC [⟨#[126, 48]⟩])) = _
  rw [fresh_a, ← try_bs, itoa_1]
  rfl
theorem has_c5 (j : Nat) (n : Int) : hasP (c5.getD j noSet) (1, n, noS) = inIntsB (c5.getD j noSet).ints n := by
  show hasB _ 1 n noS = _
  rw [has_1, rightB_1, Bool.true_and]
theorem which_6 : whichI c5 (1, 6, noS) = 3 := which_uniq (i := 3) (by decide) (by rw [has_c5]; decide) (fun j hj => by
  rw [has_c5]
  have : j = 0 ∨ j = 1 ∨ j = 2 := by omega
  rcases this with rfl | rfl | rfl <;> decide)
theorem which_7 : whichI c5 (7, 0, noS) = -1 := which_none (fun j hj => by
  show hasB _ 7 0 noS = false
  unfold hasB
  have : rightB 7 0 noS = false := rfl
  rw [this]; rfl)
theorem fit_cut {l : List SetV} (hl : InL l) (hf : FewC l) : ∀ S ∈ cutL l, Fit S := by
  intro S hS
  obtain ⟨i, hi, e⟩ := mem_getD noSet hS
  have h1 := cell_strs (B := sortedN (begL (allR l))) (N := namesOf (allS l)) hi
  have h2 := cutL_small hf S hS
  have h3 := cell_right (cut_of hl) hi
  rw [← e]
  refine ⟨⟨h3, ?_⟩, Nat.le_trans h1.2 (by decide), ?_⟩
  · show inI64 ((cellL (sortedN (begL (allR l))) (namesOf (allS l))).getD i noSet).ints
    rcases cellL_cases hi with rfl | ⟨j, hj, rfl⟩ | ⟨j, hj, rfl⟩ | rfl
    · rw [cellL_0]; intro r hr; cases hr
    · rw [cellL_num _ _ _ hj]; intro r hr
      have := (cut_of hl).hiIn j hj
      rw [show r = (_, _) from List.mem_singleton.1 hr]; dsimp only; omega
    · rw [cellL_str _ _ _ hj]; intro r hr; cases hr
    · rw [cellL_last]; intro r hr; cases hr
  · rw [← e] at h2; exact Nat.le_trans h2.2 (by decide)
theorem inL_5 : InL l5 := fun S hS => by
  have : S = ⟨false, [(1, 5)], false, []⟩ := List.mem_singleton.1 hS
  subst this
  exact ⟨fun r hr => by rw [List.mem_singleton.1 hr]; decide, fun s hs => by cases hs⟩
theorem fit_5 : ∀ S ∈ c5, Fit S := cutL_5 ▸ fit_cut inL_5 few_5
theorem sets_row1 {w : World} {g : Nat} {c : SC} {S : SetV} (h : StIn w g c) (hs : SetAt w c.val S) : SetsAt w (.slice (some ⟨g, 0, none⟩) 1 1) [S] :=
  sets_of_row (OwnT.row (ownT_one h (Nat.le_refl _)) (by simp)) ⟨rfl, fun i hi => by
    rw [List.length_singleton] at hi
    obtain rfl : i = 0 := by omega
    exact hs⟩
section
variable {ops : Array Oper} {S : World → Prop} {o : Oper} {a : Act}
theorem yq_eqRg (hw : Region.wanted o (yielded ops a.tmps) = true) (x y : Operand) (t : TypeId) (ho : o.op = .binOp .eql 111 x y t) (p q : Int) (hx : a.eval x = .agg #[.int .i64 p, .int .i64 q]) (hy : a.eval y = .agg #[.int .i64 p, .int .i64 q]) : YieldsIf Tryz.prog ops S o (.bool true) a :=
  Or.inl ⟨hw, fun w hS => by
    simp only [execOp, ho, hx, hy]
    go_simp⟩
end
theorem cnt_81 : ((cntU (fun _ => (cutL []).length) 4 : Nat) : Int) = 81 := by rw [cutL_0]; decide
set_option maxHeartbeats 4000000 in
set_option maxRecDepth 100000 in
theorem awake9_any (w : World) (HE : Env w) :
    Calls Tryz.prog 16 #[] w fun r w' => r = .returned (.bool true) ∧ Below w.heap.size w w' := by
  have w6 : 2 ≤ w.heap.size := HE.big
  have D : w.grownBy w none := grown_refl _ _
  go_enter Tryz.func16, Tryz.ntmps16
  refine wp_seq_k (fun K1 hK1 => ?_)
  refine wp_region_lit ?_
  refine wl_yield (o := ⟨_, _, _, _, _, _⟩) (.bool false) (yl_assign (by rfl) _ rfl _ rfl) ?_
  simp only [Act.put, lzA, lzB, lzC]
  refine wpList_nil ?_
  refine hK1 _ _ ?_
  clear hK1 K1
  refine wp_seq_k (fun K2 hK2 => ?_)
  refine wp_region_lit ?_
  refine wl_yield (o := ⟨_, _, _, _, _, _⟩) (.agg #[.int .i64 1, .int .i64 5]) (yt_buildR (by rfl) _ _ rfl 1 5 rfl rfl) ?_
  simp only [Act.put, lzA, lzB, lzC]
  refine wt_row1R (o := ⟨_, _, _, _, _, _⟩) (by rfl) _ rfl (1, 5) rfl (fun v1 g1 hg G1 kb => ?_)
  have ge_g1 : w.heap.size ≤ g1 := Nat.le_trans D.size hg
  have six_g1 : 2 ≤ g1 := Nat.le_trans w6 ge_g1
  clear hg
  replace D := grown_below D kb
  replace HE := HE.on kb
  clear kb
  simp only [Act.put, lzA, lzB, lzC]
  refine wl_yield (o := ⟨_, _, _, _, _, _⟩) (.agg #[.bool false, .slice (some ⟨g1, 0, none⟩) 1 1, .bool false, .slice none 0 0]) (yq_bS1 (by rfl) _ rfl (some ⟨g1, 0, none⟩) 1 1 rfl) ?_
  simp only [Act.put, lzA, lzB, lzC]
  refine wq_row1Q (o := ⟨_, _, _, _, _, _⟩) (by rfl) _ rfl ⟨false, (some ⟨g1, 0, none⟩), 1, 1, false, none, 0, 0⟩ rfl (fun v2 g2 hg G2 kb => ?_)
  have n_g1_g2 : g1 ≠ g2 := by have := lt_heap G1; omega
  have ge_g2 : w.heap.size ≤ g2 := Nat.le_trans D.size hg
  have six_g2 : 2 ≤ g2 := Nat.le_trans w6 ge_g2
  clear hg
  replace D := grown_below D kb
  replace HE := HE.on kb
  replace G1 := heap_on G1 kb
  clear kb
  replace G2 : v2.heap[g2]? = some (.cells #[.bool false, .slice (some ⟨g1, 0, none⟩) 1 1, .bool false, .slice none 0 0] 26 (0, 0)) := G2
  simp only [Act.put, lzA, lzB, lzC]
  refine wt_call (o := ⟨_, _, _, _, _, _⟩) (by rfl) 18 _ _ rfl #[.slice (some ⟨g2, 0, none⟩) 1 1] rfl (run_call Tryz.func18 (by kernel_rfl) (by kernel_rfl)) ?_
  refine (cut_any _ l5 _ (sets_row1 (c := ⟨false, some ⟨g1, 0, none⟩, 1, 1, false, none, 0, 0⟩) G2 ⟨_, _, rfl, one_rng G1 (by decide) (by decide), strs_none _⟩) few_5).mono ?_
  rintro r v3 (⟨⟨u, rfl, HC⟩, kb⟩)
  · replace D := grown_below D kb
    replace HE := HE.on kb
    replace G1 := heap_on G1 kb
    replace G2 := heap_on G2 kb
    clear kb
    obtain ⟨a5, cap5, rfl⟩ : ∃ a5 cap5, u = .slice a5 5 cap5 := by
      obtain ⟨q, e1, e2⟩ := HC.form
      rw [cutL_5] at e2
      exact ⟨q.p, q.c, by rw [e1]; unfold Sl.val; rw [e2]; rfl⟩
    have HS := HC.sets (Kept.refl _ _)
    rw [cutL_5] at HS
    clear HC
    have D2 : v3.grownBy v3 none := grown_refl _ _
    refine Or.inl ⟨.slice a5 5 cap5, rfl, ?_⟩
    simp only [Act.put, lzA, lzB, lzC]
    refine wl_yield (o := ⟨_, _, _, _, _, _⟩) (.slice a5 5 cap5) (yl_assign (by rfl) _ rfl _ rfl) ?_
    simp only [Act.put, lzA, lzB, lzC]
    refine wpList_nil ?_
    refine hK2 _ _ ?_
    clear hK2 K2
    refine wp_seq_k (fun K3 hK3 => ?_)
    refine wp_region_lit ?_
    refine wt_row1S (o := ⟨_, _, _, _, _, _⟩) (by rfl) _ rfl (bs ([126, 48])) rfl (fun v4 g4 hg G4 kb => ?_)
    have n_g1_g4 : g1 ≠ g4 := by have := lt_heap G1; omega
    have n_g2_g4 : g2 ≠ g4 := by have := lt_heap G2; omega
    have ge_g4 : w.heap.size ≤ g4 := Nat.le_trans D.size hg
    have ge_D2_g4 : v3.heap.size ≤ g4 := Nat.le_trans D2.size hg
    have six_g4 : 2 ≤ g4 := Nat.le_trans w6 ge_g4
    clear hg
    replace D := grown_below D kb
    replace HE := HE.on kb
    replace G1 := heap_on G1 kb
    replace G2 := heap_on G2 kb
    replace D2 := grown_below D2 kb
    clear kb
    simp only [Act.put, lzA, lzB, lzC]
    refine wl_yield (o := ⟨_, _, _, _, _, _⟩) (.agg #[.bool false, .slice none 0 0, .bool true, .slice (some ⟨g4, 0, none⟩) 1 1]) (yq_bS23 (by rfl) _ _ rfl true (some ⟨g4, 0, none⟩) 1 1 rfl rfl) ?_
    simp only [Act.put, lzA, lzB, lzC]
    refine wt_call (o := ⟨_, _, _, _, _, _⟩) (by rfl) 25 _ _ rfl #[.agg #[.bool false, .slice none 0 0, .bool true, .slice (some ⟨g4, 0, none⟩) 1 1]] rfl (run_call Tryz.func25 (by kernel_rfl) (by kernel_rfl)) ?_
    refine (sample_any _ s1 _ HE (show SetAt _ (SC.val ⟨false, none, 0, 0, true, some ⟨g4, 0, none⟩, 1, 1⟩) s1 from ⟨_, _, rfl, rngs_none _, one_str G4 (by decide)⟩) (fun _ => fit_s1)).mono ?_
    rintro r v5 (⟨rfl, kb⟩)
    · replace D := grown_below D kb
      replace HE := HE.on kb
      replace G1 := heap_on G1 kb
      replace G2 := heap_on G2 kb
      replace D2 := grown_below D2 kb
      replace G4 := heap_on G4 kb
      clear kb
      refine Or.inl ⟨.tuple #[.agg #[.int .i64 2, .int .i64 0, .string (bs ([126, 49]))], .bool true], by rw [sample_s1]; rfl, ?_⟩
      simp only [Act.put, lzA, lzB, lzC]
      refine wl_yield (o := ⟨_, _, _, _, _, _⟩) (.tuple #[.agg #[.int .i64 2, .int .i64 0, .string (bs ([126, 49]))], .bool true]) (yl_move (by rfl) _ rfl _ rfl) ?_
      simp only [Act.put, lzA, lzB, lzC]
      refine wl_yield (o := ⟨_, _, _, _, _, _⟩) (.agg #[.int .i64 2, .int .i64 0, .string (bs ([126, 49]))]) (yl_extract0 (by rfl) _ rfl _ _ rfl) ?_
      simp only [Act.put, lzA, lzB, lzC]
      refine wl_yield (o := ⟨_, _, _, _, _, _⟩) (.bool true) (yl_extract1 (by rfl) _ rfl _ _ rfl) ?_
      simp only [Act.put, lzA, lzB, lzC]
      refine wt_allocVa (o := ⟨_, _, _, _, _, _⟩) (by rfl) rfl (fun v6 g6 hg G6 kb => ?_)
      simp only [Act.put, lzA, lzB, lzC]
      have n_g1_g6 : g1 ≠ g6 := by have := lt_heap G1; omega
      have n_g2_g6 : g2 ≠ g6 := by have := lt_heap G2; omega
      have n_g4_g6 : g4 ≠ g6 := by have := lt_heap G4; omega
      have ge_g6 : w.heap.size ≤ g6 := Nat.le_trans D.size hg
      have ge_D2_g6 : v3.heap.size ≤ g6 := Nat.le_trans D2.size hg
      have six_g6 : 2 ≤ g6 := Nat.le_trans w6 ge_g6
      clear hg
      replace D := grown_below D kb
      replace HE := HE.on kb
      replace G1 := heap_on G1 kb
      replace G2 := heap_on G2 kb
      replace D2 := grown_below D2 kb
      replace G4 := heap_on G4 kb
      clear kb
      replace G6 : v6.heap[g6]? = some (.cells #[.int .i64 0, .int .i64 0, .string (bs ([]))] 48 (0, 0)) := G6
      refine wt_putVa (o := ⟨_, _, _, _, _, _⟩) rfl _ _ rfl _ rfl ((2, 0, (bs ([126, 49])))) rfl G6 rfl (fun v7 X kg => ?_)
      simp only [Act.put, lzA, lzB, lzC]
      replace D := gr_new D ge_g6 kg
      replace HE := Env.gr HE kg six_g6
      replace G1 := heap_gr G1 kg n_g1_g6
      replace G2 := heap_gr G2 kg n_g2_g6
      replace D2 := gr_new D2 ge_D2_g6 kg
      replace G4 := heap_gr G4 kg n_g4_g6
      clear kg
      replace G6 : v7.heap[g6]? = some (.cells #[.int .i64 2, .int .i64 0, .string (bs ([126, 49]))] 48 (0, 0)) := X
      clear X
      refine wl_yield (o := ⟨_, _, _, _, _, _⟩) (.bool true) (yl_assign (by rfl) _ rfl _ rfl) ?_
      simp only [Act.put, lzA, lzB, lzC]
      refine wpList_nil ?_
      refine hK3 _ _ ?_
      clear hK3 K3
      refine wp_seq_k (fun K4 hK4 => ?_)
      refine wp_region_lit ?_
      refine wt_call (o := ⟨_, _, _, _, _, _⟩) (by rfl) 30 _ _ rfl #[.slice none 0 0] rfl (run_call Tryz.func30 (by kernel_rfl) (by kernel_rfl)) ?_
      refine (new0_any _).mono ?_
      rintro r v8 (⟨⟨b9, rfl, hb, OK⟩, kb⟩)
      · have hgb := Nat.le_trans D.size hb
        replace D := grown_below D kb
        replace HE := HE.on kb
        replace G1 := heap_on G1 kb
        replace G2 := heap_on G2 kb
        replace D2 := grown_below D2 kb
        replace G4 := heap_on G4 kb
        replace G6 := heap_on G6 kb
        clear kb
        have HS1 := HS.on (below_none D2)
        obtain ⟨gC, oC, vi0, vs0, rfl, hgC, A0, -, -, -, -, -⟩ := HS1.at.2 0 (by decide)
        obtain ⟨g2', o2', vi2, vs2, e2, -, -, A2, -, -, RI2, -⟩ := HS1.at.2 2 (by decide)
        obtain ⟨g4', o4', vi4, vs4, e4, -, -, -, A4, -, -, -⟩ := HS1.at.2 4 (by decide)
        injection e2 with e2
        injection e2 with e2 e2'
        subst e2 e2'
        injection e4 with e4
        injection e4 with e4 e4'
        subst e4 e4'
        obtain ⟨aI, cI, rfl⟩ := RI2.form
        obtain ⟨gI, oI, rfl, -, B0, B1⟩ := RI2.at.2 0 (by decide)
        refine Or.inl ⟨.pointer (some ⟨b9, 0, none⟩), rfl, ?_⟩
        simp only [Act.put, lzA, lzB, lzC]
        refine wl_yield (o := ⟨_, _, _, _, _, _⟩) (.pointer (some ⟨b9, 0, none⟩)) (yl_assign (by rfl) _ rfl _ rfl) ?_
        simp only [Act.put, lzA, lzB, lzC]
        refine wpList_nil ?_
        refine hK4 _ _ ?_
        clear hK4 K4
        refine wp_seq_k (fun K5 hK5 => ?_)
        refine wp_region_lit ?_
        refine wl_yield (o := ⟨_, _, _, _, _, _⟩) (.slice (some ⟨gC, oC, none⟩) 5 cap5) (yl_move (by rfl) _ rfl _ rfl) ?_
        simp only [Act.put, lzA, lzB, lzC]
        refine wl_yield (o := ⟨_, _, _, _, _, _⟩) (.int .i64 5) (yt_lenQ (by rfl) _ rfl (some ⟨gC, oC, none⟩) 5 cap5 rfl) ?_
        simp only [Act.put, lzA, lzB, lzC]
        refine wl_yield (o := ⟨_, _, _, _, _, _⟩) (.bool true) (yt_eqlI (by rfl) _ _ _ rfl 5 5 true rfl rfl (by decide)) ?_
        simp only [Act.put, lzA, lzB, lzC]
        refine wl_yield (o := ⟨_, _, _, _, _, _⟩) (.bool true) (yl_move (by rfl) _ rfl _ rfl) ?_
        simp only [Act.put, lzA, lzB, lzC]
        refine wl_yield (o := ⟨_, _, _, _, _, _⟩) (.slice (some ⟨gC, oC, none⟩) 5 cap5) (yl_move (by rfl) _ rfl _ rfl) ?_
        simp only [Act.put, lzA, lzB, lzC]
        refine wl_yield (o := ⟨_, _, _, _, _, _⟩) (.pointer (some ⟨gC, oC + 0 * 4, none⟩)) (yt_atQ (by rfl) _ _ rfl gC oC _ _ 0 rfl rfl (by decide)) ?_
        simp only [Act.put, lzA, lzB, lzC]
        refine wl_yield (o := ⟨_, _, _, _, _, _⟩) (.pointer (some ⟨gC, oC + 0 * 4 + 0, none⟩)) (yt_fSt0 (by rfl) _ rfl gC (oC + 0 * 4) rfl) ?_
        simp only [Act.put, lzA, lzB, lzC]
        refine wl_yield (o := ⟨_, _, _, _, _, _⟩) (.bool true) (yt_ldB (by rfl) _ rfl _ _ rfl _ (fun _ h => by subst h; exact A0)) ?_
        simp only [Act.put, lzA, lzB, lzC]
        refine wl_yield (o := ⟨_, _, _, _, _, _⟩) (.bool true) (yl_pickT (by rfl) _ _ _ rfl rfl _ rfl) ?_
        simp only [Act.put, lzA, lzB, lzC]
        refine wl_yield (o := ⟨_, _, _, _, _, _⟩) (.bool true) (yl_move (by rfl) _ rfl _ rfl) ?_
        simp only [Act.put, lzA, lzB, lzC]
        refine wl_yield (o := ⟨_, _, _, _, _, _⟩) (.slice (some ⟨gC, oC, none⟩) 5 cap5) (yl_move (by rfl) _ rfl _ rfl) ?_
        simp only [Act.put, lzA, lzB, lzC]
        refine wl_yield (o := ⟨_, _, _, _, _, _⟩) (.pointer (some ⟨gC, oC + 2 * 4, none⟩)) (yt_atQ (by rfl) _ _ rfl gC oC _ _ 2 rfl rfl (by decide)) ?_
        simp only [Act.put, lzA, lzB, lzC]
        refine wl_yield (o := ⟨_, _, _, _, _, _⟩) (.pointer (some ⟨gC, oC + 2 * 4 + 1, none⟩)) (yt_fSt1 (by rfl) _ rfl gC (oC + 2 * 4) rfl) ?_
        simp only [Act.put, lzA, lzB, lzC]
        refine wl_yield (o := ⟨_, _, _, _, _, _⟩) (.slice (some ⟨gI, oI, none⟩) 1 cI) (yt_ldLr (by rfl) _ rfl _ _ rfl _ _ _ (fun _ h => by subst h; exact A2)) ?_
        simp only [Act.put, lzA, lzB, lzC]
        refine wl_yield (o := ⟨_, _, _, _, _, _⟩) (.int .i64 1) (yt_lenR (by rfl) _ rfl (some ⟨gI, oI, none⟩) 1 cI rfl) ?_
        simp only [Act.put, lzA, lzB, lzC]
        refine wl_yield (o := ⟨_, _, _, _, _, _⟩) (.bool true) (yt_eqlI (by rfl) _ _ _ rfl 1 1 true rfl rfl (by decide)) ?_
        simp only [Act.put, lzA, lzB, lzC]
        refine wl_yield (o := ⟨_, _, _, _, _, _⟩) (.bool true) (yl_pickT (by rfl) _ _ _ rfl rfl _ rfl) ?_
        simp only [Act.put, lzA, lzB, lzC]
        refine wl_yield (o := ⟨_, _, _, _, _, _⟩) (.bool true) (yl_move (by rfl) _ rfl _ rfl) ?_
        simp only [Act.put, lzA, lzB, lzC]
        refine wl_yield (o := ⟨_, _, _, _, _, _⟩) (.slice (some ⟨gC, oC, none⟩) 5 cap5) (yl_move (by rfl) _ rfl _ rfl) ?_
        simp only [Act.put, lzA, lzB, lzC]
        refine wl_yield (o := ⟨_, _, _, _, _, _⟩) (.pointer (some ⟨gC, oC + 2 * 4, none⟩)) (yt_atQ (by rfl) _ _ rfl gC oC _ _ 2 rfl rfl (by decide)) ?_
        simp only [Act.put, lzA, lzB, lzC]
        refine wl_yield (o := ⟨_, _, _, _, _, _⟩) (.pointer (some ⟨gC, oC + 2 * 4 + 1, none⟩)) (yt_fSt1 (by rfl) _ rfl gC (oC + 2 * 4) rfl) ?_
        simp only [Act.put, lzA, lzB, lzC]
        refine wl_yield (o := ⟨_, _, _, _, _, _⟩) (.slice (some ⟨gI, oI, none⟩) 1 cI) (yt_ldLr (by rfl) _ rfl _ _ rfl _ _ _ (fun _ h => by subst h; exact A2)) ?_
        simp only [Act.put, lzA, lzB, lzC]
        refine wl_yield (o := ⟨_, _, _, _, _, _⟩) (.pointer (some ⟨gI, oI + 0 * 2, none⟩)) (yt_atR (by rfl) _ _ rfl gI oI _ _ 0 rfl rfl (by decide)) ?_
        simp only [Act.put, lzA, lzB, lzC]
        refine wl_yield (o := ⟨_, _, _, _, _, _⟩) (.agg #[.int .i64 1, .int .i64 5]) (yt_ldRg (by rfl) _ rfl _ _ rfl _ _ (fun _ h => by subst h; exact ⟨B0, B1⟩)) ?_
        simp only [Act.put, lzA, lzB, lzC]
        refine wl_yield (o := ⟨_, _, _, _, _, _⟩) (.agg #[.int .i64 1, .int .i64 5]) (yt_buildR (by rfl) _ _ rfl 1 5 rfl rfl) ?_
        simp only [Act.put, lzA, lzB, lzC]
        refine wl_yield (o := ⟨_, _, _, _, _, _⟩) (.bool true) (yq_eqRg (by rfl) _ _ _ rfl 1 5 rfl rfl) ?_
        simp only [Act.put, lzA, lzB, lzC]
        refine wl_yield (o := ⟨_, _, _, _, _, _⟩) (.bool true) (yl_pickT (by rfl) _ _ _ rfl rfl _ rfl) ?_
        simp only [Act.put, lzA, lzB, lzC]
        refine wl_yield (o := ⟨_, _, _, _, _, _⟩) (.bool true) (yl_move (by rfl) _ rfl _ rfl) ?_
        simp only [Act.put, lzA, lzB, lzC]
        refine wl_yield (o := ⟨_, _, _, _, _, _⟩) (.slice (some ⟨gC, oC, none⟩) 5 cap5) (yl_move (by rfl) _ rfl _ rfl) ?_
        simp only [Act.put, lzA, lzB, lzC]
        refine wl_yield (o := ⟨_, _, _, _, _, _⟩) (.pointer (some ⟨gC, oC + 4 * 4, none⟩)) (yt_atQ (by rfl) _ _ rfl gC oC _ _ 4 rfl rfl (by decide)) ?_
        simp only [Act.put, lzA, lzB, lzC]
        refine wl_yield (o := ⟨_, _, _, _, _, _⟩) (.pointer (some ⟨gC, oC + 4 * 4 + 2, none⟩)) (yt_fSt2 (by rfl) _ rfl gC (oC + 4 * 4) rfl) ?_
        simp only [Act.put, lzA, lzB, lzC]
        refine wl_yield (o := ⟨_, _, _, _, _, _⟩) (.bool true) (yt_ldB (by rfl) _ rfl _ _ rfl _ (fun _ h => by subst h; exact A4)) ?_
        simp only [Act.put, lzA, lzB, lzC]
        refine wl_yield (o := ⟨_, _, _, _, _, _⟩) (.bool true) (yl_pickT (by rfl) _ _ _ rfl rfl _ rfl) ?_
        simp only [Act.put, lzA, lzB, lzC]
        refine wl_yield (o := ⟨_, _, _, _, _, _⟩) (.bool true) (yl_move (by rfl) _ rfl _ rfl) ?_
        simp only [Act.put, lzA, lzB, lzC]
        refine wl_yield (o := ⟨_, _, _, _, _, _⟩) (.bool true) (yl_move (by rfl) _ rfl _ rfl) ?_
        simp only [Act.put, lzA, lzB, lzC]
        refine wl_yield (o := ⟨_, _, _, _, _, _⟩) (.bool true) (yl_pickT (by rfl) _ _ _ rfl rfl _ rfl) ?_
        simp only [Act.put, lzA, lzB, lzC]
        refine wl_yield (o := ⟨_, _, _, _, _, _⟩) (.bool true) (yl_move (by rfl) _ rfl _ rfl) ?_
        simp only [Act.put, lzA, lzB, lzC]
        refine wl_yield (o := ⟨_, _, _, _, _, _⟩) (.pointer (some ⟨g6, 2, none⟩)) (yt_fVa2 (by rfl) _ rfl g6 0 rfl) ?_
        simp only [Act.put, lzA, lzB, lzC]
        refine wl_yield (o := ⟨_, _, _, _, _, _⟩) (.string (bs ([126, 49]))) (yt_ldS (by rfl) _ rfl _ _ rfl (bs ([126, 49])) (fun _ h => by subst h; exact cell_heap G6 2)) ?_
        simp only [Act.put, lzA, lzB, lzC]
        refine wl_yield (o := ⟨_, _, _, _, _, _⟩) (.bool true) (yt_eqS (by rfl) _ _ _ rfl ([126, 49]) ([126, 49]) true rfl rfl (by decide)) ?_
        simp only [Act.put, lzA, lzB, lzC]
        refine wl_yield (o := ⟨_, _, _, _, _, _⟩) (.bool true) (yl_pickT (by rfl) _ _ _ rfl rfl _ rfl) ?_
        simp only [Act.put, lzA, lzB, lzC]
        refine wl_yield (o := ⟨_, _, _, _, _, _⟩) (.bool true) (yl_move (by rfl) _ rfl _ rfl) ?_
        simp only [Act.put, lzA, lzB, lzC]
        refine wl_yield (o := ⟨_, _, _, _, _, _⟩) (.slice (some ⟨gC, oC, none⟩) 5 cap5) (yl_move (by rfl) _ rfl _ rfl) ?_
        simp only [Act.put, lzA, lzB, lzC]
        refine wl_yield (o := ⟨_, _, _, _, _, _⟩) (.agg #[.int .i64 1, .int .i64 6, .string ⟨#[]⟩]) (yq_bV2 (by rfl) _ _ rfl 1 6 rfl rfl) ?_
        simp only [Act.put, lzA, lzB, lzC]
        refine wt_call (o := ⟨_, _, _, _, _, _⟩) (by rfl) 27 _ _ rfl #[.slice (some ⟨gC, oC, none⟩) 5 cap5, .agg #[.int .i64 1, .int .i64 6, .string ⟨#[]⟩]] rfl (run_call Tryz.func27 (by kernel_rfl) (by kernel_rfl)) ?_
        refine (which_any _ c5 (1, 6, noS) _ (HS.on (below_none D2)) fit_5 (by decide)).mono ?_
        rintro r v9 (⟨rfl, kb⟩)
        · replace D := grown_below D kb
          replace HE := HE.on kb
          replace G1 := heap_on G1 kb
          replace G2 := heap_on G2 kb
          replace D2 := grown_below D2 kb
          replace G4 := heap_on G4 kb
          replace G6 := heap_on G6 kb
          replace OK := OK.on kb
          clear kb
          refine Or.inl ⟨.int .i64 3, ret_int which_6, ?_⟩
          simp only [Act.put, lzA, lzB, lzC]
          refine wl_yield (o := ⟨_, _, _, _, _, _⟩) (.bool true) (yt_eqlI (by rfl) _ _ _ rfl 3 3 true rfl rfl (by decide)) ?_
          simp only [Act.put, lzA, lzB, lzC]
          refine wl_yield (o := ⟨_, _, _, _, _, _⟩) (.bool true) (yl_pickT (by rfl) _ _ _ rfl rfl _ rfl) ?_
          simp only [Act.put, lzA, lzB, lzC]
          refine wl_yield (o := ⟨_, _, _, _, _, _⟩) (.bool true) (yl_move (by rfl) _ rfl _ rfl) ?_
          simp only [Act.put, lzA, lzB, lzC]
          refine wl_yield (o := ⟨_, _, _, _, _, _⟩) (.slice (some ⟨gC, oC, none⟩) 5 cap5) (yl_move (by rfl) _ rfl _ rfl) ?_
          simp only [Act.put, lzA, lzB, lzC]
          refine wl_yield (o := ⟨_, _, _, _, _, _⟩) (.agg #[.int .i64 7, .int .i64 0, .string ⟨#[]⟩]) (yq_bV1 (by rfl) _ rfl 7 rfl) ?_
          simp only [Act.put, lzA, lzB, lzC]
          refine wt_call (o := ⟨_, _, _, _, _, _⟩) (by rfl) 27 _ _ rfl #[.slice (some ⟨gC, oC, none⟩) 5 cap5, .agg #[.int .i64 7, .int .i64 0, .string ⟨#[]⟩]] rfl (run_call Tryz.func27 (by kernel_rfl) (by kernel_rfl)) ?_
          refine (which_any _ c5 (7, 0, noS) _ (HS.on (below_none D2)) fit_5 (by decide)).mono ?_
          rintro r v10 (⟨rfl, kb⟩)
          · replace D := grown_below D kb
            replace HE := HE.on kb
            replace G1 := heap_on G1 kb
            replace G2 := heap_on G2 kb
            replace D2 := grown_below D2 kb
            replace G4 := heap_on G4 kb
            replace G6 := heap_on G6 kb
            replace OK := OK.on kb
            clear kb
            refine Or.inl ⟨.int .i64 (-1), ret_int which_7, ?_⟩
            simp only [Act.put, lzA, lzB, lzC]
            refine wl_yield (o := ⟨_, _, _, _, _, _⟩) (.bool true) (yt_eqlI (by rfl) _ _ _ rfl (-1) (-1) true rfl rfl (by decide)) ?_
            simp only [Act.put, lzA, lzB, lzC]
            refine wl_yield (o := ⟨_, _, _, _, _, _⟩) (.bool true) (yl_pickT (by rfl) _ _ _ rfl rfl _ rfl) ?_
            simp only [Act.put, lzA, lzB, lzC]
            refine wl_yield (o := ⟨_, _, _, _, _, _⟩) (.bool true) (yl_move (by rfl) _ rfl _ rfl) ?_
            simp only [Act.put, lzA, lzB, lzC]
            refine wl_yield (o := ⟨_, _, _, _, _, _⟩) (.pointer (some ⟨b9, 0, none⟩)) (yl_move (by rfl) _ rfl _ rfl) ?_
            simp only [Act.put, lzA, lzB, lzC]
            refine wt_call (o := ⟨_, _, _, _, _, _⟩) (by rfl) 32 _ _ rfl #[.pointer (some ⟨b9, 0, none⟩)] rfl (run_call Tryz.func32 (by kernel_rfl) (by kernel_rfl)) ?_
            refine (count_any b9 (fun _ => []) _ OK (fun _ _ => few_0)).mono ?_
            rintro r v11 (⟨rfl, ok, kg⟩)
            · replace D := gr_new D hgb kg
              clear OK HS HE D2
              have OK := ok
              clear ok kg
              refine Or.inl ⟨.int .i64 81, ret_int cnt_81, ?_⟩
              simp only [Act.put, lzA, lzB, lzC]
              refine wl_yield (o := ⟨_, _, _, _, _, _⟩) (.bool true) (yt_eqlI (by rfl) _ _ _ rfl 81 81 true rfl rfl (by decide)) ?_
              simp only [Act.put, lzA, lzB, lzC]
              refine wl_yield (o := ⟨_, _, _, _, _, _⟩) (.bool true) (yl_pickT (by rfl) _ _ _ rfl rfl _ rfl) ?_
              simp only [Act.put, lzA, lzB, lzC]
              refine wl_yield (o := ⟨_, _, _, _, _, _⟩) (.bool true) (yl_move (by rfl) _ rfl _ rfl) ?_
              simp only [Act.put, lzA, lzB, lzC]
              refine wl_yield (o := ⟨_, _, _, _, _, _⟩) (.pointer (some ⟨b9, 0, none⟩)) (yl_move (by rfl) _ rfl _ rfl) ?_
              simp only [Act.put, lzA, lzB, lzC]
              refine wt_call (o := ⟨_, _, _, _, _, _⟩) (by rfl) 31 _ _ rfl #[.pointer (some ⟨b9, 0, none⟩), .int .i64 0] rfl (run_call Tryz.func31 (by kernel_rfl) (by kernel_rfl)) ?_
              refine (attr_any b9 0 (by decide) (fun _ => []) _ OK (fun _ _ => few_0)).mono ?_
              rintro r v12 (⟨⟨u9, rfl, HC9⟩, ok, kg⟩)
              · replace D := gr_new D hgb kg
                obtain ⟨q9, rfl, hq9⟩ := HC9.form
                rw [cutL_0] at hq9
                clear OK ok kg
                refine Or.inl ⟨Sl.val q9, rfl, ?_⟩
                simp only [Act.put, lzA, lzB, lzC]
                refine wl_yield (o := ⟨_, _, _, _, _, _⟩) (.int .i64 (q9.n : Nat)) (yt_lenQ (by rfl) _ rfl q9.p q9.n q9.c rfl) ?_
                simp only [Act.put, lzA, lzB, lzC]
                refine wl_yield (o := ⟨_, _, _, _, _, _⟩) (.bool true) (yt_eqlI (by rfl) _ _ _ rfl ((q9.n : Nat) : Int) 3 true rfl rfl (by rw [hq9]; decide)) ?_
                simp only [Act.put, lzA, lzB, lzC]
                refine wl_yield (o := ⟨_, _, _, _, _, _⟩) (.bool true) (yl_pickT (by rfl) _ _ _ rfl rfl _ rfl) ?_
                simp only [Act.put, lzA, lzB, lzC]
                refine wl_yield (o := ⟨_, _, _, _, _, _⟩) (.bool true) (yl_assign (by rfl) _ rfl _ rfl) ?_
                simp only [Act.put, lzA, lzB, lzC]
                refine wpList_nil ?_
                refine hK5 _ _ ?_
                clear hK5 K5
                refine wp_ret ?_
                try simp only [Exit.inBlock, Exit.then]
                go_ret
                exact ⟨rfl, below_none D⟩
end Go.Proofs.YtjbgjdjmejhejaaGreatDoor
namespace Go.Proofs.YtjbgjdjmejhejaaGreatDoor
open Go.RowKit
attribute [local go_sem ↓] Go.wp_at_zero Go.wp_at_succ
theorem conv_one (W : World) (g : Nat) (c : UInt8) (h : W.cell? ⟨g, 0, none⟩ = some (.int .u8 (c.toNat : Int))) : (convert 178 9 (.slice (some ⟨g, 0, none⟩) 1 1)).run Tryz.prog W = .ok (.string ⟨#[c]⟩) W := by
  refine run_convert_bytes_back (P := Tryz.prog) W 178 9 5 ⟨g, 0, none⟩ 1 [c] Tryz.underlying178 Tryz.underlying5 Tryz.underlying9 (fun j hj => ?_)
  match j, hj with
  | 0, _ => simpa [Addr.add] using h
set_option maxHeartbeats 1000000 in
set_option maxRecDepth 100000 in
theorem digits_any (u : Nat) : ∀ (w : World), u < 18446744073709551616 →
    Calls Tryz.prog 119 #[.int .u64 (u : Int)] w fun e w' => e = .returned (.string ⟨(Lib.decDigits u).toArray⟩) ∧ Below w.heap.size w w' := by
  induction u using Nat.strongRecOn with
  | _ u ih =>
    intro w hu
    by_cases h10 : u < 10
    · have hd := Lib.decDigits_one h10
      have h10' : (u : Int) < 10 := by omega
      have hr := one_dig u h10
      generalize UInt8.ofNat (48 + u) = c at *
      have hcv : ∀ (W : World) (g : Nat), W.cell? ⟨g, 0, none⟩ = some (.int .u8 (48 + (u : Int))) → (convert 178 9 (.slice (some ⟨g, 0, none⟩) 1 1)).run Tryz.prog W = .ok (.string ⟨#[c]⟩) W := fun W g h => conv_one W g c (by rw [h, hr])
      clear hr
      have Hd := hide hd
      clear ih hd
      go_enter Tryz.func119, Tryz.ntmps119
      go_wp2
      go_ret
      exact ⟨ret_str (by rw [Hd.out]), (Below.refl _ _).alloc (Nat.le_refl _) _⟩
    · have h10' : ¬ (u : Int) < 10 := by omega
      have hd : Lib.decDigits u = Lib.decDigits (u / 10) ++ [UInt8.ofNat (48 + u % 10)] := by rw [Lib.decDigits, dif_neg h10]
      have IH : ∀ W : World, Hid (Calls Tryz.prog 119 #[.int .u64 ((u : Int) / 10)] W fun e w' => e = .returned (.string ⟨(Lib.decDigits (u / 10)).toArray⟩) ∧ Below W.heap.size W w') := fun W => hide (by
        have h := ih (u / 10) (by omega) W (by omega)
        rw [show ((u / 10 : Nat) : Int) = (u : Int) / 10 by omega] at h
        exact h)
      have hq : IntKind.u64.wrap ((u : Int) / 10) = (u : Int) / 10 := by rw [IntKind.wrap_u64]; omega
      have hr := last_dig u hu
      have hn := dec_short (u / 10) (by omega)
      generalize UInt8.ofNat (48 + u % 10) = c at *
      generalize Lib.decDigits (u / 10) = D at *
      have hcv := fun (W : World) (g : Nat) => conv_one W g c
      have Hd := hide hd
      clear ih hd
      go_enter Tryz.func119, Tryz.ntmps119
      go_wp2
      go_region_with (go_at_call 119; refine (unhide (IH _)).mono ?_; rintro e w1 ⟨rfl, hb1⟩; obtain ⟨hc, hf⟩ := bcell hb1)
      all_goals
        go_wp2
        go_ret
        refine ⟨ret_str (by rw [Hd.out]; exact mk_append D [c]), ?_⟩
      all_goals first
        | exact (below_undrew hb1).alloc (below_undrew hb1).size _
        | exact below_undrew (below_alloc hb1)
set_option maxHeartbeats 1000000 in
set_option maxRecDepth 100000 in
theorem decimal_any (n : Int) (h0 : -9223372036854775808 ≤ n) (h1 : n ≤ 9223372036854775807) (w : World) :
    Calls Tryz.prog 68 #[.int .i64 n] w fun e w' => e = .returned (.string ⟨(Lib.itoa n).toArray⟩) ∧ Below w.heap.size w w' := by
  by_cases hn : n < 0
  · obtain ⟨u, rfl⟩ : ∃ u : Nat, n = -(u : Int) := ⟨n.natAbs, by omega⟩
    have Hd := hide (Lib.itoa_neg u (by omega))
    have hl := dec_short u (by omega)
    have HD := fun (W : World) => hide (digits_any u W (by omega))
    generalize Lib.decDigits u = D at *
    go_enter Tryz.func68, Tryz.ntmps68
    go_wp2_with fail
    rw [show -(-(u : Int) + 1) + 1 = (u : Int) by omega]
    refine (unhide (HD _)).mono ?_
    rintro e w1 ⟨rfl, hb1⟩
    go_wp2
    go_ret
    exact ⟨ret_str (by rw [Hd.out]; exact mk_append [45] D), hb1⟩
  · obtain ⟨u, rfl⟩ : ∃ u : Nat, n = (u : Int) := ⟨n.toNat, by omega⟩
    have Hd := hide (Lib.itoa_nonneg u)
    have HD := fun (W : World) => hide (digits_any u W (by omega))
    generalize Lib.decDigits u = D at *
    go_enter Tryz.func68, Tryz.ntmps68
    go_wp2_with (go_at_call 119; refine (unhide (HD _)).mono ?_; rintro e w1 ⟨rfl, hb1⟩)
    go_ret
    exact ⟨ret_str (by rw [Hd.out]), hb1⟩
end Go.Proofs.YtjbgjdjmejhejaaGreatDoor
namespace Go.Proofs.YtjbgjdjmejhejaaGreatDoor
open Go.RowKit
section
variable {ops : Array Oper} {S : World → Prop} {o : Oper} {a : Act}
end
end Go.Proofs.YtjbgjdjmejhejaaGreatDoor
namespace Go.Proofs.YtjbgjdjmejhejaaGreatDoor
open Go.RowKit
section
variable {ops : Array Oper} {S : World → Prop} {o : Oper} {a : Act}
end
theorem few_len9 {S : SetV} (h : fewB S = true) : S.ints.length ≤ 40 ∧ S.strs.length ≤ 40 := by
  unfold fewB at h
  simp only [Bool.and_eq_true, decide_eq_true_eq] at h
  exact ⟨by omega, by omega⟩
end Go.Proofs.YtjbgjdjmejhejaaGreatDoor
namespace Go.Proofs.YtjbgjdjmejhejaaGreatDoor
open Go.Deep Go.ChangeShapes Go.WideShapes Go.ChangeAt Go.WideMaps Go.WideElems Go.RowKit Go.Joins
section
variable {H : Type} {enc : TypeId × Value → H} {W : World}
theorem open_set9c {fuel : Nat} {cs : List Value} {z : DataW H × List MemPlace} (hl : cs.length = 4) (hf : DataW.trod enc Tryz.prog W 0 (fun _ => true) true fuel 26 cs = some z) : ∃ (c : SC) (S : SetV), cs = c.lst ∧ SetAt W c.val S := by
  match cs, hl with
  | [c0, c1, c2, c3], _ =>
    obtain ⟨S0, h0⟩ := open_setc hf
    obtain ⟨s0, e0⟩ := h0.sc
    rw [e0] at h0
    unfold SC.val at e0
    simp at e0
    obtain ⟨rfl, rfl, rfl, rfl⟩ := e0
    exact ⟨s0, S0, rfl, h0⟩
set_option maxRecDepth 100000 in
theorem open_setsA {r : Reach} {b0 : Nat} {v : Value} {d : DataW H} {p : List MemPlace} (hv : Value.okWide Tryz.prog W r b0 39 v) (h : DataW.Trod enc Tryz.prog W 0 (fun _ => true) true 39 v d p) :
    ∃ l : List SetV, Sts W v l ∧ nilOkQ v := by
  obtain ⟨a0, len0, cap0, rfl⟩ := Go.WideShapes.okWide_slice Tryz.underlying39 hv
  obtain ⟨fuel, hf⟩ := h
  rcases DataW.trod_slice Tryz.underlying39 hf with ⟨h0, _⟩ | ⟨a, len, cap, elems, rest, n', rfl, h0, _, hb, hlc, hm, hel, he, _, _⟩
  · simp [Value.cells] at h0
    obtain ⟨rfl, rfl, rfl⟩ := h0
    exact ⟨[], sts_nil W, fun _ _ _ => rfl⟩
  · simp [Value.cells] at h0
    obtain ⟨rfl, rfl, rfl⟩ := h0
    have hone : ∀ i, i < len0 → ∃ cs' z, W.cells? 0 (a.add (i * 4)) 4 = some cs' ∧ DataW.trod enc Tryz.prog W 0 (fun _ => true) true n' 26 cs' = some z := fun i hi => by
      have h1 := he i hi
      rw [cellsSet, List.getElem?_eq_getElem (by omega), Option.bind_eq_some_iff] at h1
      obtain ⟨cs', h2, h3⟩ := h1
      exact ⟨cs', _, h2, h3⟩
    have hspot : 0 < len0 → a.spot = none := fun hpos => by
      obtain ⟨cs0, _, z1, _⟩ := hone 0 hpos
      obtain ⟨_, zl, zc⟩ := World.cells?_some z1
      have z0 := zc 0 (by omega)
      rw [List.getElem?_eq_getElem (by omega)] at z0
      simpa [Addr.add] using World.cell?_spot z0
    have hall : ∀ i, i < len0 → ∃ q : SC × SetV, W.rangeAt a.block (a.off + i * 4) q.1.lst ∧ SetAt W q.1.val q.2 := fun i hi => by
      obtain ⟨cs', z, h1, h2⟩ := hone i hi
      obtain ⟨_, zl, zc⟩ := World.cells?_some h1
      obtain ⟨c, b, hd, hx⟩ := open_set9c zl h2
      obtain ⟨bk, off, spot⟩ := a
      have hs : spot = none := hspot (by omega)
      subst hs hd
      have fj : ∀ j, ((Addr.mk bk off none).add (i * 4)).add j = ⟨bk, off + i * 4 + j, none⟩ := fun j => by rw [Go.Deep.add_add, Go.WideShapes.add_plain]; congr 1; omega
      refine ⟨(c, b), fun j u hu => ?_, hx⟩
      have hj : j < 4 := by
        have := (List.getElem?_eq_some_iff.1 hu).1
        rwa [SC.lst_len] at this
      have q := zc j hj
      rw [fj] at q
      exact q.trans hu
    have : Inhabited (SC × SetV) := ⟨(SC.zero, noSet)⟩
    obtain ⟨f, hf'⟩ := choose_lt hall
    refine ⟨(List.range len0).map fun i => (f i).2, ⟨(List.range len0).map fun i => (f i).1, ⟨by simp; unfold maxLen at hm; omega, some a, cap0, by simp, fun i hi => ?_⟩, by simp, fun i hi => ?_⟩, fun n c e => by cases e⟩
    · simp at hi
      obtain ⟨q1, q2⟩ := hf' i hi
      have hsp := hspot (by omega)
      have hg : ((List.range len0).map fun i => (f i).1).getD i SC.zero = (f i).1 := by
        rw [List.getD_eq_getElem?_getD, List.getElem?_map, List.getElem?_range hi]
        rfl
      rw [hg]
      refine ⟨a.block, a.off, by rw [← hsp], ?_, q1⟩
      have := q1 0 _ (List.getElem?_eq_getElem (by rw [SC.lst_len]; omega))
      exact lt_cell (a := ⟨a.block, _, none⟩) this
    · simp at hi
      obtain ⟨q1, q2⟩ := hf' i hi
      have hg : ((List.range len0).map fun i => (f i).1).getD i SC.zero = (f i).1 := by
        rw [List.getD_eq_getElem?_getD, List.getElem?_map, List.getElem?_range hi]
        rfl
      have hg2 : ((List.range len0).map fun i => (f i).2).getD i noSet = (f i).2 := by
        rw [List.getD_eq_getElem?_getD, List.getElem?_map, List.getElem?_range hi]
        rfl
      rw [hg, hg2]
      exact q2
set_option maxRecDepth 100000 in
theorem open_sets9 {r : Reach} {b0 : Nat} {v : Value} {d : DataW H} {p : List MemPlace} (hv : Value.okWide Tryz.prog W r b0 39 v) (h : DataW.Trod enc Tryz.prog W 0 (fun _ => true) true 39 v d p) :
    ∃ l : List SetV, SetsAt W v l ∧ nilOkQ v := by
  obtain ⟨l, ⟨cs, h1, h2⟩, h3⟩ := open_setsA hv h
  exact ⟨l, sets_of_row h1 h2, h3⟩
end
end Go.Proofs.YtjbgjdjmejhejaaGreatDoor
namespace Go.Proofs.YtjbgjdjmejhejaaGreatDoor
open Go.RowKit
section
variable {ops : Array Oper} {Q : Exit → Act → World → Prop} {o : Oper} {a : Act}
theorem wq_row0Q {rest : List Oper} {w : World} (hw : Region.wanted o (yielded ops a.tmps) = true) (ho : o.op = .buildSlice 39 0 #[])
    (h : ∀ W g, OwnT W w.heap.size (.slice (some ⟨g, 0, none⟩) 0 0) [] → Below w.heap.size w W → wpList Tryz.prog ops Q rest (a.put o.dst (.slice (some ⟨g, 0, none⟩) 0 0)) W) : wpList Tryz.prog ops Q (o :: rest) a w := by
  refine wl_run hw (.slice (some ⟨w.heap.size, 0, none⟩) 0 0) (w.alloc (.cells #[] 26)) ?_ (h _ _ ⟨rfl, Or.inr ⟨w.heap.size, 0, #[], rfl, Nat.le_refl _, heap_new _ _, Nat.le_refl _, by unfold maxLen; omega, rfl, rfl⟩⟩ ((Below.refl _ w).alloc (Nat.le_refl _) _))
  simp only [execOp, ho, List.map_toArray, List.map_nil]
  go_simp
end
theorem ScRow.below {w w' : World} {v : Value} {cs : List SC} (h : ScRow w v cs) (hb : Below w.heap.size w w') : ScRow w' v cs := h.on hb
theorem fewC_all {l : List SetV} (h : l.all fewB = true) (h2 : l.length ≤ 15) : FewC l := fewC_of (fun S hS => by have := few_len9 (List.all_eq_true.1 h S hS); omega) h2
theorem one_has {l : List SetV} (hl : InL l) {p : Va} {j : Nat} (hj : j < (cutL l).length) : hasP ((cutL l).getD j noSet) p = decide (j = whichN (cutL l) p) := by
  cases h : hasP ((cutL l).getD j noSet) p
  · refine (decide_eq_false fun e => ?_).symm
    subst e
    rw [which_at hj] at h; cases h
  · refine (decide_eq_true ?_).symm
    have h1 : whichN (cutL l) p ≤ j := by
      rcases Nat.lt_or_ge j (whichN (cutL l) p) with h2 | h2
      · rw [which_before h2] at h; cases h
      · exact h2
    exact cell_one (cut_of hl) hj (Nat.lt_of_le_of_lt h1 hj) h (which_at (Nat.lt_of_le_of_lt h1 hj))
theorem which_right {l : List SetV} (hl : InL l) {p : Va} (h0 : -9223372036854775808 ≤ p.2.1) (h1 : p.2.1 ≤ 9223372036854775807) (hr : rightB p.1 p.2.1 p.2.2 = true) : whichN (cutL l) p < (cutL l).length := by
  obtain ⟨i, hi, h⟩ := cell_some (cut_of hl) h0 h1 hr
  have := one_has hl (p := p) hi
  rw [show hasP ((cutL l).getD i noSet) p = true from h] at this
  rw [← of_decide_eq_true this.symm]; exact hi
theorem isE (sl : List UInt8) : (bs sl).toList.isEmpty = decide (sl = []) := by rw [bs_toList]; cases sl <;> rfl
theorem hasP_max {S : SetV} {q : Va} (h : hasP S q = true) : q.2.2.size ≤ maxLen := by
  have hr := hasB_right (show hasB S q.1 q.2.1 q.2.2 = true from h)
  unfold rightB at hr
  have e : ∀ s : ByteArray, s.toList.isEmpty = true → s.size ≤ maxLen := fun s h => by
    have : s = bs s.data.toList := rfl
    rw [this, isE] at h
    rw [this, bs_size, of_decide_eq_true h]
    exact Nat.zero_le _
  split at hr
  · simp only [Bool.and_eq_true] at hr; exact e _ hr.2
  · split at hr
    · exact e _ hr
    · split at hr
      · simp only [Bool.and_eq_true, decide_eq_true_eq] at hr; unfold maxLen; omega
      · cases hr
end Go.Proofs.YtjbgjdjmejhejaaGreatDoor
namespace Go.Proofs.YtjbgjdjmejhejaaGreatDoor
open Go.RowKit
set_option maxHeartbeats 2000000 in
set_option maxRecDepth 100000 in
theorem refFresh_any (v : Value) (l : List SetV) (s : ByteArray) (w : World) (hv : SetsAt w v l) (hs : s.size ≤ 1000) :
    Calls Tryz.prog 61 #[v, .string s] w fun r w' => (∃ t, r = .returned (.string t) ∧ FreshOut l s t) ∧ Below w.heap.size w w' := by
  have HV := hide hv
  obtain ⟨hlen, a, cap, rfl, hel⟩ := hv
  clear hel
  obtain ⟨N, hN⟩ : ∃ N : Nat, N = l.length := ⟨_, rfl⟩
  rw [← hN] at hlen HV ⊢
  have HN := hide hN
  clear hN
  go_enter Tryz.func61, Tryz.ntmps61
  go_wp2
  go_loopw [5] (fun i wr => ∃ K : Int, i = .int .i64 K ∧ 0 ≤ K ∧ K ≤ 100000 ∧ Hid (∀ j : Nat, (j : Int) < K → namedB l (tryS s j) = true) ∧ Hid (Below w.heap.size w wr)) (fun i _ => 100000 - (intOf i).toNat)
  case atStart => exact ⟨0, rfl, by omega, by omega, hide (fun j hj => by omega), hide (Below.refl _ _)⟩
  case round =>
    obtain ⟨K, rfl, k0, hk, HG, HB⟩ := hrel
    by_cases hkl : K < 100000
    · have D := hide (decimal_any K (by omega) (by omega) wr)
      have hd := itoa_short K.toNat (by omega)
      have HT : Hid (s ++ ⟨(Lib.itoa ((K.toNat : Nat) : Int)).toArray⟩ = tryS s K.toNat) := hide rfl
      rw [Int.toNat_of_nonneg k0] at hd HT
      generalize (⟨(Lib.itoa K).toArray⟩ : ByteArray) = d at *
      go_wp2_with fail
      refine (unhide D).mono ?_
      rintro r w1 ⟨rfl, b1⟩
      have B1 := hide (HB.out.trans (b1.mono HB.out.size))
      clear b1 D HB
      go_wp2
      rw [HT.out]
      clear HT
      generalize hT : tryS s K.toNat = t at *
      have HT := hide hT
      clear hT
      go_loopw [7, 8] (fun f i wr' => ∃ j : Nat, i = .int .i64 j ∧ j ≤ N ∧ wr' = w1 ∧ f = .bool ((l.take j).any fun S => inStrsB S.strs t)) (fun _ i _ => N - (intOf i).toNat)
      case atStart => exact ⟨0, rfl, by omega, rfl, rfl⟩
      case round =>
        obtain ⟨j, rfl, hj, rfl, rfl⟩ := hrel
        by_cases hjt : j < N
        · have hj' : j < l.length := by rw [← HN.out]; exact hjt
          obtain ⟨b, off, vi, vs, rfl, hb, c0, c1, c2, c3, hI, hS⟩ := (HV.out.on B1.out).at.2 j hj'
          have X := hide (inStrs_any vs _ t _ hS)
          have G0 : Hid (((l.take (j + 1)).any fun S => inStrsB S.strs t) = (((l.take j).any fun S => inStrsB S.strs t) || inStrsB (l.getD j noSet).strs t)) := hide (by
            rw [List.take_succ_eq_append_getElem hj', List.any_append, List.getD_eq_getElem?_getD, List.getElem?_eq_getElem hj']
            simp)
          generalize l.getD j noSet = S at *
          generalize ((l.take j).any fun S => inStrsB S.strs t) = f at *
          generalize inStrsB S.strs t = g at *
          clear hI hS
          cases f
          · go_wp2_with fail
            refine (unhide X).mono ?_
            rintro r w2 ⟨rfl, rfl⟩
            go_wp2
            exact ⟨⟨j + 1, by go_num, by omega, trivial, by rw [G0.out]; rfl⟩, by simp [intOf]; omega⟩
          · go_wp2
            exact ⟨⟨j + 1, by go_num, by omega, trivial, by rw [G0.out]; rfl⟩, by simp [intOf]; omega⟩
        · have hge : (N : Int) ≤ (j : Int) := by omega
          have G0 : ((l.take j).any fun S => inStrsB S.strs t) = namedB l t := by rw [List.take_of_length_le (by have := HN.out; omega)]; rfl
          rw [G0]
          clear G0
          cases G1 : namedB l t
          · have G2 := hide G1
            clear G1
            go_wp2
            go_ret
            exact ⟨⟨_, rfl, Or.inl ⟨K.toNat, by omega, HT.out.symm, G2.out⟩⟩, B1.out⟩
          · have G2 := hide G1
            clear G1
            go_wp2
            refine ⟨⟨K + 1, rfl, by omega, by omega, hide (fun i hi => ?_), B1⟩, by simp [intOf]; omega⟩
            by_cases hi' : (i : Int) < K
            · exact HG.out i hi'
            · rw [show i = K.toNat by omega, HT.out]; exact G2.out
    · have hge : (100000 : Int) ≤ K := by omega
      have G2 : Hid (∀ j : Nat, j < 100000 → namedB l (tryS s j) = true) := hide (fun j hj => HG.out j (by omega))
      go_wp2
      go_ret
      exact ⟨⟨s, rfl, Or.inr ⟨rfl, G2.out⟩⟩, HB.out⟩
end Go.Proofs.YtjbgjdjmejhejaaGreatDoor
namespace Go.Proofs.YtjbgjdjmejhejaaGreatDoor
open Go.RowKit
theorem ptsS_len9 (S : SetV) (h : S.ints.length ≤ 1000 ∧ S.strs.length ≤ 1000) : (ptsS S).length ≤ 5000 := by
  unfold ptsS
  rw [List.length_append, List.length_map]
  have := flat_len ptsR 4 S.ints (fun x _ => ptsR_len x)
  omega
theorem ptsL_len9 (l : List SetV) (h : ∀ S ∈ l, S.ints.length ≤ 1000 ∧ S.strs.length ≤ 1000) : (ptsL l).length ≤ 4 + l.length * 5000 := by
  unfold ptsL
  rw [List.length_append]
  have := flat_len ptsS 5000 l (fun S hS => ptsS_len9 S (h S hS))
  have h4 : pts0.length = 4 := rfl
  omega
theorem wpList_appV {ops : Array Oper} {rest : List Oper} {o : Oper} {a : Act} {Q : Exit → Act → World → Prop} (w : World) (hgd : o.guard = none) (s x : Operand)
    (ho : o.op = .call { callee := .builtin .append, args := #[s, x], argTypes := #[45, 45] })
    (B : Nat) (v : Value) (l : List Va) (hs : a.eval s = v) (hown : OwnV w B v l) (g m c : Nat) (cs : Array Value) (news : List Va) (hm : news.length = m)
    (hx : a.eval x = .slice (some ⟨g, 0, none⟩) m c) (hb : w.heap[g]? = some (.cells cs 48 (0, 0))) (hcs : cs.toList = vaCells news) (hlen : l.length + m ≤ 1000000) (hB : B ≤ w.heap.size)
    (h : ∀ v' w', OwnV w' B v' (l ++ news) → Below B w w' → wpList Tryz.prog ops Q rest (a.put o.dst v') w') : wpList Tryz.prog ops Q (o :: rest) a w := by
  obtain ⟨i0, hi, hz0, hz1, hz2⟩ := info_parts infoVal
  refine wpList_append_own w hgd s x 45 ho B 48 i0 _ 3 32 Tryz.underlying45 hi hz0 hz1 hz2 rfl (by decide) v l.length (vaCells l) hs hown ⟨g, 0, none⟩ m c (vaCells news) hx (by rw [vaCells_len, hm]) ?_ (vaCells_one _) (by unfold maxLen; omega) (by omega) hB ?_
  · rw [← hcs]; exact World.news_of_block hb
  · intro v' w' h1 h2 _
    refine h v' w' ?_ (OwnV.grownB hown hB h2)
    unfold OwnV
    rw [List.length_append, hm, vaCells_append]
    exact h1
theorem wpList_appI {ops : Array Oper} {rest : List Oper} {o : Oper} {a : Act} {Q : Exit → Act → World → Prop} (w0 w : World) (hgd : o.guard = none) (s x : Operand)
    (ho : o.op = .call { callee := .builtin .append, args := #[s, x], argTypes := #[45, 45] })
    (R : Nat) (r : Rg) (v : Value) (l : List Va) (hs : a.eval s = v) (hin : InR w0 w R r v l) (g m c : Nat) (cs : Array Value) (news : List Va) (hm : news.length = m) (hm0 : 0 < m)
    (hx : a.eval x = .slice (some ⟨g, 0, none⟩) m c) (hb : w.heap[g]? = some (.cells cs 48 (0, 0))) (hcs : cs.toList = vaCells news) (hlen : l.length + m ≤ 1000000)
    (h : ∀ v' w', InR w0 w' R r v' (l ++ news) → wpList Tryz.prog ops Q rest (a.put o.dst v') w') : wpList Tryz.prog ops Q (o :: rest) a w := by
  obtain ⟨i0, hi, hz0, hz1, hz2⟩ := info_parts infoVal
  refine wpList_append_lies w hgd s x 45 ho w0.heap.size 48 i0 _ 3 32 Tryz.underlying45 hi hz0 hz1 hz2 rfl (by decide) v l.length (vaCells l) hs hin.own ⟨g, 0, none⟩ m c (vaCells news) hx (by rw [vaCells_len, hm]) ?_ (vaCells_one _) hm0 (by unfold maxLen; omega) (by omega) hin.below.size w.heap.size rfl ?_
  · rw [← hcs]; exact World.news_of_block hb
  · intro g' cap' w' h1 h2 h3 _
    refine h _ w' ⟨?_, ?_, ?_, hin.below.trans (OwnV.grownB hin.own hin.below.size h2)⟩
    · unfold OwnV
      rw [List.length_append, hm, vaCells_append]
      exact h1
    · rcases h3 with h3 | h3
      · show some g' ≠ some R
        rw [← h3]; exact hin.ne
      · intro e
        have e' : g' = R := by simpa [Value.ownBlock] using e
        have := lt_heap hin.rb
        omega
    · exact (h2.block R (lt_heap hin.rb) (fun e => hin.ne e.symm)).trans hin.rb
set_option maxHeartbeats 4000000 in
set_option maxRecDepth 100000 in
theorem refPoints_any (v : Value) (l : List SetV) (w : World) (hv : SetsAt w v l) (hn : l.length ≤ 100) (hfew : ∀ S ∈ l, S.ints.length ≤ 1000 ∧ S.strs.length ≤ 1000) :
    Calls Tryz.prog 22 #[v] w fun r w' => (∃ u t, r = .returned u ∧ FreshOut l ⟨#[126]⟩ t ∧ OwnV w' w.heap.size u (ptsL l ++ [(2, 0, t)])) ∧ Below w.heap.size w w' := by
  have HV := hide hv
  have HF := hide hfew
  obtain ⟨hlen, a, cap, rfl, hel⟩ := hv
  clear hel hfew
  obtain ⟨N, hN⟩ : ∃ N : Nat, N = l.length := ⟨_, rfl⟩
  rw [← hN] at hlen hn HV ⊢
  have HN := hide hN
  clear hN
  go_enter Tryz.func22, Tryz.ntmps22
  go_wp2
  go_loopw [3, 5] (fun o i wr => ∃ k : Nat, i = .int .i64 k ∧ k ≤ N ∧ Hid (OwnV wr w.heap.size o (pts0 ++ (l.take k).flatMap ptsS)) ∧ Hid (((l.take k).flatMap ptsS).length ≤ k * 5000) ∧ Hid (Below w.heap.size w wr)) (fun _ i _ => N - (intOf i).toNat)
  case atStart =>
    refine ⟨0, rfl, by omega, hide ?_, hide (by simp), hide ((Below.refl _ _).alloc (Nat.le_refl _) _)⟩
    exact ownV_new w _ (pts0 ++ []) rfl (by simp [pts0])
  case round =>
    obtain ⟨k, rfl, hk, HO, HL, HB⟩ := hrel
    by_cases hlt : k < N
    · have hk' : k < l.length := by rw [← HN.out]; exact hlt
      obtain ⟨b, off, vi, vs, rfl, hb, c0, c1, c2, c3, hI, hS⟩ := (HV.out.on HB.out).at.2 k hk'
      have hfs := HF.out (l.getD k noSet) (by rw [List.getD_eq_getElem?_getD, List.getElem?_eq_getElem hk']; exact List.getElem_mem _)
      have NX := hide (take_flat ptsS l k noSet hk')
      have SK : Hid (l.getD k noSet = l.getD k noSet) := hide rfl
      obtain ⟨S, hS0⟩ : ∃ S, S = l.getD k noSet := ⟨_, rfl⟩
      rw [← hS0] at NX hfs
      have HSk := hide hS0
      clear hS0 SK c0 c1 c2 c3 hI hS vi vs hb
      obtain ⟨sa, si, sc, ss⟩ := S
      dsimp only at *
      obtain ⟨nI, hnI⟩ : ∃ n : Nat, n = si.length := ⟨_, rfl⟩
      obtain ⟨nS, hnS⟩ : ∃ n : Nat, n = ss.length := ⟨_, rfl⟩
      rw [← hnI, ← hnS] at hfs
      have HnI := hide hnI
      have HnS := hide hnS
      clear hnI hnS
      obtain ⟨PL0, hPL0⟩ : ∃ p, p = pts0 ++ (l.take k).flatMap ptsS := ⟨_, rfl⟩
      rw [← hPL0] at HO
      have PL : Hid (PL0.length ≤ 4 + k * 5000) := hide (by have := HL.out; have h4 : pts0.length = 4 := rfl; rw [hPL0, List.length_append]; omega)
      have HPL := hide hPL0
      clear hPL0
      go_wp2
      go_loopw [3, 6] (fun o i wr' => ∃ j : Nat, i = .int .i64 j ∧ j ≤ nI ∧ Hid (OwnV wr' w.heap.size o (PL0 ++ (si.take j).flatMap ptsR)) ∧ Hid (((si.take j).flatMap ptsR).length ≤ j * 4) ∧ Hid (Below w.heap.size w wr')) (fun _ i _ => nI - (intOf i).toNat)
      case atStart => exact ⟨0, rfl, by omega, hide (by simpa using HO.out), hide (by simp), HB⟩
      case round =>
        clear HO HB
        obtain ⟨j, rfl, hj, HO', HL', HB'⟩ := hrel
        obtain ⟨b', off', vi, vs, ha, hb, c0, c1, c2, c3, hI, hS⟩ := (HV.out.on HB'.out).at.2 k hk'
        rw [← HSk.out] at c0 c2 hI hS
        dsimp only at c0 c2 hI hS
        simp at ha
        obtain ⟨rfl, rfl⟩ := ha
        obtain ⟨ai, ci, rfl⟩ := hI.form
        obtain ⟨aq, cq, rfl⟩ := hS.form
        have nIle := hI.2.1
        rw [← HnI.out] at c1 nIle
        rw [← HnS.out] at c3
        by_cases hjt : j < nI
        · have hj' : j < si.length := by rw [← HnI.out]; exact hjt
          obtain ⟨bi, oi, ha2, hbi, y0, y1⟩ := hI.at.2 j hj'
          subst ha2
          obtain ⟨q0, q1, q2, q3⟩ := hI.bound j hj'
          have NXI := hide (take_flat ptsR si j (0, 0) hj')
          generalize si.getD j (0, 0) = r at *
          clear hI hS
          have IN0 := hide (InR.start (r := r) HO'.out HB'.out)
          clear HO' HB'
          by_cases hlo : -9223372036854775808 < r.1
          · by_cases hhi : r.2 < 9223372036854775807
            · go_wp2_with (at_builtin; (first | (refine wpList_appI w _ rfl _ _ rfl wr.heap.size r _ _ rfl (IN0.out.alloc _) _ 2 2 _ [(1, r.1, noS), (1, r.2, noS)] rfl (by omega) rfl (two_at wr _ _) rfl (by have h1 := PL.out; have h2 := HL'.out; simp only [List.length_append, List.length_cons, List.length_nil]; omega) ?_; intro v1 w1 hw1; obtain ⟨zw10, zw11⟩ := hw1.cells; have IN1 := hide hw1; clear hw1 IN0) | (refine wpList_appI w _ rfl _ _ rfl wr.heap.size r _ _ rfl (IN1.out.alloc _) _ 1 1 _ [(1, r.1 - 1, noS)] rfl (by omega) rfl (heap_top _ _) rfl (by have h1 := PL.out; have h2 := HL'.out; simp only [List.length_append, List.length_cons, List.length_nil]; omega) ?_; intro v2 w2 hw2; obtain ⟨zw20, zw21⟩ := hw2.cells; have IN2 := hide hw2; clear hw2 IN1) | (refine wpList_appI w _ rfl _ _ rfl wr.heap.size r _ _ rfl (IN2.out.alloc _) _ 1 1 _ [(1, r.2 + 1, noS)] rfl (by omega) rfl (heap_top _ _) rfl (by have h1 := PL.out; have h2 := HL'.out; simp only [List.length_append, List.length_cons, List.length_nil]; omega) ?_; intro v3 w3 hw3; obtain ⟨zw30, zw31⟩ := hw3.cells; have IN3 := hide hw3; clear hw3 IN2)))
              refine ⟨⟨j + 1, by go_num, by omega, hide ?_, hide ?_, hide IN3.out.below⟩, by simp [intOf]; omega⟩
              · rw [NXI.out, ← List.append_assoc]
                have e : ptsR r = [(1, r.1, noS), (1, r.2, noS)] ++ [(1, r.1 - 1, noS)] ++ [(1, r.2 + 1, noS)] := by unfold ptsR; rw [if_pos hlo, if_pos hhi]
                rw [e]
                have h := IN3.out.own
                simp only [List.append_assoc] at h ⊢
                exact h
              · rw [NXI.out, List.length_append]
                have h1 := HL'.out
                have h2 := ptsR_len r
                omega
            · go_wp2_with (at_builtin; (first | (refine wpList_appI w _ rfl _ _ rfl wr.heap.size r _ _ rfl (IN0.out.alloc _) _ 2 2 _ [(1, r.1, noS), (1, r.2, noS)] rfl (by omega) rfl (two_at wr _ _) rfl (by have h1 := PL.out; have h2 := HL'.out; simp only [List.length_append, List.length_cons, List.length_nil]; omega) ?_; intro v1 w1 hw1; obtain ⟨zw10, zw11⟩ := hw1.cells; have IN1 := hide hw1; clear hw1 IN0) | (refine wpList_appI w _ rfl _ _ rfl wr.heap.size r _ _ rfl (IN1.out.alloc _) _ 1 1 _ [(1, r.1 - 1, noS)] rfl (by omega) rfl (heap_top _ _) rfl (by have h1 := PL.out; have h2 := HL'.out; simp only [List.length_append, List.length_cons, List.length_nil]; omega) ?_; intro v2 w2 hw2; obtain ⟨zw20, zw21⟩ := hw2.cells; have IN2 := hide hw2; clear hw2 IN1)))
              refine ⟨⟨j + 1, by go_num, by omega, hide ?_, hide ?_, hide IN2.out.below⟩, by simp [intOf]; omega⟩
              · rw [NXI.out, ← List.append_assoc]
                have e : ptsR r = [(1, r.1, noS), (1, r.2, noS)] ++ [(1, r.1 - 1, noS)] := by unfold ptsR; rw [if_pos hlo, if_neg hhi]; try simp
                rw [e]
                have h := IN2.out.own
                simp only [List.append_assoc] at h ⊢
                exact h
              · rw [NXI.out, List.length_append]
                have h1 := HL'.out
                have h2 := ptsR_len r
                omega
          · by_cases hhi : r.2 < 9223372036854775807
            · go_wp2_with (at_builtin; (first | (refine wpList_appI w _ rfl _ _ rfl wr.heap.size r _ _ rfl (IN0.out.alloc _) _ 2 2 _ [(1, r.1, noS), (1, r.2, noS)] rfl (by omega) rfl (two_at wr _ _) rfl (by have h1 := PL.out; have h2 := HL'.out; simp only [List.length_append, List.length_cons, List.length_nil]; omega) ?_; intro v1 w1 hw1; obtain ⟨zw10, zw11⟩ := hw1.cells; have IN1 := hide hw1; clear hw1 IN0) | (refine wpList_appI w _ rfl _ _ rfl wr.heap.size r _ _ rfl (IN1.out.alloc _) _ 1 1 _ [(1, r.2 + 1, noS)] rfl (by omega) rfl (heap_top _ _) rfl (by have h1 := PL.out; have h2 := HL'.out; simp only [List.length_append, List.length_cons, List.length_nil]; omega) ?_; intro v3 w3 hw3; obtain ⟨zw30, zw31⟩ := hw3.cells; have IN3 := hide hw3; clear hw3 IN1)))
              refine ⟨⟨j + 1, by go_num, by omega, hide ?_, hide ?_, hide IN3.out.below⟩, by simp [intOf]; omega⟩
              · rw [NXI.out, ← List.append_assoc]
                have e : ptsR r = [(1, r.1, noS), (1, r.2, noS)] ++ [(1, r.2 + 1, noS)] := by unfold ptsR; rw [if_neg hlo, if_pos hhi]; try simp
                rw [e]
                have h := IN3.out.own
                simp only [List.append_assoc] at h ⊢
                exact h
              · rw [NXI.out, List.length_append]
                have h1 := HL'.out
                have h2 := ptsR_len r
                omega
            · go_wp2_with (at_builtin; (first | (refine wpList_appI w _ rfl _ _ rfl wr.heap.size r _ _ rfl (IN0.out.alloc _) _ 2 2 _ [(1, r.1, noS), (1, r.2, noS)] rfl (by omega) rfl (two_at wr _ _) rfl (by have h1 := PL.out; have h2 := HL'.out; simp only [List.length_append, List.length_cons, List.length_nil]; omega) ?_; intro v1 w1 hw1; obtain ⟨zw10, zw11⟩ := hw1.cells; have IN1 := hide hw1; clear hw1 IN0)))
              refine ⟨⟨j + 1, by go_num, by omega, hide ?_, hide ?_, hide IN1.out.below⟩, by simp [intOf]; omega⟩
              · rw [NXI.out, ← List.append_assoc]
                have e : ptsR r = [(1, r.1, noS), (1, r.2, noS)] := by unfold ptsR; rw [if_neg hlo, if_neg hhi]; try simp
                rw [e]
                have h := IN1.out.own
                simp only [List.append_assoc] at h ⊢
                exact h
              · rw [NXI.out, List.length_append]
                have h1 := HL'.out
                have h2 := ptsR_len r
                omega
        · have hge : (nI : Int) ≤ (j : Int) := by omega
          obtain ⟨PL1, hPL1⟩ : ∃ p, p = PL0 ++ si.flatMap ptsR := ⟨_, rfl⟩
          have OWN1 : Hid (OwnV wr w.heap.size u3 PL1) := hide (by
            have h := HO'.out
            rw [List.take_of_length_le (by have := HnI.out; omega), ← hPL1] at h
            exact h)
          have PLE : Hid (PL1.length ≤ 4 + k * 5000 + nI * 4) := hide (by
            have h1 := PL.out
            have h2 := flat_len ptsR 4 si (fun x _ => ptsR_len x)
            rw [hPL1, List.length_append, HnI.out]; omega)
          have HPL1 := hide hPL1
          clear hPL1 HO' HL' hI
          go_wp2
          go_loopw [3, 8] (fun o i wr' => ∃ j : Nat, i = .int .i64 j ∧ j ≤ nS ∧ Hid (OwnV wr' w.heap.size o (PL1 ++ (ss.take j).map fun s => (2, 0, s))) ∧ Hid (Below w.heap.size w wr')) (fun _ i _ => nS - (intOf i).toNat)
          case atStart => exact ⟨0, rfl, by omega, hide (by simpa using OWN1.out), HB'⟩
          case round =>
            clear OWN1 HB' c0 c1 c2 c3 hS hb
            obtain ⟨i, rfl, hi, HO', HB'⟩ := hrel
            obtain ⟨b', off', vi, vs, ha, hb, c0, c1, c2, c3, hI, hS⟩ := (HV.out.on HB'.out).at.2 k hk'
            rw [← HSk.out] at c0 c2 hI hS
            dsimp only at c0 c2 hI hS
            simp at ha
            obtain ⟨rfl, rfl⟩ := ha
            obtain ⟨ai, ci, rfl⟩ := hI.form
            obtain ⟨aq, cq, rfl⟩ := hS.form
            have nSle := hS.2.1
            rw [← HnI.out] at c1
            rw [← HnS.out] at c3 nSle
            by_cases hit : i < nS
            · have hi' : i < ss.length := by rw [← HnS.out]; exact hit
              obtain ⟨bi, oi, ha2, hbi, y0⟩ := hS.at.2 i hi'
              subst ha2
              have NXS := hide (take_map (fun s => ((2, 0, s) : Va)) ss i ⟨#[]⟩ hi')
              generalize ss.getD i ⟨#[]⟩ = q at *
              have LE : Hid ((PL1 ++ (ss.take i).map fun s => ((2, 0, s) : Va)).length + 1 ≤ 1000000) := hide (by
                have h1 := PLE.out
                rw [List.length_append, List.length_map, List.length_take]
                omega)
              have szB := HB'.out.size
              clear hI hS
              go_wp2_with (at_builtin; refine wpList_appV _ rfl _ _ rfl w.heap.size _ _ rfl (HO'.out.alloc _) _ 1 1 _ [(2, 0, q)] rfl rfl (heap_top _ _) rfl LE.out (by simp; omega) ?_; intro v1 w1 hO1 hb1; have O1 := hide hO1; have B1 := hide ((HB'.out.alloc szB _).trans hb1); clear hO1 hb1)
              exact ⟨⟨i + 1, by go_num, by omega, hide (by rw [NXS.out, ← List.append_assoc]; exact O1.out), B1⟩, by simp [intOf]; omega⟩
            · have hge : (nS : Int) ≤ (i : Int) := by omega
              have OWN2 : Hid (OwnV wr w.heap.size u3 (pts0 ++ (l.take (k + 1)).flatMap ptsS)) := hide (by
                have h := HO'.out
                rw [List.take_of_length_le (by have := HnS.out; omega), HPL1.out, HPL.out] at h
                rw [NX.out]
                unfold ptsS
                simp only [List.append_assoc] at h ⊢
                exact h)
              have LE2 : Hid (((l.take (k + 1)).flatMap ptsS).length ≤ (k + 1) * 5000) := hide (by
                rw [NX.out, List.length_append]
                have h1 := HL.out
                have h2 := flat_len ptsR 4 si (fun x _ => ptsR_len x)
                have h3 := HnI.out
                have h4 := HnS.out
                have h5 : (ptsS ⟨sa, si, sc, ss⟩).length = (si.flatMap ptsR).length + ss.length := by unfold ptsS; rw [List.length_append, List.length_map]
                rw [h5]
                omega)
              clear HO' hI hS
              go_wp2
              exact ⟨⟨k + 1, by go_num, by omega, OWN2, LE2, HB'⟩, by simp [intOf]; omega⟩
    · have hge : (N : Int) ≤ (k : Int) := by omega
      have OWN3 : Hid (OwnV wr w.heap.size u3 (ptsL l)) := hide (by
        have h := HO.out
        rw [List.take_of_length_le (by have := HN.out; omega)] at h
        exact h)
      have LE3 : Hid ((ptsL l).length + 1 ≤ 1000000) := hide (by
        have h := HL.out
        rw [List.take_of_length_le (by have := HN.out; omega)] at h
        unfold ptsL
        have h4 : pts0.length = 4 := rfl
        rw [List.length_append]; omega)
      have X := hide (refFresh_any _ l ⟨#[126]⟩ wr (HV.out.on HB.out) (by decide))
      have szB := HB.out.size
      clear HO HL
      go_wp2_with fail
      refine (unhide X).mono ?_
      rintro r w1 ⟨⟨t, rfl, ht⟩, b1⟩
      have HT := hide ht
      have O1 := hide (OWN3.out.on b1)
      have B1 := hide (HB.out.trans (b1.mono szB))
      have szC := B1.out.size
      clear ht b1 X OWN3
      go_wp2_with (at_builtin; refine wpList_appV _ rfl _ _ rfl w.heap.size _ _ rfl (O1.out.alloc _) _ 1 1 _ [(2, 0, t)] rfl rfl (heap_top _ _) rfl LE3.out (by simp; omega) ?_; intro v1 w2 hO2 hb2; have O2 := hide hO2; have B2 := hide ((B1.out.alloc szC _).trans hb2); clear hO2 hb2)
      go_ret
      exact ⟨⟨_, t, rfl, HT.out, O2.out⟩, B2.out⟩
end Go.Proofs.YtjbgjdjmejhejaaGreatDoor
namespace Go.Proofs.YtjbgjdjmejhejaaGreatDoor
open Go.RowKit
set_option maxHeartbeats 4000000 in
set_option maxRecDepth 100000 in
theorem refIn_any (v u : Value) (A B : SetV) (w : World) (hv : SetAt w v A) (hu : SetAt w u B) (fA : A.ints.length ≤ 1000 ∧ A.strs.length ≤ 1000) (fB : B.ints.length ≤ 1000 ∧ B.strs.length ≤ 1000) :
    Calls Tryz.prog 39 #[v, u] w fun r w' => (∃ t, FreshOut [A, B] ⟨#[126]⟩ t ∧ r = .returned (.bool (inPts A B (ptsL [A, B] ++ [(2, 0, t)])))) ∧ Below w.heap.size w w' := by
  have HV := hide hv
  have HU := hide hu
  obtain ⟨vi, vs, rfl, hI, hS⟩ := hv
  obtain ⟨ui, us, rfl, hJ, hT⟩ := hu
  have szA := hide hS.1
  have szB := hide hT.1
  clear hI hS hJ hT
  obtain ⟨e1, e2, b2⟩ := two_bx w (.cells #[.bool A.absent, vi, .bool A.co, vs] 26) (.cells #[.bool B.absent, ui, .bool B.co, us] 26)
  have s2 : ((w.alloc (.cells #[.bool A.absent, vi, .bool A.co, vs] 26)).alloc (.cells #[.bool B.absent, ui, .bool B.co, us] 26)).heap.size = w.heap.size + 1 + 1 := by
    show ((w.heap.push _).push _).size = _; simp
  have HP := hide (refPoints_any _ [A, B] _ (SetAt.pair (HV.out.on b2) (HU.out.on b2) (w.heap.size + 1 + 1) s2.symm vi vs ui us rfl rfl) (by simp) (by
    intro S hS
    rcases List.mem_cons.1 hS with rfl | hS
    · exact fA
    · rcases List.mem_cons.1 hS with rfl | hS
      · exact fB
      · simp at hS))
  have E1 := hide e1
  have E2 := hide e2
  have B2 := hide b2
  have S2 := hide s2
  clear e1 e2 b2 s2
  go_enter Tryz.func39, Tryz.ntmps39
  go_wp2_with fail
  refine (unhide HP).mono ?_
  rintro r w1 ⟨⟨x, t, rfl, ht, hO⟩, b3⟩
  have b4 := below_alloc b3
  have f1 := (b4.block _ (lt_heap E1.out)).trans E1.out
  have f2 := (b4.block _ (lt_heap E2.out)).trans E2.out
  have b5 := B2.out.trans (b4.mono (by have := B2.out.size; omega))
  have szP : ∀ p ∈ ptsL [A, B] ++ [(2, 0, t)], p.2.2.size ≤ maxLen := fun p hp => by
    rcases List.mem_append.1 hp with hp | hp
    · refine ptsL_size [A, B] maxLen (fun S hS s hs => ?_) p hp
      rcases List.mem_cons.1 hS with rfl | hS
      · exact szA.out s hs
      · rcases List.mem_cons.1 hS with rfl | hS
        · exact szB.out s hs
        · simp at hS
    · simp at hp
      rw [hp]
      have := fresh_size ht
      show t.size ≤ maxLen
      unfold maxLen; omega
  have npos : 0 < (ptsL [A, B] ++ [(2, 0, t)]).length := by simp
  have nle : (ptsL [A, B] ++ [(2, 0, t)]).length ≤ 1000000 := by
    have := ptsL_len9 [A, B] (by
      intro S hS
      rcases List.mem_cons.1 hS with rfl | hS
      · exact fA
      · rcases List.mem_cons.1 hS with rfl | hS
        · exact fB
        · simp at hS)
    rw [List.length_append]
    simp at this ⊢
    omega
  have HT := hide ht
  generalize hPl : ptsL [A, B] ++ [(2, 0, t)] = pl at *
  have HPl := hide hPl
  obtain ⟨g, cap, rfl, hg1, hg2⟩ := hO.form npos
  have O1 := hide hO
  have F1 := hide f1
  have F2 := hide f2
  have B5 := hide b5
  have SZP := hide szP
  have V1 := hide (HV.out.on b5)
  have U1 := hide (HU.out.on b5)
  generalize hR : inPts A B pl = Rr
  have HRr := hide hR
  have HR0 : Hid ((pl.drop 0).all (fun p => !(hasP A p && !(hasP B p))) = Rr) := hide (by rw [List.drop_zero]; exact hR)
  obtain ⟨N, hN⟩ : ∃ N : Nat, N = pl.length := ⟨_, rfl⟩
  rw [← hN] at nle O1 ⊢
  have HN := hide hN
  clear ht hO b3 b4 f1 f2 b5 szP HV HU HP E1 E2 B2 S2 hR hN npos hPl
  go_wp2
  go_loopw [6] (fun i wr => ∃ k : Nat, i = .int .i64 k ∧ k ≤ N ∧ Hid ((pl.drop k).all (fun p => !(hasP A p && !(hasP B p))) = Rr) ∧ Hid (Below w1.heap.size w1 wr)) (fun i _ => N - (intOf i).toNat)
  case atStart => exact ⟨0, rfl, by omega, HR0, hide (Below.refl _ _)⟩
  case round =>
    obtain ⟨k, rfl, hk, HG, HB⟩ := hrel
    by_cases hlt : k < N
    · have hk' : k < pl.length := by rw [← HN.out]; exact hlt
      obtain ⟨y0, y1, y2⟩ := (O1.out.on HB.out).at k hk'
      have g1 := (HB.out.block _ (lt_heap F1.out)).trans F1.out
      have g2 := (HB.out.block _ (lt_heap F2.out)).trans F2.out
      have c0 := cell_heap g1 0
      have c1 := cell_heap g1 1
      have c2 := cell_heap g1 2
      have c3 := cell_heap g1 3
      have d0 := cell_heap g2 0
      have d1 := cell_heap g2 1
      have d2 := cell_heap g2 2
      have d3 := cell_heap g2 3
      simp only [List.getElem?_toArray, List.getElem?_cons_zero, List.getElem?_cons_succ] at c0 c1 c2 c3 d0 d1 d2 d3
      have G0 := HG.out
      rw [drop_getD pl k noVa hk'] at G0
      have hz := SZP.out (pl.getD k noVa) (by rw [List.getD_eq_getElem?_getD, List.getElem?_eq_getElem hk']; exact List.getElem_mem _)
      generalize pl.getD k noVa = q at *
      rw [List.all_cons] at G0
      have X1 := fun (d : Nat) (os : Array Obj) => Calls.regrown_of (refHas_any _ A q.1 q.2.1 q.2.2 (Sort.grow (redrawn wr d) os) ((V1.out.on HB.out).on (below_regrown wr d os)) hz)
      have X2 := fun (d : Nat) (os : Array Obj) => Calls.regrown_of (refHas_any _ B q.1 q.2.1 q.2.2 (Sort.grow (redrawn wr d) os) ((U1.out.on HB.out).on (below_regrown wr d os)) hz)
      have p0 := cell_regrown c0
      have p1 := cell_regrown c1
      have p2 := cell_regrown c2
      have p3 := cell_regrown c3
      have p4 := cell_regrown d0
      have p5 := cell_regrown d1
      have p6 := cell_regrown d2
      have p7 := cell_regrown d3
      have p8 := cell_regrown y0
      have p9 := cell_regrown y1
      have pa := cell_regrown y2
      have eA : hasB A q.1 q.2.1 q.2.2 = hasP A q := rfl
      have eB : hasB B q.1 q.2.1 q.2.2 = hasP B q := rfl
      rw [eA] at X1
      rw [eB] at X2
      clear g1 g2 HG eA eB
      cases hA : hasP A q
      · rw [hA] at X1 G0
        have G1 : Hid ((pl.drop (k + 1)).all (fun p => !(hasP A p && !(hasP B p))) = Rr) := hide (by simpa using G0)
        have Y1 := fun d os => hide (X1 d os)
        clear X1 X2 G0 hA
        go_wp2
        clear c0 c1 c2 c3 d0 d1 d2 d3 y0 y1 y2
        refine wp_region_quiet_below mixed (by kernel_rfl) ?_
        repeat (first | go_big_quiet_step (exact unhide (Y1 _ _)) | quiet_step (exact unhide (Y1 _ _)))
        refine wpQuiet_nil ?_
        intro _ hw'
        obtain ⟨⟨dq, osq⟩, hw''⟩ := hw'
        subst hw''
        go_wp2
        exact ⟨⟨k + 1, by go_num, by omega, G1, hide (HB.out.trans ((below_regrown wr dq osq).mono HB.out.size))⟩, by simp [intOf]; omega⟩
      · rw [hA] at X1 G0
        cases hBq : hasP B q
        · rw [hBq] at X2 G0
          have G1 : Hid (Rr = false) := hide (by rw [← G0]; rfl)
          have Y1 := fun d os => hide (X1 d os)
          have Y2 := fun d os => hide (X2 d os)
          clear X1 X2 G0 hA hBq
          go_wp2
          clear c0 c1 c2 c3 d0 d1 d2 d3 y0 y1 y2
          refine wp_region_quiet_below mixed (by kernel_rfl) ?_
          repeat (first | go_big_quiet_step ((first | with_reducible exact unhide (Y1 _ _) | with_reducible exact unhide (Y2 _ _))) | quiet_step ((first | with_reducible exact unhide (Y1 _ _) | with_reducible exact unhide (Y2 _ _))))
          refine wpQuiet_nil ?_
          intro _ hw'
          obtain ⟨⟨dq, osq⟩, hw''⟩ := hw'
          subst hw''
          go_wp2
          go_ret
          exact ⟨⟨t, HT.out, ret_bool (by rw [HPl.out, HRr.out, G1.out])⟩, B5.out.trans ((HB.out.trans ((below_regrown wr dq osq).mono HB.out.size)).mono B5.out.size)⟩
        · rw [hBq] at X2 G0
          have G1 : Hid ((pl.drop (k + 1)).all (fun p => !(hasP A p && !(hasP B p))) = Rr) := hide (by simpa using G0)
          have Y1 := fun d os => hide (X1 d os)
          have Y2 := fun d os => hide (X2 d os)
          clear X1 X2 G0 hA hBq
          go_wp2
          clear c0 c1 c2 c3 d0 d1 d2 d3 y0 y1 y2
          refine wp_region_quiet_below mixed (by kernel_rfl) ?_
          repeat (first | go_big_quiet_step ((first | with_reducible exact unhide (Y1 _ _) | with_reducible exact unhide (Y2 _ _))) | quiet_step ((first | with_reducible exact unhide (Y1 _ _) | with_reducible exact unhide (Y2 _ _))))
          refine wpQuiet_nil ?_
          intro _ hw'
          obtain ⟨⟨dq, osq⟩, hw''⟩ := hw'
          subst hw''
          go_wp2
          exact ⟨⟨k + 1, by go_num, by omega, G1, hide (HB.out.trans ((below_regrown wr dq osq).mono HB.out.size))⟩, by simp [intOf]; omega⟩
    · have hge : (N : Int) ≤ (k : Int) := by omega
      have G1 : Hid (Rr = true) := hide (by rw [← HG.out, List.drop_eq_nil_of_le (by have := HN.out; omega)]; rfl)
      go_wp2
      go_ret
      exact ⟨⟨t, HT.out, ret_bool (by rw [HPl.out, HRr.out, G1.out])⟩, B5.out.trans (HB.out.mono B5.out.size)⟩
end Go.Proofs.YtjbgjdjmejhejaaGreatDoor
