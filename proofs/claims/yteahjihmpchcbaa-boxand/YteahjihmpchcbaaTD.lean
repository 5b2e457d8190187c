/-
  The program's set: joined.
-/
import Derived.Test.YteahjihmpchcbaaTB
import Derived.Lib.MinMax
import Derived.BigRegion
set_option linter.unusedSimpArgs false
set_option linter.unusedVariables false
namespace Go.Proofs.Yteahjihmpchcbaa
open Go.RowKit

/-- Rising by their first ends. -/
def risesL (l : List Rg) : Prop := l.Pairwise fun r s => r.1 ≤ s.1
/-- What has been joined so far: of the first ones, and what is to come. -/
structure JoinInv (d e acc : List Rg) : Prop where
  rc : rightR acc
  ic : inI64 acc
  mem : ∀ n, memR acc n ↔ memR d n
  low : ∀ o q, acc = o ++ [q] → ∀ r ∈ e, q.1 ≤ r.1
  len : acc.length ≤ d.length
theorem join_start (e : List Rg) : JoinInv [] e [] := ⟨trivial, fun _ h => (List.not_mem_nil h).elim, fun _ => Iff.rfl, fun o q h => by simp at h, Nat.le_refl _⟩
theorem concat_inj {o o' : List Rg} {q q' : Rg} (h : o ++ [q] = o' ++ [q']) : q = q' := by
  have := congrArg List.getLast? h
  simpa using this
theorem join_new {d e acc : List Rg} {r : Rg} (h : JoinInv d (r :: e) acc) (hr : r.1 ≤ r.2) (ir : -9223372036854775808 ≤ r.1 ∧ r.1 ≤ 9223372036854775807 ∧ -9223372036854775808 ≤ r.2 ∧ r.2 ≤ 9223372036854775807) (hs : risesL (r :: e)) (hg : ∀ x, lastH acc = some x → x + 1 < r.1) : JoinInv (d ++ [r]) e (acc ++ [r]) := by
  refine ⟨rightR_concat _ _ h.rc hr hg, fun x hx => ?_, fun n => by rw [memR_append, memR_append, h.mem n], fun o q he s hs' => ?_, by have := h.len; simp; omega⟩
  · rcases List.mem_append.1 hx with hx | hx
    · exact h.ic x hx
    · simp at hx; rw [hx]; exact ir
  · rw [← concat_inj he]
    exact (List.pairwise_cons.1 hs).1 s hs'
theorem join_more {d e o : List Rg} {q r : Rg} (h : JoinInv d (r :: e) (o ++ [q])) (hr : r.1 ≤ r.2) (ir : -9223372036854775808 ≤ r.1 ∧ r.1 ≤ 9223372036854775807 ∧ -9223372036854775808 ≤ r.2 ∧ r.2 ≤ 9223372036854775807) (hg : r.1 ≤ q.2 + 1) : JoinInv (d ++ [r]) e (o ++ [(q.1, max q.2 r.2)]) := by
  have hl := h.low o q rfl
  have hqr := hl r (by simp)
  have hq := rightR_split o q h.rc
  refine ⟨rightR_last o q _ h.rc (by omega), fun x hx => ?_, fun n => ?_, fun o' q' he s hs => ?_, by have := h.len; simp at *; omega⟩
  · have iq := h.ic q (by simp)
    rcases List.mem_append.1 hx with hx | hx
    · exact h.ic x (by simp [hx])
    · simp at hx; rw [hx]; dsimp only; omega
  · have hm := h.mem n
    rw [memR_append, memR_one] at hm
    rw [memR_append, memR_append, ← hm, memR_one, memR_one]
    dsimp only
    constructor
    · rintro (hx | hx)
      · exact Or.inl (Or.inl hx)
      · by_cases hn : n ≤ q.2
        · exact Or.inl (Or.inr ⟨hx.1, hn⟩)
        · exact Or.inr ⟨by omega, by omega⟩
    · rintro ((hx | hx) | hx)
      · exact Or.inl hx
      · exact Or.inr ⟨hx.1, by omega⟩
      · exact Or.inr ⟨by omega, by omega⟩
  · rw [← concat_inj he]
    exact hl s (by simp [hs])
theorem take_succ_getD {l : List Rg} {k : Nat} (h : k < l.length) : l.take (k + 1) = l.take k ++ [l.getD k (0, 0)] := by
  rw [List.take_add_one, List.getD_eq_getElem?_getD, List.getElem?_eq_getElem h]; rfl
theorem OwnR.empty_form {w : World} {B : Nat} {v : Value} (h : OwnR w B v []) : ∃ a cap, v = .slice a 0 cap := by
  rcases h.2 with ⟨e, _⟩ | ⟨g, cap, cur, e, _⟩
  · exact ⟨_, _, e⟩
  · exact ⟨_, _, e⟩

set_option maxHeartbeats 4000000 in
set_option maxRecDepth 100000 in
theorem joined_any (v : Value) (l : List Rg) (w : World) (hv : RngsAt w v l) (hs : risesL l) (hle : ∀ r ∈ l, r.1 ≤ r.2) (hn : l.length ≤ 100000) :
    Calls Try.prog 47 #[v] w fun r w' => (∃ u o, r = .returned u ∧ RangesOut l o ∧ OwnR w' w.heap.size u o) ∧ Below w.heap.size w w' := by
  have HV := hide hv
  have HI := hide hv.1
  have HS := hide hs
  have HL := hide hle
  obtain ⟨a, cap, rfl⟩ := hv.form
  have hlen := hv.2.1
  clear hv hs hle
  obtain ⟨N, hN⟩ : ∃ N : Nat, N = l.length := ⟨_, rfl⟩
  rw [← hN] at hlen hn HV ⊢
  have HN := hide hN
  clear hN
  go_enter Try.func47, Try.ntmps47
  go_wp2
  go_loopw [3, 9] (fun o i wr => ∃ (k : Nat) (acc : List Rg), i = .int .i64 k ∧ k ≤ N ∧ Hid (OwnR wr w.heap.size o acc) ∧ Hid (JoinInv (l.take k) (l.drop k) acc) ∧ Hid (Below w.heap.size w wr)) (fun _ i _ => N - (intOf i).toNat)
  case atStart => exact ⟨0, [], rfl, by omega, hide (ownR_none _ _), hide (join_start _), hide (Below.refl _ _)⟩
  case round =>
    obtain ⟨k, acc, rfl, hk, HO, HJ, HB⟩ := hrel
    by_cases hlt : k < N
    · have hk' : k < l.length := by rw [← HN.out]; exact hlt
      have IW := HV.out.on HB.out
      obtain ⟨b, off, ha, hb, c0, c1⟩ := IW.at.2 k hk'
      subst ha
      have bd := IW.bound k hk'
      have J0 := HJ.out
      rw [drop_getD l k (0, 0) hk'] at J0
      have HR0 : Hid ((l.getD k (0, 0)).1 ≤ (l.getD k (0, 0)).2) := hide (HL.out _ (by rw [List.getD_eq_getElem?_getD, List.getElem?_eq_getElem hk']; exact List.getElem_mem _))
      have HP : Hid (risesL (l.getD k (0, 0) :: l.drop (k + 1))) := hide (by rw [← drop_getD l k (0, 0) hk']; exact List.Pairwise.sublist (List.drop_sublist _ _) HS.out)
      have HT := hide (take_succ_getD hk')
      have HJ1 := hide J0
      have BD := hide bd
      have HLn : Hid (acc.length ≤ k) := hide (by have := J0.len; simp at this; omega)
      clear J0 HJ IW
      obtain ⟨r, hr0⟩ : ∃ r, r = l.getD k (0, 0) := ⟨_, rfl⟩
      rw [← hr0] at c0 c1 HR0 HP HT HJ1 BD bd
      clear hr0
      have szB := HB.out.size
      have B5 := hide (HB.out.alloc szB (Obj.cells #[Value.int IntKind.i64 r.1, Value.int IntKind.i64 r.2] 55))
      have O5 := hide (HO.out.alloc (Obj.cells #[Value.int IntKind.i64 r.1, Value.int IntKind.i64 r.2] 55))
      obtain ⟨n0, n1⟩ := rb_new wr r
      have nf : wr.heap.size < (wr.alloc (Obj.cells #[Value.int IntKind.i64 r.1, Value.int IntKind.i64 r.2] 55)).heap.size := by simp
      rcases List.eq_nil_or_concat acc with e | ⟨o, q, e⟩
      · subst e
        obtain ⟨a3, cap3, rfl⟩ := HO.out.empty_form
        clear HO HB
        go_wp2
        go_quiet (fail)
        have B6 := hide (below_field B5.out nq)
        have O6 := hide (O5.out.drewN nq)
        have m0 : ((wr.alloc (Obj.cells #[Value.int IntKind.i64 r.1, Value.int IntKind.i64 r.2] 55)).drewN nq).cell? ⟨wr.heap.size, 0, none⟩ = some (.int .i64 r.1) := n0
        have m1 : ((wr.alloc (Obj.cells #[Value.int IntKind.i64 r.1, Value.int IntKind.i64 r.2] 55)).drewN nq).cell? ⟨wr.heap.size, 1, none⟩ = some (.int .i64 r.2) := n1
        clear c0 c1 n0 n1 nf B5 O5 bd szB
        generalize (wr.alloc (Obj.cells #[Value.int IntKind.i64 r.1, Value.int IntKind.i64 r.2] 55)).drewN nq = w6 at m0 m1 O6 B6 ⊢
        have sz6 := B6.out.size
        have LE : Hid (([] : List Rg).length + 1 ≤ 1000000) := hide (by simp)
        have NX := hide (join_new HJ1.out HR0.out BD.out HP.out (fun x e => by rw [lastH_nil] at e; cases e))
        rw [← HT.out] at NX
        go_wp2_with (at_builtin; refine wpList_appR _ rfl _ _ rfl w.heap.size _ _ rfl (O6.out.alloc _) _ 1 1 _ [r] rfl rfl (heap_top _ _) rfl LE.out (by simp; omega) ?_; intro v8 w8 hO8 hb8; have O8 := hide hO8; have B8 := hide ((B6.out.alloc sz6 _).trans hb8); clear hO8 hb8)
        exact ⟨⟨k + 1, [] ++ [r], by go_num, by omega, O8, NX, B8⟩, by simp [intOf]; omega⟩
      · rw [List.concat_eq_append] at e
        subst e
        obtain ⟨g, oc, hf, hg1, hg2⟩ := HO.out.form (by simp)
        subst hf
        have hm : (o ++ [q]).length = o.length + 1 := by simp
        have qd : -9223372036854775808 ≤ q.1 ∧ q.1 ≤ 9223372036854775807 ∧ -9223372036854775808 ≤ q.2 ∧ q.2 ≤ 9223372036854775807 := HJ1.out.ic q (by simp)
        have HX := fun (W : World) => hide (apart_any q r W bd.1 bd.2.1 qd.2.2.1)
        have NN := hide (fun h => join_new HJ1.out HR0.out BD.out HP.out h)
        have NM := hide (fun h => join_more HJ1.out HR0.out BD.out h)
        rw [← HT.out] at NN NM
        obtain ⟨x0, x1⟩ := O5.out.at o.length (by simp)
        have ge : (o ++ [q]).getD o.length (0, 0) = q := by simp [List.getD_eq_getElem?_getD]
        rw [ge] at x0 x1
        have xf := O5.out.cold (o.length * 2 + 1)
        have LE : Hid ((o ++ [q]).length + 1 ≤ 1000000) := hide (by have := HLn.out; omega)
        have hmx : o.length + 1 ≤ 100000 := by have := HLn.out; rw [hm] at this; omega
        have HO' := hide O5.out
        rw [hm] at HO' ⊢
        clear HO HB O5 HJ1 ge hm
        generalize hmo : o.length = m at x0 x1 xf HO' hmx ⊢
        have HM := hide hmo
        clear hmo
        go_wp2
        generalize wr.alloc (Obj.cells #[Value.int IntKind.i64 r.1, Value.int IntKind.i64 r.2] 55) = w5 at n0 n1 nf B5 x0 x1 xf HO' ⊢
        clear c0 c1 szB
        have X := fun (d : Nat) (os : Array Obj) => hide (Calls.regrown_of (HX (Sort.grow (redrawn w5 d) os)).out)
        have p0 := cell_regrown n0
        have p1 := cell_regrown n1
        have p2 := cell_regrown x0
        have p3 := cell_regrown x1
        clear HX
        refine wp_region_quiet_below mixed (by kernel_rfl) ?_
        repeat (first | go_big_quiet_step (exact unhide (X _ _)) | quiet_step (exact unhide (X _ _)))
        refine wpQuiet_nil ?_
        intro _ hw'
        obtain ⟨⟨dq, osq⟩, hw''⟩ := hw'
        subst hw''
        have bq := below_regrown w5 dq osq
        have B6 := hide (B5.out.trans (bq.mono B5.out.size))
        have O6 := hide (HO'.out.on bq)
        have m0 := p0 dq osq
        have m1 := p1 dq osq
        have m2 := p2 dq osq
        have m3 := p3 dq osq
        have mf := (bq.frozen (p := ⟨g, m * 2 + 1, none⟩) (by simpa using lt_cell (a := ⟨g, _, none⟩) x1)).trans xf
        clear p0 p1 p2 p3 X x0 x1 xf n0 n1 nf B5 HO' bq bd
        dsimp only
        generalize Sort.grow (redrawn w5 dq) osq = w6 at B6 O6 m0 m1 m2 m3 mf ⊢
        have sz6 := B6.out.size
        by_cases hap : q.2 + 1 < r.1
        · have da : decide (q.2 + 1 < r.1) = true := decide_eq_true hap
          have NX := hide (NN.out (fun x e => by rw [lastH_concat] at e; cases e; exact hap))
          clear NM NN m2 m3 mf
          simp only [da, Bool.not_true]
          go_wp2_with (at_builtin; refine wpList_appR _ rfl _ _ rfl w.heap.size _ _ rfl (O6.out.alloc _) _ 1 1 _ [r] rfl rfl (heap_top _ _) rfl LE.out (by simp; omega) ?_; intro v8 w8 hO8 hb8; have O8 := hide hO8; have B8 := hide ((B6.out.alloc sz6 _).trans hb8); clear hO8 hb8)
          exact ⟨⟨k + 1, (o ++ [q]) ++ [r], by go_num, by omega, O8, NX, B8⟩, by simp [intOf]; omega⟩
        · have da : decide (q.2 + 1 < r.1) = false := decide_eq_false hap
          have NX := hide (NM.out (by omega))
          clear NM NN m0
          simp only [da, Bool.not_false]
          have PT := O6.out
          have HM' := HM.out
          rw [← HM'] at PT
          have PT' := PT.put (max q.2 r.2)
          rw [HM'] at PT'
          have PU := hide PT'
          clear PT PT' HM'
          go_wp2
          go_big_region
          have O7 : Hid (OwnR ((w6.setCell ⟨g, m * 2 + 1, none⟩ (.int .i64 (max q.2 r.2))).drew) w.heap.size (.slice (some ⟨g, 0, none⟩) (m + 1) oc) (o ++ [(q.1, max q.2 r.2)])) := hide PU.out.1
          have B7 : Hid (Below w.heap.size w ((w6.setCell ⟨g, m * 2 + 1, none⟩ (.int .i64 (max q.2 r.2))).drew)) := hide (B6.out.trans PU.out.2).drew
          clear PU m1 m2 m3 mf O6 B6 sz6 LE
          generalize ((w6.setCell ⟨g, m * 2 + 1, none⟩ (.int .i64 (max q.2 r.2))).drew) = w7 at O7 B7 ⊢
          go_wp2
          exact ⟨⟨k + 1, o ++ [(q.1, max q.2 r.2)], by go_num, by omega, O7, NX, B7⟩, by simp [intOf]; omega⟩
    · have hge : (N : Int) ≤ (k : Int) := by omega
      have HE : Hid (RangesOut l acc) := hide (by
        have J := HJ.out
        have h1 : l.length ≤ k := by have := HN.out; omega
        refine ⟨J.rc, J.ic, by have := J.len; simp at this; omega, fun n => ?_⟩
        rw [J.mem n, List.take_of_length_le h1])
      go_wp2
      go_ret
      exact ⟨⟨_, acc, rfl, HE.out, HO.out⟩, HB.out⟩
end Go.Proofs.Yteahjihmpchcbaa
