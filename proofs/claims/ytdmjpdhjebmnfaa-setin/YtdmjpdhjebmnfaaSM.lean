/-
  The walk of the third reference's Ranges.
-/
import Derived.Test.YtdmjpdhjebmnfaaSL
import Derived.BigQuiet
set_option linter.unusedSimpArgs false
set_option linter.unusedVariables false
namespace Go.Proofs.Ytdmjpdhjebmnfaa
open Go.RowKit

theorem rb_new (w : World) (r : Rg) : (w.alloc (Obj.cells #[Value.int IntKind.i64 r.1, Value.int IntKind.i64 r.2] 45)).cell? ⟨w.heap.size, 0, none⟩ = some (.int .i64 r.1) ∧ (w.alloc (Obj.cells #[Value.int IntKind.i64 r.1, Value.int IntKind.i64 r.2] 45)).cell? ⟨w.heap.size, 1, none⟩ = some (.int .i64 r.2) :=
  ⟨cell_heap (heap_new w _) 0, cell_heap (heap_new w _) 1⟩
theorem below_field {B : Nat} {w w1 : World} (h : Below B w w1) (n : Nat) : Below B w (w1.drewN n) := ⟨h.os, h.tape, h.output, h.size, h.block⟩

/-- What Ranges answers. -/
def RangesOut (l o : List Rg) : Prop := rightR o ∧ inI64 o ∧ o.length ≤ l.length ∧ ∀ n, memR o n ↔ memR l n

set_option maxHeartbeats 8000000 in
set_option maxRecDepth 100000 in
theorem refRanges_any (v : Value) (l : List Rg) (w : World) (hv : RngsAt w v l) (hn : l.length ≤ 100000) :
    Calls Try.prog 22 #[v] w fun r w' => (∃ u o, r = .returned u ∧ RangesOut l o ∧ OwnR w' w.heap.size u o) ∧ Below w.heap.size w w' := by
  have HV := hide hv
  have HI := hide hv.1
  obtain ⟨_, hlen, a, cap, rfl, hel⟩ := hv
  clear hel
  obtain ⟨N, hN⟩ : ∃ N : Nat, N = l.length := ⟨_, rfl⟩
  rw [← hN] at hlen hn HV ⊢
  have HN := hide hN
  clear hN
  go_enter Try.func22, Try.ntmps22
  go_wp2
  go_loopw [3] (fun o wr => ∃ ol : List Rg, Hid (OwnR wr w.heap.size o ol) ∧ Hid (ol = [] → o = .slice none 0 0) ∧ Hid (rightR ol) ∧ Hid (inI64 ol) ∧ Hid (takenP ol l) ∧ Hid (ol.length + leftN (lastH ol) l ≤ l.length) ∧ Hid (Below w.heap.size w wr)) (fun o wr => leftN (lastM wr o) l)
  case atStart => exact ⟨[], hide (ownR_none _ _), hide (fun _ => rfl), hide trivial, hide (fun _ h => by simp at h), hide (taken_nil l), hide (by unfold leftN; rw [List.length_nil, Nat.zero_add]; exact List.length_filter_le _ _), hide (Below.refl _ _)⟩
  case round =>
    obtain ⟨ol, HO, H0, HRt, HI64, HT, HLn, HB⟩ := hrel
    rcases List.eq_nil_or_concat ol with e | ⟨o1, q, e⟩
    · subst e
      have hv0 := H0.out rfl
      subst hv0
      go_wp2
      go_loopw [4, 5] (fun bv iv wr' => ∃ (Bi : Int) (i : Nat), bv = .int .i64 Bi ∧ iv = .int .i64 i ∧ i ≤ N ∧ -1 ≤ Bi ∧ Bi < (N : Int) ∧ Hid (bestP none l i Bi) ∧ Hid (OwnR wr' w.heap.size (.slice none 0 0) []) ∧ Hid (Below w.heap.size w wr')) (fun _ i _ => N - (intOf i).toNat)
      case atStart => exact ⟨-1, 0, rfl, rfl, by omega, by omega, by omega, hide (best_start _ _), HO, HB⟩
      case round =>
        obtain ⟨Bi, i, rfl, rfl, hi, hB1, hB2, HBest, HO', HB'⟩ := hrel
        by_cases hit : i < N
        · have hi' : i < l.length := by rw [← HN.out]; exact hit
          have IW := HV.out.on HB'.out
          obtain ⟨b, off, ha, hb, x0, x1⟩ := IW.at.2 i hi'
          subst ha
          obtain ⟨q0, q1, q2, q3⟩ := IW.bound i hi'
          have bst : 0 ≤ Bi → ∃ p : Rg, p = l.getD Bi.toNat (0, 0) ∧ b < wr.heap.size ∧ wr.cell? ⟨b, off + Bi.toNat * 2, none⟩ = some (.int .i64 p.1) ∧ wr.cell? ⟨b, off + Bi.toNat * 2 + 1, none⟩ = some (.int .i64 p.2) := fun h0 => by
            obtain ⟨b', off', ha, hb', y0, y1⟩ := IW.at.2 Bi.toNat (by rw [← HN.out]; omega)
            simp at ha
            obtain ⟨rfl, rfl⟩ := ha
            exact ⟨_, rfl, hb', y0, y1⟩
          have BST := hide bst
          clear bst IW
          have HRi : Hid (l.getD i (0, 0) = l.getD i (0, 0)) := hide rfl
          obtain ⟨r, hr0⟩ : ∃ r, r = l.getD i (0, 0) := ⟨_, rfl⟩
          rw [← hr0] at x0 x1 q0 q1 q2 q3
          have HR := hide hr0
          clear hr0 HRi
          obtain ⟨n0, n1⟩ := rb_new wr r
          have B5 := hide (HB'.out.alloc HB'.out.size (Obj.cells #[Value.int IntKind.i64 r.1, Value.int IntKind.i64 r.2] 45))
          have O5 := hide (HO'.out.alloc (Obj.cells #[Value.int IntKind.i64 r.1, Value.int IntKind.i64 r.2] 45))
          have bw := (Below.refl _ wr).alloc (Nat.le_refl _) (Obj.cells #[Value.int IntKind.i64 r.1, Value.int IntKind.i64 r.2] 45)
          have BS5 : Hid (0 ≤ Bi → ∃ p : Rg, p = l.getD Bi.toNat (0, 0) ∧ (wr.alloc (Obj.cells #[Value.int IntKind.i64 r.1, Value.int IntKind.i64 r.2] 45)).cell? ⟨b, off + Bi.toNat * 2, none⟩ = some (.int .i64 p.1) ∧ (wr.alloc (Obj.cells #[Value.int IntKind.i64 r.1, Value.int IntKind.i64 r.2] 45)).cell? ⟨b, off + Bi.toNat * 2 + 1, none⟩ = some (.int .i64 p.2)) := hide (fun h0 => by
            obtain ⟨p, hp, hb', y0, y1⟩ := BST.out h0
            exact ⟨p, hp, (bw.cell (p := ⟨b, _, none⟩) hb').trans y0, (bw.cell (p := ⟨b, _, none⟩) hb').trans y1⟩)
          have bw0 := hide bw
          clear bw BST HO' HB'
          by_cases h1 : r.1 ≤ r.2
          · skip
            have d1 : decide (r.2 < r.1) = false := decide_eq_false (by omega)
            have HC : Hid (candP none (l.getD i (0, 0))) := hide (by rw [← HR.out]; exact ⟨h1, fun h e => by cases e⟩)
            by_cases hneg : Bi < 0
            · have d4 : decide (Bi < 0) = true := decide_eq_true hneg
              clear BS5
              go_wp2
              generalize wr.alloc (Obj.cells #[Value.int IntKind.i64 r.1, Value.int IntKind.i64 r.2] 45) = w5 at *
              clear x0 x1 bw0
              go_quiet (fail)
              go_wp2
              go_quiet (fail)
              go_wp2
              exact ⟨⟨(i : Int), i + 1, rfl, by go_num, by omega, by omega, by omega, hide (best_new HBest.out hi' HC.out (fun h => by omega)), hide O5.out, hide (below_field B5.out _)⟩, by simp [intOf]; omega⟩
            · have d4 : decide (Bi < 0) = false := decide_eq_false hneg
              obtain ⟨p, hp, y0, y1⟩ := BS5.out (by omega)
              have HPq := hide hp
              have bi0 : 0 ≤ Bi := by omega
              clear hp BS5 hneg
              by_cases h5 : r.1 < p.1
              · have d5 : decide (r.1 < p.1) = true := decide_eq_true h5
                go_wp2
                generalize wr.alloc (Obj.cells #[Value.int IntKind.i64 r.1, Value.int IntKind.i64 r.2] 45) = w5 at *
                clear x0 x1 bw0
                go_quiet (fail)
                go_wp2
                go_quiet (fail)
                go_wp2
                exact ⟨⟨(i : Int), i + 1, rfl, by go_num, by omega, by omega, by omega, hide (best_new HBest.out hi' HC.out (fun _ => by rw [← HR.out, ← HPq.out]; omega)), hide O5.out, hide (below_field B5.out _)⟩, by simp [intOf]; omega⟩
              · have d5 : decide (r.1 < p.1) = false := decide_eq_false h5
                by_cases h6 : r.1 = p.1
                · have d6 : (r.1 == p.1) = true := beq_iff_eq.2 h6
                  have h6' : Hid (r.1 = p.1) := hide h6
                  clear h6
                  by_cases h7 : p.2 < r.2
                  · have d7 : decide (p.2 < r.2) = true := decide_eq_true h7
                    go_wp2
                    generalize wr.alloc (Obj.cells #[Value.int IntKind.i64 r.1, Value.int IntKind.i64 r.2] 45) = w5 at *
                    clear x0 x1 bw0
                    go_quiet (fail)
                    go_wp2
                    go_quiet (fail)
                    go_wp2
                    exact ⟨⟨(i : Int), i + 1, rfl, by go_num, by omega, by omega, by omega, hide (best_new HBest.out hi' HC.out (fun _ => by rw [← HR.out, ← HPq.out, h6'.out]; omega)), hide O5.out, hide (below_field B5.out _)⟩, by simp [intOf]; omega⟩
                  · have d7 : decide (p.2 < r.2) = false := decide_eq_false h7
                    go_wp2
                    generalize wr.alloc (Obj.cells #[Value.int IntKind.i64 r.1, Value.int IntKind.i64 r.2] 45) = w5 at *
                    clear x0 x1 bw0
                    go_quiet (fail)
                    go_wp2
                    go_quiet (fail)
                    go_wp2
                    exact ⟨⟨Bi, i + 1, rfl, by go_num, by omega, by omega, by omega, hide (best_keep HBest.out bi0 (by rw [← HR.out, ← HPq.out, h6'.out]; omega)), hide O5.out, hide (below_field B5.out _)⟩, by simp [intOf]; omega⟩
                · have d6 : (r.1 == p.1) = false := beq_eq_false_iff_ne.2 h6
                  go_wp2
                  generalize wr.alloc (Obj.cells #[Value.int IntKind.i64 r.1, Value.int IntKind.i64 r.2] 45) = w5 at *
                  clear x0 x1 bw0
                  go_quiet (fail)
                  go_wp2
                  go_quiet (fail)
                  go_wp2
                  exact ⟨⟨Bi, i + 1, rfl, by go_num, by omega, by omega, by omega, hide (best_keep HBest.out bi0 (by rw [← HR.out, ← HPq.out]; omega)), hide O5.out, hide (below_field B5.out _)⟩, by simp [intOf]; omega⟩
          · have d1 : decide (r.2 < r.1) = true := decide_eq_true (by omega)
            have HC : Hid (¬ candP none (l.getD i (0, 0))) := hide (by rw [← HR.out]; intro h; exact h1 h.1)
            clear BS5
            go_wp2
            generalize wr.alloc (Obj.cells #[Value.int IntKind.i64 r.1, Value.int IntKind.i64 r.2] 45) = w5 at *
            clear x0 x1 bw0
            go_quiet (fail)
            go_wp2
            exact ⟨⟨Bi, i + 1, rfl, by go_num, by omega, by omega, by omega, hide (best_skip HBest.out HC.out), hide O5.out, hide (below_field B5.out _)⟩, by simp [intOf]; omega⟩
        · have hge : (N : Int) ≤ (i : Int) := by omega
          have HBe : Hid (bestP none l l.length Bi) := hide (by have := HBest.out; rw [show i = l.length by have := HN.out; omega] at this; exact this)
          clear HBest
          by_cases hneg : Bi < 0
          · have HD : Hid (RangesOut l []) := hide ⟨HRt.out, HI64.out, by have := HLn.out; omega, taken_done _ _ HT.out (by rw [show lastH [] = none from rfl]; exact best_none HBe.out hneg)⟩
            go_wp2
            go_ret
            exact ⟨⟨_, _, rfl, HD.out, HO'.out⟩, HB'.out⟩
          · obtain ⟨hlt, hf⟩ := best_some HBe.out hneg
            have IW := HV.out.on HB'.out
            obtain ⟨b, off, ha, hb, x0, x1⟩ := IW.at.2 Bi.toNat hlt
            subst ha
            obtain ⟨q0, q1, q2, q3⟩ := IW.bound Bi.toNat hlt
            obtain ⟨r, hr0⟩ : ∃ r, r = l.getD Bi.toNat (0, 0) := ⟨_, rfl⟩
            rw [← hr0] at x0 x1 q0 q1 q2 q3 hf
            have HFr := hide hf
            have bi0 : 0 ≤ Bi := by omega
            have rle : r.1 ≤ r.2 := hf.2.1.1
            have LT : Hid (leftN (some r.2) l < leftN none l) := hide (leftN_lt _ l r hf.1 hf.2.1 (fun h e => by cases e))
            have RI : Hid (-9223372036854775808 ≤ r.1 ∧ r.1 ≤ 9223372036854775807 ∧ -9223372036854775808 ≤ r.2 ∧ r.2 ≤ 9223372036854775807) := hide ⟨q0, q1, q2, q3⟩
            clear hr0 IW hf HBe hneg
            obtain ⟨n0, n1⟩ := rb_new wr r
            have B6 := hide (HB'.out.alloc HB'.out.size (Obj.cells #[Value.int IntKind.i64 r.1, Value.int IntKind.i64 r.2] 45))
            have O6 := hide (HO'.out.alloc (Obj.cells #[Value.int IntKind.i64 r.1, Value.int IntKind.i64 r.2] 45))
            skip
            clear HO' HB'
            go_wp2
            generalize wr.alloc (Obj.cells #[Value.int IntKind.i64 r.1, Value.int IntKind.i64 r.2] 45) = w6 at *
            clear x0 x1
            go_quiet (fail)
            have O7 : Hid (OwnR (w6.drewN nq) w.heap.size (.slice none 0 0) []) := hide O6.out
            have m0 : (w6.drewN nq).cell? ⟨wr.heap.size, 0, none⟩ = some (.int .i64 r.1) := n0
            have m1 : (w6.drewN nq).cell? ⟨wr.heap.size, 1, none⟩ = some (.int .i64 r.2) := n1
            have B7 := hide (below_field B6.out nq)
            clear n0 n1 O6 B6
            generalize w6.drewN nq = w7 at *
            have szB := B7.out.size
            have LE : Hid ([].length + 1 ≤ 1000000) := hide (by have h1 := HLn.out; have h2 := HN.out; omega)
            go_wp2_with (at_builtin; refine wpList_appR _ rfl _ _ rfl w.heap.size _ _ rfl (O7.out.alloc _) _ 1 1 _ [r] rfl rfl (heap_top _ _) rfl LE.out (by simp; omega) ?_; intro v8 w8 hO8 hb8; have O8 := hide hO8; have B8 := hide ((B7.out.alloc szB _).trans hb8); clear hO8 hb8)
            refine ⟨⟨[] ++ [r], O8, hide (by simp), hide (rightR_concat _ r HRt.out rle (fun h e => ?_)), hide ?_, hide (taken_app _ l r HT.out ?_ (fun h e => ?_)), hide ?_, B8⟩, ?_⟩
            · cases e
            · intro x hx
              rcases List.mem_append.1 hx with hx | hx
              · exact HI64.out x hx
              · simp at hx; rw [hx]; exact RI.out
            · exact HFr.out
            · cases e
            · have h1 := HLn.out; have h2 := LT.out; rw [show lastH [] = none from rfl] at h1; rw [lastH_concat, List.length_append]; simp only [List.length_singleton]; omega
            · have h2 := LT.out; rw [lastM_eq O8.out (by simp), lastH_concat, lastM_eq HO.out (fun _ => rfl), show lastH [] = none from rfl]; exact h2
    · rw [List.concat_eq_append] at e
      subst e
      obtain ⟨g, oc, hf, _, _⟩ := HO.out.form (by simp)
      subst hf
      obtain ⟨L, hL⟩ : ∃ L : Nat, L = (o1 ++ [q]).length := ⟨_, rfl⟩
      have HLq : Hid (L = o1.length + 1) := hide (by rw [hL]; simp)
      have L1 : 1 ≤ L := by have := HLq.out; omega
      have L2 : L ≤ 100000 := by have h1 := HLn.out; have h2 := HN.out; rw [← hL] at h1; omega
      rw [← hL] at HO ⊢
      have HL := hide hL
      clear hL
      go_wp2
      go_loopw [4, 5] (fun bv iv wr' => ∃ (Bi : Int) (i : Nat), bv = .int .i64 Bi ∧ iv = .int .i64 i ∧ i ≤ N ∧ -1 ≤ Bi ∧ Bi < (N : Int) ∧ Hid (bestP (some q.2) l i Bi) ∧ Hid (OwnR wr' w.heap.size (.slice (some ⟨g, 0, none⟩) L oc) (o1 ++ [q])) ∧ Hid (Below w.heap.size w wr')) (fun _ i _ => N - (intOf i).toNat)
      case atStart => exact ⟨-1, 0, rfl, rfl, by omega, by omega, by omega, hide (best_start _ _), HO, HB⟩
      case round =>
        obtain ⟨Bi, i, rfl, rfl, hi, hB1, hB2, HBest, HO', HB'⟩ := hrel
        by_cases hit : i < N
        · have hi' : i < l.length := by rw [← HN.out]; exact hit
          have IW := HV.out.on HB'.out
          obtain ⟨b, off, ha, hb, x0, x1⟩ := IW.at.2 i hi'
          subst ha
          obtain ⟨q0, q1, q2, q3⟩ := IW.bound i hi'
          have bst : 0 ≤ Bi → ∃ p : Rg, p = l.getD Bi.toNat (0, 0) ∧ b < wr.heap.size ∧ wr.cell? ⟨b, off + Bi.toNat * 2, none⟩ = some (.int .i64 p.1) ∧ wr.cell? ⟨b, off + Bi.toNat * 2 + 1, none⟩ = some (.int .i64 p.2) := fun h0 => by
            obtain ⟨b', off', ha, hb', y0, y1⟩ := IW.at.2 Bi.toNat (by rw [← HN.out]; omega)
            simp at ha
            obtain ⟨rfl, rfl⟩ := ha
            exact ⟨_, rfl, hb', y0, y1⟩
          have BST := hide bst
          clear bst IW
          have oc0 : wr.cell? ⟨g, (L - 1) * 2 + 1, none⟩ = some (.int .i64 q.2) := by
            have := (HO'.out.at o1.length (by simp)).2
            rw [show L - 1 = o1.length by have := HLq.out; omega, this]
            simp [List.getD_eq_getElem?_getD]
          have gl : g < wr.heap.size := by
            obtain ⟨g', cap', e, _, hlt⟩ := HO'.out.form (by simp)
            injection e with e1 e2 e3; injection e1 with e1; injection e1 with e1
            rw [e1]; exact hlt
          have HRi : Hid (l.getD i (0, 0) = l.getD i (0, 0)) := hide rfl
          obtain ⟨r, hr0⟩ : ∃ r, r = l.getD i (0, 0) := ⟨_, rfl⟩
          rw [← hr0] at x0 x1 q0 q1 q2 q3
          have HR := hide hr0
          clear hr0 HRi
          obtain ⟨n0, n1⟩ := rb_new wr r
          have B5 := hide (HB'.out.alloc HB'.out.size (Obj.cells #[Value.int IntKind.i64 r.1, Value.int IntKind.i64 r.2] 45))
          have O5 := hide (HO'.out.alloc (Obj.cells #[Value.int IntKind.i64 r.1, Value.int IntKind.i64 r.2] 45))
          have bw := (Below.refl _ wr).alloc (Nat.le_refl _) (Obj.cells #[Value.int IntKind.i64 r.1, Value.int IntKind.i64 r.2] 45)
          have oc5 := (bw.cell (p := ⟨g, (L - 1) * 2 + 1, none⟩) gl).trans oc0
          have BS5 : Hid (0 ≤ Bi → ∃ p : Rg, p = l.getD Bi.toNat (0, 0) ∧ (wr.alloc (Obj.cells #[Value.int IntKind.i64 r.1, Value.int IntKind.i64 r.2] 45)).cell? ⟨b, off + Bi.toNat * 2, none⟩ = some (.int .i64 p.1) ∧ (wr.alloc (Obj.cells #[Value.int IntKind.i64 r.1, Value.int IntKind.i64 r.2] 45)).cell? ⟨b, off + Bi.toNat * 2 + 1, none⟩ = some (.int .i64 p.2)) := hide (fun h0 => by
            obtain ⟨p, hp, hb', y0, y1⟩ := BST.out h0
            exact ⟨p, hp, (bw.cell (p := ⟨b, _, none⟩) hb').trans y0, (bw.cell (p := ⟨b, _, none⟩) hb').trans y1⟩)
          have bw0 := hide bw
          clear bw BST HO' HB' oc0
          by_cases h1 : r.1 ≤ r.2
          · have d2 : decide (0 < L) = true := decide_eq_true (by omega)
            by_cases h2 : r.2 ≤ q.2
            · have d1 : decide (r.2 < r.1) = false := decide_eq_false (by omega)
              have d3 : decide (r.2 ≤ q.2) = true := decide_eq_true h2
              have HC : Hid (¬ candP (some q.2) (l.getD i (0, 0))) := hide (by rw [← HR.out]; intro h; have := h.2 q.2 rfl; omega)
              clear BS5
              go_wp2
              generalize wr.alloc (Obj.cells #[Value.int IntKind.i64 r.1, Value.int IntKind.i64 r.2] 45) = w5 at *
              clear x0 x1 bw0
              go_quiet (fail)
              go_wp2
              exact ⟨⟨Bi, i + 1, rfl, by go_num, by omega, by omega, by omega, hide (best_skip HBest.out HC.out), hide O5.out, hide (below_field B5.out _)⟩, by simp [intOf]; omega⟩
            · have d3 : decide (r.2 ≤ q.2) = false := decide_eq_false h2
              have d1 : decide (r.2 < r.1) = false := decide_eq_false (by omega)
              have HC : Hid (candP (some q.2) (l.getD i (0, 0))) := hide (by rw [← HR.out]; exact ⟨h1, fun h e => by cases e; omega⟩)
              by_cases hneg : Bi < 0
              · have d4 : decide (Bi < 0) = true := decide_eq_true hneg
                clear BS5
                go_wp2
                generalize wr.alloc (Obj.cells #[Value.int IntKind.i64 r.1, Value.int IntKind.i64 r.2] 45) = w5 at *
                clear x0 x1 bw0
                go_quiet (fail)
                go_wp2
                go_quiet (fail)
                go_wp2
                exact ⟨⟨(i : Int), i + 1, rfl, by go_num, by omega, by omega, by omega, hide (best_new HBest.out hi' HC.out (fun h => by omega)), hide O5.out, hide (below_field B5.out _)⟩, by simp [intOf]; omega⟩
              · have d4 : decide (Bi < 0) = false := decide_eq_false hneg
                obtain ⟨p, hp, y0, y1⟩ := BS5.out (by omega)
                have HPq := hide hp
                have bi0 : 0 ≤ Bi := by omega
                clear hp BS5 hneg
                by_cases h5 : r.1 < p.1
                · have d5 : decide (r.1 < p.1) = true := decide_eq_true h5
                  go_wp2
                  generalize wr.alloc (Obj.cells #[Value.int IntKind.i64 r.1, Value.int IntKind.i64 r.2] 45) = w5 at *
                  clear x0 x1 bw0
                  go_quiet (fail)
                  go_wp2
                  go_quiet (fail)
                  go_wp2
                  exact ⟨⟨(i : Int), i + 1, rfl, by go_num, by omega, by omega, by omega, hide (best_new HBest.out hi' HC.out (fun _ => by rw [← HR.out, ← HPq.out]; omega)), hide O5.out, hide (below_field B5.out _)⟩, by simp [intOf]; omega⟩
                · have d5 : decide (r.1 < p.1) = false := decide_eq_false h5
                  by_cases h6 : r.1 = p.1
                  · have d6 : (r.1 == p.1) = true := beq_iff_eq.2 h6
                    have h6' : Hid (r.1 = p.1) := hide h6
                    clear h6
                    by_cases h7 : p.2 < r.2
                    · have d7 : decide (p.2 < r.2) = true := decide_eq_true h7
                      go_wp2
                      generalize wr.alloc (Obj.cells #[Value.int IntKind.i64 r.1, Value.int IntKind.i64 r.2] 45) = w5 at *
                      clear x0 x1 bw0
                      go_quiet (fail)
                      go_wp2
                      go_quiet (fail)
                      go_wp2
                      exact ⟨⟨(i : Int), i + 1, rfl, by go_num, by omega, by omega, by omega, hide (best_new HBest.out hi' HC.out (fun _ => by rw [← HR.out, ← HPq.out, h6'.out]; omega)), hide O5.out, hide (below_field B5.out _)⟩, by simp [intOf]; omega⟩
                    · have d7 : decide (p.2 < r.2) = false := decide_eq_false h7
                      go_wp2
                      generalize wr.alloc (Obj.cells #[Value.int IntKind.i64 r.1, Value.int IntKind.i64 r.2] 45) = w5 at *
                      clear x0 x1 bw0
                      go_quiet (fail)
                      go_wp2
                      go_quiet (fail)
                      go_wp2
                      exact ⟨⟨Bi, i + 1, rfl, by go_num, by omega, by omega, by omega, hide (best_keep HBest.out bi0 (by rw [← HR.out, ← HPq.out, h6'.out]; omega)), hide O5.out, hide (below_field B5.out _)⟩, by simp [intOf]; omega⟩
                  · have d6 : (r.1 == p.1) = false := beq_eq_false_iff_ne.2 h6
                    go_wp2
                    generalize wr.alloc (Obj.cells #[Value.int IntKind.i64 r.1, Value.int IntKind.i64 r.2] 45) = w5 at *
                    clear x0 x1 bw0
                    go_quiet (fail)
                    go_wp2
                    go_quiet (fail)
                    go_wp2
                    exact ⟨⟨Bi, i + 1, rfl, by go_num, by omega, by omega, by omega, hide (best_keep HBest.out bi0 (by rw [← HR.out, ← HPq.out]; omega)), hide O5.out, hide (below_field B5.out _)⟩, by simp [intOf]; omega⟩
          · have d1 : decide (r.2 < r.1) = true := decide_eq_true (by omega)
            have HC : Hid (¬ candP (some q.2) (l.getD i (0, 0))) := hide (by rw [← HR.out]; intro h; exact h1 h.1)
            clear BS5
            go_wp2
            generalize wr.alloc (Obj.cells #[Value.int IntKind.i64 r.1, Value.int IntKind.i64 r.2] 45) = w5 at *
            clear x0 x1 bw0
            go_quiet (fail)
            go_wp2
            exact ⟨⟨Bi, i + 1, rfl, by go_num, by omega, by omega, by omega, hide (best_skip HBest.out HC.out), hide O5.out, hide (below_field B5.out _)⟩, by simp [intOf]; omega⟩
        · have hge : (N : Int) ≤ (i : Int) := by omega
          have HBe : Hid (bestP (some q.2) l l.length Bi) := hide (by have := HBest.out; rw [show i = l.length by have := HN.out; omega] at this; exact this)
          clear HBest
          by_cases hneg : Bi < 0
          · have HD : Hid (RangesOut l (o1 ++ [q])) := hide ⟨HRt.out, HI64.out, by have := HLn.out; omega, taken_done _ _ HT.out (by rw [show lastH (o1 ++ [q]) = (some q.2) from lastH_concat _ _]; exact best_none HBe.out hneg)⟩
            go_wp2
            go_ret
            exact ⟨⟨_, _, rfl, HD.out, HO'.out⟩, HB'.out⟩
          · obtain ⟨hlt, hf⟩ := best_some HBe.out hneg
            have IW := HV.out.on HB'.out
            obtain ⟨b, off, ha, hb, x0, x1⟩ := IW.at.2 Bi.toNat hlt
            subst ha
            obtain ⟨q0, q1, q2, q3⟩ := IW.bound Bi.toNat hlt
            obtain ⟨r, hr0⟩ : ∃ r, r = l.getD Bi.toNat (0, 0) := ⟨_, rfl⟩
            rw [← hr0] at x0 x1 q0 q1 q2 q3 hf
            have HFr := hide hf
            have bi0 : 0 ≤ Bi := by omega
            have rle : r.1 ≤ r.2 := hf.2.1.1
            have qlt : q.2 < r.2 := hf.2.1.2 q.2 rfl
            have LT : Hid (leftN (some r.2) l < leftN (some q.2) l) := hide (leftN_lt _ l r hf.1 hf.2.1 (fun h e => by cases e; omega))
            have RI : Hid (-9223372036854775808 ≤ r.1 ∧ r.1 ≤ 9223372036854775807 ∧ -9223372036854775808 ≤ r.2 ∧ r.2 ≤ 9223372036854775807) := hide ⟨q0, q1, q2, q3⟩
            clear hr0 IW hf HBe hneg
            obtain ⟨n0, n1⟩ := rb_new wr r
            have B6 := hide (HB'.out.alloc HB'.out.size (Obj.cells #[Value.int IntKind.i64 r.1, Value.int IntKind.i64 r.2] 45))
            have O6 := hide (HO'.out.alloc (Obj.cells #[Value.int IntKind.i64 r.1, Value.int IntKind.i64 r.2] 45))
            skip
            have qb := HI64.out q (by simp)
            have oc0 : wr.cell? ⟨g, (L - 1) * 2 + 1, none⟩ = some (.int .i64 q.2) := by
              have := (HO'.out.at o1.length (by simp)).2
              rw [show L - 1 = o1.length by have := HLq.out; omega, this]
              simp [List.getD_eq_getElem?_getD]
            have gl : g < wr.heap.size := by
              obtain ⟨g', cap', e, _, hlt⟩ := HO'.out.form (by simp)
              injection e with e1 e2 e3; injection e1 with e1; injection e1 with e1
              rw [e1]; exact hlt
            have oc6 := (((Below.refl _ wr).alloc (Nat.le_refl _) (Obj.cells #[Value.int IntKind.i64 r.1, Value.int IntKind.i64 r.2] 45)).cell (p := ⟨g, (L - 1) * 2 + 1, none⟩) gl).trans oc0
            have of6 := O6.out.cold ((L - 1) * 2 + 1)
            have PUT : Hid (∀ W : World, OwnR W w.heap.size (.slice (some ⟨g, 0, none⟩) L oc) (o1 ++ [q]) → OwnR (W.setCell ⟨g, (L - 1) * 2 + 1, none⟩ (.int .i64 r.2)) w.heap.size (.slice (some ⟨g, 0, none⟩) L oc) (o1 ++ [(q.1, r.2)]) ∧ Below w.heap.size W (W.setCell ⟨g, (L - 1) * 2 + 1, none⟩ (.int .i64 r.2))) := hide (fun W h => by
              rw [show L - 1 = o1.length by have := HLq.out; omega]; exact h.put r.2)
            have d2 : decide (0 < L) = true := decide_eq_true (by omega)
            clear oc0 gl
            clear HO' HB'
            by_cases hg : r.1 ≤ q.2 + 1
            · have d3 : decide (r.1 ≤ q.2 + 1) = true := decide_eq_true hg
              go_wp2
              generalize wr.alloc (Obj.cells #[Value.int IntKind.i64 r.1, Value.int IntKind.i64 r.2] 45) = w6 at *
              clear x0 x1
              go_quiet (fail)
              have O7 : Hid (OwnR (w6.drewN nq) w.heap.size (.slice (some ⟨g, 0, none⟩) L oc) (o1 ++ [q])) := hide O6.out
              have m0 : (w6.drewN nq).cell? ⟨wr.heap.size, 0, none⟩ = some (.int .i64 r.1) := n0
              have m1 : (w6.drewN nq).cell? ⟨wr.heap.size, 1, none⟩ = some (.int .i64 r.2) := n1
              have B7 := hide (below_field B6.out nq)
              have oc7 : (w6.drewN nq).cell? ⟨g, (L - 1) * 2 + 1, none⟩ = some (.int .i64 q.2) := oc6
              have of7 : (w6.drewN nq).frozen? ⟨g, (L - 1) * 2 + 1, none⟩ = false := of6
              clear n0 n1 O6 B6 oc6 of6
              generalize w6.drewN nq = w7 at *
              obtain ⟨O8, B8⟩ := PUT.out _ O7.out
              have HO8 := hide O8
              have HB8 := hide (B7.out.trans B8)
              clear O8 B8
              go_wp2
              refine ⟨⟨o1 ++ [(q.1, r.2)], HO8, hide (by simp), hide (rightR_last _ q r.2 HRt.out (by omega)), hide ?_, hide (taken_ext o1 l q r HT.out (rightR_split _ _ HRt.out) HFr.out hg), hide ?_, HB8⟩, ?_⟩
              · intro x hx
                rcases List.mem_append.1 hx with hx | hx
                · exact HI64.out x (by simp [hx])
                · simp at hx; rw [hx]; dsimp only; exact ⟨qb.1, qb.2.1, RI.out.2.2.1, RI.out.2.2.2⟩
              · have h1 := HLn.out; have h2 := LT.out; rw [lastH_concat] at h1; rw [lastH_concat]; simp only [List.length_append, List.length_singleton] at h1 ⊢; omega
              · have h2 := LT.out; rw [lastM_eq HO8.out (by simp), lastH_concat, lastM_eq HO.out (by simp), lastH_concat]; exact h2
            · have d3 : decide (r.1 ≤ q.2 + 1) = false := decide_eq_false hg
              go_wp2
              generalize wr.alloc (Obj.cells #[Value.int IntKind.i64 r.1, Value.int IntKind.i64 r.2] 45) = w6 at *
              clear x0 x1
              go_quiet (fail)
              have O7 : Hid (OwnR (w6.drewN nq) w.heap.size (.slice (some ⟨g, 0, none⟩) L oc) (o1 ++ [q])) := hide O6.out
              have m0 : (w6.drewN nq).cell? ⟨wr.heap.size, 0, none⟩ = some (.int .i64 r.1) := n0
              have m1 : (w6.drewN nq).cell? ⟨wr.heap.size, 1, none⟩ = some (.int .i64 r.2) := n1
              have B7 := hide (below_field B6.out nq)
              have oc7 : (w6.drewN nq).cell? ⟨g, (L - 1) * 2 + 1, none⟩ = some (.int .i64 q.2) := oc6
              have of7 : (w6.drewN nq).frozen? ⟨g, (L - 1) * 2 + 1, none⟩ = false := of6
              clear n0 n1 O6 B6 oc6 of6
              generalize w6.drewN nq = w7 at *
              have szB := B7.out.size
              have LE : Hid ((o1 ++ [q]).length + 1 ≤ 1000000) := hide (by have h1 := HLn.out; have h2 := HN.out; omega)
              go_wp2_with (at_builtin; refine wpList_appR _ rfl _ _ rfl w.heap.size _ _ rfl (O7.out.alloc _) _ 1 1 _ [r] rfl rfl (heap_top _ _) rfl LE.out (by simp; omega) ?_; intro v8 w8 hO8 hb8; have O8 := hide hO8; have B8 := hide ((B7.out.alloc szB _).trans hb8); clear hO8 hb8)
              refine ⟨⟨(o1 ++ [q]) ++ [r], O8, hide (by simp), hide (rightR_concat _ r HRt.out rle (fun h e => ?_)), hide ?_, hide (taken_app _ l r HT.out ?_ (fun h e => ?_)), hide ?_, B8⟩, ?_⟩
              · rw [lastH_concat] at e; cases e; omega
              · intro x hx
                rcases List.mem_append.1 hx with hx | hx
                · exact HI64.out x hx
                · simp at hx; rw [hx]; exact RI.out
              · rw [lastH_concat]; exact HFr.out
              · rw [lastH_concat] at e; cases e; omega
              · have h1 := HLn.out; have h2 := LT.out; rw [show lastH (o1 ++ [q]) = (some q.2) from lastH_concat _ _] at h1; rw [lastH_concat, List.length_append]; simp only [List.length_singleton]; omega
              · have h2 := LT.out; rw [lastM_eq O8.out (by simp), lastH_concat, lastM_eq HO.out (by simp), show lastH (o1 ++ [q]) = (some q.2) from lastH_concat _ _]; exact h2
end Go.Proofs.Ytdmjpdhjebmnfaa
