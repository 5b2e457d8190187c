/-
  The program's set: Or, And, In.
-/
import Derived.Test.YtlfhpocfacaaeaaGreatQ3
import Derived.Test.YtlfhpocfacaaeaaGreatQ2
import Derived.Test.YtlfhpocfacaaeaaGreatQ1
import Derived.Deep.CutRange
import Derived.Lib.MinMax
import Derived.Lib.QuietBelow
import Derived.Lib.AppendZeros
import Derived.Laws.AppendOwnNone
set_option linter.unusedSimpArgs false
set_option linter.unusedVariables false
namespace Go.Proofs.YtlfhpocfacaaeaaGreat
open Go.RowKit

/-- Not more than the program's own calls ask. -/
structure Fit2 (S : SetV) : Prop where
  good : Good S
  ni : S.ints.length ≤ 2000
  ns : S.strs.length ≤ 2000
theorem Fit.two {S : SetV} (h : Fit S) : Fit2 S := ⟨h.good, Nat.le_trans h.ni (by omega), Nat.le_trans h.ns (by omega)⟩
/-- Trio boxes of the call's own. -/
structure Trio (w0 w : World) (o1 o2 o3 : Obj) : Prop where
  e1 : w.heap[w0.heap.size]? = some o1
  e2 : w.heap[w0.heap.size + 1]? = some o2
  e3 : w.heap[w0.heap.size + 1 + 1]? = some o3
  b : Below w0.heap.size w0 w
theorem Trio.on {w0 w w' : World} {o1 o2 o3 : Obj} (h : Trio w0 w o1 o2 o3) (hb : Below w.heap.size w w') : Trio w0 w' o1 o2 o3 :=
  ⟨(hb.block _ (lt_heap h.e1)).trans h.e1, (hb.block _ (lt_heap h.e2)).trans h.e2, (hb.block _ (lt_heap h.e3)).trans h.e3, h.b.trans (hb.mono h.b.size)⟩
theorem Trio.start (w : World) (o1 o2 o3 : Obj) : Trio w (((w.alloc o1).alloc o2).alloc o3) o1 o2 o3 := by
  have T := Two.start w o1 o2
  have s1 : (w.alloc o1).heap.size = w.heap.size + 1 := by show (w.heap.push _).size = _; simp
  have s2 : ((w.alloc o1).alloc o2).heap.size = w.heap.size + 1 + 1 := by show ((w.alloc o1).heap.push _).size = _; rw [Array.size_push, s1]
  have T' := T.al o3
  exact ⟨T'.e1, T'.e2, by rw [← s2]; exact heap_new _ _, T'.b⟩
theorem Trio.al {w0 w : World} {o1 o2 o3 : Obj} (h : Trio w0 w o1 o2 o3) (x : Obj) : Trio w0 (w.alloc x) o1 o2 o3 := h.on ((Below.refl _ w).alloc (Nat.le_refl _) x)
theorem put4_cell {w : World} {p k o : Nat} {x0 x1 x2 x3 : Value} (h : ¬ (p = k)) : ((((w.setCell ⟨p, 0, none⟩ x0).setCell ⟨p, 1, none⟩ x1).setCell ⟨p, 2, none⟩ x2).setCell ⟨p, 3, none⟩ x3).cell? ⟨k, o, none⟩ = w.cell? ⟨k, o, none⟩ := by
  rw [World.cell?_setCell_far _ _ _ _ h, World.cell?_setCell_far _ _ _ _ h, World.cell?_setCell_far _ _ _ _ h, World.cell?_setCell_far _ _ _ _ h]
theorem andR_out {A B : SetV} {o : List Rg} (hA : Good A) (hB : Good B) (h : CommonOut A.ints B.ints o) : o = (andV A B).ints := by
  refine rightR_ext64 _ _ h.1 (andV_good hA hB).ri h.2.1 (andV_good hA hB).i (fun n n0 n1 => ?_)
  have hh := andV_has hA hB (1, n, noS) n0 n1
  rw [has_num, has_num, has_num] at hh
  rw [h.2.2.2 n, ← inInts_iff, ← inInts_iff, ← inInts_iff, hh, Bool.and_eq_true]

set_option maxHeartbeats 4000000 in
set_option maxRecDepth 100000 in
theorem and_raw (v u : Value) (sa : Bool) (si : List Rg) (sc : Bool) (ss : List ByteArray) (ta : Bool) (ti : List Rg) (tc : Bool) (ts : List ByteArray) (w : World) (hv : SetAt w v ⟨sa, si, sc, ss⟩) (hu : SetAt w u ⟨ta, ti, tc, ts⟩) (fA : Fit2 ⟨sa, si, sc, ss⟩) (fB : Fit2 ⟨ta, ti, tc, ts⟩) :
    Calls Tryz.prog 124 #[v, u] w fun r w' => (∃ x, r = .returned x ∧ SetAt w' x (andV ⟨sa, si, sc, ss⟩ ⟨ta, ti, tc, ts⟩)) ∧ Below w.heap.size w w' := by
  have HA := hide fA.good
  have HB := hide fB.good
  have HAI := hide fA.ni
  have HAS := hide fA.ns
  have HBI := hide fB.ni
  have HBS := hide fB.ns
  clear fA fB
  obtain ⟨vi, vs, rfl, hI, hS⟩ := hv
  obtain ⟨ui, us, rfl, hJ, hT⟩ := hu
  dsimp only at HAI HAS HBI HBS hI hS hJ hT
  obtain ⟨ai, ci, rfl⟩ := hI.form
  obtain ⟨aq, cq, rfl⟩ := hS.form
  obtain ⟨bi, di, rfl⟩ := hJ.form
  obtain ⟨bq, dq, rfl⟩ := hT.form
  have T0 := Trio.start w (.cells #[.bool sa, .slice ai si.length ci, .bool sc, .slice aq ss.length cq] 25) (.cells #[.bool ta, .slice bi ti.length di, .bool tc, .slice bq ts.length dq] 25) (.cells #[.bool false, .slice none 0 0, .bool false, .slice none 0 0] 25)
  have OS := hide (orStrings_any _ _ (notV ⟨sa, si, sc, ss⟩) (notV ⟨ta, ti, tc, ts⟩) _ (hS.on T0.b) (hT.on T0.b) HA.out.rs HB.out.rs (by have := HAS.out; have := HBS.out; unfold notV; dsimp only; omega))
  dsimp only [notV] at OS
  have I0 := hide (hI.on T0.b)
  have J0 := hide (hJ.on T0.b)
  have HSI := hide hI.1
  have HTI := hide hJ.1
  clear hI hJ hS hT
  obtain ⟨c0, c1, c2, c3⟩ := setCells T0.e1
  obtain ⟨d0, d1, d2, d3⟩ := setCells T0.e2
  have CM := fun (W : World) (h1 : RngsAt W (.slice ai si.length ci) si) (h2 : RngsAt W (.slice bi ti.length di) ti) => hide (commonRanges_any _ _ si ti W h1 h2 HA.out.ri HB.out.ri (by have := HAI.out; have := HBI.out; omega))
  go_enter Tryz.func124, Tryz.ntmps124
  go_wp2_with fail
  refine (unhide OS).mono ?_
  rintro r w1 ⟨⟨x1, rfl, o1⟩, b1⟩
  obtain ⟨p1, n1, k1, rfl⟩ := o1.frm
  have T1 := hide (T0.on b1)
  have I1 := hide (I0.out.on b1)
  have J1 := hide (J0.out.on b1)
  have O1 := hide o1
  have HLT := hide (lt_heap T0.e3)
  have HL1 := hide b1.size
  clear T0 b1 I0 J0 o1 OS c0 c1 c2 c3 d0 d1 d2 d3
  generalize hw0 : (((w.alloc (Obj.cells #[.bool sa, .slice ai si.length ci, .bool sc, .slice aq ss.length cq] 25)).alloc (Obj.cells #[.bool ta, .slice bi ti.length di, .bool tc, .slice bq ts.length dq] 25)).alloc (Obj.cells #[.bool false, .slice none 0 0, .bool false, .slice none 0 0] 25)) = w0 at HLT HL1 O1
  clear hw0
  obtain ⟨c0, c1, c2, c3⟩ := setCells T1.out.e1
  obtain ⟨d0, d1, d2, d3⟩ := setCells T1.out.e2
  have ne1 : ¬ (w.heap.size = w.heap.size + 1 + 1) := by omega
  have ne2 : ¬ (w.heap.size + 1 + 1 = w.heap.size) := by omega
  have ne3 : ¬ (w.heap.size + 1 + 1 = w.heap.size + 1) := by omega
  have PH1 := True.intro
  go_wp2
  cases sa
  · refine wp_region_held_drew (S := (fun w' => (w'.cell? ⟨w.heap.size, 0, none⟩ = some (.bool false) ∧ w'.cell? ⟨w.heap.size, 1, none⟩ = some (.slice ai si.length ci)) ∧ w'.cell? ⟨w.heap.size + 1, 0, none⟩ = some (.bool ta) ∧ w'.cell? ⟨w.heap.size + 1, 1, none⟩ = some (.slice bi ti.length di))) (by kernel_rfl) ⟨⟨c0, c1⟩, d0, d1⟩ (fun hHeld => ?_)
    refine wpAnyH_take (i := 0) (v := .pointer (some ⟨w.heap.size, 0, none⟩)) rfl (by kernel_rfl) (by kernel_rfl) (by kernel_rfl) (fun _ _ _ h => h) (Or.inl ⟨by rfl, ?_⟩) (by assumption) ?_
    · intro w' hSw; (try dsimp only at hSw); go_simp; done
    simp only [Act.put, List.setIfInBounds_toArray, List.set_cons_zero, List.set_cons_succ]
    refine wpAnyH_take (i := 1) (v := .bool false) rfl (by kernel_rfl) (by kernel_rfl) (by kernel_rfl) (fun _ _ _ h => h) (Or.inl ⟨by rfl, ?_⟩) (by assumption) ?_
    · intro w' hSw; (try dsimp only at hSw); go_simp; done
    simp only [Act.put, List.setIfInBounds_toArray, List.set_cons_zero, List.set_cons_succ]
    refine wpAnyH_take (i := 2) (v := .bool false) rfl (by kernel_rfl) (by kernel_rfl) (by kernel_rfl) (fun _ _ _ h => h) (Or.inl ⟨by rfl, ?_⟩) (by assumption) ?_
    · intro w' hSw; (try dsimp only at hSw); go_simp; done
    simp only [Act.put, List.setIfInBounds_toArray, List.set_cons_zero, List.set_cons_succ]
    refine wpAnyH_take (i := 3) (v := undef) rfl (by kernel_rfl) (by kernel_rfl) (by kernel_rfl) (fun _ _ _ h => h) (Or.inr ⟨by rfl, rfl⟩) (by assumption) ?_
    simp only [Act.put, List.setIfInBounds_toArray, List.set_cons_zero, List.set_cons_succ]
    refine wpAnyH_take (i := 4) (v := undef) rfl (by kernel_rfl) (by kernel_rfl) (by kernel_rfl) (fun _ _ _ h => h) (Or.inr ⟨by rfl, rfl⟩) (by assumption) ?_
    simp only [Act.put, List.setIfInBounds_toArray, List.set_cons_zero, List.set_cons_succ]
    refine wpAnyH_take (i := 5) (v := .bool false) rfl (by kernel_rfl) (by kernel_rfl) (by kernel_rfl) (fun _ _ _ h => h) (Or.inl ⟨by rfl, ?_⟩) (by assumption) ?_
    · intro w' hSw; (try dsimp only at hSw); go_simp; done
    simp only [Act.put, List.setIfInBounds_toArray, List.set_cons_zero, List.set_cons_succ]
    refine wpAnyH_take (i := 6) (v := .pointer (some ⟨w.heap.size, 1, none⟩)) rfl (by kernel_rfl) (by kernel_rfl) (by kernel_rfl) (fun _ _ _ h => h) (Or.inl ⟨by rfl, ?_⟩) (by assumption) ?_
    · intro w' hSw; (try dsimp only at hSw); go_simp; done
    simp only [Act.put, List.setIfInBounds_toArray, List.set_cons_zero, List.set_cons_succ]
    refine wpAnyH_take (i := 7) (v := .slice ai si.length ci) rfl (by kernel_rfl) (by kernel_rfl) (by kernel_rfl) (fun _ _ _ h => h) (Or.inl ⟨by rfl, ?_⟩) (by assumption) ?_
    · intro w' hSw; (try dsimp only at hSw); go_simp; done
    simp only [Act.put, List.setIfInBounds_toArray, List.set_cons_zero, List.set_cons_succ]
    refine wpAnyH_take (i := 8) (v := .pointer (some ⟨w.heap.size + 1, 1, none⟩)) rfl (by kernel_rfl) (by kernel_rfl) (by kernel_rfl) (fun _ _ _ h => h) (Or.inl ⟨by rfl, ?_⟩) (by assumption) ?_
    · intro w' hSw; (try dsimp only at hSw); go_simp; done
    simp only [Act.put, List.setIfInBounds_toArray, List.set_cons_zero, List.set_cons_succ]
    refine wpAnyH_take (i := 9) (v := .slice bi ti.length di) rfl (by kernel_rfl) (by kernel_rfl) (by kernel_rfl) (fun _ _ _ h => h) (Or.inl ⟨by rfl, ?_⟩) (by assumption) ?_
    · intro w' hSw; (try dsimp only at hSw); go_simp; done
    simp only [Act.put, List.setIfInBounds_toArray, List.set_cons_zero, List.set_cons_succ]
    refine wpAnyH_take (i := 11) (v := .bool (!sc || !tc)) rfl (by kernel_rfl) (by kernel_rfl) (by kernel_rfl) (fun _ _ _ h => h) (Or.inl ⟨by rfl, ?_⟩) (by assumption) ?_
    · intro w' hSw; (try dsimp only at hSw); go_simp; done
    simp only [Act.put, List.setIfInBounds_toArray, List.set_cons_zero, List.set_cons_succ]
    refine wpAnyH_take (i := 12) (v := .bool (!(!sc || !tc))) rfl (by kernel_rfl) (by kernel_rfl) (by kernel_rfl) (fun _ _ _ h => h) (Or.inl ⟨by rfl, ?_⟩) (by assumption) ?_
    · intro w' hSw; (try dsimp only at hSw); go_simp; done
    simp only [Act.put, List.setIfInBounds_toArray, List.set_cons_zero, List.set_cons_succ]
    refine wpAnyH_take (i := 13) (v := .slice p1 n1 k1) rfl (by kernel_rfl) (by kernel_rfl) (by kernel_rfl) (fun _ _ _ h => h) (Or.inl ⟨by rfl, ?_⟩) (by assumption) ?_
    · intro w' hSw; (try dsimp only at hSw); go_simp; done
    simp only [Act.put, List.setIfInBounds_toArray, List.set_cons_zero, List.set_cons_succ]
    refine wpAnyH_ready (rs := [10]) (by kernel_rfl) (by simp) ?_
    refine AllReadyH.cons rfl (fun K hK => ?_) AllReadyH.nil
    go_simp
    refine (unhide (CM _ ?_ ?_)).mono ?_; exact I1.out; exact J1.out; rintro r w3 ⟨⟨x3, o3, rfl, ho3, oo3⟩, b'⟩; obtain ⟨p3, n3, k3, rfl⟩ := oo3.frm; have b : Below w1.heap.size w1 w3 := ⟨b'.os, b'.tape, b'.output, b'.size, b'.block⟩; have T3 := hide (T1.out.on b); have O3 := hide oo3; have H3 := hide ho3; have N3 := hide (O1.out.on b); obtain ⟨e0, e1, e2, e3⟩ := setCells T3.out.e1; obtain ⟨f0, f1, f2, f3⟩ := setCells T3.out.e2; obtain ⟨g0, g1, g2, g3⟩ := setCells T3.out.e3; have z0 := frozen_heap T3.out.e3 0; have z1 := frozen_heap T3.out.e3 1; have z2 := frozen_heap T3.out.e3 2; have z3 := frozen_heap T3.out.e3 3; clear b b' oo3 ho3 T1 O1 I1 J1 CM c0 c1 c2 c3 d0 d1 d2 d3
    refine hK.out _ _ ⟨⟨e0, e1⟩, f0, f1⟩ (fun hHeld => ?_)
    clear hK K
    refine wpAnyH_take (i := 14) (v := .agg #[.bool false, .slice p3 n3 k3, .bool (!(!sc || !tc)), .slice p1 n1 k1]) rfl (by kernel_rfl) (by kernel_rfl) (by kernel_rfl) (fun _ _ _ h => h) (Or.inl ⟨by rfl, ?_⟩) (by assumption) ?_
    · intro w' hSw; (try dsimp only at hSw); go_simp; done
    simp only [Act.put, List.setIfInBounds_toArray, List.set_cons_zero, List.set_cons_succ]
    refine wpAnyH_ready (rs := [15]) (by kernel_rfl) (by simp) ?_
    refine AllReadyH.cons rfl (fun K hK => ?_) AllReadyH.nil
    go_simp
    refine hK.out _ _ ⟨⟨(put4_cell ne2).trans e0, (put4_cell ne2).trans e1⟩, (put4_cell ne3).trans f0, (put4_cell ne3).trans f1⟩ (fun hHeld => ?_)
    clear hK K
    refine wpAnyH_done (by kernel_rfl) ?_ _
    have hsz := T3.out.b.size
    have E3 := andR_out HA.out HB.out H3.out
    subst E3
    have MS := made_set (andV ⟨false, si, sc, ss⟩ ⟨ta, ti, tc, ts⟩) (p := w.heap.size + 1 + 1) T3.out.e3 (by omega) T3.out.b O3.out N3.out (Nat.lt_of_lt_of_le HLT.out HL1.out) HLT.out (andV_good HA.out HB.out) (by have := (andV_len HA.out HB.out).1; have := HAI.out; have := HBI.out; dsimp only at *; omega) (by have := (andV_len HA.out HB.out).2; have := HAS.out; have := HBS.out; dsimp only at *; omega)
    have hab : (andV ⟨false, si, sc, ss⟩ ⟨ta, ti, tc, ts⟩).absent = false := by cases ta <;> rfl
    have hco : (andV ⟨false, si, sc, ss⟩ ⟨ta, ti, tc, ts⟩).co = (sc && tc) := by cases sc <;> cases tc <;> rfl
    rw [hab, hco] at MS
    obtain ⟨m1, m2, m3⟩ := MS
    go_wp2
    exact bodyPost_ret (results_cell_row rfl _ _ (w.heap.size + 1 + 1) 25 _ (0, 0) _ rfl m1 Tryz.underlying25 rfl infoSet) rfl ⟨⟨_, rfl, m2⟩, m3⟩
  · go_region_held3 (fun w' => (w'.cell? ⟨w.heap.size, 0, none⟩ = some (.bool true) ∧ w'.cell? ⟨w.heap.size, 1, none⟩ = some (.slice ai si.length ci)) ∧ w'.cell? ⟨w.heap.size + 1, 0, none⟩ = some (.bool ta) ∧ w'.cell? ⟨w.heap.size + 1, 1, none⟩ = some (.slice bi ti.length di)) (first | go_keep | (dsimp only; refine ⟨⟨?_, ?_⟩, ?_, ?_⟩ <;> first | assumption | go_keep))
    ((first
      | (go_at_call 135; have pz := PH1; clear pz PH1; refine (unhide (CM _ ?_ ?_)).mono ?_; exact I1.out; exact J1.out; rintro r w3 ⟨⟨x3, o3, rfl, ho3, oo3⟩, b'⟩; obtain ⟨p3, n3, k3, rfl⟩ := oo3.frm; have b : Below w1.heap.size w1 w3 := ⟨b'.os, b'.tape, b'.output, b'.size, b'.block⟩; have T3 := hide (T1.out.on b); have O3 := hide oo3; have H3 := hide ho3; have N3 := hide (O1.out.on b); obtain ⟨e0, e1, e2, e3⟩ := setCells T3.out.e1; obtain ⟨f0, f1, f2, f3⟩ := setCells T3.out.e2; obtain ⟨g0, g1, g2, g3⟩ := setCells T3.out.e3; have z0 := frozen_heap T3.out.e3 0; have z1 := frozen_heap T3.out.e3 1; have z2 := frozen_heap T3.out.e3 2; have z3 := frozen_heap T3.out.e3 3; have PH3 := True.intro; clear b b' oo3 ho3 T1 O1 I1 J1 CM c0 c1 c2 c3 d0 d1 d2 d3)))
    have hsz := T3.out.b.size
    have E3 := andR_out HA.out HB.out H3.out
    subst E3
    have MS := made_set (andV ⟨true, si, sc, ss⟩ ⟨ta, ti, tc, ts⟩) (p := w.heap.size + 1 + 1) T3.out.e3 (by omega) T3.out.b O3.out N3.out (Nat.lt_of_lt_of_le HLT.out HL1.out) HLT.out (andV_good HA.out HB.out) (by have := (andV_len HA.out HB.out).1; have := HAI.out; have := HBI.out; dsimp only at *; omega) (by have := (andV_len HA.out HB.out).2; have := HAS.out; have := HBS.out; dsimp only at *; omega)
    have hab : (andV ⟨true, si, sc, ss⟩ ⟨ta, ti, tc, ts⟩).absent = ta := by cases ta <;> rfl
    have hco : (andV ⟨true, si, sc, ss⟩ ⟨ta, ti, tc, ts⟩).co = (sc && tc) := by cases sc <;> cases tc <;> rfl
    rw [hab, hco] at MS
    obtain ⟨m1, m2, m3⟩ := MS
    go_wp2
    exact bodyPost_ret (results_cell_row rfl _ _ (w.heap.size + 1 + 1) 25 _ (0, 0) _ rfl m1 Tryz.underlying25 rfl infoSet) rfl ⟨⟨_, rfl, m2⟩, m3⟩
theorem and_any (v u : Value) (A B : SetV) (w : World) (hv : SetAt w v A) (hu : SetAt w u B) (fA : Fit2 A) (fB : Fit2 B) :
    Calls Tryz.prog 124 #[v, u] w fun r w' => (∃ x, r = .returned x ∧ SetAt w' x (andV A B)) ∧ Below w.heap.size w w' := and_raw v u A.absent A.ints A.co A.strs B.absent B.ints B.co B.strs w hv hu fA fB
theorem in_empty {A B : SetV} (hA : Good A) (hB : Good B) (lA : A.strs.length ≤ 1000) (lB : B.strs.length ≤ 1000) : emptyB (andV A (notV B)) = inB A B := by
  have gN := notV_good hB
  have gX := andV_good hA gN
  have xl := (andV_len hA gN).2
  have nl := (notV_len B hB).2
  apply bool_of_iff
  rw [inB_iff hA hB (by omega)]
  have he : emptyB (andV A (notV B)) = true ↔ andV A (notV B) = noSet := by
    rw [← sameB_iff]
    generalize andV A (notV B) = X
    obtain ⟨xa, xi, xc, xs⟩ := X
    cases xa <;> cases xi <;> cases xc <;> cases xs <;> simp [emptyB, sameB, noSet, rngEqB, strEqB]
  rw [he]
  constructor
  · intro h p b0 b1 hp
    have h1 := andV_has hA gN p b0 b1
    have h2 := notV_has hB p b0 b1
    rw [h, hp, h2, has_right hp] at h1
    cases hb : hasP B p
    · rw [hb] at h1
      have h3 : hasP noSet p = false := by
        have := andV_has noSet_good noSet_good p b0 b1
        cases hn : hasP noSet p
        · rfl
        · exfalso
          have hr := has_right hn
          rcases rightV_cases hr with e | ⟨n, e⟩ | ⟨s, hs, e⟩
          · rw [e, has_abs] at hn; exact absurd hn (by simp [noSet])
          · rw [e, has_num] at hn; exact absurd hn (by simp [noSet, inIntsB])
          · rw [e, has_str _ hs] at hn; exact absurd hn (by simp [noSet, inStrsB])
      rw [h3] at h1
      exact absurd h1 (by simp)
    · rfl
  · intro h
    refine good_ext gX noSet_good (by simp [noSet]; omega) (fun p b0 b1 => ?_)
    have h1 := andV_has hA gN p b0 b1
    have h2 := notV_has hB p b0 b1
    have h3 : hasP noSet p = false := by
      cases hn : hasP noSet p
      · rfl
      · exfalso
        have hr := has_right hn
        rcases rightV_cases hr with e | ⟨n, e⟩ | ⟨s, hs, e⟩
        · rw [e, has_abs] at hn; exact absurd hn (by simp [noSet])
        · rw [e, has_num] at hn; exact absurd hn (by simp [noSet, inIntsB])
        · rw [e, has_str _ hs] at hn; exact absurd hn (by simp [noSet, inStrsB])
    rw [h1, h2, h3]
    cases ha : hasP A p
    · rfl
    · rw [h p b0 b1 ha]; simp

set_option maxHeartbeats 4000000 in
set_option maxRecDepth 100000 in
theorem in_any (v u : Value) (A B : SetV) (w : World) (hv : SetAt w v A) (hu : SetAt w u B) (fA : Fit A) (fB : Fit B) :
    Calls Tryz.prog 128 #[v, u] w fun r w' => r = .returned (.bool (inB A B)) ∧ Below w.heap.size w w' := by
  have HE := hide (in_empty fA.good fB.good fA.ns fB.ns)
  have nl := notV_len B fB.good
  have al := andV_len fA.good (notV_good fB.good)
  have a1 := fA.ni
  have a2 := fA.ns
  have b1 := fB.ni
  have b2 := fB.ns
  have NB := fun (W : World) (x : Value) (h : SetAt W x B) => hide (not_any x B W h fB)
  have AB := fun (W : World) (x y : Value) (h1 : SetAt W x A) (h2 : SetAt W y (notV B)) => hide (and_any x y A (notV B) W h1 h2 fA.two ⟨notV_good fB.good, by omega, by omega⟩)
  have EB := fun (W : World) (x : Value) (h : SetAt W x (andV A (notV B))) => hide (empty_any x _ W h)
  clear nl al a1 a2 b1 b2 fA fB
  obtain ⟨vi, vs, rfl, hI, hS⟩ := hv
  obtain ⟨ui, us, rfl, hJ, hT⟩ := hu
  obtain ⟨ai, ci, rfl⟩ := hI.form
  obtain ⟨aq, cq, rfl⟩ := hS.form
  obtain ⟨bi, di, rfl⟩ := hJ.form
  obtain ⟨bq, dq, rfl⟩ := hT.form
  have T0 := Two.start w (.cells #[.bool A.absent, .slice ai A.ints.length ci, .bool A.co, .slice aq A.strs.length cq] 25) (.cells #[.bool B.absent, .slice bi B.ints.length di, .bool B.co, .slice bq B.strs.length dq] 25)
  have V0 : Hid (SetAt _ (.agg #[.bool A.absent, .slice ai A.ints.length ci, .bool A.co, .slice aq A.strs.length cq]) A) := hide ⟨_, _, rfl, hI.on T0.b, hS.on T0.b⟩
  have U0 : Hid (SetAt _ (.agg #[.bool B.absent, .slice bi B.ints.length di, .bool B.co, .slice bq B.strs.length dq]) B) := hide ⟨_, _, rfl, hJ.on T0.b, hT.on T0.b⟩
  clear hI hJ hS hT
  obtain ⟨c0, c1, c2, c3⟩ := setCells T0.e1
  obtain ⟨d0, d1, d2, d3⟩ := setCells T0.e2
  have T1 := hide T0
  clear T0
  go_enter Tryz.func128, Tryz.ntmps128
  go_wp2
  generalize ((w.alloc (Obj.cells #[.bool A.absent, .slice ai A.ints.length ci, .bool A.co, .slice aq A.strs.length cq] 25)).alloc (Obj.cells #[.bool B.absent, .slice bi B.ints.length di, .bool B.co, .slice bq B.strs.length dq] 25)) = w1 at T1 V0 U0 c0 c1 c2 c3 d0 d1 d2 d3 ⊢
  have PH1 := True.intro
  go_region_held3 (fun w' => ((w'.cell? ⟨w.heap.size, 0, none⟩ = some (.bool A.absent) ∧ w'.cell? ⟨w.heap.size, 1, none⟩ = some (.slice ai A.ints.length ci)) ∧ w'.cell? ⟨w.heap.size, 2, none⟩ = some (.bool A.co) ∧ w'.cell? ⟨w.heap.size, 3, none⟩ = some (.slice aq A.strs.length cq)) ∧ (w'.cell? ⟨w.heap.size + 1, 0, none⟩ = some (.bool B.absent) ∧ w'.cell? ⟨w.heap.size + 1, 1, none⟩ = some (.slice bi B.ints.length di)) ∧ w'.cell? ⟨w.heap.size + 1, 2, none⟩ = some (.bool B.co) ∧ w'.cell? ⟨w.heap.size + 1, 3, none⟩ = some (.slice bq B.strs.length dq)) (first | go_keep | (refine ⟨⟨⟨?_, ?_⟩, ?_, ?_⟩, ⟨?_, ?_⟩, ?_, ?_⟩ <;> assumption))
    ((first
      | (go_at_call 103; have pz := PH1; clear pz PH1; refine (unhide (NB _ _ ?_)).mono ?_; exact U0.out; rintro r w2 ⟨⟨x2, rfl, s2⟩, b'⟩; have b : Below w1.heap.size w1 w2 := ⟨b'.os, b'.tape, b'.output, b'.size, b'.block⟩; have T2 := hide (T1.out.on b); have V2 := hide (V0.out.on b); have S2 := hide s2; obtain ⟨e0, e1, e2, e3⟩ := setCells T2.out.e1; obtain ⟨f0, f1, f2, f3⟩ := setCells T2.out.e2; have PH2 := True.intro; clear b b' s2 T1 V0 U0)
      | (go_at_call 124; have pz := PH2; clear pz PH2; refine (unhide (AB _ _ _ ?_ ?_)).mono ?_; exact V2.out; exact S2.out; rintro r w3 ⟨⟨x3, rfl, s3⟩, b'⟩; have b : Below w2.heap.size w2 w3 := ⟨b'.os, b'.tape, b'.output, b'.size, b'.block⟩; have T3 := hide (T2.out.on b); have S3 := hide s3; obtain ⟨e0, e1, e2, e3⟩ := setCells T3.out.e1; obtain ⟨f0, f1, f2, f3⟩ := setCells T3.out.e2; have PH3 := True.intro; clear b b' s3 T2 V2 S2)
      | (go_at_call 112; have pz := PH3; clear pz PH3; refine (unhide (EB _ _ ?_)).mono ?_; exact S3.out; rintro r w4 ⟨rfl, b'⟩; have b : Below w3.heap.size w3 w4 := ⟨b'.os, b'.tape, b'.output, b'.size, b'.block⟩; have T4 := hide (T3.out.on b); obtain ⟨e0, e1, e2, e3⟩ := setCells T4.out.e1; obtain ⟨f0, f1, f2, f3⟩ := setCells T4.out.e2; have PH4 := True.intro; clear b b' T3 S3)))
  go_wp2
  go_ret
  exact ⟨ret_bool HE.out, T4.out.b⟩

/-- The program's set keeps its promises. -/
theorem setProg : SetProg := {
  all := all_any,
  not := not_any,
  and := fun v u A B w hv hu fA fB => and_any v u A B w hv hu fA.two fB.two,
  in_ := in_any,
  empty := fun v S w hv _ => empty_any v S w hv,
  same := fun v u A B w hv hu _ _ => same_any v u A B w hv hu,
  has := fun v S k n s w hv hf _ _ hs => has_any v S k n s w hv hf hs }
end Go.Proofs.YtlfhpocfacaaeaaGreat
/-
  The program's box: copied, With, Atom; all its promises.
-/
set_option linter.unusedSimpArgs false
set_option linter.unusedVariables false
namespace Go.Proofs.YtlfhpocfacaaeaaGreat
open Go.RowKit

theorem SetAt.newInts {w : World} {s : SC} {S : SetV} (h : SetAt w s.val S) {p : Option Addr} {n c : Nat} (hr : RngsAt w (.slice p n c) S.ints) : SetAt w (SC.mk s.a p n c s.d s.q s.m s.e).val S := by
  obtain ⟨vi, vs, e, hI, hS⟩ := h
  unfold SC.val at e
  simp at e
  obtain ⟨e1, e2, e3, e4⟩ := e
  subst e4
  refine ⟨_, _, ?_, hr, hS⟩
  unfold SC.val
  rw [← e1, ← e3]
theorem SetAt.newStrs {w : World} {s : SC} {S : SetV} (h : SetAt w s.val S) {p : Option Addr} {n c : Nat} (hr : StrsAt w (.slice p n c) S.strs) : SetAt w (SC.mk s.a s.p s.n s.c s.d p n c).val S := by
  obtain ⟨vi, vs, e, hI, hS⟩ := h
  unfold SC.val at e
  simp at e
  obtain ⟨e1, e2, e3, e4⟩ := e
  subst e2
  refine ⟨_, _, ?_, hI, hr⟩
  unfold SC.val
  rw [← e1, ← e3]
theorem SetAt.getInts {w : World} {s : SC} {S : SetV} (h : SetAt w s.val S) : RngsAt w (.slice s.p s.n s.c) S.ints := by
  obtain ⟨vi, vs, e, hI, hS⟩ := h
  unfold SC.val at e
  simp at e
  obtain ⟨e1, e2, e3, e4⟩ := e
  rw [e2]; exact hI
theorem SetAt.getStrs {w : World} {s : SC} {S : SetV} (h : SetAt w s.val S) : StrsAt w (.slice s.q s.m s.e) S.strs := by
  obtain ⟨vi, vs, e, hI, hS⟩ := h
  unfold SC.val at e
  simp at e
  obtain ⟨e1, e2, e3, e4⟩ := e
  rw [e4]; exact hS
theorem put_ints0 {w : World} {q : Nat} {s0 s1 s2 s3 : SC} (p n c) (h : BxIn w q s0 s1 s2 s3) : BxIn (w.setCell ⟨q, 1, none⟩ (.slice p n c)) q ⟨s0.a, p, n, c, s0.d, s0.q, s0.m, s0.e⟩ s1 s2 s3 ∧ In1 w (w.setCell ⟨q, 1, none⟩ (.slice p n c)) q := ⟨heap_setCell (i := 1) (.slice p n c) h, in1_setCell _ _ _ _⟩
theorem put_strs0 {w : World} {q : Nat} {s0 s1 s2 s3 : SC} (p n c) (h : BxIn w q s0 s1 s2 s3) : BxIn (w.setCell ⟨q, 3, none⟩ (.slice p n c)) q ⟨s0.a, s0.p, s0.n, s0.c, s0.d, p, n, c⟩ s1 s2 s3 ∧ In1 w (w.setCell ⟨q, 3, none⟩ (.slice p n c)) q := ⟨heap_setCell (i := 3) (.slice p n c) h, in1_setCell _ _ _ _⟩
theorem put_ints1 {w : World} {q : Nat} {s0 s1 s2 s3 : SC} (p n c) (h : BxIn w q s0 s1 s2 s3) : BxIn (w.setCell ⟨q, 5, none⟩ (.slice p n c)) q s0 ⟨s1.a, p, n, c, s1.d, s1.q, s1.m, s1.e⟩ s2 s3 ∧ In1 w (w.setCell ⟨q, 5, none⟩ (.slice p n c)) q := ⟨heap_setCell (i := 5) (.slice p n c) h, in1_setCell _ _ _ _⟩
theorem put_strs1 {w : World} {q : Nat} {s0 s1 s2 s3 : SC} (p n c) (h : BxIn w q s0 s1 s2 s3) : BxIn (w.setCell ⟨q, 7, none⟩ (.slice p n c)) q s0 ⟨s1.a, s1.p, s1.n, s1.c, s1.d, p, n, c⟩ s2 s3 ∧ In1 w (w.setCell ⟨q, 7, none⟩ (.slice p n c)) q := ⟨heap_setCell (i := 7) (.slice p n c) h, in1_setCell _ _ _ _⟩
theorem put_ints2 {w : World} {q : Nat} {s0 s1 s2 s3 : SC} (p n c) (h : BxIn w q s0 s1 s2 s3) : BxIn (w.setCell ⟨q, 9, none⟩ (.slice p n c)) q s0 s1 ⟨s2.a, p, n, c, s2.d, s2.q, s2.m, s2.e⟩ s3 ∧ In1 w (w.setCell ⟨q, 9, none⟩ (.slice p n c)) q := ⟨heap_setCell (i := 9) (.slice p n c) h, in1_setCell _ _ _ _⟩
theorem put_strs2 {w : World} {q : Nat} {s0 s1 s2 s3 : SC} (p n c) (h : BxIn w q s0 s1 s2 s3) : BxIn (w.setCell ⟨q, 11, none⟩ (.slice p n c)) q s0 s1 ⟨s2.a, s2.p, s2.n, s2.c, s2.d, p, n, c⟩ s3 ∧ In1 w (w.setCell ⟨q, 11, none⟩ (.slice p n c)) q := ⟨heap_setCell (i := 11) (.slice p n c) h, in1_setCell _ _ _ _⟩
theorem put_ints3 {w : World} {q : Nat} {s0 s1 s2 s3 : SC} (p n c) (h : BxIn w q s0 s1 s2 s3) : BxIn (w.setCell ⟨q, 13, none⟩ (.slice p n c)) q s0 s1 s2 ⟨s3.a, p, n, c, s3.d, s3.q, s3.m, s3.e⟩ ∧ In1 w (w.setCell ⟨q, 13, none⟩ (.slice p n c)) q := ⟨heap_setCell (i := 13) (.slice p n c) h, in1_setCell _ _ _ _⟩
theorem put_strs3 {w : World} {q : Nat} {s0 s1 s2 s3 : SC} (p n c) (h : BxIn w q s0 s1 s2 s3) : BxIn (w.setCell ⟨q, 15, none⟩ (.slice p n c)) q s0 s1 s2 ⟨s3.a, s3.p, s3.n, s3.c, s3.d, p, n, c⟩ ∧ In1 w (w.setCell ⟨q, 15, none⟩ (.slice p n c)) q := ⟨heap_setCell (i := 15) (.slice p n c) h, in1_setCell _ _ _ _⟩
/-- Four sets at once. -/
def Sets4 (w : World) (s0 s1 s2 s3 : SC) (b : BoxV) : Prop := SetAt w s0.val b.s0 ∧ SetAt w s1.val b.s1 ∧ SetAt w s2.val b.s2 ∧ SetAt w s3.val b.s3
theorem Sets4.on {w w' : World} {s0 s1 s2 s3 : SC} {b : BoxV} (h : Sets4 w s0 s1 s2 s3 b) (hb : Below w.heap.size w w') : Sets4 w' s0 s1 s2 s3 b := ⟨h.1.on hb, h.2.1.on hb, h.2.2.1.on hb, h.2.2.2.on hb⟩
theorem In1.sets {w W : World} {q : Nat} {x0 x1 x2 x3 : SC} (h : In1 w W q) (hp : BxIn w q x0 x1 x2 x3) {s0 s1 s2 s3 : SC} {b : BoxV} (hs : Sets4 w s0 s1 s2 s3 b) : Sets4 W s0 s1 s2 s3 b := ⟨h.set hp hs.1, h.set hp hs.2.1, h.set hp hs.2.2.1, h.set hp hs.2.2.2⟩
theorem Sets4.box {w : World} {s0 s1 s2 s3 : SC} {b : BoxV} (h : Sets4 w s0 s1 s2 s3 b) : BoxAt w (bxVal s0 s1 s2 s3) b := boxAt_of h.1 h.2.1 h.2.2.1 h.2.2.2
theorem Fit.i64 {S : SetV} (h : Fit S) : inI64 S.ints := h.good.i

set_option maxHeartbeats 8000000 in
set_option maxRecDepth 100000 in
theorem boxCopied_any (v : Value) (b : BoxV) (w : World) (hv : BoxAt w v b) (fb : ∀ i, i < 4 → Fit (b.get i)) :
    Calls Tryz.prog 133 #[v] w fun r w' => (∃ y, r = .returned y ∧ BoxAt w' y b) ∧ Below w.heap.size w w' := by
  obtain ⟨s0, s1, s2, s3, rfl, h0, h1, h2, h3⟩ := hv.scs
  have fi0 : Hid (inI64 b.s0.ints ∧ b.s0.ints.length ≤ 1000 ∧ (∀ s ∈ b.s0.strs, s.size ≤ 9223372036854775807) ∧ b.s0.strs.length ≤ 1000) := hide ⟨(fb 0 (by omega)).i64, (fb 0 (by omega)).ni, right_size (fb 0 (by omega)).good.rs, (fb 0 (by omega)).ns⟩
  have fi1 : Hid (inI64 b.s1.ints ∧ b.s1.ints.length ≤ 1000 ∧ (∀ s ∈ b.s1.strs, s.size ≤ 9223372036854775807) ∧ b.s1.strs.length ≤ 1000) := hide ⟨(fb 1 (by omega)).i64, (fb 1 (by omega)).ni, right_size (fb 1 (by omega)).good.rs, (fb 1 (by omega)).ns⟩
  have fi2 : Hid (inI64 b.s2.ints ∧ b.s2.ints.length ≤ 1000 ∧ (∀ s ∈ b.s2.strs, s.size ≤ 9223372036854775807) ∧ b.s2.strs.length ≤ 1000) := hide ⟨(fb 2 (by omega)).i64, (fb 2 (by omega)).ni, right_size (fb 2 (by omega)).good.rs, (fb 2 (by omega)).ns⟩
  have fi3 : Hid (inI64 b.s3.ints ∧ b.s3.ints.length ≤ 1000 ∧ (∀ s ∈ b.s3.strs, s.size ≤ 9223372036854775807) ∧ b.s3.strs.length ≤ 1000) := hide ⟨(fb 3 (by omega)).i64, (fb 3 (by omega)).ni, right_size (fb 3 (by omega)).good.rs, (fb 3 (by omega)).ns⟩
  have T0 := Two.start w (Obj.cells #[.bool s0.a, .slice s0.p s0.n s0.c, .bool s0.d, .slice s0.q s0.m s0.e, .bool s1.a, .slice s1.p s1.n s1.c, .bool s1.d, .slice s1.q s1.m s1.e, .bool s2.a, .slice s2.p s2.n s2.c, .bool s2.d, .slice s2.q s2.m s2.e, .bool s3.a, .slice s3.p s3.n s3.c, .bool s3.d, .slice s3.q s3.m s3.e] 47) (Obj.cells #[.bool false, .slice none 0 0, .bool false, .slice none 0 0, .bool false, .slice none 0 0, .bool false, .slice none 0 0, .bool false, .slice none 0 0, .bool false, .slice none 0 0, .bool false, .slice none 0 0, .bool false, .slice none 0 0] 47)
  have S0 := hide (show Sets4 _ s0 s1 s2 s3 b from ⟨h0.on T0.b, h1.on T0.b, h2.on T0.b, h3.on T0.b⟩)
  have I0 := hide (show BxIn _ w.heap.size s0 s1 s2 s3 from T0.e1)
  have Z0 := hide (show BxIn _ (w.heap.size + 1) SC.zero SC.zero SC.zero SC.zero from T0.e2)
  have B0 := hide T0.b
  clear hv fb h0 h1 h2 h3 T0
  unfold bxVal
  go_enter Tryz.func133, Tryz.ntmps133
  go_wp2
  go_loopw [4] (fun i wr => ∃ k : Int, i = .int .i64 k ∧ (k = 0 ∨ k = 1 ∨ k = 2 ∨ k = 3 ∨ k = 4) ∧ ∃ s0 s1 s2 s3 : SC, Hid (BxIn wr w.heap.size s0 s1 s2 s3) ∧ Hid (BxIn wr (w.heap.size + 1) SC.zero SC.zero SC.zero SC.zero) ∧ Hid (Below w.heap.size w wr) ∧ Hid (Sets4 wr s0 s1 s2 s3 b)) (fun i _ => 4 - (intOf i).toNat)
  case atStart => exact ⟨0, rfl, Or.inl rfl, s0, s1, s2, s3, I0, Z0, B0, S0⟩
  case round =>
    clear I0 Z0 B0 S0
    obtain ⟨k, rfl, hk, s0, s1, s2, s3, HI, HZ, HB, HS⟩ := hrel
    rcases hk with rfl | rfl | rfl | rfl | rfl
    · have X := hide (cloneR_any _ b.s0.ints wr HS.out.1.getInts (by have := fi0.out.2.1; omega))
      obtain ⟨c0, c1, c2, c3⟩ := HI.out.at0
      go_wp2_with fail
      refine (unhide X).mono ?_
      rintro r w2 ⟨⟨u2, rfl, o2⟩, b2⟩
      obtain ⟨p1, n1, r1, rfl⟩ := o2.frm
      have R2 := o2.rngs fi0.out.1 (by have := fi0.out.2.1; omega)
      have I2 := HI.out.on b2
      have S2 := HS.out.on b2
      have S2' : Sets4 w2 ⟨s0.a, p1, n1, r1, s0.d, s0.q, s0.m, s0.e⟩ s1 s2 s3 b := ⟨S2.1.newInts R2, S2.2.1, S2.2.2.1, S2.2.2.2⟩
      obtain ⟨q1, q2⟩ := put_ints0 p1 n1 r1 I2
      have I3 := hide q1
      have Z3 := hide (q2.box (HZ.out.on b2) (by omega))
      have B3 := hide (q2.below _ _ (Nat.le_refl _) (HB.out.trans (b2.mono HB.out.size)))
      have S3 := hide (q2.sets I2 S2')
      obtain ⟨e0, e1, e2, e3⟩ := I2.at0
      have z1 := I2.soft 1
      have Y := hide (clone_any _ b.s0.strs _ S3.out.1.getStrs (by have := fi0.out.2.2.2; omega))
      clear X c0 c1 c2 c3 I2 S2 S2' q1 q2 R2 o2 b2 HI HZ HB HS
      dsimp only at Y
      go_wp2_with fail
      refine (unhide Y).mono ?_
      rintro r w4 ⟨⟨u4, rfl, o4⟩, b4⟩
      obtain ⟨p3, n3, r3, rfl⟩ := o4.frm
      have R4 := o4.strs fi0.out.2.2.1 (by have := fi0.out.2.2.2; omega)
      have I4 := I3.out.on b4
      have S4 := S3.out.on b4
      have S4' : Sets4 w4 ⟨s0.a, p1, n1, r1, s0.d, p3, n3, r3⟩ s1 s2 s3 b := ⟨S4.1.newStrs R4, S4.2.1, S4.2.2.1, S4.2.2.2⟩
      obtain ⟨q1, q2⟩ := put_strs0 p3 n3 r3 I4
      have I5 := hide q1
      have Z5 := hide (q2.box (Z3.out.on b4) (by omega))
      have B5 := hide (q2.below _ _ (Nat.le_refl _) (B3.out.trans (b4.mono B3.out.size)))
      have S5 := hide (q2.sets I4 S4')
      obtain ⟨f0, f1, f2, f3⟩ := I4.at0
      dsimp only at f0 f1 f2 f3
      have z3 := I4.soft 3
      clear Y e0 e1 e2 e3 I3 Z3 B3 S3 I4 S4 S4' q1 q2 R4 o4 b4 z1
      go_wp2
      exact ⟨⟨1, rfl, by simp, ⟨s0.a, p1, n1, r1, s0.d, p3, n3, r3⟩, s1, s2, s3, I5, Z5, B5, S5⟩, by simp [intOf]⟩
    · have X := hide (cloneR_any _ b.s1.ints wr HS.out.2.1.getInts (by have := fi1.out.2.1; omega))
      obtain ⟨c0, c1, c2, c3⟩ := HI.out.at1
      go_wp2_with fail
      refine (unhide X).mono ?_
      rintro r w2 ⟨⟨u2, rfl, o2⟩, b2⟩
      obtain ⟨p1, n1, r1, rfl⟩ := o2.frm
      have R2 := o2.rngs fi1.out.1 (by have := fi1.out.2.1; omega)
      have I2 := HI.out.on b2
      have S2 := HS.out.on b2
      have S2' : Sets4 w2 s0 ⟨s1.a, p1, n1, r1, s1.d, s1.q, s1.m, s1.e⟩ s2 s3 b := ⟨S2.1, S2.2.1.newInts R2, S2.2.2.1, S2.2.2.2⟩
      obtain ⟨q1, q2⟩ := put_ints1 p1 n1 r1 I2
      have I3 := hide q1
      have Z3 := hide (q2.box (HZ.out.on b2) (by omega))
      have B3 := hide (q2.below _ _ (Nat.le_refl _) (HB.out.trans (b2.mono HB.out.size)))
      have S3 := hide (q2.sets I2 S2')
      obtain ⟨e0, e1, e2, e3⟩ := I2.at1
      have z1 := I2.soft 5
      have Y := hide (clone_any _ b.s1.strs _ S3.out.2.1.getStrs (by have := fi1.out.2.2.2; omega))
      clear X c0 c1 c2 c3 I2 S2 S2' q1 q2 R2 o2 b2 HI HZ HB HS
      dsimp only at Y
      go_wp2_with fail
      refine (unhide Y).mono ?_
      rintro r w4 ⟨⟨u4, rfl, o4⟩, b4⟩
      obtain ⟨p3, n3, r3, rfl⟩ := o4.frm
      have R4 := o4.strs fi1.out.2.2.1 (by have := fi1.out.2.2.2; omega)
      have I4 := I3.out.on b4
      have S4 := S3.out.on b4
      have S4' : Sets4 w4 s0 ⟨s1.a, p1, n1, r1, s1.d, p3, n3, r3⟩ s2 s3 b := ⟨S4.1, S4.2.1.newStrs R4, S4.2.2.1, S4.2.2.2⟩
      obtain ⟨q1, q2⟩ := put_strs1 p3 n3 r3 I4
      have I5 := hide q1
      have Z5 := hide (q2.box (Z3.out.on b4) (by omega))
      have B5 := hide (q2.below _ _ (Nat.le_refl _) (B3.out.trans (b4.mono B3.out.size)))
      have S5 := hide (q2.sets I4 S4')
      obtain ⟨f0, f1, f2, f3⟩ := I4.at1
      dsimp only at f0 f1 f2 f3
      have z3 := I4.soft 7
      clear Y e0 e1 e2 e3 I3 Z3 B3 S3 I4 S4 S4' q1 q2 R4 o4 b4 z1
      go_wp2
      exact ⟨⟨2, rfl, by simp, s0, ⟨s1.a, p1, n1, r1, s1.d, p3, n3, r3⟩, s2, s3, I5, Z5, B5, S5⟩, by simp [intOf]⟩
    · have X := hide (cloneR_any _ b.s2.ints wr HS.out.2.2.1.getInts (by have := fi2.out.2.1; omega))
      obtain ⟨c0, c1, c2, c3⟩ := HI.out.at2
      go_wp2_with fail
      refine (unhide X).mono ?_
      rintro r w2 ⟨⟨u2, rfl, o2⟩, b2⟩
      obtain ⟨p1, n1, r1, rfl⟩ := o2.frm
      have R2 := o2.rngs fi2.out.1 (by have := fi2.out.2.1; omega)
      have I2 := HI.out.on b2
      have S2 := HS.out.on b2
      have S2' : Sets4 w2 s0 s1 ⟨s2.a, p1, n1, r1, s2.d, s2.q, s2.m, s2.e⟩ s3 b := ⟨S2.1, S2.2.1, S2.2.2.1.newInts R2, S2.2.2.2⟩
      obtain ⟨q1, q2⟩ := put_ints2 p1 n1 r1 I2
      have I3 := hide q1
      have Z3 := hide (q2.box (HZ.out.on b2) (by omega))
      have B3 := hide (q2.below _ _ (Nat.le_refl _) (HB.out.trans (b2.mono HB.out.size)))
      have S3 := hide (q2.sets I2 S2')
      obtain ⟨e0, e1, e2, e3⟩ := I2.at2
      have z1 := I2.soft 9
      have Y := hide (clone_any _ b.s2.strs _ S3.out.2.2.1.getStrs (by have := fi2.out.2.2.2; omega))
      clear X c0 c1 c2 c3 I2 S2 S2' q1 q2 R2 o2 b2 HI HZ HB HS
      dsimp only at Y
      go_wp2_with fail
      refine (unhide Y).mono ?_
      rintro r w4 ⟨⟨u4, rfl, o4⟩, b4⟩
      obtain ⟨p3, n3, r3, rfl⟩ := o4.frm
      have R4 := o4.strs fi2.out.2.2.1 (by have := fi2.out.2.2.2; omega)
      have I4 := I3.out.on b4
      have S4 := S3.out.on b4
      have S4' : Sets4 w4 s0 s1 ⟨s2.a, p1, n1, r1, s2.d, p3, n3, r3⟩ s3 b := ⟨S4.1, S4.2.1, S4.2.2.1.newStrs R4, S4.2.2.2⟩
      obtain ⟨q1, q2⟩ := put_strs2 p3 n3 r3 I4
      have I5 := hide q1
      have Z5 := hide (q2.box (Z3.out.on b4) (by omega))
      have B5 := hide (q2.below _ _ (Nat.le_refl _) (B3.out.trans (b4.mono B3.out.size)))
      have S5 := hide (q2.sets I4 S4')
      obtain ⟨f0, f1, f2, f3⟩ := I4.at2
      dsimp only at f0 f1 f2 f3
      have z3 := I4.soft 11
      clear Y e0 e1 e2 e3 I3 Z3 B3 S3 I4 S4 S4' q1 q2 R4 o4 b4 z1
      go_wp2
      exact ⟨⟨3, rfl, by simp, s0, s1, ⟨s2.a, p1, n1, r1, s2.d, p3, n3, r3⟩, s3, I5, Z5, B5, S5⟩, by simp [intOf]⟩
    · have X := hide (cloneR_any _ b.s3.ints wr HS.out.2.2.2.getInts (by have := fi3.out.2.1; omega))
      obtain ⟨c0, c1, c2, c3⟩ := HI.out.at3
      go_wp2_with fail
      refine (unhide X).mono ?_
      rintro r w2 ⟨⟨u2, rfl, o2⟩, b2⟩
      obtain ⟨p1, n1, r1, rfl⟩ := o2.frm
      have R2 := o2.rngs fi3.out.1 (by have := fi3.out.2.1; omega)
      have I2 := HI.out.on b2
      have S2 := HS.out.on b2
      have S2' : Sets4 w2 s0 s1 s2 ⟨s3.a, p1, n1, r1, s3.d, s3.q, s3.m, s3.e⟩ b := ⟨S2.1, S2.2.1, S2.2.2.1, S2.2.2.2.newInts R2⟩
      obtain ⟨q1, q2⟩ := put_ints3 p1 n1 r1 I2
      have I3 := hide q1
      have Z3 := hide (q2.box (HZ.out.on b2) (by omega))
      have B3 := hide (q2.below _ _ (Nat.le_refl _) (HB.out.trans (b2.mono HB.out.size)))
      have S3 := hide (q2.sets I2 S2')
      obtain ⟨e0, e1, e2, e3⟩ := I2.at3
      have z1 := I2.soft 13
      have Y := hide (clone_any _ b.s3.strs _ S3.out.2.2.2.getStrs (by have := fi3.out.2.2.2; omega))
      clear X c0 c1 c2 c3 I2 S2 S2' q1 q2 R2 o2 b2 HI HZ HB HS
      dsimp only at Y
      go_wp2_with fail
      refine (unhide Y).mono ?_
      rintro r w4 ⟨⟨u4, rfl, o4⟩, b4⟩
      obtain ⟨p3, n3, r3, rfl⟩ := o4.frm
      have R4 := o4.strs fi3.out.2.2.1 (by have := fi3.out.2.2.2; omega)
      have I4 := I3.out.on b4
      have S4 := S3.out.on b4
      have S4' : Sets4 w4 s0 s1 s2 ⟨s3.a, p1, n1, r1, s3.d, p3, n3, r3⟩ b := ⟨S4.1, S4.2.1, S4.2.2.1, S4.2.2.2.newStrs R4⟩
      obtain ⟨q1, q2⟩ := put_strs3 p3 n3 r3 I4
      have I5 := hide q1
      have Z5 := hide (q2.box (Z3.out.on b4) (by omega))
      have B5 := hide (q2.below _ _ (Nat.le_refl _) (B3.out.trans (b4.mono B3.out.size)))
      have S5 := hide (q2.sets I4 S4')
      obtain ⟨f0, f1, f2, f3⟩ := I4.at3
      dsimp only at f0 f1 f2 f3
      have z3 := I4.soft 15
      clear Y e0 e1 e2 e3 I3 Z3 B3 S3 I4 S4 S4' q1 q2 R4 o4 b4 z1
      go_wp2
      exact ⟨⟨4, rfl, by simp, s0, s1, s2, ⟨s3.a, p1, n1, r1, s3.d, p3, n3, r3⟩, I5, Z5, B5, S5⟩, by simp [intOf]⟩
    · obtain ⟨c0, c1, c2, c3, c4, c5, c6, c7, c8, c9, c10, c11, c12, c13, c14, c15⟩ := HI.out.cells
      obtain ⟨d0, d1, d2, d3, d4, d5, d6, d7, d8, d9, d10, d11, d12, d13, d14, d15⟩ := HZ.out.cells
      have z0 := HZ.out.soft 0
      have z1 := HZ.out.soft 1
      have z2 := HZ.out.soft 2
      have z3 := HZ.out.soft 3
      have z4 := HZ.out.soft 4
      have z5 := HZ.out.soft 5
      have z6 := HZ.out.soft 6
      have z7 := HZ.out.soft 7
      have z8 := HZ.out.soft 8
      have z9 := HZ.out.soft 9
      have z10 := HZ.out.soft 10
      have z11 := HZ.out.soft 11
      have z12 := HZ.out.soft 12
      have z13 := HZ.out.soft 13
      have z14 := HZ.out.soft 14
      have z15 := HZ.out.soft 15
      obtain ⟨q1, q2⟩ := put_whole s0 s1 s2 s3 HZ.out
      have HQ := hide q1
      have HR := hide (q2.sets HZ.out HS.out).box
      have HW := hide (q2.below _ _ (by omega) HB.out)
      clear q1 q2
      go_wp2
      exact bodyPost_ret (results_cell_row rfl _ _ (w.heap.size + 1) 47 _ (0, 0) _ rfl HQ.out Tryz.underlying47 rfl infoBx) rfl ⟨⟨_, rfl, HR.out⟩, HW.out⟩


end Go.Proofs.YtlfhpocfacaaeaaGreat
/-
  The program's box: With.
-/
set_option linter.unusedSimpArgs false
set_option linter.unusedVariables false
namespace Go.Proofs.YtlfhpocfacaaeaaGreat
open Go.RowKit

theorem fit_put {b : BoxV} (fb : FitBx b) {s : SetV} (fs : Fit s) : ∀ (i : Nat) (hi : i < 4) (j : Nat), j < 4 → Fit ((b.put i s).get j) := fun i hi j hj => by
  rw [BoxV.get_put _ _ _ _ hi hj]
  split
  · exact fs
  · exact fb.fit j hj
set_option maxHeartbeats 8000000 in
set_option maxRecDepth 100000 in
theorem with_low (v : Value) (b : BoxV) (u : Value) (s : SetV) (w : World) (x : Int) (x0 : -9223372036854775808 ≤ x) (hx : x < 0) (hv : BoxAt w v b) (fb : FitBx b) (hu : SetAt w u s) (fs : Fit s) :
    Calls Tryz.prog 122 #[v, .int .i64 x, u] w fun r w' => (∃ y, r = .returned y ∧ BoxAt w' y (b)) ∧ Below w.heap.size w w' := by
  obtain ⟨s0, s1, s2, s3, rfl, h0, h1, h2, h3⟩ := hv.scs
  obtain ⟨t, rfl⟩ := hu.sc
  have T0 := Tri.start w (Obj.cells #[.bool s0.a, .slice s0.p s0.n s0.c, .bool s0.d, .slice s0.q s0.m s0.e, .bool s1.a, .slice s1.p s1.n s1.c, .bool s1.d, .slice s1.q s1.m s1.e, .bool s2.a, .slice s2.p s2.n s2.c, .bool s2.d, .slice s2.q s2.m s2.e, .bool s3.a, .slice s3.p s3.n s3.c, .bool s3.d, .slice s3.q s3.m s3.e] 47) (Obj.cells #[.bool t.a, .slice t.p t.n t.c, .bool t.d, .slice t.q t.m t.e] 25) (Obj.cells #[.bool false, .slice none 0 0, .bool false, .slice none 0 0, .bool false, .slice none 0 0, .bool false, .slice none 0 0, .bool false, .slice none 0 0, .bool false, .slice none 0 0, .bool false, .slice none 0 0, .bool false, .slice none 0 0] 47)
  have S0 := hide (show Sets4 _ s0 s1 s2 s3 b from ⟨h0.on T0.b, h1.on T0.b, h2.on T0.b, h3.on T0.b⟩)
  have HT0 := hide (hu.on T0.b)
  have I0 := hide (show BxIn _ w.heap.size s0 s1 s2 s3 from T0.e1)
  have N0 := hide T0.e2
  have Z0 := hide (show BxIn _ (w.heap.size + 1 + 1) SC.zero SC.zero SC.zero SC.zero from T0.e3)
  have B0 := hide T0.b
  have HS : Hid (Sets4 w s0 s1 s2 s3 b) := hide ⟨h0, h1, h2, h3⟩
  have HU := hide hu
  have FB := hide (fun i hi => fb.fit i hi)
  have FP := hide (fit_put fb fs)
  clear hv fb hu fs h0 h1 h2 h3 T0
  unfold bxVal SC.val
  have hx' : (decide (0 ≤ x)) = false := by simp; omega
  go_enter Tryz.func122, Tryz.ntmps122
  have X := hide (boxCopied_any _ b _ ((Sets4.box S0.out)) FB.out)
  unfold bxVal at X
  obtain ⟨c0, c1, c2, c3, c4, c5, c6, c7, c8, c9, c10, c11, c12, c13, c14, c15⟩ := I0.out.cells
  go_wp2_with fail
  refine (unhide X).mono ?_
  rintro r w2 ⟨⟨u2, rfl, h2⟩, b2⟩
  have Z2 := Z0.out.on b2
  have B2 := B0.out.trans (b2.mono B0.out.size)
  clear c0 c1 c2 c3 c4 c5 c6 c7 c8 c9 c10 c11 c12 c13 c14 c15
  obtain ⟨x0, x1, x2, x3, rfl, g0, g1, g2, g3⟩ := h2.scs
  obtain ⟨d0, d1, d2, d3, d4, d5, d6, d7, d8, d9, d10, d11, d12, d13, d14, d15⟩ := Z2.cells
  have y0 := Z2.soft 0
  have y1 := Z2.soft 1
  have y2 := Z2.soft 2
  have y3 := Z2.soft 3
  have y4 := Z2.soft 4
  have y5 := Z2.soft 5
  have y6 := Z2.soft 6
  have y7 := Z2.soft 7
  have y8 := Z2.soft 8
  have y9 := Z2.soft 9
  have y10 := Z2.soft 10
  have y11 := Z2.soft 11
  have y12 := Z2.soft 12
  have y13 := Z2.soft 13
  have y14 := Z2.soft 14
  have y15 := Z2.soft 15
  obtain ⟨q1, q2⟩ := put_whole x0 x1 x2 x3 Z2
  have HQ := hide q1
  have HR := hide (Sets4.box ⟨q2.set Z2 g0, q2.set Z2 g1, q2.set Z2 g2, q2.set Z2 g3⟩)
  have HW := hide (q2.below _ _ (by omega) B2)
  clear q1 q2 X g0 g1 g2 g3 h2 b2 B2 Z2 I0 N0 Z0 B0 S0 HT0 HS HU FB FP
  unfold bxVal
  go_wp2
  exact bodyPost_ret (results_cell_row rfl _ _ (w.heap.size + 1 + 1) 47 _ (0, 0) _ rfl HQ.out Tryz.underlying47 rfl infoBx) rfl ⟨⟨_, rfl, HR.out⟩, HW.out⟩
set_option maxHeartbeats 8000000 in
set_option maxRecDepth 100000 in
theorem with_high (v : Value) (b : BoxV) (u : Value) (s : SetV) (w : World) (x : Int) (x1 : x ≤ 9223372036854775807) (hx : 3 < x) (hv : BoxAt w v b) (fb : FitBx b) (hu : SetAt w u s) (fs : Fit s) :
    Calls Tryz.prog 122 #[v, .int .i64 x, u] w fun r w' => (∃ y, r = .returned y ∧ BoxAt w' y (b)) ∧ Below w.heap.size w w' := by
  obtain ⟨s0, s1, s2, s3, rfl, h0, h1, h2, h3⟩ := hv.scs
  obtain ⟨t, rfl⟩ := hu.sc
  have T0 := Tri.start w (Obj.cells #[.bool s0.a, .slice s0.p s0.n s0.c, .bool s0.d, .slice s0.q s0.m s0.e, .bool s1.a, .slice s1.p s1.n s1.c, .bool s1.d, .slice s1.q s1.m s1.e, .bool s2.a, .slice s2.p s2.n s2.c, .bool s2.d, .slice s2.q s2.m s2.e, .bool s3.a, .slice s3.p s3.n s3.c, .bool s3.d, .slice s3.q s3.m s3.e] 47) (Obj.cells #[.bool t.a, .slice t.p t.n t.c, .bool t.d, .slice t.q t.m t.e] 25) (Obj.cells #[.bool false, .slice none 0 0, .bool false, .slice none 0 0, .bool false, .slice none 0 0, .bool false, .slice none 0 0, .bool false, .slice none 0 0, .bool false, .slice none 0 0, .bool false, .slice none 0 0, .bool false, .slice none 0 0] 47)
  have S0 := hide (show Sets4 _ s0 s1 s2 s3 b from ⟨h0.on T0.b, h1.on T0.b, h2.on T0.b, h3.on T0.b⟩)
  have HT0 := hide (hu.on T0.b)
  have I0 := hide (show BxIn _ w.heap.size s0 s1 s2 s3 from T0.e1)
  have N0 := hide T0.e2
  have Z0 := hide (show BxIn _ (w.heap.size + 1 + 1) SC.zero SC.zero SC.zero SC.zero from T0.e3)
  have B0 := hide T0.b
  have HS : Hid (Sets4 w s0 s1 s2 s3 b) := hide ⟨h0, h1, h2, h3⟩
  have HU := hide hu
  have FB := hide (fun i hi => fb.fit i hi)
  have FP := hide (fit_put fb fs)
  clear hv fb hu fs h0 h1 h2 h3 T0
  unfold bxVal SC.val
  have hx' : (decide (0 ≤ x)) = true := by simp; omega
  have hx2 : (decide (x < 4)) = false := by simp; omega
  go_enter Tryz.func122, Tryz.ntmps122
  have X := hide (boxCopied_any _ b _ ((Sets4.box S0.out)) FB.out)
  unfold bxVal at X
  obtain ⟨c0, c1, c2, c3, c4, c5, c6, c7, c8, c9, c10, c11, c12, c13, c14, c15⟩ := I0.out.cells
  go_wp2_with fail
  refine (unhide X).mono ?_
  rintro r w2 ⟨⟨u2, rfl, h2⟩, b2⟩
  have Z2 := Z0.out.on b2
  have B2 := B0.out.trans (b2.mono B0.out.size)
  clear c0 c1 c2 c3 c4 c5 c6 c7 c8 c9 c10 c11 c12 c13 c14 c15
  obtain ⟨x0, x1, x2, x3, rfl, g0, g1, g2, g3⟩ := h2.scs
  obtain ⟨d0, d1, d2, d3, d4, d5, d6, d7, d8, d9, d10, d11, d12, d13, d14, d15⟩ := Z2.cells
  have y0 := Z2.soft 0
  have y1 := Z2.soft 1
  have y2 := Z2.soft 2
  have y3 := Z2.soft 3
  have y4 := Z2.soft 4
  have y5 := Z2.soft 5
  have y6 := Z2.soft 6
  have y7 := Z2.soft 7
  have y8 := Z2.soft 8
  have y9 := Z2.soft 9
  have y10 := Z2.soft 10
  have y11 := Z2.soft 11
  have y12 := Z2.soft 12
  have y13 := Z2.soft 13
  have y14 := Z2.soft 14
  have y15 := Z2.soft 15
  obtain ⟨q1, q2⟩ := put_whole x0 x1 x2 x3 Z2
  have HQ := hide q1
  have HR := hide (Sets4.box ⟨q2.set Z2 g0, q2.set Z2 g1, q2.set Z2 g2, q2.set Z2 g3⟩)
  have HW := hide (q2.below _ _ (by omega) B2)
  clear q1 q2 X g0 g1 g2 g3 h2 b2 B2 Z2 I0 N0 Z0 B0 S0 HT0 HS HU FB FP
  unfold bxVal
  go_wp2
  exact bodyPost_ret (results_cell_row rfl _ _ (w.heap.size + 1 + 1) 47 _ (0, 0) _ rfl HQ.out Tryz.underlying47 rfl infoBx) rfl ⟨⟨_, rfl, HR.out⟩, HW.out⟩
set_option maxHeartbeats 8000000 in
set_option maxRecDepth 100000 in
theorem with_in0 (v : Value) (b : BoxV) (u : Value) (s : SetV) (w : World) (hv : BoxAt w v b) (fb : FitBx b) (hu : SetAt w u s) (fs : Fit s) :
    Calls Tryz.prog 122 #[v, .int .i64 0, u] w fun r w' => (∃ y, r = .returned y ∧ BoxAt w' y (b.put 0 s)) ∧ Below w.heap.size w w' := by
  obtain ⟨s0, s1, s2, s3, rfl, h0, h1, h2, h3⟩ := hv.scs
  obtain ⟨t, rfl⟩ := hu.sc
  have T0 := Tri.start w (Obj.cells #[.bool s0.a, .slice s0.p s0.n s0.c, .bool s0.d, .slice s0.q s0.m s0.e, .bool s1.a, .slice s1.p s1.n s1.c, .bool s1.d, .slice s1.q s1.m s1.e, .bool s2.a, .slice s2.p s2.n s2.c, .bool s2.d, .slice s2.q s2.m s2.e, .bool s3.a, .slice s3.p s3.n s3.c, .bool s3.d, .slice s3.q s3.m s3.e] 47) (Obj.cells #[.bool t.a, .slice t.p t.n t.c, .bool t.d, .slice t.q t.m t.e] 25) (Obj.cells #[.bool false, .slice none 0 0, .bool false, .slice none 0 0, .bool false, .slice none 0 0, .bool false, .slice none 0 0, .bool false, .slice none 0 0, .bool false, .slice none 0 0, .bool false, .slice none 0 0, .bool false, .slice none 0 0] 47)
  have S0 := hide (show Sets4 _ s0 s1 s2 s3 b from ⟨h0.on T0.b, h1.on T0.b, h2.on T0.b, h3.on T0.b⟩)
  have HT0 := hide (hu.on T0.b)
  have I0 := hide (show BxIn _ w.heap.size s0 s1 s2 s3 from T0.e1)
  have N0 := hide T0.e2
  have Z0 := hide (show BxIn _ (w.heap.size + 1 + 1) SC.zero SC.zero SC.zero SC.zero from T0.e3)
  have B0 := hide T0.b
  have HS : Hid (Sets4 w s0 s1 s2 s3 b) := hide ⟨h0, h1, h2, h3⟩
  have HU := hide hu
  have FB := hide (fun i hi => fb.fit i hi)
  have FP := hide (fit_put fb fs)
  clear hv fb hu fs h0 h1 h2 h3 T0
  unfold bxVal SC.val
  go_enter Tryz.func122, Tryz.ntmps122
  have T1 := Tri.start w (Obj.cells #[.bool t.a, .slice t.p t.n t.c, .bool t.d, .slice t.q t.m t.e, .bool s1.a, .slice s1.p s1.n s1.c, .bool s1.d, .slice s1.q s1.m s1.e, .bool s2.a, .slice s2.p s2.n s2.c, .bool s2.d, .slice s2.q s2.m s2.e, .bool s3.a, .slice s3.p s3.n s3.c, .bool s3.d, .slice s3.q s3.m s3.e] 47) (Obj.cells #[.bool t.a, .slice t.p t.n t.c, .bool t.d, .slice t.q t.m t.e] 25) (Obj.cells #[.bool false, .slice none 0 0, .bool false, .slice none 0 0, .bool false, .slice none 0 0, .bool false, .slice none 0 0, .bool false, .slice none 0 0, .bool false, .slice none 0 0, .bool false, .slice none 0 0, .bool false, .slice none 0 0] 47)
  have S1 : Sets4 _ t s1 s2 s3 (b.put 0 s) := ⟨HU.out.on T1.b, HS.out.2.1.on T1.b, HS.out.2.2.1.on T1.b, HS.out.2.2.2.on T1.b⟩
  have Z1 := hide (show BxIn _ (w.heap.size + 1 + 1) SC.zero SC.zero SC.zero SC.zero from T1.e3)
  have B1 := hide T1.b
  have X := hide (boxCopied_any _ (b.put 0 s) _ (Sets4.box S1) (FP.out 0 (by omega)))
  unfold bxVal at X
  obtain ⟨c0, c1, c2, c3, c4, c5, c6, c7, c8, c9, c10, c11, c12, c13, c14, c15⟩ := I0.out.cells
  obtain ⟨e0, e1, e2, e3⟩ := setCells N0.out
  have z0 := I0.out.soft 0
  have z1 := I0.out.soft 1
  have z2 := I0.out.soft 2
  have z3 := I0.out.soft 3
  clear T1 S1
  go_wp2_with fail
  refine (unhide X).mono ?_
  rintro r w2 ⟨⟨u2, rfl, h2⟩, b2⟩
  have Z2 := Z1.out.on b2
  have B2 := B1.out.trans (b2.mono B1.out.size)
  clear c0 c1 c2 c3 c4 c5 c6 c7 c8 c9 c10 c11 c12 c13 c14 c15 e0 e1 e2 e3 z0 z1 z2 z3
  obtain ⟨x0, x1, x2, x3, rfl, g0, g1, g2, g3⟩ := h2.scs
  obtain ⟨d0, d1, d2, d3, d4, d5, d6, d7, d8, d9, d10, d11, d12, d13, d14, d15⟩ := Z2.cells
  have y0 := Z2.soft 0
  have y1 := Z2.soft 1
  have y2 := Z2.soft 2
  have y3 := Z2.soft 3
  have y4 := Z2.soft 4
  have y5 := Z2.soft 5
  have y6 := Z2.soft 6
  have y7 := Z2.soft 7
  have y8 := Z2.soft 8
  have y9 := Z2.soft 9
  have y10 := Z2.soft 10
  have y11 := Z2.soft 11
  have y12 := Z2.soft 12
  have y13 := Z2.soft 13
  have y14 := Z2.soft 14
  have y15 := Z2.soft 15
  obtain ⟨q1, q2⟩ := put_whole x0 x1 x2 x3 Z2
  have HQ := hide q1
  have HR := hide (Sets4.box ⟨q2.set Z2 g0, q2.set Z2 g1, q2.set Z2 g2, q2.set Z2 g3⟩)
  have HW := hide (q2.below _ _ (by omega) B2)
  clear q1 q2 X g0 g1 g2 g3 h2 b2 B2 Z2 I0 N0 Z0 B0 S0 HT0 HS HU FB FP
  unfold bxVal
  go_wp2
  exact bodyPost_ret (results_cell_row rfl _ _ (w.heap.size + 1 + 1) 47 _ (0, 0) _ rfl HQ.out Tryz.underlying47 rfl infoBx) rfl ⟨⟨_, rfl, HR.out⟩, HW.out⟩
set_option maxHeartbeats 8000000 in
set_option maxRecDepth 100000 in
theorem with_in1 (v : Value) (b : BoxV) (u : Value) (s : SetV) (w : World) (hv : BoxAt w v b) (fb : FitBx b) (hu : SetAt w u s) (fs : Fit s) :
    Calls Tryz.prog 122 #[v, .int .i64 1, u] w fun r w' => (∃ y, r = .returned y ∧ BoxAt w' y (b.put 1 s)) ∧ Below w.heap.size w w' := by
  obtain ⟨s0, s1, s2, s3, rfl, h0, h1, h2, h3⟩ := hv.scs
  obtain ⟨t, rfl⟩ := hu.sc
  have T0 := Tri.start w (Obj.cells #[.bool s0.a, .slice s0.p s0.n s0.c, .bool s0.d, .slice s0.q s0.m s0.e, .bool s1.a, .slice s1.p s1.n s1.c, .bool s1.d, .slice s1.q s1.m s1.e, .bool s2.a, .slice s2.p s2.n s2.c, .bool s2.d, .slice s2.q s2.m s2.e, .bool s3.a, .slice s3.p s3.n s3.c, .bool s3.d, .slice s3.q s3.m s3.e] 47) (Obj.cells #[.bool t.a, .slice t.p t.n t.c, .bool t.d, .slice t.q t.m t.e] 25) (Obj.cells #[.bool false, .slice none 0 0, .bool false, .slice none 0 0, .bool false, .slice none 0 0, .bool false, .slice none 0 0, .bool false, .slice none 0 0, .bool false, .slice none 0 0, .bool false, .slice none 0 0, .bool false, .slice none 0 0] 47)
  have S0 := hide (show Sets4 _ s0 s1 s2 s3 b from ⟨h0.on T0.b, h1.on T0.b, h2.on T0.b, h3.on T0.b⟩)
  have HT0 := hide (hu.on T0.b)
  have I0 := hide (show BxIn _ w.heap.size s0 s1 s2 s3 from T0.e1)
  have N0 := hide T0.e2
  have Z0 := hide (show BxIn _ (w.heap.size + 1 + 1) SC.zero SC.zero SC.zero SC.zero from T0.e3)
  have B0 := hide T0.b
  have HS : Hid (Sets4 w s0 s1 s2 s3 b) := hide ⟨h0, h1, h2, h3⟩
  have HU := hide hu
  have FB := hide (fun i hi => fb.fit i hi)
  have FP := hide (fit_put fb fs)
  clear hv fb hu fs h0 h1 h2 h3 T0
  unfold bxVal SC.val
  go_enter Tryz.func122, Tryz.ntmps122
  have T1 := Tri.start w (Obj.cells #[.bool s0.a, .slice s0.p s0.n s0.c, .bool s0.d, .slice s0.q s0.m s0.e, .bool t.a, .slice t.p t.n t.c, .bool t.d, .slice t.q t.m t.e, .bool s2.a, .slice s2.p s2.n s2.c, .bool s2.d, .slice s2.q s2.m s2.e, .bool s3.a, .slice s3.p s3.n s3.c, .bool s3.d, .slice s3.q s3.m s3.e] 47) (Obj.cells #[.bool t.a, .slice t.p t.n t.c, .bool t.d, .slice t.q t.m t.e] 25) (Obj.cells #[.bool false, .slice none 0 0, .bool false, .slice none 0 0, .bool false, .slice none 0 0, .bool false, .slice none 0 0, .bool false, .slice none 0 0, .bool false, .slice none 0 0, .bool false, .slice none 0 0, .bool false, .slice none 0 0] 47)
  have S1 : Sets4 _ s0 t s2 s3 (b.put 1 s) := ⟨HS.out.1.on T1.b, HU.out.on T1.b, HS.out.2.2.1.on T1.b, HS.out.2.2.2.on T1.b⟩
  have Z1 := hide (show BxIn _ (w.heap.size + 1 + 1) SC.zero SC.zero SC.zero SC.zero from T1.e3)
  have B1 := hide T1.b
  have X := hide (boxCopied_any _ (b.put 1 s) _ (Sets4.box S1) (FP.out 1 (by omega)))
  unfold bxVal at X
  obtain ⟨c0, c1, c2, c3, c4, c5, c6, c7, c8, c9, c10, c11, c12, c13, c14, c15⟩ := I0.out.cells
  obtain ⟨e0, e1, e2, e3⟩ := setCells N0.out
  have z0 := I0.out.soft 4
  have z1 := I0.out.soft 5
  have z2 := I0.out.soft 6
  have z3 := I0.out.soft 7
  clear T1 S1
  go_wp2_with fail
  refine (unhide X).mono ?_
  rintro r w2 ⟨⟨u2, rfl, h2⟩, b2⟩
  have Z2 := Z1.out.on b2
  have B2 := B1.out.trans (b2.mono B1.out.size)
  clear c0 c1 c2 c3 c4 c5 c6 c7 c8 c9 c10 c11 c12 c13 c14 c15 e0 e1 e2 e3 z0 z1 z2 z3
  obtain ⟨x0, x1, x2, x3, rfl, g0, g1, g2, g3⟩ := h2.scs
  obtain ⟨d0, d1, d2, d3, d4, d5, d6, d7, d8, d9, d10, d11, d12, d13, d14, d15⟩ := Z2.cells
  have y0 := Z2.soft 0
  have y1 := Z2.soft 1
  have y2 := Z2.soft 2
  have y3 := Z2.soft 3
  have y4 := Z2.soft 4
  have y5 := Z2.soft 5
  have y6 := Z2.soft 6
  have y7 := Z2.soft 7
  have y8 := Z2.soft 8
  have y9 := Z2.soft 9
  have y10 := Z2.soft 10
  have y11 := Z2.soft 11
  have y12 := Z2.soft 12
  have y13 := Z2.soft 13
  have y14 := Z2.soft 14
  have y15 := Z2.soft 15
  obtain ⟨q1, q2⟩ := put_whole x0 x1 x2 x3 Z2
  have HQ := hide q1
  have HR := hide (Sets4.box ⟨q2.set Z2 g0, q2.set Z2 g1, q2.set Z2 g2, q2.set Z2 g3⟩)
  have HW := hide (q2.below _ _ (by omega) B2)
  clear q1 q2 X g0 g1 g2 g3 h2 b2 B2 Z2 I0 N0 Z0 B0 S0 HT0 HS HU FB FP
  unfold bxVal
  go_wp2
  exact bodyPost_ret (results_cell_row rfl _ _ (w.heap.size + 1 + 1) 47 _ (0, 0) _ rfl HQ.out Tryz.underlying47 rfl infoBx) rfl ⟨⟨_, rfl, HR.out⟩, HW.out⟩
set_option maxHeartbeats 8000000 in
set_option maxRecDepth 100000 in
theorem with_in2 (v : Value) (b : BoxV) (u : Value) (s : SetV) (w : World) (hv : BoxAt w v b) (fb : FitBx b) (hu : SetAt w u s) (fs : Fit s) :
    Calls Tryz.prog 122 #[v, .int .i64 2, u] w fun r w' => (∃ y, r = .returned y ∧ BoxAt w' y (b.put 2 s)) ∧ Below w.heap.size w w' := by
  obtain ⟨s0, s1, s2, s3, rfl, h0, h1, h2, h3⟩ := hv.scs
  obtain ⟨t, rfl⟩ := hu.sc
  have T0 := Tri.start w (Obj.cells #[.bool s0.a, .slice s0.p s0.n s0.c, .bool s0.d, .slice s0.q s0.m s0.e, .bool s1.a, .slice s1.p s1.n s1.c, .bool s1.d, .slice s1.q s1.m s1.e, .bool s2.a, .slice s2.p s2.n s2.c, .bool s2.d, .slice s2.q s2.m s2.e, .bool s3.a, .slice s3.p s3.n s3.c, .bool s3.d, .slice s3.q s3.m s3.e] 47) (Obj.cells #[.bool t.a, .slice t.p t.n t.c, .bool t.d, .slice t.q t.m t.e] 25) (Obj.cells #[.bool false, .slice none 0 0, .bool false, .slice none 0 0, .bool false, .slice none 0 0, .bool false, .slice none 0 0, .bool false, .slice none 0 0, .bool false, .slice none 0 0, .bool false, .slice none 0 0, .bool false, .slice none 0 0] 47)
  have S0 := hide (show Sets4 _ s0 s1 s2 s3 b from ⟨h0.on T0.b, h1.on T0.b, h2.on T0.b, h3.on T0.b⟩)
  have HT0 := hide (hu.on T0.b)
  have I0 := hide (show BxIn _ w.heap.size s0 s1 s2 s3 from T0.e1)
  have N0 := hide T0.e2
  have Z0 := hide (show BxIn _ (w.heap.size + 1 + 1) SC.zero SC.zero SC.zero SC.zero from T0.e3)
  have B0 := hide T0.b
  have HS : Hid (Sets4 w s0 s1 s2 s3 b) := hide ⟨h0, h1, h2, h3⟩
  have HU := hide hu
  have FB := hide (fun i hi => fb.fit i hi)
  have FP := hide (fit_put fb fs)
  clear hv fb hu fs h0 h1 h2 h3 T0
  unfold bxVal SC.val
  go_enter Tryz.func122, Tryz.ntmps122
  have T1 := Tri.start w (Obj.cells #[.bool s0.a, .slice s0.p s0.n s0.c, .bool s0.d, .slice s0.q s0.m s0.e, .bool s1.a, .slice s1.p s1.n s1.c, .bool s1.d, .slice s1.q s1.m s1.e, .bool t.a, .slice t.p t.n t.c, .bool t.d, .slice t.q t.m t.e, .bool s3.a, .slice s3.p s3.n s3.c, .bool s3.d, .slice s3.q s3.m s3.e] 47) (Obj.cells #[.bool t.a, .slice t.p t.n t.c, .bool t.d, .slice t.q t.m t.e] 25) (Obj.cells #[.bool false, .slice none 0 0, .bool false, .slice none 0 0, .bool false, .slice none 0 0, .bool false, .slice none 0 0, .bool false, .slice none 0 0, .bool false, .slice none 0 0, .bool false, .slice none 0 0, .bool false, .slice none 0 0] 47)
  have S1 : Sets4 _ s0 s1 t s3 (b.put 2 s) := ⟨HS.out.1.on T1.b, HS.out.2.1.on T1.b, HU.out.on T1.b, HS.out.2.2.2.on T1.b⟩
  have Z1 := hide (show BxIn _ (w.heap.size + 1 + 1) SC.zero SC.zero SC.zero SC.zero from T1.e3)
  have B1 := hide T1.b
  have X := hide (boxCopied_any _ (b.put 2 s) _ (Sets4.box S1) (FP.out 2 (by omega)))
  unfold bxVal at X
  obtain ⟨c0, c1, c2, c3, c4, c5, c6, c7, c8, c9, c10, c11, c12, c13, c14, c15⟩ := I0.out.cells
  obtain ⟨e0, e1, e2, e3⟩ := setCells N0.out
  have z0 := I0.out.soft 8
  have z1 := I0.out.soft 9
  have z2 := I0.out.soft 10
  have z3 := I0.out.soft 11
  clear T1 S1
  go_wp2_with fail
  refine (unhide X).mono ?_
  rintro r w2 ⟨⟨u2, rfl, h2⟩, b2⟩
  have Z2 := Z1.out.on b2
  have B2 := B1.out.trans (b2.mono B1.out.size)
  clear c0 c1 c2 c3 c4 c5 c6 c7 c8 c9 c10 c11 c12 c13 c14 c15 e0 e1 e2 e3 z0 z1 z2 z3
  obtain ⟨x0, x1, x2, x3, rfl, g0, g1, g2, g3⟩ := h2.scs
  obtain ⟨d0, d1, d2, d3, d4, d5, d6, d7, d8, d9, d10, d11, d12, d13, d14, d15⟩ := Z2.cells
  have y0 := Z2.soft 0
  have y1 := Z2.soft 1
  have y2 := Z2.soft 2
  have y3 := Z2.soft 3
  have y4 := Z2.soft 4
  have y5 := Z2.soft 5
  have y6 := Z2.soft 6
  have y7 := Z2.soft 7
  have y8 := Z2.soft 8
  have y9 := Z2.soft 9
  have y10 := Z2.soft 10
  have y11 := Z2.soft 11
  have y12 := Z2.soft 12
  have y13 := Z2.soft 13
  have y14 := Z2.soft 14
  have y15 := Z2.soft 15
  obtain ⟨q1, q2⟩ := put_whole x0 x1 x2 x3 Z2
  have HQ := hide q1
  have HR := hide (Sets4.box ⟨q2.set Z2 g0, q2.set Z2 g1, q2.set Z2 g2, q2.set Z2 g3⟩)
  have HW := hide (q2.below _ _ (by omega) B2)
  clear q1 q2 X g0 g1 g2 g3 h2 b2 B2 Z2 I0 N0 Z0 B0 S0 HT0 HS HU FB FP
  unfold bxVal
  go_wp2
  exact bodyPost_ret (results_cell_row rfl _ _ (w.heap.size + 1 + 1) 47 _ (0, 0) _ rfl HQ.out Tryz.underlying47 rfl infoBx) rfl ⟨⟨_, rfl, HR.out⟩, HW.out⟩
set_option maxHeartbeats 8000000 in
set_option maxRecDepth 100000 in
theorem with_in3 (v : Value) (b : BoxV) (u : Value) (s : SetV) (w : World) (hv : BoxAt w v b) (fb : FitBx b) (hu : SetAt w u s) (fs : Fit s) :
    Calls Tryz.prog 122 #[v, .int .i64 3, u] w fun r w' => (∃ y, r = .returned y ∧ BoxAt w' y (b.put 3 s)) ∧ Below w.heap.size w w' := by
  obtain ⟨s0, s1, s2, s3, rfl, h0, h1, h2, h3⟩ := hv.scs
  obtain ⟨t, rfl⟩ := hu.sc
  have T0 := Tri.start w (Obj.cells #[.bool s0.a, .slice s0.p s0.n s0.c, .bool s0.d, .slice s0.q s0.m s0.e, .bool s1.a, .slice s1.p s1.n s1.c, .bool s1.d, .slice s1.q s1.m s1.e, .bool s2.a, .slice s2.p s2.n s2.c, .bool s2.d, .slice s2.q s2.m s2.e, .bool s3.a, .slice s3.p s3.n s3.c, .bool s3.d, .slice s3.q s3.m s3.e] 47) (Obj.cells #[.bool t.a, .slice t.p t.n t.c, .bool t.d, .slice t.q t.m t.e] 25) (Obj.cells #[.bool false, .slice none 0 0, .bool false, .slice none 0 0, .bool false, .slice none 0 0, .bool false, .slice none 0 0, .bool false, .slice none 0 0, .bool false, .slice none 0 0, .bool false, .slice none 0 0, .bool false, .slice none 0 0] 47)
  have S0 := hide (show Sets4 _ s0 s1 s2 s3 b from ⟨h0.on T0.b, h1.on T0.b, h2.on T0.b, h3.on T0.b⟩)
  have HT0 := hide (hu.on T0.b)
  have I0 := hide (show BxIn _ w.heap.size s0 s1 s2 s3 from T0.e1)
  have N0 := hide T0.e2
  have Z0 := hide (show BxIn _ (w.heap.size + 1 + 1) SC.zero SC.zero SC.zero SC.zero from T0.e3)
  have B0 := hide T0.b
  have HS : Hid (Sets4 w s0 s1 s2 s3 b) := hide ⟨h0, h1, h2, h3⟩
  have HU := hide hu
  have FB := hide (fun i hi => fb.fit i hi)
  have FP := hide (fit_put fb fs)
  clear hv fb hu fs h0 h1 h2 h3 T0
  unfold bxVal SC.val
  go_enter Tryz.func122, Tryz.ntmps122
  have T1 := Tri.start w (Obj.cells #[.bool s0.a, .slice s0.p s0.n s0.c, .bool s0.d, .slice s0.q s0.m s0.e, .bool s1.a, .slice s1.p s1.n s1.c, .bool s1.d, .slice s1.q s1.m s1.e, .bool s2.a, .slice s2.p s2.n s2.c, .bool s2.d, .slice s2.q s2.m s2.e, .bool t.a, .slice t.p t.n t.c, .bool t.d, .slice t.q t.m t.e] 47) (Obj.cells #[.bool t.a, .slice t.p t.n t.c, .bool t.d, .slice t.q t.m t.e] 25) (Obj.cells #[.bool false, .slice none 0 0, .bool false, .slice none 0 0, .bool false, .slice none 0 0, .bool false, .slice none 0 0, .bool false, .slice none 0 0, .bool false, .slice none 0 0, .bool false, .slice none 0 0, .bool false, .slice none 0 0] 47)
  have S1 : Sets4 _ s0 s1 s2 t (b.put 3 s) := ⟨HS.out.1.on T1.b, HS.out.2.1.on T1.b, HS.out.2.2.1.on T1.b, HU.out.on T1.b⟩
  have Z1 := hide (show BxIn _ (w.heap.size + 1 + 1) SC.zero SC.zero SC.zero SC.zero from T1.e3)
  have B1 := hide T1.b
  have X := hide (boxCopied_any _ (b.put 3 s) _ (Sets4.box S1) (FP.out 3 (by omega)))
  unfold bxVal at X
  obtain ⟨c0, c1, c2, c3, c4, c5, c6, c7, c8, c9, c10, c11, c12, c13, c14, c15⟩ := I0.out.cells
  obtain ⟨e0, e1, e2, e3⟩ := setCells N0.out
  have z0 := I0.out.soft 12
  have z1 := I0.out.soft 13
  have z2 := I0.out.soft 14
  have z3 := I0.out.soft 15
  clear T1 S1
  go_wp2_with fail
  refine (unhide X).mono ?_
  rintro r w2 ⟨⟨u2, rfl, h2⟩, b2⟩
  have Z2 := Z1.out.on b2
  have B2 := B1.out.trans (b2.mono B1.out.size)
  clear c0 c1 c2 c3 c4 c5 c6 c7 c8 c9 c10 c11 c12 c13 c14 c15 e0 e1 e2 e3 z0 z1 z2 z3
  obtain ⟨x0, x1, x2, x3, rfl, g0, g1, g2, g3⟩ := h2.scs
  obtain ⟨d0, d1, d2, d3, d4, d5, d6, d7, d8, d9, d10, d11, d12, d13, d14, d15⟩ := Z2.cells
  have y0 := Z2.soft 0
  have y1 := Z2.soft 1
  have y2 := Z2.soft 2
  have y3 := Z2.soft 3
  have y4 := Z2.soft 4
  have y5 := Z2.soft 5
  have y6 := Z2.soft 6
  have y7 := Z2.soft 7
  have y8 := Z2.soft 8
  have y9 := Z2.soft 9
  have y10 := Z2.soft 10
  have y11 := Z2.soft 11
  have y12 := Z2.soft 12
  have y13 := Z2.soft 13
  have y14 := Z2.soft 14
  have y15 := Z2.soft 15
  obtain ⟨q1, q2⟩ := put_whole x0 x1 x2 x3 Z2
  have HQ := hide q1
  have HR := hide (Sets4.box ⟨q2.set Z2 g0, q2.set Z2 g1, q2.set Z2 g2, q2.set Z2 g3⟩)
  have HW := hide (q2.below _ _ (by omega) B2)
  clear q1 q2 X g0 g1 g2 g3 h2 b2 B2 Z2 I0 N0 Z0 B0 S0 HT0 HS HU FB FP
  unfold bxVal
  go_wp2
  exact bodyPost_ret (results_cell_row rfl _ _ (w.heap.size + 1 + 1) 47 _ (0, 0) _ rfl HQ.out Tryz.underlying47 rfl infoBx) rfl ⟨⟨_, rfl, HR.out⟩, HW.out⟩
theorem boxWith_any (v : Value) (b : BoxV) (x : Int) (u : Value) (s : SetV) (w : World) (x0 : -9223372036854775808 ≤ x) (x1 : x ≤ 9223372036854775807) (hv : BoxAt w v b) (fb : FitBx b) (hu : SetAt w u s) (fs : Fit s) :
    Calls Tryz.prog 122 #[v, .int .i64 x, u] w fun r w' => (∃ y, r = .returned y ∧ BoxAt w' y (withBx b x s)) ∧ Below w.heap.size w w' := by
  rcases (by omega : x < 0 ∨ x = 0 ∨ x = 1 ∨ x = 2 ∨ x = 3 ∨ 3 < x) with hx | rfl | rfl | rfl | rfl | hx
  · rw [show withBx b x s = b from by unfold withBx; rw [if_neg (by omega)]]
    exact with_low v b u s w x x0 hx hv fb hu fs
  · exact with_in0 v b u s w hv fb hu fs
  · exact with_in1 v b u s w hv fb hu fs
  · exact with_in2 v b u s w hv fb hu fs
  · exact with_in3 v b u s w hv fb hu fs
  · rw [show withBx b x s = b from by unfold withBx; rw [if_neg (by omega)]]
    exact with_high v b u s w x x1 hx hv fb hu fs
end Go.Proofs.YtlfhpocfacaaeaaGreat
/-
  The program's box: Atom; all its promises.
-/
set_option linter.unusedSimpArgs false
set_option linter.unusedVariables false
namespace Go.Proofs.YtlfhpocfacaaeaaGreat
open Go.RowKit

theorem allFit : FitBx allBx := ⟨all_good, fun i _ => by rw [allBx_get]; simp [allV], fun i _ => by rw [allBx_get]; simp [allV]⟩

set_option maxHeartbeats 8000000 in
set_option maxRecDepth 100000 in
theorem boxAtom_any (P : SetProg) (x : Int) (u : Value) (s : SetV) (w : World) (x0 : -9223372036854775808 ≤ x) (x1 : x ≤ 9223372036854775807) (hu : SetAt w u s) (fs : Fit s) :
    Calls Tryz.prog 102 #[.int .i64 x, u] w fun r w' => (∃ y, r = .returned y ∧ BoxAt w' y (withBx allBx x s)) ∧ Below w.heap.size w w' := by
  have CA := fun (W : World) => hide (boxAll_any P W)
  have CW := fun (W : World) (v : Value) (hv : BoxAt W v allBx) (hu : SetAt W u s) => hide (boxWith_any v allBx x u s W x0 x1 hv allFit hu fs)
  obtain ⟨t, rfl⟩ := hu.sc
  have T0 := Two.start w (Obj.cells #[.bool t.a, .slice t.p t.n t.c, .bool t.d, .slice t.q t.m t.e] 25) (Obj.cells #[.bool false, .slice none 0 0, .bool false, .slice none 0 0, .bool false, .slice none 0 0, .bool false, .slice none 0 0, .bool false, .slice none 0 0, .bool false, .slice none 0 0, .bool false, .slice none 0 0, .bool false, .slice none 0 0] 47)
  unfold SC.val at *
  go_enter Tryz.func102, Tryz.ntmps102
  go_wp2
  generalize hW : (w.alloc (Obj.cells #[.bool t.a, .slice t.p t.n t.c, .bool t.d, .slice t.q t.m t.e] 25)).alloc (Obj.cells #[.bool false, .slice none 0 0, .bool false, .slice none 0 0, .bool false, .slice none 0 0, .bool false, .slice none 0 0, .bool false, .slice none 0 0, .bool false, .slice none 0 0, .bool false, .slice none 0 0, .bool false, .slice none 0 0] 47) = W0 at T0 ⊢
  clear hW
  refine wp_region_held_drew (S := fun w' => w'.heap[w.heap.size]? = some (Obj.cells #[.bool t.a, .slice t.p t.n t.c, .bool t.d, .slice t.q t.m t.e] 25 (0, 0))) (by kernel_rfl) T0.e1 (fun hHeld => ?_)
  refine wpAnyH_take (i := 1) (oi := ⟨_, _, _, _, _, _⟩) (v := .int .i64 x) rfl (by kernel_rfl) (by kernel_rfl) (by kernel_rfl) (fun _ _ _ h => h) (yl_move (by rfl) _ rfl _ rfl) (by assumption) ?_
  simp only [Act.put, List.setIfInBounds_toArray, List.set_cons_zero, List.set_cons_succ]
  refine wpAnyH_take (i := 2) (oi := ⟨_, _, _, _, _, _⟩) (v := .agg #[.bool t.a, .slice t.p t.n t.c, .bool t.d, .slice t.q t.m t.e]) rfl (by kernel_rfl) (by kernel_rfl) (by kernel_rfl) (fun _ _ _ h => h) (yl_set (by rfl) _ rfl _ 0 rfl _ _ _ _ (fun w' h => setCells h)) (by assumption) ?_
  simp only [Act.put, List.setIfInBounds_toArray, List.set_cons_zero, List.set_cons_succ]
  -- call 1 of 2
  refine held_call (o := ⟨_, _, _, _, _, _⟩) 0 (by kernel_rfl) rfl (by rfl) 66 _ _ rfl #[] rfl (run_call Tryz.func66 (by kernel_rfl) (by kernel_rfl)) ?_
  refine (unhide (CA W0.drew)).mono ?_
  rintro r w1 ⟨⟨u1, rfl, h1⟩, b'⟩
  have bw : Below W0.heap.size W0 w1 := ⟨b'.os, b'.tape, b'.output, b'.size, b'.block⟩
  have T1 := T0.on bw
  obtain ⟨s0, s1, s2, s3, rfl, -⟩ := h1.scs
  refine ⟨.agg #[.bool s0.a, .slice s0.p s0.n s0.c, .bool s0.d, .slice s0.q s0.m s0.e, .bool s1.a, .slice s1.p s1.n s1.c, .bool s1.d, .slice s1.q s1.m s1.e, .bool s2.a, .slice s2.p s2.n s2.c, .bool s2.d, .slice s2.q s2.m s2.e, .bool s3.a, .slice s3.p s3.n s3.c, .bool s3.d, .slice s3.q s3.m s3.e], rfl, T1.e1, fun hHeld => ?_⟩
  simp only [Act.put, List.setIfInBounds_toArray, List.set_cons_zero, List.set_cons_succ]
  -- call 2 of 2
  refine held_call (o := ⟨_, _, _, _, _, _⟩) 3 (by kernel_rfl) rfl (by rfl) 122 _ _ rfl #[.agg #[.bool s0.a, .slice s0.p s0.n s0.c, .bool s0.d, .slice s0.q s0.m s0.e, .bool s1.a, .slice s1.p s1.n s1.c, .bool s1.d, .slice s1.q s1.m s1.e, .bool s2.a, .slice s2.p s2.n s2.c, .bool s2.d, .slice s2.q s2.m s2.e, .bool s3.a, .slice s3.p s3.n s3.c, .bool s3.d, .slice s3.q s3.m s3.e], .int .i64 x, .agg #[.bool t.a, .slice t.p t.n t.c, .bool t.d, .slice t.q t.m t.e]] rfl (run_call Tryz.func122 (by kernel_rfl) (by kernel_rfl)) ?_
  refine (unhide (CW w1 _ h1 (hu.on T1.b))).mono ?_
  rintro r w2 ⟨⟨u2, rfl, h2⟩, b2⟩
  have T2 := T1.on b2
  have Z2 : BxIn w2 (w.heap.size + 1) SC.zero SC.zero SC.zero SC.zero := T2.e2
  obtain ⟨x0, x1, x2, x3, rfl, g0, g1, g2, g3⟩ := h2.scs
  refine ⟨.agg #[.bool x0.a, .slice x0.p x0.n x0.c, .bool x0.d, .slice x0.q x0.m x0.e, .bool x1.a, .slice x1.p x1.n x1.c, .bool x1.d, .slice x1.q x1.m x1.e, .bool x2.a, .slice x2.p x2.n x2.c, .bool x2.d, .slice x2.q x2.m x2.e, .bool x3.a, .slice x3.p x3.n x3.c, .bool x3.d, .slice x3.q x3.m x3.e], rfl, T2.e1, fun hHeld => ?_⟩
  simp only [Act.put, List.setIfInBounds_toArray, List.set_cons_zero, List.set_cons_succ]
  obtain ⟨d0, d1, d2, d3, d4, d5, d6, d7, d8, d9, d10, d11, d12, d13, d14, d15⟩ := Z2.cells
  have y0 := Z2.soft 0
  have y1 := Z2.soft 1
  have y2 := Z2.soft 2
  have y3 := Z2.soft 3
  have y4 := Z2.soft 4
  have y5 := Z2.soft 5
  have y6 := Z2.soft 6
  have y7 := Z2.soft 7
  have y8 := Z2.soft 8
  have y9 := Z2.soft 9
  have y10 := Z2.soft 10
  have y11 := Z2.soft 11
  have y12 := Z2.soft 12
  have y13 := Z2.soft 13
  have y14 := Z2.soft 14
  have y15 := Z2.soft 15
  obtain ⟨q1, q2⟩ := put_whole x0 x1 x2 x3 Z2
  have HQ := hide q1
  have HR := hide (Sets4.box ⟨q2.set Z2 g0, q2.set Z2 g1, q2.set Z2 g2, q2.set Z2 g3⟩)
  have HW := hide (q2.below _ _ (by omega) T2.b)
  have E1 := (q2.other w.heap.size (by omega)).trans T2.e1
  refine wpAnyH_ready (rs := [4]) (by kernel_rfl) (by simp) ?_
  refine AllReadyH.cons rfl (fun K hK => ?_) AllReadyH.nil
  clear CA CW hHeld
  go_simp
  refine hK.out _ _ E1 (fun hHeld => ?_)
  clear hK K
  refine wpAnyH_done (by kernel_rfl) ?_ _
  go_wp2
  exact bodyPost_ret (results_cell_row rfl _ _ (w.heap.size + 1) 47 _ (0, 0) _ rfl HQ.out Tryz.underlying47 rfl infoBx) rfl ⟨⟨_, rfl, HR.out⟩, HW.out⟩

theorem boxProg (P : SetProg) : BoxProg := {
  all := boxAll_any P
  atom := fun x v s w x0 x1 h f => boxAtom_any P x v s w x0 x1 h f
  with_ := fun v b x u s w x0 x1 h f hs fs => boxWith_any v b x u s w x0 x1 h f hs fs
  and := fun v u a b w h h' f f' => boxAnd_any P v u a b w h h' f f'
  in_ := fun v u a b w h h' f f' => boxIn_any P v u a b w h h' f f'
  empty := fun v b w h f => boxEmpty_any P v b w h f
  same := fun v u a b w h h' f f' => boxSame_any P v u a b w h h' f f'
  differ := fun v u a b w h h' f f' => boxDiffer_any P v u a b w h h' f f'
  has := fun v b e w h f ef ee => boxHas_any P v b e w h f ef ee }
theorem boxProg0 : BoxProg := boxProg setProg
end Go.Proofs.YtlfhpocfacaaeaaGreat
/-
  The program's copied: an expression in new memory.
-/
set_option linter.unusedSimpArgs false
set_option linter.unusedVariables false
namespace Go.Proofs.YtlfhpocfacaaeaaGreat
open Go.RowKit

/-- What may be copied: no row is longer than memory has room for. -/
def cpX : Nat → ExV → Prop
  | 0, _ => True
  | n + 1, x => x.set.ints.length ≤ 1000 ∧ x.set.strs.length ≤ 1000 ∧ x.sub.length ≤ 1000 ∧ ∀ y ∈ x.sub, cpX n y
def exCells (es : Nat → EC) (n : Nat) : List Value := (List.range n).flatMap fun i => (es i).list
theorem exCells_succ (es : Nat → EC) (n : Nat) : exCells es (n + 1) = exCells es n ++ (es n).list := by
  unfold exCells
  rw [List.range_succ, List.flatMap_append]
  simp
theorem exCells_len (es : Nat → EC) : ∀ n, (exCells es n).length = n * 7
  | 0 => rfl
  | n + 1 => by rw [exCells_succ, List.length_append, exCells_len es n, EC.list_len]; omega
theorem exCells_at (es : Nat → EC) (j r : Nat) (hr : r < 7) : ∀ n, j < n → (exCells es n)[j * 7 + r]? = (es j).list[r]?
  | n + 1, h => by
    rw [exCells_succ]
    by_cases e : j = n
    · subst e
      rw [List.getElem?_append_right (by rw [exCells_len]; omega), exCells_len]
      congr 1
      omega
    · rw [List.getElem?_append_left (by rw [exCells_len]; omega)]
      exact exCells_at es j r hr n (by omega)
theorem exCells_one (es : Nat → EC) (n : Nat) : ∀ u ∈ exCells es n, u.oneCell' = true := by
  intro u hu
  obtain ⟨i, _, hi⟩ := List.mem_flatMap.1 hu
  exact (es i).list_one u hi
/-- slices.Clone of a row of expressions. -/
theorem cloneX_new (p : Option Addr) (n c : Nat) (es : Nat → EC) (w : World) (hn : n ≤ 1000) (hp : p = none → n = 0 ∧ c = 0) (hel : ∀ j, j < n → ∃ g off, p = some ⟨g, off, none⟩ ∧ EcAt w g (off + j * 7) (es j)) :
    Calls Tryz.prog 92 #[.slice p n c] w fun r w' => (∃ q k, r = .returned (.slice q n k) ∧ n ≤ k ∧ k ≤ 9223372036854775807 ∧ (q = none → n = 0 ∧ k = 0) ∧ (0 < n → ∃ b, q = some ⟨b, 0, none⟩ ∧ w.heap.size ≤ b ∧ b < w'.heap.size ∧ RowX w' b n es)) ∧ Below w.heap.size w w' := by
  cases p with
  | none =>
    obtain ⟨rfl, rfl⟩ := hp rfl
    refine (cloneX_nil w).mono ?_
    rintro r w' ⟨rfl, rfl⟩
    exact ⟨⟨none, 0, rfl, by omega, by omega, fun _ => ⟨rfl, rfl⟩, fun h => by omega⟩, Below.refl _ _⟩
  | some ad =>
    refine (cloneX_some ad n c (exCells es n) w (exCells_len es n) ?_ (exCells_one es n) (by omega)).mono ?_
    · intro j u hj
      have hjl : j < n * 7 := by
        have := (List.getElem?_eq_some_iff.1 hj).1
        rwa [exCells_len] at this
      obtain ⟨g, off, e, hat⟩ := hel (j / 7) (by omega)
      simp at e
      subst e
      have hr := exCells_at es (j / 7) (j % 7) (by omega) n (by omega)
      rw [show j / 7 * 7 + j % 7 = j by omega, hj] at hr
      have := hat.range (j % 7) u hr.symm
      rw [Go.WideShapes.add_plain]
      rwa [show off + j / 7 * 7 + j % 7 = off + j by omega] at this
    · rintro r w' ⟨⟨v, rfl, ho⟩, hb⟩
      obtain ⟨q, k, rfl, h1, h2, h3⟩ := ownsRow_form ho
      refine ⟨⟨q, k, rfl, h1, by unfold maxLen at h2; omega, h3, fun hpos => ?_⟩, hb⟩
      cases q with
      | none => exact absurd (h3 rfl).1 (by omega)
      | some a =>
        obtain ⟨b, cur, rfl, hb1, hc⟩ := ownsRow_at ho
        refine ⟨b, rfl, hb1, lt_heap hc, fun j hj => EcAt.ofRange fun r v hv => ?_, soft_heap hc⟩
        have hr : r < 7 := (List.getElem?_eq_some_iff.1 hv).1
        exact ownsRow_cell ho _ _ ((exCells_at es j r hr n hj).trans hv)
end Go.Proofs.YtlfhpocfacaaeaaGreat
/-
  The program's copied, walked.
-/
set_option linter.unusedSimpArgs false
set_option linter.unusedVariables false
namespace Go.Proofs.YtlfhpocfacaaeaaGreat
open Go.RowKit

set_option maxHeartbeats 8000000 in
set_option maxRecDepth 100000 in
theorem copied_any : ∀ (n : Nat) (x : ExV) (c : EC) (w : World), ExAt n w c.val x → cpX n x →
    Calls Tryz.prog 94 #[c.val] w fun r w' => (∃ d : EC, r = .returned d.val ∧ ∀ w'', Kept w.heap.size w' w'' → ExAt n w'' d.val x) ∧ Below w.heap.size w w' := by
  intro n
  induction n with
  | zero => intro x c w h; cases h
  | succ n ih =>
    intro x c w hx hcp
    obtain ⟨c', hv, hc, hs⟩ := id hx
    obtain rfl := ec_inj hv
    have : Inhabited EC := ⟨ec0⟩
    obtain ⟨es, hes⟩ := Go.Deep.choose_lt (p := fun i d => (∃ g off, c.p = some ⟨g, off, none⟩ ∧ g < w.heap.size ∧ EcAt w g (off + i * 7) d) ∧ ExAt n w d.val (x.sub.getD i noX)) (fun i hi => by
      obtain ⟨g, off, d, hp, hg, hd, hy⟩ := hs i hi
      exact ⟨d, ⟨g, off, hp, hg, hd⟩, hy⟩)
    have HC := hide hc
    have HES := hide hes
    have HN := hide hc.n
    have HCP := hide hcp
    have IH := hide ih
    have T0 := hide (Pair.new w (exObj c) (exObj ec0))
    have nle : c.n ≤ 1000 := by rw [hc.n]; exact hcp.2.2.1
    clear hx hv hc hs hes hcp ih
    unfold exObj ec0 SC.zero at T0
    unfold EC.val
    go_enter Tryz.func94, Tryz.ntmps94
    go_wp2_with fail
    generalize (w.alloc (Obj.cells #[.int .i64 c.k, .int .i64 c.t, .bool c.s.a, .slice c.s.p c.s.n c.s.c, .bool c.s.d, .slice c.s.q c.s.m c.s.e, .slice c.p c.n c.c] 28)).alloc (Obj.cells #[.int .i64 0, .int .i64 0, .bool false, .slice none 0 0, .bool false, .slice none 0 0, .slice none 0 0] 28) = W0 at T0 ⊢
    refine (copiedSet_any c.s x.set W0 (HC.out.s.on T0.out.b) (by have := HCP.out.1; omega) (by have := HCP.out.2.1; omega)).mono ?_
    rintro r w1 ⟨⟨y, rfl, hY⟩, b1⟩
    have T1 := hide (T0.out.on b1)
    have HY := hide hY
    have K1 := hide T0.out.size
    have K0 := hide b1.size
    obtain ⟨c0, c1, c2, c3, c4, c5, c6⟩ := ecCells1 T1.out.e1
    have z2 := soft_heap T1.out.e1 2
    have z3 := soft_heap T1.out.e1 3
    have z4 := soft_heap T1.out.e1 4
    have z5 := soft_heap T1.out.e1 5
    have T2 : Hid (Pair w ((((w1.setCell ⟨w.heap.size, 2, none⟩ (.bool y.a)).setCell ⟨w.heap.size, 3, none⟩ (.slice y.p y.n y.c)).setCell ⟨w.heap.size, 4, none⟩ (.bool y.d)).setCell ⟨w.heap.size, 5, none⟩ (.slice y.q y.m y.e)) (.cells #[.int .i64 c.k, .int .i64 c.t, .bool y.a, .slice y.p y.n y.c, .bool y.d, .slice y.q y.m y.e, .slice c.p c.n c.c] 28 (0, 0)) (.cells #[.int .i64 0, .int .i64 0, .bool false, .slice none 0 0, .bool false, .slice none 0 0, .slice none 0 0] 28 (0, 0))) := hide ((((T1.out.put1 2 (.bool y.a)).put1 3 (.slice y.p y.n y.c)).put1 4 (.bool y.d)).put1 5 (.slice y.q y.m y.e))
    have K2 := hide ((((Kept.setCell w1 w.heap.size 2 (.bool y.a) (m := W0.heap.size) (by have := K1.out; omega)).trans (Kept.setCell _ w.heap.size 3 (.slice y.p y.n y.c) (by have := K1.out; omega))).trans (Kept.setCell _ w.heap.size 4 (.bool y.d) (by have := K1.out; omega))).trans (Kept.setCell _ w.heap.size 5 (.slice y.q y.m y.e) (by have := K1.out; omega)))
    have L2 := hide (show w1.heap.size = ((((w1.setCell ⟨w.heap.size, 2, none⟩ (.bool y.a)).setCell ⟨w.heap.size, 3, none⟩ (.slice y.p y.n y.c)).setCell ⟨w.heap.size, 4, none⟩ (.bool y.d)).setCell ⟨w.heap.size, 5, none⟩ (.slice y.q y.m y.e)).heap.size by simp)
    clear hY b1 T0
    unfold SC.val
    go_upto_region 2 with fail
    generalize (((w1.setCell ⟨w.heap.size, 2, none⟩ (.bool y.a)).setCell ⟨w.heap.size, 3, none⟩ (.slice y.p y.n y.c)).setCell ⟨w.heap.size, 4, none⟩ (.bool y.d)).setCell ⟨w.heap.size, 5, none⟩ (.slice y.q y.m y.e) = w2 at T2 K2 L2 ⊢
    clear c0 c1 c2 c3 c4 c5 c6 z2 z3 z4 z5 T1
    obtain ⟨c0, c1, c2, c3, c4, c5, c6⟩ := ecCells1 T2.out.e1
    go_wp2_with fail
    refine (cloneX_new c.p c.n c.c es w2 nle HC.out.none (fun j hj => ?_)).mono ?_
    · obtain ⟨⟨g, off, hp, hg, hd⟩, _⟩ := HES.out j (by rw [← HN.out]; exact hj)
      exact ⟨g, off, hp, hd.on hg T2.out.b⟩
    rintro r w3 ⟨⟨p, k, rfl, hk1, hk2, hk3, hrow⟩, b3⟩
    have T3 := hide (T2.out.on b3)
    have e1 : w3.heap[w.heap.size]? = some (.cells #[.int .i64 c.k, .int .i64 c.t, .bool y.a, .slice y.p y.n y.c, .bool y.d, .slice y.q y.m y.e, .slice c.p c.n c.c] 28 (0, 0)) := T3.out.e1
    clear c0 c1 c2 c3 c4 c5 c6
    obtain ⟨c0, c1, c2, c3, c4, c5, c6⟩ := ecCells1 e1
    have z6 := soft_heap e1 6
    have T4 : Hid (Pair w (w3.setCell ⟨w.heap.size, 6, none⟩ (.slice p c.n k)) (.cells #[.int .i64 c.k, .int .i64 c.t, .bool y.a, .slice y.p y.n y.c, .bool y.d, .slice y.q y.m y.e, .slice (p) c.n k] 28 (0, 0)) (.cells #[.int .i64 0, .int .i64 0, .bool false, .slice none 0 0, .bool false, .slice none 0 0, .slice none 0 0] 28 (0, 0))) := hide (T3.out.put1 6 (.slice p c.n k))
    have KW := hide ((K2.out.trans (Kept.ofBelow b3)).trans (Kept.setCell w3 w.heap.size 6 (.slice p c.n k) (m := W0.heap.size) (by have := K1.out; omega)))
    have HROW : Hid (0 < c.n → ∃ b, p = some ⟨b, 0, none⟩ ∧ w1.heap.size ≤ b ∧ b < (w3.setCell ⟨w.heap.size, 6, none⟩ (.slice p c.n k)).heap.size ∧ RowX (w3.setCell ⟨w.heap.size, 6, none⟩ (.slice p c.n k)) b c.n es) := hide (fun h => by
      obtain ⟨b, e, hb1, hb2, hb3⟩ := hrow h
      refine ⟨b, e, by rw [L2.out]; exact hb1, by simpa using hb2, hb3.ofBlock (Below.heap_setCell _ _ _ b (fun e => ?_))⟩
      have := T2.out.size
      dsimp only at e
      omega)
    have HK3 := hide hk3
    clear hrow b3 T2 T3 e1 hk3 L2 K2
    go_upto_region 3 with fail
    generalize w3.setCell ⟨w.heap.size, 6, none⟩ (.slice p c.n k) = w4 at T4 KW HROW ⊢
    clear c0 c1 c2 c3 c4 c5 c6 z6
    obtain ⟨c0, c1, c2, c3, c4, c5, c6⟩ := ecCells1 T4.out.e1
    rcases Nat.eq_zero_or_pos c.n with hz | hpos
    · have HZ := hide hz
      clear hz
      go_wp2
      go_loopw [16] (fun i wr => ∃ j : Nat, i = .int .i64 j ∧ wr = w4) (fun i _ => 0)
      case atStart => exact ⟨0, rfl, rfl⟩
      case round =>
        obtain ⟨j, rfl, rfl⟩ := hrel
        have hlt : ¬ j < c.n := by have := HZ.out; omega
        have hge : decide ((j : Int) < (c.n : Int)) = false := by simp; omega
        clear c0 c1 c2 c3 c4 c5 c6
        obtain ⟨c0, c1, c2, c3, c4, c5, c6⟩ := ecCells1 T4.out.e1
        obtain ⟨d0, d1, d2, d3, d4, d5, d6⟩ := ecCells1 T4.out.e2
        have z0 := soft_heap T4.out.e2 0
        have z1 := soft_heap T4.out.e2 1
        have z2 := soft_heap T4.out.e2 2
        have z3 := soft_heap T4.out.e2 3
        have z4 := soft_heap T4.out.e2 4
        have z5 := soft_heap T4.out.e2 5
        have z6 := soft_heap T4.out.e2 6
        have T5 : Hid (Pair w (((((((wr.setCell ⟨w.heap.size + 1, 0, none⟩ (.int .i64 c.k)).setCell ⟨w.heap.size + 1, 1, none⟩ (.int .i64 c.t)).setCell ⟨w.heap.size + 1, 2, none⟩ (.bool y.a)).setCell ⟨w.heap.size + 1, 3, none⟩ (.slice y.p y.n y.c)).setCell ⟨w.heap.size + 1, 4, none⟩ (.bool y.d)).setCell ⟨w.heap.size + 1, 5, none⟩ (.slice y.q y.m y.e)).setCell ⟨w.heap.size + 1, 6, none⟩ (.slice (p) c.n k)) (.cells #[.int .i64 c.k, .int .i64 c.t, .bool y.a, .slice y.p y.n y.c, .bool y.d, .slice y.q y.m y.e, .slice (p) c.n k] 28 (0, 0)) (.cells #[.int .i64 c.k, .int .i64 c.t, .bool y.a, .slice y.p y.n y.c, .bool y.d, .slice y.q y.m y.e, .slice (p) c.n k] 28 (0, 0))) := hide (((((((T4.out.put2 0 (.int .i64 c.k)).put2 1 (.int .i64 c.t)).put2 2 (.bool y.a)).put2 3 (.slice y.p y.n y.c)).put2 4 (.bool y.d)).put2 5 (.slice y.q y.m y.e)).put2 6 (.slice (p) c.n k))
        have K5 := hide (((((((Kept.setCell wr (w.heap.size + 1) 0 (.int .i64 c.k) (m := W0.heap.size) K1.out).trans (Kept.setCell _ (w.heap.size + 1) 1 (.int .i64 c.t) K1.out)).trans (Kept.setCell _ (w.heap.size + 1) 2 (.bool y.a) K1.out)).trans (Kept.setCell _ (w.heap.size + 1) 3 (.slice y.p y.n y.c) K1.out)).trans (Kept.setCell _ (w.heap.size + 1) 4 (.bool y.d) K1.out)).trans (Kept.setCell _ (w.heap.size + 1) 5 (.slice y.q y.m y.e) K1.out)).trans (Kept.setCell _ (w.heap.size + 1) 6 (.slice (p) c.n k) K1.out))
        go_wp2
        refine bodyPost_ret (results_cell_row rfl _ _ (w.heap.size + 1) 28 _ (0, 0) _ rfl T5.out.e2 Tryz.underlying28 rfl infoEx) rfl ⟨⟨⟨c.k, c.t, y, p, c.n, k⟩, rfl, fun w'' hk => ?_⟩, T5.out.b⟩
        have hk' := K5.out.trans (hk.mono (m' := W0.heap.size) (by have := K1.out; omega))
        refine ⟨⟨c.k, c.t, y, p, c.n, k⟩, rfl, ⟨HC.out.k, HC.out.t, HC.out.n, HC.out.k0, HC.out.k1, HC.out.t0, HC.out.t1, HY.out w'' (KW.out.trans hk'), hk1, hk2, HK3.out⟩, fun i hi => ?_⟩
        have := HZ.out
        have h2 := HN.out
        omega
    · obtain ⟨b, rfl, hb1, hb2, hb3⟩ := HROW.out hpos
      have HB1 := hide hb1
      have R4 : Hid (b < w4.heap.size ∧ RowX w4 b c.n es) := hide ⟨hb2, hb3⟩
      clear HROW hb1 hb2 hb3
      go_wp2
      go_loopw [16] (fun i wr => ∃ (j : Nat) (fs : Nat → EC), i = .int .i64 j ∧ j ≤ c.n ∧ Hid (Pair w wr (.cells #[.int .i64 c.k, .int .i64 c.t, .bool y.a, .slice y.p y.n y.c, .bool y.d, .slice y.q y.m y.e, .slice (some ⟨b, 0, none⟩) c.n k] 28 (0, 0)) (.cells #[.int .i64 0, .int .i64 0, .bool false, .slice none 0 0, .bool false, .slice none 0 0, .slice none 0 0] 28 (0, 0))) ∧ Hid (Kept W0.heap.size w1 wr) ∧ Hid (b < wr.heap.size ∧ RowX wr b c.n fs) ∧ Hid (∀ m, m < j → ∀ w'', Kept (b + 1) wr w'' → ExAt n w'' (fs m).val (x.sub.getD m noX)) ∧ Hid (∀ m, j ≤ m → m < c.n → fs m = es m)) (fun i _ => c.n - (intOf i).toNat)
      case atStart => exact ⟨0, es, rfl, by omega, T4, KW, R4, hide (fun m h => by omega), hide (fun _ _ _ => rfl)⟩
      case round =>
        clear c0 c1 c2 c3 c4 c5 c6 T4 KW R4
        obtain ⟨j, fs, rfl, hj, T4, KW, R4, HD, HO⟩ := hrel
        by_cases hlt : j < c.n
        · obtain ⟨d0, d1, d2, d3, d4, d5, d6⟩ := R4.out.2.els j hlt
          have HEX : Hid (ExAt n w (fs j).val (x.sub.getD j noX)) := hide (by
            rw [HO.out j (Nat.le_refl _) hlt]
            exact (HES.out j (by rw [← HN.out]; exact hlt)).2)
          have HCJ : Hid (cpX n (x.sub.getD j noX)) := hide (HCP.out.2.2.2 _ (getD_mem (by rw [← HN.out]; exact hlt)))
          obtain ⟨d, hd⟩ : ∃ d, d = fs j := ⟨_, rfl⟩
          rw [← hd] at d0 d1 d2 d3 d4 d5 d6 HEX
          clear hd
          have bA := (Below.refl _ wr).alloc (Nat.le_refl _) (exObj d)
          have TA := hide (T4.out.on bA)
          have XA := hide (show ExIn (wr.alloc (exObj d)) wr.heap.size d from heap_new wr _)
          have RA := hide (R4.out.2.ofBlock (bA.block b R4.out.1))
          have sA := hide (show (wr.alloc (exObj d)).heap.size = wr.heap.size + 1 by simp)
          have BA := hide bA
          clear bA
          unfold exObj at TA XA RA sA BA
          go_upto_region 6 with fail
          generalize wr.alloc (Obj.cells #[.int .i64 d.k, .int .i64 d.t, .bool d.s.a, .slice d.s.p d.s.n d.s.c, .bool d.s.d, .slice d.s.q d.s.m d.s.e, .slice d.p d.n d.c] 28) = wa at TA XA RA sA BA ⊢
          clear d0 d1 d2 d3 d4 d5 d6
          obtain ⟨c0, c1, c2, c3, c4, c5, c6⟩ := ecCells1 TA.out.e1
          refine wp_region_held_drew (S := fun w' => w'.cell? ⟨w.heap.size, 6, none⟩ = some (.slice (some ⟨b, 0, none⟩) c.n k) ∧ ExIn w' wr.heap.size d) (by kernel_rfl) ⟨c6, XA.out⟩ (fun hHeld => ?_)
          have BD := hide (show Below wa.heap.size wa wa.drew from (Below.refl _ wa).drew)
          generalize wa.drew = wd at BD hHeld ⊢
          refine wpAnyH_take (i := 0) (oi := ⟨_, _, _, _, _, _⟩) (v := .pointer (some ⟨w.heap.size, 6, none⟩)) rfl (by kernel_rfl) (by kernel_rfl) (by kernel_rfl) (fun _ _ _ h => h) (yl_exSub (by rfl) _ rfl _ rfl) (by assumption) ?_
          simp only [Act.put, List.setIfInBounds_toArray, List.set_cons_zero, List.set_cons_succ]
          refine wpAnyH_take (i := 1) (oi := ⟨_, _, _, _, _, _⟩) (v := .slice (some ⟨b, 0, none⟩) c.n k) rfl (by kernel_rfl) (by kernel_rfl) (by kernel_rfl) (fun _ _ _ h => h) (yl_exRow (by rfl) _ rfl _ 6 rfl _ _ _ (fun _ h => h.1)) (by assumption) ?_
          simp only [Act.put, List.setIfInBounds_toArray, List.set_cons_zero, List.set_cons_succ]
          refine wpAnyH_take (i := 2) (oi := ⟨_, _, _, _, _, _⟩) (v := .int .i64 j) rfl (by kernel_rfl) (by kernel_rfl) (by kernel_rfl) (fun _ _ _ h => h) (yl_move (by rfl) _ rfl _ rfl) (by assumption) ?_
          simp only [Act.put, List.setIfInBounds_toArray, List.set_cons_zero, List.set_cons_succ]
          refine wpAnyH_take (i := 3) (oi := ⟨_, _, _, _, _, _⟩) (v := d.val) rfl (by kernel_rfl) (by kernel_rfl) (by kernel_rfl) (fun _ _ _ h => h) (yl_ex (by rfl) _ rfl _ 0 rfl d (fun _ h => h.2.ec)) (by assumption) ?_
          simp only [Act.put, List.setIfInBounds_toArray, List.set_cons_zero, List.set_cons_succ]
          refine held_call (o := ⟨_, _, _, _, _, _⟩) 4 (by kernel_rfl) rfl (by rfl) 94 _ _ rfl #[d.val] rfl (run_call Tryz.func94 (by kernel_rfl) (by kernel_rfl)) ?_
          have TD := hide (TA.out.on BD.out)
          refine (IH.out (x.sub.getD j noX) d wd (ExAt.on TD.out.b _ HEX.out) HCJ.out).mono ?_
          rintro r w5 ⟨⟨d', rfl, hN⟩, b5⟩
          have s5 : wr.heap.size + 1 ≤ wd.heap.size := by have h1 := BD.out.size; have h2 := sA.out; omega
          refine ⟨d'.val, rfl, ⟨(b5.cell (p := ⟨w.heap.size, 6, none⟩) (by have := TD.out.size; dsimp only; omega)).trans hHeld.1, hHeld.2.on b5⟩, fun hHeld => ?_⟩
          simp only [Act.put, List.setIfInBounds_toArray, List.set_cons_zero, List.set_cons_succ]
          have T5 := hide (TD.out.on b5)
          have bw : b < wd.heap.size := by have h1 := R4.out.1; omega
          have R5 := RA.out.ofBlock (BD.out.block b (by have h1 := R4.out.1; have h2 := sA.out; omega))
          replace R5 := R5.ofBlock (b5.block b bw)
          refine wpAnyH_take (i := 5) (oi := ⟨_, _, _, _, _, _⟩) (v := .pointer (some ⟨b, j * 7, none⟩)) rfl (by kernel_rfl) (by kernel_rfl) (by kernel_rfl) (fun _ _ _ h => h) (yl_exAt (by rfl) _ _ rfl b c.n k j rfl rfl hlt) (by assumption) ?_
          simp only [Act.put, List.setIfInBounds_toArray, List.set_cons_zero, List.set_cons_succ]
          refine wpAnyH_all (rs := [6]) (by kernel_rfl) (by simp) ?_
          intro jj hj'
          have hj' := List.mem_singleton.1 hj'
          subst hj'
          refine op_storeEx (o := ⟨_, _, _, _, _, _⟩) rfl (by rfl) _ _ rfl b (j * 7) d' rfl rfl (R5.there j hlt) ?_
          have R6 := R5.put j hlt d'
          have h0 := HB1.out
          have hK0 := K0.out
          have hK1 := K1.out
          have b6 := Below.setCells (B := w.heap.size) (w0 := w) b (by omega) d'.list (j * 7) w5 T5.out.b
          have T6 : Hid (Pair w (w5.setCells b (j * 7) d'.list) _ _) := hide ⟨(World.heap_setCells_other w5 b (j * 7) d'.list (by have := T5.out.size; omega) (by omega)).trans T5.out.e1, (World.heap_setCells_other w5 b (j * 7) d'.list T5.out.size (by omega)).trans T5.out.e2, b6⟩
          have k5 : Kept W0.heap.size wr w5 := ((Kept.ofBelow BA.out).trans (Kept.ofBelow BD.out)).trans (Kept.ofBelow b5)
          have kb6 : Kept (b + 1) w5 (w5.setCells b (j * 7) d'.list) := Kept.setCells w5 (j * 7) d'.list (by omega)
          have KW6 : Hid (Kept W0.heap.size w1 (w5.setCells b (j * 7) d'.list)) := hide ⟨by rw [size_setCells]; exact Nat.le_trans KW.out.size k5.size, fun g hg hs => by
            rw [World.heap_setCells_other w5 b (j * 7) d'.list (Nat.lt_of_lt_of_le hs (Nat.le_trans KW.out.size k5.size)) (by omega), k5.block g hg (Nat.lt_of_lt_of_le hs KW.out.size)]
            exact KW.out.block g hg hs⟩
          have HD6 : Hid (∀ m, m < j + 1 → ∀ w'', Kept (b + 1) (w5.setCells b (j * 7) d'.list) w'' → ExAt n w'' ((fun i => if i = j then d' else fs i) m).val (x.sub.getD m noX)) := hide (fun m hm w'' hk => by
            have hk2 := kb6.trans hk
            by_cases e : m = j
            · subst e
              simp only [if_pos]
              exact hN w'' (hk2.mono (by have := R4.out.1; omega))
            · simp only [if_neg e]
              exact HD.out m (by omega) w'' ((k5.mono (by omega)).trans hk2))
          have HO6 : Hid (∀ m, j + 1 ≤ m → m < c.n → (fun i => if i = j then d' else fs i) m = es m) := hide (fun m hm hl => by
            dsimp only
            rw [if_neg (by omega)]
            exact HO.out m (by omega) hl)
          have s6 : b < (w5.setCells b (j * 7) d'.list).heap.size := by rw [size_setCells]; have := b5.size; omega
          have R7 := hide (And.intro s6 R6)
          have hS6 : (w5.setCells b (j * 7) d'.list).cell? ⟨w.heap.size, 6, none⟩ = some (.slice (some ⟨b, 0, none⟩) c.n k) ∧ ExIn (w5.setCells b (j * 7) d'.list) wr.heap.size d := ⟨(ecCells1 T6.out.e1).2.2.2.2.2.2, (World.heap_setCells_other w5 b (j * 7) d'.list (lt_heap hHeld.2) (by have h1 := R4.out.1; omega)).trans hHeld.2⟩
          refine ⟨hS6, ?_⟩
          simp only [Act.put, List.setIfInBounds_toArray, List.set_cons_zero, List.set_cons_succ]
          refine wpAnyH_done (by kernel_rfl) ?_ _
          clear hHeld hS6 R6 R5 b6 k5 kb6 s6 bw s5 h0 hK0 hK1 TD T5 b5 hN BD TA XA RA sA BA c0 c1 c2 c3 c4 c5 c6 HEX HCJ HD HO R4 KW T4
          generalize w5.setCells b (j * 7) d'.list = w6 at T6 KW6 HD6 R7 ⊢
          go_wp2
          exact ⟨⟨j + 1, _, by go_num, by omega, T6, KW6, R7, HD6, HO6⟩, by simp [intOf]; omega⟩
        · have hge : decide ((j : Int) < (c.n : Int)) = false := by simp; omega
          obtain ⟨c0, c1, c2, c3, c4, c5, c6⟩ := ecCells1 T4.out.e1
          obtain ⟨d0, d1, d2, d3, d4, d5, d6⟩ := ecCells1 T4.out.e2
          have z0 := soft_heap T4.out.e2 0
          have z1 := soft_heap T4.out.e2 1
          have z2 := soft_heap T4.out.e2 2
          have z3 := soft_heap T4.out.e2 3
          have z4 := soft_heap T4.out.e2 4
          have z5 := soft_heap T4.out.e2 5
          have z6 := soft_heap T4.out.e2 6
          have T5 : Hid (Pair w (((((((wr.setCell ⟨w.heap.size + 1, 0, none⟩ (.int .i64 c.k)).setCell ⟨w.heap.size + 1, 1, none⟩ (.int .i64 c.t)).setCell ⟨w.heap.size + 1, 2, none⟩ (.bool y.a)).setCell ⟨w.heap.size + 1, 3, none⟩ (.slice y.p y.n y.c)).setCell ⟨w.heap.size + 1, 4, none⟩ (.bool y.d)).setCell ⟨w.heap.size + 1, 5, none⟩ (.slice y.q y.m y.e)).setCell ⟨w.heap.size + 1, 6, none⟩ (.slice (some ⟨b, 0, none⟩) c.n k)) (.cells #[.int .i64 c.k, .int .i64 c.t, .bool y.a, .slice y.p y.n y.c, .bool y.d, .slice y.q y.m y.e, .slice (some ⟨b, 0, none⟩) c.n k] 28 (0, 0)) (.cells #[.int .i64 c.k, .int .i64 c.t, .bool y.a, .slice y.p y.n y.c, .bool y.d, .slice y.q y.m y.e, .slice (some ⟨b, 0, none⟩) c.n k] 28 (0, 0))) := hide (((((((T4.out.put2 0 (.int .i64 c.k)).put2 1 (.int .i64 c.t)).put2 2 (.bool y.a)).put2 3 (.slice y.p y.n y.c)).put2 4 (.bool y.d)).put2 5 (.slice y.q y.m y.e)).put2 6 (.slice (some ⟨b, 0, none⟩) c.n k))
          have K5 := hide (((((((Kept.setCell wr (w.heap.size + 1) 0 (.int .i64 c.k) (m := W0.heap.size) K1.out).trans (Kept.setCell _ (w.heap.size + 1) 1 (.int .i64 c.t) K1.out)).trans (Kept.setCell _ (w.heap.size + 1) 2 (.bool y.a) K1.out)).trans (Kept.setCell _ (w.heap.size + 1) 3 (.slice y.p y.n y.c) K1.out)).trans (Kept.setCell _ (w.heap.size + 1) 4 (.bool y.d) K1.out)).trans (Kept.setCell _ (w.heap.size + 1) 5 (.slice y.q y.m y.e) K1.out)).trans (Kept.setCell _ (w.heap.size + 1) 6 (.slice (some ⟨b, 0, none⟩) c.n k) K1.out))
          go_wp2
          refine bodyPost_ret (results_cell_row rfl _ _ (w.heap.size + 1) 28 _ (0, 0) _ rfl T5.out.e2 Tryz.underlying28 rfl infoEx) rfl ⟨⟨⟨c.k, c.t, y, some ⟨b, 0, none⟩, c.n, k⟩, rfl, fun w'' hk => ?_⟩, T5.out.b⟩
          have hk' := K5.out.trans (hk.mono (m' := W0.heap.size) (by have := K1.out; omega))
          refine ⟨⟨c.k, c.t, y, some ⟨b, 0, none⟩, c.n, k⟩, rfl, ⟨HC.out.k, HC.out.t, HC.out.n, HC.out.k0, HC.out.k1, HC.out.t0, HC.out.t1, HY.out w'' (KW.out.trans hk'), hk1, hk2, HK3.out⟩, fun i hi => ?_⟩
          have hi' : i < c.n := by rw [HN.out]; exact hi
          have kb : b < w''.heap.size := by have h1 := hk'.size; have h2 := R4.out.1; omega
          have blk : w''.heap[b]? = wr.heap[b]? := hk'.block b (by have h1 := HB1.out; have h2 := K0.out; omega) R4.out.1
          refine ⟨b, 0, fs i, rfl, kb, ?_, HD.out i (by omega) w'' (hk'.mono (by have h1 := HB1.out; have h2 := K0.out; omega))⟩
          rw [Nat.zero_add]
          exact (R4.out.2.els i hi').ofBlock blk
end Go.Proofs.YtlfhpocfacaaeaaGreat
/-
  The program's roomLeft and copiedList.
-/
set_option linter.unusedSimpArgs false
set_option linter.unusedVariables false
namespace Go.Proofs.YtlfhpocfacaaeaaGreat
open Go.RowKit

/-- The value is a row of just these expressions. -/
def RowsX (n : Nat) (w : World) (v : Value) (l : List ExV) : Prop :=
  ∃ (p : Option Addr) (k : Nat), v = .slice p l.length k ∧ l.length ≤ k ∧ k ≤ 9223372036854775807 ∧ (p = none → l.length = 0 ∧ k = 0) ∧
    ∀ i, i < l.length → ∃ (g off : Nat) (d : EC), p = some ⟨g, off, none⟩ ∧ g < w.heap.size ∧ EcAt w g (off + i * 7) d ∧ ExAt n w d.val (l.getD i noX)
theorem RowsX.on {n : Nat} {w w' : World} {v : Value} {l : List ExV} (h : RowsX n w v l) (hb : Below w.heap.size w w') : RowsX n w' v l := by
  obtain ⟨p, k, e, h1, h2, h3, h4⟩ := h
  refine ⟨p, k, e, h1, h2, h3, fun i hi => ?_⟩
  obtain ⟨g, off, d, hp, hg, hd, hx⟩ := h4 i hi
  exact ⟨g, off, d, hp, Nat.lt_of_lt_of_le hg hb.size, hd.on hg hb, ExAt.on hb n hx⟩
theorem RowsX.nil (n : Nat) (w : World) : RowsX n w (.slice none 0 0) [] := ⟨none, 0, rfl, by simp, by omega, fun _ => ⟨rfl, rfl⟩, fun i h => by simp at h⟩

set_option maxHeartbeats 4000000 in
set_option maxRecDepth 100000 in
theorem roomLeft_any : ∀ (n : Nat) (x : ExV) (c : EC) (w : World) (z : Int), ExAt n w c.val x → cpX n x → 0 ≤ z → z ≤ 1024 →
    Calls Tryz.prog 93 #[.int .i64 z, .slice c.p c.n c.c] w fun r w' => (∃ y : Int, r = .returned (.int .i64 y) ∧ -1000 ≤ y ∧ y ≤ 1024) ∧ Below w.heap.size w w' := by
  intro n
  induction n with
  | zero => intro x c w z h; cases h
  | succ n ih =>
    intro x c w z hx hcp z0 z1
    obtain ⟨c', hv, hc, hs⟩ := id hx
    obtain rfl := ec_inj hv
    have HX := hide hx
    have HI := hide ih
    have HN := hide hc.n
    have HCP := hide hcp
    have nle : c.n ≤ 1000 := by rw [hc.n]; exact hcp.2.2.1
    clear hx hv hc hs hcp ih
    go_enter Tryz.func93, Tryz.ntmps93
    go_wp2
    go_loopw [0, 12] (fun a i wr => ∃ (k : Nat) (y : Int), a = .int .i64 y ∧ i = .int .i64 k ∧ k ≤ c.n ∧ -1000 ≤ y ∧ y ≤ 1024 ∧ Hid (Below w.heap.size w wr)) (fun _ i _ => c.n - (intOf i).toNat)
    case atStart => exact ⟨0, z - c.n, rfl, rfl, by omega, by omega, by omega, hide (Below.refl _ _)⟩
    case round =>
      obtain ⟨k, y, rfl, rfl, hk, y0, y1, HB⟩ := hrel
      by_cases hlt : k < c.n
      · by_cases hy : y < 0
        · have dy : decide (y < 0) = true := decide_eq_true hy
          go_wp2
          go_ret
          exact ⟨⟨y, rfl, y0, y1⟩, HB.out⟩
        · have dy : decide (y < 0) = false := decide_eq_false hy
          have hk' : k < x.sub.length := by rw [← HN.out]; exact hlt
          obtain ⟨g, off, d, hp, hg, hd, hyy⟩ := (ExAt.on HB.out _ HX.out).part k hk'
          have X := hide (HI.out _ d wr y hyy (HCP.out.2.2.2 _ (getD_mem hk')) (by omega) y1)
          have d6 := hd.c6
          clear hyy HX HI hd
          rw [hp]
          go_wp2_with fail
          refine (unhide X).mono ?_
          rintro r w2 ⟨⟨y', rfl, q0, q1⟩, b2⟩
          have HB2 := hide (HB.out.trans (b2.mono HB.out.size))
          clear X b2 HB d6
          go_wp2
          exact ⟨⟨k + 1, y', rfl, by go_num, by omega, q0, q1, HB2⟩, by simp [intOf]; omega⟩
      · have hge : decide ((k : Int) < (c.n : Int)) = false := by simp; omega
        go_wp2
        go_ret
        exact ⟨⟨y, rfl, y0, y1⟩, HB.out⟩

/-- A row whose cells lie in the second world, and what they are is told in the first one. -/
def RowsY (n : Nat) (w0 w : World) (v : Value) (l : List ExV) : Prop :=
  ∃ (p : Option Addr) (k : Nat), v = .slice p l.length k ∧ (p = none → l.length = 0 ∧ k = 0) ∧
    ∀ i, i < l.length → ∃ (g off : Nat) (d : EC), p = some ⟨g, off, none⟩ ∧ EcAt w g (off + i * 7) d ∧ ExAt n w0 d.val (l.getD i noX)
theorem RowsX.y {n : Nat} {w w' : World} {v : Value} {l : List ExV} (h : RowsX n w v l) (hb : Below w.heap.size w w') : RowsY n w w' v l := by
  obtain ⟨p, k, e, h1, h2, h3, h4⟩ := h
  refine ⟨p, k, e, h3, fun i hi => ?_⟩
  obtain ⟨g, off, d, hp, hg, hd, hx⟩ := h4 i hi
  exact ⟨g, off, d, hp, hd.on hg hb, hx⟩
theorem RowsY.grow {n : Nat} {w0 w w' : World} {v : Value} {l : List ExV} (h : RowsY n w0 w v l) (hb : Below w.heap.size w w') : RowsY n w0 w' v l := by
  obtain ⟨p, k, e, h3, h4⟩ := h
  refine ⟨p, k, e, h3, fun i hi => ?_⟩
  obtain ⟨g, off, d, hp, hd, hx⟩ := h4 i hi
  exact ⟨g, off, d, hp, hd.on (lt_cell (a := ⟨g, _, none⟩) hd.c0) hb, hx⟩

set_option maxHeartbeats 8000000 in
set_option maxRecDepth 100000 in
theorem copiedList_any (n : Nat) (v : Value) (l : List ExV) (w0 w : World) (hv : RowsY n w0 w v l) (hb0 : Below w0.heap.size w0 w) (hl : l.length ≤ 1000) (hcp : ∀ y ∈ l, cpX n y) :
    Calls Tryz.prog 56 #[v] w fun r w' => (∃ u, r = .returned u ∧ ∀ w'', Kept w.heap.size w' w'' → Below w0.heap.size w0 w'' → RowsX n w'' u l) ∧ Below w.heap.size w w' := by
  have HB0 : Hid (∀ W, Below w.heap.size w W → Below w0.heap.size w0 W) := hide (fun W h => hb0.trans (h.mono hb0.size))
  obtain ⟨p, cc, rfl, h3, h4⟩ := hv
  have : Inhabited EC := ⟨ec0⟩
  obtain ⟨es, hes⟩ := Go.Deep.choose_lt (p := fun i d => (∃ g off, p = some ⟨g, off, none⟩ ∧ EcAt w g (off + i * 7) d) ∧ ExAt n w0 d.val (l.getD i noX)) (fun i hi => by
    obtain ⟨g, off, d, hp, hd, hy⟩ := h4 i hi
    exact ⟨d, ⟨g, off, hp, hd⟩, hy⟩)
  have HES := hide hes
  have HCP := hide hcp
  obtain ⟨N, hN⟩ : ∃ N, N = l.length := ⟨_, rfl⟩
  have X := hide (cloneX_new p N cc es w (by omega) (by rw [hN]; exact h3) (fun j hj => by
    obtain ⟨⟨g, off, hp, hd⟩, _⟩ := hes j (by omega)
    exact ⟨g, off, hp, hd⟩))
  rw [← hN] at hl ⊢
  have HN := hide hN
  clear h3 h4 hes hcp hN hb0
  go_enter Tryz.func56, Tryz.ntmps56
  go_wp2_with fail
  refine (unhide X).mono ?_
  rintro r w3 ⟨⟨q, k, rfl, hk1, hk2, hk3, hrow⟩, b3⟩
  have B3 := hide b3
  have HK3 := hide hk3
  have HROW := hide hrow
  clear X b3 hk3 hrow
  rcases Nat.eq_zero_or_pos N with hz | hpos
  · have HZ := hide hz
    clear hz HROW
    go_wp2
    go_loopw [10] (fun i wr => ∃ j : Nat, i = .int .i64 j ∧ wr = w3) (fun i _ => 0)
    case atStart => exact ⟨0, rfl, rfl⟩
    case round =>
      obtain ⟨j, rfl, rfl⟩ := hrel
      have hlt : ¬ j < N := by have := HZ.out; omega
      have hge : decide ((j : Int) < (N : Int)) = false := by simp; omega
      go_wp2
      go_ret
      refine ⟨⟨.slice q N k, rfl, fun w'' hkk hBB => ⟨q, k, by rw [← HN.out], by rw [← HN.out]; exact hk1, hk2, by rw [← HN.out]; exact HK3.out, fun i hi => ?_⟩⟩, B3.out⟩
      have h1 := HZ.out
      have h2 := HN.out
      omega
  · obtain ⟨b, rfl, hb1, hb2, hb3⟩ := HROW.out hpos
    have HB1 := hide hb1
    have R3 : Hid (b < w3.heap.size ∧ RowX w3 b N es) := hide ⟨hb2, hb3⟩
    clear HROW hb1 hb2 hb3
    go_wp2
    go_loopw [10] (fun i wr => ∃ (j : Nat) (fs : Nat → EC), i = .int .i64 j ∧ j ≤ N ∧ Hid (Below w.heap.size w wr) ∧ Hid (b < wr.heap.size ∧ RowX wr b N fs) ∧ Hid (∀ m, m < j → ∀ w'', Kept (b + 1) wr w'' → Below w0.heap.size w0 w'' → ExAt n w'' (fs m).val (l.getD m noX)) ∧ Hid (∀ m, j ≤ m → m < N → fs m = es m)) (fun i _ => N - (intOf i).toNat)
    case atStart => exact ⟨0, es, rfl, by omega, B3, R3, hide (fun m h => by omega), hide (fun _ _ _ => rfl)⟩
    case round =>
      clear B3 R3
      obtain ⟨j, fs, rfl, hj, B4, R4, HD, HO⟩ := hrel
      by_cases hlt : j < N
      · obtain ⟨d0, d1, d2, d3, d4, d5, d6⟩ := R4.out.2.els j hlt
        have HEX : Hid (ExAt n w0 (fs j).val (l.getD j noX)) := hide (by
          rw [HO.out j (Nat.le_refl _) hlt]
          exact (HES.out j (by rw [← HN.out]; exact hlt)).2)
        have HCJ : Hid (cpX n (l.getD j noX)) := hide (HCP.out _ (getD_mem (by rw [← HN.out]; exact hlt)))
        obtain ⟨d, hd⟩ : ∃ d, d = fs j := ⟨_, rfl⟩
        rw [← hd] at d0 d1 d2 d3 d4 d5 d6 HEX
        have HDD := hide hd
        clear hd
        have bA := (Below.refl _ wr).alloc (Nat.le_refl _) (exObj d)
        have DA := hide (B4.out.trans (bA.mono B4.out.size))
        have XA := hide (show ExIn (wr.alloc (exObj d)) wr.heap.size d from heap_new wr _)
        have RA := hide (R4.out.2.ofBlock (bA.block b R4.out.1))
        have sA := hide (show (wr.alloc (exObj d)).heap.size = wr.heap.size + 1 by simp)
        have BA := hide bA
        clear bA
        unfold exObj at DA XA RA sA BA
        go_upto_region 5 with fail
        generalize wr.alloc (Obj.cells #[.int .i64 d.k, .int .i64 d.t, .bool d.s.a, .slice d.s.p d.s.n d.s.c, .bool d.s.d, .slice d.s.q d.s.m d.s.e, .slice d.p d.n d.c] 28) = wa at DA XA RA sA BA ⊢
        clear d0 d1 d2 d3 d4 d5 d6
        obtain ⟨c0, c1, c2, c3, c4, c5, c6⟩ := ecCells1 XA.out
        go_wp2_with fail
        refine (roomLeft_any n (l.getD j noX) d wa 1024 (ExAt.on (HB0.out _ DA.out) _ HEX.out) HCJ.out (by omega) (by omega)).mono ?_
        rintro r wd ⟨⟨y, rfl, y0, y1⟩, bD⟩
        have BD := hide bD
        have TD := hide (DA.out.trans (bD.mono DA.out.size))
        have XD := hide (XA.out.on bD)
        have sD : wr.heap.size + 1 ≤ wd.heap.size := by have h1 := bD.size; have h2 := sA.out; omega
        have RD := hide (RA.out.ofBlock (bD.block b (by have h1 := R4.out.1; have h2 := sA.out; omega)))
        have kd : Hid (Kept (b + 1) wr wd) := hide ((Kept.ofBelow BA.out).trans (Kept.ofBelow bD))
        clear bD c0 c1 c2 c3 c4 c5 c6 DA RA BA BD
        by_cases hy : 0 ≤ y
        · have dy : decide (0 ≤ y) = true := decide_eq_true hy
          go_upto_region 6 with fail
          refine wp_region_lit ?_
          refine wl_yield (o := ⟨_, _, _, _, _, _⟩) (.slice (some ⟨b, 0, none⟩) N k) (yl_move (by rfl) _ rfl _ rfl) ?_
          simp only [Act.put, List.setIfInBounds_toArray, List.set_cons_zero, List.set_cons_succ]
          refine wl_yield (o := ⟨_, _, _, _, _, _⟩) (.int .i64 j) (yl_move (by rfl) _ rfl _ rfl) ?_
          simp only [Act.put, List.setIfInBounds_toArray, List.set_cons_zero, List.set_cons_succ]
          refine wl_yield (o := ⟨_, _, _, _, _, _⟩) d.val (yl_ex (by rfl) _ rfl _ 0 rfl d (fun _ h => by subst h; exact XD.out.ec)) ?_
          simp only [Act.put, List.setIfInBounds_toArray, List.set_cons_zero, List.set_cons_succ]
          refine wl_call (o := ⟨_, _, _, _, _, _⟩) (by rfl) 94 _ _ rfl #[d.val] rfl (run_call Tryz.func94 (by kernel_rfl) (by kernel_rfl)) ?_
          refine (copied_any n (l.getD j noX) d wd (ExAt.on (HB0.out _ TD.out) _ HEX.out) HCJ.out).mono ?_
          rintro r w5 ⟨⟨d', rfl, hN⟩, b5⟩
          refine ⟨d'.val, rfl, ?_⟩
          simp only [Act.put, List.setIfInBounds_toArray, List.set_cons_zero, List.set_cons_succ]
          refine wl_yield (o := ⟨_, _, _, _, _, _⟩) (.pointer (some ⟨b, j * 7, none⟩)) (yl_exAt (by rfl) _ _ rfl b N k j rfl rfl hlt) ?_
          simp only [Act.put, List.setIfInBounds_toArray, List.set_cons_zero, List.set_cons_succ]
          have T5 := hide (TD.out.trans (b5.mono TD.out.size))
          have bw : b < wd.heap.size := by have h1 := R4.out.1; omega
          have R5 := RD.out.ofBlock (b5.block b bw)
          refine wpList_store_mid (op := ⟨_, _, _, _, _, _⟩) rfl 28 _ _ rfl b (j * 7) d'.list.toArray rfl rfl (R5.there j hlt) (by rw [infoEx]; rfl) (all_oneCell_toArray d'.list_one) ?_
          simp only [Act.put, List.setIfInBounds_toArray, List.set_cons_zero, List.set_cons_succ]
          refine wpList_nil ?_
          have R6 := R5.put j hlt d'
          have h0 := HB1.out
          have T6 := hide (Below.setCells (B := w.heap.size) (w0 := w) b h0 d'.list (j * 7) w5 T5.out)
          have kb6 : Kept (b + 1) w5 (w5.setCells b (j * 7) d'.list) := Kept.setCells w5 (j * 7) d'.list (by omega)
          have k5 : Kept (b + 1) wr w5 := kd.out.trans (Kept.ofBelow b5)
          have HD6 : Hid (∀ m, m < j + 1 → ∀ w'', Kept (b + 1) (w5.setCells b (j * 7) d'.list) w'' → Below w0.heap.size w0 w'' → ExAt n w'' ((fun i => if i = j then d' else fs i) m).val (l.getD m noX)) := hide (fun m hm w'' hk hB => by
            have hk2 := kb6.trans hk
            by_cases e : m = j
            · subst e
              simp only [if_pos]
              exact hN w'' (hk2.mono (by have := R4.out.1; omega))
            · simp only [if_neg e]
              exact HD.out m (by omega) w'' (k5.trans hk2) hB)
          have HO6 : Hid (∀ m, j + 1 ≤ m → m < N → (fun i => if i = j then d' else fs i) m = es m) := hide (fun m hm hl => by
            dsimp only
            rw [if_neg (by omega)]
            exact HO.out m (by omega) hl)
          have s6 : b < (w5.setCells b (j * 7) d'.list).heap.size := by rw [size_setCells]; have := b5.size; omega
          have R7 := hide (And.intro s6 R6)
          clear R6 R5 k5 kb6 s6 bw sD h0 TD T5 b5 hN RD kd XA XD sA HEX HCJ HD HO R4 B4 HDD
          generalize w5.setCells b (j * 7) d'.list = w6 at T6 HD6 R7 ⊢
          go_wp2
          exact ⟨⟨j + 1, _, by go_num, by omega, T6, R7, HD6, HO6⟩, by simp [intOf]; omega⟩
        · have dy : decide (0 ≤ y) = false := decide_eq_false hy
          have HD6 : Hid (∀ m, m < j + 1 → ∀ w'', Kept (b + 1) wd w'' → Below w0.heap.size w0 w'' → ExAt n w'' (fs m).val (l.getD m noX)) := hide (fun m hm w'' hk hB => by
            by_cases e : m = j
            · subst e
              rw [← HDD.out]
              exact ExAt.on hB _ HEX.out
            · exact HD.out m (by omega) w'' (kd.out.trans hk) hB)
          have HO6 : Hid (∀ m, j + 1 ≤ m → m < N → fs m = es m) := hide (fun m hm hl => HO.out m (by omega) hl)
          have R7 : Hid (b < wd.heap.size ∧ RowX wd b N fs) := hide ⟨by have h1 := R4.out.1; omega, RD.out⟩
          clear RD kd XA XD sA HEX HCJ HD HO R4 B4 HDD sD
          go_wp2
          exact ⟨⟨j + 1, fs, by go_num, by omega, TD, R7, HD6, HO6⟩, by simp [intOf]; omega⟩
      · have hge : decide ((j : Int) < (N : Int)) = false := by simp; omega
        go_wp2
        go_ret
        refine ⟨⟨.slice (some ⟨b, 0, none⟩) N k, rfl, fun w'' hkk hBB => ⟨some ⟨b, 0, none⟩, k, by rw [← HN.out], by rw [← HN.out]; exact hk1, hk2, by rw [← HN.out]; exact HK3.out, fun i hi => ?_⟩⟩, B4.out⟩
        have hi' : i < N := by rw [HN.out]; exact hi
        refine ⟨b, 0, fs i, rfl, Nat.lt_of_lt_of_le R4.out.1 hkk.size, ?_, HD.out i (by omega) w'' (hkk.mono (by have := HB1.out; omega)) hBB⟩
        rw [Nat.zero_add]
        exact (R4.out.2.els i hi').ofBlock (hkk.block b HB1.out R4.out.1)
end Go.Proofs.YtlfhpocfacaaeaaGreat
/-
  The program's Atom, And, Or, Not.
-/
set_option linter.unusedSimpArgs false
set_option linter.unusedVariables false
namespace Go.Proofs.YtlfhpocfacaaeaaGreat
open Go.RowKit

theorem heap_put {w : World} {g : Nat} {cs : Array Value} {t : TypeId} (h : w.heap[g]? = some (.cells cs t (0, 0))) (i : Nat) (v : Value) : (w.setCell ⟨g, i, none⟩ v).heap[g]? = some (.cells (cs.setIfInBounds i v) t (0, 0)) := heap_setCell (i := i) v h
theorem rows_ex {n : Nat} {w : World} {v : Value} {l : List ExV} (kind : Int) (k0 : -9223372036854775808 ≤ kind) (k1 : kind ≤ 9223372036854775807) (h : RowsX n w v l) : ∃ p c, v = .slice p l.length c ∧ ExAt (n + 1) w (EC.val ⟨kind, 0, SC.zero, p, l.length, c⟩) ⟨kind, 0, noSet, l⟩ := by
  obtain ⟨p, c, e, h1, h2, h3, h4⟩ := h
  exact ⟨p, c, e, ⟨kind, 0, SC.zero, p, l.length, c⟩, rfl, ⟨rfl, rfl, rfl, k0, k1, by simp, by simp, noSet_at w, h1, h2, h3⟩, h4⟩
set_option maxHeartbeats 4000000 in
set_option maxRecDepth 100000 in
theorem progAnd_new (n : Nat) (v : Value) (l : List ExV) (w0 w : World) (hv : RowsY n w0 w v l) (hb0 : Below w0.heap.size w0 w) (hl : l.length ≤ 1000) (hcp : ∀ y ∈ l, cpX n y) :
    Calls Tryz.prog 27 #[v] w fun r w' => (∃ d : EC, r = .returned d.val ∧ ∀ w'', Kept w.heap.size w' w'' → Below w0.heap.size w0 w'' → ExAt (n + 1) w'' d.val (andX l)) ∧ Below w.heap.size w w' := by
  have HB0 : Hid (∀ W, Below w.heap.size w W → Below w0.heap.size w0 W) := hide (fun W h => hb0.trans (h.mono hb0.size))
  have b0 := (Below.refl _ w).alloc (Nat.le_refl _) (Obj.cells #[.int .i64 0, .int .i64 0, .bool false, .slice none 0 0, .bool false, .slice none 0 0, .slice none 0 0] 28)
  have X := hide (copiedList_any n v l w0 (w.alloc (Obj.cells #[.int .i64 0, .int .i64 0, .bool false, .slice none 0 0, .bool false, .slice none 0 0, .slice none 0 0] 28)) (hv.grow b0) (HB0.out _ b0) hl hcp)
  have E0 := hide (heap_new w (Obj.cells #[.int .i64 0, .int .i64 0, .bool false, .slice none 0 0, .bool false, .slice none 0 0, .slice none 0 0] 28))
  have S0 := hide (show (w.alloc (Obj.cells #[.int .i64 0, .int .i64 0, .bool false, .slice none 0 0, .bool false, .slice none 0 0, .slice none 0 0] 28)).heap.size = w.heap.size + 1 by simp)
  have B0 := hide b0
  obtain ⟨p, cc, rfl, _⟩ := hv
  clear b0 hl hcp hb0
  go_enter Tryz.func27, Tryz.ntmps27
  go_wp2_with fail
  generalize w.alloc (Obj.cells #[.int .i64 0, .int .i64 0, .bool false, .slice none 0 0, .bool false, .slice none 0 0, .slice none 0 0] 28) = W0 at X E0 S0 B0 ⊢
  refine (unhide X).mono ?_
  rintro r w1 ⟨⟨u, rfl, hR⟩, b1⟩
  have D1 := hide (B0.out.trans (b1.mono B0.out.size))
  have E1 := hide ((b1.block _ (by have := S0.out; omega)).trans E0.out)
  have LT : Hid (w.heap.size < W0.heap.size) := hide (by have := S0.out; omega)
  have GE : Hid (w.heap.size ≤ w.heap.size) := hide (Nat.le_refl _)
  clear X b1 E0 S0 B0
  obtain ⟨q, kk, len, rfl, hlen⟩ : ∃ q kk len, u = .slice q len kk ∧ len = l.length := by
    obtain ⟨q, kk, e, _⟩ := hR w1 (Kept.refl _ _) (HB0.out _ D1.out)
    exact ⟨q, kk, _, e, rfl⟩
  have HR := hide hR
  have HLEN := hide hlen
  clear hR hlen
  obtain ⟨d0, d1, d2, d3, d4, d5, d6⟩ := ecCells1 E1.out
  have z0 := soft_heap E1.out 0
  have z1 := soft_heap E1.out 1
  have z2 := soft_heap E1.out 2
  have z3 := soft_heap E1.out 3
  have z4 := soft_heap E1.out 4
  have z5 := soft_heap E1.out 5
  have z6 := soft_heap E1.out 6
  have E2 : Hid ((((((((w1.setCell ⟨w.heap.size, 0, none⟩ (.int .i64 2)).setCell ⟨w.heap.size, 1, none⟩ (.int .i64 0)).setCell ⟨w.heap.size, 2, none⟩ (.bool false)).setCell ⟨w.heap.size, 3, none⟩ (.slice none 0 0)).setCell ⟨w.heap.size, 4, none⟩ (.bool false)).setCell ⟨w.heap.size, 5, none⟩ (.slice none 0 0)).setCell ⟨w.heap.size, 6, none⟩ (.slice q len kk)).heap[w.heap.size]? = some (.cells #[.int .i64 2, .int .i64 0, .bool false, .slice none 0 0, .bool false, .slice none 0 0, .slice q len kk] 28 (0, 0))) := hide (heap_put (heap_put (heap_put (heap_put (heap_put (heap_put (heap_put E1.out 0 (.int .i64 2)) 1 (.int .i64 0)) 2 (.bool false)) 3 (.slice none 0 0)) 4 (.bool false)) 5 (.slice none 0 0)) 6 (.slice q len kk))
  have K2 := hide (((((((Kept.setCell w1 (w.heap.size) 0 (.int .i64 2) (m := W0.heap.size) LT.out).trans (Kept.setCell _ (w.heap.size) 1 (.int .i64 0) LT.out)).trans (Kept.setCell _ (w.heap.size) 2 (.bool false) LT.out)).trans (Kept.setCell _ (w.heap.size) 3 (.slice none 0 0) LT.out)).trans (Kept.setCell _ (w.heap.size) 4 (.bool false) LT.out)).trans (Kept.setCell _ (w.heap.size) 5 (.slice none 0 0) LT.out)).trans (Kept.setCell _ (w.heap.size) 6 (.slice q len kk) LT.out))
  have D2 := hide (((((((D1.out.setCell (p := ⟨w.heap.size, 0, none⟩) GE.out (.int .i64 2)).setCell (p := ⟨w.heap.size, 1, none⟩) GE.out (.int .i64 0)).setCell (p := ⟨w.heap.size, 2, none⟩) GE.out (.bool false)).setCell (p := ⟨w.heap.size, 3, none⟩) GE.out (.slice none 0 0)).setCell (p := ⟨w.heap.size, 4, none⟩) GE.out (.bool false)).setCell (p := ⟨w.heap.size, 5, none⟩) GE.out (.slice none 0 0)).setCell (p := ⟨w.heap.size, 6, none⟩) GE.out (.slice q len kk))
  clear D1 E1
  go_wp2
  refine bodyPost_ret (results_cell_row rfl _ _ (w.heap.size) 28 _ (0, 0) _ rfl E2.out Tryz.underlying28 rfl infoEx) rfl ⟨⟨⟨2, 0, SC.zero, q, len, kk⟩, rfl, fun w'' hk hB => ?_⟩, D2.out⟩
  obtain ⟨q', c', e', hX⟩ := rows_ex 2 (by omega) (by omega) (HR.out w'' (K2.out.trans (hk.mono (by have := LT.out; omega))) hB)
  injection e' with e1 e2 e3
  subst e1 e3
  rw [← HLEN.out] at hX
  exact hX
theorem progAnd_any (n : Nat) (v : Value) (l : List ExV) (w : World) (hv : RowsX n w v l) (hl : l.length ≤ 1000) (hcp : ∀ y ∈ l, cpX n y) :
    Calls Tryz.prog 27 #[v] w fun r w' => (∃ d : EC, r = .returned d.val ∧ ExAt (n + 1) w' d.val (andX l)) ∧ Below w.heap.size w w' := by
  refine (progAnd_new n v l w w (hv.y (Below.refl _ _)) (Below.refl _ _) hl hcp).mono ?_
  rintro r w' ⟨⟨d, rfl, h⟩, hb⟩
  exact ⟨⟨d, rfl, h w' (Kept.refl _ _) hb⟩, hb⟩
set_option maxHeartbeats 4000000 in
set_option maxRecDepth 100000 in
theorem progOr_new (n : Nat) (v : Value) (l : List ExV) (w0 w : World) (hv : RowsY n w0 w v l) (hb0 : Below w0.heap.size w0 w) (hl : l.length ≤ 1000) (hcp : ∀ y ∈ l, cpX n y) :
    Calls Tryz.prog 28 #[v] w fun r w' => (∃ d : EC, r = .returned d.val ∧ ∀ w'', Kept w.heap.size w' w'' → Below w0.heap.size w0 w'' → ExAt (n + 1) w'' d.val (orX l)) ∧ Below w.heap.size w w' := by
  have HB0 : Hid (∀ W, Below w.heap.size w W → Below w0.heap.size w0 W) := hide (fun W h => hb0.trans (h.mono hb0.size))
  have b0 := (Below.refl _ w).alloc (Nat.le_refl _) (Obj.cells #[.int .i64 0, .int .i64 0, .bool false, .slice none 0 0, .bool false, .slice none 0 0, .slice none 0 0] 28)
  have X := hide (copiedList_any n v l w0 (w.alloc (Obj.cells #[.int .i64 0, .int .i64 0, .bool false, .slice none 0 0, .bool false, .slice none 0 0, .slice none 0 0] 28)) (hv.grow b0) (HB0.out _ b0) hl hcp)
  have E0 := hide (heap_new w (Obj.cells #[.int .i64 0, .int .i64 0, .bool false, .slice none 0 0, .bool false, .slice none 0 0, .slice none 0 0] 28))
  have S0 := hide (show (w.alloc (Obj.cells #[.int .i64 0, .int .i64 0, .bool false, .slice none 0 0, .bool false, .slice none 0 0, .slice none 0 0] 28)).heap.size = w.heap.size + 1 by simp)
  have B0 := hide b0
  obtain ⟨p, cc, rfl, _⟩ := hv
  clear b0 hl hcp hb0
  go_enter Tryz.func28, Tryz.ntmps28
  go_wp2_with fail
  generalize w.alloc (Obj.cells #[.int .i64 0, .int .i64 0, .bool false, .slice none 0 0, .bool false, .slice none 0 0, .slice none 0 0] 28) = W0 at X E0 S0 B0 ⊢
  refine (unhide X).mono ?_
  rintro r w1 ⟨⟨u, rfl, hR⟩, b1⟩
  have D1 := hide (B0.out.trans (b1.mono B0.out.size))
  have E1 := hide ((b1.block _ (by have := S0.out; omega)).trans E0.out)
  have LT : Hid (w.heap.size < W0.heap.size) := hide (by have := S0.out; omega)
  have GE : Hid (w.heap.size ≤ w.heap.size) := hide (Nat.le_refl _)
  clear X b1 E0 S0 B0
  obtain ⟨q, kk, len, rfl, hlen⟩ : ∃ q kk len, u = .slice q len kk ∧ len = l.length := by
    obtain ⟨q, kk, e, _⟩ := hR w1 (Kept.refl _ _) (HB0.out _ D1.out)
    exact ⟨q, kk, _, e, rfl⟩
  have HR := hide hR
  have HLEN := hide hlen
  clear hR hlen
  obtain ⟨d0, d1, d2, d3, d4, d5, d6⟩ := ecCells1 E1.out
  have z0 := soft_heap E1.out 0
  have z1 := soft_heap E1.out 1
  have z2 := soft_heap E1.out 2
  have z3 := soft_heap E1.out 3
  have z4 := soft_heap E1.out 4
  have z5 := soft_heap E1.out 5
  have z6 := soft_heap E1.out 6
  have E2 : Hid ((((((((w1.setCell ⟨w.heap.size, 0, none⟩ (.int .i64 3)).setCell ⟨w.heap.size, 1, none⟩ (.int .i64 0)).setCell ⟨w.heap.size, 2, none⟩ (.bool false)).setCell ⟨w.heap.size, 3, none⟩ (.slice none 0 0)).setCell ⟨w.heap.size, 4, none⟩ (.bool false)).setCell ⟨w.heap.size, 5, none⟩ (.slice none 0 0)).setCell ⟨w.heap.size, 6, none⟩ (.slice q len kk)).heap[w.heap.size]? = some (.cells #[.int .i64 3, .int .i64 0, .bool false, .slice none 0 0, .bool false, .slice none 0 0, .slice q len kk] 28 (0, 0))) := hide (heap_put (heap_put (heap_put (heap_put (heap_put (heap_put (heap_put E1.out 0 (.int .i64 3)) 1 (.int .i64 0)) 2 (.bool false)) 3 (.slice none 0 0)) 4 (.bool false)) 5 (.slice none 0 0)) 6 (.slice q len kk))
  have K2 := hide (((((((Kept.setCell w1 (w.heap.size) 0 (.int .i64 3) (m := W0.heap.size) LT.out).trans (Kept.setCell _ (w.heap.size) 1 (.int .i64 0) LT.out)).trans (Kept.setCell _ (w.heap.size) 2 (.bool false) LT.out)).trans (Kept.setCell _ (w.heap.size) 3 (.slice none 0 0) LT.out)).trans (Kept.setCell _ (w.heap.size) 4 (.bool false) LT.out)).trans (Kept.setCell _ (w.heap.size) 5 (.slice none 0 0) LT.out)).trans (Kept.setCell _ (w.heap.size) 6 (.slice q len kk) LT.out))
  have D2 := hide (((((((D1.out.setCell (p := ⟨w.heap.size, 0, none⟩) GE.out (.int .i64 3)).setCell (p := ⟨w.heap.size, 1, none⟩) GE.out (.int .i64 0)).setCell (p := ⟨w.heap.size, 2, none⟩) GE.out (.bool false)).setCell (p := ⟨w.heap.size, 3, none⟩) GE.out (.slice none 0 0)).setCell (p := ⟨w.heap.size, 4, none⟩) GE.out (.bool false)).setCell (p := ⟨w.heap.size, 5, none⟩) GE.out (.slice none 0 0)).setCell (p := ⟨w.heap.size, 6, none⟩) GE.out (.slice q len kk))
  clear D1 E1
  go_wp2
  refine bodyPost_ret (results_cell_row rfl _ _ (w.heap.size) 28 _ (0, 0) _ rfl E2.out Tryz.underlying28 rfl infoEx) rfl ⟨⟨⟨3, 0, SC.zero, q, len, kk⟩, rfl, fun w'' hk hB => ?_⟩, D2.out⟩
  obtain ⟨q', c', e', hX⟩ := rows_ex 3 (by omega) (by omega) (HR.out w'' (K2.out.trans (hk.mono (by have := LT.out; omega))) hB)
  injection e' with e1 e2 e3
  subst e1 e3
  rw [← HLEN.out] at hX
  exact hX
theorem progOr_any (n : Nat) (v : Value) (l : List ExV) (w : World) (hv : RowsX n w v l) (hl : l.length ≤ 1000) (hcp : ∀ y ∈ l, cpX n y) :
    Calls Tryz.prog 28 #[v] w fun r w' => (∃ d : EC, r = .returned d.val ∧ ExAt (n + 1) w' d.val (orX l)) ∧ Below w.heap.size w w' := by
  refine (progOr_new n v l w w (hv.y (Below.refl _ _)) (Below.refl _ _) hl hcp).mono ?_
  rintro r w' ⟨⟨d, rfl, h⟩, hb⟩
  exact ⟨⟨d, rfl, h w' (Kept.refl _ _) hb⟩, hb⟩
set_option maxHeartbeats 4000000 in
set_option maxRecDepth 100000 in
theorem progNot_new (n : Nat) (c : EC) (x : ExV) (w0 w : World) (hx : ExAt n w0 c.val x) (hb0 : Below w0.heap.size w0 w) (hcp : cpX n x) :
    Calls Tryz.prog 25 #[c.val] w fun r w' => (∃ d : EC, r = .returned d.val ∧ ∀ w'', Kept w.heap.size w' w'' → Below w0.heap.size w0 w'' → ExAt (n + 1) w'' d.val (notX x)) ∧ Below w.heap.size w w' := by
  have HB0 : Hid (∀ W, Below w.heap.size w W → Below w0.heap.size w0 W) := hide (fun W h => hb0.trans (h.mono hb0.size))
  obtain ⟨l, hlx⟩ : ∃ l, l = [x] := ⟨_, rfl⟩
  have T0 := Pair.new w (exObj c) (exObj ec0)
  have b2 := (Below.refl _ ((w.alloc (exObj c)).alloc (exObj ec0))).alloc (Nat.le_refl _) (exObj c)
  have T2 := T0.on b2
  have hv : RowsY n w0 (((w.alloc (exObj c)).alloc (exObj ec0)).alloc (exObj c)) (.slice (some ⟨w.heap.size + 1 + 1, 0, none⟩) 1 1) l := by
    subst hlx
    refine ⟨_, 1, rfl, fun e => by simp at e, fun i hi => ?_⟩
    have hi0 : i = 0 := by simpa using hi
    subst hi0
    have hn := heap_new ((w.alloc (exObj c)).alloc (exObj ec0)) (exObj c)
    simp only [World.size_alloc] at hn
    refine ⟨w.heap.size + 1 + 1, 0, c, rfl, ?_, hx⟩
    obtain ⟨c0, c1, c2, c3, c4, c5, c6⟩ := ecCells1 hn
    exact ⟨c0, c1, c2, c3, c4, c5, c6⟩
  have X := hide (copiedList_any n _ l w0 _ hv (HB0.out _ T2.b) (by subst hlx; simp) (fun y hy => by subst hlx; simp at hy; subst hy; exact hcp))
  have HLX := hide hlx
  rw [show notX x = ⟨4, 0, noSet, l⟩ by rw [HLX.out]; rfl]
  have TT := hide T2
  clear hx hcp T0 b2 T2 hlx hv hb0
  unfold exObj ec0 SC.zero at X TT
  unfold EC.val
  go_enter Tryz.func25, Tryz.ntmps25
  go_wp2_with fail
  generalize ((w.alloc (Obj.cells #[.int .i64 c.k, .int .i64 c.t, .bool c.s.a, .slice c.s.p c.s.n c.s.c, .bool c.s.d, .slice c.s.q c.s.m c.s.e, .slice c.p c.n c.c] 28)).alloc (Obj.cells #[.int .i64 0, .int .i64 0, .bool false, .slice none 0 0, .bool false, .slice none 0 0, .slice none 0 0] 28)).alloc (Obj.cells #[.int .i64 c.k, .int .i64 c.t, .bool c.s.a, .slice c.s.p c.s.n c.s.c, .bool c.s.d, .slice c.s.q c.s.m c.s.e, .slice c.p c.n c.c] 28) = W0 at X TT ⊢
  refine (unhide X).mono ?_
  rintro r w1 ⟨⟨u, rfl, hR⟩, b1⟩
  have TD := hide (TT.out.on b1)
  have LT : Hid (w.heap.size + 1 < W0.heap.size) := hide TT.out.size
  have GE : Hid (w.heap.size ≤ w.heap.size + 1) := hide (by omega)
  have D1 := hide TD.out.b
  have E1 := hide TD.out.e2
  clear X b1 TT TD HLX
  obtain ⟨q, kk, len, rfl, hlen⟩ : ∃ q kk len, u = .slice q len kk ∧ len = l.length := by
    obtain ⟨q, kk, e, _⟩ := hR w1 (Kept.refl _ _) (HB0.out _ D1.out)
    exact ⟨q, kk, _, e, rfl⟩
  have HR := hide hR
  have HLEN := hide hlen
  clear hR hlen
  obtain ⟨d0, d1, d2, d3, d4, d5, d6⟩ := ecCells1 E1.out
  have z0 := soft_heap E1.out 0
  have z1 := soft_heap E1.out 1
  have z2 := soft_heap E1.out 2
  have z3 := soft_heap E1.out 3
  have z4 := soft_heap E1.out 4
  have z5 := soft_heap E1.out 5
  have z6 := soft_heap E1.out 6
  have E2 : Hid ((((((((w1.setCell ⟨w.heap.size + 1, 0, none⟩ (.int .i64 4)).setCell ⟨w.heap.size + 1, 1, none⟩ (.int .i64 0)).setCell ⟨w.heap.size + 1, 2, none⟩ (.bool false)).setCell ⟨w.heap.size + 1, 3, none⟩ (.slice none 0 0)).setCell ⟨w.heap.size + 1, 4, none⟩ (.bool false)).setCell ⟨w.heap.size + 1, 5, none⟩ (.slice none 0 0)).setCell ⟨w.heap.size + 1, 6, none⟩ (.slice q len kk)).heap[w.heap.size + 1]? = some (.cells #[.int .i64 4, .int .i64 0, .bool false, .slice none 0 0, .bool false, .slice none 0 0, .slice q len kk] 28 (0, 0))) := hide (heap_put (heap_put (heap_put (heap_put (heap_put (heap_put (heap_put E1.out 0 (.int .i64 4)) 1 (.int .i64 0)) 2 (.bool false)) 3 (.slice none 0 0)) 4 (.bool false)) 5 (.slice none 0 0)) 6 (.slice q len kk))
  have K2 := hide (((((((Kept.setCell w1 (w.heap.size + 1) 0 (.int .i64 4) (m := W0.heap.size) LT.out).trans (Kept.setCell _ (w.heap.size + 1) 1 (.int .i64 0) LT.out)).trans (Kept.setCell _ (w.heap.size + 1) 2 (.bool false) LT.out)).trans (Kept.setCell _ (w.heap.size + 1) 3 (.slice none 0 0) LT.out)).trans (Kept.setCell _ (w.heap.size + 1) 4 (.bool false) LT.out)).trans (Kept.setCell _ (w.heap.size + 1) 5 (.slice none 0 0) LT.out)).trans (Kept.setCell _ (w.heap.size + 1) 6 (.slice q len kk) LT.out))
  have D2 := hide (((((((D1.out.setCell (p := ⟨w.heap.size + 1, 0, none⟩) GE.out (.int .i64 4)).setCell (p := ⟨w.heap.size + 1, 1, none⟩) GE.out (.int .i64 0)).setCell (p := ⟨w.heap.size + 1, 2, none⟩) GE.out (.bool false)).setCell (p := ⟨w.heap.size + 1, 3, none⟩) GE.out (.slice none 0 0)).setCell (p := ⟨w.heap.size + 1, 4, none⟩) GE.out (.bool false)).setCell (p := ⟨w.heap.size + 1, 5, none⟩) GE.out (.slice none 0 0)).setCell (p := ⟨w.heap.size + 1, 6, none⟩) GE.out (.slice q len kk))
  clear D1 E1
  go_wp2
  refine bodyPost_ret (results_cell_row rfl _ _ (w.heap.size + 1) 28 _ (0, 0) _ rfl E2.out Tryz.underlying28 rfl infoEx) rfl ⟨⟨⟨4, 0, SC.zero, q, len, kk⟩, rfl, fun w'' hk hB => ?_⟩, D2.out⟩
  obtain ⟨q', c', e', hX⟩ := rows_ex 4 (by omega) (by omega) (HR.out w'' (K2.out.trans (hk.mono (by have := LT.out; omega))) hB)
  injection e' with e1 e2 e3
  subst e1 e3
  rw [← HLEN.out] at hX
  exact hX
theorem progNot_any (n : Nat) (c : EC) (x : ExV) (w : World) (hx : ExAt n w c.val x) (hcp : cpX n x) :
    Calls Tryz.prog 25 #[c.val] w fun r w' => (∃ d : EC, r = .returned d.val ∧ ExAt (n + 1) w' d.val (notX x)) ∧ Below w.heap.size w w' := by
  refine (progNot_new n c x w w hx (Below.refl _ _) hcp).mono ?_
  rintro r w' ⟨⟨d, rfl, h⟩, hb⟩
  exact ⟨⟨d, rfl, h w' (Kept.refl _ _) hb⟩, hb⟩
set_option maxHeartbeats 4000000 in
set_option maxRecDepth 100000 in
theorem progAtom_any (attr : Int) (a0 : -9223372036854775808 ≤ attr) (a1 : attr ≤ 9223372036854775807) (s : SC) (S : SetV) (w : World) (hv : SetAt w s.val S) (h1 : S.ints.length * 16 ≤ 140737488355328) (h2 : S.strs.length * 16 ≤ 140737488355328) :
    Calls Tryz.prog 29 #[.int .i64 attr, s.val] w fun r w' => (∃ d : EC, r = .returned d.val ∧ ExAt 1 w' d.val (atomX attr S)) ∧ Below w.heap.size w w' := by
  have T0 := Pair.new w (stObj s) (exObj ec0)
  have X := hide (copiedSet_any s S _ (hv.on T0.b) h1 h2)
  have TT := hide T0
  clear hv h1 h2 T0
  unfold stObj exObj ec0 SC.zero at X TT
  unfold SC.val at X ⊢
  go_enter Tryz.func29, Tryz.ntmps29
  go_wp2_with fail
  generalize (w.alloc (Obj.cells #[.bool s.a, .slice s.p s.n s.c, .bool s.d, .slice s.q s.m s.e] 25)).alloc (Obj.cells #[.int .i64 0, .int .i64 0, .bool false, .slice none 0 0, .bool false, .slice none 0 0, .slice none 0 0] 28) = W0 at X TT ⊢
  refine (unhide X).mono ?_
  rintro r w1 ⟨⟨y, rfl, hY⟩, b1⟩
  have TD := hide (TT.out.on b1)
  have LT : Hid (w.heap.size + 1 < W0.heap.size) := hide TT.out.size
  have E1 := hide TD.out.e2
  have HY := hide hY
  clear X b1 TT hY
  obtain ⟨d0, d1, d2, d3, d4, d5, d6⟩ := ecCells1 E1.out
  have z0 := soft_heap E1.out 0
  have z1 := soft_heap E1.out 1
  have z2 := soft_heap E1.out 2
  have z3 := soft_heap E1.out 3
  have z4 := soft_heap E1.out 4
  have z5 := soft_heap E1.out 5
  have z6 := soft_heap E1.out 6
  have E2 : Hid ((((((((w1.setCell ⟨w.heap.size + 1, 0, none⟩ (.int .i64 1)).setCell ⟨w.heap.size + 1, 1, none⟩ (.int .i64 attr)).setCell ⟨w.heap.size + 1, 2, none⟩ (.bool y.a)).setCell ⟨w.heap.size + 1, 3, none⟩ (.slice y.p y.n y.c)).setCell ⟨w.heap.size + 1, 4, none⟩ (.bool y.d)).setCell ⟨w.heap.size + 1, 5, none⟩ (.slice y.q y.m y.e)).setCell ⟨w.heap.size + 1, 6, none⟩ (.slice none 0 0)).heap[w.heap.size + 1]? = some (.cells #[.int .i64 1, .int .i64 attr, .bool y.a, .slice y.p y.n y.c, .bool y.d, .slice y.q y.m y.e, .slice none 0 0] 28 (0, 0))) := hide (heap_put (heap_put (heap_put (heap_put (heap_put (heap_put (heap_put E1.out 0 (.int .i64 1)) 1 (.int .i64 attr)) 2 (.bool y.a)) 3 (.slice y.p y.n y.c)) 4 (.bool y.d)) 5 (.slice y.q y.m y.e)) 6 (.slice none 0 0))
  have K2 := hide (((((((Kept.setCell w1 (w.heap.size + 1) 0 (.int .i64 1) (m := W0.heap.size) LT.out).trans (Kept.setCell _ (w.heap.size + 1) 1 (.int .i64 attr) LT.out)).trans (Kept.setCell _ (w.heap.size + 1) 2 (.bool y.a) LT.out)).trans (Kept.setCell _ (w.heap.size + 1) 3 (.slice y.p y.n y.c) LT.out)).trans (Kept.setCell _ (w.heap.size + 1) 4 (.bool y.d) LT.out)).trans (Kept.setCell _ (w.heap.size + 1) 5 (.slice y.q y.m y.e) LT.out)).trans (Kept.setCell _ (w.heap.size + 1) 6 (.slice none 0 0) LT.out))
  have D2 := hide (((((((TD.out.b.setCell (p := ⟨w.heap.size + 1, 0, none⟩) (by simp) (.int .i64 1)).setCell (p := ⟨w.heap.size + 1, 1, none⟩) (by simp) (.int .i64 attr)).setCell (p := ⟨w.heap.size + 1, 2, none⟩) (by simp) (.bool y.a)).setCell (p := ⟨w.heap.size + 1, 3, none⟩) (by simp) (.slice y.p y.n y.c)).setCell (p := ⟨w.heap.size + 1, 4, none⟩) (by simp) (.bool y.d)).setCell (p := ⟨w.heap.size + 1, 5, none⟩) (by simp) (.slice y.q y.m y.e)).setCell (p := ⟨w.heap.size + 1, 6, none⟩) (by simp) (.slice none 0 0))
  clear E1 TD
  go_wp2
  exact bodyPost_ret (results_cell_row rfl _ _ (w.heap.size + 1) 28 _ (0, 0) _ rfl E2.out Tryz.underlying28 rfl infoEx) rfl ⟨⟨⟨1, attr, y, none, 0, 0⟩, rfl, ⟨1, attr, y, none, 0, 0⟩, rfl, ⟨rfl, rfl, rfl, by simp, by simp, a0, a1, HY.out _ K2.out, Nat.le_refl _, by simp, fun _ => ⟨rfl, rfl⟩⟩, fun i hi => by simp [atomX] at hi⟩, D2.out⟩
end Go.Proofs.YtlfhpocfacaaeaaGreat
/-
  The fifth reference's Count and Deep, walked.
-/
set_option linter.unusedSimpArgs false
set_option linter.unusedVariables false
namespace Go.Proofs.YtlfhpocfacaaeaaGreat
open Go.RowKit

def cntF (f : Nat) (n : Int) (y : ExV) : Int := if n < 100 then n + countX f y else n
theorem cnt_stop (f : Nat) : ∀ (l : List ExV) (n : Int), 100 ≤ n → l.foldl (cntF f) n = n
  | [], _, _ => rfl
  | y :: l, n, h => by
    rw [List.foldl_cons, show cntF f n y = n from by unfold cntF; rw [if_neg (by omega)]]
    exact cnt_stop f l n h
theorem countX_le : ∀ (f : Nat) (x : ExV), countX f x ≤ 100
  | 0, _ => by unfold countX; omega
  | f + 1, x => by unfold countX; omega
theorem countX_step (f : Nat) (x : ExV) : countX (f + 1) x = min (x.sub.foldl (cntF f) 1) 100 := rfl
theorem drop_getX (l : List ExV) (k : Nat) (h : k < l.length) : l.drop k = l.getD k noX :: l.drop (k + 1) := by
  rw [List.drop_eq_getElem_cons h, List.getD_eq_getElem?_getD, List.getElem?_eq_getElem h]
  rfl
theorem ecCells {w : World} {g : Nat} {t : TypeId} {x0 x1 x2 x3 x4 x5 x6 : Value} (h : w.heap[g]? = some (.cells #[x0, x1, x2, x3, x4, x5, x6] t (0, 0))) : w.cell? ⟨g, 0, none⟩ = some x0 ∧ w.cell? ⟨g, 1, none⟩ = some x1 ∧ w.cell? ⟨g, 2, none⟩ = some x2 ∧ w.cell? ⟨g, 3, none⟩ = some x3 ∧ w.cell? ⟨g, 4, none⟩ = some x4 ∧ w.cell? ⟨g, 5, none⟩ = some x5 ∧ w.cell? ⟨g, 6, none⟩ = some x6 :=
  ⟨cell_heap h 0, cell_heap h 1, cell_heap h 2, cell_heap h 3, cell_heap h 4, cell_heap h 5, cell_heap h 6⟩

set_option maxHeartbeats 4000000 in
set_option maxRecDepth 100000 in
theorem refCount_any : ∀ (f : Nat) (n : Nat) (x : ExV) (v : Value) (D : Int) (w : World), f ≤ 21 → D = 21 - (f : Int) → ExAt n w v x →
    Calls Tryz.prog 31 #[v, .int .i64 D] w fun r w' => r = .returned (.int .i64 (countX f x)) ∧ Below w.heap.size w w' := by
  intro f
  induction f with
  | zero =>
    intro n x v D w hf hD hx
    obtain ⟨c, rfl, hc⟩ := hx.ec
    have hD' : D = 21 := by omega
    subst hD'
    have B0 := hide ((Below.refl _ w).alloc (Nat.le_refl _) (Obj.cells #[.int .i64 c.k, .int .i64 c.t, .bool c.s.a, .slice c.s.p c.s.n c.s.c, .bool c.s.d, .slice c.s.q c.s.m c.s.e, .slice c.p c.n c.c] 28))
    clear hx hc hD
    unfold EC.val
    go_enter Tryz.func31, Tryz.ntmps31
    go_wp2
    go_ret
    exact ⟨rfl, B0.out⟩
  | succ f ih =>
    intro n x v D w hf hD hx
    obtain ⟨m, rfl⟩ : ∃ m, n = m + 1 := by
      cases n with
      | zero => cases hx
      | succ m => exact ⟨m, rfl⟩
    obtain ⟨c, rfl, hc⟩ := hx.ec
    have hD0 : 0 ≤ D := by omega
    have hD1 : D ≤ 20 := by omega
    have HX := hide hx
    have HD := hide (show D + 1 = 21 - (f : Int) by omega)
    have IH := fun (y : ExV) (u : Value) (W : World) (h : ExAt m W u y) => hide (ih m y u (D + 1) W (by omega) HD.out h)
    have HN := hide hc.n
    have big := hc.big
    have room := hc.room
    have B0 := hide ((Below.refl _ w).alloc (Nat.le_refl _) (Obj.cells #[.int .i64 c.k, .int .i64 c.t, .bool c.s.a, .slice c.s.p c.s.n c.s.c, .bool c.s.d, .slice c.s.q c.s.m c.s.e, .slice c.p c.n c.c] 28))
    have E0 := hide (heap_new w (Obj.cells #[.int .i64 c.k, .int .i64 c.t, .bool c.s.a, .slice c.s.p c.s.n c.s.c, .bool c.s.d, .slice c.s.q c.s.m c.s.e, .slice c.p c.n c.c] 28))
    have HC := hide (countX_step f x)
    generalize countX (f + 1) x = R at HC ⊢
    clear hx hc ih hD hf
    unfold EC.val at *
    go_enter Tryz.func31, Tryz.ntmps31
    go_wp2
    go_loopw [5, 6] (fun a i wr => ∃ (k : Nat) (N : Int), a = .int .i64 N ∧ i = .int .i64 k ∧ k ≤ c.n ∧ 1 ≤ N ∧ N ≤ 200 ∧ Hid ((x.sub.drop k).foldl (cntF f) N = x.sub.foldl (cntF f) 1) ∧ Hid (Below w.heap.size w wr) ∧ Hid (wr.heap[w.heap.size]? = some (Obj.cells #[.int .i64 c.k, .int .i64 c.t, .bool c.s.a, .slice c.s.p c.s.n c.s.c, .bool c.s.d, .slice c.s.q c.s.m c.s.e, .slice c.p c.n c.c] 28 (0, 0)))) (fun _ i _ => c.n - (intOf i).toNat)
    case atStart => exact ⟨0, 1, rfl, rfl, by omega, by omega, by omega, hide rfl, B0, E0⟩
    case round =>
      clear B0 E0
      obtain ⟨k, N, rfl, rfl, hk, hN0, hN1, HF, HB, HE⟩ := hrel
      obtain ⟨c0, c1, c2, c3, c4, c5, c6⟩ := ecCells HE.out
      by_cases hlt : k < c.n
      · by_cases hN : N < 100
        · have hk' : k < x.sub.length := by rw [← HN.out]; exact hlt
          obtain ⟨g, off, d, hp, hg, hd, hy⟩ := (ExAt.on HB.out _ HX.out).part k hk'
          have F1 := HF.out
          rw [drop_getX _ _ hk', List.foldl_cons, show cntF f N (x.sub.getD k noX) = N + countX f (x.sub.getD k noX) from by unfold cntF; rw [if_pos hN]] at F1
          have HF1 := hide F1
          have X := IH _ _ _ hy
          have q0 := countX_pos f (x.sub.getD k noX)
          have q1 := countX_le f (x.sub.getD k noX)
          generalize countX f (x.sub.getD k noX) = q at *
          clear F1 HF hy IH HX
          obtain ⟨d0, d1, d2, d3, d4, d5, d6⟩ := hd
          unfold EC.val at X
          rw [hp] at c6 HE ⊢
          go_wp2_with fail
          refine (unhide X).mono ?_
          rintro r w2 ⟨rfl, b2⟩
          have HB2 := hide (HB.out.trans (b2.mono HB.out.size))
          have HE2 := hide ((b2.block _ (lt_heap HE.out)).trans HE.out)
          clear X b2 HB HE c0 c1 c2 c3 c4 c5 c6 d0 d1 d2 d3 d4 d5 d6
          go_wp2
          refine ⟨⟨k + 1, N + q, rfl, by go_num, by omega, by omega, by omega, HF1, HB2, HE2⟩, by simp [intOf]; omega⟩
        · have hN' : ¬ N < 100 := hN
          have E : Hid (R = min N 100) := hide (by rw [HC.out, ← HF.out, cnt_stop f _ N (by omega)])
          have hd' : decide (N < 100) = false := by simp; omega
          go_wp2
          go_ret
          exact ⟨ret_int E.out.symm, HB.out⟩
      · have E : Hid (R = min N 100) := hide (by
          rw [HC.out, ← HF.out, List.drop_eq_nil_of_le (by have := HN.out; omega)]; rfl)
        have hge : decide ((k : Int) < (c.n : Int)) = false := by simp; omega
        go_wp2
        go_ret
        exact ⟨ret_int E.out.symm, HB.out⟩
def maxF (f : Nat) (n : Int) (y : ExV) : Int := max n (deepX f y)
theorem deepX_le : ∀ (f : Nat) (x : ExV), deepX f x ≤ 20
  | 0, _ => by unfold deepX; omega
  | f + 1, x => by unfold deepX; omega
theorem deepX_step (f : Nat) (x : ExV) : deepX (f + 1) x = min ((x.sub.take 100).foldl (maxF f) 0 + 1) 20 := rfl
theorem take_getD (l : List ExV) (k : Nat) (h : k < 100) : (l.take 100).getD k noX = l.getD k noX := by
  rw [List.getD_eq_getElem?_getD, List.getD_eq_getElem?_getD, List.getElem?_take, if_pos h]
set_option maxHeartbeats 4000000 in
set_option maxRecDepth 100000 in
theorem refDeep_any : ∀ (f : Nat) (n : Nat) (x : ExV) (v : Value) (D : Int) (w : World), f ≤ 21 → D = 21 - (f : Int) → ExAt n w v x →
    Calls Tryz.prog 32 #[v, .int .i64 D] w fun r w' => r = .returned (.int .i64 (deepX f x)) ∧ Below w.heap.size w w' := by
  intro f
  induction f with
  | zero =>
    intro n x v D w hf hD hx
    obtain ⟨c, rfl, hc⟩ := hx.ec
    have hD' : D = 21 := by omega
    subst hD'
    have B0 := hide ((Below.refl _ w).alloc (Nat.le_refl _) (Obj.cells #[.int .i64 c.k, .int .i64 c.t, .bool c.s.a, .slice c.s.p c.s.n c.s.c, .bool c.s.d, .slice c.s.q c.s.m c.s.e, .slice c.p c.n c.c] 28))
    clear hx hc hD
    unfold EC.val
    go_enter Tryz.func32, Tryz.ntmps32
    go_wp2
    go_ret
    exact ⟨rfl, B0.out⟩
  | succ f ih =>
    intro n x v D w hf hD hx
    obtain ⟨m, rfl⟩ : ∃ m, n = m + 1 := by
      cases n with
      | zero => cases hx
      | succ m => exact ⟨m, rfl⟩
    obtain ⟨c, rfl, hc⟩ := hx.ec
    have hD0 : 0 ≤ D := by omega
    have hD1 : D ≤ 20 := by omega
    have HX := hide hx
    have HD := hide (show D + 1 = 21 - (f : Int) by omega)
    have IH := fun (y : ExV) (u : Value) (W : World) (h : ExAt m W u y) => hide (ih m y u (D + 1) W (by omega) HD.out h)
    have HN := hide hc.n
    have big := hc.big
    have room := hc.room
    have B0 := hide ((Below.refl _ w).alloc (Nat.le_refl _) (Obj.cells #[.int .i64 c.k, .int .i64 c.t, .bool c.s.a, .slice c.s.p c.s.n c.s.c, .bool c.s.d, .slice c.s.q c.s.m c.s.e, .slice c.p c.n c.c] 28))
    have E0 := hide (heap_new w (Obj.cells #[.int .i64 c.k, .int .i64 c.t, .bool c.s.a, .slice c.s.p c.s.n c.s.c, .bool c.s.d, .slice c.s.q c.s.m c.s.e, .slice c.p c.n c.c] 28))
    have HC := hide (deepX_step f x)
    generalize deepX (f + 1) x = R at HC ⊢
    clear hx hc ih hD hf
    unfold EC.val at *
    go_enter Tryz.func32, Tryz.ntmps32
    go_wp2
    go_loopw [5, 6] (fun a i wr => ∃ (k : Nat) (N : Int), a = .int .i64 N ∧ i = .int .i64 k ∧ k ≤ c.n ∧ 0 ≤ N ∧ N ≤ 20 ∧ Hid (((x.sub.take 100).drop k).foldl (maxF f) N = (x.sub.take 100).foldl (maxF f) 0) ∧ Hid (Below w.heap.size w wr) ∧ Hid (wr.heap[w.heap.size]? = some (Obj.cells #[.int .i64 c.k, .int .i64 c.t, .bool c.s.a, .slice c.s.p c.s.n c.s.c, .bool c.s.d, .slice c.s.q c.s.m c.s.e, .slice c.p c.n c.c] 28 (0, 0)))) (fun _ i _ => c.n - (intOf i).toNat)
    case atStart => exact ⟨0, 0, rfl, rfl, by omega, by omega, by omega, hide rfl, B0, E0⟩
    case round =>
      clear B0 E0
      obtain ⟨k, N, rfl, rfl, hk, hN0, hN1, HF, HB, HE⟩ := hrel
      obtain ⟨c0, c1, c2, c3, c4, c5, c6⟩ := ecCells HE.out
      by_cases hlt : k < c.n
      · by_cases hN : (k : Int) < 100
        · have hk' : k < x.sub.length := by rw [← HN.out]; exact hlt
          obtain ⟨g, off, d, hp, hg, hd, hy⟩ := (ExAt.on HB.out _ HX.out).part k hk'
          have F1 := HF.out
          rw [drop_getX _ _ (by rw [List.length_take]; omega), List.foldl_cons, take_getD _ _ (by omega), show maxF f N (x.sub.getD k noX) = max N (deepX f (x.sub.getD k noX)) from rfl] at F1
          have HF1 := hide F1
          have X := IH _ _ _ hy
          have q0 := deepX_pos f (x.sub.getD k noX)
          have q1 := deepX_le f (x.sub.getD k noX)
          generalize deepX f (x.sub.getD k noX) = q at *
          clear F1 HF hy IH HX
          obtain ⟨d0, d1, d2, d3, d4, d5, d6⟩ := hd
          unfold EC.val at X
          rw [hp] at c6 HE ⊢
          go_wp2_with fail
          refine (unhide X).mono ?_
          rintro r w2 ⟨rfl, b2⟩
          have HB2 := hide (HB.out.trans (b2.mono HB.out.size))
          have HE2 := hide ((b2.block _ (lt_heap HE.out)).trans HE.out)
          clear X b2 HB HE c0 c1 c2 c3 c4 c5 c6 d0 d1 d2 d3 d4 d5 d6
          go_wp2
          refine ⟨⟨k + 1, max N q, rfl, by go_num, by omega, by omega, by omega, HF1, HB2, HE2⟩, by simp [intOf]; omega⟩
        · have E : Hid (R = min (N + 1) 20) := hide (by
            rw [HC.out, ← HF.out, List.drop_eq_nil_of_le (by rw [List.length_take]; omega)]; rfl)
          have hd' : decide ((k : Int) < 100) = false := by simp; omega
          go_wp2
          go_ret
          exact ⟨ret_int E.out.symm, HB.out⟩
      · have E : Hid (R = min (N + 1) 20) := hide (by
          rw [HC.out, ← HF.out, List.drop_eq_nil_of_le (by rw [List.length_take]; have := HN.out; omega)]; rfl)
        have hge : decide ((k : Int) < (c.n : Int)) = false := by simp; omega
        go_wp2
        go_ret
        exact ⟨ret_int E.out.symm, HB.out⟩
end Go.Proofs.YtlfhpocfacaaeaaGreat
/-
  The fifth reference's sets, Few and Fits, walked.
-/
set_option linter.unusedSimpArgs false
set_option linter.unusedVariables false
namespace Go.Proofs.YtlfhpocfacaaeaaGreat
open Go.RowKit

def setsX : Nat → ExV → Bool
  | 0, _ => true
  | n + 1, x => fewB x.set && x.sub.all (setsX n)
def fewX (n : Nat) (x : ExV) : Bool := (decide (countX 21 x < 100) && decide (deepX 21 x < 20)) && setsX n x
theorem set_rowE {w : World} {s : SC} {A : SetV} (h : SetAt w s.val A) (n : Nat) (hn : n = w.heap.size) : SetsAt (w.alloc (.cells #[.bool s.a, .slice s.p s.n s.c, .bool s.d, .slice s.q s.m s.e] 25)) (.slice (some ⟨n, 0, none⟩) 1 1) [A] := by
  subst hn
  obtain ⟨x, y, z, t⟩ := h.scForm
  have := sets_one (vi := .slice s.p s.n s.c) (vs := .slice s.q s.m s.e) (A := A) (w := w) (by rw [← x, ← z]; exact h) _ rfl
  rw [x, z]
  exact this
theorem allX_step (n : Nat) (l : List ExV) (k : Nat) (h : k < l.length) : (l.drop k).all (setsX n) = (setsX n (l.getD k noX) && (l.drop (k + 1)).all (setsX n)) := by
  rw [drop_getX l k h, List.all_cons]

set_option maxHeartbeats 4000000 in
set_option maxRecDepth 100000 in
theorem refSets_any : ∀ (n : Nat) (x : ExV) (v : Value) (w : World), ExAt n w v x →
    Calls Tryz.prog 33 #[v] w fun r w' => r = .returned (.bool (setsX n x)) ∧ Below w.heap.size w w' := by
  intro n
  induction n with
  | zero => intro x v w h; cases h
  | succ n ih =>
    intro x v w hx
    obtain ⟨c, rfl, hc⟩ := hx.ec
    have HX := hide hx
    have IH := fun (y : ExV) (u : Value) (W : World) (h : ExAt n W u y) => hide (ih y u W h)
    have HN := hide hc.n
    have big := hc.big
    have room := hc.room
    have b0 := (Below.refl _ w).alloc (Nat.le_refl _) (Obj.cells #[.int .i64 c.k, .int .i64 c.t, .bool c.s.a, .slice c.s.p c.s.n c.s.c, .bool c.s.d, .slice c.s.q c.s.m c.s.e, .slice c.p c.n c.c] 28)
    have FW := hide (refFew_any _ _ _ (set_rowE (hc.s.on b0) (w.heap.size + 1) (by simp)))
    have b1 := b0.alloc b0.size (Obj.cells #[.bool c.s.a, .slice c.s.p c.s.n c.s.c, .bool c.s.d, .slice c.s.q c.s.m c.s.e] 25)
    have E1 := hide (((Below.refl _ _).alloc (Nat.le_refl _) (Obj.cells #[.bool c.s.a, .slice c.s.p c.s.n c.s.c, .bool c.s.d, .slice c.s.q c.s.m c.s.e] 25)).block _ (lt_heap (heap_new w (Obj.cells #[.int .i64 c.k, .int .i64 c.t, .bool c.s.a, .slice c.s.p c.s.n c.s.c, .bool c.s.d, .slice c.s.q c.s.m c.s.e, .slice c.p c.n c.c] 28)) ) |>.trans (heap_new w (Obj.cells #[.int .i64 c.k, .int .i64 c.t, .bool c.s.a, .slice c.s.p c.s.n c.s.c, .bool c.s.d, .slice c.s.q c.s.m c.s.e, .slice c.p c.n c.c] 28)))
    have B1 := hide b1
    have HC : Hid (setsX (n + 1) x = (fewB x.set && x.sub.all (setsX n))) := hide rfl
    rw [show ([x.set] : List SetV).all fewB = fewB x.set by simp] at FW
    generalize setsX (n + 1) x = R at HC ⊢
    generalize fewB x.set = q at HC FW
    clear hx hc ih b0 b1
    unfold EC.val at *
    go_enter Tryz.func33, Tryz.ntmps33
    go_wp2_with fail
    refine (unhide FW).mono ?_
    rintro r w2 ⟨rfl, rfl⟩
    cases q
    · have E : Hid (R = false) := hide (by rw [HC.out, Bool.false_and])
      clear FW
      go_wp2
      go_ret
      exact ⟨ret_bool E.out.symm, B1.out⟩
    · have HC1 := hide (HC.out.trans (Bool.true_and _))
      clear FW HC
      generalize (w.alloc (Obj.cells #[.int .i64 c.k, .int .i64 c.t, .bool c.s.a, .slice c.s.p c.s.n c.s.c, .bool c.s.d, .slice c.s.q c.s.m c.s.e, .slice c.p c.n c.c] 28)).alloc (Obj.cells #[.bool c.s.a, .slice c.s.p c.s.n c.s.c, .bool c.s.d, .slice c.s.q c.s.m c.s.e] 25) = w1 at E1 B1 ⊢
      go_wp2
      go_loopw [3] (fun i wr => ∃ k : Nat, i = .int .i64 k ∧ k ≤ c.n ∧ Hid ((x.sub.drop k).all (setsX n) = x.sub.all (setsX n)) ∧ Hid (Below w.heap.size w wr) ∧ Hid (wr.heap[w.heap.size]? = some (Obj.cells #[.int .i64 c.k, .int .i64 c.t, .bool c.s.a, .slice c.s.p c.s.n c.s.c, .bool c.s.d, .slice c.s.q c.s.m c.s.e, .slice c.p c.n c.c] 28 (0, 0)))) (fun i _ => c.n - (intOf i).toNat)
      case atStart => exact ⟨0, rfl, by omega, hide rfl, B1, E1⟩
      case round =>
        clear B1 E1
        obtain ⟨k, rfl, hk, HF, HB, HE⟩ := hrel
        obtain ⟨c0, c1, c2, c3, c4, c5, c6⟩ := ecCells HE.out
        by_cases hlt : k < c.n
        · have hk' : k < x.sub.length := by rw [← HN.out]; exact hlt
          obtain ⟨g, off, d, hp, hg, hd, hy⟩ := (ExAt.on HB.out _ HX.out).part k hk'
          have F1 := HF.out
          rw [allX_step n _ k hk'] at F1
          have HF1 := hide F1
          have X := IH _ _ _ hy
          generalize setsX n (x.sub.getD k noX) = q at *
          clear F1 HF hy IH HX
          obtain ⟨d0, d1, d2, d3, d4, d5, d6⟩ := hd
          unfold EC.val at X
          rw [hp] at c6 HE ⊢
          go_wp2_with fail
          refine (unhide X).mono ?_
          rintro r w2 ⟨rfl, b2⟩
          have HB2 := hide (HB.out.trans (b2.mono HB.out.size))
          have HE2 := hide ((b2.block _ (lt_heap HE.out)).trans HE.out)
          clear X b2 HB HE c0 c1 c2 c3 c4 c5 c6 d0 d1 d2 d3 d4 d5 d6
          cases q
          · have E : Hid (R = false) := hide (by rw [HC1.out, ← HF1.out, Bool.false_and])
            go_wp2
            go_ret
            exact ⟨ret_bool E.out.symm, HB2.out⟩
          · have HF2 := hide ((Bool.true_and _).symm.trans HF1.out)
            go_wp2
            exact ⟨⟨k + 1, by go_num, by omega, HF2, HB2, HE2⟩, by simp [intOf]; omega⟩
        · have E : Hid (R = true) := hide (by
            rw [HC1.out, ← HF.out, List.drop_eq_nil_of_le (by have := HN.out; omega)]; rfl)
          have hge : decide ((k : Int) < (c.n : Int)) = false := by simp; omega
          go_wp2
          go_ret
          exact ⟨ret_bool E.out.symm, HB.out⟩

set_option maxHeartbeats 4000000 in
set_option maxRecDepth 100000 in
theorem refFewX_any (n : Nat) (x : ExV) (v : Value) (w : World) (hx : ExAt n w v x) :
    Calls Tryz.prog 11 #[v] w fun r w' => r = .returned (.bool (fewX n x)) ∧ Below w.heap.size w w' := by
  have CC := fun (W : World) (hb : Below w.heap.size w W) => hide (refCount_any 21 n x v 0 W (by omega) (by omega) (ExAt.on hb _ hx))
  have CD := fun (W : World) (hb : Below w.heap.size w W) => hide (refDeep_any 21 n x v 0 W (by omega) (by omega) (ExAt.on hb _ hx))
  have CS := fun (W : World) (hb : Below w.heap.size w W) => hide (refSets_any n x v W (ExAt.on hb _ hx))
  have HC : Hid (fewX n x = ((decide (countX 21 x < 100) && decide (deepX 21 x < 20)) && setsX n x)) := hide rfl
  generalize fewX n x = R at HC ⊢
  generalize countX 21 x = p at HC CC
  generalize deepX 21 x = q at HC CD
  generalize setsX n x = s at HC CS
  obtain ⟨c, rfl, hc⟩ := hx.ec
  have b0 := (Below.refl _ w).alloc (Nat.le_refl _) (Obj.cells #[.int .i64 c.k, .int .i64 c.t, .bool c.s.a, .slice c.s.p c.s.n c.s.c, .bool c.s.d, .slice c.s.q c.s.m c.s.e, .slice c.p c.n c.c] 28)
  have E0 := heap_new w (Obj.cells #[.int .i64 c.k, .int .i64 c.t, .bool c.s.a, .slice c.s.p c.s.n c.s.c, .bool c.s.d, .slice c.s.q c.s.m c.s.e, .slice c.p c.n c.c] 28)
  have HB0 := hide b0
  have HE0 := hide E0
  have X := CC _ b0
  clear hx hc b0 E0
  unfold EC.val at *
  go_enter Tryz.func11, Tryz.ntmps11
  go_wp2_with fail
  refine (unhide X).mono ?_
  rintro r w1 ⟨rfl, b1⟩
  have HB1 := hide (HB0.out.trans (b1.mono HB0.out.size))
  have HE1 := hide ((b1.block _ (lt_heap HE0.out)).trans HE0.out)
  clear X b1 HB0 HE0 CC
  by_cases hp : p < 100
  · have hp' : decide (100 ≤ p) = false := by simp; omega
    obtain ⟨c0, c1, c2, c3, c4, c5, c6⟩ := ecCells HE1.out
    have Y := CD _ HB1.out
    go_wp2_with fail
    refine (unhide Y).mono ?_
    rintro r w2 ⟨rfl, b2⟩
    have HB2 := hide (HB1.out.trans (b2.mono HB1.out.size))
    have HE2 := hide ((b2.block _ (lt_heap HE1.out)).trans HE1.out)
    clear Y b2 HB1 HE1 CD c0 c1 c2 c3 c4 c5 c6
    by_cases hq : q < 20
    · have hq' : decide (20 ≤ q) = false := by simp; omega
      obtain ⟨c0, c1, c2, c3, c4, c5, c6⟩ := ecCells HE2.out
      have Z := CS _ HB2.out
      have E : Hid (R = s) := hide (by rw [HC.out, decide_eq_true hp, decide_eq_true hq]; rfl)
      go_wp2_with fail
      refine (unhide Z).mono ?_
      rintro r w3 ⟨rfl, b3⟩
      have HB3 := hide (HB2.out.trans (b3.mono HB2.out.size))
      clear Z b3
      go_wp2
      go_ret
      exact ⟨ret_bool E.out.symm, HB3.out⟩
    · have hq' : decide (20 ≤ q) = true := by simp; omega
      have E : Hid (R = false) := hide (by rw [HC.out, decide_eq_false hq, Bool.and_false, Bool.false_and])
      go_wp2
      go_ret
      exact ⟨ret_bool E.out.symm, HB2.out⟩
  · have hp' : decide (100 ≤ p) = true := by simp; omega
    have E : Hid (R = false) := hide (by rw [HC.out, decide_eq_false hp, Bool.false_and, Bool.false_and])
    go_wp2
    go_ret
    exact ⟨ret_bool E.out.symm, HB1.out⟩

end Go.Proofs.YtlfhpocfacaaeaaGreat
/-
  The walk of the third reference's Same.
-/
set_option linter.unusedSimpArgs false
set_option linter.unusedVariables false
namespace Go.Proofs.YtlfhpocfacaaeaaGreat
open Go.RowKit

end Go.Proofs.YtlfhpocfacaaeaaGreat
/-
  The fifth reference's each and Right, walked; the third one's Small.
-/
set_option linter.unusedSimpArgs false
set_option linter.unusedVariables false
namespace Go.Proofs.YtlfhpocfacaaeaaGreat
open Go.RowKit

set_option maxHeartbeats 4000000 in
set_option maxRecDepth 100000 in
theorem refSmall_any (v : Value) (S : SetV) (w : World) (hv : SetAt w v S) :
    Calls Tryz.prog 79 #[v] w fun r w' => r = .returned (.bool (smallB S)) ∧ Below w.heap.size w w' := by
  obtain ⟨vi, vs, rfl, hI, hS⟩ := hv
  obtain ⟨ai, ci, rfl⟩ := hI.form
  obtain ⟨aq, cq, rfl⟩ := hS.form
  have B0 := fun (o : Obj) => hide ((Below.refl _ w).alloc (Nat.le_refl _) o)
  have n1 := hI.2.1
  have n2 := hS.2.1
  unfold smallB
  clear hI hS
  generalize S.ints.length = a at *
  generalize S.strs.length = b at *
  by_cases h1 : a ≤ 6
  · have e1 : decide ((a : Int) ≤ 6) = true := decide_eq_true (by omega)
    have e1' : decide (a ≤ 6) = true := decide_eq_true h1
    go_enter Tryz.func79, Tryz.ntmps79
    go_wp2
    go_ret
    exact ⟨ret_bool (by rw [e1', Bool.true_and]; exact decide_eq_decide.2 (by omega)), (B0 _).out⟩
  · have e1 : decide ((a : Int) ≤ 6) = false := decide_eq_false (by omega)
    have e1' : decide (a ≤ 6) = false := decide_eq_false h1
    go_enter Tryz.func79, Tryz.ntmps79
    go_wp2
    go_ret
    exact ⟨ret_bool (by rw [e1', Bool.false_and]), (B0 _).out⟩

structure XAt1 (w W : World) (c : EC) : Prop where
  x : W.heap[w.heap.size]? = some (Obj.cells #[.int .i64 c.k, .int .i64 c.t, .bool c.s.a, .slice c.s.p c.s.n c.s.c, .bool c.s.d, .slice c.s.q c.s.m c.s.e, .slice c.p c.n c.c] 28 (0, 0))
  b : Below w.heap.size w W
theorem XAt1.new (w : World) (c : EC) : XAt1 w (w.alloc (Obj.cells #[.int .i64 c.k, .int .i64 c.t, .bool c.s.a, .slice c.s.p c.s.n c.s.c, .bool c.s.d, .slice c.s.q c.s.m c.s.e, .slice c.p c.n c.c] 28)) c := ⟨heap_new w _, (Below.refl _ w).alloc (Nat.le_refl _) _⟩
theorem XAt1.on {w W W' : World} {c : EC} (h : XAt1 w W c) (hb : Below W.heap.size W W') : XAt1 w W' c := ⟨(hb.block _ (lt_heap h.x)).trans h.x, h.b.trans (hb.mono h.b.size)⟩
end Go.Proofs.YtlfhpocfacaaeaaGreat
/-
  The fifth reference's Is and Eval, walked.
-/
set_option linter.unusedSimpArgs false
set_option linter.unusedVariables false
namespace Go.Proofs.YtlfhpocfacaaeaaGreat
open Go.RowKit

end Go.Proofs.YtlfhpocfacaaeaaGreat
/-
  The program's Size, Right and Eval, in the words of the expression alone.
-/
set_option linter.unusedSimpArgs false
set_option linter.unusedVariables false
namespace Go.Proofs.YtlfhpocfacaaeaaGreat
open Go.RowKit

theorem progRight_any (k : Nat) (c : EC) (x : ExV) (w : World) (hx : ExAt k w c.val x) (hk : k ≤ 1000) :
    Calls Tryz.prog 34 #[c.val] w fun r w' => r = .returned (.bool (rightX x)) ∧ Below w.heap.size w w' := by
  have := right_any k c x w hx hk
  rw [right_plain (ExAt.low k hx)] at this
  exact this

set_option maxHeartbeats 4000000 in
set_option maxRecDepth 100000 in
theorem progEval_any (k : Nat) (c : EC) (x : ExV) (e : EvV) (w : World) (hx : ExAt k w c.val x) (hk : k ≤ 1000) (hf : evFit e) :
    Calls Tryz.prog 26 #[c.val, evVal e] w fun r w' => r = .returned (.bool (evalX x e)) ∧ Below w.heap.size w w' := by
  have HT := hide (XeAt.new w c e)
  have X := fun (W : World) (hb : Below w.heap.size w W) => hide (progRight_any k c x W (ExAt.on hb _ hx) hk)
  have Y := fun (W : World) => hide (event_any e W hf)
  have Z : rightX x = true → ∀ (W : World) (hb : Below w.heap.size w W), Hid (Calls Tryz.prog 58 #[c.val, evVal e] W fun r W' => r = .returned (.bool (isX 8 x e)) ∧ Below W.heap.size W W') := fun hr W hb => hide (by
    have h8 := rightX_low hr
    unfold rightX at hr
    rw [Bool.and_eq_true] at hr
    exact isSo_any e hf 8 x c W (ExAt.shrink k 8 (ExAt.on hb _ hx) h8) hr.2)
  have EQ : Hid (evalX x e = ((rightX x && rightE e) && isX 8 x e)) := hide rfl
  generalize evalX x e = R at EQ ⊢
  generalize isX 8 x e = p at EQ Z
  clear hx hf hk
  unfold exObj evObj at HT
  unfold EC.val evVal at *
  cases hr : rightX x
  · rw [hr] at X EQ
    have E : Hid (R = false) := hide EQ.out
    clear Z EQ Y
    go_enter Tryz.func26, Tryz.ntmps26
    go_wp2_with fail
    refine (unhide (X _ HT.out.b)).mono ?_
    rintro r w1 ⟨rfl, b1⟩
    have HT1 := hide (HT.out.on b1)
    clear X HT b1
    go_wp2
    go_ret
    exact ⟨ret_bool E.out.symm, HT1.out.b⟩
  · rw [hr] at X EQ
    have Z := Z hr
    clear hr
    generalize rightE e = q at Y EQ
    cases q
    · have E : Hid (R = false) := hide EQ.out
      clear Z EQ
      go_enter Tryz.func26, Tryz.ntmps26
      go_wp2_with fail
      refine (unhide (X _ HT.out.b)).mono ?_
      rintro r w1 ⟨rfl, b1⟩
      have HT1 := hide (HT.out.on b1)
      obtain ⟨d0, d1, d2, d3, d4, d5, d6, d7, d8, d9, d10, d11⟩ := evCells HT1.out.e
      clear X HT b1
      go_wp2_with fail
      refine (unhide (Y _)).mono ?_
      rintro r w2 ⟨rfl, b2⟩
      have HT2 := hide (HT1.out.on b2)
      clear Y HT1 b2 d0 d1 d2 d3 d4 d5 d6 d7 d8 d9 d10 d11
      go_wp2
      go_ret
      exact ⟨ret_bool E.out.symm, HT2.out.b⟩
    · have E : Hid (R = p) := hide EQ.out
      clear EQ
      go_enter Tryz.func26, Tryz.ntmps26
      go_wp2_with fail
      refine (unhide (X _ HT.out.b)).mono ?_
      rintro r w1 ⟨rfl, b1⟩
      have HT1 := hide (HT.out.on b1)
      obtain ⟨d0, d1, d2, d3, d4, d5, d6, d7, d8, d9, d10, d11⟩ := evCells HT1.out.e
      clear X HT b1
      go_wp2_with fail
      refine (unhide (Y _)).mono ?_
      rintro r w2 ⟨rfl, b2⟩
      have HT2 := hide (HT1.out.on b2)
      clear Y HT1 b2 d0 d1 d2 d3 d4 d5 d6 d7 d8 d9 d10 d11
      obtain ⟨d0, d1, d2, d3, d4, d5, d6, d7, d8, d9, d10, d11⟩ := evCells HT2.out.e
      obtain ⟨c0, c1, c2, c3, c4, c5, c6⟩ := ecCells1 HT2.out.x
      go_wp2_with fail
      refine (unhide (Z _ HT2.out.b)).mono ?_
      rintro r w3 ⟨rfl, b3⟩
      have HT3 := hide (HT2.out.on b3)
      clear Z HT2 b3 d0 d1 d2 d3 d4 d5 d6 d7 d8 d9 d10 d11 c0 c1 c2 c3 c4 c5 c6
      go_wp2
      go_ret
      exact ⟨ret_bool E.out.symm, HT3.out.b⟩
end Go.Proofs.YtlfhpocfacaaeaaGreat
/-
  Steps of regions, of the fifth layer: new blocks and rows of expressions; the contracts of the layer in one form.
-/
set_option linter.unusedSimpArgs false
set_option linter.unusedVariables false
namespace Go.Proofs.YtlfhpocfacaaeaaGreat
open Go.RowKit

/-- An expression as a value. -/
def Xp (n : Nat) (w : World) (c : EC) (x : ExV) : Prop := ExAt n w c.val x
theorem Xp.on {n : Nat} {w w' : World} {c : EC} {x : ExV} (h : Xp n w c x) (hb : Below w.heap.size w w') : Xp n w' c x := ExAt.on hb n h
/-- A set in a block of its own. -/
def StB (w : World) (g : Nat) (s : SC) : Prop := w.heap[g]? = some (stObj s)
theorem StB.on {w w' : World} {g : Nat} {s : SC} (h : StB w g s) (hb : Below w.heap.size w w') : StB w' g s := (hb.block _ (lt_heap h)).trans h
def vaZ : Va := (0, 0, ⟨#[]⟩)
def evZ : EvV := ⟨vaZ, vaZ, vaZ, vaZ⟩
theorem evZ_fit : evFit evZ := ⟨Nat.zero_le _, Nat.zero_le _, Nat.zero_le _, Nat.zero_le _⟩
section
variable {ops : Array Oper} {Q : Exit → Act → World → Prop} {S : World → Prop} {o : Oper} {a : Act}
set_option maxRecDepth 100000 in
theorem wl_boxEx {rest : List Oper} {w : World} (hw : Region.wanted o (yielded ops a.tmps) = true) (x : Operand) (ho : o.op = .box 28 x) {c : EC} (hx : a.eval x = c.val)
    (h : ∀ W g, ExIn W g c → Below w.heap.size w W → wpList Tryz.prog ops Q rest (a.put o.dst (.pointer (some ⟨g, 0, none⟩))) W) : wpList Tryz.prog ops Q (o :: rest) a w := by
  refine wl_run hw (.pointer (some ⟨w.heap.size, 0, none⟩)) (w.alloc (exObj c)) ?_ (h _ _ (heap_new _ _) ((Below.refl _ w).alloc (Nat.le_refl _) _))
  simp only [execOp, ho, hx, EC.val, exObj]
  go_simp
set_option maxRecDepth 100000 in
theorem wl_evBox {rest : List Oper} {w : World} (hw : Region.wanted o (yielded ops a.tmps) = true) (x : Operand) (ho : o.op = .box 42 x) {e : EvV} (hx : a.eval x = evVal e)
    (h : ∀ W g, EvIn W g e → Below w.heap.size w W → wpList Tryz.prog ops Q rest (a.put o.dst (.pointer (some ⟨g, 0, none⟩))) W) : wpList Tryz.prog ops Q (o :: rest) a w := by
  refine wl_run hw (.pointer (some ⟨w.heap.size, 0, none⟩)) (w.alloc (evObj e)) ?_ (h _ _ (heap_new _ _) ((Below.refl _ w).alloc (Nat.le_refl _) _))
  simp only [execOp, ho, hx, evVal, evObj]
  go_simp
set_option maxRecDepth 100000 in
/-- A new block, and an expression stored there. -/
theorem wl_newEx {o2 : Oper} {rest : List Oper} {w : World} (hw : Region.wanted o (yielded ops a.tmps) = true) (ho : o.op = .alloc 28) (x y : Operand) (ho2 : o2.op = .store 28 x y) (hg2 : o2.guard = none)
    (hx : ∀ v, (a.put o.dst v).eval x = v) {c : EC} (hy : ∀ v, (a.put o.dst v).eval y = c.val)
    (h : ∀ W g, ExIn W g c → Below w.heap.size w W → wpList Tryz.prog ops Q rest ((a.put o.dst (.pointer (some ⟨g, 0, none⟩))).put o2.dst undef) W) : wpList Tryz.prog ops Q (o :: o2 :: rest) a w := by
  refine wl_run hw (.pointer (some ⟨w.heap.size, 0, none⟩)) (w.alloc (exObj ec0)) ?_ ?_
  · simp only [execOp, ho, exObj, ec0, SC.zero]
    go_simp
  · have hz : ExIn (w.alloc (exObj ec0)) w.heap.size ec0 := heap_new _ _
    have ht : (w.alloc (exObj ec0)).there w.heap.size 0 7 := fun j hj => by
      refine ⟨?_, soft_heap hz _⟩
      rw [hz.ec.range j _ (List.getElem?_eq_getElem (show j < ec0.list.length from hj))]
      rfl
    refine wpList_store_mid hg2 28 x y ho2 w.heap.size 0 c.list.toArray (hx _) (hy _) ht (by rw [infoEx]; rfl) (all_oneCell_toArray c.list_one) ?_
    refine h _ _ ?_ (Below.setCells w.heap.size (Nat.le_refl _) c.list 0 _ ((Below.refl _ w).alloc (Nat.le_refl _) _))
    exact heap_put (heap_put (heap_put (heap_put (heap_put (heap_put (heap_put hz 0 (.int .i64 c.k)) 1 (.int .i64 c.t)) 2 (.bool c.s.a)) 3 (.slice c.s.p c.s.n c.s.c)) 4 (.bool c.s.d)) 5 (.slice c.s.q c.s.m c.s.e)) 6 (.slice c.p c.n c.c)
theorem yl_zeroE (hw : Region.wanted o (yielded ops a.tmps) = true) (ho : o.op = .build 42 #[]) : YieldsIf Tryz.prog ops S o (evVal evZ) a :=
  Or.inl ⟨hw, fun w _ => by
    simp only [execOp, ho, evVal, evZ, vaZ]
    go_simp⟩
theorem yl_zeroX (hw : Region.wanted o (yielded ops a.tmps) = true) (ho : o.op = .build 28 #[]) : YieldsIf Tryz.prog ops S o ec0.val a :=
  Or.inl ⟨hw, fun w _ => by
    simp only [execOp, ho, EC.val, ec0, SC.zero]
    go_simp⟩
theorem yl_neqB (hw : Region.wanted o (yielded ops a.tmps) = true) (x y : Operand) (t : TypeId) (ho : o.op = .binOp .neq 4 x y t) (p q : Bool) (hx : a.eval x = .bool p) (hy : a.eval y = .bool q) : YieldsIf Tryz.prog ops S o (.bool (p != q)) a :=
  Or.inl ⟨hw, fun w hS => by
    simp only [execOp, ho, hx, hy]
    go_simp
    cases p <;> cases q <;> rfl⟩
end

/-! ### What may be gone over -/
theorem count_sub {f : Nat} {x y : ExV} (h : countX (f + 1) x < 100) (hy : y ∈ x.sub) : countX f y < 100 := by
  have hg : ∀ (l : List ExV) (n : Int), l.foldl (fun n y => if n < 100 then n + countX f y else n) n < 100 → 0 ≤ n → y ∈ l → countX f y < 100 := by
    intro l
    induction l with
    | nil => intro n _ _ h; cases h
    | cons z l ih =>
      intro n h h0 hm
      rw [List.foldl_cons] at h
      have hz := countX_pos f z
      have h2 := count_len f l _ h
      by_cases hn : n < 100
      · rw [if_pos hn] at h h2
        rcases List.mem_cons.1 hm with rfl | hm
        · omega
        · exact ih _ h (by omega) hm
      · rw [if_neg hn] at h h2
        omega
  unfold countX at h
  exact hg x.sub 1 (by omega) (by omega) hy
theorem cp_of : ∀ (k f n : Nat) (x : ExV), lowX k x → lowX n x → countX f x < 100 → setsX n x = true → cpX k x
  | 0, _, _, _, h, _, _, _ => by cases h
  | k + 1, 0, _, _, _, _, h, _ => by unfold countX at h; omega
  | k + 1, f + 1, 0, _, _, h, _, _ => by cases h
  | k + 1, f + 1, n + 1, x, hk, hn, hc, hs => by
    unfold setsX at hs
    rw [Bool.and_eq_true, List.all_eq_true] at hs
    have hf := hs.1
    unfold fewB at hf
    simp only [Bool.and_eq_true, decide_eq_true_eq] at hf
    have hc' := hc
    unfold countX at hc'
    have hl := count_len f x.sub 1 (by omega)
    exact ⟨by omega, by omega, by omega, fun y hy => cp_of k f n y (hk y hy) (hn y hy) (count_sub hc hy) (hs.2 y hy)⟩
theorem few_low {n : Nat} {x : ExV} (h : fewX n x = true) : lowX 19 x := by
  unfold fewX at h
  simp only [Bool.and_eq_true, decide_eq_true_eq] at h
  exact deep_low 21 19 x (by omega) (by omega) (by omega) (by omega)
theorem few_cp {n : Nat} {w : World} {c : EC} {x : ExV} (hx : Xp n w c x) (h : fewX n x = true) : Xp 19 w c x ∧ cpX 19 x := by
  have l19 := few_low h
  unfold fewX at h
  simp only [Bool.and_eq_true, decide_eq_true_eq] at h
  exact ⟨ExAt.shrink n 19 hx l19, cp_of 19 21 n x l19 (ExAt.low n hx) h.1.1 h.2⟩
theorem cp_nil (n : Nat) : ∀ y ∈ ([] : List ExV), cpX n y := fun y h => by cases h

/-! ### The contracts in one form -/
theorem c_refFew {n : Nat} {w : World} {c : EC} {x : ExV} (h : Xp n w c x) : Calls Tryz.prog 11 #[c.val] w fun r w' => r = .returned (.bool (fewX n x)) ∧ Below w.heap.size w w' := refFewX_any n x c.val w h
theorem c_and {n : Nat} {w : World} {v : Value} {l : List ExV} (h : RowsX n w v l) (hl : l.length ≤ 1000) (hcp : ∀ y ∈ l, cpX n y) : Calls Tryz.prog 27 #[v] w fun r w' => (∃ d : EC, r = .returned d.val ∧ Xp (n + 1) w' d (andX l)) ∧ Below w.heap.size w w' := progAnd_any n v l w h hl hcp
theorem c_or {n : Nat} {w : World} {v : Value} {l : List ExV} (h : RowsX n w v l) (hl : l.length ≤ 1000) (hcp : ∀ y ∈ l, cpX n y) : Calls Tryz.prog 28 #[v] w fun r w' => (∃ d : EC, r = .returned d.val ∧ Xp (n + 1) w' d (orX l)) ∧ Below w.heap.size w w' := progOr_any n v l w h hl hcp
theorem c_and0 (w : World) : Calls Tryz.prog 27 #[.slice none 0 0] w fun r w' => (∃ d : EC, r = .returned d.val ∧ Xp 1 w' d (andX [])) ∧ Below w.heap.size w w' := progAnd_any 0 _ [] w (RowsX.nil 0 w) (by simp) (cp_nil 0)
theorem c_or0 (w : World) : Calls Tryz.prog 28 #[.slice none 0 0] w fun r w' => (∃ d : EC, r = .returned d.val ∧ Xp 1 w' d (orX [])) ∧ Below w.heap.size w w' := progOr_any 0 _ [] w (RowsX.nil 0 w) (by simp) (cp_nil 0)
theorem c_not {n : Nat} {w : World} {c : EC} {x : ExV} (h : Xp n w c x) (hcp : cpX n x) : Calls Tryz.prog 25 #[c.val] w fun r w' => (∃ d : EC, r = .returned d.val ∧ Xp (n + 1) w' d (notX x)) ∧ Below w.heap.size w w' := progNot_any n c x w h hcp
theorem c_right {n : Nat} {w : World} {c : EC} {x : ExV} (h : Xp n w c x) (hn : n ≤ 1000) : Calls Tryz.prog 34 #[c.val] w fun r w' => r = .returned (.bool (rightX x)) ∧ Below w.heap.size w w' := progRight_any n c x w h hn
theorem c_eval {n : Nat} {w : World} {c : EC} {x : ExV} {e : EvV} (h : Xp n w c x) (hn : n ≤ 1000) (hf : evFit e) : Calls Tryz.prog 26 #[c.val, evVal e] w fun r w' => r = .returned (.bool (evalX x e)) ∧ Below w.heap.size w w' := progEval_any n c x e w h hn hf
end Go.Proofs.YtlfhpocfacaaeaaGreat
/-
  The closures over box.In and box.Has; liesInOne, Has.
-/
set_option linter.unusedSimpArgs false
set_option linter.unusedVariables false
namespace Go.Proofs.YtlfhpocfacaaeaaGreat
open Go.RowKit

set_option maxHeartbeats 4000000 in
set_option maxRecDepth 100000 in
theorem tidied1_any (c d : BxC) (g : Nat) (a b : BoxV) (w : World) (hv : BoxAt w c.val a) (HQ : BcIn w g d) (hu : BoxAt w d.val b) (fa : FitBx a) (fb : FitBx b) :
    Calls Tryz.prog 83 #[c.val, .pointer (some ⟨g, 0, none⟩)] w fun r w' => r = .returned (.bool (inBx a b)) ∧ Below w.heap.size w w' := by
  have D := Below.refl w.heap.size w
  go_enter Tryz.func83, Tryz.ntmps83
  refine wp_seq_k (fun K1 hK1 => ?_)
  refine wp_region_lit ?_
  refine wl_boxBc (o := ⟨_, _, _, _, _, _⟩) (by rfl) _ rfl rfl (fun v1 gb1 hggb1 IO2 kb => ?_)
  simp only [Act.put, List.setIfInBounds_toArray, List.set_cons_zero, List.set_cons_succ]
  replace D := D.trans (kb.mono D.size)
  replace HQ := HQ.on kb
  replace hv := hv.on kb
  replace hu := hu.on kb
  clear kb
  refine wl_yield (o := ⟨_, _, _, _, _, _⟩) (.bool false) (yl_assign (by rfl) _ rfl _ rfl) ?_
  simp only [Act.put, List.setIfInBounds_toArray, List.set_cons_zero, List.set_cons_succ]
  refine wpList_nil ?_
  refine hK1 _ _ ?_
  clear hK1 K1
  refine wp_seq_k (fun K2 hK2 => ?_)
  refine wp_region_lit ?_
  refine wl_yield (o := ⟨_, _, _, _, _, _⟩) (BxC.val c) (yl_bx (by rfl) _ rfl _ _ rfl _ (fun _ h => by subst h; exact BcIn.at IO2)) ?_
  simp only [Act.put, List.setIfInBounds_toArray, List.set_cons_zero, List.set_cons_succ]
  refine wl_yield (o := ⟨_, _, _, _, _, _⟩) (BxC.val d) (yl_bx (by rfl) _ rfl _ _ rfl _ (fun _ h => by subst h; exact BcIn.at HQ)) ?_
  simp only [Act.put, List.setIfInBounds_toArray, List.set_cons_zero, List.set_cons_succ]
  refine wl_call (o := ⟨_, _, _, _, _, _⟩) (by rfl) 84 _ _ rfl #[BxC.val c, BxC.val d] rfl (run_call Tryz.func84 (by kernel_rfl) (by kernel_rfl)) ?_
  refine (boxProg0.in_ _ _ a b _ hv hu fa fb).mono ?_
  rintro r v2 ⟨rfl, kb⟩
  replace D := D.trans (kb.mono D.size)
  replace HQ := HQ.on kb
  replace hv := hv.on kb
  replace hu := hu.on kb
  replace IO2 := IO2.on kb
  clear kb
  refine ⟨.bool (inBx a b), rfl, ?_⟩
  simp only [Act.put, List.setIfInBounds_toArray, List.set_cons_zero, List.set_cons_succ]
  refine wl_yield (o := ⟨_, _, _, _, _, _⟩) (.bool (inBx a b)) (yl_assign (by rfl) _ rfl _ rfl) ?_
  simp only [Act.put, List.setIfInBounds_toArray, List.set_cons_zero, List.set_cons_succ]
  refine wpList_nil ?_
  refine hK2 _ _ ?_
  clear hK2 K2
  refine wp_ret ?_
  go_ret
  exact ⟨rfl, D⟩
set_option maxHeartbeats 4000000 in
set_option maxRecDepth 100000 in
theorem lies1_any (c d : BxC) (g : Nat) (a b : BoxV) (w : World) (hv : BoxAt w c.val a) (HQ : BcIn w g d) (hu : BoxAt w d.val b) (fa : FitBx a) (fb : FitBx b) :
    Calls Tryz.prog 114 #[c.val, .pointer (some ⟨g, 0, none⟩)] w fun r w' => r = .returned (.bool (inBx b a)) ∧ Below w.heap.size w w' := by
  have D := Below.refl w.heap.size w
  go_enter Tryz.func114, Tryz.ntmps114
  refine wp_seq_k (fun K1 hK1 => ?_)
  refine wp_region_lit ?_
  refine wl_boxBc (o := ⟨_, _, _, _, _, _⟩) (by rfl) _ rfl rfl (fun v1 gb1 hggb1 IO2 kb => ?_)
  simp only [Act.put, List.setIfInBounds_toArray, List.set_cons_zero, List.set_cons_succ]
  replace D := D.trans (kb.mono D.size)
  replace HQ := HQ.on kb
  replace hv := hv.on kb
  replace hu := hu.on kb
  clear kb
  refine wl_yield (o := ⟨_, _, _, _, _, _⟩) (.bool false) (yl_assign (by rfl) _ rfl _ rfl) ?_
  simp only [Act.put, List.setIfInBounds_toArray, List.set_cons_zero, List.set_cons_succ]
  refine wpList_nil ?_
  refine hK1 _ _ ?_
  clear hK1 K1
  refine wp_seq_k (fun K2 hK2 => ?_)
  refine wp_region_lit ?_
  refine wl_yield (o := ⟨_, _, _, _, _, _⟩) (BxC.val d) (yl_bx (by rfl) _ rfl _ _ rfl _ (fun _ h => by subst h; exact BcIn.at HQ)) ?_
  simp only [Act.put, List.setIfInBounds_toArray, List.set_cons_zero, List.set_cons_succ]
  refine wl_yield (o := ⟨_, _, _, _, _, _⟩) (BxC.val c) (yl_bx (by rfl) _ rfl _ _ rfl _ (fun _ h => by subst h; exact BcIn.at IO2)) ?_
  simp only [Act.put, List.setIfInBounds_toArray, List.set_cons_zero, List.set_cons_succ]
  refine wl_call (o := ⟨_, _, _, _, _, _⟩) (by rfl) 84 _ _ rfl #[BxC.val d, BxC.val c] rfl (run_call Tryz.func84 (by kernel_rfl) (by kernel_rfl)) ?_
  refine (boxProg0.in_ _ _ b a _ hu hv fb fa).mono ?_
  rintro r v2 ⟨rfl, kb⟩
  replace D := D.trans (kb.mono D.size)
  replace HQ := HQ.on kb
  replace hv := hv.on kb
  replace hu := hu.on kb
  replace IO2 := IO2.on kb
  clear kb
  refine ⟨.bool (inBx b a), rfl, ?_⟩
  simp only [Act.put, List.setIfInBounds_toArray, List.set_cons_zero, List.set_cons_succ]
  refine wl_yield (o := ⟨_, _, _, _, _, _⟩) (.bool (inBx b a)) (yl_assign (by rfl) _ rfl _ rfl) ?_
  simp only [Act.put, List.setIfInBounds_toArray, List.set_cons_zero, List.set_cons_succ]
  refine wpList_nil ?_
  refine hK2 _ _ ?_
  clear hK2 K2
  refine wp_ret ?_
  go_ret
  exact ⟨rfl, D⟩
set_option maxHeartbeats 4000000 in
set_option maxRecDepth 100000 in
theorem has1_any (c : BxC) (e : EvV) (g : Nat) (a : BoxV) (w : World) (hv : BoxAt w c.val a) (HE : EvIn w g e) (fa : FitBx a) (hf : evFit e) (he : inE e) :
    Calls Tryz.prog 40 #[c.val, .pointer (some ⟨g, 0, none⟩)] w fun r w' => r = .returned (.bool (hasE a e)) ∧ Below w.heap.size w w' := by
  have D := Below.refl w.heap.size w
  go_enter Tryz.func40, Tryz.ntmps40
  refine wp_seq_k (fun K1 hK1 => ?_)
  refine wp_region_lit ?_
  refine wl_boxBc (o := ⟨_, _, _, _, _, _⟩) (by rfl) _ rfl rfl (fun v1 gb1 hggb1 IO2 kb => ?_)
  simp only [Act.put, List.setIfInBounds_toArray, List.set_cons_zero, List.set_cons_succ]
  replace D := D.trans (kb.mono D.size)
  replace HE := HE.on kb
  replace hv := hv.on kb
  clear kb
  refine wl_yield (o := ⟨_, _, _, _, _, _⟩) (.bool false) (yl_assign (by rfl) _ rfl _ rfl) ?_
  simp only [Act.put, List.setIfInBounds_toArray, List.set_cons_zero, List.set_cons_succ]
  refine wpList_nil ?_
  refine hK1 _ _ ?_
  clear hK1 K1
  refine wp_seq_k (fun K2 hK2 => ?_)
  refine wp_region_lit ?_
  refine wl_yield (o := ⟨_, _, _, _, _, _⟩) (BxC.val c) (yl_bx (by rfl) _ rfl _ _ rfl _ (fun _ h => by subst h; exact BcIn.at IO2)) ?_
  simp only [Act.put, List.setIfInBounds_toArray, List.set_cons_zero, List.set_cons_succ]
  refine wl_yield (o := ⟨_, _, _, _, _, _⟩) (evVal e) (yl_ev (by rfl) _ rfl _ 0 rfl _ _ _ _ _ _ _ _ _ _ _ _ (fun _ h => by subst h; exact evCells HE)) ?_
  simp only [Act.put, List.setIfInBounds_toArray, List.set_cons_zero, List.set_cons_succ]
  refine wl_call (o := ⟨_, _, _, _, _, _⟩) (by rfl) 41 _ _ rfl #[BxC.val c, evVal e] rfl (run_call Tryz.func41 (by kernel_rfl) (by kernel_rfl)) ?_
  refine (boxProg0.has _ a e _ hv fa hf he).mono ?_
  rintro r v2 ⟨rfl, kb⟩
  replace D := D.trans (kb.mono D.size)
  replace HE := HE.on kb
  replace hv := hv.on kb
  replace IO2 := IO2.on kb
  clear kb
  refine ⟨.bool (hasE a e), rfl, ?_⟩
  simp only [Act.put, List.setIfInBounds_toArray, List.set_cons_zero, List.set_cons_succ]
  refine wl_yield (o := ⟨_, _, _, _, _, _⟩) (.bool (hasE a e)) (yl_assign (by rfl) _ rfl _ rfl) ?_
  simp only [Act.put, List.setIfInBounds_toArray, List.set_cons_zero, List.set_cons_succ]
  refine wpList_nil ?_
  refine hK2 _ _ ?_
  clear hK2 K2
  refine wp_ret ?_
  go_ret
  exact ⟨rfl, D⟩
def FitL (l : List BoxV) : Prop := ∀ b ∈ l, FitBx b
theorem range_anyC (f : BoxV → Bool) {cs : List BxC} {l : List BoxV} (h : cs.length = l.length) : (List.range cs.length).any (fun i => f (l.getD i zBox)) = l.any f := by rw [h]; exact range_anyB f l
set_option maxHeartbeats 4000000 in
set_option maxRecDepth 100000 in
theorem liesInOne_any (d : BxC) (b : BoxV) (v : Value) (cs : List BxC) (l : List BoxV) (w : World) (hu : BoxAt w d.val b) (fb : FitBx b) (hr : BxRow w v cs) (ha : AllBx w cs l) (fl : FitL l) :
    Calls Tryz.prog 81 #[d.val, v] w fun r w' => r = .returned (.bool (l.any fun k => inBx b k)) ∧ Below w.heap.size w w' := by
  have D := Below.refl w.heap.size w
  go_enter Tryz.func81, Tryz.ntmps81
  refine wp_seq_k (fun K1 hK1 => ?_)
  refine wp_region_lit ?_
  refine wl_boxBc (o := ⟨_, _, _, _, _, _⟩) (by rfl) _ rfl rfl (fun v1 gb1 hggb1 HQ kb => ?_)
  simp only [Act.put, List.setIfInBounds_toArray, List.set_cons_zero, List.set_cons_succ]
  replace D := D.trans (kb.mono D.size)
  clear kb
  refine wl_yield (o := ⟨_, _, _, _, _, _⟩) (.bool false) (yl_assign (by rfl) _ rfl _ rfl) ?_
  simp only [Act.put, List.setIfInBounds_toArray, List.set_cons_zero, List.set_cons_succ]
  refine wpList_nil ?_
  refine hK1 _ _ ?_
  clear hK1 K1
  refine wp_seq_k (fun K2 hK2 => ?_)
  refine wp_region_lit ?_
  refine wl_yield (o := ⟨_, _, _, _, _, _⟩) (v) (yl_move (by rfl) _ rfl _ rfl) ?_
  simp only [Act.put, List.setIfInBounds_toArray, List.set_cons_zero, List.set_cons_succ]
  refine wl_yield (o := ⟨_, _, _, _, _, _⟩) (.func (.func 114) #[] #[.pointer (some ⟨gb1, 0, none⟩)]) (yl_fn (by rfl) _ _ rfl _ rfl) ?_
  simp only [Act.put, List.setIfInBounds_toArray, List.set_cons_zero, List.set_cons_succ]
  refine wl_call (o := ⟨_, _, _, _, _, _⟩) (by rfl) 113 _ _ rfl #[v, .func (.func 114) #[] #[.pointer (some ⟨gb1, 0, none⟩)]] rfl (run_call Tryz.func113 (by kernel_rfl) (by kernel_rfl)) ?_
  refine (containsB_any 114 (run_call Tryz.func114 (by kernel_rfl) (by kernel_rfl)) _ v cs (fun i => inBx b (l.getD i zBox)) _ (hr.on D) (fun i hi W hb => lies1_any _ d _ _ b _ ((ha.2 i (by rw [← ha.1]; exact hi)).on (D.trans (hb.mono D.size))) (HQ.on hb) (hu.on (D.trans (hb.mono D.size))) (fl _ (getB_mem (by rw [← ha.1]; exact hi))) fb)).mono ?_
  rintro r v2 ⟨rfl, kb⟩
  replace D := D.trans (kb.mono D.size)
  replace HQ := HQ.on kb
  clear kb
  refine ⟨.bool ((List.range cs.length).any fun i => inBx b (l.getD i zBox)), rfl, ?_⟩
  simp only [Act.put, List.setIfInBounds_toArray, List.set_cons_zero, List.set_cons_succ]
  refine wl_yield (o := ⟨_, _, _, _, _, _⟩) (.bool ((List.range cs.length).any fun i => inBx b (l.getD i zBox))) (yl_assign (by rfl) _ rfl _ rfl) ?_
  simp only [Act.put, List.setIfInBounds_toArray, List.set_cons_zero, List.set_cons_succ]
  refine wpList_nil ?_
  refine hK2 _ _ ?_
  clear hK2 K2
  refine wp_ret ?_
  go_ret
  exact ⟨by rw [range_anyC (fun k => inBx b k) ha.1]; rfl, D⟩
set_option maxHeartbeats 4000000 in
set_option maxRecDepth 100000 in
theorem progHas_any (v : Value) (l : List BoxV) (e : EvV) (w : World) (hv : Bxs w v l) (fl : FitL l) (hf : evFit e) (he : inE e) :
    Calls Tryz.prog 15 #[v, evVal e] w fun r w' => r = .returned (.bool (hasL l e)) ∧ Below w.heap.size w w' := by
  obtain ⟨cs, hr, ha⟩ := hv
  have D := Below.refl w.heap.size w
  go_enter Tryz.func15, Tryz.ntmps15
  refine wp_seq_k (fun K1 hK1 => ?_)
  refine wp_region_lit ?_
  refine wl_evBox (o := ⟨_, _, _, _, _, _⟩) (by rfl) _ rfl rfl (fun v1 gb1 HE kb => ?_)
  simp only [Act.put, List.setIfInBounds_toArray, List.set_cons_zero, List.set_cons_succ]
  replace D := D.trans (kb.mono D.size)
  clear kb
  refine wl_yield (o := ⟨_, _, _, _, _, _⟩) (.bool false) (yl_assign (by rfl) _ rfl _ rfl) ?_
  simp only [Act.put, List.setIfInBounds_toArray, List.set_cons_zero, List.set_cons_succ]
  refine wpList_nil ?_
  refine hK1 _ _ ?_
  clear hK1 K1
  refine wp_seq_k (fun K2 hK2 => ?_)
  refine wp_region_lit ?_
  refine wl_yield (o := ⟨_, _, _, _, _, _⟩) (v) (yl_move (by rfl) _ rfl _ rfl) ?_
  simp only [Act.put, List.setIfInBounds_toArray, List.set_cons_zero, List.set_cons_succ]
  refine wl_yield (o := ⟨_, _, _, _, _, _⟩) (.func (.func 40) #[] #[.pointer (some ⟨gb1, 0, none⟩)]) (yl_fn (by rfl) _ _ rfl _ rfl) ?_
  simp only [Act.put, List.setIfInBounds_toArray, List.set_cons_zero, List.set_cons_succ]
  refine wl_call (o := ⟨_, _, _, _, _, _⟩) (by rfl) 39 _ _ rfl #[v, .func (.func 40) #[] #[.pointer (some ⟨gb1, 0, none⟩)]] rfl (run_call Tryz.func39 (by kernel_rfl) (by kernel_rfl)) ?_
  refine (containsF_any 40 (run_call Tryz.func40 (by kernel_rfl) (by kernel_rfl)) _ v cs (fun i => hasE (l.getD i zBox) e) _ (hr.on D) (fun i hi W hb => has1_any _ e _ _ _ ((ha.2 i (by rw [← ha.1]; exact hi)).on (D.trans (hb.mono D.size))) (HE.on hb) (fl _ (getB_mem (by rw [← ha.1]; exact hi))) hf he)).mono ?_
  rintro r v2 ⟨rfl, kb⟩
  replace D := D.trans (kb.mono D.size)
  replace HE := HE.on kb
  clear kb
  refine ⟨.bool ((List.range cs.length).any fun i => hasE (l.getD i zBox) e), rfl, ?_⟩
  simp only [Act.put, List.setIfInBounds_toArray, List.set_cons_zero, List.set_cons_succ]
  refine wl_yield (o := ⟨_, _, _, _, _, _⟩) (.bool ((List.range cs.length).any fun i => hasE (l.getD i zBox) e)) (yl_assign (by rfl) _ rfl _ rfl) ?_
  simp only [Act.put, List.setIfInBounds_toArray, List.set_cons_zero, List.set_cons_succ]
  refine wpList_nil ?_
  refine hK2 _ _ ?_
  clear hK2 K2
  refine wp_ret ?_
  go_ret
  exact ⟨by rw [range_anyC (fun k => hasE k e) ha.1]; rfl, D⟩
end Go.Proofs.YtlfhpocfacaaeaaGreat
/-
  The program's tidied.
-/
set_option linter.unusedSimpArgs false
set_option linter.unusedVariables false
namespace Go.Proofs.YtlfhpocfacaaeaaGreat
open Go.RowKit

theorem allBx_snoc {w : World} {ks : List BxC} {L : List BoxV} {c : BxC} {b : BoxV} (h : AllBx w ks L) (hb : BoxAt w c.val b) : AllBx w (ks ++ [c]) (L ++ [b]) := by
  refine ⟨by rw [List.length_append, List.length_append, h.1]; rfl, fun i hi => ?_⟩
  rw [List.length_append, List.length_singleton] at hi
  by_cases hi' : i < L.length
  · rw [getB_lt hi', List.getD_eq_getElem?_getD, List.getElem?_append_left (by rw [h.1]; exact hi'), ← List.getD_eq_getElem?_getD]
    exact h.2 i hi'
  · have e : i = L.length := by omega
    subst e
    rw [getB_end, List.getD_eq_getElem?_getD, ← h.1, List.getElem?_append_right (Nat.le_refl _)]
    simpa using hb
theorem allBx_filter {w : World} {ks : List BxC} {L : List BoxV} (h : AllBx w ks L) (q : BoxV → Bool) : ∀ m, m ≤ L.length → AllBx w (keptB (fun i => q (L.getD i zBox)) ks m) ((L.take m).filter fun k => !q k)
  | 0, _ => ⟨by simp [keptB], fun i hi => by simp at hi⟩
  | m + 1, hm => by
    have ih := allBx_filter h q m (by omega)
    have e : L.take (m + 1) = L.take m ++ [L.getD m zBox] := by
      rw [List.take_add_one, List.getD_eq_getElem?_getD, List.getElem?_eq_getElem (by omega)]
      rfl
    rw [e, List.filter_append]
    cases hq : q (L.getD m zBox)
    · rw [keptB_no hq, show [L.getD m zBox].filter (fun k => !q k) = [L.getD m zBox] by rw [List.filter_cons, List.filter_nil, hq]; rfl]
      exact allBx_snoc ih (h.2 m (by omega))
    · rw [keptB_yes hq, show [L.getD m zBox].filter (fun k => !q k) = [] by rw [List.filter_cons, List.filter_nil, hq]; rfl, List.append_nil]
      exact ih
theorem tidP_take (l : List BoxV) (k : Nat) (hk : k < l.length) : tidP (l.take (k + 1)) = stepT (tidP (l.take k)) (l.getD k zBox) := by
  have h1 : l.take (k + 1) = l.take k ++ [l.getD k zBox] := by
    rw [List.take_add_one, List.getD_eq_getElem?_getD, List.getElem?_eq_getElem hk]
    rfl
  unfold tidP
  rw [h1, List.foldl_append]
  rfl
theorem stepT_len (L : List BoxV) (b : BoxV) : (stepT L b).length ≤ L.length + 1 := by
  unfold stepT
  split
  · omega
  · rw [List.length_append, List.length_singleton]
    have := List.length_filter_le (fun k => !inBx k b) L
    omega
theorem tidP_len (l : List BoxV) : ∀ k, k ≤ l.length → (tidP (l.take k)).length ≤ k
  | 0, _ => by simp [tidP]
  | k + 1, hk => by
    rw [tidP_take l k (by omega)]
    have := tidP_len l k (by omega)
    have := stepT_len (tidP (l.take k)) (l.getD k zBox)
    omega
theorem stepT_mem {L : List BoxV} {b x : BoxV} (h : x ∈ stepT L b) : x ∈ L ∨ x = b := by
  unfold stepT at h
  split at h
  · exact Or.inl h
  · rcases List.mem_append.1 h with h | h
    · exact Or.inl (List.mem_filter.1 h).1
    · exact Or.inr (List.mem_singleton.1 h)
theorem tidP_mem (l : List BoxV) : ∀ k, k ≤ l.length → ∀ x ∈ tidP (l.take k), x ∈ l
  | 0, _, x, h => by simp [tidP] at h
  | k + 1, hk, x, h => by
    rw [tidP_take l k (by omega)] at h
    rcases stepT_mem h with h | rfl
    · exact tidP_mem l k (by omega) x h
    · exact getB_mem (by omega)
theorem tidied_step {w : World} {ks ks' : List BxC} {l : List BoxV} {c : BxC} {k : Nat} (hA : AllBx w ks (tidP (l.take k))) (hk : k < l.length) (hb : BoxAt w c.val (l.getD k zBox))
    (h : (emptyBx (l.getD k zBox) = false ∧ ((tidP (l.take k)).any fun k' => inBx (l.getD k zBox) k') = false ∧ ks' = keptB (fun i => inBx ((tidP (l.take k)).getD i zBox) (l.getD k zBox)) ks ks.length ++ [c]) ∨
      ((emptyBx (l.getD k zBox) = true ∨ ((tidP (l.take k)).any fun k' => inBx (l.getD k zBox) k') = true) ∧ ks' = ks)) : AllBx w ks' (tidP (l.take (k + 1))) := by
  rw [tidP_take l k hk]
  unfold stepT
  rcases h with ⟨h1, h2, rfl⟩ | ⟨h, rfl⟩
  · rw [h1, h2, Bool.or_false, if_neg (by simp)]
    have := allBx_filter hA (fun x => inBx x (l.getD k zBox)) _ (Nat.le_refl _)
    rw [List.take_length, ← hA.1] at this
    exact allBx_snoc this hb
  · rw [if_pos (by rcases h with h | h <;> rw [h] <;> simp)]
    exact hA
set_option maxHeartbeats 4000000 in
set_option maxRecDepth 100000 in
theorem tidied_any (v : Value) (l : List BoxV) (w : World) (hv : Bxs w v l) (fl : FitL l) (hl : l.length ≤ 1000) :
    Calls Tryz.prog 47 #[v] w fun r w' => (∃ u ks, r = .returned u ∧ OwnB w' w.heap.size u ks ∧ AllBx w' ks (tidP l)) ∧ Below w.heap.size w w' := by
  obtain ⟨cs, hr, ha⟩ := hv
  have hbig := hr.1
  have hcl := ha.1
  obtain ⟨q, cp, rfl⟩ := hr.form
  have D := Below.refl w.heap.size w
  go_enter Tryz.func47, Tryz.ntmps47
  refine wp_seq_k (fun K1 hK1 => ?_)
  refine wp_region_lit ?_
  refine wl_yield (o := ⟨_, _, _, _, _, _⟩) (.slice none 0 0) (yl_assign (by rfl) _ rfl _ rfl) ?_
  simp only [Act.put, List.setIfInBounds_toArray, List.set_cons_zero, List.set_cons_succ]
  refine wpList_nil ?_
  refine hK1 _ _ ?_
  clear hK1 K1
  refine wp_seq_k (fun K2 hK2 => ?_)
  refine wp_region_lit ?_
  refine wl_yield (o := ⟨_, _, _, _, _, _⟩) (.slice none 0 0) (yl_assign (by rfl) _ rfl _ rfl) ?_
  simp only [Act.put, List.setIfInBounds_toArray, List.set_cons_zero, List.set_cons_succ]
  refine wpList_nil ?_
  refine hK2 _ _ ?_
  clear hK2 K2
  refine wp_seq_k (fun K3 hK3 => ?_)
  refine wp_seq_k (fun K4 hK4 => ?_)
  refine wp_region_lit ?_
  refine wl_yield (o := ⟨_, _, _, _, _, _⟩) (.slice q cs.length cp) (yl_move (by rfl) _ rfl _ rfl) ?_
  simp only [Act.put, List.setIfInBounds_toArray, List.set_cons_zero, List.set_cons_succ]
  refine wl_yield (o := ⟨_, _, _, _, _, _⟩) (.int .i64 (cs.length : Nat)) (yl_lenB (by rfl) _ rfl _ _ _ rfl) ?_
  simp only [Act.put, List.setIfInBounds_toArray, List.set_cons_zero, List.set_cons_succ]
  refine wl_yield (o := ⟨_, _, _, _, _, _⟩) (.int .i64 0) (yl_move (by rfl) _ rfl _ rfl) ?_
  simp only [Act.put, List.setIfInBounds_toArray, List.set_cons_zero, List.set_cons_succ]
  refine wpList_nil ?_
  refine hK4 _ _ ?_
  clear hK4 K4
  refine wp_block ?_
  go_loopw [3, 8] (fun u i wr => ∃ (k : Nat) (ks : List BxC), i = .int .i64 k ∧ k ≤ cs.length ∧ OwnB wr w.heap.size u ks ∧ AllBx w ks (tidP (l.take k)) ∧ Below w.heap.size w wr) (fun _ i _ => cs.length - (intOf i).toNat)
  case atStart => exact ⟨0, [], rfl, by omega, ownB_nil _ _, ⟨rfl, fun i h => by simp [tidP] at h⟩, D⟩
  case round =>
    clear D
    obtain ⟨k, ks, rfl, hk, hown, hA, D⟩ := hrel
    by_cases hlt : k < cs.length
    · have hkl : k < l.length := by rw [← ha.1]; exact hlt
      obtain ⟨g, off, rfl, HC⟩ := (hr.on D).at.2 k hlt
      have hownR := hown
      have hKL := tidP_len l k (by omega)
      have hKM := tidP_mem l k (by omega)
      have hKF : FitL (tidP (l.take k)) := fun x hx => fl x (hKM x hx)
      have hks : ks.length ≤ 1000 := by rw [hA.1]; omega
      have fb : FitBx (l.getD k zBox) := fl _ (getB_mem hkl)
      have hb := ha.2 k hkl
      refine wp_seq_k (fun K5 hK5 => ?_)
      refine wp_region_lit ?_
      refine wl_yield (o := ⟨_, _, _, _, _, _⟩) (.bool true) (yl_lssI (by rfl) _ _ _ rfl (((k : Nat) : Int)) (((cs.length : Nat) : Int)) true rfl rfl (decide_eq_true (by omega))) ?_
      simp only [Act.put, List.setIfInBounds_toArray, List.set_cons_zero, List.set_cons_succ]
      refine wpList_nil ?_
      refine hK5 _ _ ?_
      clear hK5 K5
      refine wp_seq_k (fun K6 hK6 => ?_)
      refine wp_cond_true rfl ?_
      refine wp_skip ?_
      refine hK6 _ _ ?_
      clear hK6 K6
      refine wp_seq_k (fun K7 hK7 => ?_)
      refine wp_block ?_
      refine wp_seq_k (fun K8 hK8 => ?_)
      refine wp_region_lit ?_
      refine wl_yield (o := ⟨_, _, _, _, _, _⟩) (.pointer (some ⟨g, off + k * 16, none⟩)) (yl_bxAt (by rfl) _ _ rfl g (off) _ _ (k) rfl rfl (hlt)) ?_
      simp only [Act.put, List.setIfInBounds_toArray, List.set_cons_zero, List.set_cons_succ]
      refine wl_yield (o := ⟨_, _, _, _, _, _⟩) (BxC.val (cs.getD k bc0)) (yl_bx (by rfl) _ rfl _ _ rfl _ (fun _ h => by subst h; exact HC)) ?_
      simp only [Act.put, List.setIfInBounds_toArray, List.set_cons_zero, List.set_cons_succ]
      refine wl_newB (o := ⟨_, _, _, _, _, _⟩) (o2 := ⟨_, _, _, _, _, _⟩) (by rfl) rfl _ _ rfl rfl (fun _ => rfl) (fun _ => rfl) (fun v1 gb1 hggb1 HQ kb => ?_)
      simp only [Act.put, List.setIfInBounds_toArray, List.set_cons_zero, List.set_cons_succ]
      replace D := D.trans (kb.mono D.size)
      replace hown := hown.on kb
      clear kb
      refine wpList_nil ?_
      refine hK8 _ _ ?_
      clear hK8 K8
      refine wp_seq_k (fun K9 hK9 => ?_)
      refine wp_seq_k (fun K10 hK10 => ?_)
      refine wp_region_lit ?_
      refine wl_yield (o := ⟨_, _, _, _, _, _⟩) (BxC.val (cs.getD k bc0)) (yl_bx (by rfl) _ rfl _ _ rfl _ (fun _ h => by subst h; exact BcIn.at HQ)) ?_
      simp only [Act.put, List.setIfInBounds_toArray, List.set_cons_zero, List.set_cons_succ]
      refine wl_call (o := ⟨_, _, _, _, _, _⟩) (by rfl) 80 _ _ rfl #[BxC.val (cs.getD k bc0)] rfl (run_call Tryz.func80 (by kernel_rfl) (by kernel_rfl)) ?_
      refine (boxProg0.empty _ _ _ (hb.on D) fb).mono ?_
      rintro r v2 ⟨rfl, kb⟩
      replace D := D.trans (kb.mono D.size)
      replace hown := hown.on kb
      replace HQ := HQ.on kb
      clear kb
      cases hq1 : emptyBx (l.getD k zBox)
      · refine ⟨.bool false, rfl, ?_⟩
        simp only [Act.put, List.setIfInBounds_toArray, List.set_cons_zero, List.set_cons_succ]
        refine wl_yield (o := ⟨_, _, _, _, _, _⟩) (.bool false) (yl_move (by rfl) _ rfl _ rfl) ?_
        simp only [Act.put, List.setIfInBounds_toArray, List.set_cons_zero, List.set_cons_succ]
        refine wl_yield (o := ⟨_, _, _, _, _, _⟩) (BxC.val (cs.getD k bc0)) (yl_bx (by rfl) _ rfl _ _ rfl _ (fun _ h => by subst h; exact BcIn.at HQ)) ?_
        simp only [Act.put, List.setIfInBounds_toArray, List.set_cons_zero, List.set_cons_succ]
        refine wl_yield (o := ⟨_, _, _, _, _, _⟩) (u3) (yl_move (by rfl) _ rfl _ rfl) ?_
        simp only [Act.put, List.setIfInBounds_toArray, List.set_cons_zero, List.set_cons_succ]
        refine wl_call (o := ⟨_, _, _, _, _, _⟩) (by rfl) 81 _ _ rfl #[BxC.val (cs.getD k bc0), u3] rfl (run_call Tryz.func81 (by kernel_rfl) (by kernel_rfl)) ?_
        refine (liesInOne_any (cs.getD k bc0) (l.getD k zBox) u3 ks (tidP (l.take k)) _ (hb.on D) fb (hown.row (by omega)) (hA.on D) hKF).mono ?_
        rintro r v3 ⟨rfl, kb⟩
        replace D := D.trans (kb.mono D.size)
        replace hown := hown.on kb
        replace HQ := HQ.on kb
        clear kb
        cases hq2 : (tidP (l.take k)).any fun k' => inBx (l.getD k zBox) k'
        · refine ⟨.bool false, rfl, ?_⟩
          simp only [Act.put, List.setIfInBounds_toArray, List.set_cons_zero, List.set_cons_succ]
          refine wl_yield (o := ⟨_, _, _, _, _, _⟩) (.bool false) (yl_pickF (by rfl) _ _ _ rfl rfl _ rfl) ?_
          simp only [Act.put, List.setIfInBounds_toArray, List.set_cons_zero, List.set_cons_succ]
          refine wpList_nil ?_
          refine hK10 _ _ ?_
          clear hK10 K10
          refine wp_cond_false rfl ?_
          refine wp_skip ?_
          refine hK9 _ _ ?_
          clear hK9 K9
          refine wp_seq_k (fun K11 hK11 => ?_)
          refine wp_region_lit ?_
          refine wl_yield (o := ⟨_, _, _, _, _, _⟩) (u3) (yl_move (by rfl) _ rfl _ rfl) ?_
          simp only [Act.put, List.setIfInBounds_toArray, List.set_cons_zero, List.set_cons_succ]
          refine wl_yield (o := ⟨_, _, _, _, _, _⟩) (.func (.func 83) #[] #[.pointer (some ⟨gb1, 0, none⟩)]) (yl_fn (by rfl) _ _ rfl _ rfl) ?_
          simp only [Act.put, List.setIfInBounds_toArray, List.set_cons_zero, List.set_cons_succ]
          refine wl_call (o := ⟨_, _, _, _, _, _⟩) (by rfl) 82 _ _ rfl #[u3, .func (.func 83) #[] #[.pointer (some ⟨gb1, 0, none⟩)]] rfl (run_call Tryz.func82 (by kernel_rfl) (by kernel_rfl)) ?_
          refine (deleteB_any 83 (run_call Tryz.func83 (by kernel_rfl) (by kernel_rfl)) _ u3 w.heap.size ks (fun i => inBx ((tidP (l.take k)).getD i zBox) (l.getD k zBox)) _ hown D.size hks (fun i hi W hW => tidied1_any _ _ _ _ _ _ ((hA.2 i (by rw [← hA.1]; exact hi)).on (D.trans hW.b)) ((hW.k _ (lt_heap HQ) (hownR.ne hggb1)).trans HQ) (hb.on (D.trans hW.b)) (hKF _ (getB_mem (by rw [← hA.1]; exact hi))) fb)).mono ?_
          rintro r v4 ⟨⟨u2, rfl, hown2⟩, kb⟩
          replace D := D.trans kb.b
          replace hown := hown2
          replace HQ : BcIn v4 gb1 (cs.getD k bc0) := (kb.k _ (lt_heap HQ) (hownR.ne hggb1)).trans HQ
          clear hown2 kb
          refine ⟨u2, rfl, ?_⟩
          simp only [Act.put, List.setIfInBounds_toArray, List.set_cons_zero, List.set_cons_succ]
          refine wl_yield (o := ⟨_, _, _, _, _, _⟩) (u2) (yl_assign (by rfl) _ rfl _ rfl) ?_
          simp only [Act.put, List.setIfInBounds_toArray, List.set_cons_zero, List.set_cons_succ]
          refine wpList_nil ?_
          refine hK11 _ _ ?_
          clear hK11 K11
          refine wp_region_lit ?_
          refine wl_yield (o := ⟨_, _, _, _, _, _⟩) (u2) (yl_move (by rfl) _ rfl _ rfl) ?_
          simp only [Act.put, List.setIfInBounds_toArray, List.set_cons_zero, List.set_cons_succ]
          refine wl_yield (o := ⟨_, _, _, _, _, _⟩) (BxC.val (cs.getD k bc0)) (yl_bx (by rfl) _ rfl _ _ rfl _ (fun _ h => by subst h; exact BcIn.at HQ)) ?_
          simp only [Act.put, List.setIfInBounds_toArray, List.set_cons_zero, List.set_cons_succ]
          refine wl_rowB1 (o := ⟨_, _, _, _, _, _⟩) (by rfl) _ rfl rfl (fun v5 gb5 hggb5 IO24 kb => ?_)
          simp only [Act.put, List.setIfInBounds_toArray, List.set_cons_zero, List.set_cons_succ]
          replace D := D.trans (kb.mono D.size)
          replace hown := hown.on kb
          replace HQ := HQ.on kb
          clear kb
          refine wl_appB (o := ⟨_, _, _, _, _, _⟩) (by rfl) _ _ rfl w.heap.size u2 (keptB (fun i => inBx ((tidP (l.take k)).getD i zBox) (l.getD k zBox)) ks ks.length) rfl hown gb5 (cs.getD k bc0) rfl IO24 (by have := keptB_le (fun i => inBx ((tidP (l.take k)).getD i zBox) (l.getD k zBox)) ks ks.length; omega) D.size (fun u9 v6 hown3 kb hs3 => ?_)
          simp only [Act.put, List.setIfInBounds_toArray, List.set_cons_zero, List.set_cons_succ]
          replace D := D.trans kb
          replace hown := hown3
          clear hown3 kb hs3
          refine wl_yield (o := ⟨_, _, _, _, _, _⟩) (u9) (yl_assign (by rfl) _ rfl _ rfl) ?_
          simp only [Act.put, List.setIfInBounds_toArray, List.set_cons_zero, List.set_cons_succ]
          refine wpList_nil ?_
          refine hK7 _ _ ?_
          clear hK7 K7
          refine wp_region_lit ?_
          refine wl_yield (o := ⟨_, _, _, _, _, _⟩) (.int .i64 (k + 1 : Nat)) (yl_addI (by rfl) _ _ _ rfl (((k : Nat) : Int)) (1) (((k + 1 : Nat) : Int)) rfl rfl (by omega) (by omega) (by omega)) ?_
          simp only [Act.put, List.setIfInBounds_toArray, List.set_cons_zero, List.set_cons_succ]
          refine wl_yield (o := ⟨_, _, _, _, _, _⟩) (.int .i64 (k + 1 : Nat)) (yl_move (by rfl) _ rfl _ rfl) ?_
          simp only [Act.put, List.setIfInBounds_toArray, List.set_cons_zero, List.set_cons_succ]
          refine wpList_nil ?_
          show _ ∧ _
          go_roundw
          case rel => exact ⟨k + 1, _, rfl, by omega, hown, tidied_step hA hkl hb (.inl ⟨hq1, hq2, rfl⟩), D⟩
          case measure => simp [intOf]; omega
        · refine ⟨.bool true, rfl, ?_⟩
          simp only [Act.put, List.setIfInBounds_toArray, List.set_cons_zero, List.set_cons_succ]
          refine wl_yield (o := ⟨_, _, _, _, _, _⟩) (.bool true) (yl_pickF (by rfl) _ _ _ rfl rfl _ rfl) ?_
          simp only [Act.put, List.setIfInBounds_toArray, List.set_cons_zero, List.set_cons_succ]
          refine wpList_nil ?_
          refine hK10 _ _ ?_
          clear hK10 K10
          refine wp_cond_true rfl ?_
          refine wp_exit ?_
          refine hK7 _ _ ?_
          clear hK9 K9 hK7 K7
          refine wp_region_lit ?_
          refine wl_yield (o := ⟨_, _, _, _, _, _⟩) (.int .i64 (k + 1 : Nat)) (yl_addI (by rfl) _ _ _ rfl (((k : Nat) : Int)) (1) (((k + 1 : Nat) : Int)) rfl rfl (by omega) (by omega) (by omega)) ?_
          simp only [Act.put, List.setIfInBounds_toArray, List.set_cons_zero, List.set_cons_succ]
          refine wl_yield (o := ⟨_, _, _, _, _, _⟩) (.int .i64 (k + 1 : Nat)) (yl_move (by rfl) _ rfl _ rfl) ?_
          simp only [Act.put, List.setIfInBounds_toArray, List.set_cons_zero, List.set_cons_succ]
          refine wpList_nil ?_
          show _ ∧ _
          go_roundw
          case rel => exact ⟨k + 1, _, rfl, by omega, hown, tidied_step hA hkl hb (.inr ⟨.inr hq2, rfl⟩), D⟩
          case measure => simp [intOf]; omega
      · refine ⟨.bool true, rfl, ?_⟩
        simp only [Act.put, List.setIfInBounds_toArray, List.set_cons_zero, List.set_cons_succ]
        refine wl_yield (o := ⟨_, _, _, _, _, _⟩) (.bool true) (yl_move (by rfl) _ rfl _ rfl) ?_
        simp only [Act.put, List.setIfInBounds_toArray, List.set_cons_zero, List.set_cons_succ]
        refine wl_yield (o := ⟨_, _, _, _, _, _⟩) undef (yl_undef (by rfl)) ?_
        simp only [Act.put, List.setIfInBounds_toArray, List.set_cons_zero, List.set_cons_succ]
        refine wl_yield (o := ⟨_, _, _, _, _, _⟩) undef (yl_undef (by rfl)) ?_
        simp only [Act.put, List.setIfInBounds_toArray, List.set_cons_zero, List.set_cons_succ]
        refine wl_yield (o := ⟨_, _, _, _, _, _⟩) undef (yl_undef (by rfl)) ?_
        simp only [Act.put, List.setIfInBounds_toArray, List.set_cons_zero, List.set_cons_succ]
        refine wl_yield (o := ⟨_, _, _, _, _, _⟩) (.bool true) (yl_pickT (by rfl) _ _ _ rfl rfl _ rfl) ?_
        simp only [Act.put, List.setIfInBounds_toArray, List.set_cons_zero, List.set_cons_succ]
        refine wpList_nil ?_
        refine hK10 _ _ ?_
        clear hK10 K10
        refine wp_cond_true rfl ?_
        refine wp_exit ?_
        refine hK7 _ _ ?_
        clear hK9 K9 hK7 K7
        refine wp_region_lit ?_
        refine wl_yield (o := ⟨_, _, _, _, _, _⟩) (.int .i64 (k + 1 : Nat)) (yl_addI (by rfl) _ _ _ rfl (((k : Nat) : Int)) (1) (((k + 1 : Nat) : Int)) rfl rfl (by omega) (by omega) (by omega)) ?_
        simp only [Act.put, List.setIfInBounds_toArray, List.set_cons_zero, List.set_cons_succ]
        refine wl_yield (o := ⟨_, _, _, _, _, _⟩) (.int .i64 (k + 1 : Nat)) (yl_move (by rfl) _ rfl _ rfl) ?_
        simp only [Act.put, List.setIfInBounds_toArray, List.set_cons_zero, List.set_cons_succ]
        refine wpList_nil ?_
        show _ ∧ _
        go_roundw
        case rel => exact ⟨k + 1, _, rfl, by omega, hown, tidied_step hA hkl hb (.inr ⟨.inl hq1, rfl⟩), D⟩
        case measure => simp [intOf]; omega
    · refine wp_seq_k (fun K5 hK5 => ?_)
      refine wp_region_lit ?_
      refine wl_yield (o := ⟨_, _, _, _, _, _⟩) (.bool false) (yl_lssI (by rfl) _ _ _ rfl (((k : Nat) : Int)) (((cs.length : Nat) : Int)) false rfl rfl (decide_eq_false (by omega))) ?_
      simp only [Act.put, List.setIfInBounds_toArray, List.set_cons_zero, List.set_cons_succ]
      refine wpList_nil ?_
      refine hK5 _ _ ?_
      clear hK5 K5
      refine wp_seq_k (fun K6 hK6 => ?_)
      refine wp_cond_false rfl ?_
      refine wp_exit ?_
      refine hK3 _ _ ?_
      clear hK6 K6 hK3 K3
      refine wp_seq_k (fun K7 hK7 => ?_)
      refine wp_region_lit ?_
      refine wl_yield (o := ⟨_, _, _, _, _, _⟩) (u3) (yl_move (by rfl) _ rfl _ rfl) ?_
      simp only [Act.put, List.setIfInBounds_toArray, List.set_cons_zero, List.set_cons_succ]
      refine wl_yield (o := ⟨_, _, _, _, _, _⟩) (u3) (yl_assign (by rfl) _ rfl _ rfl) ?_
      simp only [Act.put, List.setIfInBounds_toArray, List.set_cons_zero, List.set_cons_succ]
      refine wpList_nil ?_
      refine hK7 _ _ ?_
      clear hK7 K7
      refine wp_ret ?_
      go_ret
      have ek : k = l.length := by rw [← ha.1]; omega
      rw [ek, List.take_length] at hA
      exact ⟨⟨_, _, rfl, hown, hA.on D⟩, D⟩
end Go.Proofs.YtlfhpocfacaaeaaGreat
/-
  Rows of boxes of the call's own that hold no numbers and no texts themselves: what lies elsewhere stays; append, make, Grow, Concat.
-/
set_option linter.unusedSimpArgs false
set_option linter.unusedVariables false
namespace Go.Proofs.YtlfhpocfacaaeaaGreat
open Go.RowKit

def plainV : Value → Bool
  | .int _ _ => false
  | .string _ => false
  | _ => true
theorem plain_list (c : BxC) : ∀ x ∈ c.list, plainV x = true := by
  intro v hv
  unfold BxC.list at hv
  simp only [List.mem_cons, List.not_mem_nil, or_false] at hv
  rcases hv with rfl | rfl | rfl | rfl | rfl | rfl | rfl | rfl | rfl | rfl | rfl | rfl | rfl | rfl | rfl | rfl <;> rfl
theorem plain_cells (cs : List BxC) : ∀ x ∈ bcCells cs, plainV x = true := by
  intro x hx
  unfold bcCells at hx
  obtain ⟨c, _, hx⟩ := List.mem_flatMap.1 hx
  exact plain_list c x hx
theorem plain_zero (n : Nat) : ∀ x ∈ (Builtin.zeroCells bc0.val.cells n).toList, plainV x = true := by
  intro v hv
  simp only [Builtin.zeroCells, Array.toList_map, List.mem_map] at hv
  obtain ⟨i, -, rfl⟩ := hv
  have hm : ∀ j : Nat, j < 16 → plainV (bc0.list.toArray[j]!) = true := by
    intro j hj
    have : bc0.list.toArray[j]! = bc0.list[j]'(by rw [BxC.list_len]; exact hj) := by simp [hj, BxC.list_len]
    rw [this]
    exact plain_list bc0 _ (List.getElem_mem _)
  exact hm _ (Nat.mod_lt _ (by decide))
theorem plain_made (n : Nat) : ∀ x ∈ (madeCells bc0.val.cells n).toList, plainV x = true := by
  intro v hv
  simp only [madeCells, Array.toList_map, List.mem_map] at hv
  obtain ⟨i, -, rfl⟩ := hv
  have hm : ∀ j : Nat, j < 16 → plainV (bc0.list.toArray[j]!) = true := by
    intro j hj
    have : bc0.list.toArray[j]! = bc0.list[j]'(by rw [BxC.list_len]; exact hj) := by simp [hj, BxC.list_len]
    rw [this]
    exact plain_list bc0 _ (List.getElem_mem _)
  exact hm _ (Nat.mod_lt _ (by decide))
/-- A row of the call's own, in whose block no numbers and no texts lie. -/
structure OwnC (w : World) (B : Nat) (v : Value) (cs : List BxC) : Prop where
  own : OwnB w B v cs
  pl : ∀ g, v.ownBlock = some g → ∃ cur, w.heap[g]? = some (.cells cur 47 (0, 0)) ∧ ∀ x ∈ cur.toList, plainV x = true
theorem OwnC.on {w w' : World} {B : Nat} {v : Value} {cs : List BxC} (h : OwnC w B v cs) (hb : Below w.heap.size w w') : OwnC w' B v cs :=
  ⟨h.own.on hb, fun g hg => by
    obtain ⟨cur, h1, h2⟩ := h.pl g hg
    exact ⟨cur, (hb.block _ (lt_heap h1)).trans h1, h2⟩⟩
theorem OwnC.mono {w : World} {B B' : Nat} {v : Value} {cs : List BxC} (h : OwnC w B v cs) (hb : B' ≤ B) : OwnC w B' v cs := ⟨h.own.mono hb, h.pl⟩
/-! ### What lies elsewhere stays -/
theorem RngsAt.aside {w w' : World} {v : Value} {l : List Rg} {p : Nat} {cs : Array Value} {t : TypeId} {fz : Nat × Nat} (h : RngsAt w v l) (hp : w.heap[p]? = some (.cells cs t fz)) (hn : ∀ x ∈ cs.toList, plainV x = true) (hs : w.heap.size ≤ w'.heap.size) (hk : ∀ k, k < w.heap.size → k ≠ p → w'.heap[k]? = w.heap[k]?) : RngsAt w' v l := by
  obtain ⟨h1, h2, a, cap, hv, h⟩ := h
  refine ⟨h1, h2, a, cap, hv, fun i hi => ?_⟩
  obtain ⟨b, off, ha, hlt, c0, c1⟩ := h i hi
  have hb : b ≠ p := by
    rintro rfl
    rw [cell_heap hp] at c0
    obtain ⟨hj, e⟩ := Array.getElem?_eq_some_iff.1 c0
    have hm := hn _ (Array.getElem_mem_toList hj)
    rw [e] at hm
    cases hm
  have hc : ∀ o, w'.cell? ⟨b, o, none⟩ = w.cell? ⟨b, o, none⟩ := fun o => by unfold World.cell?; simp only [hk b hlt hb]
  exact ⟨b, off, ha, Nat.lt_of_lt_of_le hlt hs, (hc _).trans c0, (hc _).trans c1⟩
theorem StrsAt.aside {w w' : World} {v : Value} {l : List ByteArray} {p : Nat} {cs : Array Value} {t : TypeId} {fz : Nat × Nat} (h : StrsAt w v l) (hp : w.heap[p]? = some (.cells cs t fz)) (hn : ∀ x ∈ cs.toList, plainV x = true) (hs : w.heap.size ≤ w'.heap.size) (hk : ∀ k, k < w.heap.size → k ≠ p → w'.heap[k]? = w.heap[k]?) : StrsAt w' v l := by
  obtain ⟨h1, h2, a, cap, hv, h⟩ := h
  refine ⟨h1, h2, a, cap, hv, fun i hi => ?_⟩
  obtain ⟨b, off, ha, hlt, c0⟩ := h i hi
  have hb : b ≠ p := by
    rintro rfl
    rw [cell_heap hp] at c0
    obtain ⟨hj, e⟩ := Array.getElem?_eq_some_iff.1 c0
    have hm := hn _ (Array.getElem_mem_toList hj)
    rw [e] at hm
    cases hm
  have hc : ∀ o, w'.cell? ⟨b, o, none⟩ = w.cell? ⟨b, o, none⟩ := fun o => by unfold World.cell?; simp only [hk b hlt hb]
  exact ⟨b, off, ha, Nat.lt_of_lt_of_le hlt hs, (hc _).trans c0⟩
theorem BoxAt.aside {w w' : World} {v : Value} {b : BoxV} {p : Nat} {cs : Array Value} {t : TypeId} {fz : Nat × Nat} (h : BoxAt w v b) (hp : w.heap[p]? = some (.cells cs t fz)) (hn : ∀ x ∈ cs.toList, plainV x = true) (hs : w.heap.size ≤ w'.heap.size) (hk : ∀ k, k < w.heap.size → k ≠ p → w'.heap[k]? = w.heap[k]?) : BoxAt w' v b := by
  obtain ⟨s0, s1, s2, s3, rfl, h0, h1, h2, h3⟩ := h.scs
  have H : ∀ {u : Value} {S : SetV}, SetAt w u S → SetAt w' u S := fun {u S} q => by
    obtain ⟨vi, vs, hv, q1, q2⟩ := q
    exact ⟨vi, vs, hv, q1.aside hp hn hs hk, q2.aside hp hn hs hk⟩
  exact boxAt_of (H h0) (H h1) (H h2) (H h3)
theorem OwnC.carry {w w' : World} {B B' : Nat} {v : Value} {cs : List BxC} (h : OwnC w B v cs) (ha : Asd v.ownBlock B' w w') {y : Value} {b : BoxV} (hb : BoxAt w y b) : BoxAt w' y b := by
  cases ho : v.ownBlock with
  | none =>
    rw [ho] at ha
    have H : ∀ k, k < w.heap.size → w'.heap[k]? = w.heap[k]? := fun k hk => ha.k k hk (by simp)
    exact hb.on ⟨ha.b.os, ha.b.tape, ha.b.output, ha.s, H⟩
  | some g =>
    obtain ⟨cur, h1, h2⟩ := h.pl g ho
    rw [ho] at ha
    exact hb.aside h1 h2 ha.s (fun k hk hne => ha.k k hk (fun e => hne (Option.some.inj e)))
theorem AllBx.carry {w w' : World} {cs : List BxC} {l : List BoxV} (h : AllBx w cs l) (c : ∀ {y : Value} {b : BoxV}, BoxAt w y b → BoxAt w' y b) : AllBx w' cs l := ⟨h.1, fun i hi => c (h.2 i hi)⟩
/-! ### append -/
theorem run_appC (w : World) (B ty : Nat) (v : Value) (cs : List BxC) (hown : OwnC w B v cs) (g : Nat) (d : BxC) (hd : BcIn w g d) (hn : cs.length ≤ 1000) (hB : B ≤ w.heap.size) :
    ∃ v' w', (Builtin.append_ #[31, 31] ty #[v, .slice (some ⟨g, 0, none⟩) 1 1]).run Tryz.prog w = .ok v' w' ∧ OwnC w' B v' (cs ++ [d]) ∧ Asd v.ownBlock B w w' ∧ (∀ k, v'.ownBlock = some k → some k = v.ownBlock ∨ w.heap.size ≤ k) := by
  obtain ⟨i0, hi, hz0, hz1, hz2⟩ := info_parts cInfoB
  have hnews : ∀ j u, d.list[j]? = some u → w.cell? ((⟨g, 0, none⟩ : Addr).add j) = some u := fun j u hu => by rw [Addr.add_mid]; exact hd.range j u hu
  obtain ⟨v', w', hr, ho, hg, _⟩ := run_append_own (P := Tryz.prog) w B 31 ty 47 i0 _ 16 256 Tryz.underlying31 hi hz0 hz1 hz2 rfl (by decide) v cs.length (bcCells cs) hown.own ⟨g, 0, none⟩ 1 1 d.list (by rw [BxC.list_len]) hnews d.list_one (by unfold maxLen; omega) (by omega) hB
  have hO : OwnB w' B v' (cs ++ [d]) := by
    show w'.ownsRow B 47 16 v' (cs ++ [d]).length (bcCells (cs ++ [d]))
    rw [bcCells_append, List.length_append]
    have : bcCells [d] = d.list := by unfold bcCells; simp
    rw [this]
    exact ho
  have hA : Asd v.ownBlock B w w' := ⟨(Below.refl _ _).grown hg hB (fun k hk => (World.ownsRow.lt hown.own k hk).1), hg.size, fun k hk hne => hg.block k hk hne⟩
  rcases hown.own.2 with ⟨rfl, hlen⟩ | ⟨g0, cap, cur, rfl, hbg, hgc, hnc, hcm, hcs, htake⟩
  · have hr2 := run_append_nil (P := Tryz.prog) w 31 ty 47 i0 _ Tryz.underlying31 hi hz0 ⟨g, 0, none⟩ 1 1 d.list (by rw [BxC.list_len, hz1]) hnews (by omega) (by omega) (by rw [hz2]; omega)
    rw [hr] at hr2
    injection hr2 with e1 e2
    refine ⟨v', w', hr, ⟨hO, fun k hk => ?_⟩, hA, fun k hk => ?_⟩
    · rw [e1] at hk
      obtain rfl : w.heap.size = k := Option.some.inj hk
      refine ⟨_, by rw [e2]; exact heap_new w.drew _, fun x hx => ?_⟩
      rw [Array.toList_append, List.mem_append] at hx
      rcases hx with hx | hx
      · exact plain_list d x (by simpa using hx)
      · exact plain_zero _ x hx
    · rw [e1] at hk
      obtain rfl : w.heap.size = k := Option.some.inj hk
      exact Or.inr (Nat.le_refl _)
  · by_cases hroom : cs.length + 1 ≤ cap
    · have hr2 := run_append_room (P := Tryz.prog) w 31 ty 47 i0 Tryz.underlying31 hi g0 cs.length cap cur hgc ⟨g, 0, none⟩ 1 1 d.list (by rw [BxC.list_len, hz1]) hnews d.list_one hroom (by rw [BxC.list_len, hz1, hcs]; omega)
      rw [hr] at hr2
      injection hr2 with e1 e2
      obtain ⟨cur0, p1, p2⟩ := hown.pl g0 rfl
      rw [hgc] at p1
      injection p1 with p1
      injection p1 with p1 _ _
      subst p1
      refine ⟨v', w', hr, ⟨hO, fun k hk => ?_⟩, hA, fun k hk => ?_⟩
      · rw [e1] at hk
        obtain rfl : g0 = k := Option.some.inj hk
        refine ⟨_, by rw [e2]; exact setRow_heap w g0 cur _ _ _ hgc, fun x hx => ?_⟩
        simp only [List.mem_append] at hx
        rcases hx with (hx | hx) | hx
        · exact p2 x (List.mem_of_mem_take hx)
        · exact plain_list d x hx
        · exact p2 x (List.mem_of_mem_drop hx)
      · rw [e1] at hk
        left
        exact hk.symm
    · have hr2 := run_append_grow (P := Tryz.prog) w 31 ty 47 i0 _ Tryz.underlying31 hi hz0 ⟨g0, 0, none⟩ cs.length cap (bcCells cs) (by rw [hz1]; exact hown.own.1) (hown.own.cells (g := g0) rfl) ⟨g, 0, none⟩ 1 1 d.list (by rw [BxC.list_len, hz1]) hnews (by omega) (by omega) (growslice_fits (by omega) (by rw [hz2]; omega))
      rw [hr] at hr2
      injection hr2 with e1 e2
      refine ⟨v', w', hr, ⟨hO, fun k hk => ?_⟩, hA, fun k hk => ?_⟩
      · rw [e1] at hk
        obtain rfl : w.heap.size = k := Option.some.inj hk
        refine ⟨_, by rw [e2]; exact heap_new w.drew _, fun x hx => ?_⟩
        rw [Array.toList_append, Array.toList_append, List.mem_append, List.mem_append] at hx
        rcases hx with (hx | hx) | hx
        · exact plain_cells cs x (by simpa using hx)
        · exact plain_list d x (by simpa using hx)
        · exact plain_zero _ x hx
      · rw [e1] at hk
        obtain rfl : w.heap.size = k := Option.some.inj hk
        exact Or.inr (Nat.le_refl _)
section
variable {ops : Array Oper} {Q : Exit → Act → World → Prop} {S : World → Prop} {o : Oper} {a : Act}
/-- One box more at the end of such a row. -/
theorem wl_appC {rest : List Oper} {w : World} (hw : Region.wanted o (yielded ops a.tmps) = true) (s x : Operand) (ho : o.op = .call { callee := .builtin .append, args := #[s, x], argTypes := #[31, 31] })
    (B : Nat) (v : Value) (cs : List BxC) (hs : a.eval s = v) (hown : OwnC w B v cs) (g : Nat) (d : BxC) (hx : a.eval x = .slice (some ⟨g, 0, none⟩) 1 1) (hd : BcIn w g d) (hn : cs.length ≤ 1000) (hB : B ≤ w.heap.size)
    (h : ∀ v' w', OwnC w' B v' (cs ++ [d]) → Asd v.ownBlock B w w' → (∀ k, v'.ownBlock = some k → some k = v.ownBlock ∨ w.heap.size ≤ k) → (∀ {y : Value} {b : BoxV}, BoxAt w y b → BoxAt w' y b) → wpList Tryz.prog ops Q rest (a.put o.dst v') w') : wpList Tryz.prog ops Q (o :: rest) a w := by
  obtain ⟨v', w', hr, h1, h2, h3⟩ := run_appC w B o.type v cs hown g d hd hn hB
  refine wl_run hw v' w' ?_ (h v' w' h1 h2 h3 (fun q => hown.carry h2 q))
  unfold execOp
  simp only [ho, resolve, invoke, builtin, Sem.run_bind, Sem.run_pure, Result.andThen_ok, List.map_toArray, List.map_cons, List.map_nil, hs, hx, hr]
theorem yl_mulI (hw : Region.wanted o (yielded ops a.tmps) = true) (x y : Operand) (t : TypeId) (ho : o.op = .binOp .mul 3 x y t) (p q r : Int) (hx : a.eval x = .int .i64 p) (hy : a.eval y = .int .i64 q) (hr : p * q = r) (h0 : -9223372036854775808 ≤ r) (h1 : r ≤ 9223372036854775807) : YieldsIf Tryz.prog ops S o (.int .i64 r) a :=
  Or.inl ⟨hw, fun w hS => by
    subst hr
    simp only [execOp, ho, hx, hy]
    go_simp
    rw [IntKind.wrap_i64]; omega⟩
theorem madeC {w : World} {i0 : TypeInfo} (hi : Tryz.prog.info? 47 = some i0) (hz0 : i0.zero = some bc0.val) (hz1 : i0.size = 16) (hz2 : i0.bytes = 256) (N : Nat) (hN : N ≤ 100000) :
    ∃ w', (Instr.makeSlice 31 (.int .i64 0) (.int .i64 (N : Int))).run Tryz.prog w = .ok (.slice (some ⟨w.heap.size, 0, none⟩) 0 N) w' ∧ OwnC w' w.heap.size (.slice (some ⟨w.heap.size, 0, none⟩) 0 N) [] ∧ Below w.heap.size w w' := by
  have hr := run_make (P := Tryz.prog) w 31 47 i0 _ Tryz.underlying31 hi hz0 .i64 .i64 0 N (Int.le_refl _) (by omega) (by rw [hz2]; omega) (by omega)
  obtain ⟨w', hm1, hm2, hm3⟩ := run_make_own (P := Tryz.prog) w w.heap.size 31 47 i0 _ 16 Tryz.underlying31 hi hz0 hz1 .i64 .i64 N (by rw [hz2]; omega) (by unfold maxLen; omega) (Nat.le_refl _)
  refine ⟨w', hm1, ⟨hm2, fun g hg => ?_⟩, (Below.refl _ w).grown hm3 (Nat.le_refl _) (fun k hk => by cases hk)⟩
  obtain rfl : w.heap.size = g := Option.some.inj hg
  rw [hm1] at hr
  injection hr with e1 e2
  refine ⟨_, by rw [e2]; exact heap_new w _, fun x hx => ?_⟩
  exact plain_made _ x hx
/-- A new row with room for so many. -/
theorem wl_makeC {rest : List Oper} {w : World} (hw : Region.wanted o (yielded ops a.tmps) = true) (y x : Operand) (ho : o.op = .makeSlice 31 y x) (hy : a.eval y = .int .i64 0) (N : Nat) (hx : a.eval x = .int .i64 N) (hN : N ≤ 100000)
    (h : ∀ v W, OwnC W w.heap.size v [] → Below w.heap.size w W → wpList Tryz.prog ops Q rest (a.put o.dst v) W) : wpList Tryz.prog ops Q (o :: rest) a w := by
  obtain ⟨i0, hi, hz0, hz1, hz2⟩ := info_parts cInfoB
  obtain ⟨w', h1, h2, h3⟩ := madeC (w := w) hi hz0 hz1 hz2 N hN
  refine wl_run hw _ w' ?_ (h _ w' h2 h3)
  simp only [execOp, ho, hy, hx, Sem.run_bind, h1, Result.andThen_ok, Sem.run_pure]
end
end Go.Proofs.YtlfhpocfacaaeaaGreat
/-
  slices.Grow and slices.Concat of rows of boxes.
-/
set_option linter.unusedSimpArgs false
set_option linter.unusedVariables false
namespace Go.Proofs.YtlfhpocfacaaeaaGreat
open Go.RowKit

def nilOk (v : Value) : Prop := ∀ n c, v = .slice none n c → v = .slice none 0 0
theorem OwnB.nilOk {w : World} {B : Nat} {v : Value} {cs : List BxC} (h : OwnB w B v cs) : nilOk v := by
  rcases h.form with ⟨rfl, rfl⟩ | ⟨g, cap, cur, rfl, _⟩
  · exact fun _ _ _ => rfl
  · intro n c e; cases e
/-- A row of boxes, wherever it lies, put behind one of the call's own. -/
theorem wpList_appRowB {ops : Array Oper} {rest : List Oper} {o : Oper} {a : Act} {Q : Exit → Act → World → Prop} (w : World) (hgd : o.guard = none) (s x : Operand)
    (ho : o.op = .call { callee := .builtin .append, args := #[s, x], argTypes := #[31, 31] })
    (B : Nat) (v u : Value) (l m : List BxC) (hs : a.eval s = v) (hown : OwnB w B v l) (hu : a.eval x = u) (hx : BxRow w u m) (hnil : nilOk u) (hlen : l.length + m.length ≤ 1000000) (hB : B ≤ w.heap.size)
    (h : ∀ v' w', OwnB w' B v' (l ++ m) → Below B w w' → wpList Tryz.prog ops Q rest (a.put o.dst v') w') : wpList Tryz.prog ops Q (o :: rest) a w := by
  obtain ⟨i0, hi, hz0, hz1, hz2⟩ := info_parts cInfoB
  obtain ⟨_, ad, cap, rfl, hel⟩ := hx
  cases ad with
  | none =>
    have hm : m = [] := by
      cases m with
      | nil => rfl
      | cons r m =>
        obtain ⟨b, off, e, _⟩ := hel 0 (by simp)
        cases e
    subst hm
    refine wpList_append_own_none hgd s x 31 ho B 47 i0 16 Tryz.underlying31 hi v l.length (bcCells l) hs hown (hu.trans (hnil _ _ rfl)) ?_
    refine h v w ?_ (Below.refl _ _)
    rw [List.append_nil]; exact hown
  | some ad =>
    refine wpList_append_own w hgd s x 31 ho B 47 i0 _ 16 256 Tryz.underlying31 hi hz0 hz1 hz2 rfl (by decide) v l.length (bcCells l) hs hown ad m.length _ (bcCells m) hu (by rw [bcCells_len]) ?_ (bcCells_one _) (by unfold maxLen; omega) (by omega) hB ?_
    · intro j u hj
      have hjl : j < m.length * 16 := by
        have := (List.getElem?_eq_some_iff.1 hj).1
        rwa [bcCells_len] at this
      obtain ⟨b, off, e, _, hr⟩ := hel (j / 16) (by omega)
      have h1 := bcCells_at m (j / 16) (j % 16) (by omega) (Nat.mod_lt _ (by decide))
      simp at e
      subst e
      rw [Go.WideShapes.add_plain]
      rw [show j / 16 * 16 + j % 16 = j by omega, hj] at h1
      have := hr (j % 16) u h1.symm
      rwa [show off + j / 16 * 16 + j % 16 = off + j by omega] at this
    · intro v' w' h1 h2 _
      refine h v' w' ?_ ((Below.refl _ _).grown h2 hB (fun k hk => (World.ownsRow.lt hown k hk).1))
      unfold OwnB
      rw [List.length_append, bcCells_append]
      exact h1
theorem ownB_grown {w : World} {c : Nat} {cs : Array Value} (hc : c ≤ maxLen) (hs : cs.size = c * 16) : OwnB (w.drew.alloc (.cells cs 47)) w.heap.size (.slice (some ⟨w.heap.size, 0, none⟩) 0 c) [] := by
  refine ⟨rfl, Or.inr ⟨w.heap.size, c, cs, rfl, Nat.le_refl _, ?_, Nat.zero_le _, hc, hs, ?_⟩⟩
  · show (w.heap.push _)[w.heap.size]? = _
    simp
  · show List.take (0 * 16) _ = []
    rw [Nat.zero_mul]; rfl
set_option maxHeartbeats 2000000 in
set_option maxRecDepth 100000 in
theorem growB_any (n : Nat) (w : World) (hn : n ≤ 100000) :
    Calls Tryz.prog 125 #[.slice none 0 0, .int .i64 n] w fun r w' => (∃ u, r = .returned u ∧ OwnB w' w.heap.size u []) ∧ Below w.heap.size w w' := by
  rcases Nat.eq_zero_or_pos n with h0 | h0
  · subst h0
    go_enter Tryz.func125, Tryz.ntmps125
    go_wp2
    go_ret
    exact ⟨⟨_, rfl, ownB_nil _ _⟩, Below.refl _ _⟩
  · obtain ⟨i0, hi, hz0, hz1, hz2⟩ := info_parts cInfoB
    replace hz0 : i0.zero = some (.agg bc0.list.toArray) := hz0
    have A := hide (fun ty => Lib.run_append_nil_zeros (P := Tryz.prog) w 31 3 ty 47 i0 _ .i64 .i64 Tryz.underlying31 Tryz.underlying3 hi hz0 n h0 (by rw [hz1]; omega) (by omega) (by rw [hz2]; omega))
    have hc1 := grownCap_ge w n 0 47
    have hc2 := grownCap_le_maxLen w n 0 47 (by unfold maxLen; omega)
    generalize grownCap w n 0 47 = c at *
    have HC2 := hide hc2
    clear hi hz0 hz1 hz2 hc2
    go_enter Tryz.func125, Tryz.ntmps125
    go_wp2_with (at_builtin; refine Lib.wpList_append_run _ rfl _ _ _ _ rfl _ _ rfl rfl _ _ (A.out _) ?_)
    go_ret
    refine ⟨⟨_, rfl, ownB_grown HC2.out ?_⟩, ((Below.refl _ _).drew).alloc (Nat.le_refl _) _⟩
    rw [Array.size_append, size_zeroCells, size_zeroCells, ← Nat.add_mul, show n + (c - n) = c by omega]
    rfl
set_option maxHeartbeats 4000000 in
set_option maxRecDepth 100000 in
theorem concatB_any (g : Nat) (va vb : Value) (la lb : List BxC) (w : World) (hg : w.heap[g]? = some (.cells #[va, vb] 31 (0, 0))) (ha : BxRow w va la) (hb : BxRow w vb lb) (na : nilOk va) (nb : nilOk vb) (hl : la.length + lb.length ≤ 100000) :
    Calls Tryz.prog 106 #[.slice (some ⟨g, 0, none⟩) 2 2] w fun r w' => (∃ u, r = .returned u ∧ OwnB w' w.heap.size u (la ++ lb)) ∧ Below w.heap.size w w' := by
  have HA := hide ha
  have HB := hide hb
  have hlt := lt_heap hg
  have c0 := cell_heap hg 0
  have c1 := cell_heap hg 1
  simp only [List.getElem?_toArray, List.getElem?_cons_zero, List.getElem?_cons_succ] at c0 c1
  obtain ⟨pa, ca, rfl⟩ := ha.form
  obtain ⟨pb, cb, rfl⟩ := hb.form
  have HL := hide hl
  clear ha hb hg
  have GR := hide (growB_any (la.length + lb.length) w hl)
  obtain ⟨x, hx⟩ : ∃ x : Nat, x = la.length := ⟨_, rfl⟩
  obtain ⟨y, hy⟩ : ∃ y : Nat, y = lb.length := ⟨_, rfl⟩
  rw [← hx] at hl HL c0 HA GR na
  rw [← hy] at hl HL c1 HB GR nb
  have HX := hide hx
  have HY := hide hy
  clear hx hy
  go_enter Tryz.func106, Tryz.ntmps106
  go_wp2
  go_loopw [3, 11] (fun s i wr => wr = w ∧ ((i = .int .i64 0 ∧ s = .int .i64 0) ∨ (i = .int .i64 1 ∧ s = .int .i64 (x : Int)) ∨ (i = .int .i64 2 ∧ s = .int .i64 ((x : Int) + (y : Int))))) (fun _ i _ => 2 - (intOf i).toNat)
  case atStart => exact ⟨rfl, Or.inl ⟨rfl, rfl⟩⟩
  case round =>
    obtain ⟨rfl, ⟨rfl, rfl⟩ | ⟨rfl, rfl⟩ | ⟨rfl, rfl⟩⟩ := hrel
    · go_wp2
      exact ⟨⟨trivial, Or.inr (Or.inl ⟨rfl, by first | rfl | simp⟩)⟩, by simp [intOf]⟩
    · go_wp2
      exact ⟨⟨trivial, Or.inr (Or.inr ⟨rfl, rfl⟩)⟩, by simp [intOf]⟩
    · rw [Int.natCast_add] at GR
      go_wp2_with fail
      refine (unhide GR).mono ?_
      rintro r w1 ⟨⟨u1, rfl, o1⟩, b1⟩
      have c0' := (b1.cell (p := ⟨g, 0, none⟩) hlt).trans c0
      have c1' := (b1.cell (p := ⟨g, 1, none⟩) hlt).trans c1
      have O1 := hide o1
      have B1 := hide b1
      clear GR o1 b1
      go_wp2
      go_loopw [6, 27] (fun o i wr' => Hid (Below wr.heap.size wr wr') ∧ ((i = .int .i64 0 ∧ Hid (OwnB wr' wr.heap.size o [])) ∨ (i = .int .i64 1 ∧ Hid (OwnB wr' wr.heap.size o la)) ∨ (i = .int .i64 2 ∧ Hid (OwnB wr' wr.heap.size o (la ++ lb))))) (fun _ i _ => 2 - (intOf i).toNat)
      case atStart => exact ⟨B1, Or.inl ⟨rfl, O1⟩⟩
      case round =>
        clear c0' c1' B1 O1
        obtain ⟨HW, ⟨rfl, HO⟩ | ⟨rfl, HO⟩ | ⟨rfl, HO⟩⟩ := hrel
        · have d0 := (HW.out.cell (p := ⟨g, 0, none⟩) hlt).trans c0
          have szW := HW.out.size
          have LE : Hid (([] : List BxC).length + la.length ≤ 1000000) := hide (by have := HX.out; have := HL.out; simp; omega)
          have VA := hide (HA.out.on HW.out)
          go_wp2_with (at_builtin; refine wpList_appRowB _ rfl _ _ rfl _ _ _ _ la rfl HO.out rfl VA.out na LE.out szW ?_; intro v8 w8 hO8 hb8; have O8 := hide hO8; have B8 := hide (HW.out.trans hb8); clear hO8 hb8)
          rw [List.nil_append] at O8
          exact ⟨⟨B8, Or.inr (Or.inl ⟨rfl, O8⟩)⟩, by simp [intOf]⟩
        · have d0 := (HW.out.cell (p := ⟨g, 1, none⟩) hlt).trans c1
          have szW := HW.out.size
          have LE : Hid (la.length + lb.length ≤ 1000000) := hide (by have := HX.out; have := HY.out; have := HL.out; omega)
          have VB := hide (HB.out.on HW.out)
          go_wp2_with (at_builtin; refine wpList_appRowB _ rfl _ _ rfl _ _ _ _ lb rfl HO.out rfl VB.out nb LE.out szW ?_; intro v8 w8 hO8 hb8; have O8 := hide hO8; have B8 := hide (HW.out.trans hb8); clear hO8 hb8)
          exact ⟨⟨B8, Or.inr (Or.inr ⟨rfl, O8⟩)⟩, by simp [intOf]⟩
        · go_wp2
          go_ret
          exact ⟨⟨_, rfl, HO.out⟩, HW.out⟩

section
variable {ops : Array Oper} {Q : Exit → Act → World → Prop} {o : Oper} {a : Act}
/-- A row of two rows. -/
theorem wl_rows2 {rest : List Oper} {w : World} (hw : Region.wanted o (yielded ops a.tmps) = true) (x y : Operand) (ho : o.op = .buildSlice 111 2 #[(0, x), (1, y)]) {p q : Option Addr} {n m c d : Nat} (hx : a.eval x = .slice p n c) (hy : a.eval y = .slice q m d)
    (h : ∀ W g, W.heap[g]? = some (.cells #[.slice p n c, .slice q m d] 31 (0, 0)) → Below w.heap.size w W → wpList Tryz.prog ops Q rest (a.put o.dst (.slice (some ⟨g, 0, none⟩) 2 2)) W) : wpList Tryz.prog ops Q (o :: rest) a w := by
  refine wl_run hw (.slice (some ⟨w.heap.size, 0, none⟩) 2 2) (w.alloc (.cells #[.slice p n c, .slice q m d] 31)) ?_ (h _ _ (heap_new _ _) ((Below.refl _ w).alloc (Nat.le_refl _) _))
  simp only [execOp, ho, List.map_toArray, List.map_cons, List.map_nil, hx, hy]
  go_simp
end
theorem prod_take (l m : List BoxV) (k : Nat) (h : k < l.length) : prodL (l.take (k + 1)) m = prodL (l.take k) m ++ m.map fun b => andBx (l.getD k zBox) b := by
  unfold prodL
  exact take_flat _ l k zBox h
theorem idx_lt {k n j m N : Nat} (h : k < n) (hj : j < m) (hN : n * m = N) : k * m + j < N := by
  have : (k + 1) * m ≤ n * m := Nat.mul_le_mul_right m h
  rw [Nat.succ_mul] at this
  omega
theorem allBx_append {w : World} {ks ms : List BxC} {K M : List BoxV} (h : AllBx w ks K) (h' : AllBx w ms M) : AllBx w (ks ++ ms) (K ++ M) := by
  refine ⟨by rw [List.length_append, List.length_append, h.1, h'.1], fun i hi => ?_⟩
  rw [List.length_append] at hi
  by_cases hi' : i < K.length
  · rw [List.getD_eq_getElem?_getD, List.getD_eq_getElem?_getD, List.getElem?_append_left (by rw [h.1]; exact hi'), List.getElem?_append_left hi', ← List.getD_eq_getElem?_getD, ← List.getD_eq_getElem?_getD]
    exact h.2 i hi'
  · rw [List.getD_eq_getElem?_getD, List.getD_eq_getElem?_getD, List.getElem?_append_right (by rw [h.1]; omega), List.getElem?_append_right (by omega), ← List.getD_eq_getElem?_getD, ← List.getD_eq_getElem?_getD, h.1]
    exact h'.2 (i - K.length) (by omega)
end Go.Proofs.YtlfhpocfacaaeaaGreat
