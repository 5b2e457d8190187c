/-
  The program's set: Or, And, In.
-/
import Derived.Test.YteahjihmpchcbaaTL
import Derived.Test.YteahjihmpchcbaaTK
import Derived.Test.YteahjihmpchcbaaTE
set_option linter.unusedSimpArgs false
set_option linter.unusedVariables false
namespace Go.Proofs.Yteahjihmpchcbaa
open Go.RowKit

/-- Not more than the program's own calls ask. -/
structure Fit2 (S : SetV) : Prop where
  good : Good S
  ni : S.ints.length ≤ 2000
  ns : S.strs.length ≤ 2000
theorem Fit.two {S : SetV} (h : Fit S) : Fit2 S := ⟨h.good, Nat.le_trans h.ni (by omega), Nat.le_trans h.ns (by omega)⟩
/-- Trio boxes of the call's own. -/
structure Trio (w0 w : World) (o1 o2 o3 : Obj) : Prop where
  e1 : w.heap[w0.heap.size]? = some o1
  e2 : w.heap[w0.heap.size + 1]? = some o2
  e3 : w.heap[w0.heap.size + 1 + 1]? = some o3
  b : Below w0.heap.size w0 w
theorem Trio.on {w0 w w' : World} {o1 o2 o3 : Obj} (h : Trio w0 w o1 o2 o3) (hb : Below w.heap.size w w') : Trio w0 w' o1 o2 o3 :=
  ⟨(hb.block _ (lt_heap h.e1)).trans h.e1, (hb.block _ (lt_heap h.e2)).trans h.e2, (hb.block _ (lt_heap h.e3)).trans h.e3, h.b.trans (hb.mono h.b.size)⟩
theorem Trio.start (w : World) (o1 o2 o3 : Obj) : Trio w (((w.alloc o1).alloc o2).alloc o3) o1 o2 o3 := by
  have T := Two.start w o1 o2
  have s1 : (w.alloc o1).heap.size = w.heap.size + 1 := by show (w.heap.push _).size = _; simp
  have s2 : ((w.alloc o1).alloc o2).heap.size = w.heap.size + 1 + 1 := by show ((w.alloc o1).heap.push _).size = _; rw [Array.size_push, s1]
  have T' := T.al o3
  exact ⟨T'.e1, T'.e2, by rw [← s2]; exact heap_new _ _, T'.b⟩
theorem Trio.al {w0 w : World} {o1 o2 o3 : Obj} (h : Trio w0 w o1 o2 o3) (x : Obj) : Trio w0 (w.alloc x) o1 o2 o3 := h.on ((Below.refl _ w).alloc (Nat.le_refl _) x)
theorem put4_cell {w : World} {p k o : Nat} {x0 x1 x2 x3 : Value} (h : ¬ (p = k)) : ((((w.setCell ⟨p, 0, none⟩ x0).setCell ⟨p, 1, none⟩ x1).setCell ⟨p, 2, none⟩ x2).setCell ⟨p, 3, none⟩ x3).cell? ⟨k, o, none⟩ = w.cell? ⟨k, o, none⟩ := by
  rw [World.cell?_setCell_far _ _ _ _ h, World.cell?_setCell_far _ _ _ _ h, World.cell?_setCell_far _ _ _ _ h, World.cell?_setCell_far _ _ _ _ h]
theorem orR_out {a b o : List Rg} (ha : rightR a) (hb : rightR b) (ia : inI64 a) (ib : inI64 b) (h : RangesOut (a ++ b) o) : o = orR a b := by
  obtain ⟨r1, r2, _, r4⟩ := orR_all a b (rightR_le ha) ia hb ib
  exact rightR_ext64 _ _ h.1 r1 h.2.1 r2 (fun n _ _ => by rw [h.2.2.2 n, r4 n, memR_append])
theorem andR_out {A B : SetV} {o : List Rg} (hA : Good A) (hB : Good B) (h : CommonOut A.ints B.ints o) : o = (andV A B).ints := by
  refine rightR_ext64 _ _ h.1 (andV_good hA hB).ri h.2.1 (andV_good hA hB).i (fun n n0 n1 => ?_)
  have hh := andV_has hA hB (1, n, noS) n0 n1
  rw [has_num, has_num, has_num] at hh
  rw [h.2.2.2 n, ← inInts_iff, ← inInts_iff, ← inInts_iff, hh, Bool.and_eq_true]

set_option maxHeartbeats 4000000 in
set_option maxRecDepth 100000 in
theorem or_raw (v u : Value) (sa : Bool) (si : List Rg) (sc : Bool) (ss : List ByteArray) (ta : Bool) (ti : List Rg) (tc : Bool) (ts : List ByteArray) (w : World) (hv : SetAt w v ⟨sa, si, sc, ss⟩) (hu : SetAt w u ⟨ta, ti, tc, ts⟩) (fA : Fit2 ⟨sa, si, sc, ss⟩) (fB : Fit2 ⟨ta, ti, tc, ts⟩) :
    Calls Try.prog 16 #[v, u] w fun r w' => (∃ x, r = .returned x ∧ SetAt w' x (orV ⟨sa, si, sc, ss⟩ ⟨ta, ti, tc, ts⟩)) ∧ Below w.heap.size w w' := by
  have HA := hide fA.good
  have HB := hide fB.good
  have HAI := hide fA.ni
  have HAS := hide fA.ns
  have HBI := hide fB.ni
  have HBS := hide fB.ns
  clear fA fB
  obtain ⟨vi, vs, rfl, hI, hS⟩ := hv
  obtain ⟨ui, us, rfl, hJ, hT⟩ := hu
  dsimp only at HAI HAS HBI HBS hI hS hJ hT
  obtain ⟨ai, ci, rfl⟩ := hI.form
  obtain ⟨aq, cq, rfl⟩ := hS.form
  obtain ⟨bi, di, rfl⟩ := hJ.form
  obtain ⟨bq, dq, rfl⟩ := hT.form
  have T0 := Trio.start w (.cells #[.bool sa, .slice ai si.length ci, .bool sc, .slice aq ss.length cq] 25) (.cells #[.bool ta, .slice bi ti.length di, .bool tc, .slice bq ts.length dq] 25) (.cells #[.bool false, .slice none 0 0, .bool false, .slice none 0 0] 25)
  have OS := hide (orStrings_any _ _ ⟨sa, si, sc, ss⟩ ⟨ta, ti, tc, ts⟩ _ (hS.on T0.b) (hT.on T0.b) HA.out.rs HB.out.rs (by have := HAS.out; have := HBS.out; dsimp only; omega))
  dsimp only at OS
  have I0 := hide (hI.on T0.b)
  have J0 := hide (hJ.on T0.b)
  have HSI := hide hI.1
  have HTI := hide hJ.1
  clear hI hJ hS hT
  obtain ⟨c0, c1, c2, c3⟩ := setCells T0.e1
  obtain ⟨d0, d1, d2, d3⟩ := setCells T0.e2
  have CC := fun (g : Nat) (W : World) (hg : W.heap[g]? = some (.cells #[.slice ai si.length ci, .slice bi ti.length di] 22 (0, 0))) (h1 : RngsAt W (.slice ai si.length ci) si) (h2 : RngsAt W (.slice bi ti.length di) ti) => hide (concatR_any g _ _ _ _ W hg h1 h2 (by have := HAI.out; have := HBI.out; omega))
  have RA := fun (W : World) (x : Value) (h : RngsAt W x (si ++ ti)) => hide (setRanges_any x (si ++ ti) W h (by have := HAI.out; have := HBI.out; rw [List.length_append]; omega))
  have HAB : Hid (inI64 (si ++ ti)) := hide (fun x hx => (List.mem_append.1 hx).elim (HSI.out x) (HTI.out x))
  have HLB : Hid ((si ++ ti).length ≤ 9223372036854775807) := hide (by have := HAI.out; have := HBI.out; rw [List.length_append]; omega)
  go_enter Try.func16, Try.ntmps16
  go_wp2_with fail
  refine (unhide OS).mono ?_
  rintro r w1 ⟨⟨x1, rfl, o1⟩, b1⟩
  obtain ⟨p1, n1, k1, rfl⟩ := o1.frm
  have T1 := hide (T0.on b1)
  have I1 := hide (I0.out.on b1)
  have J1 := hide (J0.out.on b1)
  have O1 := hide o1
  have HLT := hide (lt_heap T0.e3)
  have HL1 := hide b1.size
  clear T0 b1 I0 J0 o1 OS c0 c1 c2 c3 d0 d1 d2 d3
  generalize hw0 : (((w.alloc (Obj.cells #[.bool sa, .slice ai si.length ci, .bool sc, .slice aq ss.length cq] 25)).alloc (Obj.cells #[.bool ta, .slice bi ti.length di, .bool tc, .slice bq ts.length dq] 25)).alloc (Obj.cells #[.bool false, .slice none 0 0, .bool false, .slice none 0 0] 25)) = w0 at HLT HL1 O1
  clear hw0
  obtain ⟨c0, c1, c2, c3⟩ := setCells T1.out.e1
  obtain ⟨d0, d1, d2, d3⟩ := setCells T1.out.e2
  have IA := hide (I1.out.on ((Below.refl _ w1).alloc (Nat.le_refl _) (Obj.cells #[.slice ai si.length ci, .slice bi ti.length di] 22)))
  have JA := hide (J1.out.on ((Below.refl _ w1).alloc (Nat.le_refl _) (Obj.cells #[.slice ai si.length ci, .slice bi ti.length di] 22)))
  have ne1 : ¬ (w.heap.size = w.heap.size + 1 + 1) := by omega
  have ne2 : ¬ (w.heap.size + 1 + 1 = w.heap.size) := by omega
  have ne3 : ¬ (w.heap.size + 1 + 1 = w.heap.size + 1) := by omega
  have PH1 := True.intro
  go_wp2
  cases sa
  · go_region_held3 (fun w' => (w'.cell? ⟨w.heap.size, 0, none⟩ = some (.bool false) ∧ w'.cell? ⟨w.heap.size, 1, none⟩ = some (.slice ai si.length ci)) ∧ w'.cell? ⟨w.heap.size + 1, 0, none⟩ = some (.bool ta) ∧ w'.cell? ⟨w.heap.size + 1, 1, none⟩ = some (.slice bi ti.length di)) (first | go_keep | (dsimp only; refine ⟨⟨?_, ?_⟩, ?_, ?_⟩ <;> first | assumption | go_keep))
    ((first
      | (go_at_call 30; have pz := PH1; clear pz PH1; refine (unhide (CC _ _ ?_ ?_ ?_)).mono ?_; exact heap_at (by simp); exact IA.out; exact JA.out; rintro r w2 ⟨⟨x2, rfl, o2⟩, b'⟩; obtain ⟨p2, n2, k2, rfl⟩ := o2.frm; have b : Below (w1.alloc (Obj.cells #[.slice ai si.length ci, .slice bi ti.length di] 22)).heap.size (w1.alloc (Obj.cells #[.slice ai si.length ci, .slice bi ti.length di] 22)) w2 := ⟨b'.os, b'.tape, b'.output, b'.size, b'.block⟩; have HL2 : Hid (w1.heap.size ≤ w2.heap.size) := hide (Nat.le_trans (by simp) b.size); have T2 := hide ((T1.out.al (Obj.cells #[.slice ai si.length ci, .slice bi ti.length di] 22)).on b); have O2 := hide (o2.rngs HAB.out HLB.out); have N2 := hide ((O1.out.alloc (Obj.cells #[.slice ai si.length ci, .slice bi ti.length di] 22)).on b); obtain ⟨e0, e1, e2, e3⟩ := setCells T2.out.e1; obtain ⟨f0, f1, f2, f3⟩ := setCells T2.out.e2; have PH2 := True.intro; clear b b' o2 T1 O1 I1 J1 IA JA CC c0 c1 c2 c3 d0 d1 d2 d3)
      | (go_at_call 29; have pz := PH2; clear pz PH2; refine (unhide (RA _ _ ?_)).mono ?_; exact O2.out; rintro r w3 ⟨⟨x3, o3, rfl, ho3, oo3⟩, b'⟩; obtain ⟨p3, n3, k3, rfl⟩ := oo3.frm; have b : Below w2.heap.size w2 w3 := ⟨b'.os, b'.tape, b'.output, b'.size, b'.block⟩; have T3 := hide (T2.out.on b); have O3 := hide oo3; have H3 := hide ho3; have N3 := hide (N2.out.on b); obtain ⟨e0, e1, e2, e3⟩ := setCells T3.out.e1; obtain ⟨f0, f1, f2, f3⟩ := setCells T3.out.e2; obtain ⟨g0, g1, g2, g3⟩ := setCells T3.out.e3; have z0 := frozen_heap T3.out.e3 0; have z1 := frozen_heap T3.out.e3 1; have z2 := frozen_heap T3.out.e3 2; have z3 := frozen_heap T3.out.e3 3; have PH3 := True.intro; clear b b' oo3 ho3 T2 O2 N2 RA)))
    have hsz := T3.out.b.size
    have E3 := orR_out HA.out.ri HB.out.ri HSI.out HTI.out H3.out
    subst E3
    have MS := made_set (orV ⟨false, si, sc, ss⟩ ⟨ta, ti, tc, ts⟩) (p := w.heap.size + 1 + 1) T3.out.e3 (by omega) T3.out.b O3.out N3.out (Nat.lt_of_lt_of_le HLT.out (Nat.le_trans HL1.out HL2.out)) HLT.out (orV_good HA.out HB.out) (by have := (orV_len HA.out HB.out).1; have := HAI.out; have := HBI.out; dsimp only at *; omega) (by have := (orV_len HA.out HB.out).2; have := HAS.out; have := HBS.out; dsimp only at *; omega)
    simp only [orV, Bool.false_or] at MS
    obtain ⟨m1, m2, m3⟩ := MS
    go_wp2
    exact bodyPost_ret (results_cell_row rfl _ _ (w.heap.size + 1 + 1) 25 _ (0, 0) _ rfl m1 Try.underlying25 rfl infoSet) rfl ⟨⟨_, rfl, m2⟩, m3⟩
  · refine wp_region_held_drew (S := (fun w' => (w'.cell? ⟨w.heap.size, 0, none⟩ = some (.bool true) ∧ w'.cell? ⟨w.heap.size, 1, none⟩ = some (.slice ai si.length ci)) ∧ w'.cell? ⟨w.heap.size + 1, 0, none⟩ = some (.bool ta) ∧ w'.cell? ⟨w.heap.size + 1, 1, none⟩ = some (.slice bi ti.length di))) (by kernel_rfl) ⟨⟨c0, c1⟩, d0, d1⟩ (fun hHeld => ?_)
    refine wpAnyH_take (i := 0) (v := .pointer (some ⟨w.heap.size, 0, none⟩)) rfl (by kernel_rfl) (by kernel_rfl) (by kernel_rfl) (fun _ _ _ h => h) (Or.inl ⟨by rfl, ?_⟩) (by assumption) ?_
    · intro w' hSw; (try dsimp only at hSw); go_simp; done
    simp only [Act.put, List.setIfInBounds_toArray, List.set_cons_zero, List.set_cons_succ]
    refine wpAnyH_take (i := 1) (v := .bool true) rfl (by kernel_rfl) (by kernel_rfl) (by kernel_rfl) (fun _ _ _ h => h) (Or.inl ⟨by rfl, ?_⟩) (by assumption) ?_
    · intro w' hSw; (try dsimp only at hSw); go_simp; done
    simp only [Act.put, List.setIfInBounds_toArray, List.set_cons_zero, List.set_cons_succ]
    refine wpAnyH_take (i := 2) (v := .bool true) rfl (by kernel_rfl) (by kernel_rfl) (by kernel_rfl) (fun _ _ _ h => h) (Or.inl ⟨by rfl, ?_⟩) (by assumption) ?_
    · intro w' hSw; (try dsimp only at hSw); go_simp; done
    simp only [Act.put, List.setIfInBounds_toArray, List.set_cons_zero, List.set_cons_succ]
    refine wpAnyH_take (i := 3) (v := undef) rfl (by kernel_rfl) (by kernel_rfl) (by kernel_rfl) (fun _ _ _ h => h) (Or.inr ⟨by rfl, rfl⟩) (by assumption) ?_
    simp only [Act.put, List.setIfInBounds_toArray, List.set_cons_zero, List.set_cons_succ]
    refine wpAnyH_take (i := 4) (v := undef) rfl (by kernel_rfl) (by kernel_rfl) (by kernel_rfl) (fun _ _ _ h => h) (Or.inr ⟨by rfl, rfl⟩) (by assumption) ?_
    simp only [Act.put, List.setIfInBounds_toArray, List.set_cons_zero, List.set_cons_succ]
    refine wpAnyH_take (i := 5) (v := .bool true) rfl (by kernel_rfl) (by kernel_rfl) (by kernel_rfl) (fun _ _ _ h => h) (Or.inl ⟨by rfl, ?_⟩) (by assumption) ?_
    · intro w' hSw; (try dsimp only at hSw); go_simp; done
    simp only [Act.put, List.setIfInBounds_toArray, List.set_cons_zero, List.set_cons_succ]
    refine wpAnyH_take (i := 6) (v := .pointer (some ⟨w.heap.size, 1, none⟩)) rfl (by kernel_rfl) (by kernel_rfl) (by kernel_rfl) (fun _ _ _ h => h) (Or.inl ⟨by rfl, ?_⟩) (by assumption) ?_
    · intro w' hSw; (try dsimp only at hSw); go_simp; done
    simp only [Act.put, List.setIfInBounds_toArray, List.set_cons_zero, List.set_cons_succ]
    refine wpAnyH_take (i := 7) (v := .slice ai si.length ci) rfl (by kernel_rfl) (by kernel_rfl) (by kernel_rfl) (fun _ _ _ h => h) (Or.inl ⟨by rfl, ?_⟩) (by assumption) ?_
    · intro w' hSw; (try dsimp only at hSw); go_simp; done
    simp only [Act.put, List.setIfInBounds_toArray, List.set_cons_zero, List.set_cons_succ]
    refine wpAnyH_take (i := 8) (v := .pointer (some ⟨w.heap.size + 1, 1, none⟩)) rfl (by kernel_rfl) (by kernel_rfl) (by kernel_rfl) (fun _ _ _ h => h) (Or.inl ⟨by rfl, ?_⟩) (by assumption) ?_
    · intro w' hSw; (try dsimp only at hSw); go_simp; done
    simp only [Act.put, List.setIfInBounds_toArray, List.set_cons_zero, List.set_cons_succ]
    refine wpAnyH_take (i := 9) (v := .slice bi ti.length di) rfl (by kernel_rfl) (by kernel_rfl) (by kernel_rfl) (fun _ _ _ h => h) (Or.inl ⟨by rfl, ?_⟩) (by assumption) ?_
    · intro w' hSw; (try dsimp only at hSw); go_simp; done
    simp only [Act.put, List.setIfInBounds_toArray, List.set_cons_zero, List.set_cons_succ]
    refine wpAnyH_take (i := 13) (v := .bool (sc || tc)) rfl (by kernel_rfl) (by kernel_rfl) (by kernel_rfl) (fun _ _ _ h => h) (Or.inl ⟨by rfl, ?_⟩) (by assumption) ?_
    · intro w' hSw; (try dsimp only at hSw); go_simp; done
    simp only [Act.put, List.setIfInBounds_toArray, List.set_cons_zero, List.set_cons_succ]
    refine wpAnyH_take (i := 14) (v := .slice p1 n1 k1) rfl (by kernel_rfl) (by kernel_rfl) (by kernel_rfl) (fun _ _ _ h => h) (Or.inl ⟨by rfl, ?_⟩) (by assumption) ?_
    · intro w' hSw; (try dsimp only at hSw); go_simp; done
    simp only [Act.put, List.setIfInBounds_toArray, List.set_cons_zero, List.set_cons_succ]
    refine wpAnyH_ready (rs := [10]) (by kernel_rfl) (by simp) ?_
    refine AllReadyH.cons rfl (fun K hK => ?_) AllReadyH.nil
    go_simp
    refine hK.out _ _ (by refine ⟨⟨?_, ?_⟩, ?_, ?_⟩ <;> go_keep) (fun hHeld => ?_)
    clear hK K
    refine wpAnyH_ready (rs := [11]) (by kernel_rfl) (by simp) ?_
    refine AllReadyH.cons rfl (fun K hK => ?_) AllReadyH.nil
    go_simp
    refine (unhide (CC _ _ ?_ ?_ ?_)).mono ?_; exact heap_at (by simp); exact IA.out; exact JA.out; rintro r w2 ⟨⟨x2, rfl, o2⟩, b'⟩; obtain ⟨p2, n2, k2, rfl⟩ := o2.frm; have b : Below (w1.alloc (Obj.cells #[.slice ai si.length ci, .slice bi ti.length di] 22)).heap.size (w1.alloc (Obj.cells #[.slice ai si.length ci, .slice bi ti.length di] 22)) w2 := ⟨b'.os, b'.tape, b'.output, b'.size, b'.block⟩; have HL2 : Hid (w1.heap.size ≤ w2.heap.size) := hide (Nat.le_trans (by simp) b.size); have T2 := hide ((T1.out.al (Obj.cells #[.slice ai si.length ci, .slice bi ti.length di] 22)).on b); have O2 := hide (o2.rngs HAB.out HLB.out); have N2 := hide ((O1.out.alloc (Obj.cells #[.slice ai si.length ci, .slice bi ti.length di] 22)).on b); obtain ⟨e0, e1, e2, e3⟩ := setCells T2.out.e1; obtain ⟨f0, f1, f2, f3⟩ := setCells T2.out.e2; clear b b' o2 T1 O1 I1 J1 IA JA CC c0 c1 c2 c3 d0 d1 d2 d3
    refine hK.out _ _ ⟨⟨e0, e1⟩, f0, f1⟩ (fun hHeld => ?_)
    clear hK K
    refine wpAnyH_ready (rs := [12]) (by kernel_rfl) (by simp) ?_
    refine AllReadyH.cons rfl (fun K hK => ?_) AllReadyH.nil
    go_simp
    refine (unhide (RA _ _ ?_)).mono ?_; exact O2.out; rintro r w3 ⟨⟨x3, o3, rfl, ho3, oo3⟩, b'⟩; obtain ⟨p3, n3, k3, rfl⟩ := oo3.frm; have b : Below w2.heap.size w2 w3 := ⟨b'.os, b'.tape, b'.output, b'.size, b'.block⟩; have T3 := hide (T2.out.on b); have O3 := hide oo3; have H3 := hide ho3; have N3 := hide (N2.out.on b); obtain ⟨e0, e1, e2, e3⟩ := setCells T3.out.e1; obtain ⟨f0, f1, f2, f3⟩ := setCells T3.out.e2; obtain ⟨g0, g1, g2, g3⟩ := setCells T3.out.e3; have z0 := frozen_heap T3.out.e3 0; have z1 := frozen_heap T3.out.e3 1; have z2 := frozen_heap T3.out.e3 2; have z3 := frozen_heap T3.out.e3 3; clear b b' oo3 ho3 T2 O2 N2 RA
    refine hK.out _ _ ⟨⟨e0, e1⟩, f0, f1⟩ (fun hHeld => ?_)
    clear hK K
    refine wpAnyH_take (i := 15) (v := .agg #[.bool true, .slice p3 n3 k3, .bool (sc || tc), .slice p1 n1 k1]) rfl (by kernel_rfl) (by kernel_rfl) (by kernel_rfl) (fun _ _ _ h => h) (Or.inl ⟨by rfl, ?_⟩) (by assumption) ?_
    · intro w' hSw; (try dsimp only at hSw); go_simp; done
    simp only [Act.put, List.setIfInBounds_toArray, List.set_cons_zero, List.set_cons_succ]
    refine wpAnyH_ready (rs := [16]) (by kernel_rfl) (by simp) ?_
    refine AllReadyH.cons rfl (fun K hK => ?_) AllReadyH.nil
    go_simp
    refine hK.out _ _ ⟨⟨(put4_cell ne2).trans e0, (put4_cell ne2).trans e1⟩, (put4_cell ne3).trans f0, (put4_cell ne3).trans f1⟩ (fun hHeld => ?_)
    clear hK K
    refine wpAnyH_done (by kernel_rfl) ?_ _
    have hsz := T3.out.b.size
    have E3 := orR_out HA.out.ri HB.out.ri HSI.out HTI.out H3.out
    subst E3
    have MS := made_set (orV ⟨true, si, sc, ss⟩ ⟨ta, ti, tc, ts⟩) (p := w.heap.size + 1 + 1) T3.out.e3 (by omega) T3.out.b O3.out N3.out (Nat.lt_of_lt_of_le HLT.out (Nat.le_trans HL1.out HL2.out)) HLT.out (orV_good HA.out HB.out) (by have := (orV_len HA.out HB.out).1; have := HAI.out; have := HBI.out; dsimp only at *; omega) (by have := (orV_len HA.out HB.out).2; have := HAS.out; have := HBS.out; dsimp only at *; omega)
    simp only [orV, Bool.true_or] at MS
    obtain ⟨m1, m2, m3⟩ := MS
    go_wp2
    exact bodyPost_ret (results_cell_row rfl _ _ (w.heap.size + 1 + 1) 25 _ (0, 0) _ rfl m1 Try.underlying25 rfl infoSet) rfl ⟨⟨_, rfl, m2⟩, m3⟩
theorem or_any (v u : Value) (A B : SetV) (w : World) (hv : SetAt w v A) (hu : SetAt w u B) (fA : Fit2 A) (fB : Fit2 B) :
    Calls Try.prog 16 #[v, u] w fun r w' => (∃ x, r = .returned x ∧ SetAt w' x (orV A B)) ∧ Below w.heap.size w w' := or_raw v u A.absent A.ints A.co A.strs B.absent B.ints B.co B.strs w hv hu fA fB
set_option maxHeartbeats 4000000 in
set_option maxRecDepth 100000 in
theorem and_raw (v u : Value) (sa : Bool) (si : List Rg) (sc : Bool) (ss : List ByteArray) (ta : Bool) (ti : List Rg) (tc : Bool) (ts : List ByteArray) (w : World) (hv : SetAt w v ⟨sa, si, sc, ss⟩) (hu : SetAt w u ⟨ta, ti, tc, ts⟩) (fA : Fit2 ⟨sa, si, sc, ss⟩) (fB : Fit2 ⟨ta, ti, tc, ts⟩) :
    Calls Try.prog 24 #[v, u] w fun r w' => (∃ x, r = .returned x ∧ SetAt w' x (andV ⟨sa, si, sc, ss⟩ ⟨ta, ti, tc, ts⟩)) ∧ Below w.heap.size w w' := by
  have HA := hide fA.good
  have HB := hide fB.good
  have HAI := hide fA.ni
  have HAS := hide fA.ns
  have HBI := hide fB.ni
  have HBS := hide fB.ns
  clear fA fB
  obtain ⟨vi, vs, rfl, hI, hS⟩ := hv
  obtain ⟨ui, us, rfl, hJ, hT⟩ := hu
  dsimp only at HAI HAS HBI HBS hI hS hJ hT
  obtain ⟨ai, ci, rfl⟩ := hI.form
  obtain ⟨aq, cq, rfl⟩ := hS.form
  obtain ⟨bi, di, rfl⟩ := hJ.form
  obtain ⟨bq, dq, rfl⟩ := hT.form
  have T0 := Trio.start w (.cells #[.bool sa, .slice ai si.length ci, .bool sc, .slice aq ss.length cq] 25) (.cells #[.bool ta, .slice bi ti.length di, .bool tc, .slice bq ts.length dq] 25) (.cells #[.bool false, .slice none 0 0, .bool false, .slice none 0 0] 25)
  have OS := hide (orStrings_any _ _ (notV ⟨sa, si, sc, ss⟩) (notV ⟨ta, ti, tc, ts⟩) _ (hS.on T0.b) (hT.on T0.b) HA.out.rs HB.out.rs (by have := HAS.out; have := HBS.out; unfold notV; dsimp only; omega))
  dsimp only [notV] at OS
  have I0 := hide (hI.on T0.b)
  have J0 := hide (hJ.on T0.b)
  have HSI := hide hI.1
  have HTI := hide hJ.1
  clear hI hJ hS hT
  obtain ⟨c0, c1, c2, c3⟩ := setCells T0.e1
  obtain ⟨d0, d1, d2, d3⟩ := setCells T0.e2
  have CM := fun (W : World) (h1 : RngsAt W (.slice ai si.length ci) si) (h2 : RngsAt W (.slice bi ti.length di) ti) => hide (commonRanges_any _ _ si ti W h1 h2 HA.out.ri HB.out.ri (by have := HAI.out; have := HBI.out; omega))
  go_enter Try.func24, Try.ntmps24
  go_wp2_with fail
  refine (unhide OS).mono ?_
  rintro r w1 ⟨⟨x1, rfl, o1⟩, b1⟩
  obtain ⟨p1, n1, k1, rfl⟩ := o1.frm
  have T1 := hide (T0.on b1)
  have I1 := hide (I0.out.on b1)
  have J1 := hide (J0.out.on b1)
  have O1 := hide o1
  have HLT := hide (lt_heap T0.e3)
  have HL1 := hide b1.size
  clear T0 b1 I0 J0 o1 OS c0 c1 c2 c3 d0 d1 d2 d3
  generalize hw0 : (((w.alloc (Obj.cells #[.bool sa, .slice ai si.length ci, .bool sc, .slice aq ss.length cq] 25)).alloc (Obj.cells #[.bool ta, .slice bi ti.length di, .bool tc, .slice bq ts.length dq] 25)).alloc (Obj.cells #[.bool false, .slice none 0 0, .bool false, .slice none 0 0] 25)) = w0 at HLT HL1 O1
  clear hw0
  obtain ⟨c0, c1, c2, c3⟩ := setCells T1.out.e1
  obtain ⟨d0, d1, d2, d3⟩ := setCells T1.out.e2
  have ne1 : ¬ (w.heap.size = w.heap.size + 1 + 1) := by omega
  have ne2 : ¬ (w.heap.size + 1 + 1 = w.heap.size) := by omega
  have ne3 : ¬ (w.heap.size + 1 + 1 = w.heap.size + 1) := by omega
  have PH1 := True.intro
  go_wp2
  cases sa
  · refine wp_region_held_drew (S := (fun w' => (w'.cell? ⟨w.heap.size, 0, none⟩ = some (.bool false) ∧ w'.cell? ⟨w.heap.size, 1, none⟩ = some (.slice ai si.length ci)) ∧ w'.cell? ⟨w.heap.size + 1, 0, none⟩ = some (.bool ta) ∧ w'.cell? ⟨w.heap.size + 1, 1, none⟩ = some (.slice bi ti.length di))) (by kernel_rfl) ⟨⟨c0, c1⟩, d0, d1⟩ (fun hHeld => ?_)
    refine wpAnyH_take (i := 0) (v := .pointer (some ⟨w.heap.size, 0, none⟩)) rfl (by kernel_rfl) (by kernel_rfl) (by kernel_rfl) (fun _ _ _ h => h) (Or.inl ⟨by rfl, ?_⟩) (by assumption) ?_
    · intro w' hSw; (try dsimp only at hSw); go_simp; done
    simp only [Act.put, List.setIfInBounds_toArray, List.set_cons_zero, List.set_cons_succ]
    refine wpAnyH_take (i := 1) (v := .bool false) rfl (by kernel_rfl) (by kernel_rfl) (by kernel_rfl) (fun _ _ _ h => h) (Or.inl ⟨by rfl, ?_⟩) (by assumption) ?_
    · intro w' hSw; (try dsimp only at hSw); go_simp; done
    simp only [Act.put, List.setIfInBounds_toArray, List.set_cons_zero, List.set_cons_succ]
    refine wpAnyH_take (i := 2) (v := .bool false) rfl (by kernel_rfl) (by kernel_rfl) (by kernel_rfl) (fun _ _ _ h => h) (Or.inl ⟨by rfl, ?_⟩) (by assumption) ?_
    · intro w' hSw; (try dsimp only at hSw); go_simp; done
    simp only [Act.put, List.setIfInBounds_toArray, List.set_cons_zero, List.set_cons_succ]
    refine wpAnyH_take (i := 3) (v := undef) rfl (by kernel_rfl) (by kernel_rfl) (by kernel_rfl) (fun _ _ _ h => h) (Or.inr ⟨by rfl, rfl⟩) (by assumption) ?_
    simp only [Act.put, List.setIfInBounds_toArray, List.set_cons_zero, List.set_cons_succ]
    refine wpAnyH_take (i := 4) (v := undef) rfl (by kernel_rfl) (by kernel_rfl) (by kernel_rfl) (fun _ _ _ h => h) (Or.inr ⟨by rfl, rfl⟩) (by assumption) ?_
    simp only [Act.put, List.setIfInBounds_toArray, List.set_cons_zero, List.set_cons_succ]
    refine wpAnyH_take (i := 5) (v := .bool false) rfl (by kernel_rfl) (by kernel_rfl) (by kernel_rfl) (fun _ _ _ h => h) (Or.inl ⟨by rfl, ?_⟩) (by assumption) ?_
    · intro w' hSw; (try dsimp only at hSw); go_simp; done
    simp only [Act.put, List.setIfInBounds_toArray, List.set_cons_zero, List.set_cons_succ]
    refine wpAnyH_take (i := 6) (v := .pointer (some ⟨w.heap.size, 1, none⟩)) rfl (by kernel_rfl) (by kernel_rfl) (by kernel_rfl) (fun _ _ _ h => h) (Or.inl ⟨by rfl, ?_⟩) (by assumption) ?_
    · intro w' hSw; (try dsimp only at hSw); go_simp; done
    simp only [Act.put, List.setIfInBounds_toArray, List.set_cons_zero, List.set_cons_succ]
    refine wpAnyH_take (i := 7) (v := .slice ai si.length ci) rfl (by kernel_rfl) (by kernel_rfl) (by kernel_rfl) (fun _ _ _ h => h) (Or.inl ⟨by rfl, ?_⟩) (by assumption) ?_
    · intro w' hSw; (try dsimp only at hSw); go_simp; done
    simp only [Act.put, List.setIfInBounds_toArray, List.set_cons_zero, List.set_cons_succ]
    refine wpAnyH_take (i := 8) (v := .pointer (some ⟨w.heap.size + 1, 1, none⟩)) rfl (by kernel_rfl) (by kernel_rfl) (by kernel_rfl) (fun _ _ _ h => h) (Or.inl ⟨by rfl, ?_⟩) (by assumption) ?_
    · intro w' hSw; (try dsimp only at hSw); go_simp; done
    simp only [Act.put, List.setIfInBounds_toArray, List.set_cons_zero, List.set_cons_succ]
    refine wpAnyH_take (i := 9) (v := .slice bi ti.length di) rfl (by kernel_rfl) (by kernel_rfl) (by kernel_rfl) (fun _ _ _ h => h) (Or.inl ⟨by rfl, ?_⟩) (by assumption) ?_
    · intro w' hSw; (try dsimp only at hSw); go_simp; done
    simp only [Act.put, List.setIfInBounds_toArray, List.set_cons_zero, List.set_cons_succ]
    refine wpAnyH_take (i := 11) (v := .bool (!sc || !tc)) rfl (by kernel_rfl) (by kernel_rfl) (by kernel_rfl) (fun _ _ _ h => h) (Or.inl ⟨by rfl, ?_⟩) (by assumption) ?_
    · intro w' hSw; (try dsimp only at hSw); go_simp; done
    simp only [Act.put, List.setIfInBounds_toArray, List.set_cons_zero, List.set_cons_succ]
    refine wpAnyH_take (i := 12) (v := .bool (!(!sc || !tc))) rfl (by kernel_rfl) (by kernel_rfl) (by kernel_rfl) (fun _ _ _ h => h) (Or.inl ⟨by rfl, ?_⟩) (by assumption) ?_
    · intro w' hSw; (try dsimp only at hSw); go_simp; done
    simp only [Act.put, List.setIfInBounds_toArray, List.set_cons_zero, List.set_cons_succ]
    refine wpAnyH_take (i := 13) (v := .slice p1 n1 k1) rfl (by kernel_rfl) (by kernel_rfl) (by kernel_rfl) (fun _ _ _ h => h) (Or.inl ⟨by rfl, ?_⟩) (by assumption) ?_
    · intro w' hSw; (try dsimp only at hSw); go_simp; done
    simp only [Act.put, List.setIfInBounds_toArray, List.set_cons_zero, List.set_cons_succ]
    refine wpAnyH_ready (rs := [10]) (by kernel_rfl) (by simp) ?_
    refine AllReadyH.cons rfl (fun K hK => ?_) AllReadyH.nil
    go_simp
    refine (unhide (CM _ ?_ ?_)).mono ?_; exact I1.out; exact J1.out; rintro r w3 ⟨⟨x3, o3, rfl, ho3, oo3⟩, b'⟩; obtain ⟨p3, n3, k3, rfl⟩ := oo3.frm; have b : Below w1.heap.size w1 w3 := ⟨b'.os, b'.tape, b'.output, b'.size, b'.block⟩; have T3 := hide (T1.out.on b); have O3 := hide oo3; have H3 := hide ho3; have N3 := hide (O1.out.on b); obtain ⟨e0, e1, e2, e3⟩ := setCells T3.out.e1; obtain ⟨f0, f1, f2, f3⟩ := setCells T3.out.e2; obtain ⟨g0, g1, g2, g3⟩ := setCells T3.out.e3; have z0 := frozen_heap T3.out.e3 0; have z1 := frozen_heap T3.out.e3 1; have z2 := frozen_heap T3.out.e3 2; have z3 := frozen_heap T3.out.e3 3; clear b b' oo3 ho3 T1 O1 I1 J1 CM c0 c1 c2 c3 d0 d1 d2 d3
    refine hK.out _ _ ⟨⟨e0, e1⟩, f0, f1⟩ (fun hHeld => ?_)
    clear hK K
    refine wpAnyH_take (i := 14) (v := .agg #[.bool false, .slice p3 n3 k3, .bool (!(!sc || !tc)), .slice p1 n1 k1]) rfl (by kernel_rfl) (by kernel_rfl) (by kernel_rfl) (fun _ _ _ h => h) (Or.inl ⟨by rfl, ?_⟩) (by assumption) ?_
    · intro w' hSw; (try dsimp only at hSw); go_simp; done
    simp only [Act.put, List.setIfInBounds_toArray, List.set_cons_zero, List.set_cons_succ]
    refine wpAnyH_ready (rs := [15]) (by kernel_rfl) (by simp) ?_
    refine AllReadyH.cons rfl (fun K hK => ?_) AllReadyH.nil
    go_simp
    refine hK.out _ _ ⟨⟨(put4_cell ne2).trans e0, (put4_cell ne2).trans e1⟩, (put4_cell ne3).trans f0, (put4_cell ne3).trans f1⟩ (fun hHeld => ?_)
    clear hK K
    refine wpAnyH_done (by kernel_rfl) ?_ _
    have hsz := T3.out.b.size
    have E3 := andR_out HA.out HB.out H3.out
    subst E3
    have MS := made_set (andV ⟨false, si, sc, ss⟩ ⟨ta, ti, tc, ts⟩) (p := w.heap.size + 1 + 1) T3.out.e3 (by omega) T3.out.b O3.out N3.out (Nat.lt_of_lt_of_le HLT.out HL1.out) HLT.out (andV_good HA.out HB.out) (by have := (andV_len HA.out HB.out).1; have := HAI.out; have := HBI.out; dsimp only at *; omega) (by have := (andV_len HA.out HB.out).2; have := HAS.out; have := HBS.out; dsimp only at *; omega)
    have hab : (andV ⟨false, si, sc, ss⟩ ⟨ta, ti, tc, ts⟩).absent = false := by cases ta <;> rfl
    have hco : (andV ⟨false, si, sc, ss⟩ ⟨ta, ti, tc, ts⟩).co = (sc && tc) := by cases sc <;> cases tc <;> rfl
    rw [hab, hco] at MS
    obtain ⟨m1, m2, m3⟩ := MS
    go_wp2
    exact bodyPost_ret (results_cell_row rfl _ _ (w.heap.size + 1 + 1) 25 _ (0, 0) _ rfl m1 Try.underlying25 rfl infoSet) rfl ⟨⟨_, rfl, m2⟩, m3⟩
  · go_region_held3 (fun w' => (w'.cell? ⟨w.heap.size, 0, none⟩ = some (.bool true) ∧ w'.cell? ⟨w.heap.size, 1, none⟩ = some (.slice ai si.length ci)) ∧ w'.cell? ⟨w.heap.size + 1, 0, none⟩ = some (.bool ta) ∧ w'.cell? ⟨w.heap.size + 1, 1, none⟩ = some (.slice bi ti.length di)) (first | go_keep | (dsimp only; refine ⟨⟨?_, ?_⟩, ?_, ?_⟩ <;> first | assumption | go_keep))
    ((first
      | (go_at_call 38; have pz := PH1; clear pz PH1; refine (unhide (CM _ ?_ ?_)).mono ?_; exact I1.out; exact J1.out; rintro r w3 ⟨⟨x3, o3, rfl, ho3, oo3⟩, b'⟩; obtain ⟨p3, n3, k3, rfl⟩ := oo3.frm; have b : Below w1.heap.size w1 w3 := ⟨b'.os, b'.tape, b'.output, b'.size, b'.block⟩; have T3 := hide (T1.out.on b); have O3 := hide oo3; have H3 := hide ho3; have N3 := hide (O1.out.on b); obtain ⟨e0, e1, e2, e3⟩ := setCells T3.out.e1; obtain ⟨f0, f1, f2, f3⟩ := setCells T3.out.e2; obtain ⟨g0, g1, g2, g3⟩ := setCells T3.out.e3; have z0 := frozen_heap T3.out.e3 0; have z1 := frozen_heap T3.out.e3 1; have z2 := frozen_heap T3.out.e3 2; have z3 := frozen_heap T3.out.e3 3; have PH3 := True.intro; clear b b' oo3 ho3 T1 O1 I1 J1 CM c0 c1 c2 c3 d0 d1 d2 d3)))
    have hsz := T3.out.b.size
    have E3 := andR_out HA.out HB.out H3.out
    subst E3
    have MS := made_set (andV ⟨true, si, sc, ss⟩ ⟨ta, ti, tc, ts⟩) (p := w.heap.size + 1 + 1) T3.out.e3 (by omega) T3.out.b O3.out N3.out (Nat.lt_of_lt_of_le HLT.out HL1.out) HLT.out (andV_good HA.out HB.out) (by have := (andV_len HA.out HB.out).1; have := HAI.out; have := HBI.out; dsimp only at *; omega) (by have := (andV_len HA.out HB.out).2; have := HAS.out; have := HBS.out; dsimp only at *; omega)
    have hab : (andV ⟨true, si, sc, ss⟩ ⟨ta, ti, tc, ts⟩).absent = ta := by cases ta <;> rfl
    have hco : (andV ⟨true, si, sc, ss⟩ ⟨ta, ti, tc, ts⟩).co = (sc && tc) := by cases sc <;> cases tc <;> rfl
    rw [hab, hco] at MS
    obtain ⟨m1, m2, m3⟩ := MS
    go_wp2
    exact bodyPost_ret (results_cell_row rfl _ _ (w.heap.size + 1 + 1) 25 _ (0, 0) _ rfl m1 Try.underlying25 rfl infoSet) rfl ⟨⟨_, rfl, m2⟩, m3⟩
theorem and_any (v u : Value) (A B : SetV) (w : World) (hv : SetAt w v A) (hu : SetAt w u B) (fA : Fit2 A) (fB : Fit2 B) :
    Calls Try.prog 24 #[v, u] w fun r w' => (∃ x, r = .returned x ∧ SetAt w' x (andV A B)) ∧ Below w.heap.size w w' := and_raw v u A.absent A.ints A.co A.strs B.absent B.ints B.co B.strs w hv hu fA fB
theorem in_empty {A B : SetV} (hA : Good A) (hB : Good B) (lA : A.strs.length ≤ 1000) (lB : B.strs.length ≤ 1000) : emptyB (andV A (notV B)) = inB A B := by
  have gN := notV_good hB
  have gX := andV_good hA gN
  have xl := (andV_len hA gN).2
  have nl := (notV_len B hB).2
  apply bool_of_iff
  rw [inB_iff hA hB (by omega)]
  have he : emptyB (andV A (notV B)) = true ↔ andV A (notV B) = noSet := by
    rw [← sameB_iff]
    generalize andV A (notV B) = X
    obtain ⟨xa, xi, xc, xs⟩ := X
    cases xa <;> cases xi <;> cases xc <;> cases xs <;> simp [emptyB, sameB, noSet, rngEqB, strEqB]
  rw [he]
  constructor
  · intro h p b0 b1 hp
    have h1 := andV_has hA gN p b0 b1
    have h2 := notV_has hB p b0 b1
    rw [h, hp, h2, has_right hp] at h1
    cases hb : hasP B p
    · rw [hb] at h1
      have h3 : hasP noSet p = false := by
        have := andV_has noSet_good noSet_good p b0 b1
        cases hn : hasP noSet p
        · rfl
        · exfalso
          have hr := has_right hn
          rcases rightV_cases hr with e | ⟨n, e⟩ | ⟨s, hs, e⟩
          · rw [e, has_abs] at hn; exact absurd hn (by simp [noSet])
          · rw [e, has_num] at hn; exact absurd hn (by simp [noSet, inIntsB])
          · rw [e, has_str _ hs] at hn; exact absurd hn (by simp [noSet, inStrsB])
      rw [h3] at h1
      exact absurd h1 (by simp)
    · rfl
  · intro h
    refine good_ext gX noSet_good (by simp [noSet]; omega) (fun p b0 b1 => ?_)
    have h1 := andV_has hA gN p b0 b1
    have h2 := notV_has hB p b0 b1
    have h3 : hasP noSet p = false := by
      cases hn : hasP noSet p
      · rfl
      · exfalso
        have hr := has_right hn
        rcases rightV_cases hr with e | ⟨n, e⟩ | ⟨s, hs, e⟩
        · rw [e, has_abs] at hn; exact absurd hn (by simp [noSet])
        · rw [e, has_num] at hn; exact absurd hn (by simp [noSet, inIntsB])
        · rw [e, has_str _ hs] at hn; exact absurd hn (by simp [noSet, inStrsB])
    rw [h1, h2, h3]
    cases ha : hasP A p
    · rfl
    · rw [h p b0 b1 ha]; simp

set_option maxHeartbeats 4000000 in
set_option maxRecDepth 100000 in
theorem in_any (v u : Value) (A B : SetV) (w : World) (hv : SetAt w v A) (hu : SetAt w u B) (fA : Fit A) (fB : Fit B) :
    Calls Try.prog 39 #[v, u] w fun r w' => r = .returned (.bool (inB A B)) ∧ Below w.heap.size w w' := by
  have HE := hide (in_empty fA.good fB.good fA.ns fB.ns)
  have nl := notV_len B fB.good
  have al := andV_len fA.good (notV_good fB.good)
  have a1 := fA.ni
  have a2 := fA.ns
  have b1 := fB.ni
  have b2 := fB.ns
  have NB := fun (W : World) (x : Value) (h : SetAt W x B) => hide (not_any x B W h fB)
  have AB := fun (W : World) (x y : Value) (h1 : SetAt W x A) (h2 : SetAt W y (notV B)) => hide (and_any x y A (notV B) W h1 h2 fA.two ⟨notV_good fB.good, by omega, by omega⟩)
  have EB := fun (W : World) (x : Value) (h : SetAt W x (andV A (notV B))) => hide (empty_any x _ W h)
  clear nl al a1 a2 b1 b2 fA fB
  obtain ⟨vi, vs, rfl, hI, hS⟩ := hv
  obtain ⟨ui, us, rfl, hJ, hT⟩ := hu
  obtain ⟨ai, ci, rfl⟩ := hI.form
  obtain ⟨aq, cq, rfl⟩ := hS.form
  obtain ⟨bi, di, rfl⟩ := hJ.form
  obtain ⟨bq, dq, rfl⟩ := hT.form
  have T0 := Two.start w (.cells #[.bool A.absent, .slice ai A.ints.length ci, .bool A.co, .slice aq A.strs.length cq] 25) (.cells #[.bool B.absent, .slice bi B.ints.length di, .bool B.co, .slice bq B.strs.length dq] 25)
  have V0 : Hid (SetAt _ (.agg #[.bool A.absent, .slice ai A.ints.length ci, .bool A.co, .slice aq A.strs.length cq]) A) := hide ⟨_, _, rfl, hI.on T0.b, hS.on T0.b⟩
  have U0 : Hid (SetAt _ (.agg #[.bool B.absent, .slice bi B.ints.length di, .bool B.co, .slice bq B.strs.length dq]) B) := hide ⟨_, _, rfl, hJ.on T0.b, hT.on T0.b⟩
  clear hI hJ hS hT
  obtain ⟨c0, c1, c2, c3⟩ := setCells T0.e1
  obtain ⟨d0, d1, d2, d3⟩ := setCells T0.e2
  have T1 := hide T0
  clear T0
  go_enter Try.func39, Try.ntmps39
  go_wp2
  generalize ((w.alloc (Obj.cells #[.bool A.absent, .slice ai A.ints.length ci, .bool A.co, .slice aq A.strs.length cq] 25)).alloc (Obj.cells #[.bool B.absent, .slice bi B.ints.length di, .bool B.co, .slice bq B.strs.length dq] 25)) = w1 at T1 V0 U0 c0 c1 c2 c3 d0 d1 d2 d3 ⊢
  have PH1 := True.intro
  go_region_held3 (fun w' => ((w'.cell? ⟨w.heap.size, 0, none⟩ = some (.bool A.absent) ∧ w'.cell? ⟨w.heap.size, 1, none⟩ = some (.slice ai A.ints.length ci)) ∧ w'.cell? ⟨w.heap.size, 2, none⟩ = some (.bool A.co) ∧ w'.cell? ⟨w.heap.size, 3, none⟩ = some (.slice aq A.strs.length cq)) ∧ (w'.cell? ⟨w.heap.size + 1, 0, none⟩ = some (.bool B.absent) ∧ w'.cell? ⟨w.heap.size + 1, 1, none⟩ = some (.slice bi B.ints.length di)) ∧ w'.cell? ⟨w.heap.size + 1, 2, none⟩ = some (.bool B.co) ∧ w'.cell? ⟨w.heap.size + 1, 3, none⟩ = some (.slice bq B.strs.length dq)) (first | go_keep | (refine ⟨⟨⟨?_, ?_⟩, ?_, ?_⟩, ⟨?_, ?_⟩, ?_, ?_⟩ <;> assumption))
    ((first
      | (go_at_call 54; have pz := PH1; clear pz PH1; refine (unhide (NB _ _ ?_)).mono ?_; exact U0.out; rintro r w2 ⟨⟨x2, rfl, s2⟩, b'⟩; have b : Below w1.heap.size w1 w2 := ⟨b'.os, b'.tape, b'.output, b'.size, b'.block⟩; have T2 := hide (T1.out.on b); have V2 := hide (V0.out.on b); have S2 := hide s2; obtain ⟨e0, e1, e2, e3⟩ := setCells T2.out.e1; obtain ⟨f0, f1, f2, f3⟩ := setCells T2.out.e2; have PH2 := True.intro; clear b b' s2 T1 V0 U0)
      | (go_at_call 24; have pz := PH2; clear pz PH2; refine (unhide (AB _ _ _ ?_ ?_)).mono ?_; exact V2.out; exact S2.out; rintro r w3 ⟨⟨x3, rfl, s3⟩, b'⟩; have b : Below w2.heap.size w2 w3 := ⟨b'.os, b'.tape, b'.output, b'.size, b'.block⟩; have T3 := hide (T2.out.on b); have S3 := hide s3; obtain ⟨e0, e1, e2, e3⟩ := setCells T3.out.e1; obtain ⟨f0, f1, f2, f3⟩ := setCells T3.out.e2; have PH3 := True.intro; clear b b' s3 T2 V2 S2)
      | (go_at_call 37; have pz := PH3; clear pz PH3; refine (unhide (EB _ _ ?_)).mono ?_; exact S3.out; rintro r w4 ⟨rfl, b'⟩; have b : Below w3.heap.size w3 w4 := ⟨b'.os, b'.tape, b'.output, b'.size, b'.block⟩; have T4 := hide (T3.out.on b); obtain ⟨e0, e1, e2, e3⟩ := setCells T4.out.e1; obtain ⟨f0, f1, f2, f3⟩ := setCells T4.out.e2; have PH4 := True.intro; clear b b' T3 S3)))
  go_wp2
  go_ret
  exact ⟨ret_bool HE.out, T4.out.b⟩

/-- The program's set keeps its promises. -/
theorem setProg : SetProg := {
  all := all_any,
  not := not_any,
  or := fun v u A B w hv hu fA fB => or_any v u A B w hv hu fA.two fB.two,
  and := fun v u A B w hv hu fA fB => and_any v u A B w hv hu fA.two fB.two,
  in_ := in_any,
  empty := fun v S w hv _ => empty_any v S w hv,
  same := fun v u A B w hv hu _ _ => same_any v u A B w hv hu,
  has := fun v S k n s w hv hf _ _ hs => has_any v S k n s w hv hf hs,
  ranges := fun v l w hv hl => (setRanges_any v l w hv (by omega)).mono fun r w' ⟨⟨u, o, e, h1, h2⟩, hb⟩ => ⟨⟨u, o, e, h1, h2.rngs h1.2.1 (by have := h1.2.2.1; omega)⟩, hb⟩ }
end Go.Proofs.Yteahjihmpchcbaa
