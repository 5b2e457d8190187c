/-
  The walk of the third reference's In.
-/
import Derived.Test.YtdmjpdhjebmnfaaSG
set_option linter.unusedSimpArgs false
set_option linter.unusedVariables false
namespace Go.Proofs.Ytdmjpdhjebmnfaa
open Go.RowKit

theorem two_bx (w : World) (o1 o2 : Obj) : ((w.alloc o1).alloc o2).heap[w.heap.size]? = some o1 ∧ ((w.alloc o1).alloc o2).heap[w.heap.size + 1]? = some o2 ∧ Below w.heap.size w ((w.alloc o1).alloc o2) := two_new (Below.refl _ _)
def noVa : Va := (0, 0, noS)
theorem OwnV.form {w : World} {B : Nat} {v : Value} {l : List Va} (h : OwnV w B v l) (hne : 0 < l.length) : ∃ g cap, v = .slice (some ⟨g, 0, none⟩) l.length cap ∧ B ≤ g ∧ g < w.heap.size := by
  rcases h.2 with ⟨_, h⟩ | ⟨g, cap, cur, h1, h2, h3, _⟩
  · omega
  · exact ⟨g, cap, h1, h2, lt_heap h3⟩
theorem vaCells_at : ∀ (l : List Va) (i : Nat), i < l.length → (vaCells l)[i * 3]? = some (.int .i64 (l.getD i noVa).1) ∧ (vaCells l)[i * 3 + 1]? = some (.int .i64 (l.getD i noVa).2.1) ∧ (vaCells l)[i * 3 + 2]? = some (.string (l.getD i noVa).2.2)
  | [], i, h => by simp at h
  | v :: l, 0, _ => by simp [vaCells]
  | v :: l, i + 1, h => by
    have ih := vaCells_at l i (by simpa using h)
    have e : vaCells (v :: l) = [.int .i64 v.1, .int .i64 v.2.1, .string v.2.2] ++ vaCells l := rfl
    rw [e]
    refine ⟨?_, ?_, ?_⟩
    · rw [List.getElem?_append_right (by simp; omega)]
      simpa [show (i + 1) * 3 - 3 = i * 3 by omega] using ih.1
    · rw [List.getElem?_append_right (by simp; omega)]
      simpa [show (i + 1) * 3 + 1 - 3 = i * 3 + 1 by omega] using ih.2.1
    · rw [List.getElem?_append_right (by simp; omega)]
      simpa [show (i + 1) * 3 + 2 - 3 = i * 3 + 2 by omega] using ih.2.2
theorem OwnV.at {w : World} {B g n cap : Nat} {l : List Va} (h : OwnV w B (.slice (some ⟨g, 0, none⟩) n cap) l) (i : Nat) (hi : i < l.length) : w.cell? ⟨g, i * 3, none⟩ = some (.int .i64 (l.getD i noVa).1) ∧ w.cell? ⟨g, i * 3 + 1, none⟩ = some (.int .i64 (l.getD i noVa).2.1) ∧ w.cell? ⟨g, i * 3 + 2, none⟩ = some (.string (l.getD i noVa).2.2) := by
  obtain ⟨hl, hr⟩ := h
  rcases hr with ⟨h0, _⟩ | ⟨g', cap', cur, h1, h2, h3, h4, h5, h6, h7⟩
  · cases h0
  · injection h1 with e1 e2 e3
    injection e1 with e1
    injection e1 with e1
    subst e1
    have hc : ∀ j, j < l.length * 3 → w.cell? ⟨g, j, none⟩ = (vaCells l)[j]? := fun j hj => by
      rw [cell_heap h3, ← h7, List.getElem?_take, if_pos hj]
      simp
    obtain ⟨a1, a2, a3⟩ := vaCells_at l i hi
    exact ⟨(hc _ (by omega)).trans a1, (hc _ (by omega)).trans a2, (hc _ (by omega)).trans a3⟩

def hasP (S : SetV) (p : Va) : Bool := hasB S p.1 p.2.1 p.2.2
/-- In, point by point. -/
def inPts (A B : SetV) (ps : List Va) : Bool := ps.all fun p => !(hasP A p && !(hasP B p))
theorem SetAt.pair {w : World} {v u : Value} {A B : SetV} (hv : SetAt w v A) (hu : SetAt w u B) (n : Nat) (hn : n = w.heap.size) : ∀ vi vs ui us, v = .agg #[.bool A.absent, vi, .bool A.co, vs] → u = .agg #[.bool B.absent, ui, .bool B.co, us] →
    SetsAt (w.alloc (.cells #[.bool A.absent, vi, .bool A.co, vs, .bool B.absent, ui, .bool B.co, us] 25)) (.slice (some ⟨n, 0, none⟩) 2 2) [A, B] := by
  intro vi vs ui us ev eu
  subst hn
  obtain ⟨vi', vs', ev', hI, hS⟩ := hv
  obtain ⟨ui', us', eu', hJ, hT⟩ := hu
  rw [ev] at ev'
  rw [eu] at eu'
  simp at ev' eu'
  obtain ⟨rfl, rfl⟩ := ev'
  obtain ⟨rfl, rfl⟩ := eu'
  have hb := (Below.refl _ w).alloc (Nat.le_refl _) (.cells #[.bool A.absent, vi, .bool A.co, vs, .bool B.absent, ui, .bool B.co, us] 25)
  have hs : w.heap.size < (w.alloc (.cells #[.bool A.absent, vi, .bool A.co, vs, .bool B.absent, ui, .bool B.co, us] 25)).heap.size := by show _ < (w.heap.push _).size; simp
  refine ⟨by simp, _, 2, rfl, fun i hi => ?_⟩
  have hc := fun j => cell_heap (heap_new w (.cells #[.bool A.absent, vi, .bool A.co, vs, .bool B.absent, ui, .bool B.co, us] 25)) j
  match i, hi with
  | 0, _ => exact ⟨_, 0, vi, vs, rfl, hs, hc 0, hc 1, hc 2, hc 3, hI.on hb, hS.on hb⟩
  | 1, _ => exact ⟨_, 0, ui, us, rfl, hs, hc 4, hc 5, hc 6, hc 7, hJ.on hb, hT.on hb⟩

theorem ptsR_noS (r : Rg) : ∀ p ∈ ptsR r, p.2.2 = noS := by
  intro p hp
  unfold ptsR at hp
  rw [List.mem_append, List.mem_append] at hp
  rcases hp with (hp | hp) | hp
  · simp at hp; rcases hp with rfl | rfl <;> rfl
  · split at hp
    · simp at hp; rw [hp]
    · simp at hp
  · split at hp
    · simp at hp; rw [hp]
    · simp at hp
theorem ptsL_size (l : List SetV) (M : Nat) (h : ∀ S ∈ l, ∀ s ∈ S.strs, s.size ≤ M) : ∀ p ∈ ptsL l, p.2.2.size ≤ M := by
  intro p hp
  have n0 : noS.size ≤ M := by show (0 : Nat) ≤ M; omega
  unfold ptsL at hp
  rcases List.mem_append.1 hp with hp | hp
  · simp [pts0] at hp
    rcases hp with rfl | rfl | rfl | rfl <;> exact n0
  · obtain ⟨S, hS, hp⟩ := List.mem_flatMap.1 hp
    unfold ptsS at hp
    rcases List.mem_append.1 hp with hp | hp
    · obtain ⟨r, _, hp⟩ := List.mem_flatMap.1 hp
      rw [ptsR_noS r p hp]; exact n0
    · obtain ⟨s, hs, rfl⟩ := List.mem_map.1 hp
      exact h S hS s hs
theorem ptsS_len (S : SetV) (h : S.ints.length ≤ 40 ∧ S.strs.length ≤ 40) : (ptsS S).length ≤ 200 := by
  unfold ptsS
  rw [List.length_append, List.length_map]
  have := flat_len ptsR 4 S.ints (fun x _ => ptsR_len x)
  omega
theorem ptsL_len (l : List SetV) (h : ∀ S ∈ l, S.ints.length ≤ 40 ∧ S.strs.length ≤ 40) : (ptsL l).length ≤ 4 + l.length * 200 := by
  unfold ptsL
  rw [List.length_append]
  have := flat_len ptsS 200 l (fun S hS => ptsS_len S (h S hS))
  have h4 : pts0.length = 4 := rfl
  omega
theorem fresh_size {l : List SetV} {t : ByteArray} (h : FreshOut l ⟨#[126]⟩ t) : t.size ≤ 21 := by
  have h1 : (⟨#[126]⟩ : ByteArray).size = 1 := rfl
  rcases h with ⟨j, hj, rfl, _⟩ | ⟨rfl, _⟩
  · unfold tryS
    rw [ByteArray.size_append]
    have := itoa_short j (by omega)
    omega
  · omega

set_option maxHeartbeats 4000000 in
set_option maxRecDepth 100000 in
theorem refIn_any (v u : Value) (A B : SetV) (w : World) (hv : SetAt w v A) (hu : SetAt w u B) (fA : A.ints.length ≤ 40 ∧ A.strs.length ≤ 40) (fB : B.ints.length ≤ 40 ∧ B.strs.length ≤ 40) :
    Calls Try.prog 18 #[v, u] w fun r w' => (∃ t, FreshOut [A, B] ⟨#[126]⟩ t ∧ r = .returned (.bool (inPts A B (ptsL [A, B] ++ [(2, 0, t)])))) ∧ Below w.heap.size w w' := by
  have HV := hide hv
  have HU := hide hu
  obtain ⟨vi, vs, rfl, hI, hS⟩ := hv
  obtain ⟨ui, us, rfl, hJ, hT⟩ := hu
  have szA := hide hS.1
  have szB := hide hT.1
  clear hI hS hJ hT
  obtain ⟨e1, e2, b2⟩ := two_bx w (.cells #[.bool A.absent, vi, .bool A.co, vs] 25) (.cells #[.bool B.absent, ui, .bool B.co, us] 25)
  have s2 : ((w.alloc (.cells #[.bool A.absent, vi, .bool A.co, vs] 25)).alloc (.cells #[.bool B.absent, ui, .bool B.co, us] 25)).heap.size = w.heap.size + 1 + 1 := by
    show ((w.heap.push _).push _).size = _; simp
  have HP := hide (refPoints_any _ [A, B] _ (SetAt.pair (HV.out.on b2) (HU.out.on b2) (w.heap.size + 1 + 1) s2.symm vi vs ui us rfl rfl) (by simp) (by
    intro S hS
    rcases List.mem_cons.1 hS with rfl | hS
    · exact fA
    · rcases List.mem_cons.1 hS with rfl | hS
      · exact fB
      · simp at hS))
  have E1 := hide e1
  have E2 := hide e2
  have B2 := hide b2
  have S2 := hide s2
  clear e1 e2 b2 s2
  go_enter Try.func18, Try.ntmps18
  go_wp2_with fail
  refine (unhide HP).mono ?_
  rintro r w1 ⟨⟨x, t, rfl, ht, hO⟩, b3⟩
  have b4 := below_alloc b3
  have f1 := (b4.block _ (lt_heap E1.out)).trans E1.out
  have f2 := (b4.block _ (lt_heap E2.out)).trans E2.out
  have b5 := B2.out.trans (b4.mono (by have := B2.out.size; omega))
  have szP : ∀ p ∈ ptsL [A, B] ++ [(2, 0, t)], p.2.2.size ≤ maxLen := fun p hp => by
    rcases List.mem_append.1 hp with hp | hp
    · refine ptsL_size [A, B] maxLen (fun S hS s hs => ?_) p hp
      rcases List.mem_cons.1 hS with rfl | hS
      · exact szA.out s hs
      · rcases List.mem_cons.1 hS with rfl | hS
        · exact szB.out s hs
        · simp at hS
    · simp at hp
      rw [hp]
      have := fresh_size ht
      show t.size ≤ maxLen
      unfold maxLen; omega
  have npos : 0 < (ptsL [A, B] ++ [(2, 0, t)]).length := by simp
  have nle : (ptsL [A, B] ++ [(2, 0, t)]).length ≤ 1000000 := by
    have := ptsL_len [A, B] (by
      intro S hS
      rcases List.mem_cons.1 hS with rfl | hS
      · exact fA
      · rcases List.mem_cons.1 hS with rfl | hS
        · exact fB
        · simp at hS)
    rw [List.length_append]
    simp at this ⊢
    omega
  have HT := hide ht
  generalize hPl : ptsL [A, B] ++ [(2, 0, t)] = pl at *
  have HPl := hide hPl
  obtain ⟨g, cap, rfl, hg1, hg2⟩ := hO.form npos
  have O1 := hide hO
  have F1 := hide f1
  have F2 := hide f2
  have B5 := hide b5
  have SZP := hide szP
  have V1 := hide (HV.out.on b5)
  have U1 := hide (HU.out.on b5)
  generalize hR : inPts A B pl = Rr
  have HRr := hide hR
  have HR0 : Hid ((pl.drop 0).all (fun p => !(hasP A p && !(hasP B p))) = Rr) := hide (by rw [List.drop_zero]; exact hR)
  obtain ⟨N, hN⟩ : ∃ N : Nat, N = pl.length := ⟨_, rfl⟩
  rw [← hN] at nle O1 ⊢
  have HN := hide hN
  clear ht hO b3 b4 f1 f2 b5 szP HV HU HP E1 E2 B2 S2 hR hN npos hPl
  go_wp2
  go_loopw [6] (fun i wr => ∃ k : Nat, i = .int .i64 k ∧ k ≤ N ∧ Hid ((pl.drop k).all (fun p => !(hasP A p && !(hasP B p))) = Rr) ∧ Hid (Below w1.heap.size w1 wr)) (fun i _ => N - (intOf i).toNat)
  case atStart => exact ⟨0, rfl, by omega, HR0, hide (Below.refl _ _)⟩
  case round =>
    obtain ⟨k, rfl, hk, HG, HB⟩ := hrel
    by_cases hlt : k < N
    · have hk' : k < pl.length := by rw [← HN.out]; exact hlt
      obtain ⟨y0, y1, y2⟩ := (O1.out.on HB.out).at k hk'
      have g1 := (HB.out.block _ (lt_heap F1.out)).trans F1.out
      have g2 := (HB.out.block _ (lt_heap F2.out)).trans F2.out
      have c0 := cell_heap g1 0
      have c1 := cell_heap g1 1
      have c2 := cell_heap g1 2
      have c3 := cell_heap g1 3
      have d0 := cell_heap g2 0
      have d1 := cell_heap g2 1
      have d2 := cell_heap g2 2
      have d3 := cell_heap g2 3
      simp only [List.getElem?_toArray, List.getElem?_cons_zero, List.getElem?_cons_succ] at c0 c1 c2 c3 d0 d1 d2 d3
      have G0 := HG.out
      rw [drop_getD pl k noVa hk'] at G0
      have hz := SZP.out (pl.getD k noVa) (by rw [List.getD_eq_getElem?_getD, List.getElem?_eq_getElem hk']; exact List.getElem_mem _)
      generalize pl.getD k noVa = q at *
      rw [List.all_cons] at G0
      have X1 := fun (d : Nat) (os : Array Obj) => Calls.regrown_of (refHas_any _ A q.1 q.2.1 q.2.2 (Sort.grow (redrawn wr d) os) ((V1.out.on HB.out).on (below_regrown wr d os)) hz)
      have X2 := fun (d : Nat) (os : Array Obj) => Calls.regrown_of (refHas_any _ B q.1 q.2.1 q.2.2 (Sort.grow (redrawn wr d) os) ((U1.out.on HB.out).on (below_regrown wr d os)) hz)
      have p0 := cell_regrown c0
      have p1 := cell_regrown c1
      have p2 := cell_regrown c2
      have p3 := cell_regrown c3
      have p4 := cell_regrown d0
      have p5 := cell_regrown d1
      have p6 := cell_regrown d2
      have p7 := cell_regrown d3
      have p8 := cell_regrown y0
      have p9 := cell_regrown y1
      have pa := cell_regrown y2
      have eA : hasB A q.1 q.2.1 q.2.2 = hasP A q := rfl
      have eB : hasB B q.1 q.2.1 q.2.2 = hasP B q := rfl
      rw [eA] at X1
      rw [eB] at X2
      clear g1 g2 HG eA eB
      cases hA : hasP A q
      · rw [hA] at X1 G0
        have G1 : Hid ((pl.drop (k + 1)).all (fun p => !(hasP A p && !(hasP B p))) = Rr) := hide (by simpa using G0)
        have Y1 := fun d os => hide (X1 d os)
        clear X1 X2 G0 hA
        go_wp2
        clear c0 c1 c2 c3 d0 d1 d2 d3 y0 y1 y2
        refine wp_region_quiet_below mixed (by kernel_rfl) ?_
        repeat (first | go_big_quiet_step (exact unhide (Y1 _ _)) | quiet_step (exact unhide (Y1 _ _)))
        refine wpQuiet_nil ?_
        intro _ hw'
        obtain ⟨⟨dq, osq⟩, hw''⟩ := hw'
        subst hw''
        go_wp2
        exact ⟨⟨k + 1, by go_num, by omega, G1, hide (HB.out.trans ((below_regrown wr dq osq).mono HB.out.size))⟩, by simp [intOf]; omega⟩
      · rw [hA] at X1 G0
        cases hBq : hasP B q
        · rw [hBq] at X2 G0
          have G1 : Hid (Rr = false) := hide (by rw [← G0]; rfl)
          have Y1 := fun d os => hide (X1 d os)
          have Y2 := fun d os => hide (X2 d os)
          clear X1 X2 G0 hA hBq
          go_wp2
          clear c0 c1 c2 c3 d0 d1 d2 d3 y0 y1 y2
          refine wp_region_quiet_below mixed (by kernel_rfl) ?_
          repeat (first | go_big_quiet_step ((first | with_reducible exact unhide (Y1 _ _) | with_reducible exact unhide (Y2 _ _))) | quiet_step ((first | with_reducible exact unhide (Y1 _ _) | with_reducible exact unhide (Y2 _ _))))
          refine wpQuiet_nil ?_
          intro _ hw'
          obtain ⟨⟨dq, osq⟩, hw''⟩ := hw'
          subst hw''
          go_wp2
          go_ret
          exact ⟨⟨t, HT.out, ret_bool (by rw [HPl.out, HRr.out, G1.out])⟩, B5.out.trans ((HB.out.trans ((below_regrown wr dq osq).mono HB.out.size)).mono B5.out.size)⟩
        · rw [hBq] at X2 G0
          have G1 : Hid ((pl.drop (k + 1)).all (fun p => !(hasP A p && !(hasP B p))) = Rr) := hide (by simpa using G0)
          have Y1 := fun d os => hide (X1 d os)
          have Y2 := fun d os => hide (X2 d os)
          clear X1 X2 G0 hA hBq
          go_wp2
          clear c0 c1 c2 c3 d0 d1 d2 d3 y0 y1 y2
          refine wp_region_quiet_below mixed (by kernel_rfl) ?_
          repeat (first | go_big_quiet_step ((first | with_reducible exact unhide (Y1 _ _) | with_reducible exact unhide (Y2 _ _))) | quiet_step ((first | with_reducible exact unhide (Y1 _ _) | with_reducible exact unhide (Y2 _ _))))
          refine wpQuiet_nil ?_
          intro _ hw'
          obtain ⟨⟨dq, osq⟩, hw''⟩ := hw'
          subst hw''
          go_wp2
          exact ⟨⟨k + 1, by go_num, by omega, G1, hide (HB.out.trans ((below_regrown wr dq osq).mono HB.out.size))⟩, by simp [intOf]; omega⟩
    · have hge : (N : Int) ≤ (k : Int) := by omega
      have G1 : Hid (Rr = true) := hide (by rw [← HG.out, List.drop_eq_nil_of_le (by have := HN.out; omega)]; rfl)
      go_wp2
      go_ret
      exact ⟨⟨t, HT.out, ret_bool (by rw [HPl.out, HRr.out, G1.out])⟩, B5.out.trans (HB.out.mono B5.out.size)⟩
end Go.Proofs.Ytdmjpdhjebmnfaa
