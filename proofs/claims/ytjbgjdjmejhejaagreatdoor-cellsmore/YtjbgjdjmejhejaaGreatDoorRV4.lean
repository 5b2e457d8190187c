import Derived.Test.YtjbgjdjmejhejaaGreatDoorRV3
import Derived.Test.YtjbgjdjmejhejaaGreatDoorRV1
import Derived.Lib.SmallJoins
import Derived.Deep.Strs
import Derived.Test.YtjbgjdjmejhejaaGreatDoorTie
import Derived.Test.YtjbgjdjmejhejaaGreatDoorCards
import Derived.ProofKit
import Derived.LaidMore
import Derived.OpenShut
import Derived.Stop.Joined
import Derived.Stop.LaidErr
import Derived.Lib.LaidTab
import Derived.Carry
set_option linter.unusedSimpArgs false
set_option linter.unusedVariables false
namespace Go.Proofs.YtjbgjdjmejhejaaGreatDoor
open Go.RowKit
theorem nodup_le {α : Type} [DecidableEq α] : ∀ (a b : List α), a.Nodup → (∀ x ∈ a, x ∈ b) → a.length ≤ b.length
  | [], b, _, _ => Nat.zero_le _
  | x :: a, b, h, hs => by
    have hx := hs x (by simp)
    have h2 := List.nodup_cons.1 h
    have := nodup_le a (b.erase x) h2.2 (fun y hy => (List.mem_erase_of_ne (fun e => h2.1 (by rw [← e]; exact hy))).2 (hs y (by simp [hy])))
    rw [List.length_erase_of_mem hx] at this
    have hp : 0 < b.length := List.length_pos_of_mem hx
    rw [List.length_cons]
    omega
theorem rises_nodup : ∀ {l : List Int}, risesI l → l.Nodup
  | [], _ => List.nodup_nil
  | a :: l, h => List.nodup_cons.2 ⟨fun hm => by have := h.1 a hm; omega, rises_nodup h.2⟩
theorem risesS_nodup : ∀ {l : List ByteArray}, risesS (l.map fun b => b.toList) → l.Nodup
  | [], _ => List.nodup_nil
  | a :: l, h => List.nodup_cons.2 ⟨fun hm => (by
      have := h.1 a.toList (List.mem_map.2 ⟨a, hm, rfl⟩)
      rw [lessB_irrefl] at this; cases this), risesS_nodup h.2⟩
theorem kind_0 {n : Int} {s : ByteArray} (h : rightB 0 n s = true) : n = 0 ∧ s.toList.isEmpty = true := by
  unfold rightB at h
  rw [if_pos rfl, Bool.and_eq_true, beq_iff_eq] at h
  exact h
theorem up_mem {B B' : List Int} (h : risesI B') (hs : ∀ x ∈ B, x ∈ B') {j i : Nat} (hj : j < B.length) (hi : i < B'.length) {n : Int} (h1 : B'.getD i 0 ≤ n) (h2 : n ≤ hiAt B' i) : (B.getD j 0 ≤ n → B.getD j 0 ≤ B'.getD i 0) ∧ (n < B.getD j 0 → hiAt B' i < B.getD j 0) := by
  obtain ⟨m, hm, e⟩ := mem_getD 0 (hs _ (gD_mem (d := 0) hj))
  rw [← e]
  have hle : ∀ a b, a ≤ b → b < B'.length → B'.getD a 0 ≤ B'.getD b 0 := fun a b hab hb => by
    rcases Nat.lt_or_ge a b with h3 | h3
    · exact Int.le_of_lt (risesI_lt h a b h3 hb)
    · have : a = b := by omega
      rw [this]; exact Int.le_refl _
  constructor
  · intro h3
    rcases Nat.lt_or_ge i m with h4 | h4
    · have := hiAt_lt h h4 hm; omega
    · exact hle m i h4 hi
  · intro h3
    rcases Nat.lt_or_ge i m with h4 | h4
    · exact hiAt_lt h h4 hm
    · have := hle m i h4 hi; omega
theorem cell_fine {l l' : List SetV} {B B' : List Int} {N N' : List ByteArray} (h : CutOf l B N) (h' : CutOf l' B' N') (hB : ∀ x ∈ B, x ∈ B') (hN : ∀ x ∈ N, x ∈ N') {i k : Nat} (hi : i < (cellL B' N').length) (hk : k < (cellL B N).length) {p q : Va}
    (h1 : hasP ((cellL B' N').getD i noSet) q = true) (h2 : hasP ((cellL B N).getD k noSet) q = true) (h3 : hasP ((cellL B' N').getD i noSet) p = true) : hasP ((cellL B N).getD k noSet) p = true := by
  have r1 := hasB_right (show hasB _ q.1 q.2.1 q.2.2 = true from h1)
  have r3 := hasB_right (show hasB _ p.1 p.2.1 p.2.2 = true from h3)
  have a1 := (cell_has h' r1 hi).1 h1
  have a2 := (cell_has h r1 hk).1 h2
  have a3 := (cell_has h' r3 hi).1 h3
  refine (cell_has h r3 hk).2 ?_
  rcases a1 with ⟨k1, e1⟩ | ⟨k1, j1, hj1, e1, p1, q1⟩ | ⟨k1, ⟨j1, hj1, e1, p1⟩ | ⟨e1, p1⟩⟩
  · rcases a3 with ⟨k3, e3⟩ | ⟨k3, j3, hj3, e3, p3, q3⟩ | ⟨k3, ⟨j3, hj3, e3, p3⟩ | ⟨e3, p3⟩⟩ <;> try omega
  · rcases a3 with ⟨k3, e3⟩ | ⟨k3, j3, hj3, e3, p3, q3⟩ | ⟨k3, ⟨j3, hj3, e3, p3⟩ | ⟨e3, p3⟩⟩ <;> try omega
    have : j1 = j3 := by omega
    subst this
    rcases a2 with ⟨k2, e2⟩ | ⟨k2, j2, hj2, e2, p2, q2⟩ | ⟨k2, _⟩
    · omega
    · refine Or.inr (Or.inl ⟨k3, j2, hj2, e2, ?_, ?_⟩)
      · have := (up_mem h'.b.up hB hj2 hj1 p1 q1).1 p2; omega
      · unfold hiAt at q2 ⊢
        by_cases e : j2 + 1 < B.length
        · rw [if_pos e] at q2 ⊢
          have := (up_mem h'.b.up hB e hj1 p1 q1).2 (by omega); omega
        · rw [if_neg e]
          have := (h'.hiIn j1 hj1).2.1; omega
    · omega
  · rcases a3 with ⟨k3, e3⟩ | ⟨k3, j3, hj3, e3, p3, q3⟩ | ⟨k3, ⟨j3, hj3, e3, p3⟩ | ⟨e3, p3⟩⟩ <;> try omega
    have : j1 = j3 := by omega
    subst this
    rw [p3, ← p1]
    rcases a2 with ⟨k2, e2⟩ | ⟨k2, _⟩ | ⟨k2, a2⟩
    · omega
    · omega
    · exact Or.inr (Or.inr ⟨k3, a2⟩)
  · rcases a3 with ⟨k3, e3⟩ | ⟨k3, j3, hj3, e3, p3, q3⟩ | ⟨k3, ⟨j3, hj3, e3, p3⟩ | ⟨e3, p3⟩⟩ <;> try omega
    rcases a2 with ⟨k2, e2⟩ | ⟨k2, _⟩ | ⟨k2, ⟨j2, hj2, e2, p2⟩ | ⟨e2, p2⟩⟩
    · omega
    · omega
    · exact absurd (hN _ (p2 ▸ gD_mem hj2)) p1
    · exact Or.inr (Or.inr ⟨k3, Or.inr ⟨e2, fun hm => p3 (hN _ hm)⟩⟩)
theorem allR_snoc {l : List SetV} {S : SetV} {x : Rg} (h : x ∈ allR l) : x ∈ allR (l ++ [S]) := by
  obtain ⟨T, hT, a, b⟩ := mem_allR.1 h
  exact mem_allR.2 ⟨T, List.mem_append_left _ hT, a, b⟩
theorem allS_snoc {l : List SetV} {S : SetV} {x : ByteArray} (h : x ∈ allS l) : x ∈ allS (l ++ [S]) := by
  obtain ⟨T, hT, a, b⟩ := mem_allS.1 h
  exact mem_allS.2 ⟨T, List.mem_append_left _ hT, a, b⟩
theorem more_B {l : List SetV} {S : SetV} : ∀ x ∈ sortedN (begL (allR l)), x ∈ sortedN (begL (allR (l ++ [S]))) := fun x hx => by
  rw [(sortedN_is _).2] at hx ⊢
  rcases mem_begL.1 hx with e | ⟨r, hr, e⟩
  · exact mem_begL.2 (Or.inl e)
  · exact mem_begL.2 (Or.inr ⟨r, allR_snoc hr, e⟩)
theorem more_N {l : List SetV} {S : SetV} : ∀ x ∈ namesOf (allS l), x ∈ namesOf (allS (l ++ [S])) := fun x hx => ((nams_is _).mem x).2 (allS_snoc (((nams_is _).mem x).1 hx))
theorem more_len (l : List SetV) (S : SetV) : (cutL l).length ≤ (cutL (l ++ [S])).length := by
  unfold cutL
  rw [cellL_len, cellL_len]
  have h1 := nodup_le _ _ (rises_nodup (sortedN_is (begL (allR l))).1) (more_B (l := l) (S := S))
  have h2 := nodup_le _ _ (risesS_nodup (nams_is (allS l)).up) (more_N (l := l) (S := S))
  omega
theorem p_in {S : SetV} (hi : inI64 S.ints) {p : Va} (h : hasP S p = true) : -9223372036854775808 ≤ p.2.1 ∧ p.2.1 ≤ 9223372036854775807 := by
  have hr := hasB_right (show hasB S p.1 p.2.1 p.2.2 = true from h)
  rcases rightB_kind hr with e | e | e
  · rw [e] at hr; have := (kind_0 hr).1; omega
  · have h1 : hasB S p.1 p.2.1 p.2.2 = true := h
    rw [e, has_1, Bool.and_eq_true] at h1
    exact memR_in hi (inInts_mem.1 h1.2)
  · unfold rightB at hr
    rw [if_neg (by omega), if_neg (by omega), if_pos e, Bool.and_eq_true, beq_iff_eq] at hr
    omega
theorem more_in {l : List SetV} {S : SetV} (hl : InL l) (hl' : InL (l ++ [S])) (hf : FewC (l ++ [S])) {i : Nat} (hi : i < (cutL (l ++ [S])).length) {q : Va} (hq : sampleV ((cutL (l ++ [S])).getD i noSet) = some q) :
    whichN (cutL l) q < (cutL l).length ∧ ∀ p, hasP ((cutL (l ++ [S])).getD i noSet) p = true → hasP ((cutL l).getD (whichN (cutL l) q) noSet) p = true := by
  have hfi := fit_cut hl' hf _ (gD_mem (d := noSet) hi)
  have h1 := sample_has hq (by have := hfi.ns; omega)
  have hb := p_in hfi.good.i h1
  have hw := which_right hl hb.1 hb.2 (hasB_right (show hasB _ q.1 q.2.1 q.2.2 = true from h1))
  exact ⟨hw, fun p hp => cell_fine (cut_of hl) (cut_of hl') more_B more_N hi hw h1 (which_at hw) hp⟩
theorem in_of {A B : SetV} (h : ∀ p, hasP A p = true → hasP B p = true) (ps : List Va) : inPts A B ps = true := by
  unfold inPts
  rw [List.all_eq_true]
  intro p _
  cases e : hasP A p
  · rfl
  · rw [h p e]; rfl
end Go.Proofs.YtjbgjdjmejhejaaGreatDoor
namespace Go.Proofs.YtjbgjdjmejhejaaGreatDoor
open Go.RowKit
section
variable {ops : Array Oper} {Q : Exit → Act → World → Prop} {o : Oper} {a : Act} {i : Nat} {K : Act → World → Prop}
theorem ot_row0Q {w : World} (hi : ops[i]? = some o) (hw : Region.wanted o (yielded ops a.tmps) = true) (ho : o.op = .buildSlice 39 0 #[])
    (h : ∀ W g, OwnT W w.heap.size (.slice (some ⟨g, 0, none⟩) 0 0) [] → Below w.heap.size w W → K (a.put o.dst (.slice (some ⟨g, 0, none⟩) 0 0)) W) : wpOp Tryz.prog ops Q i K a w := by
  refine ot_run hi hw (.slice (some ⟨w.heap.size, 0, none⟩) 0 0) (w.alloc (.cells #[] 26)) ?_ (h _ _ ⟨rfl, Or.inr ⟨w.heap.size, 0, #[], rfl, Nat.le_refl _, heap_new _ _, Nat.le_refl _, by unfold maxLen; omega, rfl, rfl⟩⟩ ((Below.refl _ w).alloc (Nat.le_refl _) _))
  simp only [execOp, ho, List.map_toArray, List.map_nil]
  go_simp
theorem ot_row1Q {w : World} (hi : ops[i]? = some o) (hw : Region.wanted o (yielded ops a.tmps) = true) (x : Operand) (ho : o.op = .buildSlice 39 1 #[(0, x)]) (d : SC) (hx : a.eval x = d.val)
    (h : ∀ W g, w.heap.size ≤ g → StIn W g d → Below w.heap.size w W → K (a.put o.dst (.slice (some ⟨g, 0, none⟩) 1 1)) W) : wpOp Tryz.prog ops Q i K a w :=
  ot_run hi hw _ _ (rn_row1Q a x ho d hx) (h _ _ (Nat.le_refl _) (heap_new _ _) ((Below.refl _ w).alloc (Nat.le_refl _) _))
theorem rn_appRowT {o : Oper} {w : World} (a : Act) (s x : Operand) (ho : o.op = .call { callee := .builtin .append, args := #[s, x], argTypes := #[39, 39] })
    (B : Nat) (v u : Value) (l m : List SC) (hs : a.eval s = v) (hown : OwnT w B v l) (hu : a.eval x = u) (hx : ScRow w u m) (hnil : nilOkQ u) (hlen : l.length + m.length ≤ 1000000) (hB : B ≤ w.heap.size) :
    ∃ v' w', (execOp a.eval o).run Tryz.prog w = .ok (.value v') w' ∧ OwnT w' B v' (l ++ m) ∧ w.grownBy w' v.ownBlock := by
  obtain ⟨i0, hi, hz0, hz1, hz2⟩ := info_parts cInfoT
  obtain ⟨_, ad, cap, rfl, hel⟩ := hx
  cases ad with
  | none =>
    have hm : m = [] := by
      cases m with
      | nil => rfl
      | cons r m =>
        obtain ⟨b, off, e, _⟩ := hel 0 (by simp)
        cases e
    subst hm
    have e0 := hnil _ _ rfl
    have hr := run_append_owned_none (P := Tryz.prog) (w := w) B 39 o.type 26 i0 4 Tryz.underlying39 hi v l.length (scCells l) hown
    refine ⟨v, w, ?_, by rw [List.append_nil]; exact hown, grown_refl _ _⟩
    rw [e0] at hu
    unfold execOp
    simp only [ho, resolve, invoke, builtin, Sem.run_bind, Sem.run_pure, Result.andThen_ok, List.map_toArray, List.map_cons, List.map_nil, hs, hu]
    rw [hr]
    rfl
  | some ad =>
    obtain ⟨v', w', hr, h2, h3, _⟩ := run_append_own (P := Tryz.prog) w B 39 o.type 26 i0 _ 4 64 Tryz.underlying39 hi hz0 hz1 hz2 rfl (by decide) v l.length (scCells l) hown ad m.length cap (scCells m) (by rw [scCells_len]) (fun j u hj => by
      have hjl : j < m.length * 4 := by
        have := (List.getElem?_eq_some_iff.1 hj).1
        rwa [scCells_len] at this
      obtain ⟨b, off, e, _, hr⟩ := hel (j / 4) (by omega)
      have h1 := scCells_at m (j / 4) (j % 4) (by omega) (Nat.mod_lt _ (by decide))
      simp at e
      subst e
      rw [Go.WideShapes.add_plain]
      rw [show j / 4 * 4 + j % 4 = j by omega, hj] at h1
      have := hr (j % 4) u h1.symm
      rwa [show off + j / 4 * 4 + j % 4 = off + j by omega] at this) (scCells_one _) (by unfold maxLen; omega) (by omega) hB
    refine ⟨v', w', ?_, ?_, h3⟩
    · unfold execOp
      simp only [ho, resolve, invoke, builtin, Sem.run_bind, Sem.run_pure, Result.andThen_ok, List.map_toArray, List.map_cons, List.map_nil, hs, hu, hr]
    · show w'.ownsRow B 26 4 v' (l ++ m).length (scCells (l ++ m))
      rw [List.length_append, scCells_append]
      exact h2
theorem ot_appRowT {w : World} (hi : ops[i]? = some o) (hw : Region.wanted o (yielded ops a.tmps) = true) (s x : Operand) (ho : o.op = .call { callee := .builtin .append, args := #[s, x], argTypes := #[39, 39] })
    (B : Nat) (v u : Value) (l m : List SC) (hs : a.eval s = v) (hown : OwnT w B v l) (hu : a.eval x = u) (hx : ScRow w u m) (hnil : nilOkQ u) (hlen : l.length + m.length ≤ 1000000) (hB : B ≤ w.heap.size)
    (h : ∀ v' W, OwnT W B v' (l ++ m) → w.grownBy W v.ownBlock → K (a.put o.dst v') W) : wpOp Tryz.prog ops Q i K a w := by
  obtain ⟨v', w', hr, h1, h2⟩ := rn_appRowT a s x ho B v u l m hs hown hu hx hnil hlen hB
  exact ot_run hi hw v' w' hr (h v' w' h1 h2)
end
theorem OwnT.below {w w' : World} {B : Nat} {v : Value} {l : List SC} (h : OwnT w B v l) (hB : B ≤ w.heap.size) (k : w.grownBy w' v.ownBlock) : Below B w w' := (Below.refl _ _).grown k hB (fun i hi => (World.ownsRow.lt h i hi).1)
set_option maxHeartbeats 4000000 in
set_option maxRecDepth 100000 in
theorem cellsMore_law (v u : Value) (l : List SetV) (S : SetV) (w : World) (HE : Env w) (hv : SetsAt w v l) (hn0 : nilOkQ v) (hu : SetAt w u S) :
    Calls Tryz.prog 9 #[v, u] w fun r w' => r = .returned (.bool true) ∧ Below w.heap.size w w' := by
  have w6 : 2 ≤ w.heap.size := HE.big
  have HE0 := HE
  have hil := hv.inL
  obtain ⟨cs0, hR0, hA0⟩ := hv.row
  obtain ⟨a0, cap0, rfl, -⟩ := hv.2
  have hl64 := hv.1
  obtain ⟨ai, ci, az, cz, rfl, hI, hT⟩ := sc_open hu
  have hT0 := hT
  have D : w.grownBy w none := grown_refl _ _
  go_enter Tryz.func9, Tryz.ntmps9
  by_cases h10 : 10 < l.length
  · refine wp_seq_k (fun K1 hK1 => ?_)
    refine wp_region_lit ?_
    refine wt_boxSt (o := ⟨_, _, _, _, _, _⟩) (by rfl) _ rfl (⟨S.absent, ai, S.ints.length, ci, S.co, az, S.strs.length, cz⟩) rfl (fun v1 g1 hg G1 kb => ?_)
    simp only [Act.put, lzA, lzB, lzC]
    have ge_g1 : w.heap.size ≤ g1 := Nat.le_trans D.size hg
    have six_g1 : 2 ≤ g1 := Nat.le_trans w6 ge_g1
    clear hg
    replace D := grown_below D kb
    replace HE := HE.on kb
    clear kb
    replace G1 : v1.heap[g1]? = some (.cells #[.bool (S.absent), .slice ai S.ints.length ci, .bool (S.co), .slice az S.strs.length cz] 26 (0, 0)) := G1
    refine wl_yield (o := ⟨_, _, _, _, _, _⟩) (.bool false) (yl_assign (by rfl) _ rfl _ rfl) ?_
    simp only [Act.put, lzA, lzB, lzC]
    refine wpList_nil ?_
    refine hK1 _ _ ?_
    clear hK1 K1
    refine wp_seq_k (fun K2 hK2 => ?_)
    refine wp_seq_k (fun K3 hK3 => ?_)
    refine wp_region_lit ?_
    refine wt_call (o := ⟨_, _, _, _, _, _⟩) (by rfl) 16 _ _ rfl #[] rfl (run_call Tryz.func16 (by kernel_rfl) (by kernel_rfl)) ?_
    refine (awake9_any _ HE).mono ?_
    rintro r v2 ⟨rfl, kb⟩
    replace D := grown_below D kb
    replace HE := HE.on kb
    replace G1 := heap_on G1 kb
    clear kb
    refine Or.inl ⟨.bool true, rfl, ?_⟩
    simp only [Act.put, lzA, lzB, lzC]
    refine wl_yield (o := ⟨_, _, _, _, _, _⟩) (.bool false) (yl_not (by rfl) _ _ rfl true rfl) ?_
    simp only [Act.put, lzA, lzB, lzC]
    refine wl_yield (o := ⟨_, _, _, _, _, _⟩) (.bool false) (yl_move (by rfl) _ rfl _ rfl) ?_
    simp only [Act.put, lzA, lzB, lzC]
    refine wl_yield (o := ⟨_, _, _, _, _, _⟩) (.slice a0 l.length cap0) (yl_move (by rfl) _ rfl _ rfl) ?_
    simp only [Act.put, lzA, lzB, lzC]
    refine wl_yield (o := ⟨_, _, _, _, _, _⟩) (.int .i64 (l.length : Nat)) (yt_lenQ (by rfl) _ rfl a0 l.length cap0 rfl) ?_
    simp only [Act.put, lzA, lzB, lzC]
    refine wl_yield (o := ⟨_, _, _, _, _, _⟩) (.bool true) (yt_gtrI (by rfl) _ _ _ rfl ((l.length : Nat) : Int) 10 true rfl rfl (decide_eq_true (by omega))) ?_
    simp only [Act.put, lzA, lzB, lzC]
    refine wl_yield (o := ⟨_, _, _, _, _, _⟩) (.bool true) (yl_pickF (by rfl) _ _ _ rfl rfl _ rfl) ?_
    simp only [Act.put, lzA, lzB, lzC]
    refine wl_yield (o := ⟨_, _, _, _, _, _⟩) (.bool true) (yl_move (by rfl) _ rfl _ rfl) ?_
    simp only [Act.put, lzA, lzB, lzC]
    with_reducible refine wl_yield (o := ⟨_, _, _, _, _, _⟩) undef (yl_undef (by kernel_rfl)) ?_
    simp only [Act.put, lzA, lzB, lzC]
    with_reducible refine wl_yield (o := ⟨_, _, _, _, _, _⟩) undef (yl_undef (by kernel_rfl)) ?_
    simp only [Act.put, lzA, lzB, lzC]
    with_reducible refine wl_yield (o := ⟨_, _, _, _, _, _⟩) undef (yl_undef (by kernel_rfl)) ?_
    simp only [Act.put, lzA, lzB, lzC]
    refine wl_yield (o := ⟨_, _, _, _, _, _⟩) (.bool true) (yl_pickT (by rfl) _ _ _ rfl rfl _ rfl) ?_
    simp only [Act.put, lzA, lzB, lzC]
    refine wl_yield (o := ⟨_, _, _, _, _, _⟩) (.bool true) (yl_move (by rfl) _ rfl _ rfl) ?_
    simp only [Act.put, lzA, lzB, lzC]
    with_reducible refine wl_yield (o := ⟨_, _, _, _, _, _⟩) undef (yl_undef (by kernel_rfl)) ?_
    simp only [Act.put, lzA, lzB, lzC]
    with_reducible refine wl_yield (o := ⟨_, _, _, _, _, _⟩) undef (yl_undef (by kernel_rfl)) ?_
    simp only [Act.put, lzA, lzB, lzC]
    with_reducible refine wl_yield (o := ⟨_, _, _, _, _, _⟩) undef (yl_undef (by kernel_rfl)) ?_
    simp only [Act.put, lzA, lzB, lzC]
    with_reducible refine wl_yield (o := ⟨_, _, _, _, _, _⟩) undef (yl_undef (by kernel_rfl)) ?_
    simp only [Act.put, lzA, lzB, lzC]
    refine wl_yield (o := ⟨_, _, _, _, _, _⟩) (.bool true) (yl_pickT (by rfl) _ _ _ rfl rfl _ rfl) ?_
    simp only [Act.put, lzA, lzB, lzC]
    refine wpList_nil ?_
    refine hK3 _ _ ?_
    clear hK3 K3
    refine wp_cond_true rfl ?_
    refine wp_seq_k (fun K4 hK4 => ?_)
    refine wp_region_lit ?_
    refine wt_call (o := ⟨_, _, _, _, _, _⟩) (by rfl) 16 _ _ rfl #[] rfl (run_call Tryz.func16 (by kernel_rfl) (by kernel_rfl)) ?_
    refine (awake9_any _ HE).mono ?_
    rintro r v3 ⟨rfl, kb⟩
    replace D := grown_below D kb
    replace HE := HE.on kb
    replace G1 := heap_on G1 kb
    clear kb
    refine Or.inl ⟨.bool true, rfl, ?_⟩
    simp only [Act.put, lzA, lzB, lzC]
    refine wl_yield (o := ⟨_, _, _, _, _, _⟩) (.bool true) (yl_assign (by rfl) _ rfl _ rfl) ?_
    simp only [Act.put, lzA, lzB, lzC]
    refine wpList_nil ?_
    refine hK4 _ _ ?_
    clear hK4 K4
    refine wp_ret ?_
    try simp only [Exit.inBlock, Exit.then]
    go_ret
    exact ⟨rfl, below_none D⟩
  · refine wp_seq_k (fun K1 hK1 => ?_)
    refine wp_region_lit ?_
    refine wt_boxSt (o := ⟨_, _, _, _, _, _⟩) (by rfl) _ rfl (⟨S.absent, ai, S.ints.length, ci, S.co, az, S.strs.length, cz⟩) rfl (fun v1 g1 hg G1 kb => ?_)
    simp only [Act.put, lzA, lzB, lzC]
    have ge_g1 : w.heap.size ≤ g1 := Nat.le_trans D.size hg
    have six_g1 : 2 ≤ g1 := Nat.le_trans w6 ge_g1
    clear hg
    replace D := grown_below D kb
    replace HE := HE.on kb
    clear kb
    replace G1 : v1.heap[g1]? = some (.cells #[.bool (S.absent), .slice ai S.ints.length ci, .bool (S.co), .slice az S.strs.length cz] 26 (0, 0)) := G1
    refine wl_yield (o := ⟨_, _, _, _, _, _⟩) (.bool false) (yl_assign (by rfl) _ rfl _ rfl) ?_
    simp only [Act.put, lzA, lzB, lzC]
    refine wpList_nil ?_
    refine hK1 _ _ ?_
    clear hK1 K1
    refine wp_seq_k (fun K2 hK2 => ?_)
    refine wp_seq_k (fun K3 hK3 => ?_)
    refine wp_region_lit ?_
    refine wt_call (o := ⟨_, _, _, _, _, _⟩) (by rfl) 16 _ _ rfl #[] rfl (run_call Tryz.func16 (by kernel_rfl) (by kernel_rfl)) ?_
    refine (awake9_any _ HE).mono ?_
    rintro r v2 ⟨rfl, kb⟩
    replace D := grown_below D kb
    replace HE := HE.on kb
    replace G1 := heap_on G1 kb
    clear kb
    refine Or.inl ⟨.bool true, rfl, ?_⟩
    simp only [Act.put, lzA, lzB, lzC]
    refine wl_yield (o := ⟨_, _, _, _, _, _⟩) (.bool false) (yl_not (by rfl) _ _ rfl true rfl) ?_
    simp only [Act.put, lzA, lzB, lzC]
    refine wl_yield (o := ⟨_, _, _, _, _, _⟩) (.bool false) (yl_move (by rfl) _ rfl _ rfl) ?_
    simp only [Act.put, lzA, lzB, lzC]
    refine wl_yield (o := ⟨_, _, _, _, _, _⟩) (.slice a0 l.length cap0) (yl_move (by rfl) _ rfl _ rfl) ?_
    simp only [Act.put, lzA, lzB, lzC]
    refine wl_yield (o := ⟨_, _, _, _, _, _⟩) (.int .i64 (l.length : Nat)) (yt_lenQ (by rfl) _ rfl a0 l.length cap0 rfl) ?_
    simp only [Act.put, lzA, lzB, lzC]
    refine wl_yield (o := ⟨_, _, _, _, _, _⟩) (.bool false) (yt_gtrI (by rfl) _ _ _ rfl ((l.length : Nat) : Int) 10 false rfl rfl (decide_eq_false (by omega))) ?_
    simp only [Act.put, lzA, lzB, lzC]
    refine wl_yield (o := ⟨_, _, _, _, _, _⟩) (.bool false) (yl_pickF (by rfl) _ _ _ rfl rfl _ rfl) ?_
    simp only [Act.put, lzA, lzB, lzC]
    refine wl_yield (o := ⟨_, _, _, _, _, _⟩) (.bool false) (yl_move (by rfl) _ rfl _ rfl) ?_
    simp only [Act.put, lzA, lzB, lzC]
    refine wl_yield (o := ⟨_, _, _, _, _, _⟩) (.slice a0 l.length cap0) (yl_move (by rfl) _ rfl _ rfl) ?_
    simp only [Act.put, lzA, lzB, lzC]
    cases hfl : (l).all fewB
    · refine wt_call (o := ⟨_, _, _, _, _, _⟩) (by rfl) 17 _ _ rfl #[.slice a0 l.length cap0] rfl (run_call Tryz.func17 (by kernel_rfl) (by kernel_rfl)) ?_
      refine (refFew_any _ l _ (hv.on (below_none D))).mono ?_
      rintro r v3 (⟨rfl, e9⟩)
      · replace e9 := e9.symm
        subst e9
        refine Or.inl ⟨.bool false, ret_bool hfl, ?_⟩
        simp only [Act.put, lzA, lzB, lzC]
        refine wl_yield (o := ⟨_, _, _, _, _, _⟩) (.bool true) (yl_not (by rfl) _ _ rfl false rfl) ?_
        simp only [Act.put, lzA, lzB, lzC]
        refine wl_yield (o := ⟨_, _, _, _, _, _⟩) (.bool true) (yl_pickF (by rfl) _ _ _ rfl rfl _ rfl) ?_
        simp only [Act.put, lzA, lzB, lzC]
        refine wl_yield (o := ⟨_, _, _, _, _, _⟩) (.bool true) (yl_move (by rfl) _ rfl _ rfl) ?_
        simp only [Act.put, lzA, lzB, lzC]
        with_reducible refine wl_yield (o := ⟨_, _, _, _, _, _⟩) undef (yl_undef (by kernel_rfl)) ?_
        simp only [Act.put, lzA, lzB, lzC]
        with_reducible refine wl_yield (o := ⟨_, _, _, _, _, _⟩) undef (yl_undef (by kernel_rfl)) ?_
        simp only [Act.put, lzA, lzB, lzC]
        with_reducible refine wl_yield (o := ⟨_, _, _, _, _, _⟩) undef (yl_undef (by kernel_rfl)) ?_
        simp only [Act.put, lzA, lzB, lzC]
        with_reducible refine wl_yield (o := ⟨_, _, _, _, _, _⟩) undef (yl_undef (by kernel_rfl)) ?_
        simp only [Act.put, lzA, lzB, lzC]
        refine wl_yield (o := ⟨_, _, _, _, _, _⟩) (.bool true) (yl_pickT (by rfl) _ _ _ rfl rfl _ rfl) ?_
        simp only [Act.put, lzA, lzB, lzC]
        refine wpList_nil ?_
        refine hK3 _ _ ?_
        clear hK3 K3
        refine wp_cond_true rfl ?_
        refine wp_seq_k (fun K4 hK4 => ?_)
        refine wp_region_lit ?_
        refine wt_call (o := ⟨_, _, _, _, _, _⟩) (by rfl) 16 _ _ rfl #[] rfl (run_call Tryz.func16 (by kernel_rfl) (by kernel_rfl)) ?_
        refine (awake9_any _ HE).mono ?_
        rintro r v4 ⟨rfl, kb⟩
        replace D := grown_below D kb
        replace HE := HE.on kb
        replace G1 := heap_on G1 kb
        clear kb
        refine Or.inl ⟨.bool true, rfl, ?_⟩
        simp only [Act.put, lzA, lzB, lzC]
        refine wl_yield (o := ⟨_, _, _, _, _, _⟩) (.bool true) (yl_assign (by rfl) _ rfl _ rfl) ?_
        simp only [Act.put, lzA, lzB, lzC]
        refine wpList_nil ?_
        refine hK4 _ _ ?_
        clear hK4 K4
        refine wp_ret ?_
        try simp only [Exit.inBlock, Exit.then]
        go_ret
        exact ⟨rfl, below_none D⟩
    · refine wt_call (o := ⟨_, _, _, _, _, _⟩) (by rfl) 17 _ _ rfl #[.slice a0 l.length cap0] rfl (run_call Tryz.func17 (by kernel_rfl) (by kernel_rfl)) ?_
      refine (refFew_any _ l _ (hv.on (below_none D))).mono ?_
      rintro r v3 (⟨rfl, e9⟩)
      · replace e9 := e9.symm
        subst e9
        refine Or.inl ⟨.bool true, ret_bool hfl, ?_⟩
        simp only [Act.put, lzA, lzB, lzC]
        refine wl_yield (o := ⟨_, _, _, _, _, _⟩) (.bool false) (yl_not (by rfl) _ _ rfl true rfl) ?_
        simp only [Act.put, lzA, lzB, lzC]
        refine wl_yield (o := ⟨_, _, _, _, _, _⟩) (.bool false) (yl_pickF (by rfl) _ _ _ rfl rfl _ rfl) ?_
        simp only [Act.put, lzA, lzB, lzC]
        refine wl_yield (o := ⟨_, _, _, _, _, _⟩) (.bool false) (yl_move (by rfl) _ rfl _ rfl) ?_
        simp only [Act.put, lzA, lzB, lzC]
        refine wl_yield (o := ⟨_, _, _, _, _, _⟩) (.agg #[.bool (S.absent), .slice ai S.ints.length ci, .bool (S.co), .slice az S.strs.length cz]) (yl_set (by rfl) _ rfl _ 0 rfl _ _ _ _ (fun _ h => by subst h; exact ⟨cell_heap G1 0, cell_heap G1 1, cell_heap G1 2, cell_heap G1 3⟩)) ?_
        simp only [Act.put, lzA, lzB, lzC]
        refine wq_row1Q (o := ⟨_, _, _, _, _, _⟩) (by rfl) _ rfl ⟨S.absent, ai, S.ints.length, ci, S.co, az, S.strs.length, cz⟩ rfl (fun v4 g4 hg G4 kb => ?_)
        have n_g1_g4 : g1 ≠ g4 := by have := lt_heap G1; omega
        have ge_g4 : w.heap.size ≤ g4 := Nat.le_trans D.size hg
        have six_g4 : 2 ≤ g4 := Nat.le_trans w6 ge_g4
        clear hg
        replace D := grown_below D kb
        replace HE := HE.on kb
        replace G1 := heap_on G1 kb
        clear kb
        replace G4 : v4.heap[g4]? = some (.cells #[.bool (S.absent), .slice ai S.ints.length ci, .bool (S.co), .slice az S.strs.length cz] 26 (0, 0)) := G4
        simp only [Act.put, lzA, lzB, lzC]
        cases hfw : ([S]).all fewB
        · refine wt_call (o := ⟨_, _, _, _, _, _⟩) (by rfl) 17 _ _ rfl #[.slice (some ⟨g4, 0, none⟩) 1 1] rfl (run_call Tryz.func17 (by kernel_rfl) (by kernel_rfl)) ?_
          refine (refFew_any _ [S] _ (sets_row1 (c := ⟨S.absent, ai, S.ints.length, ci, S.co, az, S.strs.length, cz⟩) G4 (show SetAt _ (SC.val ⟨S.absent, ai, S.ints.length, ci, S.co, az, S.strs.length, cz⟩) S from ⟨_, _, rfl, hI.on (below_none D), hT.on (below_none D)⟩))).mono ?_
          rintro r v5 (⟨rfl, e9⟩)
          · replace e9 := e9.symm
            subst e9
            refine Or.inl ⟨.bool false, ret_bool hfw, ?_⟩
            simp only [Act.put, lzA, lzB, lzC]
            refine wl_yield (o := ⟨_, _, _, _, _, _⟩) (.bool true) (yl_not (by rfl) _ _ rfl false rfl) ?_
            simp only [Act.put, lzA, lzB, lzC]
            refine wl_yield (o := ⟨_, _, _, _, _, _⟩) (.bool true) (yl_pickF (by rfl) _ _ _ rfl rfl _ rfl) ?_
            simp only [Act.put, lzA, lzB, lzC]
            refine wpList_nil ?_
            refine hK3 _ _ ?_
            clear hK3 K3
            refine wp_cond_true rfl ?_
            refine wp_seq_k (fun K4 hK4 => ?_)
            refine wp_region_lit ?_
            refine wt_call (o := ⟨_, _, _, _, _, _⟩) (by rfl) 16 _ _ rfl #[] rfl (run_call Tryz.func16 (by kernel_rfl) (by kernel_rfl)) ?_
            refine (awake9_any _ HE).mono ?_
            rintro r v6 ⟨rfl, kb⟩
            replace D := grown_below D kb
            replace HE := HE.on kb
            replace G1 := heap_on G1 kb
            replace G4 := heap_on G4 kb
            clear kb
            refine Or.inl ⟨.bool true, rfl, ?_⟩
            simp only [Act.put, lzA, lzB, lzC]
            refine wl_yield (o := ⟨_, _, _, _, _, _⟩) (.bool true) (yl_assign (by rfl) _ rfl _ rfl) ?_
            simp only [Act.put, lzA, lzB, lzC]
            refine wpList_nil ?_
            refine hK4 _ _ ?_
            clear hK4 K4
            refine wp_ret ?_
            try simp only [Exit.inBlock, Exit.then]
            go_ret
            exact ⟨rfl, below_none D⟩
        · have hf1 : fewB S = true := by simpa using hfw
          have hfc := fewC_all hfl (show l.length ≤ 15 by omega)
          have hfc' : FewC (l ++ [S]) := fewC_all (by rw [List.all_append, hfl, hfw]; rfl) (by simp; omega)
          have hil' : InL (l ++ [S]) := fun T hT => (List.mem_append.1 hT).elim (hil T) (fun h => by rw [List.mem_singleton.1 h]; exact ⟨hI.1, hT0.1⟩)
          refine wt_call (o := ⟨_, _, _, _, _, _⟩) (by rfl) 17 _ _ rfl #[.slice (some ⟨g4, 0, none⟩) 1 1] rfl (run_call Tryz.func17 (by kernel_rfl) (by kernel_rfl)) ?_
          refine (refFew_any _ [S] _ (sets_row1 (c := ⟨S.absent, ai, S.ints.length, ci, S.co, az, S.strs.length, cz⟩) G4 (show SetAt _ (SC.val ⟨S.absent, ai, S.ints.length, ci, S.co, az, S.strs.length, cz⟩) S from ⟨_, _, rfl, hI.on (below_none D), hT.on (below_none D)⟩))).mono ?_
          rintro r v5 (⟨rfl, e9⟩)
          · replace e9 := e9.symm
            subst e9
            refine Or.inl ⟨.bool true, ret_bool hfw, ?_⟩
            simp only [Act.put, lzA, lzB, lzC]
            refine wl_yield (o := ⟨_, _, _, _, _, _⟩) (.bool false) (yl_not (by rfl) _ _ rfl true rfl) ?_
            simp only [Act.put, lzA, lzB, lzC]
            refine wl_yield (o := ⟨_, _, _, _, _, _⟩) (.bool false) (yl_pickF (by rfl) _ _ _ rfl rfl _ rfl) ?_
            simp only [Act.put, lzA, lzB, lzC]
            refine wpList_nil ?_
            refine hK3 _ _ ?_
            clear hK3 K3
            refine wp_cond_false rfl ?_
            refine wp_skip ?_
            refine hK2 _ _ ?_
            clear hK2 K2
            refine wp_seq_k (fun K4 hK4 => ?_)
            refine wp_region_lit ?_
            refine wq_row0Q (o := ⟨_, _, _, _, _, _⟩) (by rfl) rfl (fun v6 g6 OT kb => ?_)
            simp only [Act.put, lzA, lzB, lzC]
            have mB := D.size
            have mV := kb.size
            have hV_g1 := lt_heap G1
            have hV_g4 := lt_heap G4
            replace D := grown_below D kb
            replace HE := HE.on kb
            replace G1 := heap_on G1 kb
            replace G4 := heap_on G4 kb
            clear kb
            refine wl_yield (o := ⟨_, _, _, _, _, _⟩) (.slice a0 l.length cap0) (yl_move (by rfl) _ rfl _ rfl) ?_
            simp only [Act.put, lzA, lzB, lzC]
            refine wpList_appRowT _ rfl _ _ rfl v4.heap.size _ _ [] cs0 rfl OT rfl (hR0.on (below_none D)) hn0 (by simp; have := hA0.1; omega) mV ?_
            intro v7' v7 OT' kB
            simp only [Act.put, lzA, lzB, lzC]
            replace OT := OT'
            clear OT'
            rw [List.nil_append] at OT
            replace D := grown_none ((below_none D).trans (kB.mono mB))
            replace HE := HE.below (by have := HE0.big; omega) kB
            replace G1 := (kB.block _ hV_g1).trans G1
            replace G4 := (kB.block _ hV_g4).trans G4
            clear kB
            refine wt_call (o := ⟨_, _, _, _, _, _⟩) (by rfl) 18 _ _ rfl #[v7'] rfl (run_call Tryz.func18 (by kernel_rfl) (by kernel_rfl)) ?_
            refine (cut_any _ l _ (sets_of_row (OwnT.row OT (by have := hA0.1; omega)) (hA0.on (below_none D))) hfc).mono ?_
            rintro r v8 (⟨⟨u, rfl, HC⟩, kb⟩)
            · replace D := grown_below D kb
              replace HE := HE.on kb
              replace G1 := heap_on G1 kb
              replace G4 := heap_on G4 kb
              clear kb
              obtain ⟨a5, cap5, rfl⟩ : ∃ a5 cap5, u = .slice a5 (cutL l).length cap5 := by
                obtain ⟨q, e1, e2⟩ := HC.form
                exact ⟨q.p, q.c, by rw [e1]; unfold Sl.val; rw [e2]⟩
              have HS := HC.sets (Kept.refl _ _)
              clear HC
              have hmost := cutL_most hfc
              have hfit := fit_cut hil hfc
              have D2 : v8.grownBy v8 none := grown_refl _ _
              refine Or.inl ⟨.slice a5 (cutL l).length cap5, rfl, ?_⟩
              simp only [Act.put, lzA, lzB, lzC]
              refine wl_yield (o := ⟨_, _, _, _, _, _⟩) (.slice a5 (cutL l).length cap5) (yl_assign (by rfl) _ rfl _ rfl) ?_
              simp only [Act.put, lzA, lzB, lzC]
              refine wpList_nil ?_
              refine hK4 _ _ ?_
              clear hK4 K4
              refine wp_seq_k (fun K5 hK5 => ?_)
              have hS9_g1 := lt_heap G1
              have hS9_g4 := lt_heap G4
              have m9 := D.size
              have m29 := D2.size
              have D4 : v8.grownBy v8 none := grown_refl _ _
              refine wp_region_late (S := fun w' => w'.heap[g1]? = some (.cells #[.bool (S.absent), .slice ai S.ints.length ci, .bool (S.co), .slice az S.strs.length cz] 26 (0, 0))) (late := fun j => [].contains j) (by kernel_rfl) ?_
              have kb : Below v8.heap.size v8 v8.drew := (Below.refl _ v8).drew
              replace D := grown_below D kb
              replace HE := HE.on kb
              replace G1 := heap_on G1 kb
              replace G4 := heap_on G4 kb
              replace D2 := grown_below D2 kb
              replace D4 := grown_below D4 kb
              clear kb
              generalize v8.drew = v9 at D HE G1 G4 D2 D4 ⊢
              refine wpAnyL_pure (i := 1) (oi := ⟨_, _, _, _, _, _⟩) (v := .slice a0 l.length cap0) rfl (by kernel_rfl) (by kernel_rfl) (by kernel_rfl) (fun _ _ _ h => h) (yl_move (by rfl) _ rfl _ rfl) ?_
              simp only [Act.put, lzA, lzB, lzC]
              refine wpAnyL_load (i := 3) (oi := ⟨_, _, _, _, _, _⟩) (v := .agg #[.bool (S.absent), .slice ai S.ints.length ci, .bool (S.co), .slice az S.strs.length cz]) rfl (by kernel_rfl) (by kernel_rfl) (by kernel_rfl) (by kernel_rfl) (fun _ _ _ h => h) (yl_set (by rfl) _ rfl _ 0 rfl _ _ _ _ (fun _ h => ⟨cell_heap h 0, cell_heap h 1, cell_heap h 2, cell_heap h 3⟩)) G1 ?_
              simp only [Act.put, lzA, lzB, lzC]
              refine wpAnyL_all (rs := [0, 4]) (by kernel_rfl) (by simp) ?_
              intro j hj
              simp only [List.mem_cons, List.not_mem_nil, or_false] at hj
              rcases hj with rfl | rfl
              · refine ot_row0Q (o := ⟨_, _, _, _, _, _⟩) rfl (by rfl) rfl (fun v10 g10 RT kb => ?_)
                replace RT := OwnT.mono RT D4.size
                replace D := grown_below D kb
                replace HE := HE.on kb
                replace G1 := heap_on G1 kb
                replace G4 := heap_on G4 kb
                replace D2 := grown_below D2 kb
                replace D4 := grown_below D4 kb
                clear kb
                refine ⟨fun _ _ => G1, ?_⟩
                simp only [Act.put, lzA, lzB, lzC]
                refine wpAnyL_all (rs := [2, 4]) (by kernel_rfl) (by simp) ?_
                intro j hj
                simp only [List.mem_cons, List.not_mem_nil, or_false] at hj
                rcases hj with rfl | rfl
                · refine ot_appRowT (o := ⟨_, _, _, _, _, _⟩) rfl (by rfl) _ _ rfl v8.heap.size _ _ [] cs0 rfl RT rfl (hR0.on (below_none D)) hn0 (by simp; have := hA0.1; omega) D4.size (fun v11' v11 RT' kg => ?_)
                  replace HE := HE.below HE0.big (OwnT.below (OwnT.mono RT m9) D.size kg)
                  replace G1 := heap_gro G1 kg (fun e => by have := (World.ownsRow.lt RT _ e).1; omega)
                  replace G4 := heap_gro G4 kg (fun e => by have := (World.ownsRow.lt RT _ e).1; omega)
                  replace D2 := gr_own D2 (fun g hg => Nat.le_trans m29 (World.ownsRow.lt RT g hg).1) kg
                  replace D4 := gr_own D4 (fun g hg => (World.ownsRow.lt RT g hg).1) kg
                  replace D := gr_own D (fun g hg => Nat.le_trans m9 (World.ownsRow.lt RT g hg).1) kg
                  replace RT := RT'
                  clear RT' kg
                  rw [List.nil_append] at RT
                  refine ⟨fun _ _ => G1, ?_⟩
                  simp only [Act.put, lzA, lzB, lzC]
                  refine wpAnyL_all (rs := [4]) (by kernel_rfl) (by simp) ?_
                  intro j hj
                  have hj := List.mem_singleton.1 hj
                  subst hj
                  refine ot_row1Q (o := ⟨_, _, _, _, _, _⟩) rfl (by rfl) _ rfl ⟨S.absent, ai, S.ints.length, ci, S.co, az, S.strs.length, cz⟩ rfl (fun v12 g12 hg G12 kb => ?_)
                  have hg41 := hg
                  have n_g1_g12 : g1 ≠ g12 := by have := lt_heap G1; omega
                  have n_g4_g12 : g4 ≠ g12 := by have := lt_heap G4; omega
                  have ge_g12 : w.heap.size ≤ g12 := Nat.le_trans D.size hg
                  have ge_D2_g12 : v8.heap.size ≤ g12 := Nat.le_trans D2.size hg
                  have six_g12 : 2 ≤ g12 := Nat.le_trans w6 ge_g12
                  clear hg
                  replace D := grown_below D kb
                  replace HE := HE.on kb
                  replace G1 := heap_on G1 kb
                  replace G4 := heap_on G4 kb
                  replace D2 := grown_below D2 kb
                  replace D4 := grown_below D4 kb
                  replace RT := OwnT.on RT kb
                  clear kb
                  refine ⟨fun _ _ => G1, ?_⟩
                  simp only [Act.put, lzA, lzB, lzC]
                  refine wpAnyL_all (rs := [5]) (by kernel_rfl) (by simp) ?_
                  intro j hj
                  have hj := List.mem_singleton.1 hj
                  subst hj
                  refine ot_appRowT (o := ⟨_, _, _, _, _, _⟩) rfl (by rfl) _ _ rfl v8.heap.size _ _ cs0 [⟨S.absent, ai, S.ints.length, ci, S.co, az, S.strs.length, cz⟩] rfl RT rfl (OwnT.row (ownT_one (c := ⟨S.absent, ai, S.ints.length, ci, S.co, az, S.strs.length, cz⟩) G12 (Nat.le_refl _)) (by simp)) (OwnT.nilOkQ (ownT_one (c := ⟨S.absent, ai, S.ints.length, ci, S.co, az, S.strs.length, cz⟩) G12 (Nat.le_refl _))) (by simp; have := hA0.1; omega) D4.size (fun v13' v13 RT' kg => ?_)
                  replace HE := HE.below HE0.big (OwnT.below (OwnT.mono RT m9) D.size kg)
                  replace G1 := heap_gro G1 kg (fun e => by have := (World.ownsRow.lt RT _ e).1; omega)
                  replace G4 := heap_gro G4 kg (fun e => by have := (World.ownsRow.lt RT _ e).1; omega)
                  replace D2 := gr_own D2 (fun g hg => Nat.le_trans m29 (World.ownsRow.lt RT g hg).1) kg
                  replace D4 := gr_own D4 (fun g hg => (World.ownsRow.lt RT g hg).1) kg
                  replace D := gr_own D (fun g hg => Nat.le_trans m9 (World.ownsRow.lt RT g hg).1) kg
                  replace RT := RT'
                  clear RT' kg
                  refine ⟨fun _ _ => G1, ?_⟩
                  simp only [Act.put, lzA, lzB, lzC]
                  refine wpAnyL_all (rs := [6]) (by kernel_rfl) (by simp) ?_
                  intro j hj
                  have hj := List.mem_singleton.1 hj
                  subst hj
                  refine ot_call (o := ⟨_, _, _, _, _, _⟩) rfl (by rfl) 18 _ _ rfl #[v13'] rfl (run_call Tryz.func18 (by kernel_rfl) (by kernel_rfl)) ?_
                  refine (cut_any _ (l ++ [S]) _ (sets_of_row (OwnT.row RT (by simp; have := hA0.1; omega)) (allSt_append (hA0.on (below_none D)) ⟨rfl, fun i hi => by
                      rw [List.length_singleton] at hi
                      obtain rfl : i = 0 := by omega
                      exact (show SetAt _ (SC.val ⟨S.absent, ai, S.ints.length, ci, S.co, az, S.strs.length, cz⟩) S from ⟨_, _, rfl, hI.on (below_none D), hT.on (below_none D)⟩)⟩)) hfc').mono ?_
                  rintro r v14 (⟨⟨u, rfl, HC2⟩, kb⟩)
                  replace D := grown_below D kb
                  replace HE := HE.on kb
                  replace G1 := heap_on G1 kb
                  replace G4 := heap_on G4 kb
                  replace D2 := grown_below D2 kb
                  replace D4 := grown_below D4 kb
                  replace RT := OwnT.on RT kb
                  clear kb
                  obtain ⟨a6, cap6, rfl⟩ : ∃ a6 cap6, u = .slice a6 (cutL (l ++ [S])).length cap6 := by
                    obtain ⟨q, e1, e2⟩ := HC2.form
                    exact ⟨q.p, q.c, by rw [e1]; unfold Sl.val; rw [e2]⟩
                  have HSB := HC2.sets (Kept.refl _ _)
                  clear HC2 RT
                  have D3 : v14.grownBy v14 none := grown_refl _ _
                  refine Or.inl ⟨.slice a6 (cutL (l ++ [S])).length cap6, rfl, ⟨fun _ _ => G1, ?_⟩⟩
                  simp only [Act.put, lzA, lzB, lzC]
                  refine wpAnyL_pure (i := 7) (oi := ⟨_, _, _, _, _, _⟩) (v := .slice a6 (cutL (l ++ [S])).length cap6) rfl (by kernel_rfl) (by kernel_rfl) (by kernel_rfl) (fun _ _ _ h => h) (yl_assign (by rfl) _ rfl _ rfl) ?_
                  simp only [Act.put, lzA, lzB, lzC]
                  refine wpAnyL_done (by kernel_rfl) ?_ _
                  refine hK5 _ _ ?_
                  clear hK5 K5
                  refine wp_seq_k (fun K6 hK6 => ?_)
                  refine wp_seq_k (fun K7 hK7 => ?_)
                  refine wp_region_lit ?_
                  refine wl_yield (o := ⟨_, _, _, _, _, _⟩) (.slice a6 (cutL (l ++ [S])).length cap6) (yl_move (by rfl) _ rfl _ rfl) ?_
                  simp only [Act.put, lzA, lzB, lzC]
                  refine wl_yield (o := ⟨_, _, _, _, _, _⟩) (.int .i64 ((cutL (l ++ [S])).length : Nat)) (yt_lenQ (by rfl) _ rfl a6 (cutL (l ++ [S])).length cap6 rfl) ?_
                  simp only [Act.put, lzA, lzB, lzC]
                  refine wl_yield (o := ⟨_, _, _, _, _, _⟩) (.int .i64 0) (yl_move (by rfl) _ rfl _ rfl) ?_
                  simp only [Act.put, lzA, lzB, lzC]
                  refine wpList_nil ?_
                  refine hK7 _ _ ?_
                  clear hK7 K7
                  refine wp_block ?_
                  have hmost2 := cutL_most hfc'
                  have hfit2 := fit_cut hil' hfc'
                  have hsm : ∀ j, j < (cutL (l ++ [S])).length → ∃ q, sampleV ((cutL (l ++ [S])).getD j noSet) = some q := fun j hj => cell_sample (cut_of hil') hj
                  have hml := more_len l S
                  go_loopw [44] (fun i wr => ∃ (k : Nat), i = .int .i64 ((k : Nat) : Int) ∧ k ≤ (cutL (l ++ [S])).length ∧ Env wr ∧ v8.grownBy wr none ∧ v14.grownBy wr none ∧ w.grownBy wr none) (fun i _ => (cutL (l ++ [S])).length - (intOf i).toNat)
                  case atStart => exact ⟨0, rfl, Nat.zero_le _, HE, D2, D3, D⟩
                  case round =>
                    clear D D2 D3 HE
                    obtain ⟨k, rfl, hk, HE, D2, D3, D⟩ := hrel
                    by_cases hlt : k < (cutL (l ++ [S])).length
                    · obtain ⟨q, hq⟩ := hsm k hlt
                      have hfk := hfit2 _ (gD_mem (d := noSet) hlt)
                      have hqh := sample_has hq (by have := hfk.ns; omega)
                      obtain ⟨hwJ, hinP⟩ := more_in hil hil' hfc' hlt hq
                      have hwi : whichI (cutL l) q = ((whichN (cutL l) q : Nat) : Int) := by unfold whichI; rw [if_pos hwJ]
                      generalize hJ : whichN (cutL l) q = J at hwJ hinP hwi
                      obtain ⟨gI, oI, vi, vs, rfl, hg1, C0, C1, C2, C3, hI9, hT9⟩ := HSB.at.2 k hlt
                      obtain ⟨gA, oA, vi', vs', rfl, hgA, A0, A1, A2, A3, hIA, hTA⟩ := HS.at.2 J hwJ
                      have cellD := fun (W : World) (D : v14.grownBy W none) (j : Nat) => (below_none D).cell (p := ⟨gI, j, none⟩) hg1
                      have cellA := fun (W : World) (D : v8.grownBy W none) (j : Nat) => (below_none D).cell (p := ⟨gA, j, none⟩) hgA
                      obtain ⟨ai', ci', rfl⟩ := hI9.form
                      obtain ⟨az', cz', rfl⟩ := hT9.form
                      obtain ⟨bi', di', rfl⟩ := hIA.form
                      obtain ⟨bz', dz', rfl⟩ := hTA.form
                      have hfJ := hfit _ (gD_mem (d := noSet) hwJ)
                      have hqm := hasP_max hqh
                      generalize hX : (cutL (l ++ [S])).getD k noSet = Y9 at C0 C1 C2 C3 hI9 hT9 hq hqh hfk hinP
                      generalize hZ : (cutL l).getD J noSet = Z9 at A0 A1 A2 A3 hIA hTA hinP hfJ
                      refine wp_seq_k (fun K8 hK8 => ?_)
                      refine wp_region_lit ?_
                      refine wl_yield (o := ⟨_, _, _, _, _, _⟩) (.bool true) (yt_lssI (by rfl) _ _ _ rfl ((k : Nat) : Int) (((cutL (l ++ [S])).length : Nat) : Int) true rfl rfl (decide_eq_true (by omega))) ?_
                      simp only [Act.put, lzA, lzB, lzC]
                      refine wpList_nil ?_
                      refine hK8 _ _ ?_
                      clear hK8 K8
                      refine wp_seq_k (fun K9 hK9 => ?_)
                      refine wp_cond_true rfl ?_
                      refine wp_skip ?_
                      refine hK9 _ _ ?_
                      clear hK9 K9
                      refine wp_seq_k (fun K10 hK10 => ?_)
                      refine wp_block ?_
                      refine wp_seq_k (fun K11 hK11 => ?_)
                      refine wp_region_lit ?_
                      refine wl_yield (o := ⟨_, _, _, _, _, _⟩) (.pointer (some ⟨gI, oI + k * 4, none⟩)) (yt_atQ (by rfl) _ _ rfl gI oI _ _ k rfl rfl (hlt)) ?_
                      simp only [Act.put, lzA, lzB, lzC]
                      refine wl_yield (o := ⟨_, _, _, _, _, _⟩) (.agg #[.bool (Y9.absent), .slice ai' Y9.ints.length ci', .bool (Y9.co), .slice az' Y9.strs.length cz']) (yl_set (by rfl) _ rfl _ _ rfl _ _ _ _ (fun _ h => by subst h; exact ⟨(cellD _ D3 _).trans C0, (cellD _ D3 _).trans C1, (cellD _ D3 _).trans C2, (cellD _ D3 _).trans C3⟩)) ?_
                      simp only [Act.put, lzA, lzB, lzC]
                      refine wt_allocSt (o := ⟨_, _, _, _, _, _⟩) (by rfl) rfl (fun v15 g15 hg G15 kb => ?_)
                      simp only [Act.put, lzA, lzB, lzC]
                      have ge_g15 : w.heap.size ≤ g15 := Nat.le_trans D.size hg
                      have ge_D2_g15 : v8.heap.size ≤ g15 := Nat.le_trans D2.size hg
                      have ge_D3_g15 : v14.heap.size ≤ g15 := Nat.le_trans D3.size hg
                      have six_g15 : 2 ≤ g15 := Nat.le_trans w6 ge_g15
                      clear hg
                      replace D := grown_below D kb
                      replace HE := HE.on kb
                      replace D2 := grown_below D2 kb
                      replace D3 := grown_below D3 kb
                      clear kb
                      replace G15 : v15.heap[g15]? = some (.cells #[.bool false, .slice none 0 0, .bool false, .slice none 0 0] 26 (0, 0)) := G15
                      refine wt_putSt (o := ⟨_, _, _, _, _, _⟩) rfl _ _ rfl _ rfl (⟨Y9.absent, ai', Y9.ints.length, ci', Y9.co, az', Y9.strs.length, cz'⟩) rfl G15 rfl (fun v16 X kg => ?_)
                      simp only [Act.put, lzA, lzB, lzC]
                      replace D := gr_new D ge_g15 kg
                      replace HE := Env.gr HE kg six_g15
                      replace D2 := gr_new D2 ge_D2_g15 kg
                      replace D3 := gr_new D3 ge_D3_g15 kg
                      clear kg
                      replace G15 : v16.heap[g15]? = some (.cells #[.bool (Y9.absent), .slice ai' Y9.ints.length ci', .bool (Y9.co), .slice az' Y9.strs.length cz'] 26 (0, 0)) := X
                      clear X
                      refine wpList_nil ?_
                      refine hK11 _ _ ?_
                      clear hK11 K11
                      refine wp_seq_k (fun K12 hK12 => ?_)
                      refine wp_region_lit ?_
                      refine wl_yield (o := ⟨_, _, _, _, _, _⟩) (.agg #[.bool (Y9.absent), .slice ai' Y9.ints.length ci', .bool (Y9.co), .slice az' Y9.strs.length cz']) (yl_set (by rfl) _ rfl _ 0 rfl _ _ _ _ (fun _ h => by subst h; exact ⟨cell_heap G15 0, cell_heap G15 1, cell_heap G15 2, cell_heap G15 3⟩)) ?_
                      simp only [Act.put, lzA, lzB, lzC]
                      refine wt_call (o := ⟨_, _, _, _, _, _⟩) (by rfl) 25 _ _ rfl #[.agg #[.bool (Y9.absent), .slice ai' Y9.ints.length ci', .bool (Y9.co), .slice az' Y9.strs.length cz']] rfl (run_call Tryz.func25 (by kernel_rfl) (by kernel_rfl)) ?_
                      refine (sample_any _ Y9 _ HE (show SetAt _ (SC.val ⟨Y9.absent, ai', Y9.ints.length, ci', Y9.co, az', Y9.strs.length, cz'⟩) Y9 from ⟨_, _, rfl, hI9.on (below_none D3), hT9.on (below_none D3)⟩) (fun _ => hfk)).mono ?_
                      rintro r v17 (⟨rfl, kb⟩)
                      · replace D := grown_below D kb
                        replace HE := HE.on kb
                        replace D2 := grown_below D2 kb
                        replace D3 := grown_below D3 kb
                        replace G15 := heap_on G15 kb
                        clear kb
                        refine Or.inl ⟨.tuple #[vVal q, .bool true], by rw [hq]; rfl, ?_⟩
                        simp only [Act.put, lzA, lzB, lzC]
                        refine wl_yield (o := ⟨_, _, _, _, _, _⟩) (.tuple #[vVal q, .bool true]) (yl_move (by rfl) _ rfl _ rfl) ?_
                        simp only [Act.put, lzA, lzB, lzC]
                        refine wl_yield (o := ⟨_, _, _, _, _, _⟩) (vVal q) (yl_extract0 (by rfl) _ rfl _ _ rfl) ?_
                        simp only [Act.put, lzA, lzB, lzC]
                        refine wl_yield (o := ⟨_, _, _, _, _, _⟩) (.bool true) (yl_extract1 (by rfl) _ rfl _ _ rfl) ?_
                        simp only [Act.put, lzA, lzB, lzC]
                        refine wt_allocVa (o := ⟨_, _, _, _, _, _⟩) (by rfl) rfl (fun v18 g18 hg G18 kb => ?_)
                        simp only [Act.put, lzA, lzB, lzC]
                        have n_g15_g18 : g15 ≠ g18 := by have := lt_heap G15; omega
                        have ge_g18 : w.heap.size ≤ g18 := Nat.le_trans D.size hg
                        have ge_D2_g18 : v8.heap.size ≤ g18 := Nat.le_trans D2.size hg
                        have ge_D3_g18 : v14.heap.size ≤ g18 := Nat.le_trans D3.size hg
                        have six_g18 : 2 ≤ g18 := Nat.le_trans w6 ge_g18
                        clear hg
                        replace D := grown_below D kb
                        replace HE := HE.on kb
                        replace D2 := grown_below D2 kb
                        replace D3 := grown_below D3 kb
                        replace G15 := heap_on G15 kb
                        clear kb
                        replace G18 : v18.heap[g18]? = some (.cells #[.int .i64 0, .int .i64 0, .string (bs ([]))] 48 (0, 0)) := G18
                        refine wt_putVa (o := ⟨_, _, _, _, _, _⟩) rfl _ _ rfl _ rfl (q) rfl G18 rfl (fun v19 X kg => ?_)
                        simp only [Act.put, lzA, lzB, lzC]
                        replace D := gr_new D ge_g18 kg
                        replace HE := Env.gr HE kg six_g18
                        replace D2 := gr_new D2 ge_D2_g18 kg
                        replace D3 := gr_new D3 ge_D3_g18 kg
                        replace G15 := heap_gr G15 kg n_g15_g18
                        clear kg
                        replace G18 : v19.heap[g18]? = some (.cells #[.int .i64 (q.1), .int .i64 (q.2.1), .string q.2.2] 48 (0, 0)) := X
                        clear X
                        refine wl_yield (o := ⟨_, _, _, _, _, _⟩) (.bool true) (yl_assign (by rfl) _ rfl _ rfl) ?_
                        simp only [Act.put, lzA, lzB, lzC]
                        refine wpList_nil ?_
                        refine hK12 _ _ ?_
                        clear hK12 K12
                        refine wp_seq_k (fun K13 hK13 => ?_)
                        refine wp_region_lit ?_
                        refine wl_yield (o := ⟨_, _, _, _, _, _⟩) (.slice (some ⟨gA, oA, none⟩) (cutL l).length cap5) (yl_move (by rfl) _ rfl _ rfl) ?_
                        simp only [Act.put, lzA, lzB, lzC]
                        refine wl_yield (o := ⟨_, _, _, _, _, _⟩) (vVal q) (yl_val (by rfl) _ rfl _ 0 rfl _ _ _ (fun _ h => by subst h; exact ⟨cell_heap G18 0, cell_heap G18 1, cell_heap G18 2⟩)) ?_
                        simp only [Act.put, lzA, lzB, lzC]
                        refine wt_call (o := ⟨_, _, _, _, _, _⟩) (by rfl) 27 _ _ rfl #[.slice (some ⟨gA, oA, none⟩) (cutL l).length cap5, vVal q] rfl (run_call Tryz.func27 (by kernel_rfl) (by kernel_rfl)) ?_
                        refine (which_any _ (cutL l) q _ (HS.on (below_none D2)) hfit hqm).mono ?_
                        rintro r v20 (⟨rfl, kb⟩)
                        · replace D := grown_below D kb
                          replace HE := HE.on kb
                          replace D2 := grown_below D2 kb
                          replace D3 := grown_below D3 kb
                          replace G15 := heap_on G15 kb
                          replace G18 := heap_on G18 kb
                          clear kb
                          refine Or.inl ⟨.int .i64 (J : Nat), ret_int hwi, ?_⟩
                          simp only [Act.put, lzA, lzB, lzC]
                          refine wl_yield (o := ⟨_, _, _, _, _, _⟩) (.int .i64 (J : Nat)) (yl_assign (by rfl) _ rfl _ rfl) ?_
                          simp only [Act.put, lzA, lzB, lzC]
                          refine wpList_nil ?_
                          refine hK13 _ _ ?_
                          clear hK13 K13
                          refine wp_seq_k (fun K14 hK14 => ?_)
                          refine wp_region_late (S := fun w' => w'.heap[g15]? = some (.cells #[.bool (Y9.absent), .slice ai' Y9.ints.length ci', .bool (Y9.co), .slice az' Y9.strs.length cz'] 26 (0, 0)) ∧ w'.cell? ⟨gA, oA + J * 4, none⟩ = some (.bool Z9.absent) ∧ w'.cell? ⟨gA, oA + J * 4 + 1, none⟩ = some (.slice bi' Z9.ints.length di') ∧ w'.cell? ⟨gA, oA + J * 4 + 2, none⟩ = some (.bool Z9.co) ∧ w'.cell? ⟨gA, oA + J * 4 + 3, none⟩ = some (.slice bz' Z9.strs.length dz')) (late := fun j => [].contains j) (by kernel_rfl) ?_
                          have kb : Below v20.heap.size v20 v20.drew := (Below.refl _ v20).drew
                          replace D := grown_below D kb
                          replace HE := HE.on kb
                          replace D2 := grown_below D2 kb
                          replace D3 := grown_below D3 kb
                          replace G15 := heap_on G15 kb
                          replace G18 := heap_on G18 kb
                          clear kb
                          generalize v20.drew = v21 at D HE D2 D3 G15 G18 ⊢
                          refine wpAnyL_pure (i := 0) (oi := ⟨_, _, _, _, _, _⟩) (v := .int .i64 (J : Nat)) rfl (by kernel_rfl) (by kernel_rfl) (by kernel_rfl) (fun _ _ _ h => h) (yl_move (by rfl) _ rfl _ rfl) ?_
                          simp only [Act.put, lzA, lzB, lzC]
                          refine wpAnyL_pure (i := 1) (oi := ⟨_, _, _, _, _, _⟩) (v := .bool false) rfl (by kernel_rfl) (by kernel_rfl) (by kernel_rfl) (fun _ _ _ h => h) (yt_lssI (by rfl) _ _ _ rfl ((J : Nat) : Int) 0 false rfl rfl (decide_eq_false (by omega))) ?_
                          simp only [Act.put, lzA, lzB, lzC]
                          refine wpAnyL_pure (i := 2) (oi := ⟨_, _, _, _, _, _⟩) (v := .bool false) rfl (by kernel_rfl) (by kernel_rfl) (by kernel_rfl) (fun _ _ _ h => h) (yl_move (by rfl) _ rfl _ rfl) ?_
                          simp only [Act.put, lzA, lzB, lzC]
                          refine wpAnyL_load (i := 3) (oi := ⟨_, _, _, _, _, _⟩) (v := .agg #[.bool (Y9.absent), .slice ai' Y9.ints.length ci', .bool (Y9.co), .slice az' Y9.strs.length cz']) rfl (by kernel_rfl) (by kernel_rfl) (by kernel_rfl) (by kernel_rfl) (fun _ _ _ h => h) (yl_set (by rfl) _ rfl _ 0 rfl _ _ _ _ (fun _ h => ⟨cell_heap h.1 0, cell_heap h.1 1, cell_heap h.1 2, cell_heap h.1 3⟩)) ⟨G15, ⟨(cellA _ D2 _).trans A0, (cellA _ D2 _).trans A1, (cellA _ D2 _).trans A2, (cellA _ D2 _).trans A3⟩⟩ ?_
                          simp only [Act.put, lzA, lzB, lzC]
                          refine wpAnyL_pure (i := 4) (oi := ⟨_, _, _, _, _, _⟩) (v := .slice (some ⟨gA, oA, none⟩) (cutL l).length cap5) rfl (by kernel_rfl) (by kernel_rfl) (by kernel_rfl) (fun _ _ _ h => h) (yl_move (by rfl) _ rfl _ rfl) ?_
                          simp only [Act.put, lzA, lzB, lzC]
                          refine wpAnyL_pure (i := 5) (oi := ⟨_, _, _, _, _, _⟩) (v := .int .i64 (J : Nat)) rfl (by kernel_rfl) (by kernel_rfl) (by kernel_rfl) (fun _ _ _ h => h) (yl_move (by rfl) _ rfl _ rfl) ?_
                          simp only [Act.put, lzA, lzB, lzC]
                          refine wpAnyL_pure (i := 6) (oi := ⟨_, _, _, _, _, _⟩) (v := .pointer (some ⟨gA, oA + J * 4, none⟩)) rfl (by kernel_rfl) (by kernel_rfl) (by kernel_rfl) (fun _ _ _ h => h) (yt_atQ (by rfl) _ _ rfl gA oA _ _ J rfl rfl (hwJ)) ?_
                          simp only [Act.put, lzA, lzB, lzC]
                          refine wpAnyL_load (i := 7) (oi := ⟨_, _, _, _, _, _⟩) (v := .agg #[.bool (Z9.absent), .slice bi' Z9.ints.length di', .bool (Z9.co), .slice bz' Z9.strs.length dz']) rfl (by kernel_rfl) (by kernel_rfl) (by kernel_rfl) (by kernel_rfl) (fun _ _ _ h => h) (yl_set (by rfl) _ rfl _ _ rfl _ _ _ _ (fun _ h => h.2)) ⟨G15, ⟨(cellA _ D2 _).trans A0, (cellA _ D2 _).trans A1, (cellA _ D2 _).trans A2, (cellA _ D2 _).trans A3⟩⟩ ?_
                          simp only [Act.put, lzA, lzB, lzC]
                          refine wpAnyL_all (rs := [8]) (by kernel_rfl) (by simp) ?_
                          intro j hj
                          have hj := List.mem_singleton.1 hj
                          subst hj
                          refine ot_call (o := ⟨_, _, _, _, _, _⟩) rfl (by rfl) 39 _ _ rfl #[.agg #[.bool (Y9.absent), .slice ai' Y9.ints.length ci', .bool (Y9.co), .slice az' Y9.strs.length cz'], .agg #[.bool (Z9.absent), .slice bi' Z9.ints.length di', .bool (Z9.co), .slice bz' Z9.strs.length dz']] rfl (run_call Tryz.func39 (by kernel_rfl) (by kernel_rfl)) ?_
                          refine (refIn_any _ _ Y9 Z9 _ (show SetAt _ (SC.val ⟨Y9.absent, ai', Y9.ints.length, ci', Y9.co, az', Y9.strs.length, cz'⟩) Y9 from ⟨_, _, rfl, hI9.on (below_none D3), hT9.on (below_none D3)⟩) (show SetAt _ (SC.val ⟨Z9.absent, bi', Z9.ints.length, di', Z9.co, bz', Z9.strs.length, dz'⟩) Z9 from ⟨_, _, rfl, hIA.on (below_none D2), hTA.on (below_none D2)⟩) ⟨hfk.ni, hfk.ns⟩ ⟨hfJ.ni, hfJ.ns⟩).mono ?_
                          rintro r v22 (⟨⟨t9, -, rfl⟩, kb⟩)
                          replace D := grown_below D kb
                          replace HE := HE.on kb
                          replace D2 := grown_below D2 kb
                          replace D3 := grown_below D3 kb
                          replace G15 := heap_on G15 kb
                          replace G18 := heap_on G18 kb
                          clear kb
                          refine Or.inl ⟨.bool true, ret_bool (in_of hinP _), ⟨fun _ _ => ⟨G15, ⟨(cellA _ D2 _).trans A0, (cellA _ D2 _).trans A1, (cellA _ D2 _).trans A2, (cellA _ D2 _).trans A3⟩⟩, ?_⟩⟩
                          simp only [Act.put, lzA, lzB, lzC]
                          refine wpAnyL_pure (i := 9) (oi := ⟨_, _, _, _, _, _⟩) (v := .bool false) rfl (by kernel_rfl) (by kernel_rfl) (by kernel_rfl) (fun _ _ _ h => h) (yl_not (by rfl) _ _ rfl true rfl) ?_
                          simp only [Act.put, lzA, lzB, lzC]
                          refine wpAnyL_pure (i := 10) (oi := ⟨_, _, _, _, _, _⟩) (v := .bool false) rfl (by kernel_rfl) (by kernel_rfl) (by kernel_rfl) (fun _ _ _ h => h) (yl_pickF (by rfl) _ _ _ rfl rfl _ rfl) ?_
                          simp only [Act.put, lzA, lzB, lzC]
                          refine wpAnyL_done (by kernel_rfl) ?_ _
                          refine hK14 _ _ ?_
                          clear hK14 K14
                          refine wp_cond_false rfl ?_
                          refine wp_skip ?_
                          refine hK10 _ _ ?_
                          clear hK10 K10
                          refine wp_region_lit ?_
                          refine wl_yield (o := ⟨_, _, _, _, _, _⟩) (.int .i64 (k + 1 : Nat)) (yt_addI (by rfl) _ _ _ rfl ((k : Nat) : Int) 1 ((k + 1 : Nat) : Int) rfl rfl (by omega) (by omega) (by omega)) ?_
                          simp only [Act.put, lzA, lzB, lzC]
                          refine wl_yield (o := ⟨_, _, _, _, _, _⟩) (.int .i64 (k + 1 : Nat)) (yl_move (by rfl) _ rfl _ rfl) ?_
                          simp only [Act.put, lzA, lzB, lzC]
                          refine wpList_nil ?_
                          show _ ∧ _
                          go_roundw
                          case rel => exact ⟨k + 1, rfl, by omega, HE, D2, D3, D⟩
                          case measure => simp [intOf]; omega
                    · obtain rfl : k = (cutL (l ++ [S])).length := by omega
                      refine wp_seq_k (fun K8 hK8 => ?_)
                      refine wp_region_lit ?_
                      refine wl_yield (o := ⟨_, _, _, _, _, _⟩) (.bool false) (yt_lssI (by rfl) _ _ _ rfl (((cutL (l ++ [S])).length : Nat) : Int) (((cutL (l ++ [S])).length : Nat) : Int) false rfl rfl (decide_eq_false (by omega))) ?_
                      simp only [Act.put, lzA, lzB, lzC]
                      refine wpList_nil ?_
                      refine hK8 _ _ ?_
                      clear hK8 K8
                      refine wp_seq_k (fun K9 hK9 => ?_)
                      refine wp_cond_false rfl ?_
                      refine wp_exit ?_
                      refine hK6 _ _ ?_
                      clear hK9 K9 hK6 K6
                      refine wp_seq_k (fun K10 hK10 => ?_)
                      refine wp_region_lit ?_
                      refine wl_yield (o := ⟨_, _, _, _, _, _⟩) (.slice a6 (cutL (l ++ [S])).length cap6) (yl_move (by rfl) _ rfl _ rfl) ?_
                      simp only [Act.put, lzA, lzB, lzC]
                      refine wl_yield (o := ⟨_, _, _, _, _, _⟩) (.int .i64 ((cutL (l ++ [S])).length : Nat)) (yt_lenQ (by rfl) _ rfl a6 (cutL (l ++ [S])).length cap6 rfl) ?_
                      simp only [Act.put, lzA, lzB, lzC]
                      refine wl_yield (o := ⟨_, _, _, _, _, _⟩) (.slice a5 (cutL l).length cap5) (yl_move (by rfl) _ rfl _ rfl) ?_
                      simp only [Act.put, lzA, lzB, lzC]
                      refine wl_yield (o := ⟨_, _, _, _, _, _⟩) (.int .i64 ((cutL l).length : Nat)) (yt_lenQ (by rfl) _ rfl a5 (cutL l).length cap5 rfl) ?_
                      simp only [Act.put, lzA, lzB, lzC]
                      refine wl_yield (o := ⟨_, _, _, _, _, _⟩) (.bool true) (yt_geqI (by rfl) _ _ _ rfl (((cutL (l ++ [S])).length : Nat) : Int) (((cutL l).length : Nat) : Int) true rfl rfl (decide_eq_true (by omega))) ?_
                      simp only [Act.put, lzA, lzB, lzC]
                      refine wl_yield (o := ⟨_, _, _, _, _, _⟩) (.bool true) (yl_assign (by rfl) _ rfl _ rfl) ?_
                      simp only [Act.put, lzA, lzB, lzC]
                      refine wpList_nil ?_
                      refine hK10 _ _ ?_
                      clear hK10 K10
                      refine wp_ret ?_
                      try simp only [Exit.inBlock, Exit.then]
                      go_ret
                      exact ⟨rfl, below_none D⟩
                · refine ot_row1Q (o := ⟨_, _, _, _, _, _⟩) rfl (by rfl) _ rfl ⟨S.absent, ai, S.ints.length, ci, S.co, az, S.strs.length, cz⟩ rfl (fun v11 g11 hg G11 kb => ?_)
                  have hg41 := hg
                  have n_g1_g11 : g1 ≠ g11 := by have := lt_heap G1; omega
                  have n_g4_g11 : g4 ≠ g11 := by have := lt_heap G4; omega
                  have ge_g11 : w.heap.size ≤ g11 := Nat.le_trans D.size hg
                  have ge_D2_g11 : v8.heap.size ≤ g11 := Nat.le_trans D2.size hg
                  have six_g11 : 2 ≤ g11 := Nat.le_trans w6 ge_g11
                  clear hg
                  have ne04 : g10 ≠ g11 := by
                    have h1 := (World.ownsRow.lt RT g10 rfl).2
                    omega
                  replace D := grown_below D kb
                  replace HE := HE.on kb
                  replace G1 := heap_on G1 kb
                  replace G4 := heap_on G4 kb
                  replace D2 := grown_below D2 kb
                  replace D4 := grown_below D4 kb
                  replace RT := OwnT.on RT kb
                  clear kb
                  refine ⟨fun _ _ => G1, ?_⟩
                  simp only [Act.put, lzA, lzB, lzC]
                  refine wpAnyL_all (rs := [2]) (by kernel_rfl) (by simp) ?_
                  intro j hj
                  have hj := List.mem_singleton.1 hj
                  subst hj
                  refine ot_appRowT (o := ⟨_, _, _, _, _, _⟩) rfl (by rfl) _ _ rfl v8.heap.size _ _ [] cs0 rfl RT rfl (hR0.on (below_none D)) hn0 (by simp; have := hA0.1; omega) D4.size (fun v12' v12 RT' kg => ?_)
                  replace HE := HE.below HE0.big (OwnT.below (OwnT.mono RT m9) D.size kg)
                  replace G1 := heap_gro G1 kg (fun e => by have := (World.ownsRow.lt RT _ e).1; omega)
                  replace G4 := heap_gro G4 kg (fun e => by have := (World.ownsRow.lt RT _ e).1; omega)
                  replace D2 := gr_own D2 (fun g hg => Nat.le_trans m29 (World.ownsRow.lt RT g hg).1) kg
                  replace G11 := heap_gro G11 kg (fun e => ne04 (by cases e; rfl))
                  replace D4 := gr_own D4 (fun g hg => (World.ownsRow.lt RT g hg).1) kg
                  replace D := gr_own D (fun g hg => Nat.le_trans m9 (World.ownsRow.lt RT g hg).1) kg
                  replace RT := RT'
                  clear RT' kg
                  rw [List.nil_append] at RT
                  refine ⟨fun _ _ => G1, ?_⟩
                  simp only [Act.put, lzA, lzB, lzC]
                  refine wpAnyL_all (rs := [5]) (by kernel_rfl) (by simp) ?_
                  intro j hj
                  have hj := List.mem_singleton.1 hj
                  subst hj
                  refine ot_appRowT (o := ⟨_, _, _, _, _, _⟩) rfl (by rfl) _ _ rfl v8.heap.size _ _ cs0 [⟨S.absent, ai, S.ints.length, ci, S.co, az, S.strs.length, cz⟩] rfl RT rfl (OwnT.row (ownT_one (c := ⟨S.absent, ai, S.ints.length, ci, S.co, az, S.strs.length, cz⟩) G11 (Nat.le_refl _)) (by simp)) (OwnT.nilOkQ (ownT_one (c := ⟨S.absent, ai, S.ints.length, ci, S.co, az, S.strs.length, cz⟩) G11 (Nat.le_refl _))) (by simp; have := hA0.1; omega) D4.size (fun v13' v13 RT' kg => ?_)
                  replace HE := HE.below HE0.big (OwnT.below (OwnT.mono RT m9) D.size kg)
                  replace G1 := heap_gro G1 kg (fun e => by have := (World.ownsRow.lt RT _ e).1; omega)
                  replace G4 := heap_gro G4 kg (fun e => by have := (World.ownsRow.lt RT _ e).1; omega)
                  replace D2 := gr_own D2 (fun g hg => Nat.le_trans m29 (World.ownsRow.lt RT g hg).1) kg
                  replace D4 := gr_own D4 (fun g hg => (World.ownsRow.lt RT g hg).1) kg
                  replace D := gr_own D (fun g hg => Nat.le_trans m9 (World.ownsRow.lt RT g hg).1) kg
                  replace RT := RT'
                  clear RT' kg
                  refine ⟨fun _ _ => G1, ?_⟩
                  simp only [Act.put, lzA, lzB, lzC]
                  refine wpAnyL_all (rs := [6]) (by kernel_rfl) (by simp) ?_
                  intro j hj
                  have hj := List.mem_singleton.1 hj
                  subst hj
                  refine ot_call (o := ⟨_, _, _, _, _, _⟩) rfl (by rfl) 18 _ _ rfl #[v13'] rfl (run_call Tryz.func18 (by kernel_rfl) (by kernel_rfl)) ?_
                  refine (cut_any _ (l ++ [S]) _ (sets_of_row (OwnT.row RT (by simp; have := hA0.1; omega)) (allSt_append (hA0.on (below_none D)) ⟨rfl, fun i hi => by
                      rw [List.length_singleton] at hi
                      obtain rfl : i = 0 := by omega
                      exact (show SetAt _ (SC.val ⟨S.absent, ai, S.ints.length, ci, S.co, az, S.strs.length, cz⟩) S from ⟨_, _, rfl, hI.on (below_none D), hT.on (below_none D)⟩)⟩)) hfc').mono ?_
                  rintro r v14 (⟨⟨u, rfl, HC2⟩, kb⟩)
                  replace D := grown_below D kb
                  replace HE := HE.on kb
                  replace G1 := heap_on G1 kb
                  replace G4 := heap_on G4 kb
                  replace D2 := grown_below D2 kb
                  replace D4 := grown_below D4 kb
                  replace RT := OwnT.on RT kb
                  clear kb
                  obtain ⟨a6, cap6, rfl⟩ : ∃ a6 cap6, u = .slice a6 (cutL (l ++ [S])).length cap6 := by
                    obtain ⟨q, e1, e2⟩ := HC2.form
                    exact ⟨q.p, q.c, by rw [e1]; unfold Sl.val; rw [e2]⟩
                  have HSB := HC2.sets (Kept.refl _ _)
                  clear HC2 RT
                  have D3 : v14.grownBy v14 none := grown_refl _ _
                  refine Or.inl ⟨.slice a6 (cutL (l ++ [S])).length cap6, rfl, ⟨fun _ _ => G1, ?_⟩⟩
                  simp only [Act.put, lzA, lzB, lzC]
                  refine wpAnyL_pure (i := 7) (oi := ⟨_, _, _, _, _, _⟩) (v := .slice a6 (cutL (l ++ [S])).length cap6) rfl (by kernel_rfl) (by kernel_rfl) (by kernel_rfl) (fun _ _ _ h => h) (yl_assign (by rfl) _ rfl _ rfl) ?_
                  simp only [Act.put, lzA, lzB, lzC]
                  refine wpAnyL_done (by kernel_rfl) ?_ _
                  refine hK5 _ _ ?_
                  clear hK5 K5
                  refine wp_seq_k (fun K6 hK6 => ?_)
                  refine wp_seq_k (fun K7 hK7 => ?_)
                  refine wp_region_lit ?_
                  refine wl_yield (o := ⟨_, _, _, _, _, _⟩) (.slice a6 (cutL (l ++ [S])).length cap6) (yl_move (by rfl) _ rfl _ rfl) ?_
                  simp only [Act.put, lzA, lzB, lzC]
                  refine wl_yield (o := ⟨_, _, _, _, _, _⟩) (.int .i64 ((cutL (l ++ [S])).length : Nat)) (yt_lenQ (by rfl) _ rfl a6 (cutL (l ++ [S])).length cap6 rfl) ?_
                  simp only [Act.put, lzA, lzB, lzC]
                  refine wl_yield (o := ⟨_, _, _, _, _, _⟩) (.int .i64 0) (yl_move (by rfl) _ rfl _ rfl) ?_
                  simp only [Act.put, lzA, lzB, lzC]
                  refine wpList_nil ?_
                  refine hK7 _ _ ?_
                  clear hK7 K7
                  refine wp_block ?_
                  have hmost2 := cutL_most hfc'
                  have hfit2 := fit_cut hil' hfc'
                  have hsm : ∀ j, j < (cutL (l ++ [S])).length → ∃ q, sampleV ((cutL (l ++ [S])).getD j noSet) = some q := fun j hj => cell_sample (cut_of hil') hj
                  have hml := more_len l S
                  go_loopw [44] (fun i wr => ∃ (k : Nat), i = .int .i64 ((k : Nat) : Int) ∧ k ≤ (cutL (l ++ [S])).length ∧ Env wr ∧ v8.grownBy wr none ∧ v14.grownBy wr none ∧ w.grownBy wr none) (fun i _ => (cutL (l ++ [S])).length - (intOf i).toNat)
                  case atStart => exact ⟨0, rfl, Nat.zero_le _, HE, D2, D3, D⟩
                  case round =>
                    clear D D2 D3 HE
                    obtain ⟨k, rfl, hk, HE, D2, D3, D⟩ := hrel
                    by_cases hlt : k < (cutL (l ++ [S])).length
                    · obtain ⟨q, hq⟩ := hsm k hlt
                      have hfk := hfit2 _ (gD_mem (d := noSet) hlt)
                      have hqh := sample_has hq (by have := hfk.ns; omega)
                      obtain ⟨hwJ, hinP⟩ := more_in hil hil' hfc' hlt hq
                      have hwi : whichI (cutL l) q = ((whichN (cutL l) q : Nat) : Int) := by unfold whichI; rw [if_pos hwJ]
                      generalize hJ : whichN (cutL l) q = J at hwJ hinP hwi
                      obtain ⟨gI, oI, vi, vs, rfl, hg1, C0, C1, C2, C3, hI9, hT9⟩ := HSB.at.2 k hlt
                      obtain ⟨gA, oA, vi', vs', rfl, hgA, A0, A1, A2, A3, hIA, hTA⟩ := HS.at.2 J hwJ
                      have cellD := fun (W : World) (D : v14.grownBy W none) (j : Nat) => (below_none D).cell (p := ⟨gI, j, none⟩) hg1
                      have cellA := fun (W : World) (D : v8.grownBy W none) (j : Nat) => (below_none D).cell (p := ⟨gA, j, none⟩) hgA
                      obtain ⟨ai', ci', rfl⟩ := hI9.form
                      obtain ⟨az', cz', rfl⟩ := hT9.form
                      obtain ⟨bi', di', rfl⟩ := hIA.form
                      obtain ⟨bz', dz', rfl⟩ := hTA.form
                      have hfJ := hfit _ (gD_mem (d := noSet) hwJ)
                      have hqm := hasP_max hqh
                      generalize hX : (cutL (l ++ [S])).getD k noSet = Y9 at C0 C1 C2 C3 hI9 hT9 hq hqh hfk hinP
                      generalize hZ : (cutL l).getD J noSet = Z9 at A0 A1 A2 A3 hIA hTA hinP hfJ
                      refine wp_seq_k (fun K8 hK8 => ?_)
                      refine wp_region_lit ?_
                      refine wl_yield (o := ⟨_, _, _, _, _, _⟩) (.bool true) (yt_lssI (by rfl) _ _ _ rfl ((k : Nat) : Int) (((cutL (l ++ [S])).length : Nat) : Int) true rfl rfl (decide_eq_true (by omega))) ?_
                      simp only [Act.put, lzA, lzB, lzC]
                      refine wpList_nil ?_
                      refine hK8 _ _ ?_
                      clear hK8 K8
                      refine wp_seq_k (fun K9 hK9 => ?_)
                      refine wp_cond_true rfl ?_
                      refine wp_skip ?_
                      refine hK9 _ _ ?_
                      clear hK9 K9
                      refine wp_seq_k (fun K10 hK10 => ?_)
                      refine wp_block ?_
                      refine wp_seq_k (fun K11 hK11 => ?_)
                      refine wp_region_lit ?_
                      refine wl_yield (o := ⟨_, _, _, _, _, _⟩) (.pointer (some ⟨gI, oI + k * 4, none⟩)) (yt_atQ (by rfl) _ _ rfl gI oI _ _ k rfl rfl (hlt)) ?_
                      simp only [Act.put, lzA, lzB, lzC]
                      refine wl_yield (o := ⟨_, _, _, _, _, _⟩) (.agg #[.bool (Y9.absent), .slice ai' Y9.ints.length ci', .bool (Y9.co), .slice az' Y9.strs.length cz']) (yl_set (by rfl) _ rfl _ _ rfl _ _ _ _ (fun _ h => by subst h; exact ⟨(cellD _ D3 _).trans C0, (cellD _ D3 _).trans C1, (cellD _ D3 _).trans C2, (cellD _ D3 _).trans C3⟩)) ?_
                      simp only [Act.put, lzA, lzB, lzC]
                      refine wt_allocSt (o := ⟨_, _, _, _, _, _⟩) (by rfl) rfl (fun v15 g15 hg G15 kb => ?_)
                      simp only [Act.put, lzA, lzB, lzC]
                      have ge_g15 : w.heap.size ≤ g15 := Nat.le_trans D.size hg
                      have ge_D2_g15 : v8.heap.size ≤ g15 := Nat.le_trans D2.size hg
                      have ge_D3_g15 : v14.heap.size ≤ g15 := Nat.le_trans D3.size hg
                      have six_g15 : 2 ≤ g15 := Nat.le_trans w6 ge_g15
                      clear hg
                      replace D := grown_below D kb
                      replace HE := HE.on kb
                      replace D2 := grown_below D2 kb
                      replace D3 := grown_below D3 kb
                      clear kb
                      replace G15 : v15.heap[g15]? = some (.cells #[.bool false, .slice none 0 0, .bool false, .slice none 0 0] 26 (0, 0)) := G15
                      refine wt_putSt (o := ⟨_, _, _, _, _, _⟩) rfl _ _ rfl _ rfl (⟨Y9.absent, ai', Y9.ints.length, ci', Y9.co, az', Y9.strs.length, cz'⟩) rfl G15 rfl (fun v16 X kg => ?_)
                      simp only [Act.put, lzA, lzB, lzC]
                      replace D := gr_new D ge_g15 kg
                      replace HE := Env.gr HE kg six_g15
                      replace D2 := gr_new D2 ge_D2_g15 kg
                      replace D3 := gr_new D3 ge_D3_g15 kg
                      clear kg
                      replace G15 : v16.heap[g15]? = some (.cells #[.bool (Y9.absent), .slice ai' Y9.ints.length ci', .bool (Y9.co), .slice az' Y9.strs.length cz'] 26 (0, 0)) := X
                      clear X
                      refine wpList_nil ?_
                      refine hK11 _ _ ?_
                      clear hK11 K11
                      refine wp_seq_k (fun K12 hK12 => ?_)
                      refine wp_region_lit ?_
                      refine wl_yield (o := ⟨_, _, _, _, _, _⟩) (.agg #[.bool (Y9.absent), .slice ai' Y9.ints.length ci', .bool (Y9.co), .slice az' Y9.strs.length cz']) (yl_set (by rfl) _ rfl _ 0 rfl _ _ _ _ (fun _ h => by subst h; exact ⟨cell_heap G15 0, cell_heap G15 1, cell_heap G15 2, cell_heap G15 3⟩)) ?_
                      simp only [Act.put, lzA, lzB, lzC]
                      refine wt_call (o := ⟨_, _, _, _, _, _⟩) (by rfl) 25 _ _ rfl #[.agg #[.bool (Y9.absent), .slice ai' Y9.ints.length ci', .bool (Y9.co), .slice az' Y9.strs.length cz']] rfl (run_call Tryz.func25 (by kernel_rfl) (by kernel_rfl)) ?_
                      refine (sample_any _ Y9 _ HE (show SetAt _ (SC.val ⟨Y9.absent, ai', Y9.ints.length, ci', Y9.co, az', Y9.strs.length, cz'⟩) Y9 from ⟨_, _, rfl, hI9.on (below_none D3), hT9.on (below_none D3)⟩) (fun _ => hfk)).mono ?_
                      rintro r v17 (⟨rfl, kb⟩)
                      · replace D := grown_below D kb
                        replace HE := HE.on kb
                        replace D2 := grown_below D2 kb
                        replace D3 := grown_below D3 kb
                        replace G15 := heap_on G15 kb
                        clear kb
                        refine Or.inl ⟨.tuple #[vVal q, .bool true], by rw [hq]; rfl, ?_⟩
                        simp only [Act.put, lzA, lzB, lzC]
                        refine wl_yield (o := ⟨_, _, _, _, _, _⟩) (.tuple #[vVal q, .bool true]) (yl_move (by rfl) _ rfl _ rfl) ?_
                        simp only [Act.put, lzA, lzB, lzC]
                        refine wl_yield (o := ⟨_, _, _, _, _, _⟩) (vVal q) (yl_extract0 (by rfl) _ rfl _ _ rfl) ?_
                        simp only [Act.put, lzA, lzB, lzC]
                        refine wl_yield (o := ⟨_, _, _, _, _, _⟩) (.bool true) (yl_extract1 (by rfl) _ rfl _ _ rfl) ?_
                        simp only [Act.put, lzA, lzB, lzC]
                        refine wt_allocVa (o := ⟨_, _, _, _, _, _⟩) (by rfl) rfl (fun v18 g18 hg G18 kb => ?_)
                        simp only [Act.put, lzA, lzB, lzC]
                        have n_g15_g18 : g15 ≠ g18 := by have := lt_heap G15; omega
                        have ge_g18 : w.heap.size ≤ g18 := Nat.le_trans D.size hg
                        have ge_D2_g18 : v8.heap.size ≤ g18 := Nat.le_trans D2.size hg
                        have ge_D3_g18 : v14.heap.size ≤ g18 := Nat.le_trans D3.size hg
                        have six_g18 : 2 ≤ g18 := Nat.le_trans w6 ge_g18
                        clear hg
                        replace D := grown_below D kb
                        replace HE := HE.on kb
                        replace D2 := grown_below D2 kb
                        replace D3 := grown_below D3 kb
                        replace G15 := heap_on G15 kb
                        clear kb
                        replace G18 : v18.heap[g18]? = some (.cells #[.int .i64 0, .int .i64 0, .string (bs ([]))] 48 (0, 0)) := G18
                        refine wt_putVa (o := ⟨_, _, _, _, _, _⟩) rfl _ _ rfl _ rfl (q) rfl G18 rfl (fun v19 X kg => ?_)
                        simp only [Act.put, lzA, lzB, lzC]
                        replace D := gr_new D ge_g18 kg
                        replace HE := Env.gr HE kg six_g18
                        replace D2 := gr_new D2 ge_D2_g18 kg
                        replace D3 := gr_new D3 ge_D3_g18 kg
                        replace G15 := heap_gr G15 kg n_g15_g18
                        clear kg
                        replace G18 : v19.heap[g18]? = some (.cells #[.int .i64 (q.1), .int .i64 (q.2.1), .string q.2.2] 48 (0, 0)) := X
                        clear X
                        refine wl_yield (o := ⟨_, _, _, _, _, _⟩) (.bool true) (yl_assign (by rfl) _ rfl _ rfl) ?_
                        simp only [Act.put, lzA, lzB, lzC]
                        refine wpList_nil ?_
                        refine hK12 _ _ ?_
                        clear hK12 K12
                        refine wp_seq_k (fun K13 hK13 => ?_)
                        refine wp_region_lit ?_
                        refine wl_yield (o := ⟨_, _, _, _, _, _⟩) (.slice (some ⟨gA, oA, none⟩) (cutL l).length cap5) (yl_move (by rfl) _ rfl _ rfl) ?_
                        simp only [Act.put, lzA, lzB, lzC]
                        refine wl_yield (o := ⟨_, _, _, _, _, _⟩) (vVal q) (yl_val (by rfl) _ rfl _ 0 rfl _ _ _ (fun _ h => by subst h; exact ⟨cell_heap G18 0, cell_heap G18 1, cell_heap G18 2⟩)) ?_
                        simp only [Act.put, lzA, lzB, lzC]
                        refine wt_call (o := ⟨_, _, _, _, _, _⟩) (by rfl) 27 _ _ rfl #[.slice (some ⟨gA, oA, none⟩) (cutL l).length cap5, vVal q] rfl (run_call Tryz.func27 (by kernel_rfl) (by kernel_rfl)) ?_
                        refine (which_any _ (cutL l) q _ (HS.on (below_none D2)) hfit hqm).mono ?_
                        rintro r v20 (⟨rfl, kb⟩)
                        · replace D := grown_below D kb
                          replace HE := HE.on kb
                          replace D2 := grown_below D2 kb
                          replace D3 := grown_below D3 kb
                          replace G15 := heap_on G15 kb
                          replace G18 := heap_on G18 kb
                          clear kb
                          refine Or.inl ⟨.int .i64 (J : Nat), ret_int hwi, ?_⟩
                          simp only [Act.put, lzA, lzB, lzC]
                          refine wl_yield (o := ⟨_, _, _, _, _, _⟩) (.int .i64 (J : Nat)) (yl_assign (by rfl) _ rfl _ rfl) ?_
                          simp only [Act.put, lzA, lzB, lzC]
                          refine wpList_nil ?_
                          refine hK13 _ _ ?_
                          clear hK13 K13
                          refine wp_seq_k (fun K14 hK14 => ?_)
                          refine wp_region_late (S := fun w' => w'.heap[g15]? = some (.cells #[.bool (Y9.absent), .slice ai' Y9.ints.length ci', .bool (Y9.co), .slice az' Y9.strs.length cz'] 26 (0, 0)) ∧ w'.cell? ⟨gA, oA + J * 4, none⟩ = some (.bool Z9.absent) ∧ w'.cell? ⟨gA, oA + J * 4 + 1, none⟩ = some (.slice bi' Z9.ints.length di') ∧ w'.cell? ⟨gA, oA + J * 4 + 2, none⟩ = some (.bool Z9.co) ∧ w'.cell? ⟨gA, oA + J * 4 + 3, none⟩ = some (.slice bz' Z9.strs.length dz')) (late := fun j => [].contains j) (by kernel_rfl) ?_
                          have kb : Below v20.heap.size v20 v20.drew := (Below.refl _ v20).drew
                          replace D := grown_below D kb
                          replace HE := HE.on kb
                          replace D2 := grown_below D2 kb
                          replace D3 := grown_below D3 kb
                          replace G15 := heap_on G15 kb
                          replace G18 := heap_on G18 kb
                          clear kb
                          generalize v20.drew = v21 at D HE D2 D3 G15 G18 ⊢
                          refine wpAnyL_pure (i := 0) (oi := ⟨_, _, _, _, _, _⟩) (v := .int .i64 (J : Nat)) rfl (by kernel_rfl) (by kernel_rfl) (by kernel_rfl) (fun _ _ _ h => h) (yl_move (by rfl) _ rfl _ rfl) ?_
                          simp only [Act.put, lzA, lzB, lzC]
                          refine wpAnyL_pure (i := 1) (oi := ⟨_, _, _, _, _, _⟩) (v := .bool false) rfl (by kernel_rfl) (by kernel_rfl) (by kernel_rfl) (fun _ _ _ h => h) (yt_lssI (by rfl) _ _ _ rfl ((J : Nat) : Int) 0 false rfl rfl (decide_eq_false (by omega))) ?_
                          simp only [Act.put, lzA, lzB, lzC]
                          refine wpAnyL_pure (i := 2) (oi := ⟨_, _, _, _, _, _⟩) (v := .bool false) rfl (by kernel_rfl) (by kernel_rfl) (by kernel_rfl) (fun _ _ _ h => h) (yl_move (by rfl) _ rfl _ rfl) ?_
                          simp only [Act.put, lzA, lzB, lzC]
                          refine wpAnyL_load (i := 3) (oi := ⟨_, _, _, _, _, _⟩) (v := .agg #[.bool (Y9.absent), .slice ai' Y9.ints.length ci', .bool (Y9.co), .slice az' Y9.strs.length cz']) rfl (by kernel_rfl) (by kernel_rfl) (by kernel_rfl) (by kernel_rfl) (fun _ _ _ h => h) (yl_set (by rfl) _ rfl _ 0 rfl _ _ _ _ (fun _ h => ⟨cell_heap h.1 0, cell_heap h.1 1, cell_heap h.1 2, cell_heap h.1 3⟩)) ⟨G15, ⟨(cellA _ D2 _).trans A0, (cellA _ D2 _).trans A1, (cellA _ D2 _).trans A2, (cellA _ D2 _).trans A3⟩⟩ ?_
                          simp only [Act.put, lzA, lzB, lzC]
                          refine wpAnyL_pure (i := 4) (oi := ⟨_, _, _, _, _, _⟩) (v := .slice (some ⟨gA, oA, none⟩) (cutL l).length cap5) rfl (by kernel_rfl) (by kernel_rfl) (by kernel_rfl) (fun _ _ _ h => h) (yl_move (by rfl) _ rfl _ rfl) ?_
                          simp only [Act.put, lzA, lzB, lzC]
                          refine wpAnyL_pure (i := 5) (oi := ⟨_, _, _, _, _, _⟩) (v := .int .i64 (J : Nat)) rfl (by kernel_rfl) (by kernel_rfl) (by kernel_rfl) (fun _ _ _ h => h) (yl_move (by rfl) _ rfl _ rfl) ?_
                          simp only [Act.put, lzA, lzB, lzC]
                          refine wpAnyL_pure (i := 6) (oi := ⟨_, _, _, _, _, _⟩) (v := .pointer (some ⟨gA, oA + J * 4, none⟩)) rfl (by kernel_rfl) (by kernel_rfl) (by kernel_rfl) (fun _ _ _ h => h) (yt_atQ (by rfl) _ _ rfl gA oA _ _ J rfl rfl (hwJ)) ?_
                          simp only [Act.put, lzA, lzB, lzC]
                          refine wpAnyL_load (i := 7) (oi := ⟨_, _, _, _, _, _⟩) (v := .agg #[.bool (Z9.absent), .slice bi' Z9.ints.length di', .bool (Z9.co), .slice bz' Z9.strs.length dz']) rfl (by kernel_rfl) (by kernel_rfl) (by kernel_rfl) (by kernel_rfl) (fun _ _ _ h => h) (yl_set (by rfl) _ rfl _ _ rfl _ _ _ _ (fun _ h => h.2)) ⟨G15, ⟨(cellA _ D2 _).trans A0, (cellA _ D2 _).trans A1, (cellA _ D2 _).trans A2, (cellA _ D2 _).trans A3⟩⟩ ?_
                          simp only [Act.put, lzA, lzB, lzC]
                          refine wpAnyL_all (rs := [8]) (by kernel_rfl) (by simp) ?_
                          intro j hj
                          have hj := List.mem_singleton.1 hj
                          subst hj
                          refine ot_call (o := ⟨_, _, _, _, _, _⟩) rfl (by rfl) 39 _ _ rfl #[.agg #[.bool (Y9.absent), .slice ai' Y9.ints.length ci', .bool (Y9.co), .slice az' Y9.strs.length cz'], .agg #[.bool (Z9.absent), .slice bi' Z9.ints.length di', .bool (Z9.co), .slice bz' Z9.strs.length dz']] rfl (run_call Tryz.func39 (by kernel_rfl) (by kernel_rfl)) ?_
                          refine (refIn_any _ _ Y9 Z9 _ (show SetAt _ (SC.val ⟨Y9.absent, ai', Y9.ints.length, ci', Y9.co, az', Y9.strs.length, cz'⟩) Y9 from ⟨_, _, rfl, hI9.on (below_none D3), hT9.on (below_none D3)⟩) (show SetAt _ (SC.val ⟨Z9.absent, bi', Z9.ints.length, di', Z9.co, bz', Z9.strs.length, dz'⟩) Z9 from ⟨_, _, rfl, hIA.on (below_none D2), hTA.on (below_none D2)⟩) ⟨hfk.ni, hfk.ns⟩ ⟨hfJ.ni, hfJ.ns⟩).mono ?_
                          rintro r v22 (⟨⟨t9, -, rfl⟩, kb⟩)
                          replace D := grown_below D kb
                          replace HE := HE.on kb
                          replace D2 := grown_below D2 kb
                          replace D3 := grown_below D3 kb
                          replace G15 := heap_on G15 kb
                          replace G18 := heap_on G18 kb
                          clear kb
                          refine Or.inl ⟨.bool true, ret_bool (in_of hinP _), ⟨fun _ _ => ⟨G15, ⟨(cellA _ D2 _).trans A0, (cellA _ D2 _).trans A1, (cellA _ D2 _).trans A2, (cellA _ D2 _).trans A3⟩⟩, ?_⟩⟩
                          simp only [Act.put, lzA, lzB, lzC]
                          refine wpAnyL_pure (i := 9) (oi := ⟨_, _, _, _, _, _⟩) (v := .bool false) rfl (by kernel_rfl) (by kernel_rfl) (by kernel_rfl) (fun _ _ _ h => h) (yl_not (by rfl) _ _ rfl true rfl) ?_
                          simp only [Act.put, lzA, lzB, lzC]
                          refine wpAnyL_pure (i := 10) (oi := ⟨_, _, _, _, _, _⟩) (v := .bool false) rfl (by kernel_rfl) (by kernel_rfl) (by kernel_rfl) (fun _ _ _ h => h) (yl_pickF (by rfl) _ _ _ rfl rfl _ rfl) ?_
                          simp only [Act.put, lzA, lzB, lzC]
                          refine wpAnyL_done (by kernel_rfl) ?_ _
                          refine hK14 _ _ ?_
                          clear hK14 K14
                          refine wp_cond_false rfl ?_
                          refine wp_skip ?_
                          refine hK10 _ _ ?_
                          clear hK10 K10
                          refine wp_region_lit ?_
                          refine wl_yield (o := ⟨_, _, _, _, _, _⟩) (.int .i64 (k + 1 : Nat)) (yt_addI (by rfl) _ _ _ rfl ((k : Nat) : Int) 1 ((k + 1 : Nat) : Int) rfl rfl (by omega) (by omega) (by omega)) ?_
                          simp only [Act.put, lzA, lzB, lzC]
                          refine wl_yield (o := ⟨_, _, _, _, _, _⟩) (.int .i64 (k + 1 : Nat)) (yl_move (by rfl) _ rfl _ rfl) ?_
                          simp only [Act.put, lzA, lzB, lzC]
                          refine wpList_nil ?_
                          show _ ∧ _
                          go_roundw
                          case rel => exact ⟨k + 1, rfl, by omega, HE, D2, D3, D⟩
                          case measure => simp [intOf]; omega
                    · obtain rfl : k = (cutL (l ++ [S])).length := by omega
                      refine wp_seq_k (fun K8 hK8 => ?_)
                      refine wp_region_lit ?_
                      refine wl_yield (o := ⟨_, _, _, _, _, _⟩) (.bool false) (yt_lssI (by rfl) _ _ _ rfl (((cutL (l ++ [S])).length : Nat) : Int) (((cutL (l ++ [S])).length : Nat) : Int) false rfl rfl (decide_eq_false (by omega))) ?_
                      simp only [Act.put, lzA, lzB, lzC]
                      refine wpList_nil ?_
                      refine hK8 _ _ ?_
                      clear hK8 K8
                      refine wp_seq_k (fun K9 hK9 => ?_)
                      refine wp_cond_false rfl ?_
                      refine wp_exit ?_
                      refine hK6 _ _ ?_
                      clear hK9 K9 hK6 K6
                      refine wp_seq_k (fun K10 hK10 => ?_)
                      refine wp_region_lit ?_
                      refine wl_yield (o := ⟨_, _, _, _, _, _⟩) (.slice a6 (cutL (l ++ [S])).length cap6) (yl_move (by rfl) _ rfl _ rfl) ?_
                      simp only [Act.put, lzA, lzB, lzC]
                      refine wl_yield (o := ⟨_, _, _, _, _, _⟩) (.int .i64 ((cutL (l ++ [S])).length : Nat)) (yt_lenQ (by rfl) _ rfl a6 (cutL (l ++ [S])).length cap6 rfl) ?_
                      simp only [Act.put, lzA, lzB, lzC]
                      refine wl_yield (o := ⟨_, _, _, _, _, _⟩) (.slice a5 (cutL l).length cap5) (yl_move (by rfl) _ rfl _ rfl) ?_
                      simp only [Act.put, lzA, lzB, lzC]
                      refine wl_yield (o := ⟨_, _, _, _, _, _⟩) (.int .i64 ((cutL l).length : Nat)) (yt_lenQ (by rfl) _ rfl a5 (cutL l).length cap5 rfl) ?_
                      simp only [Act.put, lzA, lzB, lzC]
                      refine wl_yield (o := ⟨_, _, _, _, _, _⟩) (.bool true) (yt_geqI (by rfl) _ _ _ rfl (((cutL (l ++ [S])).length : Nat) : Int) (((cutL l).length : Nat) : Int) true rfl rfl (decide_eq_true (by omega))) ?_
                      simp only [Act.put, lzA, lzB, lzC]
                      refine wl_yield (o := ⟨_, _, _, _, _, _⟩) (.bool true) (yl_assign (by rfl) _ rfl _ rfl) ?_
                      simp only [Act.put, lzA, lzB, lzC]
                      refine wpList_nil ?_
                      refine hK10 _ _ ?_
                      clear hK10 K10
                      refine wp_ret ?_
                      try simp only [Exit.inBlock, Exit.then]
                      go_ret
                      exact ⟨rfl, below_none D⟩
              · refine ot_row1Q (o := ⟨_, _, _, _, _, _⟩) rfl (by rfl) _ rfl ⟨S.absent, ai, S.ints.length, ci, S.co, az, S.strs.length, cz⟩ rfl (fun v10 g10 hg G10 kb => ?_)
                have n_g1_g10 : g1 ≠ g10 := by have := lt_heap G1; omega
                have n_g4_g10 : g4 ≠ g10 := by have := lt_heap G4; omega
                have ge_g10 : w.heap.size ≤ g10 := Nat.le_trans D.size hg
                have ge_D2_g10 : v8.heap.size ≤ g10 := Nat.le_trans D2.size hg
                have six_g10 : 2 ≤ g10 := Nat.le_trans w6 ge_g10
                clear hg
                replace D := grown_below D kb
                replace HE := HE.on kb
                replace G1 := heap_on G1 kb
                replace G4 := heap_on G4 kb
                replace D2 := grown_below D2 kb
                replace D4 := grown_below D4 kb
                clear kb
                refine ⟨fun _ _ => G1, ?_⟩
                simp only [Act.put, lzA, lzB, lzC]
                refine wpAnyL_all (rs := [0]) (by kernel_rfl) (by simp) ?_
                intro j hj
                have hj := List.mem_singleton.1 hj
                subst hj
                refine ot_row0Q (o := ⟨_, _, _, _, _, _⟩) rfl (by rfl) rfl (fun v11 g11 RT kb => ?_)
                have ne04 : g11 ≠ g10 := by
                  have h1 := (World.ownsRow.lt RT g11 rfl).1
                  have h2 := lt_heap G10
                  omega
                replace RT := OwnT.mono RT D4.size
                replace D := grown_below D kb
                replace HE := HE.on kb
                replace G1 := heap_on G1 kb
                replace G4 := heap_on G4 kb
                replace D2 := grown_below D2 kb
                replace D4 := grown_below D4 kb
                replace G10 := heap_on G10 kb
                clear kb
                refine ⟨fun _ _ => G1, ?_⟩
                simp only [Act.put, lzA, lzB, lzC]
                refine wpAnyL_all (rs := [2]) (by kernel_rfl) (by simp) ?_
                intro j hj
                have hj := List.mem_singleton.1 hj
                subst hj
                refine ot_appRowT (o := ⟨_, _, _, _, _, _⟩) rfl (by rfl) _ _ rfl v8.heap.size _ _ [] cs0 rfl RT rfl (hR0.on (below_none D)) hn0 (by simp; have := hA0.1; omega) D4.size (fun v12' v12 RT' kg => ?_)
                replace HE := HE.below HE0.big (OwnT.below (OwnT.mono RT m9) D.size kg)
                replace G1 := heap_gro G1 kg (fun e => by have := (World.ownsRow.lt RT _ e).1; omega)
                replace G4 := heap_gro G4 kg (fun e => by have := (World.ownsRow.lt RT _ e).1; omega)
                replace D2 := gr_own D2 (fun g hg => Nat.le_trans m29 (World.ownsRow.lt RT g hg).1) kg
                replace G10 := heap_gro G10 kg (fun e => ne04 (by cases e; rfl))
                replace D4 := gr_own D4 (fun g hg => (World.ownsRow.lt RT g hg).1) kg
                replace D := gr_own D (fun g hg => Nat.le_trans m9 (World.ownsRow.lt RT g hg).1) kg
                replace RT := RT'
                clear RT' kg
                rw [List.nil_append] at RT
                refine ⟨fun _ _ => G1, ?_⟩
                simp only [Act.put, lzA, lzB, lzC]
                refine wpAnyL_all (rs := [5]) (by kernel_rfl) (by simp) ?_
                intro j hj
                have hj := List.mem_singleton.1 hj
                subst hj
                refine ot_appRowT (o := ⟨_, _, _, _, _, _⟩) rfl (by rfl) _ _ rfl v8.heap.size _ _ cs0 [⟨S.absent, ai, S.ints.length, ci, S.co, az, S.strs.length, cz⟩] rfl RT rfl (OwnT.row (ownT_one (c := ⟨S.absent, ai, S.ints.length, ci, S.co, az, S.strs.length, cz⟩) G10 (Nat.le_refl _)) (by simp)) (OwnT.nilOkQ (ownT_one (c := ⟨S.absent, ai, S.ints.length, ci, S.co, az, S.strs.length, cz⟩) G10 (Nat.le_refl _))) (by simp; have := hA0.1; omega) D4.size (fun v13' v13 RT' kg => ?_)
                replace HE := HE.below HE0.big (OwnT.below (OwnT.mono RT m9) D.size kg)
                replace G1 := heap_gro G1 kg (fun e => by have := (World.ownsRow.lt RT _ e).1; omega)
                replace G4 := heap_gro G4 kg (fun e => by have := (World.ownsRow.lt RT _ e).1; omega)
                replace D2 := gr_own D2 (fun g hg => Nat.le_trans m29 (World.ownsRow.lt RT g hg).1) kg
                replace D4 := gr_own D4 (fun g hg => (World.ownsRow.lt RT g hg).1) kg
                replace D := gr_own D (fun g hg => Nat.le_trans m9 (World.ownsRow.lt RT g hg).1) kg
                replace RT := RT'
                clear RT' kg
                refine ⟨fun _ _ => G1, ?_⟩
                simp only [Act.put, lzA, lzB, lzC]
                refine wpAnyL_all (rs := [6]) (by kernel_rfl) (by simp) ?_
                intro j hj
                have hj := List.mem_singleton.1 hj
                subst hj
                refine ot_call (o := ⟨_, _, _, _, _, _⟩) rfl (by rfl) 18 _ _ rfl #[v13'] rfl (run_call Tryz.func18 (by kernel_rfl) (by kernel_rfl)) ?_
                refine (cut_any _ (l ++ [S]) _ (sets_of_row (OwnT.row RT (by simp; have := hA0.1; omega)) (allSt_append (hA0.on (below_none D)) ⟨rfl, fun i hi => by
                    rw [List.length_singleton] at hi
                    obtain rfl : i = 0 := by omega
                    exact (show SetAt _ (SC.val ⟨S.absent, ai, S.ints.length, ci, S.co, az, S.strs.length, cz⟩) S from ⟨_, _, rfl, hI.on (below_none D), hT.on (below_none D)⟩)⟩)) hfc').mono ?_
                rintro r v14 (⟨⟨u, rfl, HC2⟩, kb⟩)
                replace D := grown_below D kb
                replace HE := HE.on kb
                replace G1 := heap_on G1 kb
                replace G4 := heap_on G4 kb
                replace D2 := grown_below D2 kb
                replace D4 := grown_below D4 kb
                replace RT := OwnT.on RT kb
                clear kb
                obtain ⟨a6, cap6, rfl⟩ : ∃ a6 cap6, u = .slice a6 (cutL (l ++ [S])).length cap6 := by
                  obtain ⟨q, e1, e2⟩ := HC2.form
                  exact ⟨q.p, q.c, by rw [e1]; unfold Sl.val; rw [e2]⟩
                have HSB := HC2.sets (Kept.refl _ _)
                clear HC2 RT
                have D3 : v14.grownBy v14 none := grown_refl _ _
                refine Or.inl ⟨.slice a6 (cutL (l ++ [S])).length cap6, rfl, ⟨fun _ _ => G1, ?_⟩⟩
                simp only [Act.put, lzA, lzB, lzC]
                refine wpAnyL_pure (i := 7) (oi := ⟨_, _, _, _, _, _⟩) (v := .slice a6 (cutL (l ++ [S])).length cap6) rfl (by kernel_rfl) (by kernel_rfl) (by kernel_rfl) (fun _ _ _ h => h) (yl_assign (by rfl) _ rfl _ rfl) ?_
                simp only [Act.put, lzA, lzB, lzC]
                refine wpAnyL_done (by kernel_rfl) ?_ _
                refine hK5 _ _ ?_
                clear hK5 K5
                refine wp_seq_k (fun K6 hK6 => ?_)
                refine wp_seq_k (fun K7 hK7 => ?_)
                refine wp_region_lit ?_
                refine wl_yield (o := ⟨_, _, _, _, _, _⟩) (.slice a6 (cutL (l ++ [S])).length cap6) (yl_move (by rfl) _ rfl _ rfl) ?_
                simp only [Act.put, lzA, lzB, lzC]
                refine wl_yield (o := ⟨_, _, _, _, _, _⟩) (.int .i64 ((cutL (l ++ [S])).length : Nat)) (yt_lenQ (by rfl) _ rfl a6 (cutL (l ++ [S])).length cap6 rfl) ?_
                simp only [Act.put, lzA, lzB, lzC]
                refine wl_yield (o := ⟨_, _, _, _, _, _⟩) (.int .i64 0) (yl_move (by rfl) _ rfl _ rfl) ?_
                simp only [Act.put, lzA, lzB, lzC]
                refine wpList_nil ?_
                refine hK7 _ _ ?_
                clear hK7 K7
                refine wp_block ?_
                have hmost2 := cutL_most hfc'
                have hfit2 := fit_cut hil' hfc'
                have hsm : ∀ j, j < (cutL (l ++ [S])).length → ∃ q, sampleV ((cutL (l ++ [S])).getD j noSet) = some q := fun j hj => cell_sample (cut_of hil') hj
                have hml := more_len l S
                go_loopw [44] (fun i wr => ∃ (k : Nat), i = .int .i64 ((k : Nat) : Int) ∧ k ≤ (cutL (l ++ [S])).length ∧ Env wr ∧ v8.grownBy wr none ∧ v14.grownBy wr none ∧ w.grownBy wr none) (fun i _ => (cutL (l ++ [S])).length - (intOf i).toNat)
                case atStart => exact ⟨0, rfl, Nat.zero_le _, HE, D2, D3, D⟩
                case round =>
                  clear D D2 D3 HE
                  obtain ⟨k, rfl, hk, HE, D2, D3, D⟩ := hrel
                  by_cases hlt : k < (cutL (l ++ [S])).length
                  · obtain ⟨q, hq⟩ := hsm k hlt
                    have hfk := hfit2 _ (gD_mem (d := noSet) hlt)
                    have hqh := sample_has hq (by have := hfk.ns; omega)
                    obtain ⟨hwJ, hinP⟩ := more_in hil hil' hfc' hlt hq
                    have hwi : whichI (cutL l) q = ((whichN (cutL l) q : Nat) : Int) := by unfold whichI; rw [if_pos hwJ]
                    generalize hJ : whichN (cutL l) q = J at hwJ hinP hwi
                    obtain ⟨gI, oI, vi, vs, rfl, hg1, C0, C1, C2, C3, hI9, hT9⟩ := HSB.at.2 k hlt
                    obtain ⟨gA, oA, vi', vs', rfl, hgA, A0, A1, A2, A3, hIA, hTA⟩ := HS.at.2 J hwJ
                    have cellD := fun (W : World) (D : v14.grownBy W none) (j : Nat) => (below_none D).cell (p := ⟨gI, j, none⟩) hg1
                    have cellA := fun (W : World) (D : v8.grownBy W none) (j : Nat) => (below_none D).cell (p := ⟨gA, j, none⟩) hgA
                    obtain ⟨ai', ci', rfl⟩ := hI9.form
                    obtain ⟨az', cz', rfl⟩ := hT9.form
                    obtain ⟨bi', di', rfl⟩ := hIA.form
                    obtain ⟨bz', dz', rfl⟩ := hTA.form
                    have hfJ := hfit _ (gD_mem (d := noSet) hwJ)
                    have hqm := hasP_max hqh
                    generalize hX : (cutL (l ++ [S])).getD k noSet = Y9 at C0 C1 C2 C3 hI9 hT9 hq hqh hfk hinP
                    generalize hZ : (cutL l).getD J noSet = Z9 at A0 A1 A2 A3 hIA hTA hinP hfJ
                    refine wp_seq_k (fun K8 hK8 => ?_)
                    refine wp_region_lit ?_
                    refine wl_yield (o := ⟨_, _, _, _, _, _⟩) (.bool true) (yt_lssI (by rfl) _ _ _ rfl ((k : Nat) : Int) (((cutL (l ++ [S])).length : Nat) : Int) true rfl rfl (decide_eq_true (by omega))) ?_
                    simp only [Act.put, lzA, lzB, lzC]
                    refine wpList_nil ?_
                    refine hK8 _ _ ?_
                    clear hK8 K8
                    refine wp_seq_k (fun K9 hK9 => ?_)
                    refine wp_cond_true rfl ?_
                    refine wp_skip ?_
                    refine hK9 _ _ ?_
                    clear hK9 K9
                    refine wp_seq_k (fun K10 hK10 => ?_)
                    refine wp_block ?_
                    refine wp_seq_k (fun K11 hK11 => ?_)
                    refine wp_region_lit ?_
                    refine wl_yield (o := ⟨_, _, _, _, _, _⟩) (.pointer (some ⟨gI, oI + k * 4, none⟩)) (yt_atQ (by rfl) _ _ rfl gI oI _ _ k rfl rfl (hlt)) ?_
                    simp only [Act.put, lzA, lzB, lzC]
                    refine wl_yield (o := ⟨_, _, _, _, _, _⟩) (.agg #[.bool (Y9.absent), .slice ai' Y9.ints.length ci', .bool (Y9.co), .slice az' Y9.strs.length cz']) (yl_set (by rfl) _ rfl _ _ rfl _ _ _ _ (fun _ h => by subst h; exact ⟨(cellD _ D3 _).trans C0, (cellD _ D3 _).trans C1, (cellD _ D3 _).trans C2, (cellD _ D3 _).trans C3⟩)) ?_
                    simp only [Act.put, lzA, lzB, lzC]
                    refine wt_allocSt (o := ⟨_, _, _, _, _, _⟩) (by rfl) rfl (fun v15 g15 hg G15 kb => ?_)
                    simp only [Act.put, lzA, lzB, lzC]
                    have ge_g15 : w.heap.size ≤ g15 := Nat.le_trans D.size hg
                    have ge_D2_g15 : v8.heap.size ≤ g15 := Nat.le_trans D2.size hg
                    have ge_D3_g15 : v14.heap.size ≤ g15 := Nat.le_trans D3.size hg
                    have six_g15 : 2 ≤ g15 := Nat.le_trans w6 ge_g15
                    clear hg
                    replace D := grown_below D kb
                    replace HE := HE.on kb
                    replace D2 := grown_below D2 kb
                    replace D3 := grown_below D3 kb
                    clear kb
                    replace G15 : v15.heap[g15]? = some (.cells #[.bool false, .slice none 0 0, .bool false, .slice none 0 0] 26 (0, 0)) := G15
                    refine wt_putSt (o := ⟨_, _, _, _, _, _⟩) rfl _ _ rfl _ rfl (⟨Y9.absent, ai', Y9.ints.length, ci', Y9.co, az', Y9.strs.length, cz'⟩) rfl G15 rfl (fun v16 X kg => ?_)
                    simp only [Act.put, lzA, lzB, lzC]
                    replace D := gr_new D ge_g15 kg
                    replace HE := Env.gr HE kg six_g15
                    replace D2 := gr_new D2 ge_D2_g15 kg
                    replace D3 := gr_new D3 ge_D3_g15 kg
                    clear kg
                    replace G15 : v16.heap[g15]? = some (.cells #[.bool (Y9.absent), .slice ai' Y9.ints.length ci', .bool (Y9.co), .slice az' Y9.strs.length cz'] 26 (0, 0)) := X
                    clear X
                    refine wpList_nil ?_
                    refine hK11 _ _ ?_
                    clear hK11 K11
                    refine wp_seq_k (fun K12 hK12 => ?_)
                    refine wp_region_lit ?_
                    refine wl_yield (o := ⟨_, _, _, _, _, _⟩) (.agg #[.bool (Y9.absent), .slice ai' Y9.ints.length ci', .bool (Y9.co), .slice az' Y9.strs.length cz']) (yl_set (by rfl) _ rfl _ 0 rfl _ _ _ _ (fun _ h => by subst h; exact ⟨cell_heap G15 0, cell_heap G15 1, cell_heap G15 2, cell_heap G15 3⟩)) ?_
                    simp only [Act.put, lzA, lzB, lzC]
                    refine wt_call (o := ⟨_, _, _, _, _, _⟩) (by rfl) 25 _ _ rfl #[.agg #[.bool (Y9.absent), .slice ai' Y9.ints.length ci', .bool (Y9.co), .slice az' Y9.strs.length cz']] rfl (run_call Tryz.func25 (by kernel_rfl) (by kernel_rfl)) ?_
                    refine (sample_any _ Y9 _ HE (show SetAt _ (SC.val ⟨Y9.absent, ai', Y9.ints.length, ci', Y9.co, az', Y9.strs.length, cz'⟩) Y9 from ⟨_, _, rfl, hI9.on (below_none D3), hT9.on (below_none D3)⟩) (fun _ => hfk)).mono ?_
                    rintro r v17 (⟨rfl, kb⟩)
                    · replace D := grown_below D kb
                      replace HE := HE.on kb
                      replace D2 := grown_below D2 kb
                      replace D3 := grown_below D3 kb
                      replace G15 := heap_on G15 kb
                      clear kb
                      refine Or.inl ⟨.tuple #[vVal q, .bool true], by rw [hq]; rfl, ?_⟩
                      simp only [Act.put, lzA, lzB, lzC]
                      refine wl_yield (o := ⟨_, _, _, _, _, _⟩) (.tuple #[vVal q, .bool true]) (yl_move (by rfl) _ rfl _ rfl) ?_
                      simp only [Act.put, lzA, lzB, lzC]
                      refine wl_yield (o := ⟨_, _, _, _, _, _⟩) (vVal q) (yl_extract0 (by rfl) _ rfl _ _ rfl) ?_
                      simp only [Act.put, lzA, lzB, lzC]
                      refine wl_yield (o := ⟨_, _, _, _, _, _⟩) (.bool true) (yl_extract1 (by rfl) _ rfl _ _ rfl) ?_
                      simp only [Act.put, lzA, lzB, lzC]
                      refine wt_allocVa (o := ⟨_, _, _, _, _, _⟩) (by rfl) rfl (fun v18 g18 hg G18 kb => ?_)
                      simp only [Act.put, lzA, lzB, lzC]
                      have n_g15_g18 : g15 ≠ g18 := by have := lt_heap G15; omega
                      have ge_g18 : w.heap.size ≤ g18 := Nat.le_trans D.size hg
                      have ge_D2_g18 : v8.heap.size ≤ g18 := Nat.le_trans D2.size hg
                      have ge_D3_g18 : v14.heap.size ≤ g18 := Nat.le_trans D3.size hg
                      have six_g18 : 2 ≤ g18 := Nat.le_trans w6 ge_g18
                      clear hg
                      replace D := grown_below D kb
                      replace HE := HE.on kb
                      replace D2 := grown_below D2 kb
                      replace D3 := grown_below D3 kb
                      replace G15 := heap_on G15 kb
                      clear kb
                      replace G18 : v18.heap[g18]? = some (.cells #[.int .i64 0, .int .i64 0, .string (bs ([]))] 48 (0, 0)) := G18
                      refine wt_putVa (o := ⟨_, _, _, _, _, _⟩) rfl _ _ rfl _ rfl (q) rfl G18 rfl (fun v19 X kg => ?_)
                      simp only [Act.put, lzA, lzB, lzC]
                      replace D := gr_new D ge_g18 kg
                      replace HE := Env.gr HE kg six_g18
                      replace D2 := gr_new D2 ge_D2_g18 kg
                      replace D3 := gr_new D3 ge_D3_g18 kg
                      replace G15 := heap_gr G15 kg n_g15_g18
                      clear kg
                      replace G18 : v19.heap[g18]? = some (.cells #[.int .i64 (q.1), .int .i64 (q.2.1), .string q.2.2] 48 (0, 0)) := X
                      clear X
                      refine wl_yield (o := ⟨_, _, _, _, _, _⟩) (.bool true) (yl_assign (by rfl) _ rfl _ rfl) ?_
                      simp only [Act.put, lzA, lzB, lzC]
                      refine wpList_nil ?_
                      refine hK12 _ _ ?_
                      clear hK12 K12
                      refine wp_seq_k (fun K13 hK13 => ?_)
                      refine wp_region_lit ?_
                      refine wl_yield (o := ⟨_, _, _, _, _, _⟩) (.slice (some ⟨gA, oA, none⟩) (cutL l).length cap5) (yl_move (by rfl) _ rfl _ rfl) ?_
                      simp only [Act.put, lzA, lzB, lzC]
                      refine wl_yield (o := ⟨_, _, _, _, _, _⟩) (vVal q) (yl_val (by rfl) _ rfl _ 0 rfl _ _ _ (fun _ h => by subst h; exact ⟨cell_heap G18 0, cell_heap G18 1, cell_heap G18 2⟩)) ?_
                      simp only [Act.put, lzA, lzB, lzC]
                      refine wt_call (o := ⟨_, _, _, _, _, _⟩) (by rfl) 27 _ _ rfl #[.slice (some ⟨gA, oA, none⟩) (cutL l).length cap5, vVal q] rfl (run_call Tryz.func27 (by kernel_rfl) (by kernel_rfl)) ?_
                      refine (which_any _ (cutL l) q _ (HS.on (below_none D2)) hfit hqm).mono ?_
                      rintro r v20 (⟨rfl, kb⟩)
                      · replace D := grown_below D kb
                        replace HE := HE.on kb
                        replace D2 := grown_below D2 kb
                        replace D3 := grown_below D3 kb
                        replace G15 := heap_on G15 kb
                        replace G18 := heap_on G18 kb
                        clear kb
                        refine Or.inl ⟨.int .i64 (J : Nat), ret_int hwi, ?_⟩
                        simp only [Act.put, lzA, lzB, lzC]
                        refine wl_yield (o := ⟨_, _, _, _, _, _⟩) (.int .i64 (J : Nat)) (yl_assign (by rfl) _ rfl _ rfl) ?_
                        simp only [Act.put, lzA, lzB, lzC]
                        refine wpList_nil ?_
                        refine hK13 _ _ ?_
                        clear hK13 K13
                        refine wp_seq_k (fun K14 hK14 => ?_)
                        refine wp_region_late (S := fun w' => w'.heap[g15]? = some (.cells #[.bool (Y9.absent), .slice ai' Y9.ints.length ci', .bool (Y9.co), .slice az' Y9.strs.length cz'] 26 (0, 0)) ∧ w'.cell? ⟨gA, oA + J * 4, none⟩ = some (.bool Z9.absent) ∧ w'.cell? ⟨gA, oA + J * 4 + 1, none⟩ = some (.slice bi' Z9.ints.length di') ∧ w'.cell? ⟨gA, oA + J * 4 + 2, none⟩ = some (.bool Z9.co) ∧ w'.cell? ⟨gA, oA + J * 4 + 3, none⟩ = some (.slice bz' Z9.strs.length dz')) (late := fun j => [].contains j) (by kernel_rfl) ?_
                        have kb : Below v20.heap.size v20 v20.drew := (Below.refl _ v20).drew
                        replace D := grown_below D kb
                        replace HE := HE.on kb
                        replace D2 := grown_below D2 kb
                        replace D3 := grown_below D3 kb
                        replace G15 := heap_on G15 kb
                        replace G18 := heap_on G18 kb
                        clear kb
                        generalize v20.drew = v21 at D HE D2 D3 G15 G18 ⊢
                        refine wpAnyL_pure (i := 0) (oi := ⟨_, _, _, _, _, _⟩) (v := .int .i64 (J : Nat)) rfl (by kernel_rfl) (by kernel_rfl) (by kernel_rfl) (fun _ _ _ h => h) (yl_move (by rfl) _ rfl _ rfl) ?_
                        simp only [Act.put, lzA, lzB, lzC]
                        refine wpAnyL_pure (i := 1) (oi := ⟨_, _, _, _, _, _⟩) (v := .bool false) rfl (by kernel_rfl) (by kernel_rfl) (by kernel_rfl) (fun _ _ _ h => h) (yt_lssI (by rfl) _ _ _ rfl ((J : Nat) : Int) 0 false rfl rfl (decide_eq_false (by omega))) ?_
                        simp only [Act.put, lzA, lzB, lzC]
                        refine wpAnyL_pure (i := 2) (oi := ⟨_, _, _, _, _, _⟩) (v := .bool false) rfl (by kernel_rfl) (by kernel_rfl) (by kernel_rfl) (fun _ _ _ h => h) (yl_move (by rfl) _ rfl _ rfl) ?_
                        simp only [Act.put, lzA, lzB, lzC]
                        refine wpAnyL_load (i := 3) (oi := ⟨_, _, _, _, _, _⟩) (v := .agg #[.bool (Y9.absent), .slice ai' Y9.ints.length ci', .bool (Y9.co), .slice az' Y9.strs.length cz']) rfl (by kernel_rfl) (by kernel_rfl) (by kernel_rfl) (by kernel_rfl) (fun _ _ _ h => h) (yl_set (by rfl) _ rfl _ 0 rfl _ _ _ _ (fun _ h => ⟨cell_heap h.1 0, cell_heap h.1 1, cell_heap h.1 2, cell_heap h.1 3⟩)) ⟨G15, ⟨(cellA _ D2 _).trans A0, (cellA _ D2 _).trans A1, (cellA _ D2 _).trans A2, (cellA _ D2 _).trans A3⟩⟩ ?_
                        simp only [Act.put, lzA, lzB, lzC]
                        refine wpAnyL_pure (i := 4) (oi := ⟨_, _, _, _, _, _⟩) (v := .slice (some ⟨gA, oA, none⟩) (cutL l).length cap5) rfl (by kernel_rfl) (by kernel_rfl) (by kernel_rfl) (fun _ _ _ h => h) (yl_move (by rfl) _ rfl _ rfl) ?_
                        simp only [Act.put, lzA, lzB, lzC]
                        refine wpAnyL_pure (i := 5) (oi := ⟨_, _, _, _, _, _⟩) (v := .int .i64 (J : Nat)) rfl (by kernel_rfl) (by kernel_rfl) (by kernel_rfl) (fun _ _ _ h => h) (yl_move (by rfl) _ rfl _ rfl) ?_
                        simp only [Act.put, lzA, lzB, lzC]
                        refine wpAnyL_pure (i := 6) (oi := ⟨_, _, _, _, _, _⟩) (v := .pointer (some ⟨gA, oA + J * 4, none⟩)) rfl (by kernel_rfl) (by kernel_rfl) (by kernel_rfl) (fun _ _ _ h => h) (yt_atQ (by rfl) _ _ rfl gA oA _ _ J rfl rfl (hwJ)) ?_
                        simp only [Act.put, lzA, lzB, lzC]
                        refine wpAnyL_load (i := 7) (oi := ⟨_, _, _, _, _, _⟩) (v := .agg #[.bool (Z9.absent), .slice bi' Z9.ints.length di', .bool (Z9.co), .slice bz' Z9.strs.length dz']) rfl (by kernel_rfl) (by kernel_rfl) (by kernel_rfl) (by kernel_rfl) (fun _ _ _ h => h) (yl_set (by rfl) _ rfl _ _ rfl _ _ _ _ (fun _ h => h.2)) ⟨G15, ⟨(cellA _ D2 _).trans A0, (cellA _ D2 _).trans A1, (cellA _ D2 _).trans A2, (cellA _ D2 _).trans A3⟩⟩ ?_
                        simp only [Act.put, lzA, lzB, lzC]
                        refine wpAnyL_all (rs := [8]) (by kernel_rfl) (by simp) ?_
                        intro j hj
                        have hj := List.mem_singleton.1 hj
                        subst hj
                        refine ot_call (o := ⟨_, _, _, _, _, _⟩) rfl (by rfl) 39 _ _ rfl #[.agg #[.bool (Y9.absent), .slice ai' Y9.ints.length ci', .bool (Y9.co), .slice az' Y9.strs.length cz'], .agg #[.bool (Z9.absent), .slice bi' Z9.ints.length di', .bool (Z9.co), .slice bz' Z9.strs.length dz']] rfl (run_call Tryz.func39 (by kernel_rfl) (by kernel_rfl)) ?_
                        refine (refIn_any _ _ Y9 Z9 _ (show SetAt _ (SC.val ⟨Y9.absent, ai', Y9.ints.length, ci', Y9.co, az', Y9.strs.length, cz'⟩) Y9 from ⟨_, _, rfl, hI9.on (below_none D3), hT9.on (below_none D3)⟩) (show SetAt _ (SC.val ⟨Z9.absent, bi', Z9.ints.length, di', Z9.co, bz', Z9.strs.length, dz'⟩) Z9 from ⟨_, _, rfl, hIA.on (below_none D2), hTA.on (below_none D2)⟩) ⟨hfk.ni, hfk.ns⟩ ⟨hfJ.ni, hfJ.ns⟩).mono ?_
                        rintro r v22 (⟨⟨t9, -, rfl⟩, kb⟩)
                        replace D := grown_below D kb
                        replace HE := HE.on kb
                        replace D2 := grown_below D2 kb
                        replace D3 := grown_below D3 kb
                        replace G15 := heap_on G15 kb
                        replace G18 := heap_on G18 kb
                        clear kb
                        refine Or.inl ⟨.bool true, ret_bool (in_of hinP _), ⟨fun _ _ => ⟨G15, ⟨(cellA _ D2 _).trans A0, (cellA _ D2 _).trans A1, (cellA _ D2 _).trans A2, (cellA _ D2 _).trans A3⟩⟩, ?_⟩⟩
                        simp only [Act.put, lzA, lzB, lzC]
                        refine wpAnyL_pure (i := 9) (oi := ⟨_, _, _, _, _, _⟩) (v := .bool false) rfl (by kernel_rfl) (by kernel_rfl) (by kernel_rfl) (fun _ _ _ h => h) (yl_not (by rfl) _ _ rfl true rfl) ?_
                        simp only [Act.put, lzA, lzB, lzC]
                        refine wpAnyL_pure (i := 10) (oi := ⟨_, _, _, _, _, _⟩) (v := .bool false) rfl (by kernel_rfl) (by kernel_rfl) (by kernel_rfl) (fun _ _ _ h => h) (yl_pickF (by rfl) _ _ _ rfl rfl _ rfl) ?_
                        simp only [Act.put, lzA, lzB, lzC]
                        refine wpAnyL_done (by kernel_rfl) ?_ _
                        refine hK14 _ _ ?_
                        clear hK14 K14
                        refine wp_cond_false rfl ?_
                        refine wp_skip ?_
                        refine hK10 _ _ ?_
                        clear hK10 K10
                        refine wp_region_lit ?_
                        refine wl_yield (o := ⟨_, _, _, _, _, _⟩) (.int .i64 (k + 1 : Nat)) (yt_addI (by rfl) _ _ _ rfl ((k : Nat) : Int) 1 ((k + 1 : Nat) : Int) rfl rfl (by omega) (by omega) (by omega)) ?_
                        simp only [Act.put, lzA, lzB, lzC]
                        refine wl_yield (o := ⟨_, _, _, _, _, _⟩) (.int .i64 (k + 1 : Nat)) (yl_move (by rfl) _ rfl _ rfl) ?_
                        simp only [Act.put, lzA, lzB, lzC]
                        refine wpList_nil ?_
                        show _ ∧ _
                        go_roundw
                        case rel => exact ⟨k + 1, rfl, by omega, HE, D2, D3, D⟩
                        case measure => simp [intOf]; omega
                  · obtain rfl : k = (cutL (l ++ [S])).length := by omega
                    refine wp_seq_k (fun K8 hK8 => ?_)
                    refine wp_region_lit ?_
                    refine wl_yield (o := ⟨_, _, _, _, _, _⟩) (.bool false) (yt_lssI (by rfl) _ _ _ rfl (((cutL (l ++ [S])).length : Nat) : Int) (((cutL (l ++ [S])).length : Nat) : Int) false rfl rfl (decide_eq_false (by omega))) ?_
                    simp only [Act.put, lzA, lzB, lzC]
                    refine wpList_nil ?_
                    refine hK8 _ _ ?_
                    clear hK8 K8
                    refine wp_seq_k (fun K9 hK9 => ?_)
                    refine wp_cond_false rfl ?_
                    refine wp_exit ?_
                    refine hK6 _ _ ?_
                    clear hK9 K9 hK6 K6
                    refine wp_seq_k (fun K10 hK10 => ?_)
                    refine wp_region_lit ?_
                    refine wl_yield (o := ⟨_, _, _, _, _, _⟩) (.slice a6 (cutL (l ++ [S])).length cap6) (yl_move (by rfl) _ rfl _ rfl) ?_
                    simp only [Act.put, lzA, lzB, lzC]
                    refine wl_yield (o := ⟨_, _, _, _, _, _⟩) (.int .i64 ((cutL (l ++ [S])).length : Nat)) (yt_lenQ (by rfl) _ rfl a6 (cutL (l ++ [S])).length cap6 rfl) ?_
                    simp only [Act.put, lzA, lzB, lzC]
                    refine wl_yield (o := ⟨_, _, _, _, _, _⟩) (.slice a5 (cutL l).length cap5) (yl_move (by rfl) _ rfl _ rfl) ?_
                    simp only [Act.put, lzA, lzB, lzC]
                    refine wl_yield (o := ⟨_, _, _, _, _, _⟩) (.int .i64 ((cutL l).length : Nat)) (yt_lenQ (by rfl) _ rfl a5 (cutL l).length cap5 rfl) ?_
                    simp only [Act.put, lzA, lzB, lzC]
                    refine wl_yield (o := ⟨_, _, _, _, _, _⟩) (.bool true) (yt_geqI (by rfl) _ _ _ rfl (((cutL (l ++ [S])).length : Nat) : Int) (((cutL l).length : Nat) : Int) true rfl rfl (decide_eq_true (by omega))) ?_
                    simp only [Act.put, lzA, lzB, lzC]
                    refine wl_yield (o := ⟨_, _, _, _, _, _⟩) (.bool true) (yl_assign (by rfl) _ rfl _ rfl) ?_
                    simp only [Act.put, lzA, lzB, lzC]
                    refine wpList_nil ?_
                    refine hK10 _ _ ?_
                    clear hK10 K10
                    refine wp_ret ?_
                    try simp only [Exit.inBlock, Exit.then]
                    go_ret
                    exact ⟨rfl, below_none D⟩
end Go.Proofs.YtjbgjdjmejhejaaGreatDoor
namespace Go.Proofs.YtjbgjdjmejhejaaGreatDoor
open Go.ChangeShapes Go.WideShapes Go.ChangeAt Go.WideMaps Go.WideElems Go.RowKit Go.Joins
section
variable {H : Type} {enc : TypeId × Value → H} {W : World} {base : Nat} {sp : Nat → Bool} {held : Bool}
end
section
variable {H : Type} {enc : TypeId × Value → H} {W : World}
end
end Go.Proofs.YtjbgjdjmejhejaaGreatDoor
namespace Go.Proofs.YtjbgjdjmejhejaaGreatDoor
open Go.Deep Go.ChangeShapes Go.WideShapes Go.ChangeAt Go.WideMaps Go.WideElems Go.RowKit Go.Joins
section
variable {H : Type} {enc : TypeId × Value → H} {W : World}
end
end Go.Proofs.YtjbgjdjmejhejaaGreatDoor
namespace Go.Proofs.YtjbgjdjmejhejaaGreatDoor
open Go.ChangeShapes Go.WideShapes Go.ChangeAt Go.WideMaps Go.WideElems Go.RowKit Go.Joins
theorem own : ownKnob Tryz.prog.godebug = none := by kernel_rfl
theorem gPowType : (Tryz.prog.globals[1]?).map (·.type) = some 275 := by kernel_rfl
theorem cellsPow : Tryz.prog.cellsOf 275 = 20 := by kernel_rfl
theorem cellsU64 : Tryz.prog.cellsOf 164 = 1 := by kernel_rfl
abbrev laid5 : List (String × DataW Unit) := [("math/bits.deBruijn32tab", Rows.laid_math_bits_deBruijn32tab), ("math/bits.deBruijn64tab", Rows.laid_math_bits_deBruijn64tab), ("internal/strconv.uint64pow10", Rows.laid_internal_strconv_uint64pow10)]
theorem env_of_laid {W : World} (h : laidMetH Tryz.prog laid5 W) : Env W := by
  rw [MakeChecks.laidMetH_plain _ _ _ (by kernel_rfl)] at h
  have hp : Lib.TabIs Tryz.prog W "internal/strconv.uint64pow10" .u64 Lib.pow10Tab := Lib.tabIs_of_head gPow gPowType Tryz.underlying275 Tryz.underlying164 cellsU64 cellsPow (show laidMet Tryz.prog (("internal/strconv.uint64pow10", Lib.tabData .u64 Lib.pow10Tab) :: _) W from h.tail.tail)
  have big : 2 ≤ W.heap.size := by
    rcases Nat.lt_or_ge 1 W.heap.size with h' | h'
    · exact h'
    · exfalso
      have := hp.cell gPow 0 (by decide); simp [World.cell?, Array.getElem?_eq_none h'] at this
  exact ⟨big, hp⟩
theorem door_met (os : Os) (args : Array Value) : laidMetH Tryz.prog laid5 ((World.doorLaid Tryz.prog 400 os).forCall (fun _ _ => 0) ⟨#[], args, []⟩).memory :=
  laidMetH_of_parts3 (fuel := 8) (laidMet_of_run' 8 (by kernel_rfl) (by kernel_rfl)) (by kernel_rfl) (by kernel_rfl)
end Go.Proofs.YtjbgjdjmejhejaaGreatDoor
