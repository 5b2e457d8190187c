/-
  The seventh reference's Set.
-/
import Derived.Test.YtciflobdpenpaaaGreatDoorR0
import Derived.Test.YtciflobdpenpaaaGreatDoorR1
set_option linter.unusedSimpArgs false
set_option linter.unusedVariables false
namespace Go.Proofs.YtciflobdpenpaaaGreatDoor
open Go.RowKit

theorem rng_all {w : World} {p : Option Addr} {n c : Nat} {l : List Rg} (h : RngsAt w (.slice p n c) l) (i : Nat) (hi : i < l.length) : ∃ b off, p = some ⟨b, off, none⟩ ∧ ∀ W, w.grownBy W none → W.cell? ⟨b, off + i * 2 + 0, none⟩ = some (.int .i64 (l.getD i (0, 0)).1) ∧ W.cell? ⟨b, off + i * 2 + 1, none⟩ = some (.int .i64 (l.getD i (0, 0)).2) := by
  obtain ⟨b, off, e, _⟩ := rng_at h (grown_refl _ _) i hi
  refine ⟨b, off, e, fun W D => ?_⟩
  obtain ⟨b', off', e', h1, h2⟩ := rng_at h D i hi
  rw [e] at e'
  injection e' with e'
  injection e' with e1 e2 e3
  subst e1 e2
  exact ⟨h1, h2⟩
theorem rg_yes {r : Rg} (h : r.1 < r.2) : rgTxt r = Lib.itoa r.1 ++ ([46, 46] ++ Lib.itoa r.2) := if_pos h
theorem rg_no {r : Rg} (h : ¬ r.1 < r.2) : rgTxt r = Lib.itoa r.1 := if_neg h

set_option maxHeartbeats 1000000 in
set_option maxRecDepth 100000 in
theorem refSet7 (S : SetV) (pI pS : Option Addr) (cI cS : Nat) (w : World) (HE : Env w) (hI : RngsAt w (.slice pI S.ints.length cI) S.ints) (hT : StrsAt w (.slice pS S.strs.length cS) S.strs) (hok : okB S) (l1 : S.ints.length ≤ 1000) (l2 : S.strs.length ≤ 1000) :
    Calls Tryz.prog 12 #[.agg #[.bool S.absent, .slice pI S.ints.length cI, .bool S.co, .slice pS S.strs.length cS]] w fun e w' => e = .returned (.string (bs (setTxt S))) ∧ Below w.heap.size w w' := by
  have w6 : 6 ≤ w.heap.size := HE.big
  have D : w.grownBy w none := grown_refl _ _
  have hb : ∀ k, k < S.ints.length → -9223372036854775808 ≤ (S.ints.getD k (0, 0)).1 ∧ (S.ints.getD k (0, 0)).1 ≤ 9223372036854775807 ∧ -9223372036854775808 ≤ (S.ints.getD k (0, 0)).2 ∧ (S.ints.getD k (0, 0)).2 ≤ 9223372036854775807 := fun k hk => hok.1 _ (by rw [List.getD_eq_getElem?_getD, List.getElem?_eq_getElem hk]; exact List.getElem_mem hk)
  have h8 : ∀ k, k < S.strs.length → (S.strs.getD k ⟨#[]⟩).size ≤ 1048576 := fun k hk => by
    have := hok.2 (S.strs.getD k ⟨#[]⟩) (by rw [List.getD_eq_getElem?_getD, List.getElem?_eq_getElem hk]; exact List.getElem_mem hk)
    omega
  have hjl : (joinL ((partsS S).map ptTxt)).length ≤ 140737488355328 := by
    have h1 := joinL_le ptTxt 44 (partsS S) (pt_le hok.1 hok.2)
    have h2 := partsS_len S
    omega
  have hjl2 : (joinL ((txS S S.strs.length).map (·.data.toList))).length ≤ 140737488355328 := by rw [txS_all]; exact hjl
  go_enter Tryz.func12, Tryz.ntmps12
  refine wp_seq_k (fun K1 hK1 => ?_)
  refine wp_region_lit ?_
  refine wt_boxSt (o := ⟨_, _, _, _, _, _⟩) (by rfl) _ rfl (⟨S.absent, pI, S.ints.length, cI, S.co, pS, S.strs.length, cS⟩) rfl (fun v1 g1 hg G1 kb => ?_)
  simp only [Act.put, List.setIfInBounds_toArray, List.set_cons_zero, List.set_cons_succ]
  have ge_g1 : w.heap.size ≤ g1 := Nat.le_trans D.size hg
  have six_g1 : 6 ≤ g1 := Nat.le_trans w6 ge_g1
  clear hg
  replace D := grown_below D kb
  replace HE := HE.on kb
  clear kb
  replace G1 : v1.heap[g1]? = some (.cells #[.bool (S.absent), .slice pI S.ints.length cI, .bool (S.co), .slice pS S.strs.length cS] 25 (0, 0)) := G1
  refine wl_yield (o := ⟨_, _, _, _, _, _⟩) (.string (bs ([]))) (yl_assign (by rfl) _ rfl _ rfl) ?_
  simp only [Act.put, List.setIfInBounds_toArray, List.set_cons_zero, List.set_cons_succ]
  refine wpList_nil ?_
  refine hK1 _ _ ?_
  clear hK1 K1
  refine wp_seq_k (fun K2 hK2 => ?_)
  have RP : RowS v1 w.heap.size (.slice none 0 0) [] := RowS.nil _ _
  refine wp_region_lit ?_
  refine wl_yield (o := ⟨_, _, _, _, _, _⟩) (.slice none 0 0) (yl_assign (by rfl) _ rfl _ rfl) ?_
  simp only [Act.put, List.setIfInBounds_toArray, List.set_cons_zero, List.set_cons_succ]
  refine wpList_nil ?_
  refine hK2 _ _ ?_
  clear hK2 K2
  refine wp_seq_k (fun K3 hK3 => ?_)
  refine wp_seq_k (fun K4 hK4 => ?_)
  refine wp_region_lit ?_
  refine wl_yield (o := ⟨_, _, _, _, _, _⟩) (.pointer (some ⟨g1, 0, none⟩)) (yt_fSt0 (by rfl) _ rfl g1 0 rfl) ?_
  simp only [Act.put, List.setIfInBounds_toArray, List.set_cons_zero, List.set_cons_succ]
  refine wl_yield (o := ⟨_, _, _, _, _, _⟩) (.bool (S.absent)) (yt_ldB (by rfl) _ rfl _ _ rfl S.absent (fun _ h => by subst h; exact cell_heap G1 0)) ?_
  simp only [Act.put, List.setIfInBounds_toArray, List.set_cons_zero, List.set_cons_succ]
  refine wpList_nil ?_
  refine hK4 _ _ ?_
  clear hK4 K4
  refine wp_cond_split (t := S.absent) rfl (fun hc => ?_) (fun hc => ?_)
  · have hab : S.absent = true := hc
    refine wp_region_lit ?_
    refine wl_yield (o := ⟨_, _, _, _, _, _⟩) (.slice none 0 0) (yl_move (by rfl) _ rfl _ rfl) ?_
    simp only [Act.put, List.setIfInBounds_toArray, List.set_cons_zero, List.set_cons_succ]
    refine wt_row1S (o := ⟨_, _, _, _, _, _⟩) (by rfl) _ rfl (bs ([45])) rfl (fun v2 g2 hg G2 kb => ?_)
    have n_g1_g2 : g1 ≠ g2 := by have := lt_heap G1; omega
    have ge_g2 : w.heap.size ≤ g2 := Nat.le_trans D.size hg
    have six_g2 : 6 ≤ g2 := Nat.le_trans w6 ge_g2
    clear hg
    replace D := grown_below D kb
    replace RP := ownsRow_on RP kb
    replace HE := HE.on kb
    replace G1 := heap_on G1 kb
    clear kb
    simp only [Act.put, List.setIfInBounds_toArray, List.set_cons_zero, List.set_cons_succ]
    refine wt_appS (o := ⟨_, _, _, _, _, _⟩) (by rfl) _ _ rfl w.heap.size _ ([]) rfl RP _ (bs ([45])) rfl G2 ((by first | (simp; done) | (have := txI_len S k; omega) | (have := txS_len S k; omega) | (have := txI_len S S.ints.length; omega))) (D.size) (fun v3' v3 hrow kg hown => ?_)
    clear G2
    replace HE := Env.gro HE RP kg w6
    replace G1 := heap_gro G1 kg (own_ne RP G1 (by decide))
    replace D := gr_own D (fun g hg => Nat.le_trans (Nat.le_refl _) (World.ownsRow.lt RP g hg).1) kg
    clear kg hown
    replace RP := hrow
    clear hrow
    obtain ⟨p3, c3, rfl, -, -, -⟩ := ownsRow_form RP
    simp only [Act.put, List.setIfInBounds_toArray, List.set_cons_zero, List.set_cons_succ]
    refine wl_yield (o := ⟨_, _, _, _, _, _⟩) (.slice p3 (([] ++ [(bs ([45]))]).length) c3) (yl_assign (by rfl) _ rfl _ rfl) ?_
    simp only [Act.put, List.setIfInBounds_toArray, List.set_cons_zero, List.set_cons_succ]
    refine wpList_nil ?_
    refine hK3 _ _ ?_
    clear hK3 K3
    refine wp_seq_k (fun K5 hK5 => ?_)
    refine wp_seq_k (fun K6 hK6 => ?_)
    refine wp_region_lit ?_
    refine wl_yield (o := ⟨_, _, _, _, _, _⟩) (.int .i64 0) (yl_assign (by rfl) _ rfl _ rfl) ?_
    simp only [Act.put, List.setIfInBounds_toArray, List.set_cons_zero, List.set_cons_succ]
    refine wpList_nil ?_
    refine hK6 _ _ ?_
    clear hK6 K6
    refine wp_block ?_
    have E0 : [] ++ [(bs ([45]))] = txI S 0 := by unfold txI; simp [hab]
    go_loopw [3, 4] (fun x i wr => ∃ (k : Nat) (p : Option Addr) (c : Nat), i = .int .i64 k ∧ k ≤ S.ints.length ∧ x = .slice p (txI S k).length c ∧ RowS wr w.heap.size (.slice p (txI S k).length c) (txI S k) ∧ wr.heap[g1]? = some (.cells #[.bool (S.absent), .slice pI S.ints.length cI, .bool (S.co), .slice pS S.strs.length cS] 25 (0, 0)) ∧ Env wr ∧ w.grownBy wr none) (fun _ i _ => S.ints.length - (intOf i).toNat)
    case atStart => exact ⟨0, p3, c3, rfl, by omega, (by rw [← E0]; try rfl), (by rw [← E0]; exact RP), G1, HE, D⟩
    case round =>
      clear D HE RP G1
      obtain ⟨k, p, c, rfl, hk, rfl, RP, G1, HE, D⟩ := hrel
      by_cases hlt : k < S.ints.length
      · obtain ⟨bI, oI, rfl, hcc⟩ := rng_all hI k hlt
        refine wp_seq_k (fun K7 hK7 => ?_)
        refine wp_seq_k (fun K8 hK8 => ?_)
        refine wp_region_lit ?_
        refine wl_yield (o := ⟨_, _, _, _, _, _⟩) (.int .i64 (k : Nat)) (yl_move (by rfl) _ rfl _ rfl) ?_
        simp only [Act.put, List.setIfInBounds_toArray, List.set_cons_zero, List.set_cons_succ]
        refine wl_yield (o := ⟨_, _, _, _, _, _⟩) (.pointer (some ⟨g1, 1, none⟩)) (yt_fSt1 (by rfl) _ rfl g1 0 rfl) ?_
        simp only [Act.put, List.setIfInBounds_toArray, List.set_cons_zero, List.set_cons_succ]
        refine wl_yield (o := ⟨_, _, _, _, _, _⟩) (.slice ((some ⟨bI, oI, none⟩)) S.ints.length cI) (yt_ldLr (by rfl) _ rfl _ _ rfl ((some ⟨bI, oI, none⟩)) S.ints.length cI (fun _ h => by subst h; exact cell_heap G1 1)) ?_
        simp only [Act.put, List.setIfInBounds_toArray, List.set_cons_zero, List.set_cons_succ]
        refine wl_yield (o := ⟨_, _, _, _, _, _⟩) (.int .i64 (S.ints.length : Nat)) (yt_lenR (by rfl) _ rfl ((some ⟨bI, oI, none⟩)) S.ints.length cI rfl) ?_
        simp only [Act.put, List.setIfInBounds_toArray, List.set_cons_zero, List.set_cons_succ]
        refine wl_yield (o := ⟨_, _, _, _, _, _⟩) (.bool true) (yt_lssI (by rfl) _ _ _ rfl (((k : Nat) : Int)) (((S.ints.length : Nat) : Int)) true rfl rfl (decide_eq_true (by omega))) ?_
        simp only [Act.put, List.setIfInBounds_toArray, List.set_cons_zero, List.set_cons_succ]
        refine wpList_nil ?_
        refine hK8 _ _ ?_
        clear hK8 K8
        refine wp_cond_true rfl ?_
        refine wp_skip ?_
        refine hK7 _ _ ?_
        clear hK7 K7
        refine wp_seq_k (fun K9 hK9 => ?_)
        refine wp_block ?_
        refine wp_seq_k (fun K10 hK10 => ?_)
        refine wp_region_lit ?_
        refine wl_yield (o := ⟨_, _, _, _, _, _⟩) (.pointer (some ⟨g1, 1, none⟩)) (yt_fSt1 (by rfl) _ rfl g1 0 rfl) ?_
        simp only [Act.put, List.setIfInBounds_toArray, List.set_cons_zero, List.set_cons_succ]
        refine wl_yield (o := ⟨_, _, _, _, _, _⟩) (.slice ((some ⟨bI, oI, none⟩)) S.ints.length cI) (yt_ldLr (by rfl) _ rfl _ _ rfl ((some ⟨bI, oI, none⟩)) S.ints.length cI (fun _ h => by subst h; exact cell_heap G1 1)) ?_
        simp only [Act.put, List.setIfInBounds_toArray, List.set_cons_zero, List.set_cons_succ]
        refine wl_yield (o := ⟨_, _, _, _, _, _⟩) (.int .i64 (k : Nat)) (yl_move (by rfl) _ rfl _ rfl) ?_
        simp only [Act.put, List.setIfInBounds_toArray, List.set_cons_zero, List.set_cons_succ]
        refine wl_yield (o := ⟨_, _, _, _, _, _⟩) (.pointer (some ⟨bI, oI + k * 2, none⟩)) (yt_atR (by rfl) _ _ rfl bI oI _ _ k rfl rfl (hlt)) ?_
        simp only [Act.put, List.setIfInBounds_toArray, List.set_cons_zero, List.set_cons_succ]
        refine wl_yield (o := ⟨_, _, _, _, _, _⟩) (.pointer (some ⟨bI, oI + k * 2 + 0, none⟩)) (yt_fRg0 (by rfl) _ rfl bI (oI + k * 2) rfl) ?_
        simp only [Act.put, List.setIfInBounds_toArray, List.set_cons_zero, List.set_cons_succ]
        refine wl_yield (o := ⟨_, _, _, _, _, _⟩) (.int .i64 ((S.ints.getD k (0, 0)).1)) (yt_ldI (by rfl) _ rfl _ _ rfl (S.ints.getD k (0, 0)).1 (fun _ h => by subst h; exact (hcc _ D).1)) ?_
        simp only [Act.put, List.setIfInBounds_toArray, List.set_cons_zero, List.set_cons_succ]
        refine wt_call (o := ⟨_, _, _, _, _, _⟩) (by rfl) 34 _ _ rfl #[.int .i64 ((S.ints.getD k (0, 0)).1)] rfl (run_call Tryz.func34 (by kernel_rfl) (by kernel_rfl)) ?_
        refine (decimal_any (S.ints.getD k (0, 0)).1 (by have := hb k hlt; omega) (by have := hb k hlt; omega) _).mono ?_
        rintro r v4 ⟨rfl, kb⟩
        replace D := grown_below D kb
        replace RP := ownsRow_on RP kb
        replace HE := HE.on kb
        replace G1 := heap_on G1 kb
        clear kb
        refine Or.inl ⟨.string (bs (Lib.itoa (S.ints.getD k (0, 0)).1)), rfl, ?_⟩
        simp only [Act.put, List.setIfInBounds_toArray, List.set_cons_zero, List.set_cons_succ]
        refine wl_yield (o := ⟨_, _, _, _, _, _⟩) (.string (bs (Lib.itoa (S.ints.getD k (0, 0)).1))) (yl_assign (by rfl) _ rfl _ rfl) ?_
        simp only [Act.put, List.setIfInBounds_toArray, List.set_cons_zero, List.set_cons_succ]
        refine wpList_nil ?_
        refine hK10 _ _ ?_
        clear hK10 K10
        refine wp_seq_k (fun K11 hK11 => ?_)
        refine wp_seq_k (fun K12 hK12 => ?_)
        by_cases hlo : (S.ints.getD k (0, 0)).1 < (S.ints.getD k (0, 0)).2
        · have hrg := rg_yes hlo
          refine wp_region_late (S := fun w' => w'.heap[g1]? = some (.cells #[.bool (S.absent), .slice ((some ⟨bI, oI, none⟩)) S.ints.length cI, .bool (S.co), .slice pS S.strs.length cS] 25 (0, 0)) ∧ w'.cell? ⟨bI, oI + k * 2 + 0, none⟩ = some (.int .i64 (S.ints.getD k (0, 0)).1) ∧ w'.cell? ⟨bI, oI + k * 2 + 1, none⟩ = some (.int .i64 (S.ints.getD k (0, 0)).2)) (late := fun j => [].contains j) (by kernel_rfl) ?_
          have kb : Below v4.heap.size v4 v4.drew := (Below.refl _ v4).drew
          replace D := grown_below D kb
          replace RP := ownsRow_on RP kb
          replace HE := HE.on kb
          replace G1 := heap_on G1 kb
          clear kb
          generalize v4.drew = v5 at D HE G1 RP ⊢
          refine wpAnyL_pure (i := 0) (oi := ⟨_, _, _, _, _, _⟩) (v := .pointer (some ⟨g1, 1, none⟩)) rfl (by kernel_rfl) (by kernel_rfl) (by kernel_rfl) (fun _ _ _ h => h) (yt_fSt1 (by rfl) _ rfl g1 0 rfl) ?_
          simp only [Act.put, List.setIfInBounds_toArray, List.set_cons_zero, List.set_cons_succ]
          refine wpAnyL_load (i := 1) (oi := ⟨_, _, _, _, _, _⟩) (v := .slice ((some ⟨bI, oI, none⟩)) S.ints.length cI) rfl (by kernel_rfl) (by kernel_rfl) (by kernel_rfl) (by kernel_rfl) (fun _ _ _ h => h) (yt_ldLr (by rfl) _ rfl _ _ rfl ((some ⟨bI, oI, none⟩)) S.ints.length cI (fun _ h => cell_heap h.1 1)) ⟨G1, (hcc _ D).1, (hcc _ D).2⟩ ?_
          simp only [Act.put, List.setIfInBounds_toArray, List.set_cons_zero, List.set_cons_succ]
          refine wpAnyL_pure (i := 2) (oi := ⟨_, _, _, _, _, _⟩) (v := .int .i64 (k : Nat)) rfl (by kernel_rfl) (by kernel_rfl) (by kernel_rfl) (fun _ _ _ h => h) (yl_move (by rfl) _ rfl _ rfl) ?_
          simp only [Act.put, List.setIfInBounds_toArray, List.set_cons_zero, List.set_cons_succ]
          refine wpAnyL_pure (i := 3) (oi := ⟨_, _, _, _, _, _⟩) (v := .pointer (some ⟨bI, oI + k * 2, none⟩)) rfl (by kernel_rfl) (by kernel_rfl) (by kernel_rfl) (fun _ _ _ h => h) (yt_atR (by rfl) _ _ rfl bI oI _ _ k rfl rfl (hlt)) ?_
          simp only [Act.put, List.setIfInBounds_toArray, List.set_cons_zero, List.set_cons_succ]
          refine wpAnyL_pure (i := 4) (oi := ⟨_, _, _, _, _, _⟩) (v := .pointer (some ⟨bI, oI + k * 2 + 0, none⟩)) rfl (by kernel_rfl) (by kernel_rfl) (by kernel_rfl) (fun _ _ _ h => h) (yt_fRg0 (by rfl) _ rfl bI (oI + k * 2) rfl) ?_
          simp only [Act.put, List.setIfInBounds_toArray, List.set_cons_zero, List.set_cons_succ]
          refine wpAnyL_load (i := 5) (oi := ⟨_, _, _, _, _, _⟩) (v := .int .i64 ((S.ints.getD k (0, 0)).1)) rfl (by kernel_rfl) (by kernel_rfl) (by kernel_rfl) (by kernel_rfl) (fun _ _ _ h => h) (yt_ldI (by rfl) _ rfl _ _ rfl (S.ints.getD k (0, 0)).1 (fun _ h => h.2.1)) ⟨G1, (hcc _ D).1, (hcc _ D).2⟩ ?_
          simp only [Act.put, List.setIfInBounds_toArray, List.set_cons_zero, List.set_cons_succ]
          refine wpAnyL_pure (i := 6) (oi := ⟨_, _, _, _, _, _⟩) (v := .pointer (some ⟨g1, 1, none⟩)) rfl (by kernel_rfl) (by kernel_rfl) (by kernel_rfl) (fun _ _ _ h => h) (yt_fSt1 (by rfl) _ rfl g1 0 rfl) ?_
          simp only [Act.put, List.setIfInBounds_toArray, List.set_cons_zero, List.set_cons_succ]
          refine wpAnyL_load (i := 7) (oi := ⟨_, _, _, _, _, _⟩) (v := .slice ((some ⟨bI, oI, none⟩)) S.ints.length cI) rfl (by kernel_rfl) (by kernel_rfl) (by kernel_rfl) (by kernel_rfl) (fun _ _ _ h => h) (yt_ldLr (by rfl) _ rfl _ _ rfl ((some ⟨bI, oI, none⟩)) S.ints.length cI (fun _ h => cell_heap h.1 1)) ⟨G1, (hcc _ D).1, (hcc _ D).2⟩ ?_
          simp only [Act.put, List.setIfInBounds_toArray, List.set_cons_zero, List.set_cons_succ]
          refine wpAnyL_pure (i := 8) (oi := ⟨_, _, _, _, _, _⟩) (v := .int .i64 (k : Nat)) rfl (by kernel_rfl) (by kernel_rfl) (by kernel_rfl) (fun _ _ _ h => h) (yl_move (by rfl) _ rfl _ rfl) ?_
          simp only [Act.put, List.setIfInBounds_toArray, List.set_cons_zero, List.set_cons_succ]
          refine wpAnyL_pure (i := 9) (oi := ⟨_, _, _, _, _, _⟩) (v := .pointer (some ⟨bI, oI + k * 2, none⟩)) rfl (by kernel_rfl) (by kernel_rfl) (by kernel_rfl) (fun _ _ _ h => h) (yt_atR (by rfl) _ _ rfl bI oI _ _ k rfl rfl (hlt)) ?_
          simp only [Act.put, List.setIfInBounds_toArray, List.set_cons_zero, List.set_cons_succ]
          refine wpAnyL_pure (i := 10) (oi := ⟨_, _, _, _, _, _⟩) (v := .pointer (some ⟨bI, oI + k * 2 + 1, none⟩)) rfl (by kernel_rfl) (by kernel_rfl) (by kernel_rfl) (fun _ _ _ h => h) (yt_fRg1 (by rfl) _ rfl bI (oI + k * 2) rfl) ?_
          simp only [Act.put, List.setIfInBounds_toArray, List.set_cons_zero, List.set_cons_succ]
          refine wpAnyL_load (i := 11) (oi := ⟨_, _, _, _, _, _⟩) (v := .int .i64 ((S.ints.getD k (0, 0)).2)) rfl (by kernel_rfl) (by kernel_rfl) (by kernel_rfl) (by kernel_rfl) (fun _ _ _ h => h) (yt_ldI (by rfl) _ rfl _ _ rfl (S.ints.getD k (0, 0)).2 (fun _ h => h.2.2)) ⟨G1, (hcc _ D).1, (hcc _ D).2⟩ ?_
          simp only [Act.put, List.setIfInBounds_toArray, List.set_cons_zero, List.set_cons_succ]
          refine wpAnyL_pure (i := 12) (oi := ⟨_, _, _, _, _, _⟩) (v := .bool true) rfl (by kernel_rfl) (by kernel_rfl) (by kernel_rfl) (fun _ _ _ h => h) (yt_lssI (by rfl) _ _ _ rfl ((S.ints.getD k (0, 0)).1) ((S.ints.getD k (0, 0)).2) true rfl rfl (decide_eq_true (by omega))) ?_
          simp only [Act.put, List.setIfInBounds_toArray, List.set_cons_zero, List.set_cons_succ]
          refine wpAnyL_done (by kernel_rfl) ?_ _
          refine hK12 _ _ ?_
          clear hK12 K12
          refine wp_cond_true rfl ?_
          refine wp_region_lit ?_
          refine wl_yield (o := ⟨_, _, _, _, _, _⟩) (.string (bs (Lib.itoa (S.ints.getD k (0, 0)).1))) (yl_move (by rfl) _ rfl _ rfl) ?_
          simp only [Act.put, List.setIfInBounds_toArray, List.set_cons_zero, List.set_cons_succ]
          refine wl_yield (o := ⟨_, _, _, _, _, _⟩) (.pointer (some ⟨g1, 1, none⟩)) (yt_fSt1 (by rfl) _ rfl g1 0 rfl) ?_
          simp only [Act.put, List.setIfInBounds_toArray, List.set_cons_zero, List.set_cons_succ]
          refine wl_yield (o := ⟨_, _, _, _, _, _⟩) (.slice ((some ⟨bI, oI, none⟩)) S.ints.length cI) (yt_ldLr (by rfl) _ rfl _ _ rfl ((some ⟨bI, oI, none⟩)) S.ints.length cI (fun _ h => by subst h; exact cell_heap G1 1)) ?_
          simp only [Act.put, List.setIfInBounds_toArray, List.set_cons_zero, List.set_cons_succ]
          refine wl_yield (o := ⟨_, _, _, _, _, _⟩) (.int .i64 (k : Nat)) (yl_move (by rfl) _ rfl _ rfl) ?_
          simp only [Act.put, List.setIfInBounds_toArray, List.set_cons_zero, List.set_cons_succ]
          refine wl_yield (o := ⟨_, _, _, _, _, _⟩) (.pointer (some ⟨bI, oI + k * 2, none⟩)) (yt_atR (by rfl) _ _ rfl bI oI _ _ k rfl rfl (hlt)) ?_
          simp only [Act.put, List.setIfInBounds_toArray, List.set_cons_zero, List.set_cons_succ]
          refine wl_yield (o := ⟨_, _, _, _, _, _⟩) (.pointer (some ⟨bI, oI + k * 2 + 1, none⟩)) (yt_fRg1 (by rfl) _ rfl bI (oI + k * 2) rfl) ?_
          simp only [Act.put, List.setIfInBounds_toArray, List.set_cons_zero, List.set_cons_succ]
          refine wl_yield (o := ⟨_, _, _, _, _, _⟩) (.int .i64 ((S.ints.getD k (0, 0)).2)) (yt_ldI (by rfl) _ rfl _ _ rfl (S.ints.getD k (0, 0)).2 (fun _ h => by subst h; exact (hcc _ D).2)) ?_
          simp only [Act.put, List.setIfInBounds_toArray, List.set_cons_zero, List.set_cons_succ]
          refine wt_call (o := ⟨_, _, _, _, _, _⟩) (by rfl) 34 _ _ rfl #[.int .i64 ((S.ints.getD k (0, 0)).2)] rfl (run_call Tryz.func34 (by kernel_rfl) (by kernel_rfl)) ?_
          refine (decimal_any (S.ints.getD k (0, 0)).2 (by have := hb k hlt; omega) (by have := hb k hlt; omega) _).mono ?_
          rintro r v6 ⟨rfl, kb⟩
          replace D := grown_below D kb
          replace RP := ownsRow_on RP kb
          replace HE := HE.on kb
          replace G1 := heap_on G1 kb
          clear kb
          refine Or.inl ⟨.string (bs (Lib.itoa (S.ints.getD k (0, 0)).2)), rfl, ?_⟩
          simp only [Act.put, List.setIfInBounds_toArray, List.set_cons_zero, List.set_cons_succ]
          refine wl_yield (o := ⟨_, _, _, _, _, _⟩) (.string (bs (([46, 46]) ++ (Lib.itoa (S.ints.getD k (0, 0)).2)))) (yt_cat (by rfl) _ _ _ rfl ([46, 46]) (Lib.itoa (S.ints.getD k (0, 0)).2) rfl rfl (by first | (have t1 := itoa_le (S.ints.getD k (0, 0)).1 (by have := hb k hlt; omega) (by have := hb k hlt; omega); have t2 := itoa_le (S.ints.getD k (0, 0)).2 (by have := hb k hlt; omega) (by have := hb k hlt; omega); simp only [List.length_cons, List.length_append, List.length_nil]; omega) | (simp only [List.length_cons, List.length_append, List.length_nil]; omega))) ?_
          simp only [Act.put, List.setIfInBounds_toArray, List.set_cons_zero, List.set_cons_succ]
          refine wl_yield (o := ⟨_, _, _, _, _, _⟩) (.string (bs ((Lib.itoa (S.ints.getD k (0, 0)).1) ++ (([46, 46]) ++ (Lib.itoa (S.ints.getD k (0, 0)).2))))) (yt_cat (by rfl) _ _ _ rfl (Lib.itoa (S.ints.getD k (0, 0)).1) (([46, 46]) ++ (Lib.itoa (S.ints.getD k (0, 0)).2)) rfl rfl (by first | (have t1 := itoa_le (S.ints.getD k (0, 0)).1 (by have := hb k hlt; omega) (by have := hb k hlt; omega); have t2 := itoa_le (S.ints.getD k (0, 0)).2 (by have := hb k hlt; omega) (by have := hb k hlt; omega); simp only [List.length_cons, List.length_append, List.length_nil]; omega) | (simp only [List.length_cons, List.length_append, List.length_nil]; omega))) ?_
          simp only [Act.put, List.setIfInBounds_toArray, List.set_cons_zero, List.set_cons_succ]
          refine wl_yield (o := ⟨_, _, _, _, _, _⟩) (.string (bs ((Lib.itoa (S.ints.getD k (0, 0)).1) ++ (([46, 46]) ++ (Lib.itoa (S.ints.getD k (0, 0)).2))))) (yl_assign (by rfl) _ rfl _ rfl) ?_
          simp only [Act.put, List.setIfInBounds_toArray, List.set_cons_zero, List.set_cons_succ]
          refine wpList_nil ?_
          refine hK11 _ _ ?_
          clear hK11 K11
          refine wp_region_lit ?_
          refine wl_yield (o := ⟨_, _, _, _, _, _⟩) (.slice p ((txI S k).length) c) (yl_move (by rfl) _ rfl _ rfl) ?_
          simp only [Act.put, List.setIfInBounds_toArray, List.set_cons_zero, List.set_cons_succ]
          refine wl_yield (o := ⟨_, _, _, _, _, _⟩) (.string (bs ((Lib.itoa (S.ints.getD k (0, 0)).1) ++ (([46, 46]) ++ (Lib.itoa (S.ints.getD k (0, 0)).2))))) (yl_move (by rfl) _ rfl _ rfl) ?_
          simp only [Act.put, List.setIfInBounds_toArray, List.set_cons_zero, List.set_cons_succ]
          refine wt_row1S (o := ⟨_, _, _, _, _, _⟩) (by rfl) _ rfl (bs ((Lib.itoa (S.ints.getD k (0, 0)).1) ++ (([46, 46]) ++ (Lib.itoa (S.ints.getD k (0, 0)).2)))) rfl (fun v7 g7 hg G7 kb => ?_)
          have n_g1_g7 : g1 ≠ g7 := by have := lt_heap G1; omega
          have ge_g7 : w.heap.size ≤ g7 := Nat.le_trans D.size hg
          have six_g7 : 6 ≤ g7 := Nat.le_trans w6 ge_g7
          clear hg
          replace D := grown_below D kb
          replace RP := ownsRow_on RP kb
          replace HE := HE.on kb
          replace G1 := heap_on G1 kb
          clear kb
          simp only [Act.put, List.setIfInBounds_toArray, List.set_cons_zero, List.set_cons_succ]
          refine wt_appS (o := ⟨_, _, _, _, _, _⟩) (by rfl) _ _ rfl w.heap.size _ (txI S k) rfl RP _ (bs ((Lib.itoa (S.ints.getD k (0, 0)).1) ++ (([46, 46]) ++ (Lib.itoa (S.ints.getD k (0, 0)).2)))) rfl G7 ((by first | (simp; done) | (have := txI_len S k; omega) | (have := txS_len S k; omega) | (have := txI_len S S.ints.length; omega))) (D.size) (fun v8' v8 hrow kg hown => ?_)
          clear G7
          replace HE := Env.gro HE RP kg w6
          replace G1 := heap_gro G1 kg (own_ne RP G1 (by decide))
          replace D := gr_own D (fun g hg => Nat.le_trans (Nat.le_refl _) (World.ownsRow.lt RP g hg).1) kg
          clear kg hown
          replace RP := hrow
          clear hrow
          obtain ⟨p8, c8, rfl, -, -, -⟩ := ownsRow_form RP
          simp only [Act.put, List.setIfInBounds_toArray, List.set_cons_zero, List.set_cons_succ]
          refine wl_yield (o := ⟨_, _, _, _, _, _⟩) (.slice p8 ((txI S k ++ [(bs ((Lib.itoa (S.ints.getD k (0, 0)).1) ++ (([46, 46]) ++ (Lib.itoa (S.ints.getD k (0, 0)).2))))]).length) c8) (yl_assign (by rfl) _ rfl _ rfl) ?_
          simp only [Act.put, List.setIfInBounds_toArray, List.set_cons_zero, List.set_cons_succ]
          refine wpList_nil ?_
          refine hK9 _ _ ?_
          clear hK9 K9
          refine wp_region_lit ?_
          refine wl_yield (o := ⟨_, _, _, _, _, _⟩) (.int .i64 (k : Nat)) (yl_move (by rfl) _ rfl _ rfl) ?_
          simp only [Act.put, List.setIfInBounds_toArray, List.set_cons_zero, List.set_cons_succ]
          refine wl_yield (o := ⟨_, _, _, _, _, _⟩) (.int .i64 (k + 1 : Nat)) (yt_addI (by rfl) _ _ _ rfl (((k : Nat) : Int)) 1 (((k + 1 : Nat) : Int)) rfl rfl (by omega) (by omega) (by omega)) ?_
          simp only [Act.put, List.setIfInBounds_toArray, List.set_cons_zero, List.set_cons_succ]
          refine wl_yield (o := ⟨_, _, _, _, _, _⟩) (.int .i64 (k + 1 : Nat)) (yl_assign (by rfl) _ rfl _ rfl) ?_
          simp only [Act.put, List.setIfInBounds_toArray, List.set_cons_zero, List.set_cons_succ]
          refine wpList_nil ?_
          show _ ∧ _
          go_roundw
          case rel => exact ⟨k + 1, p8, c8, rfl, by omega, by rw [txI_step S k hlt, hrg], by rw [txI_step S k hlt, hrg]; exact RP, G1, HE, D⟩
          case measure => simp [intOf]; omega
        · have hrg := rg_no hlo
          refine wp_region_late (S := fun w' => w'.heap[g1]? = some (.cells #[.bool (S.absent), .slice ((some ⟨bI, oI, none⟩)) S.ints.length cI, .bool (S.co), .slice pS S.strs.length cS] 25 (0, 0)) ∧ w'.cell? ⟨bI, oI + k * 2 + 0, none⟩ = some (.int .i64 (S.ints.getD k (0, 0)).1) ∧ w'.cell? ⟨bI, oI + k * 2 + 1, none⟩ = some (.int .i64 (S.ints.getD k (0, 0)).2)) (late := fun j => [].contains j) (by kernel_rfl) ?_
          have kb : Below v4.heap.size v4 v4.drew := (Below.refl _ v4).drew
          replace D := grown_below D kb
          replace RP := ownsRow_on RP kb
          replace HE := HE.on kb
          replace G1 := heap_on G1 kb
          clear kb
          generalize v4.drew = v5 at D HE G1 RP ⊢
          refine wpAnyL_pure (i := 0) (oi := ⟨_, _, _, _, _, _⟩) (v := .pointer (some ⟨g1, 1, none⟩)) rfl (by kernel_rfl) (by kernel_rfl) (by kernel_rfl) (fun _ _ _ h => h) (yt_fSt1 (by rfl) _ rfl g1 0 rfl) ?_
          simp only [Act.put, List.setIfInBounds_toArray, List.set_cons_zero, List.set_cons_succ]
          refine wpAnyL_load (i := 1) (oi := ⟨_, _, _, _, _, _⟩) (v := .slice ((some ⟨bI, oI, none⟩)) S.ints.length cI) rfl (by kernel_rfl) (by kernel_rfl) (by kernel_rfl) (by kernel_rfl) (fun _ _ _ h => h) (yt_ldLr (by rfl) _ rfl _ _ rfl ((some ⟨bI, oI, none⟩)) S.ints.length cI (fun _ h => cell_heap h.1 1)) ⟨G1, (hcc _ D).1, (hcc _ D).2⟩ ?_
          simp only [Act.put, List.setIfInBounds_toArray, List.set_cons_zero, List.set_cons_succ]
          refine wpAnyL_pure (i := 2) (oi := ⟨_, _, _, _, _, _⟩) (v := .int .i64 (k : Nat)) rfl (by kernel_rfl) (by kernel_rfl) (by kernel_rfl) (fun _ _ _ h => h) (yl_move (by rfl) _ rfl _ rfl) ?_
          simp only [Act.put, List.setIfInBounds_toArray, List.set_cons_zero, List.set_cons_succ]
          refine wpAnyL_pure (i := 3) (oi := ⟨_, _, _, _, _, _⟩) (v := .pointer (some ⟨bI, oI + k * 2, none⟩)) rfl (by kernel_rfl) (by kernel_rfl) (by kernel_rfl) (fun _ _ _ h => h) (yt_atR (by rfl) _ _ rfl bI oI _ _ k rfl rfl (hlt)) ?_
          simp only [Act.put, List.setIfInBounds_toArray, List.set_cons_zero, List.set_cons_succ]
          refine wpAnyL_pure (i := 4) (oi := ⟨_, _, _, _, _, _⟩) (v := .pointer (some ⟨bI, oI + k * 2 + 0, none⟩)) rfl (by kernel_rfl) (by kernel_rfl) (by kernel_rfl) (fun _ _ _ h => h) (yt_fRg0 (by rfl) _ rfl bI (oI + k * 2) rfl) ?_
          simp only [Act.put, List.setIfInBounds_toArray, List.set_cons_zero, List.set_cons_succ]
          refine wpAnyL_load (i := 5) (oi := ⟨_, _, _, _, _, _⟩) (v := .int .i64 ((S.ints.getD k (0, 0)).1)) rfl (by kernel_rfl) (by kernel_rfl) (by kernel_rfl) (by kernel_rfl) (fun _ _ _ h => h) (yt_ldI (by rfl) _ rfl _ _ rfl (S.ints.getD k (0, 0)).1 (fun _ h => h.2.1)) ⟨G1, (hcc _ D).1, (hcc _ D).2⟩ ?_
          simp only [Act.put, List.setIfInBounds_toArray, List.set_cons_zero, List.set_cons_succ]
          refine wpAnyL_pure (i := 6) (oi := ⟨_, _, _, _, _, _⟩) (v := .pointer (some ⟨g1, 1, none⟩)) rfl (by kernel_rfl) (by kernel_rfl) (by kernel_rfl) (fun _ _ _ h => h) (yt_fSt1 (by rfl) _ rfl g1 0 rfl) ?_
          simp only [Act.put, List.setIfInBounds_toArray, List.set_cons_zero, List.set_cons_succ]
          refine wpAnyL_load (i := 7) (oi := ⟨_, _, _, _, _, _⟩) (v := .slice ((some ⟨bI, oI, none⟩)) S.ints.length cI) rfl (by kernel_rfl) (by kernel_rfl) (by kernel_rfl) (by kernel_rfl) (fun _ _ _ h => h) (yt_ldLr (by rfl) _ rfl _ _ rfl ((some ⟨bI, oI, none⟩)) S.ints.length cI (fun _ h => cell_heap h.1 1)) ⟨G1, (hcc _ D).1, (hcc _ D).2⟩ ?_
          simp only [Act.put, List.setIfInBounds_toArray, List.set_cons_zero, List.set_cons_succ]
          refine wpAnyL_pure (i := 8) (oi := ⟨_, _, _, _, _, _⟩) (v := .int .i64 (k : Nat)) rfl (by kernel_rfl) (by kernel_rfl) (by kernel_rfl) (fun _ _ _ h => h) (yl_move (by rfl) _ rfl _ rfl) ?_
          simp only [Act.put, List.setIfInBounds_toArray, List.set_cons_zero, List.set_cons_succ]
          refine wpAnyL_pure (i := 9) (oi := ⟨_, _, _, _, _, _⟩) (v := .pointer (some ⟨bI, oI + k * 2, none⟩)) rfl (by kernel_rfl) (by kernel_rfl) (by kernel_rfl) (fun _ _ _ h => h) (yt_atR (by rfl) _ _ rfl bI oI _ _ k rfl rfl (hlt)) ?_
          simp only [Act.put, List.setIfInBounds_toArray, List.set_cons_zero, List.set_cons_succ]
          refine wpAnyL_pure (i := 10) (oi := ⟨_, _, _, _, _, _⟩) (v := .pointer (some ⟨bI, oI + k * 2 + 1, none⟩)) rfl (by kernel_rfl) (by kernel_rfl) (by kernel_rfl) (fun _ _ _ h => h) (yt_fRg1 (by rfl) _ rfl bI (oI + k * 2) rfl) ?_
          simp only [Act.put, List.setIfInBounds_toArray, List.set_cons_zero, List.set_cons_succ]
          refine wpAnyL_load (i := 11) (oi := ⟨_, _, _, _, _, _⟩) (v := .int .i64 ((S.ints.getD k (0, 0)).2)) rfl (by kernel_rfl) (by kernel_rfl) (by kernel_rfl) (by kernel_rfl) (fun _ _ _ h => h) (yt_ldI (by rfl) _ rfl _ _ rfl (S.ints.getD k (0, 0)).2 (fun _ h => h.2.2)) ⟨G1, (hcc _ D).1, (hcc _ D).2⟩ ?_
          simp only [Act.put, List.setIfInBounds_toArray, List.set_cons_zero, List.set_cons_succ]
          refine wpAnyL_pure (i := 12) (oi := ⟨_, _, _, _, _, _⟩) (v := .bool false) rfl (by kernel_rfl) (by kernel_rfl) (by kernel_rfl) (fun _ _ _ h => h) (yt_lssI (by rfl) _ _ _ rfl ((S.ints.getD k (0, 0)).1) ((S.ints.getD k (0, 0)).2) false rfl rfl (decide_eq_false (by omega))) ?_
          simp only [Act.put, List.setIfInBounds_toArray, List.set_cons_zero, List.set_cons_succ]
          refine wpAnyL_done (by kernel_rfl) ?_ _
          refine hK12 _ _ ?_
          clear hK12 K12
          refine wp_cond_false rfl ?_
          refine wp_skip ?_
          refine hK11 _ _ ?_
          clear hK11 K11
          refine wp_region_lit ?_
          refine wl_yield (o := ⟨_, _, _, _, _, _⟩) (.slice p ((txI S k).length) c) (yl_move (by rfl) _ rfl _ rfl) ?_
          simp only [Act.put, List.setIfInBounds_toArray, List.set_cons_zero, List.set_cons_succ]
          refine wl_yield (o := ⟨_, _, _, _, _, _⟩) (.string (bs (Lib.itoa (S.ints.getD k (0, 0)).1))) (yl_move (by rfl) _ rfl _ rfl) ?_
          simp only [Act.put, List.setIfInBounds_toArray, List.set_cons_zero, List.set_cons_succ]
          refine wt_row1S (o := ⟨_, _, _, _, _, _⟩) (by rfl) _ rfl (bs (Lib.itoa (S.ints.getD k (0, 0)).1)) rfl (fun v6 g6 hg G6 kb => ?_)
          have n_g1_g6 : g1 ≠ g6 := by have := lt_heap G1; omega
          have ge_g6 : w.heap.size ≤ g6 := Nat.le_trans D.size hg
          have six_g6 : 6 ≤ g6 := Nat.le_trans w6 ge_g6
          clear hg
          replace D := grown_below D kb
          replace RP := ownsRow_on RP kb
          replace HE := HE.on kb
          replace G1 := heap_on G1 kb
          clear kb
          simp only [Act.put, List.setIfInBounds_toArray, List.set_cons_zero, List.set_cons_succ]
          refine wt_appS (o := ⟨_, _, _, _, _, _⟩) (by rfl) _ _ rfl w.heap.size _ (txI S k) rfl RP _ (bs (Lib.itoa (S.ints.getD k (0, 0)).1)) rfl G6 ((by first | (simp; done) | (have := txI_len S k; omega) | (have := txS_len S k; omega) | (have := txI_len S S.ints.length; omega))) (D.size) (fun v7' v7 hrow kg hown => ?_)
          clear G6
          replace HE := Env.gro HE RP kg w6
          replace G1 := heap_gro G1 kg (own_ne RP G1 (by decide))
          replace D := gr_own D (fun g hg => Nat.le_trans (Nat.le_refl _) (World.ownsRow.lt RP g hg).1) kg
          clear kg hown
          replace RP := hrow
          clear hrow
          obtain ⟨p7, c7, rfl, -, -, -⟩ := ownsRow_form RP
          simp only [Act.put, List.setIfInBounds_toArray, List.set_cons_zero, List.set_cons_succ]
          refine wl_yield (o := ⟨_, _, _, _, _, _⟩) (.slice p7 ((txI S k ++ [(bs (Lib.itoa (S.ints.getD k (0, 0)).1))]).length) c7) (yl_assign (by rfl) _ rfl _ rfl) ?_
          simp only [Act.put, List.setIfInBounds_toArray, List.set_cons_zero, List.set_cons_succ]
          refine wpList_nil ?_
          refine hK9 _ _ ?_
          clear hK9 K9
          refine wp_region_lit ?_
          refine wl_yield (o := ⟨_, _, _, _, _, _⟩) (.int .i64 (k : Nat)) (yl_move (by rfl) _ rfl _ rfl) ?_
          simp only [Act.put, List.setIfInBounds_toArray, List.set_cons_zero, List.set_cons_succ]
          refine wl_yield (o := ⟨_, _, _, _, _, _⟩) (.int .i64 (k + 1 : Nat)) (yt_addI (by rfl) _ _ _ rfl (((k : Nat) : Int)) 1 (((k + 1 : Nat) : Int)) rfl rfl (by omega) (by omega) (by omega)) ?_
          simp only [Act.put, List.setIfInBounds_toArray, List.set_cons_zero, List.set_cons_succ]
          refine wl_yield (o := ⟨_, _, _, _, _, _⟩) (.int .i64 (k + 1 : Nat)) (yl_assign (by rfl) _ rfl _ rfl) ?_
          simp only [Act.put, List.setIfInBounds_toArray, List.set_cons_zero, List.set_cons_succ]
          refine wpList_nil ?_
          show _ ∧ _
          go_roundw
          case rel => exact ⟨k + 1, p7, c7, rfl, by omega, by rw [txI_step S k hlt, hrg], by rw [txI_step S k hlt, hrg]; exact RP, G1, HE, D⟩
          case measure => simp [intOf]; omega
      · obtain rfl : k = S.ints.length := by omega
        refine wp_seq_k (fun K7 hK7 => ?_)
        refine wp_seq_k (fun K8 hK8 => ?_)
        refine wp_region_lit ?_
        refine wl_yield (o := ⟨_, _, _, _, _, _⟩) (.int .i64 (S.ints.length : Nat)) (yl_move (by rfl) _ rfl _ rfl) ?_
        simp only [Act.put, List.setIfInBounds_toArray, List.set_cons_zero, List.set_cons_succ]
        refine wl_yield (o := ⟨_, _, _, _, _, _⟩) (.pointer (some ⟨g1, 1, none⟩)) (yt_fSt1 (by rfl) _ rfl g1 0 rfl) ?_
        simp only [Act.put, List.setIfInBounds_toArray, List.set_cons_zero, List.set_cons_succ]
        refine wl_yield (o := ⟨_, _, _, _, _, _⟩) (.slice pI S.ints.length cI) (yt_ldLr (by rfl) _ rfl _ _ rfl pI S.ints.length cI (fun _ h => by subst h; exact cell_heap G1 1)) ?_
        simp only [Act.put, List.setIfInBounds_toArray, List.set_cons_zero, List.set_cons_succ]
        refine wl_yield (o := ⟨_, _, _, _, _, _⟩) (.int .i64 (S.ints.length : Nat)) (yt_lenR (by rfl) _ rfl pI S.ints.length cI rfl) ?_
        simp only [Act.put, List.setIfInBounds_toArray, List.set_cons_zero, List.set_cons_succ]
        refine wl_yield (o := ⟨_, _, _, _, _, _⟩) (.bool false) (yt_lssI (by rfl) _ _ _ rfl (((S.ints.length : Nat) : Int)) (((S.ints.length : Nat) : Int)) false rfl rfl (decide_eq_false (by omega))) ?_
        simp only [Act.put, List.setIfInBounds_toArray, List.set_cons_zero, List.set_cons_succ]
        refine wpList_nil ?_
        refine hK8 _ _ ?_
        clear hK8 K8
        refine wp_cond_false rfl ?_
        refine wp_exit ?_
        refine hK5 _ _ ?_
        clear hK7 K7 hK5 K5
        refine wp_seq_k (fun K9 hK9 => ?_)
        refine wp_seq_k (fun K10 hK10 => ?_)
        refine wp_region_lit ?_
        refine wl_yield (o := ⟨_, _, _, _, _, _⟩) (.pointer (some ⟨g1, 2, none⟩)) (yt_fSt2 (by rfl) _ rfl g1 0 rfl) ?_
        simp only [Act.put, List.setIfInBounds_toArray, List.set_cons_zero, List.set_cons_succ]
        refine wl_yield (o := ⟨_, _, _, _, _, _⟩) (.bool (S.co)) (yt_ldB (by rfl) _ rfl _ _ rfl S.co (fun _ h => by subst h; exact cell_heap G1 2)) ?_
        simp only [Act.put, List.setIfInBounds_toArray, List.set_cons_zero, List.set_cons_succ]
        refine wpList_nil ?_
        refine hK10 _ _ ?_
        clear hK10 K10
        refine wp_cond_split (t := S.co) rfl (fun hc => ?_) (fun hc => ?_)
        · have hco : S.co = true := hc
          refine wp_region_lit ?_
          refine wl_yield (o := ⟨_, _, _, _, _, _⟩) (.slice p ((txI S S.ints.length).length) c) (yl_move (by rfl) _ rfl _ rfl) ?_
          simp only [Act.put, List.setIfInBounds_toArray, List.set_cons_zero, List.set_cons_succ]
          refine wt_row1S (o := ⟨_, _, _, _, _, _⟩) (by rfl) _ rfl (bs ([126])) rfl (fun v4 g4 hg G4 kb => ?_)
          have n_g1_g4 : g1 ≠ g4 := by have := lt_heap G1; omega
          have ge_g4 : w.heap.size ≤ g4 := Nat.le_trans D.size hg
          have six_g4 : 6 ≤ g4 := Nat.le_trans w6 ge_g4
          clear hg
          replace D := grown_below D kb
          replace RP := ownsRow_on RP kb
          replace HE := HE.on kb
          replace G1 := heap_on G1 kb
          clear kb
          simp only [Act.put, List.setIfInBounds_toArray, List.set_cons_zero, List.set_cons_succ]
          refine wt_appS (o := ⟨_, _, _, _, _, _⟩) (by rfl) _ _ rfl w.heap.size _ (txI S S.ints.length) rfl RP _ (bs ([126])) rfl G4 ((by first | (simp; done) | (have := txI_len S k; omega) | (have := txS_len S k; omega) | (have := txI_len S S.ints.length; omega))) (D.size) (fun v5' v5 hrow kg hown => ?_)
          clear G4
          replace HE := Env.gro HE RP kg w6
          replace G1 := heap_gro G1 kg (own_ne RP G1 (by decide))
          replace D := gr_own D (fun g hg => Nat.le_trans (Nat.le_refl _) (World.ownsRow.lt RP g hg).1) kg
          clear kg hown
          replace RP := hrow
          clear hrow
          obtain ⟨p5, c5, rfl, -, -, -⟩ := ownsRow_form RP
          simp only [Act.put, List.setIfInBounds_toArray, List.set_cons_zero, List.set_cons_succ]
          refine wl_yield (o := ⟨_, _, _, _, _, _⟩) (.slice p5 ((txI S S.ints.length ++ [(bs ([126]))]).length) c5) (yl_assign (by rfl) _ rfl _ rfl) ?_
          simp only [Act.put, List.setIfInBounds_toArray, List.set_cons_zero, List.set_cons_succ]
          refine wpList_nil ?_
          refine hK9 _ _ ?_
          clear hK9 K9
          refine wp_seq_k (fun K11 hK11 => ?_)
          refine wp_seq_k (fun K12 hK12 => ?_)
          refine wp_region_lit ?_
          refine wl_yield (o := ⟨_, _, _, _, _, _⟩) (.int .i64 0) (yl_assign (by rfl) _ rfl _ rfl) ?_
          simp only [Act.put, List.setIfInBounds_toArray, List.set_cons_zero, List.set_cons_succ]
          refine wpList_nil ?_
          refine hK12 _ _ ?_
          clear hK12 K12
          refine wp_block ?_
          have E0 : txI S S.ints.length ++ [(bs ([126]))] = txS S 0 := by unfold txS; simp [hco]
          go_loopw [3, 6] (fun x i wr => ∃ (k : Nat) (p : Option Addr) (c : Nat), i = .int .i64 k ∧ k ≤ S.strs.length ∧ x = .slice p (txS S k).length c ∧ RowS wr w.heap.size (.slice p (txS S k).length c) (txS S k) ∧ wr.heap[g1]? = some (.cells #[.bool (S.absent), .slice pI S.ints.length cI, .bool (S.co), .slice pS S.strs.length cS] 25 (0, 0)) ∧ Env wr ∧ w.grownBy wr none) (fun _ i _ => S.strs.length - (intOf i).toNat)
          case atStart => exact ⟨0, p5, c5, rfl, by omega, (by rw [← E0]; try rfl), (by rw [← E0]; exact RP), G1, HE, D⟩
          case round =>
            clear D HE RP G1
            obtain ⟨k, p, c, rfl, hk, rfl, RP, G1, HE, D⟩ := hrel
            by_cases hlt : k < S.strs.length
            · obtain ⟨bI, oI, rfl, hc0⟩ := str_at hT D k hlt
              refine wp_seq_k (fun K13 hK13 => ?_)
              refine wp_seq_k (fun K14 hK14 => ?_)
              refine wp_region_lit ?_
              refine wl_yield (o := ⟨_, _, _, _, _, _⟩) (.int .i64 (k : Nat)) (yl_move (by rfl) _ rfl _ rfl) ?_
              simp only [Act.put, List.setIfInBounds_toArray, List.set_cons_zero, List.set_cons_succ]
              refine wl_yield (o := ⟨_, _, _, _, _, _⟩) (.pointer (some ⟨g1, 3, none⟩)) (yt_fSt3 (by rfl) _ rfl g1 0 rfl) ?_
              simp only [Act.put, List.setIfInBounds_toArray, List.set_cons_zero, List.set_cons_succ]
              refine wl_yield (o := ⟨_, _, _, _, _, _⟩) (.slice ((some ⟨bI, oI, none⟩)) S.strs.length cS) (yt_ldLs (by rfl) _ rfl _ _ rfl ((some ⟨bI, oI, none⟩)) S.strs.length cS (fun _ h => by subst h; exact cell_heap G1 3)) ?_
              simp only [Act.put, List.setIfInBounds_toArray, List.set_cons_zero, List.set_cons_succ]
              refine wl_yield (o := ⟨_, _, _, _, _, _⟩) (.int .i64 (S.strs.length : Nat)) (yt_lenT (by rfl) _ rfl ((some ⟨bI, oI, none⟩)) S.strs.length cS rfl) ?_
              simp only [Act.put, List.setIfInBounds_toArray, List.set_cons_zero, List.set_cons_succ]
              refine wl_yield (o := ⟨_, _, _, _, _, _⟩) (.bool true) (yt_lssI (by rfl) _ _ _ rfl (((k : Nat) : Int)) (((S.strs.length : Nat) : Int)) true rfl rfl (decide_eq_true (by omega))) ?_
              simp only [Act.put, List.setIfInBounds_toArray, List.set_cons_zero, List.set_cons_succ]
              refine wpList_nil ?_
              refine hK14 _ _ ?_
              clear hK14 K14
              refine wp_cond_true rfl ?_
              refine wp_skip ?_
              refine hK13 _ _ ?_
              clear hK13 K13
              refine wp_seq_k (fun K15 hK15 => ?_)
              refine wp_block ?_
              refine wp_region_lit ?_
              refine wl_yield (o := ⟨_, _, _, _, _, _⟩) (.slice p ((txS S k).length) c) (yl_move (by rfl) _ rfl _ rfl) ?_
              simp only [Act.put, List.setIfInBounds_toArray, List.set_cons_zero, List.set_cons_succ]
              refine wl_yield (o := ⟨_, _, _, _, _, _⟩) (.pointer (some ⟨g1, 3, none⟩)) (yt_fSt3 (by rfl) _ rfl g1 0 rfl) ?_
              simp only [Act.put, List.setIfInBounds_toArray, List.set_cons_zero, List.set_cons_succ]
              refine wl_yield (o := ⟨_, _, _, _, _, _⟩) (.slice ((some ⟨bI, oI, none⟩)) S.strs.length cS) (yt_ldLs (by rfl) _ rfl _ _ rfl ((some ⟨bI, oI, none⟩)) S.strs.length cS (fun _ h => by subst h; exact cell_heap G1 3)) ?_
              simp only [Act.put, List.setIfInBounds_toArray, List.set_cons_zero, List.set_cons_succ]
              refine wl_yield (o := ⟨_, _, _, _, _, _⟩) (.int .i64 (k : Nat)) (yl_move (by rfl) _ rfl _ rfl) ?_
              simp only [Act.put, List.setIfInBounds_toArray, List.set_cons_zero, List.set_cons_succ]
              refine wl_yield (o := ⟨_, _, _, _, _, _⟩) (.pointer (some ⟨bI, oI + k * 1, none⟩)) (yt_atT (by rfl) _ _ rfl bI oI _ _ k rfl rfl (hlt)) ?_
              simp only [Act.put, List.setIfInBounds_toArray, List.set_cons_zero, List.set_cons_succ]
              refine wl_yield (o := ⟨_, _, _, _, _, _⟩) (.string (S.strs.getD k ⟨#[]⟩)) (yt_ldS (by rfl) _ rfl _ _ rfl (S.strs.getD k ⟨#[]⟩) (fun _ h => by subst h; exact hc0)) ?_
              simp only [Act.put, List.setIfInBounds_toArray, List.set_cons_zero, List.set_cons_succ]
              refine wt_call (o := ⟨_, _, _, _, _, _⟩) (by rfl) 35 _ _ rfl #[.string (S.strs.getD k ⟨#[]⟩)] rfl (run_call Tryz.func35 (by kernel_rfl) (by kernel_rfl)) ?_
              refine (refQuote_any (S.strs.getD k ⟨#[]⟩) _ (h8 k hlt)).mono ?_
              rintro r v6 ⟨rfl, kb⟩
              replace D := grown_below D kb
              replace RP := ownsRow_on RP kb
              replace HE := HE.on kb
              replace G1 := heap_on G1 kb
              clear kb
              refine Or.inl ⟨.string (bs (quoteL (S.strs.getD k ⟨#[]⟩).data.toList)), rfl, ?_⟩
              simp only [Act.put, List.setIfInBounds_toArray, List.set_cons_zero, List.set_cons_succ]
              refine wt_row1S (o := ⟨_, _, _, _, _, _⟩) (by rfl) _ rfl (bs (quoteL (S.strs.getD k ⟨#[]⟩).data.toList)) rfl (fun v7 g7 hg G7 kb => ?_)
              have n_g1_g7 : g1 ≠ g7 := by have := lt_heap G1; omega
              have ge_g7 : w.heap.size ≤ g7 := Nat.le_trans D.size hg
              have six_g7 : 6 ≤ g7 := Nat.le_trans w6 ge_g7
              clear hg
              replace D := grown_below D kb
              replace RP := ownsRow_on RP kb
              replace HE := HE.on kb
              replace G1 := heap_on G1 kb
              clear kb
              simp only [Act.put, List.setIfInBounds_toArray, List.set_cons_zero, List.set_cons_succ]
              refine wt_appS (o := ⟨_, _, _, _, _, _⟩) (by rfl) _ _ rfl w.heap.size _ (txS S k) rfl RP _ (bs (quoteL (S.strs.getD k ⟨#[]⟩).data.toList)) rfl G7 ((by first | (simp; done) | (have := txI_len S k; omega) | (have := txS_len S k; omega) | (have := txI_len S S.ints.length; omega))) (D.size) (fun v8' v8 hrow kg hown => ?_)
              clear G7
              replace HE := Env.gro HE RP kg w6
              replace G1 := heap_gro G1 kg (own_ne RP G1 (by decide))
              replace D := gr_own D (fun g hg => Nat.le_trans (Nat.le_refl _) (World.ownsRow.lt RP g hg).1) kg
              clear kg hown
              replace RP := hrow
              clear hrow
              obtain ⟨p8, c8, rfl, -, -, -⟩ := ownsRow_form RP
              simp only [Act.put, List.setIfInBounds_toArray, List.set_cons_zero, List.set_cons_succ]
              refine wl_yield (o := ⟨_, _, _, _, _, _⟩) (.slice p8 ((txS S k ++ [(bs (quoteL (S.strs.getD k ⟨#[]⟩).data.toList))]).length) c8) (yl_assign (by rfl) _ rfl _ rfl) ?_
              simp only [Act.put, List.setIfInBounds_toArray, List.set_cons_zero, List.set_cons_succ]
              refine wpList_nil ?_
              refine hK15 _ _ ?_
              clear hK15 K15
              refine wp_region_lit ?_
              refine wl_yield (o := ⟨_, _, _, _, _, _⟩) (.int .i64 (k : Nat)) (yl_move (by rfl) _ rfl _ rfl) ?_
              simp only [Act.put, List.setIfInBounds_toArray, List.set_cons_zero, List.set_cons_succ]
              refine wl_yield (o := ⟨_, _, _, _, _, _⟩) (.int .i64 (k + 1 : Nat)) (yt_addI (by rfl) _ _ _ rfl (((k : Nat) : Int)) 1 (((k + 1 : Nat) : Int)) rfl rfl (by omega) (by omega) (by omega)) ?_
              simp only [Act.put, List.setIfInBounds_toArray, List.set_cons_zero, List.set_cons_succ]
              refine wl_yield (o := ⟨_, _, _, _, _, _⟩) (.int .i64 (k + 1 : Nat)) (yl_assign (by rfl) _ rfl _ rfl) ?_
              simp only [Act.put, List.setIfInBounds_toArray, List.set_cons_zero, List.set_cons_succ]
              refine wpList_nil ?_
              show _ ∧ _
              go_roundw
              case rel => exact ⟨k + 1, p8, c8, rfl, by omega, by rw [txS_step S k hlt], by rw [txS_step S k hlt]; exact RP, G1, HE, D⟩
              case measure => simp [intOf]; omega
            · obtain rfl : k = S.strs.length := by omega
              refine wp_seq_k (fun K13 hK13 => ?_)
              refine wp_seq_k (fun K14 hK14 => ?_)
              refine wp_region_lit ?_
              refine wl_yield (o := ⟨_, _, _, _, _, _⟩) (.int .i64 (S.strs.length : Nat)) (yl_move (by rfl) _ rfl _ rfl) ?_
              simp only [Act.put, List.setIfInBounds_toArray, List.set_cons_zero, List.set_cons_succ]
              refine wl_yield (o := ⟨_, _, _, _, _, _⟩) (.pointer (some ⟨g1, 3, none⟩)) (yt_fSt3 (by rfl) _ rfl g1 0 rfl) ?_
              simp only [Act.put, List.setIfInBounds_toArray, List.set_cons_zero, List.set_cons_succ]
              refine wl_yield (o := ⟨_, _, _, _, _, _⟩) (.slice pS S.strs.length cS) (yt_ldLs (by rfl) _ rfl _ _ rfl pS S.strs.length cS (fun _ h => by subst h; exact cell_heap G1 3)) ?_
              simp only [Act.put, List.setIfInBounds_toArray, List.set_cons_zero, List.set_cons_succ]
              refine wl_yield (o := ⟨_, _, _, _, _, _⟩) (.int .i64 (S.strs.length : Nat)) (yt_lenT (by rfl) _ rfl pS S.strs.length cS rfl) ?_
              simp only [Act.put, List.setIfInBounds_toArray, List.set_cons_zero, List.set_cons_succ]
              refine wl_yield (o := ⟨_, _, _, _, _, _⟩) (.bool false) (yt_lssI (by rfl) _ _ _ rfl (((S.strs.length : Nat) : Int)) (((S.strs.length : Nat) : Int)) false rfl rfl (decide_eq_false (by omega))) ?_
              simp only [Act.put, List.setIfInBounds_toArray, List.set_cons_zero, List.set_cons_succ]
              refine wpList_nil ?_
              refine hK14 _ _ ?_
              clear hK14 K14
              refine wp_cond_false rfl ?_
              refine wp_exit ?_
              refine hK11 _ _ ?_
              clear hK13 K13 hK11 K11
              refine wp_seq_k (fun K15 hK15 => ?_)
              refine wp_region_lit ?_
              refine wl_yield (o := ⟨_, _, _, _, _, _⟩) (.slice p ((txS S S.strs.length).length) c) (yl_move (by rfl) _ rfl _ rfl) ?_
              simp only [Act.put, List.setIfInBounds_toArray, List.set_cons_zero, List.set_cons_succ]
              refine wt_call (o := ⟨_, _, _, _, _, _⟩) (by rfl) 36 _ _ rfl #[.slice p ((txS S S.strs.length).length) c] rfl (run_call Tryz.func36 (by kernel_rfl) (by kernel_rfl)) ?_
              refine (refJoin7 _ RP (by have := txS_len S S.strs.length; omega) (by rw [txS_all]; exact hjl)).mono ?_
              rintro r v6 ⟨rfl, kb⟩
              replace D := grown_below D kb
              replace RP := ownsRow_on RP kb
              replace HE := HE.on kb
              replace G1 := heap_on G1 kb
              clear kb
              refine Or.inl ⟨.string (bs (joinL ((txS S S.strs.length).map (·.data.toList)))), rfl, ?_⟩
              simp only [Act.put, List.setIfInBounds_toArray, List.set_cons_zero, List.set_cons_succ]
              refine wl_yield (o := ⟨_, _, _, _, _, _⟩) (.string (bs (([91]) ++ (joinL ((txS S S.strs.length).map (·.data.toList)))))) (yt_cat (by rfl) _ _ _ rfl ([91]) (joinL ((txS S S.strs.length).map (·.data.toList))) rfl rfl (by first | (have t1 := itoa_le (S.ints.getD k (0, 0)).1 (by have := hb k hlt; omega) (by have := hb k hlt; omega); have t2 := itoa_le (S.ints.getD k (0, 0)).2 (by have := hb k hlt; omega) (by have := hb k hlt; omega); simp only [List.length_cons, List.length_append, List.length_nil]; omega) | (simp only [List.length_cons, List.length_append, List.length_nil]; omega))) ?_
              simp only [Act.put, List.setIfInBounds_toArray, List.set_cons_zero, List.set_cons_succ]
              refine wl_yield (o := ⟨_, _, _, _, _, _⟩) (.string (bs ((([91]) ++ (joinL ((txS S S.strs.length).map (·.data.toList)))) ++ ([93])))) (yt_cat (by rfl) _ _ _ rfl (([91]) ++ (joinL ((txS S S.strs.length).map (·.data.toList)))) ([93]) rfl rfl (by first | (have t1 := itoa_le (S.ints.getD k (0, 0)).1 (by have := hb k hlt; omega) (by have := hb k hlt; omega); have t2 := itoa_le (S.ints.getD k (0, 0)).2 (by have := hb k hlt; omega) (by have := hb k hlt; omega); simp only [List.length_cons, List.length_append, List.length_nil]; omega) | (simp only [List.length_cons, List.length_append, List.length_nil]; omega))) ?_
              simp only [Act.put, List.setIfInBounds_toArray, List.set_cons_zero, List.set_cons_succ]
              refine wl_yield (o := ⟨_, _, _, _, _, _⟩) (.string (bs ((([91]) ++ (joinL ((txS S S.strs.length).map (·.data.toList)))) ++ ([93])))) (yl_assign (by rfl) _ rfl _ rfl) ?_
              simp only [Act.put, List.setIfInBounds_toArray, List.set_cons_zero, List.set_cons_succ]
              refine wpList_nil ?_
              refine hK15 _ _ ?_
              clear hK15 K15
              refine wp_ret ?_
              have hj : bs ([91] ++ joinL ((txS S S.strs.length).map (·.data.toList)) ++ [93]) = bs (setTxt S) := by rw [txS_all]; rfl
              go_ret
              exact ⟨ret_str hj, below_none D⟩
        · have hco : S.co = false := hc
          refine wp_skip ?_
          refine hK9 _ _ ?_
          clear hK9 K9
          refine wp_seq_k (fun K11 hK11 => ?_)
          refine wp_seq_k (fun K12 hK12 => ?_)
          refine wp_region_lit ?_
          refine wl_yield (o := ⟨_, _, _, _, _, _⟩) (.int .i64 0) (yl_assign (by rfl) _ rfl _ rfl) ?_
          simp only [Act.put, List.setIfInBounds_toArray, List.set_cons_zero, List.set_cons_succ]
          refine wpList_nil ?_
          refine hK12 _ _ ?_
          clear hK12 K12
          refine wp_block ?_
          have E0 : txI S S.ints.length = txS S 0 := by unfold txS; simp [hco]
          go_loopw [3, 6] (fun x i wr => ∃ (k : Nat) (p : Option Addr) (c : Nat), i = .int .i64 k ∧ k ≤ S.strs.length ∧ x = .slice p (txS S k).length c ∧ RowS wr w.heap.size (.slice p (txS S k).length c) (txS S k) ∧ wr.heap[g1]? = some (.cells #[.bool (S.absent), .slice pI S.ints.length cI, .bool (S.co), .slice pS S.strs.length cS] 25 (0, 0)) ∧ Env wr ∧ w.grownBy wr none) (fun _ i _ => S.strs.length - (intOf i).toNat)
          case atStart => exact ⟨0, p, c, rfl, by omega, (by rw [← E0]; try rfl), (by rw [← E0]; exact RP), G1, HE, D⟩
          case round =>
            clear D HE RP G1
            obtain ⟨k, p, c, rfl, hk, rfl, RP, G1, HE, D⟩ := hrel
            by_cases hlt : k < S.strs.length
            · obtain ⟨bI, oI, rfl, hc0⟩ := str_at hT D k hlt
              refine wp_seq_k (fun K13 hK13 => ?_)
              refine wp_seq_k (fun K14 hK14 => ?_)
              refine wp_region_lit ?_
              refine wl_yield (o := ⟨_, _, _, _, _, _⟩) (.int .i64 (k : Nat)) (yl_move (by rfl) _ rfl _ rfl) ?_
              simp only [Act.put, List.setIfInBounds_toArray, List.set_cons_zero, List.set_cons_succ]
              refine wl_yield (o := ⟨_, _, _, _, _, _⟩) (.pointer (some ⟨g1, 3, none⟩)) (yt_fSt3 (by rfl) _ rfl g1 0 rfl) ?_
              simp only [Act.put, List.setIfInBounds_toArray, List.set_cons_zero, List.set_cons_succ]
              refine wl_yield (o := ⟨_, _, _, _, _, _⟩) (.slice ((some ⟨bI, oI, none⟩)) S.strs.length cS) (yt_ldLs (by rfl) _ rfl _ _ rfl ((some ⟨bI, oI, none⟩)) S.strs.length cS (fun _ h => by subst h; exact cell_heap G1 3)) ?_
              simp only [Act.put, List.setIfInBounds_toArray, List.set_cons_zero, List.set_cons_succ]
              refine wl_yield (o := ⟨_, _, _, _, _, _⟩) (.int .i64 (S.strs.length : Nat)) (yt_lenT (by rfl) _ rfl ((some ⟨bI, oI, none⟩)) S.strs.length cS rfl) ?_
              simp only [Act.put, List.setIfInBounds_toArray, List.set_cons_zero, List.set_cons_succ]
              refine wl_yield (o := ⟨_, _, _, _, _, _⟩) (.bool true) (yt_lssI (by rfl) _ _ _ rfl (((k : Nat) : Int)) (((S.strs.length : Nat) : Int)) true rfl rfl (decide_eq_true (by omega))) ?_
              simp only [Act.put, List.setIfInBounds_toArray, List.set_cons_zero, List.set_cons_succ]
              refine wpList_nil ?_
              refine hK14 _ _ ?_
              clear hK14 K14
              refine wp_cond_true rfl ?_
              refine wp_skip ?_
              refine hK13 _ _ ?_
              clear hK13 K13
              refine wp_seq_k (fun K15 hK15 => ?_)
              refine wp_block ?_
              refine wp_region_lit ?_
              refine wl_yield (o := ⟨_, _, _, _, _, _⟩) (.slice p ((txS S k).length) c) (yl_move (by rfl) _ rfl _ rfl) ?_
              simp only [Act.put, List.setIfInBounds_toArray, List.set_cons_zero, List.set_cons_succ]
              refine wl_yield (o := ⟨_, _, _, _, _, _⟩) (.pointer (some ⟨g1, 3, none⟩)) (yt_fSt3 (by rfl) _ rfl g1 0 rfl) ?_
              simp only [Act.put, List.setIfInBounds_toArray, List.set_cons_zero, List.set_cons_succ]
              refine wl_yield (o := ⟨_, _, _, _, _, _⟩) (.slice ((some ⟨bI, oI, none⟩)) S.strs.length cS) (yt_ldLs (by rfl) _ rfl _ _ rfl ((some ⟨bI, oI, none⟩)) S.strs.length cS (fun _ h => by subst h; exact cell_heap G1 3)) ?_
              simp only [Act.put, List.setIfInBounds_toArray, List.set_cons_zero, List.set_cons_succ]
              refine wl_yield (o := ⟨_, _, _, _, _, _⟩) (.int .i64 (k : Nat)) (yl_move (by rfl) _ rfl _ rfl) ?_
              simp only [Act.put, List.setIfInBounds_toArray, List.set_cons_zero, List.set_cons_succ]
              refine wl_yield (o := ⟨_, _, _, _, _, _⟩) (.pointer (some ⟨bI, oI + k * 1, none⟩)) (yt_atT (by rfl) _ _ rfl bI oI _ _ k rfl rfl (hlt)) ?_
              simp only [Act.put, List.setIfInBounds_toArray, List.set_cons_zero, List.set_cons_succ]
              refine wl_yield (o := ⟨_, _, _, _, _, _⟩) (.string (S.strs.getD k ⟨#[]⟩)) (yt_ldS (by rfl) _ rfl _ _ rfl (S.strs.getD k ⟨#[]⟩) (fun _ h => by subst h; exact hc0)) ?_
              simp only [Act.put, List.setIfInBounds_toArray, List.set_cons_zero, List.set_cons_succ]
              refine wt_call (o := ⟨_, _, _, _, _, _⟩) (by rfl) 35 _ _ rfl #[.string (S.strs.getD k ⟨#[]⟩)] rfl (run_call Tryz.func35 (by kernel_rfl) (by kernel_rfl)) ?_
              refine (refQuote_any (S.strs.getD k ⟨#[]⟩) _ (h8 k hlt)).mono ?_
              rintro r v4 ⟨rfl, kb⟩
              replace D := grown_below D kb
              replace RP := ownsRow_on RP kb
              replace HE := HE.on kb
              replace G1 := heap_on G1 kb
              clear kb
              refine Or.inl ⟨.string (bs (quoteL (S.strs.getD k ⟨#[]⟩).data.toList)), rfl, ?_⟩
              simp only [Act.put, List.setIfInBounds_toArray, List.set_cons_zero, List.set_cons_succ]
              refine wt_row1S (o := ⟨_, _, _, _, _, _⟩) (by rfl) _ rfl (bs (quoteL (S.strs.getD k ⟨#[]⟩).data.toList)) rfl (fun v5 g5 hg G5 kb => ?_)
              have n_g1_g5 : g1 ≠ g5 := by have := lt_heap G1; omega
              have ge_g5 : w.heap.size ≤ g5 := Nat.le_trans D.size hg
              have six_g5 : 6 ≤ g5 := Nat.le_trans w6 ge_g5
              clear hg
              replace D := grown_below D kb
              replace RP := ownsRow_on RP kb
              replace HE := HE.on kb
              replace G1 := heap_on G1 kb
              clear kb
              simp only [Act.put, List.setIfInBounds_toArray, List.set_cons_zero, List.set_cons_succ]
              refine wt_appS (o := ⟨_, _, _, _, _, _⟩) (by rfl) _ _ rfl w.heap.size _ (txS S k) rfl RP _ (bs (quoteL (S.strs.getD k ⟨#[]⟩).data.toList)) rfl G5 ((by first | (simp; done) | (have := txI_len S k; omega) | (have := txS_len S k; omega) | (have := txI_len S S.ints.length; omega))) (D.size) (fun v6' v6 hrow kg hown => ?_)
              clear G5
              replace HE := Env.gro HE RP kg w6
              replace G1 := heap_gro G1 kg (own_ne RP G1 (by decide))
              replace D := gr_own D (fun g hg => Nat.le_trans (Nat.le_refl _) (World.ownsRow.lt RP g hg).1) kg
              clear kg hown
              replace RP := hrow
              clear hrow
              obtain ⟨p6, c6, rfl, -, -, -⟩ := ownsRow_form RP
              simp only [Act.put, List.setIfInBounds_toArray, List.set_cons_zero, List.set_cons_succ]
              refine wl_yield (o := ⟨_, _, _, _, _, _⟩) (.slice p6 ((txS S k ++ [(bs (quoteL (S.strs.getD k ⟨#[]⟩).data.toList))]).length) c6) (yl_assign (by rfl) _ rfl _ rfl) ?_
              simp only [Act.put, List.setIfInBounds_toArray, List.set_cons_zero, List.set_cons_succ]
              refine wpList_nil ?_
              refine hK15 _ _ ?_
              clear hK15 K15
              refine wp_region_lit ?_
              refine wl_yield (o := ⟨_, _, _, _, _, _⟩) (.int .i64 (k : Nat)) (yl_move (by rfl) _ rfl _ rfl) ?_
              simp only [Act.put, List.setIfInBounds_toArray, List.set_cons_zero, List.set_cons_succ]
              refine wl_yield (o := ⟨_, _, _, _, _, _⟩) (.int .i64 (k + 1 : Nat)) (yt_addI (by rfl) _ _ _ rfl (((k : Nat) : Int)) 1 (((k + 1 : Nat) : Int)) rfl rfl (by omega) (by omega) (by omega)) ?_
              simp only [Act.put, List.setIfInBounds_toArray, List.set_cons_zero, List.set_cons_succ]
              refine wl_yield (o := ⟨_, _, _, _, _, _⟩) (.int .i64 (k + 1 : Nat)) (yl_assign (by rfl) _ rfl _ rfl) ?_
              simp only [Act.put, List.setIfInBounds_toArray, List.set_cons_zero, List.set_cons_succ]
              refine wpList_nil ?_
              show _ ∧ _
              go_roundw
              case rel => exact ⟨k + 1, p6, c6, rfl, by omega, by rw [txS_step S k hlt], by rw [txS_step S k hlt]; exact RP, G1, HE, D⟩
              case measure => simp [intOf]; omega
            · obtain rfl : k = S.strs.length := by omega
              refine wp_seq_k (fun K13 hK13 => ?_)
              refine wp_seq_k (fun K14 hK14 => ?_)
              refine wp_region_lit ?_
              refine wl_yield (o := ⟨_, _, _, _, _, _⟩) (.int .i64 (S.strs.length : Nat)) (yl_move (by rfl) _ rfl _ rfl) ?_
              simp only [Act.put, List.setIfInBounds_toArray, List.set_cons_zero, List.set_cons_succ]
              refine wl_yield (o := ⟨_, _, _, _, _, _⟩) (.pointer (some ⟨g1, 3, none⟩)) (yt_fSt3 (by rfl) _ rfl g1 0 rfl) ?_
              simp only [Act.put, List.setIfInBounds_toArray, List.set_cons_zero, List.set_cons_succ]
              refine wl_yield (o := ⟨_, _, _, _, _, _⟩) (.slice pS S.strs.length cS) (yt_ldLs (by rfl) _ rfl _ _ rfl pS S.strs.length cS (fun _ h => by subst h; exact cell_heap G1 3)) ?_
              simp only [Act.put, List.setIfInBounds_toArray, List.set_cons_zero, List.set_cons_succ]
              refine wl_yield (o := ⟨_, _, _, _, _, _⟩) (.int .i64 (S.strs.length : Nat)) (yt_lenT (by rfl) _ rfl pS S.strs.length cS rfl) ?_
              simp only [Act.put, List.setIfInBounds_toArray, List.set_cons_zero, List.set_cons_succ]
              refine wl_yield (o := ⟨_, _, _, _, _, _⟩) (.bool false) (yt_lssI (by rfl) _ _ _ rfl (((S.strs.length : Nat) : Int)) (((S.strs.length : Nat) : Int)) false rfl rfl (decide_eq_false (by omega))) ?_
              simp only [Act.put, List.setIfInBounds_toArray, List.set_cons_zero, List.set_cons_succ]
              refine wpList_nil ?_
              refine hK14 _ _ ?_
              clear hK14 K14
              refine wp_cond_false rfl ?_
              refine wp_exit ?_
              refine hK11 _ _ ?_
              clear hK13 K13 hK11 K11
              refine wp_seq_k (fun K15 hK15 => ?_)
              refine wp_region_lit ?_
              refine wl_yield (o := ⟨_, _, _, _, _, _⟩) (.slice p ((txS S S.strs.length).length) c) (yl_move (by rfl) _ rfl _ rfl) ?_
              simp only [Act.put, List.setIfInBounds_toArray, List.set_cons_zero, List.set_cons_succ]
              refine wt_call (o := ⟨_, _, _, _, _, _⟩) (by rfl) 36 _ _ rfl #[.slice p ((txS S S.strs.length).length) c] rfl (run_call Tryz.func36 (by kernel_rfl) (by kernel_rfl)) ?_
              refine (refJoin7 _ RP (by have := txS_len S S.strs.length; omega) (by rw [txS_all]; exact hjl)).mono ?_
              rintro r v4 ⟨rfl, kb⟩
              replace D := grown_below D kb
              replace RP := ownsRow_on RP kb
              replace HE := HE.on kb
              replace G1 := heap_on G1 kb
              clear kb
              refine Or.inl ⟨.string (bs (joinL ((txS S S.strs.length).map (·.data.toList)))), rfl, ?_⟩
              simp only [Act.put, List.setIfInBounds_toArray, List.set_cons_zero, List.set_cons_succ]
              refine wl_yield (o := ⟨_, _, _, _, _, _⟩) (.string (bs (([91]) ++ (joinL ((txS S S.strs.length).map (·.data.toList)))))) (yt_cat (by rfl) _ _ _ rfl ([91]) (joinL ((txS S S.strs.length).map (·.data.toList))) rfl rfl (by first | (have t1 := itoa_le (S.ints.getD k (0, 0)).1 (by have := hb k hlt; omega) (by have := hb k hlt; omega); have t2 := itoa_le (S.ints.getD k (0, 0)).2 (by have := hb k hlt; omega) (by have := hb k hlt; omega); simp only [List.length_cons, List.length_append, List.length_nil]; omega) | (simp only [List.length_cons, List.length_append, List.length_nil]; omega))) ?_
              simp only [Act.put, List.setIfInBounds_toArray, List.set_cons_zero, List.set_cons_succ]
              refine wl_yield (o := ⟨_, _, _, _, _, _⟩) (.string (bs ((([91]) ++ (joinL ((txS S S.strs.length).map (·.data.toList)))) ++ ([93])))) (yt_cat (by rfl) _ _ _ rfl (([91]) ++ (joinL ((txS S S.strs.length).map (·.data.toList)))) ([93]) rfl rfl (by first | (have t1 := itoa_le (S.ints.getD k (0, 0)).1 (by have := hb k hlt; omega) (by have := hb k hlt; omega); have t2 := itoa_le (S.ints.getD k (0, 0)).2 (by have := hb k hlt; omega) (by have := hb k hlt; omega); simp only [List.length_cons, List.length_append, List.length_nil]; omega) | (simp only [List.length_cons, List.length_append, List.length_nil]; omega))) ?_
              simp only [Act.put, List.setIfInBounds_toArray, List.set_cons_zero, List.set_cons_succ]
              refine wl_yield (o := ⟨_, _, _, _, _, _⟩) (.string (bs ((([91]) ++ (joinL ((txS S S.strs.length).map (·.data.toList)))) ++ ([93])))) (yl_assign (by rfl) _ rfl _ rfl) ?_
              simp only [Act.put, List.setIfInBounds_toArray, List.set_cons_zero, List.set_cons_succ]
              refine wpList_nil ?_
              refine hK15 _ _ ?_
              clear hK15 K15
              refine wp_ret ?_
              have hj : bs ([91] ++ joinL ((txS S S.strs.length).map (·.data.toList)) ++ [93]) = bs (setTxt S) := by rw [txS_all]; rfl
              go_ret
              exact ⟨ret_str hj, below_none D⟩
  · have hab : S.absent = false := hc
    refine wp_skip ?_
    refine hK3 _ _ ?_
    clear hK3 K3
    refine wp_seq_k (fun K5 hK5 => ?_)
    refine wp_seq_k (fun K6 hK6 => ?_)
    refine wp_region_lit ?_
    refine wl_yield (o := ⟨_, _, _, _, _, _⟩) (.int .i64 0) (yl_assign (by rfl) _ rfl _ rfl) ?_
    simp only [Act.put, List.setIfInBounds_toArray, List.set_cons_zero, List.set_cons_succ]
    refine wpList_nil ?_
    refine hK6 _ _ ?_
    clear hK6 K6
    refine wp_block ?_
    have E0 : [] = txI S 0 := by unfold txI; simp [hab]
    go_loopw [3, 4] (fun x i wr => ∃ (k : Nat) (p : Option Addr) (c : Nat), i = .int .i64 k ∧ k ≤ S.ints.length ∧ x = .slice p (txI S k).length c ∧ RowS wr w.heap.size (.slice p (txI S k).length c) (txI S k) ∧ wr.heap[g1]? = some (.cells #[.bool (S.absent), .slice pI S.ints.length cI, .bool (S.co), .slice pS S.strs.length cS] 25 (0, 0)) ∧ Env wr ∧ w.grownBy wr none) (fun _ i _ => S.ints.length - (intOf i).toNat)
    case atStart => exact ⟨0, none, 0, rfl, by omega, (by rw [← E0]; try rfl), (by rw [← E0]; exact RP), G1, HE, D⟩
    case round =>
      clear D HE RP G1
      obtain ⟨k, p, c, rfl, hk, rfl, RP, G1, HE, D⟩ := hrel
      by_cases hlt : k < S.ints.length
      · obtain ⟨bI, oI, rfl, hcc⟩ := rng_all hI k hlt
        refine wp_seq_k (fun K7 hK7 => ?_)
        refine wp_seq_k (fun K8 hK8 => ?_)
        refine wp_region_lit ?_
        refine wl_yield (o := ⟨_, _, _, _, _, _⟩) (.int .i64 (k : Nat)) (yl_move (by rfl) _ rfl _ rfl) ?_
        simp only [Act.put, List.setIfInBounds_toArray, List.set_cons_zero, List.set_cons_succ]
        refine wl_yield (o := ⟨_, _, _, _, _, _⟩) (.pointer (some ⟨g1, 1, none⟩)) (yt_fSt1 (by rfl) _ rfl g1 0 rfl) ?_
        simp only [Act.put, List.setIfInBounds_toArray, List.set_cons_zero, List.set_cons_succ]
        refine wl_yield (o := ⟨_, _, _, _, _, _⟩) (.slice ((some ⟨bI, oI, none⟩)) S.ints.length cI) (yt_ldLr (by rfl) _ rfl _ _ rfl ((some ⟨bI, oI, none⟩)) S.ints.length cI (fun _ h => by subst h; exact cell_heap G1 1)) ?_
        simp only [Act.put, List.setIfInBounds_toArray, List.set_cons_zero, List.set_cons_succ]
        refine wl_yield (o := ⟨_, _, _, _, _, _⟩) (.int .i64 (S.ints.length : Nat)) (yt_lenR (by rfl) _ rfl ((some ⟨bI, oI, none⟩)) S.ints.length cI rfl) ?_
        simp only [Act.put, List.setIfInBounds_toArray, List.set_cons_zero, List.set_cons_succ]
        refine wl_yield (o := ⟨_, _, _, _, _, _⟩) (.bool true) (yt_lssI (by rfl) _ _ _ rfl (((k : Nat) : Int)) (((S.ints.length : Nat) : Int)) true rfl rfl (decide_eq_true (by omega))) ?_
        simp only [Act.put, List.setIfInBounds_toArray, List.set_cons_zero, List.set_cons_succ]
        refine wpList_nil ?_
        refine hK8 _ _ ?_
        clear hK8 K8
        refine wp_cond_true rfl ?_
        refine wp_skip ?_
        refine hK7 _ _ ?_
        clear hK7 K7
        refine wp_seq_k (fun K9 hK9 => ?_)
        refine wp_block ?_
        refine wp_seq_k (fun K10 hK10 => ?_)
        refine wp_region_lit ?_
        refine wl_yield (o := ⟨_, _, _, _, _, _⟩) (.pointer (some ⟨g1, 1, none⟩)) (yt_fSt1 (by rfl) _ rfl g1 0 rfl) ?_
        simp only [Act.put, List.setIfInBounds_toArray, List.set_cons_zero, List.set_cons_succ]
        refine wl_yield (o := ⟨_, _, _, _, _, _⟩) (.slice ((some ⟨bI, oI, none⟩)) S.ints.length cI) (yt_ldLr (by rfl) _ rfl _ _ rfl ((some ⟨bI, oI, none⟩)) S.ints.length cI (fun _ h => by subst h; exact cell_heap G1 1)) ?_
        simp only [Act.put, List.setIfInBounds_toArray, List.set_cons_zero, List.set_cons_succ]
        refine wl_yield (o := ⟨_, _, _, _, _, _⟩) (.int .i64 (k : Nat)) (yl_move (by rfl) _ rfl _ rfl) ?_
        simp only [Act.put, List.setIfInBounds_toArray, List.set_cons_zero, List.set_cons_succ]
        refine wl_yield (o := ⟨_, _, _, _, _, _⟩) (.pointer (some ⟨bI, oI + k * 2, none⟩)) (yt_atR (by rfl) _ _ rfl bI oI _ _ k rfl rfl (hlt)) ?_
        simp only [Act.put, List.setIfInBounds_toArray, List.set_cons_zero, List.set_cons_succ]
        refine wl_yield (o := ⟨_, _, _, _, _, _⟩) (.pointer (some ⟨bI, oI + k * 2 + 0, none⟩)) (yt_fRg0 (by rfl) _ rfl bI (oI + k * 2) rfl) ?_
        simp only [Act.put, List.setIfInBounds_toArray, List.set_cons_zero, List.set_cons_succ]
        refine wl_yield (o := ⟨_, _, _, _, _, _⟩) (.int .i64 ((S.ints.getD k (0, 0)).1)) (yt_ldI (by rfl) _ rfl _ _ rfl (S.ints.getD k (0, 0)).1 (fun _ h => by subst h; exact (hcc _ D).1)) ?_
        simp only [Act.put, List.setIfInBounds_toArray, List.set_cons_zero, List.set_cons_succ]
        refine wt_call (o := ⟨_, _, _, _, _, _⟩) (by rfl) 34 _ _ rfl #[.int .i64 ((S.ints.getD k (0, 0)).1)] rfl (run_call Tryz.func34 (by kernel_rfl) (by kernel_rfl)) ?_
        refine (decimal_any (S.ints.getD k (0, 0)).1 (by have := hb k hlt; omega) (by have := hb k hlt; omega) _).mono ?_
        rintro r v2 ⟨rfl, kb⟩
        replace D := grown_below D kb
        replace RP := ownsRow_on RP kb
        replace HE := HE.on kb
        replace G1 := heap_on G1 kb
        clear kb
        refine Or.inl ⟨.string (bs (Lib.itoa (S.ints.getD k (0, 0)).1)), rfl, ?_⟩
        simp only [Act.put, List.setIfInBounds_toArray, List.set_cons_zero, List.set_cons_succ]
        refine wl_yield (o := ⟨_, _, _, _, _, _⟩) (.string (bs (Lib.itoa (S.ints.getD k (0, 0)).1))) (yl_assign (by rfl) _ rfl _ rfl) ?_
        simp only [Act.put, List.setIfInBounds_toArray, List.set_cons_zero, List.set_cons_succ]
        refine wpList_nil ?_
        refine hK10 _ _ ?_
        clear hK10 K10
        refine wp_seq_k (fun K11 hK11 => ?_)
        refine wp_seq_k (fun K12 hK12 => ?_)
        by_cases hlo : (S.ints.getD k (0, 0)).1 < (S.ints.getD k (0, 0)).2
        · have hrg := rg_yes hlo
          refine wp_region_late (S := fun w' => w'.heap[g1]? = some (.cells #[.bool (S.absent), .slice ((some ⟨bI, oI, none⟩)) S.ints.length cI, .bool (S.co), .slice pS S.strs.length cS] 25 (0, 0)) ∧ w'.cell? ⟨bI, oI + k * 2 + 0, none⟩ = some (.int .i64 (S.ints.getD k (0, 0)).1) ∧ w'.cell? ⟨bI, oI + k * 2 + 1, none⟩ = some (.int .i64 (S.ints.getD k (0, 0)).2)) (late := fun j => [].contains j) (by kernel_rfl) ?_
          have kb : Below v2.heap.size v2 v2.drew := (Below.refl _ v2).drew
          replace D := grown_below D kb
          replace RP := ownsRow_on RP kb
          replace HE := HE.on kb
          replace G1 := heap_on G1 kb
          clear kb
          generalize v2.drew = v3 at D HE G1 RP ⊢
          refine wpAnyL_pure (i := 0) (oi := ⟨_, _, _, _, _, _⟩) (v := .pointer (some ⟨g1, 1, none⟩)) rfl (by kernel_rfl) (by kernel_rfl) (by kernel_rfl) (fun _ _ _ h => h) (yt_fSt1 (by rfl) _ rfl g1 0 rfl) ?_
          simp only [Act.put, List.setIfInBounds_toArray, List.set_cons_zero, List.set_cons_succ]
          refine wpAnyL_load (i := 1) (oi := ⟨_, _, _, _, _, _⟩) (v := .slice ((some ⟨bI, oI, none⟩)) S.ints.length cI) rfl (by kernel_rfl) (by kernel_rfl) (by kernel_rfl) (by kernel_rfl) (fun _ _ _ h => h) (yt_ldLr (by rfl) _ rfl _ _ rfl ((some ⟨bI, oI, none⟩)) S.ints.length cI (fun _ h => cell_heap h.1 1)) ⟨G1, (hcc _ D).1, (hcc _ D).2⟩ ?_
          simp only [Act.put, List.setIfInBounds_toArray, List.set_cons_zero, List.set_cons_succ]
          refine wpAnyL_pure (i := 2) (oi := ⟨_, _, _, _, _, _⟩) (v := .int .i64 (k : Nat)) rfl (by kernel_rfl) (by kernel_rfl) (by kernel_rfl) (fun _ _ _ h => h) (yl_move (by rfl) _ rfl _ rfl) ?_
          simp only [Act.put, List.setIfInBounds_toArray, List.set_cons_zero, List.set_cons_succ]
          refine wpAnyL_pure (i := 3) (oi := ⟨_, _, _, _, _, _⟩) (v := .pointer (some ⟨bI, oI + k * 2, none⟩)) rfl (by kernel_rfl) (by kernel_rfl) (by kernel_rfl) (fun _ _ _ h => h) (yt_atR (by rfl) _ _ rfl bI oI _ _ k rfl rfl (hlt)) ?_
          simp only [Act.put, List.setIfInBounds_toArray, List.set_cons_zero, List.set_cons_succ]
          refine wpAnyL_pure (i := 4) (oi := ⟨_, _, _, _, _, _⟩) (v := .pointer (some ⟨bI, oI + k * 2 + 0, none⟩)) rfl (by kernel_rfl) (by kernel_rfl) (by kernel_rfl) (fun _ _ _ h => h) (yt_fRg0 (by rfl) _ rfl bI (oI + k * 2) rfl) ?_
          simp only [Act.put, List.setIfInBounds_toArray, List.set_cons_zero, List.set_cons_succ]
          refine wpAnyL_load (i := 5) (oi := ⟨_, _, _, _, _, _⟩) (v := .int .i64 ((S.ints.getD k (0, 0)).1)) rfl (by kernel_rfl) (by kernel_rfl) (by kernel_rfl) (by kernel_rfl) (fun _ _ _ h => h) (yt_ldI (by rfl) _ rfl _ _ rfl (S.ints.getD k (0, 0)).1 (fun _ h => h.2.1)) ⟨G1, (hcc _ D).1, (hcc _ D).2⟩ ?_
          simp only [Act.put, List.setIfInBounds_toArray, List.set_cons_zero, List.set_cons_succ]
          refine wpAnyL_pure (i := 6) (oi := ⟨_, _, _, _, _, _⟩) (v := .pointer (some ⟨g1, 1, none⟩)) rfl (by kernel_rfl) (by kernel_rfl) (by kernel_rfl) (fun _ _ _ h => h) (yt_fSt1 (by rfl) _ rfl g1 0 rfl) ?_
          simp only [Act.put, List.setIfInBounds_toArray, List.set_cons_zero, List.set_cons_succ]
          refine wpAnyL_load (i := 7) (oi := ⟨_, _, _, _, _, _⟩) (v := .slice ((some ⟨bI, oI, none⟩)) S.ints.length cI) rfl (by kernel_rfl) (by kernel_rfl) (by kernel_rfl) (by kernel_rfl) (fun _ _ _ h => h) (yt_ldLr (by rfl) _ rfl _ _ rfl ((some ⟨bI, oI, none⟩)) S.ints.length cI (fun _ h => cell_heap h.1 1)) ⟨G1, (hcc _ D).1, (hcc _ D).2⟩ ?_
          simp only [Act.put, List.setIfInBounds_toArray, List.set_cons_zero, List.set_cons_succ]
          refine wpAnyL_pure (i := 8) (oi := ⟨_, _, _, _, _, _⟩) (v := .int .i64 (k : Nat)) rfl (by kernel_rfl) (by kernel_rfl) (by kernel_rfl) (fun _ _ _ h => h) (yl_move (by rfl) _ rfl _ rfl) ?_
          simp only [Act.put, List.setIfInBounds_toArray, List.set_cons_zero, List.set_cons_succ]
          refine wpAnyL_pure (i := 9) (oi := ⟨_, _, _, _, _, _⟩) (v := .pointer (some ⟨bI, oI + k * 2, none⟩)) rfl (by kernel_rfl) (by kernel_rfl) (by kernel_rfl) (fun _ _ _ h => h) (yt_atR (by rfl) _ _ rfl bI oI _ _ k rfl rfl (hlt)) ?_
          simp only [Act.put, List.setIfInBounds_toArray, List.set_cons_zero, List.set_cons_succ]
          refine wpAnyL_pure (i := 10) (oi := ⟨_, _, _, _, _, _⟩) (v := .pointer (some ⟨bI, oI + k * 2 + 1, none⟩)) rfl (by kernel_rfl) (by kernel_rfl) (by kernel_rfl) (fun _ _ _ h => h) (yt_fRg1 (by rfl) _ rfl bI (oI + k * 2) rfl) ?_
          simp only [Act.put, List.setIfInBounds_toArray, List.set_cons_zero, List.set_cons_succ]
          refine wpAnyL_load (i := 11) (oi := ⟨_, _, _, _, _, _⟩) (v := .int .i64 ((S.ints.getD k (0, 0)).2)) rfl (by kernel_rfl) (by kernel_rfl) (by kernel_rfl) (by kernel_rfl) (fun _ _ _ h => h) (yt_ldI (by rfl) _ rfl _ _ rfl (S.ints.getD k (0, 0)).2 (fun _ h => h.2.2)) ⟨G1, (hcc _ D).1, (hcc _ D).2⟩ ?_
          simp only [Act.put, List.setIfInBounds_toArray, List.set_cons_zero, List.set_cons_succ]
          refine wpAnyL_pure (i := 12) (oi := ⟨_, _, _, _, _, _⟩) (v := .bool true) rfl (by kernel_rfl) (by kernel_rfl) (by kernel_rfl) (fun _ _ _ h => h) (yt_lssI (by rfl) _ _ _ rfl ((S.ints.getD k (0, 0)).1) ((S.ints.getD k (0, 0)).2) true rfl rfl (decide_eq_true (by omega))) ?_
          simp only [Act.put, List.setIfInBounds_toArray, List.set_cons_zero, List.set_cons_succ]
          refine wpAnyL_done (by kernel_rfl) ?_ _
          refine hK12 _ _ ?_
          clear hK12 K12
          refine wp_cond_true rfl ?_
          refine wp_region_lit ?_
          refine wl_yield (o := ⟨_, _, _, _, _, _⟩) (.string (bs (Lib.itoa (S.ints.getD k (0, 0)).1))) (yl_move (by rfl) _ rfl _ rfl) ?_
          simp only [Act.put, List.setIfInBounds_toArray, List.set_cons_zero, List.set_cons_succ]
          refine wl_yield (o := ⟨_, _, _, _, _, _⟩) (.pointer (some ⟨g1, 1, none⟩)) (yt_fSt1 (by rfl) _ rfl g1 0 rfl) ?_
          simp only [Act.put, List.setIfInBounds_toArray, List.set_cons_zero, List.set_cons_succ]
          refine wl_yield (o := ⟨_, _, _, _, _, _⟩) (.slice ((some ⟨bI, oI, none⟩)) S.ints.length cI) (yt_ldLr (by rfl) _ rfl _ _ rfl ((some ⟨bI, oI, none⟩)) S.ints.length cI (fun _ h => by subst h; exact cell_heap G1 1)) ?_
          simp only [Act.put, List.setIfInBounds_toArray, List.set_cons_zero, List.set_cons_succ]
          refine wl_yield (o := ⟨_, _, _, _, _, _⟩) (.int .i64 (k : Nat)) (yl_move (by rfl) _ rfl _ rfl) ?_
          simp only [Act.put, List.setIfInBounds_toArray, List.set_cons_zero, List.set_cons_succ]
          refine wl_yield (o := ⟨_, _, _, _, _, _⟩) (.pointer (some ⟨bI, oI + k * 2, none⟩)) (yt_atR (by rfl) _ _ rfl bI oI _ _ k rfl rfl (hlt)) ?_
          simp only [Act.put, List.setIfInBounds_toArray, List.set_cons_zero, List.set_cons_succ]
          refine wl_yield (o := ⟨_, _, _, _, _, _⟩) (.pointer (some ⟨bI, oI + k * 2 + 1, none⟩)) (yt_fRg1 (by rfl) _ rfl bI (oI + k * 2) rfl) ?_
          simp only [Act.put, List.setIfInBounds_toArray, List.set_cons_zero, List.set_cons_succ]
          refine wl_yield (o := ⟨_, _, _, _, _, _⟩) (.int .i64 ((S.ints.getD k (0, 0)).2)) (yt_ldI (by rfl) _ rfl _ _ rfl (S.ints.getD k (0, 0)).2 (fun _ h => by subst h; exact (hcc _ D).2)) ?_
          simp only [Act.put, List.setIfInBounds_toArray, List.set_cons_zero, List.set_cons_succ]
          refine wt_call (o := ⟨_, _, _, _, _, _⟩) (by rfl) 34 _ _ rfl #[.int .i64 ((S.ints.getD k (0, 0)).2)] rfl (run_call Tryz.func34 (by kernel_rfl) (by kernel_rfl)) ?_
          refine (decimal_any (S.ints.getD k (0, 0)).2 (by have := hb k hlt; omega) (by have := hb k hlt; omega) _).mono ?_
          rintro r v4 ⟨rfl, kb⟩
          replace D := grown_below D kb
          replace RP := ownsRow_on RP kb
          replace HE := HE.on kb
          replace G1 := heap_on G1 kb
          clear kb
          refine Or.inl ⟨.string (bs (Lib.itoa (S.ints.getD k (0, 0)).2)), rfl, ?_⟩
          simp only [Act.put, List.setIfInBounds_toArray, List.set_cons_zero, List.set_cons_succ]
          refine wl_yield (o := ⟨_, _, _, _, _, _⟩) (.string (bs (([46, 46]) ++ (Lib.itoa (S.ints.getD k (0, 0)).2)))) (yt_cat (by rfl) _ _ _ rfl ([46, 46]) (Lib.itoa (S.ints.getD k (0, 0)).2) rfl rfl (by first | (have t1 := itoa_le (S.ints.getD k (0, 0)).1 (by have := hb k hlt; omega) (by have := hb k hlt; omega); have t2 := itoa_le (S.ints.getD k (0, 0)).2 (by have := hb k hlt; omega) (by have := hb k hlt; omega); simp only [List.length_cons, List.length_append, List.length_nil]; omega) | (simp only [List.length_cons, List.length_append, List.length_nil]; omega))) ?_
          simp only [Act.put, List.setIfInBounds_toArray, List.set_cons_zero, List.set_cons_succ]
          refine wl_yield (o := ⟨_, _, _, _, _, _⟩) (.string (bs ((Lib.itoa (S.ints.getD k (0, 0)).1) ++ (([46, 46]) ++ (Lib.itoa (S.ints.getD k (0, 0)).2))))) (yt_cat (by rfl) _ _ _ rfl (Lib.itoa (S.ints.getD k (0, 0)).1) (([46, 46]) ++ (Lib.itoa (S.ints.getD k (0, 0)).2)) rfl rfl (by first | (have t1 := itoa_le (S.ints.getD k (0, 0)).1 (by have := hb k hlt; omega) (by have := hb k hlt; omega); have t2 := itoa_le (S.ints.getD k (0, 0)).2 (by have := hb k hlt; omega) (by have := hb k hlt; omega); simp only [List.length_cons, List.length_append, List.length_nil]; omega) | (simp only [List.length_cons, List.length_append, List.length_nil]; omega))) ?_
          simp only [Act.put, List.setIfInBounds_toArray, List.set_cons_zero, List.set_cons_succ]
          refine wl_yield (o := ⟨_, _, _, _, _, _⟩) (.string (bs ((Lib.itoa (S.ints.getD k (0, 0)).1) ++ (([46, 46]) ++ (Lib.itoa (S.ints.getD k (0, 0)).2))))) (yl_assign (by rfl) _ rfl _ rfl) ?_
          simp only [Act.put, List.setIfInBounds_toArray, List.set_cons_zero, List.set_cons_succ]
          refine wpList_nil ?_
          refine hK11 _ _ ?_
          clear hK11 K11
          refine wp_region_lit ?_
          refine wl_yield (o := ⟨_, _, _, _, _, _⟩) (.slice p ((txI S k).length) c) (yl_move (by rfl) _ rfl _ rfl) ?_
          simp only [Act.put, List.setIfInBounds_toArray, List.set_cons_zero, List.set_cons_succ]
          refine wl_yield (o := ⟨_, _, _, _, _, _⟩) (.string (bs ((Lib.itoa (S.ints.getD k (0, 0)).1) ++ (([46, 46]) ++ (Lib.itoa (S.ints.getD k (0, 0)).2))))) (yl_move (by rfl) _ rfl _ rfl) ?_
          simp only [Act.put, List.setIfInBounds_toArray, List.set_cons_zero, List.set_cons_succ]
          refine wt_row1S (o := ⟨_, _, _, _, _, _⟩) (by rfl) _ rfl (bs ((Lib.itoa (S.ints.getD k (0, 0)).1) ++ (([46, 46]) ++ (Lib.itoa (S.ints.getD k (0, 0)).2)))) rfl (fun v5 g5 hg G5 kb => ?_)
          have n_g1_g5 : g1 ≠ g5 := by have := lt_heap G1; omega
          have ge_g5 : w.heap.size ≤ g5 := Nat.le_trans D.size hg
          have six_g5 : 6 ≤ g5 := Nat.le_trans w6 ge_g5
          clear hg
          replace D := grown_below D kb
          replace RP := ownsRow_on RP kb
          replace HE := HE.on kb
          replace G1 := heap_on G1 kb
          clear kb
          simp only [Act.put, List.setIfInBounds_toArray, List.set_cons_zero, List.set_cons_succ]
          refine wt_appS (o := ⟨_, _, _, _, _, _⟩) (by rfl) _ _ rfl w.heap.size _ (txI S k) rfl RP _ (bs ((Lib.itoa (S.ints.getD k (0, 0)).1) ++ (([46, 46]) ++ (Lib.itoa (S.ints.getD k (0, 0)).2)))) rfl G5 ((by first | (simp; done) | (have := txI_len S k; omega) | (have := txS_len S k; omega) | (have := txI_len S S.ints.length; omega))) (D.size) (fun v6' v6 hrow kg hown => ?_)
          clear G5
          replace HE := Env.gro HE RP kg w6
          replace G1 := heap_gro G1 kg (own_ne RP G1 (by decide))
          replace D := gr_own D (fun g hg => Nat.le_trans (Nat.le_refl _) (World.ownsRow.lt RP g hg).1) kg
          clear kg hown
          replace RP := hrow
          clear hrow
          obtain ⟨p6, c6, rfl, -, -, -⟩ := ownsRow_form RP
          simp only [Act.put, List.setIfInBounds_toArray, List.set_cons_zero, List.set_cons_succ]
          refine wl_yield (o := ⟨_, _, _, _, _, _⟩) (.slice p6 ((txI S k ++ [(bs ((Lib.itoa (S.ints.getD k (0, 0)).1) ++ (([46, 46]) ++ (Lib.itoa (S.ints.getD k (0, 0)).2))))]).length) c6) (yl_assign (by rfl) _ rfl _ rfl) ?_
          simp only [Act.put, List.setIfInBounds_toArray, List.set_cons_zero, List.set_cons_succ]
          refine wpList_nil ?_
          refine hK9 _ _ ?_
          clear hK9 K9
          refine wp_region_lit ?_
          refine wl_yield (o := ⟨_, _, _, _, _, _⟩) (.int .i64 (k : Nat)) (yl_move (by rfl) _ rfl _ rfl) ?_
          simp only [Act.put, List.setIfInBounds_toArray, List.set_cons_zero, List.set_cons_succ]
          refine wl_yield (o := ⟨_, _, _, _, _, _⟩) (.int .i64 (k + 1 : Nat)) (yt_addI (by rfl) _ _ _ rfl (((k : Nat) : Int)) 1 (((k + 1 : Nat) : Int)) rfl rfl (by omega) (by omega) (by omega)) ?_
          simp only [Act.put, List.setIfInBounds_toArray, List.set_cons_zero, List.set_cons_succ]
          refine wl_yield (o := ⟨_, _, _, _, _, _⟩) (.int .i64 (k + 1 : Nat)) (yl_assign (by rfl) _ rfl _ rfl) ?_
          simp only [Act.put, List.setIfInBounds_toArray, List.set_cons_zero, List.set_cons_succ]
          refine wpList_nil ?_
          show _ ∧ _
          go_roundw
          case rel => exact ⟨k + 1, p6, c6, rfl, by omega, by rw [txI_step S k hlt, hrg], by rw [txI_step S k hlt, hrg]; exact RP, G1, HE, D⟩
          case measure => simp [intOf]; omega
        · have hrg := rg_no hlo
          refine wp_region_late (S := fun w' => w'.heap[g1]? = some (.cells #[.bool (S.absent), .slice ((some ⟨bI, oI, none⟩)) S.ints.length cI, .bool (S.co), .slice pS S.strs.length cS] 25 (0, 0)) ∧ w'.cell? ⟨bI, oI + k * 2 + 0, none⟩ = some (.int .i64 (S.ints.getD k (0, 0)).1) ∧ w'.cell? ⟨bI, oI + k * 2 + 1, none⟩ = some (.int .i64 (S.ints.getD k (0, 0)).2)) (late := fun j => [].contains j) (by kernel_rfl) ?_
          have kb : Below v2.heap.size v2 v2.drew := (Below.refl _ v2).drew
          replace D := grown_below D kb
          replace RP := ownsRow_on RP kb
          replace HE := HE.on kb
          replace G1 := heap_on G1 kb
          clear kb
          generalize v2.drew = v3 at D HE G1 RP ⊢
          refine wpAnyL_pure (i := 0) (oi := ⟨_, _, _, _, _, _⟩) (v := .pointer (some ⟨g1, 1, none⟩)) rfl (by kernel_rfl) (by kernel_rfl) (by kernel_rfl) (fun _ _ _ h => h) (yt_fSt1 (by rfl) _ rfl g1 0 rfl) ?_
          simp only [Act.put, List.setIfInBounds_toArray, List.set_cons_zero, List.set_cons_succ]
          refine wpAnyL_load (i := 1) (oi := ⟨_, _, _, _, _, _⟩) (v := .slice ((some ⟨bI, oI, none⟩)) S.ints.length cI) rfl (by kernel_rfl) (by kernel_rfl) (by kernel_rfl) (by kernel_rfl) (fun _ _ _ h => h) (yt_ldLr (by rfl) _ rfl _ _ rfl ((some ⟨bI, oI, none⟩)) S.ints.length cI (fun _ h => cell_heap h.1 1)) ⟨G1, (hcc _ D).1, (hcc _ D).2⟩ ?_
          simp only [Act.put, List.setIfInBounds_toArray, List.set_cons_zero, List.set_cons_succ]
          refine wpAnyL_pure (i := 2) (oi := ⟨_, _, _, _, _, _⟩) (v := .int .i64 (k : Nat)) rfl (by kernel_rfl) (by kernel_rfl) (by kernel_rfl) (fun _ _ _ h => h) (yl_move (by rfl) _ rfl _ rfl) ?_
          simp only [Act.put, List.setIfInBounds_toArray, List.set_cons_zero, List.set_cons_succ]
          refine wpAnyL_pure (i := 3) (oi := ⟨_, _, _, _, _, _⟩) (v := .pointer (some ⟨bI, oI + k * 2, none⟩)) rfl (by kernel_rfl) (by kernel_rfl) (by kernel_rfl) (fun _ _ _ h => h) (yt_atR (by rfl) _ _ rfl bI oI _ _ k rfl rfl (hlt)) ?_
          simp only [Act.put, List.setIfInBounds_toArray, List.set_cons_zero, List.set_cons_succ]
          refine wpAnyL_pure (i := 4) (oi := ⟨_, _, _, _, _, _⟩) (v := .pointer (some ⟨bI, oI + k * 2 + 0, none⟩)) rfl (by kernel_rfl) (by kernel_rfl) (by kernel_rfl) (fun _ _ _ h => h) (yt_fRg0 (by rfl) _ rfl bI (oI + k * 2) rfl) ?_
          simp only [Act.put, List.setIfInBounds_toArray, List.set_cons_zero, List.set_cons_succ]
          refine wpAnyL_load (i := 5) (oi := ⟨_, _, _, _, _, _⟩) (v := .int .i64 ((S.ints.getD k (0, 0)).1)) rfl (by kernel_rfl) (by kernel_rfl) (by kernel_rfl) (by kernel_rfl) (fun _ _ _ h => h) (yt_ldI (by rfl) _ rfl _ _ rfl (S.ints.getD k (0, 0)).1 (fun _ h => h.2.1)) ⟨G1, (hcc _ D).1, (hcc _ D).2⟩ ?_
          simp only [Act.put, List.setIfInBounds_toArray, List.set_cons_zero, List.set_cons_succ]
          refine wpAnyL_pure (i := 6) (oi := ⟨_, _, _, _, _, _⟩) (v := .pointer (some ⟨g1, 1, none⟩)) rfl (by kernel_rfl) (by kernel_rfl) (by kernel_rfl) (fun _ _ _ h => h) (yt_fSt1 (by rfl) _ rfl g1 0 rfl) ?_
          simp only [Act.put, List.setIfInBounds_toArray, List.set_cons_zero, List.set_cons_succ]
          refine wpAnyL_load (i := 7) (oi := ⟨_, _, _, _, _, _⟩) (v := .slice ((some ⟨bI, oI, none⟩)) S.ints.length cI) rfl (by kernel_rfl) (by kernel_rfl) (by kernel_rfl) (by kernel_rfl) (fun _ _ _ h => h) (yt_ldLr (by rfl) _ rfl _ _ rfl ((some ⟨bI, oI, none⟩)) S.ints.length cI (fun _ h => cell_heap h.1 1)) ⟨G1, (hcc _ D).1, (hcc _ D).2⟩ ?_
          simp only [Act.put, List.setIfInBounds_toArray, List.set_cons_zero, List.set_cons_succ]
          refine wpAnyL_pure (i := 8) (oi := ⟨_, _, _, _, _, _⟩) (v := .int .i64 (k : Nat)) rfl (by kernel_rfl) (by kernel_rfl) (by kernel_rfl) (fun _ _ _ h => h) (yl_move (by rfl) _ rfl _ rfl) ?_
          simp only [Act.put, List.setIfInBounds_toArray, List.set_cons_zero, List.set_cons_succ]
          refine wpAnyL_pure (i := 9) (oi := ⟨_, _, _, _, _, _⟩) (v := .pointer (some ⟨bI, oI + k * 2, none⟩)) rfl (by kernel_rfl) (by kernel_rfl) (by kernel_rfl) (fun _ _ _ h => h) (yt_atR (by rfl) _ _ rfl bI oI _ _ k rfl rfl (hlt)) ?_
          simp only [Act.put, List.setIfInBounds_toArray, List.set_cons_zero, List.set_cons_succ]
          refine wpAnyL_pure (i := 10) (oi := ⟨_, _, _, _, _, _⟩) (v := .pointer (some ⟨bI, oI + k * 2 + 1, none⟩)) rfl (by kernel_rfl) (by kernel_rfl) (by kernel_rfl) (fun _ _ _ h => h) (yt_fRg1 (by rfl) _ rfl bI (oI + k * 2) rfl) ?_
          simp only [Act.put, List.setIfInBounds_toArray, List.set_cons_zero, List.set_cons_succ]
          refine wpAnyL_load (i := 11) (oi := ⟨_, _, _, _, _, _⟩) (v := .int .i64 ((S.ints.getD k (0, 0)).2)) rfl (by kernel_rfl) (by kernel_rfl) (by kernel_rfl) (by kernel_rfl) (fun _ _ _ h => h) (yt_ldI (by rfl) _ rfl _ _ rfl (S.ints.getD k (0, 0)).2 (fun _ h => h.2.2)) ⟨G1, (hcc _ D).1, (hcc _ D).2⟩ ?_
          simp only [Act.put, List.setIfInBounds_toArray, List.set_cons_zero, List.set_cons_succ]
          refine wpAnyL_pure (i := 12) (oi := ⟨_, _, _, _, _, _⟩) (v := .bool false) rfl (by kernel_rfl) (by kernel_rfl) (by kernel_rfl) (fun _ _ _ h => h) (yt_lssI (by rfl) _ _ _ rfl ((S.ints.getD k (0, 0)).1) ((S.ints.getD k (0, 0)).2) false rfl rfl (decide_eq_false (by omega))) ?_
          simp only [Act.put, List.setIfInBounds_toArray, List.set_cons_zero, List.set_cons_succ]
          refine wpAnyL_done (by kernel_rfl) ?_ _
          refine hK12 _ _ ?_
          clear hK12 K12
          refine wp_cond_false rfl ?_
          refine wp_skip ?_
          refine hK11 _ _ ?_
          clear hK11 K11
          refine wp_region_lit ?_
          refine wl_yield (o := ⟨_, _, _, _, _, _⟩) (.slice p ((txI S k).length) c) (yl_move (by rfl) _ rfl _ rfl) ?_
          simp only [Act.put, List.setIfInBounds_toArray, List.set_cons_zero, List.set_cons_succ]
          refine wl_yield (o := ⟨_, _, _, _, _, _⟩) (.string (bs (Lib.itoa (S.ints.getD k (0, 0)).1))) (yl_move (by rfl) _ rfl _ rfl) ?_
          simp only [Act.put, List.setIfInBounds_toArray, List.set_cons_zero, List.set_cons_succ]
          refine wt_row1S (o := ⟨_, _, _, _, _, _⟩) (by rfl) _ rfl (bs (Lib.itoa (S.ints.getD k (0, 0)).1)) rfl (fun v4 g4 hg G4 kb => ?_)
          have n_g1_g4 : g1 ≠ g4 := by have := lt_heap G1; omega
          have ge_g4 : w.heap.size ≤ g4 := Nat.le_trans D.size hg
          have six_g4 : 6 ≤ g4 := Nat.le_trans w6 ge_g4
          clear hg
          replace D := grown_below D kb
          replace RP := ownsRow_on RP kb
          replace HE := HE.on kb
          replace G1 := heap_on G1 kb
          clear kb
          simp only [Act.put, List.setIfInBounds_toArray, List.set_cons_zero, List.set_cons_succ]
          refine wt_appS (o := ⟨_, _, _, _, _, _⟩) (by rfl) _ _ rfl w.heap.size _ (txI S k) rfl RP _ (bs (Lib.itoa (S.ints.getD k (0, 0)).1)) rfl G4 ((by first | (simp; done) | (have := txI_len S k; omega) | (have := txS_len S k; omega) | (have := txI_len S S.ints.length; omega))) (D.size) (fun v5' v5 hrow kg hown => ?_)
          clear G4
          replace HE := Env.gro HE RP kg w6
          replace G1 := heap_gro G1 kg (own_ne RP G1 (by decide))
          replace D := gr_own D (fun g hg => Nat.le_trans (Nat.le_refl _) (World.ownsRow.lt RP g hg).1) kg
          clear kg hown
          replace RP := hrow
          clear hrow
          obtain ⟨p5, c5, rfl, -, -, -⟩ := ownsRow_form RP
          simp only [Act.put, List.setIfInBounds_toArray, List.set_cons_zero, List.set_cons_succ]
          refine wl_yield (o := ⟨_, _, _, _, _, _⟩) (.slice p5 ((txI S k ++ [(bs (Lib.itoa (S.ints.getD k (0, 0)).1))]).length) c5) (yl_assign (by rfl) _ rfl _ rfl) ?_
          simp only [Act.put, List.setIfInBounds_toArray, List.set_cons_zero, List.set_cons_succ]
          refine wpList_nil ?_
          refine hK9 _ _ ?_
          clear hK9 K9
          refine wp_region_lit ?_
          refine wl_yield (o := ⟨_, _, _, _, _, _⟩) (.int .i64 (k : Nat)) (yl_move (by rfl) _ rfl _ rfl) ?_
          simp only [Act.put, List.setIfInBounds_toArray, List.set_cons_zero, List.set_cons_succ]
          refine wl_yield (o := ⟨_, _, _, _, _, _⟩) (.int .i64 (k + 1 : Nat)) (yt_addI (by rfl) _ _ _ rfl (((k : Nat) : Int)) 1 (((k + 1 : Nat) : Int)) rfl rfl (by omega) (by omega) (by omega)) ?_
          simp only [Act.put, List.setIfInBounds_toArray, List.set_cons_zero, List.set_cons_succ]
          refine wl_yield (o := ⟨_, _, _, _, _, _⟩) (.int .i64 (k + 1 : Nat)) (yl_assign (by rfl) _ rfl _ rfl) ?_
          simp only [Act.put, List.setIfInBounds_toArray, List.set_cons_zero, List.set_cons_succ]
          refine wpList_nil ?_
          show _ ∧ _
          go_roundw
          case rel => exact ⟨k + 1, p5, c5, rfl, by omega, by rw [txI_step S k hlt, hrg], by rw [txI_step S k hlt, hrg]; exact RP, G1, HE, D⟩
          case measure => simp [intOf]; omega
      · obtain rfl : k = S.ints.length := by omega
        refine wp_seq_k (fun K7 hK7 => ?_)
        refine wp_seq_k (fun K8 hK8 => ?_)
        refine wp_region_lit ?_
        refine wl_yield (o := ⟨_, _, _, _, _, _⟩) (.int .i64 (S.ints.length : Nat)) (yl_move (by rfl) _ rfl _ rfl) ?_
        simp only [Act.put, List.setIfInBounds_toArray, List.set_cons_zero, List.set_cons_succ]
        refine wl_yield (o := ⟨_, _, _, _, _, _⟩) (.pointer (some ⟨g1, 1, none⟩)) (yt_fSt1 (by rfl) _ rfl g1 0 rfl) ?_
        simp only [Act.put, List.setIfInBounds_toArray, List.set_cons_zero, List.set_cons_succ]
        refine wl_yield (o := ⟨_, _, _, _, _, _⟩) (.slice pI S.ints.length cI) (yt_ldLr (by rfl) _ rfl _ _ rfl pI S.ints.length cI (fun _ h => by subst h; exact cell_heap G1 1)) ?_
        simp only [Act.put, List.setIfInBounds_toArray, List.set_cons_zero, List.set_cons_succ]
        refine wl_yield (o := ⟨_, _, _, _, _, _⟩) (.int .i64 (S.ints.length : Nat)) (yt_lenR (by rfl) _ rfl pI S.ints.length cI rfl) ?_
        simp only [Act.put, List.setIfInBounds_toArray, List.set_cons_zero, List.set_cons_succ]
        refine wl_yield (o := ⟨_, _, _, _, _, _⟩) (.bool false) (yt_lssI (by rfl) _ _ _ rfl (((S.ints.length : Nat) : Int)) (((S.ints.length : Nat) : Int)) false rfl rfl (decide_eq_false (by omega))) ?_
        simp only [Act.put, List.setIfInBounds_toArray, List.set_cons_zero, List.set_cons_succ]
        refine wpList_nil ?_
        refine hK8 _ _ ?_
        clear hK8 K8
        refine wp_cond_false rfl ?_
        refine wp_exit ?_
        refine hK5 _ _ ?_
        clear hK7 K7 hK5 K5
        refine wp_seq_k (fun K9 hK9 => ?_)
        refine wp_seq_k (fun K10 hK10 => ?_)
        refine wp_region_lit ?_
        refine wl_yield (o := ⟨_, _, _, _, _, _⟩) (.pointer (some ⟨g1, 2, none⟩)) (yt_fSt2 (by rfl) _ rfl g1 0 rfl) ?_
        simp only [Act.put, List.setIfInBounds_toArray, List.set_cons_zero, List.set_cons_succ]
        refine wl_yield (o := ⟨_, _, _, _, _, _⟩) (.bool (S.co)) (yt_ldB (by rfl) _ rfl _ _ rfl S.co (fun _ h => by subst h; exact cell_heap G1 2)) ?_
        simp only [Act.put, List.setIfInBounds_toArray, List.set_cons_zero, List.set_cons_succ]
        refine wpList_nil ?_
        refine hK10 _ _ ?_
        clear hK10 K10
        refine wp_cond_split (t := S.co) rfl (fun hc => ?_) (fun hc => ?_)
        · have hco : S.co = true := hc
          refine wp_region_lit ?_
          refine wl_yield (o := ⟨_, _, _, _, _, _⟩) (.slice p ((txI S S.ints.length).length) c) (yl_move (by rfl) _ rfl _ rfl) ?_
          simp only [Act.put, List.setIfInBounds_toArray, List.set_cons_zero, List.set_cons_succ]
          refine wt_row1S (o := ⟨_, _, _, _, _, _⟩) (by rfl) _ rfl (bs ([126])) rfl (fun v2 g2 hg G2 kb => ?_)
          have n_g1_g2 : g1 ≠ g2 := by have := lt_heap G1; omega
          have ge_g2 : w.heap.size ≤ g2 := Nat.le_trans D.size hg
          have six_g2 : 6 ≤ g2 := Nat.le_trans w6 ge_g2
          clear hg
          replace D := grown_below D kb
          replace RP := ownsRow_on RP kb
          replace HE := HE.on kb
          replace G1 := heap_on G1 kb
          clear kb
          simp only [Act.put, List.setIfInBounds_toArray, List.set_cons_zero, List.set_cons_succ]
          refine wt_appS (o := ⟨_, _, _, _, _, _⟩) (by rfl) _ _ rfl w.heap.size _ (txI S S.ints.length) rfl RP _ (bs ([126])) rfl G2 ((by first | (simp; done) | (have := txI_len S k; omega) | (have := txS_len S k; omega) | (have := txI_len S S.ints.length; omega))) (D.size) (fun v3' v3 hrow kg hown => ?_)
          clear G2
          replace HE := Env.gro HE RP kg w6
          replace G1 := heap_gro G1 kg (own_ne RP G1 (by decide))
          replace D := gr_own D (fun g hg => Nat.le_trans (Nat.le_refl _) (World.ownsRow.lt RP g hg).1) kg
          clear kg hown
          replace RP := hrow
          clear hrow
          obtain ⟨p3, c3, rfl, -, -, -⟩ := ownsRow_form RP
          simp only [Act.put, List.setIfInBounds_toArray, List.set_cons_zero, List.set_cons_succ]
          refine wl_yield (o := ⟨_, _, _, _, _, _⟩) (.slice p3 ((txI S S.ints.length ++ [(bs ([126]))]).length) c3) (yl_assign (by rfl) _ rfl _ rfl) ?_
          simp only [Act.put, List.setIfInBounds_toArray, List.set_cons_zero, List.set_cons_succ]
          refine wpList_nil ?_
          refine hK9 _ _ ?_
          clear hK9 K9
          refine wp_seq_k (fun K11 hK11 => ?_)
          refine wp_seq_k (fun K12 hK12 => ?_)
          refine wp_region_lit ?_
          refine wl_yield (o := ⟨_, _, _, _, _, _⟩) (.int .i64 0) (yl_assign (by rfl) _ rfl _ rfl) ?_
          simp only [Act.put, List.setIfInBounds_toArray, List.set_cons_zero, List.set_cons_succ]
          refine wpList_nil ?_
          refine hK12 _ _ ?_
          clear hK12 K12
          refine wp_block ?_
          have E0 : txI S S.ints.length ++ [(bs ([126]))] = txS S 0 := by unfold txS; simp [hco]
          go_loopw [3, 6] (fun x i wr => ∃ (k : Nat) (p : Option Addr) (c : Nat), i = .int .i64 k ∧ k ≤ S.strs.length ∧ x = .slice p (txS S k).length c ∧ RowS wr w.heap.size (.slice p (txS S k).length c) (txS S k) ∧ wr.heap[g1]? = some (.cells #[.bool (S.absent), .slice pI S.ints.length cI, .bool (S.co), .slice pS S.strs.length cS] 25 (0, 0)) ∧ Env wr ∧ w.grownBy wr none) (fun _ i _ => S.strs.length - (intOf i).toNat)
          case atStart => exact ⟨0, p3, c3, rfl, by omega, (by rw [← E0]; try rfl), (by rw [← E0]; exact RP), G1, HE, D⟩
          case round =>
            clear D HE RP G1
            obtain ⟨k, p, c, rfl, hk, rfl, RP, G1, HE, D⟩ := hrel
            by_cases hlt : k < S.strs.length
            · obtain ⟨bI, oI, rfl, hc0⟩ := str_at hT D k hlt
              refine wp_seq_k (fun K13 hK13 => ?_)
              refine wp_seq_k (fun K14 hK14 => ?_)
              refine wp_region_lit ?_
              refine wl_yield (o := ⟨_, _, _, _, _, _⟩) (.int .i64 (k : Nat)) (yl_move (by rfl) _ rfl _ rfl) ?_
              simp only [Act.put, List.setIfInBounds_toArray, List.set_cons_zero, List.set_cons_succ]
              refine wl_yield (o := ⟨_, _, _, _, _, _⟩) (.pointer (some ⟨g1, 3, none⟩)) (yt_fSt3 (by rfl) _ rfl g1 0 rfl) ?_
              simp only [Act.put, List.setIfInBounds_toArray, List.set_cons_zero, List.set_cons_succ]
              refine wl_yield (o := ⟨_, _, _, _, _, _⟩) (.slice ((some ⟨bI, oI, none⟩)) S.strs.length cS) (yt_ldLs (by rfl) _ rfl _ _ rfl ((some ⟨bI, oI, none⟩)) S.strs.length cS (fun _ h => by subst h; exact cell_heap G1 3)) ?_
              simp only [Act.put, List.setIfInBounds_toArray, List.set_cons_zero, List.set_cons_succ]
              refine wl_yield (o := ⟨_, _, _, _, _, _⟩) (.int .i64 (S.strs.length : Nat)) (yt_lenT (by rfl) _ rfl ((some ⟨bI, oI, none⟩)) S.strs.length cS rfl) ?_
              simp only [Act.put, List.setIfInBounds_toArray, List.set_cons_zero, List.set_cons_succ]
              refine wl_yield (o := ⟨_, _, _, _, _, _⟩) (.bool true) (yt_lssI (by rfl) _ _ _ rfl (((k : Nat) : Int)) (((S.strs.length : Nat) : Int)) true rfl rfl (decide_eq_true (by omega))) ?_
              simp only [Act.put, List.setIfInBounds_toArray, List.set_cons_zero, List.set_cons_succ]
              refine wpList_nil ?_
              refine hK14 _ _ ?_
              clear hK14 K14
              refine wp_cond_true rfl ?_
              refine wp_skip ?_
              refine hK13 _ _ ?_
              clear hK13 K13
              refine wp_seq_k (fun K15 hK15 => ?_)
              refine wp_block ?_
              refine wp_region_lit ?_
              refine wl_yield (o := ⟨_, _, _, _, _, _⟩) (.slice p ((txS S k).length) c) (yl_move (by rfl) _ rfl _ rfl) ?_
              simp only [Act.put, List.setIfInBounds_toArray, List.set_cons_zero, List.set_cons_succ]
              refine wl_yield (o := ⟨_, _, _, _, _, _⟩) (.pointer (some ⟨g1, 3, none⟩)) (yt_fSt3 (by rfl) _ rfl g1 0 rfl) ?_
              simp only [Act.put, List.setIfInBounds_toArray, List.set_cons_zero, List.set_cons_succ]
              refine wl_yield (o := ⟨_, _, _, _, _, _⟩) (.slice ((some ⟨bI, oI, none⟩)) S.strs.length cS) (yt_ldLs (by rfl) _ rfl _ _ rfl ((some ⟨bI, oI, none⟩)) S.strs.length cS (fun _ h => by subst h; exact cell_heap G1 3)) ?_
              simp only [Act.put, List.setIfInBounds_toArray, List.set_cons_zero, List.set_cons_succ]
              refine wl_yield (o := ⟨_, _, _, _, _, _⟩) (.int .i64 (k : Nat)) (yl_move (by rfl) _ rfl _ rfl) ?_
              simp only [Act.put, List.setIfInBounds_toArray, List.set_cons_zero, List.set_cons_succ]
              refine wl_yield (o := ⟨_, _, _, _, _, _⟩) (.pointer (some ⟨bI, oI + k * 1, none⟩)) (yt_atT (by rfl) _ _ rfl bI oI _ _ k rfl rfl (hlt)) ?_
              simp only [Act.put, List.setIfInBounds_toArray, List.set_cons_zero, List.set_cons_succ]
              refine wl_yield (o := ⟨_, _, _, _, _, _⟩) (.string (S.strs.getD k ⟨#[]⟩)) (yt_ldS (by rfl) _ rfl _ _ rfl (S.strs.getD k ⟨#[]⟩) (fun _ h => by subst h; exact hc0)) ?_
              simp only [Act.put, List.setIfInBounds_toArray, List.set_cons_zero, List.set_cons_succ]
              refine wt_call (o := ⟨_, _, _, _, _, _⟩) (by rfl) 35 _ _ rfl #[.string (S.strs.getD k ⟨#[]⟩)] rfl (run_call Tryz.func35 (by kernel_rfl) (by kernel_rfl)) ?_
              refine (refQuote_any (S.strs.getD k ⟨#[]⟩) _ (h8 k hlt)).mono ?_
              rintro r v4 ⟨rfl, kb⟩
              replace D := grown_below D kb
              replace RP := ownsRow_on RP kb
              replace HE := HE.on kb
              replace G1 := heap_on G1 kb
              clear kb
              refine Or.inl ⟨.string (bs (quoteL (S.strs.getD k ⟨#[]⟩).data.toList)), rfl, ?_⟩
              simp only [Act.put, List.setIfInBounds_toArray, List.set_cons_zero, List.set_cons_succ]
              refine wt_row1S (o := ⟨_, _, _, _, _, _⟩) (by rfl) _ rfl (bs (quoteL (S.strs.getD k ⟨#[]⟩).data.toList)) rfl (fun v5 g5 hg G5 kb => ?_)
              have n_g1_g5 : g1 ≠ g5 := by have := lt_heap G1; omega
              have ge_g5 : w.heap.size ≤ g5 := Nat.le_trans D.size hg
              have six_g5 : 6 ≤ g5 := Nat.le_trans w6 ge_g5
              clear hg
              replace D := grown_below D kb
              replace RP := ownsRow_on RP kb
              replace HE := HE.on kb
              replace G1 := heap_on G1 kb
              clear kb
              simp only [Act.put, List.setIfInBounds_toArray, List.set_cons_zero, List.set_cons_succ]
              refine wt_appS (o := ⟨_, _, _, _, _, _⟩) (by rfl) _ _ rfl w.heap.size _ (txS S k) rfl RP _ (bs (quoteL (S.strs.getD k ⟨#[]⟩).data.toList)) rfl G5 ((by first | (simp; done) | (have := txI_len S k; omega) | (have := txS_len S k; omega) | (have := txI_len S S.ints.length; omega))) (D.size) (fun v6' v6 hrow kg hown => ?_)
              clear G5
              replace HE := Env.gro HE RP kg w6
              replace G1 := heap_gro G1 kg (own_ne RP G1 (by decide))
              replace D := gr_own D (fun g hg => Nat.le_trans (Nat.le_refl _) (World.ownsRow.lt RP g hg).1) kg
              clear kg hown
              replace RP := hrow
              clear hrow
              obtain ⟨p6, c6, rfl, -, -, -⟩ := ownsRow_form RP
              simp only [Act.put, List.setIfInBounds_toArray, List.set_cons_zero, List.set_cons_succ]
              refine wl_yield (o := ⟨_, _, _, _, _, _⟩) (.slice p6 ((txS S k ++ [(bs (quoteL (S.strs.getD k ⟨#[]⟩).data.toList))]).length) c6) (yl_assign (by rfl) _ rfl _ rfl) ?_
              simp only [Act.put, List.setIfInBounds_toArray, List.set_cons_zero, List.set_cons_succ]
              refine wpList_nil ?_
              refine hK15 _ _ ?_
              clear hK15 K15
              refine wp_region_lit ?_
              refine wl_yield (o := ⟨_, _, _, _, _, _⟩) (.int .i64 (k : Nat)) (yl_move (by rfl) _ rfl _ rfl) ?_
              simp only [Act.put, List.setIfInBounds_toArray, List.set_cons_zero, List.set_cons_succ]
              refine wl_yield (o := ⟨_, _, _, _, _, _⟩) (.int .i64 (k + 1 : Nat)) (yt_addI (by rfl) _ _ _ rfl (((k : Nat) : Int)) 1 (((k + 1 : Nat) : Int)) rfl rfl (by omega) (by omega) (by omega)) ?_
              simp only [Act.put, List.setIfInBounds_toArray, List.set_cons_zero, List.set_cons_succ]
              refine wl_yield (o := ⟨_, _, _, _, _, _⟩) (.int .i64 (k + 1 : Nat)) (yl_assign (by rfl) _ rfl _ rfl) ?_
              simp only [Act.put, List.setIfInBounds_toArray, List.set_cons_zero, List.set_cons_succ]
              refine wpList_nil ?_
              show _ ∧ _
              go_roundw
              case rel => exact ⟨k + 1, p6, c6, rfl, by omega, by rw [txS_step S k hlt], by rw [txS_step S k hlt]; exact RP, G1, HE, D⟩
              case measure => simp [intOf]; omega
            · obtain rfl : k = S.strs.length := by omega
              refine wp_seq_k (fun K13 hK13 => ?_)
              refine wp_seq_k (fun K14 hK14 => ?_)
              refine wp_region_lit ?_
              refine wl_yield (o := ⟨_, _, _, _, _, _⟩) (.int .i64 (S.strs.length : Nat)) (yl_move (by rfl) _ rfl _ rfl) ?_
              simp only [Act.put, List.setIfInBounds_toArray, List.set_cons_zero, List.set_cons_succ]
              refine wl_yield (o := ⟨_, _, _, _, _, _⟩) (.pointer (some ⟨g1, 3, none⟩)) (yt_fSt3 (by rfl) _ rfl g1 0 rfl) ?_
              simp only [Act.put, List.setIfInBounds_toArray, List.set_cons_zero, List.set_cons_succ]
              refine wl_yield (o := ⟨_, _, _, _, _, _⟩) (.slice pS S.strs.length cS) (yt_ldLs (by rfl) _ rfl _ _ rfl pS S.strs.length cS (fun _ h => by subst h; exact cell_heap G1 3)) ?_
              simp only [Act.put, List.setIfInBounds_toArray, List.set_cons_zero, List.set_cons_succ]
              refine wl_yield (o := ⟨_, _, _, _, _, _⟩) (.int .i64 (S.strs.length : Nat)) (yt_lenT (by rfl) _ rfl pS S.strs.length cS rfl) ?_
              simp only [Act.put, List.setIfInBounds_toArray, List.set_cons_zero, List.set_cons_succ]
              refine wl_yield (o := ⟨_, _, _, _, _, _⟩) (.bool false) (yt_lssI (by rfl) _ _ _ rfl (((S.strs.length : Nat) : Int)) (((S.strs.length : Nat) : Int)) false rfl rfl (decide_eq_false (by omega))) ?_
              simp only [Act.put, List.setIfInBounds_toArray, List.set_cons_zero, List.set_cons_succ]
              refine wpList_nil ?_
              refine hK14 _ _ ?_
              clear hK14 K14
              refine wp_cond_false rfl ?_
              refine wp_exit ?_
              refine hK11 _ _ ?_
              clear hK13 K13 hK11 K11
              refine wp_seq_k (fun K15 hK15 => ?_)
              refine wp_region_lit ?_
              refine wl_yield (o := ⟨_, _, _, _, _, _⟩) (.slice p ((txS S S.strs.length).length) c) (yl_move (by rfl) _ rfl _ rfl) ?_
              simp only [Act.put, List.setIfInBounds_toArray, List.set_cons_zero, List.set_cons_succ]
              refine wt_call (o := ⟨_, _, _, _, _, _⟩) (by rfl) 36 _ _ rfl #[.slice p ((txS S S.strs.length).length) c] rfl (run_call Tryz.func36 (by kernel_rfl) (by kernel_rfl)) ?_
              refine (refJoin7 _ RP (by have := txS_len S S.strs.length; omega) (by rw [txS_all]; exact hjl)).mono ?_
              rintro r v4 ⟨rfl, kb⟩
              replace D := grown_below D kb
              replace RP := ownsRow_on RP kb
              replace HE := HE.on kb
              replace G1 := heap_on G1 kb
              clear kb
              refine Or.inl ⟨.string (bs (joinL ((txS S S.strs.length).map (·.data.toList)))), rfl, ?_⟩
              simp only [Act.put, List.setIfInBounds_toArray, List.set_cons_zero, List.set_cons_succ]
              refine wl_yield (o := ⟨_, _, _, _, _, _⟩) (.string (bs (([91]) ++ (joinL ((txS S S.strs.length).map (·.data.toList)))))) (yt_cat (by rfl) _ _ _ rfl ([91]) (joinL ((txS S S.strs.length).map (·.data.toList))) rfl rfl (by first | (have t1 := itoa_le (S.ints.getD k (0, 0)).1 (by have := hb k hlt; omega) (by have := hb k hlt; omega); have t2 := itoa_le (S.ints.getD k (0, 0)).2 (by have := hb k hlt; omega) (by have := hb k hlt; omega); simp only [List.length_cons, List.length_append, List.length_nil]; omega) | (simp only [List.length_cons, List.length_append, List.length_nil]; omega))) ?_
              simp only [Act.put, List.setIfInBounds_toArray, List.set_cons_zero, List.set_cons_succ]
              refine wl_yield (o := ⟨_, _, _, _, _, _⟩) (.string (bs ((([91]) ++ (joinL ((txS S S.strs.length).map (·.data.toList)))) ++ ([93])))) (yt_cat (by rfl) _ _ _ rfl (([91]) ++ (joinL ((txS S S.strs.length).map (·.data.toList)))) ([93]) rfl rfl (by first | (have t1 := itoa_le (S.ints.getD k (0, 0)).1 (by have := hb k hlt; omega) (by have := hb k hlt; omega); have t2 := itoa_le (S.ints.getD k (0, 0)).2 (by have := hb k hlt; omega) (by have := hb k hlt; omega); simp only [List.length_cons, List.length_append, List.length_nil]; omega) | (simp only [List.length_cons, List.length_append, List.length_nil]; omega))) ?_
              simp only [Act.put, List.setIfInBounds_toArray, List.set_cons_zero, List.set_cons_succ]
              refine wl_yield (o := ⟨_, _, _, _, _, _⟩) (.string (bs ((([91]) ++ (joinL ((txS S S.strs.length).map (·.data.toList)))) ++ ([93])))) (yl_assign (by rfl) _ rfl _ rfl) ?_
              simp only [Act.put, List.setIfInBounds_toArray, List.set_cons_zero, List.set_cons_succ]
              refine wpList_nil ?_
              refine hK15 _ _ ?_
              clear hK15 K15
              refine wp_ret ?_
              have hj : bs ([91] ++ joinL ((txS S S.strs.length).map (·.data.toList)) ++ [93]) = bs (setTxt S) := by rw [txS_all]; rfl
              go_ret
              exact ⟨ret_str hj, below_none D⟩
        · have hco : S.co = false := hc
          refine wp_skip ?_
          refine hK9 _ _ ?_
          clear hK9 K9
          refine wp_seq_k (fun K11 hK11 => ?_)
          refine wp_seq_k (fun K12 hK12 => ?_)
          refine wp_region_lit ?_
          refine wl_yield (o := ⟨_, _, _, _, _, _⟩) (.int .i64 0) (yl_assign (by rfl) _ rfl _ rfl) ?_
          simp only [Act.put, List.setIfInBounds_toArray, List.set_cons_zero, List.set_cons_succ]
          refine wpList_nil ?_
          refine hK12 _ _ ?_
          clear hK12 K12
          refine wp_block ?_
          have E0 : txI S S.ints.length = txS S 0 := by unfold txS; simp [hco]
          go_loopw [3, 6] (fun x i wr => ∃ (k : Nat) (p : Option Addr) (c : Nat), i = .int .i64 k ∧ k ≤ S.strs.length ∧ x = .slice p (txS S k).length c ∧ RowS wr w.heap.size (.slice p (txS S k).length c) (txS S k) ∧ wr.heap[g1]? = some (.cells #[.bool (S.absent), .slice pI S.ints.length cI, .bool (S.co), .slice pS S.strs.length cS] 25 (0, 0)) ∧ Env wr ∧ w.grownBy wr none) (fun _ i _ => S.strs.length - (intOf i).toNat)
          case atStart => exact ⟨0, p, c, rfl, by omega, (by rw [← E0]; try rfl), (by rw [← E0]; exact RP), G1, HE, D⟩
          case round =>
            clear D HE RP G1
            obtain ⟨k, p, c, rfl, hk, rfl, RP, G1, HE, D⟩ := hrel
            by_cases hlt : k < S.strs.length
            · obtain ⟨bI, oI, rfl, hc0⟩ := str_at hT D k hlt
              refine wp_seq_k (fun K13 hK13 => ?_)
              refine wp_seq_k (fun K14 hK14 => ?_)
              refine wp_region_lit ?_
              refine wl_yield (o := ⟨_, _, _, _, _, _⟩) (.int .i64 (k : Nat)) (yl_move (by rfl) _ rfl _ rfl) ?_
              simp only [Act.put, List.setIfInBounds_toArray, List.set_cons_zero, List.set_cons_succ]
              refine wl_yield (o := ⟨_, _, _, _, _, _⟩) (.pointer (some ⟨g1, 3, none⟩)) (yt_fSt3 (by rfl) _ rfl g1 0 rfl) ?_
              simp only [Act.put, List.setIfInBounds_toArray, List.set_cons_zero, List.set_cons_succ]
              refine wl_yield (o := ⟨_, _, _, _, _, _⟩) (.slice ((some ⟨bI, oI, none⟩)) S.strs.length cS) (yt_ldLs (by rfl) _ rfl _ _ rfl ((some ⟨bI, oI, none⟩)) S.strs.length cS (fun _ h => by subst h; exact cell_heap G1 3)) ?_
              simp only [Act.put, List.setIfInBounds_toArray, List.set_cons_zero, List.set_cons_succ]
              refine wl_yield (o := ⟨_, _, _, _, _, _⟩) (.int .i64 (S.strs.length : Nat)) (yt_lenT (by rfl) _ rfl ((some ⟨bI, oI, none⟩)) S.strs.length cS rfl) ?_
              simp only [Act.put, List.setIfInBounds_toArray, List.set_cons_zero, List.set_cons_succ]
              refine wl_yield (o := ⟨_, _, _, _, _, _⟩) (.bool true) (yt_lssI (by rfl) _ _ _ rfl (((k : Nat) : Int)) (((S.strs.length : Nat) : Int)) true rfl rfl (decide_eq_true (by omega))) ?_
              simp only [Act.put, List.setIfInBounds_toArray, List.set_cons_zero, List.set_cons_succ]
              refine wpList_nil ?_
              refine hK14 _ _ ?_
              clear hK14 K14
              refine wp_cond_true rfl ?_
              refine wp_skip ?_
              refine hK13 _ _ ?_
              clear hK13 K13
              refine wp_seq_k (fun K15 hK15 => ?_)
              refine wp_block ?_
              refine wp_region_lit ?_
              refine wl_yield (o := ⟨_, _, _, _, _, _⟩) (.slice p ((txS S k).length) c) (yl_move (by rfl) _ rfl _ rfl) ?_
              simp only [Act.put, List.setIfInBounds_toArray, List.set_cons_zero, List.set_cons_succ]
              refine wl_yield (o := ⟨_, _, _, _, _, _⟩) (.pointer (some ⟨g1, 3, none⟩)) (yt_fSt3 (by rfl) _ rfl g1 0 rfl) ?_
              simp only [Act.put, List.setIfInBounds_toArray, List.set_cons_zero, List.set_cons_succ]
              refine wl_yield (o := ⟨_, _, _, _, _, _⟩) (.slice ((some ⟨bI, oI, none⟩)) S.strs.length cS) (yt_ldLs (by rfl) _ rfl _ _ rfl ((some ⟨bI, oI, none⟩)) S.strs.length cS (fun _ h => by subst h; exact cell_heap G1 3)) ?_
              simp only [Act.put, List.setIfInBounds_toArray, List.set_cons_zero, List.set_cons_succ]
              refine wl_yield (o := ⟨_, _, _, _, _, _⟩) (.int .i64 (k : Nat)) (yl_move (by rfl) _ rfl _ rfl) ?_
              simp only [Act.put, List.setIfInBounds_toArray, List.set_cons_zero, List.set_cons_succ]
              refine wl_yield (o := ⟨_, _, _, _, _, _⟩) (.pointer (some ⟨bI, oI + k * 1, none⟩)) (yt_atT (by rfl) _ _ rfl bI oI _ _ k rfl rfl (hlt)) ?_
              simp only [Act.put, List.setIfInBounds_toArray, List.set_cons_zero, List.set_cons_succ]
              refine wl_yield (o := ⟨_, _, _, _, _, _⟩) (.string (S.strs.getD k ⟨#[]⟩)) (yt_ldS (by rfl) _ rfl _ _ rfl (S.strs.getD k ⟨#[]⟩) (fun _ h => by subst h; exact hc0)) ?_
              simp only [Act.put, List.setIfInBounds_toArray, List.set_cons_zero, List.set_cons_succ]
              refine wt_call (o := ⟨_, _, _, _, _, _⟩) (by rfl) 35 _ _ rfl #[.string (S.strs.getD k ⟨#[]⟩)] rfl (run_call Tryz.func35 (by kernel_rfl) (by kernel_rfl)) ?_
              refine (refQuote_any (S.strs.getD k ⟨#[]⟩) _ (h8 k hlt)).mono ?_
              rintro r v2 ⟨rfl, kb⟩
              replace D := grown_below D kb
              replace RP := ownsRow_on RP kb
              replace HE := HE.on kb
              replace G1 := heap_on G1 kb
              clear kb
              refine Or.inl ⟨.string (bs (quoteL (S.strs.getD k ⟨#[]⟩).data.toList)), rfl, ?_⟩
              simp only [Act.put, List.setIfInBounds_toArray, List.set_cons_zero, List.set_cons_succ]
              refine wt_row1S (o := ⟨_, _, _, _, _, _⟩) (by rfl) _ rfl (bs (quoteL (S.strs.getD k ⟨#[]⟩).data.toList)) rfl (fun v3 g3 hg G3 kb => ?_)
              have n_g1_g3 : g1 ≠ g3 := by have := lt_heap G1; omega
              have ge_g3 : w.heap.size ≤ g3 := Nat.le_trans D.size hg
              have six_g3 : 6 ≤ g3 := Nat.le_trans w6 ge_g3
              clear hg
              replace D := grown_below D kb
              replace RP := ownsRow_on RP kb
              replace HE := HE.on kb
              replace G1 := heap_on G1 kb
              clear kb
              simp only [Act.put, List.setIfInBounds_toArray, List.set_cons_zero, List.set_cons_succ]
              refine wt_appS (o := ⟨_, _, _, _, _, _⟩) (by rfl) _ _ rfl w.heap.size _ (txS S k) rfl RP _ (bs (quoteL (S.strs.getD k ⟨#[]⟩).data.toList)) rfl G3 ((by first | (simp; done) | (have := txI_len S k; omega) | (have := txS_len S k; omega) | (have := txI_len S S.ints.length; omega))) (D.size) (fun v4' v4 hrow kg hown => ?_)
              clear G3
              replace HE := Env.gro HE RP kg w6
              replace G1 := heap_gro G1 kg (own_ne RP G1 (by decide))
              replace D := gr_own D (fun g hg => Nat.le_trans (Nat.le_refl _) (World.ownsRow.lt RP g hg).1) kg
              clear kg hown
              replace RP := hrow
              clear hrow
              obtain ⟨p4, c4, rfl, -, -, -⟩ := ownsRow_form RP
              simp only [Act.put, List.setIfInBounds_toArray, List.set_cons_zero, List.set_cons_succ]
              refine wl_yield (o := ⟨_, _, _, _, _, _⟩) (.slice p4 ((txS S k ++ [(bs (quoteL (S.strs.getD k ⟨#[]⟩).data.toList))]).length) c4) (yl_assign (by rfl) _ rfl _ rfl) ?_
              simp only [Act.put, List.setIfInBounds_toArray, List.set_cons_zero, List.set_cons_succ]
              refine wpList_nil ?_
              refine hK15 _ _ ?_
              clear hK15 K15
              refine wp_region_lit ?_
              refine wl_yield (o := ⟨_, _, _, _, _, _⟩) (.int .i64 (k : Nat)) (yl_move (by rfl) _ rfl _ rfl) ?_
              simp only [Act.put, List.setIfInBounds_toArray, List.set_cons_zero, List.set_cons_succ]
              refine wl_yield (o := ⟨_, _, _, _, _, _⟩) (.int .i64 (k + 1 : Nat)) (yt_addI (by rfl) _ _ _ rfl (((k : Nat) : Int)) 1 (((k + 1 : Nat) : Int)) rfl rfl (by omega) (by omega) (by omega)) ?_
              simp only [Act.put, List.setIfInBounds_toArray, List.set_cons_zero, List.set_cons_succ]
              refine wl_yield (o := ⟨_, _, _, _, _, _⟩) (.int .i64 (k + 1 : Nat)) (yl_assign (by rfl) _ rfl _ rfl) ?_
              simp only [Act.put, List.setIfInBounds_toArray, List.set_cons_zero, List.set_cons_succ]
              refine wpList_nil ?_
              show _ ∧ _
              go_roundw
              case rel => exact ⟨k + 1, p4, c4, rfl, by omega, by rw [txS_step S k hlt], by rw [txS_step S k hlt]; exact RP, G1, HE, D⟩
              case measure => simp [intOf]; omega
            · obtain rfl : k = S.strs.length := by omega
              refine wp_seq_k (fun K13 hK13 => ?_)
              refine wp_seq_k (fun K14 hK14 => ?_)
              refine wp_region_lit ?_
              refine wl_yield (o := ⟨_, _, _, _, _, _⟩) (.int .i64 (S.strs.length : Nat)) (yl_move (by rfl) _ rfl _ rfl) ?_
              simp only [Act.put, List.setIfInBounds_toArray, List.set_cons_zero, List.set_cons_succ]
              refine wl_yield (o := ⟨_, _, _, _, _, _⟩) (.pointer (some ⟨g1, 3, none⟩)) (yt_fSt3 (by rfl) _ rfl g1 0 rfl) ?_
              simp only [Act.put, List.setIfInBounds_toArray, List.set_cons_zero, List.set_cons_succ]
              refine wl_yield (o := ⟨_, _, _, _, _, _⟩) (.slice pS S.strs.length cS) (yt_ldLs (by rfl) _ rfl _ _ rfl pS S.strs.length cS (fun _ h => by subst h; exact cell_heap G1 3)) ?_
              simp only [Act.put, List.setIfInBounds_toArray, List.set_cons_zero, List.set_cons_succ]
              refine wl_yield (o := ⟨_, _, _, _, _, _⟩) (.int .i64 (S.strs.length : Nat)) (yt_lenT (by rfl) _ rfl pS S.strs.length cS rfl) ?_
              simp only [Act.put, List.setIfInBounds_toArray, List.set_cons_zero, List.set_cons_succ]
              refine wl_yield (o := ⟨_, _, _, _, _, _⟩) (.bool false) (yt_lssI (by rfl) _ _ _ rfl (((S.strs.length : Nat) : Int)) (((S.strs.length : Nat) : Int)) false rfl rfl (decide_eq_false (by omega))) ?_
              simp only [Act.put, List.setIfInBounds_toArray, List.set_cons_zero, List.set_cons_succ]
              refine wpList_nil ?_
              refine hK14 _ _ ?_
              clear hK14 K14
              refine wp_cond_false rfl ?_
              refine wp_exit ?_
              refine hK11 _ _ ?_
              clear hK13 K13 hK11 K11
              refine wp_seq_k (fun K15 hK15 => ?_)
              refine wp_region_lit ?_
              refine wl_yield (o := ⟨_, _, _, _, _, _⟩) (.slice p ((txS S S.strs.length).length) c) (yl_move (by rfl) _ rfl _ rfl) ?_
              simp only [Act.put, List.setIfInBounds_toArray, List.set_cons_zero, List.set_cons_succ]
              refine wt_call (o := ⟨_, _, _, _, _, _⟩) (by rfl) 36 _ _ rfl #[.slice p ((txS S S.strs.length).length) c] rfl (run_call Tryz.func36 (by kernel_rfl) (by kernel_rfl)) ?_
              refine (refJoin7 _ RP (by have := txS_len S S.strs.length; omega) (by rw [txS_all]; exact hjl)).mono ?_
              rintro r v2 ⟨rfl, kb⟩
              replace D := grown_below D kb
              replace RP := ownsRow_on RP kb
              replace HE := HE.on kb
              replace G1 := heap_on G1 kb
              clear kb
              refine Or.inl ⟨.string (bs (joinL ((txS S S.strs.length).map (·.data.toList)))), rfl, ?_⟩
              simp only [Act.put, List.setIfInBounds_toArray, List.set_cons_zero, List.set_cons_succ]
              refine wl_yield (o := ⟨_, _, _, _, _, _⟩) (.string (bs (([91]) ++ (joinL ((txS S S.strs.length).map (·.data.toList)))))) (yt_cat (by rfl) _ _ _ rfl ([91]) (joinL ((txS S S.strs.length).map (·.data.toList))) rfl rfl (by first | (have t1 := itoa_le (S.ints.getD k (0, 0)).1 (by have := hb k hlt; omega) (by have := hb k hlt; omega); have t2 := itoa_le (S.ints.getD k (0, 0)).2 (by have := hb k hlt; omega) (by have := hb k hlt; omega); simp only [List.length_cons, List.length_append, List.length_nil]; omega) | (simp only [List.length_cons, List.length_append, List.length_nil]; omega))) ?_
              simp only [Act.put, List.setIfInBounds_toArray, List.set_cons_zero, List.set_cons_succ]
              refine wl_yield (o := ⟨_, _, _, _, _, _⟩) (.string (bs ((([91]) ++ (joinL ((txS S S.strs.length).map (·.data.toList)))) ++ ([93])))) (yt_cat (by rfl) _ _ _ rfl (([91]) ++ (joinL ((txS S S.strs.length).map (·.data.toList)))) ([93]) rfl rfl (by first | (have t1 := itoa_le (S.ints.getD k (0, 0)).1 (by have := hb k hlt; omega) (by have := hb k hlt; omega); have t2 := itoa_le (S.ints.getD k (0, 0)).2 (by have := hb k hlt; omega) (by have := hb k hlt; omega); simp only [List.length_cons, List.length_append, List.length_nil]; omega) | (simp only [List.length_cons, List.length_append, List.length_nil]; omega))) ?_
              simp only [Act.put, List.setIfInBounds_toArray, List.set_cons_zero, List.set_cons_succ]
              refine wl_yield (o := ⟨_, _, _, _, _, _⟩) (.string (bs ((([91]) ++ (joinL ((txS S S.strs.length).map (·.data.toList)))) ++ ([93])))) (yl_assign (by rfl) _ rfl _ rfl) ?_
              simp only [Act.put, List.setIfInBounds_toArray, List.set_cons_zero, List.set_cons_succ]
              refine wpList_nil ?_
              refine hK15 _ _ ?_
              clear hK15 K15
              refine wp_ret ?_
              have hj : bs ([91] ++ joinL ((txS S S.strs.length).map (·.data.toList)) ++ [93]) = bs (setTxt S) := by rw [txS_all]; rfl
              go_ret
              exact ⟨ret_str hj, below_none D⟩

end Go.Proofs.YtciflobdpenpaaaGreatDoor
/-
  The seventh reference's Expr.
-/
set_option linter.unusedSimpArgs false
set_option linter.unusedVariables false
namespace Go.Proofs.YtciflobdpenpaaaGreatDoor
open Go.RowKit

theorem refSetC {s : SC} {S : SetV} (w : World) (HE : Env w) (h : SetAt w s.val S) (hok : okB S) (l1 : S.ints.length ≤ 1000) (l2 : S.strs.length ≤ 1000) :
    Calls Tryz.prog 12 #[s.val] w fun e w' => e = .returned (.string (bs (setTxt S))) ∧ Below w.heap.size w w' := by
  obtain ⟨vi, vs, e, hI, hT⟩ := h
  obtain ⟨p, c, rfl⟩ := slice_of hI
  obtain ⟨p', c', rfl⟩ := slice_of' hT
  rw [e]
  exact refSet7 S p p' c c' w HE hI hT hok l1 l2
theorem sub_txt (n : Nat) (x : ExV) (h : eachX (n + 1) x = true) : (joinL (x.sub.map (exTxt n))).length ≤ (exTxt (n + 1) x).length := by
  unfold eachX at h
  rw [Bool.and_eq_true, List.all_eq_true] at h
  rcases node_kind h.1 with k | k | k | k
  · have h0 := (node_at h.1 k).2.2
    rw [h0]
    exact Nat.zero_le _
  · rw [show exTxt (n + 1) x = 38 :: (40 :: (joinL (x.sub.map (exTxt n)) ++ [41])) by unfold exTxt; rw [if_pos k]]
    simp only [List.length_cons, List.length_append, List.length_nil]
    omega
  · rw [show exTxt (n + 1) x = 124 :: (40 :: (joinL (x.sub.map (exTxt n)) ++ [41])) by unfold exTxt; rw [if_neg (by omega), if_pos k]]
    simp only [List.length_cons, List.length_append, List.length_nil]
    omega
  · have h1 := (node_op h.1 (by omega)).2 k
    obtain ⟨y, hy⟩ := List.length_eq_one_iff.1 h1
    rw [show exTxt (n + 1) x = 33 :: exTxt n y by rw [exTxt, if_neg (by omega), if_neg (by omega), if_pos k, hy]; rfl, hy]
    show (exTxt n y).length ≤ _
    simp
/-- What the reference's Expr answers, at so many levels. -/
def RefTxtOr (n : Nat) : Prop := ∀ (c : EC) (x : ExV) (w : World), Env w → ExAt n w c.val x → eachX n x = true → (exTxt n x).length ≤ 1000000 →
  Calls Tryz.prog 15 #[c.val] w fun e w' => e = .returned (.string (bs (exTxt n x))) ∧ Below w.heap.size w w'

set_option maxHeartbeats 1000000 in
set_option maxRecDepth 100000 in
theorem refExpr7_step (n : Nat) (IH : RefTxtOr n) (c : EC) (x : ExV) (w : World) (HE : Env w) (hX : ExAt (n + 1) w c.val x) (hE1 : EcFor w c x) (hn : nodeX x = true) (hs : ∀ y ∈ x.sub, eachX n y = true) (hjn : (joinL (x.sub.map (exTxt n))).length ≤ 1000000) (hlx : x.sub.length ≤ 1000000) :
    Calls Tryz.prog 15 #[c.val] w fun e w' => e = .returned (.string (bs (exTxt (n + 1) x))) ∧ Below w.heap.size w w' := by
  have w6 : 6 ≤ w.heap.size := HE.big
  have D : w.grownBy w none := grown_refl _ _
  have hjt : joinL (((x.sub.take x.sub.length).map fun y => bs (exTxt n y)).map (·.data.toList)) = joinL (x.sub.map (exTxt n)) := by
    rw [List.take_length, List.map_map]
    exact congrArg joinL (List.map_congr_left fun y _ => bs_list _)
  go_enter Tryz.func15, Tryz.ntmps15
  refine wp_seq_k (fun K1 hK1 => ?_)
  refine wp_region_lit ?_
  refine wt_boxEx (o := ⟨_, _, _, _, _, _⟩) (by rfl) _ rfl (c) rfl (fun v1 g1 hg G1 kb => ?_)
  simp only [Act.put, List.setIfInBounds_toArray, List.set_cons_zero, List.set_cons_succ]
  have ge_g1 : w.heap.size ≤ g1 := Nat.le_trans D.size hg
  have six_g1 : 6 ≤ g1 := Nat.le_trans w6 ge_g1
  clear hg
  replace D := grown_below D kb
  replace HE := HE.on kb
  clear kb
  replace G1 : v1.heap[g1]? = some (.cells #[.int .i64 (c.k), .int .i64 (c.t), .bool (c.s.a), .slice c.s.p c.s.n c.s.c, .bool (c.s.d), .slice c.s.q c.s.m c.s.e, .slice c.p c.n c.c] 28 (0, 0)) := G1
  refine wl_yield (o := ⟨_, _, _, _, _, _⟩) (.string (bs ([]))) (yl_assign (by rfl) _ rfl _ rfl) ?_
  simp only [Act.put, List.setIfInBounds_toArray, List.set_cons_zero, List.set_cons_succ]
  refine wpList_nil ?_
  refine hK1 _ _ ?_
  clear hK1 K1
  refine wp_seq_k (fun K2 hK2 => ?_)
  have RP : RowS v1 w.heap.size (.slice none 0 0) [] := RowS.nil _ _
  refine wp_region_lit ?_
  refine wl_yield (o := ⟨_, _, _, _, _, _⟩) (.slice none 0 0) (yl_assign (by rfl) _ rfl _ rfl) ?_
  simp only [Act.put, List.setIfInBounds_toArray, List.set_cons_zero, List.set_cons_succ]
  refine wpList_nil ?_
  refine hK2 _ _ ?_
  clear hK2 K2
  refine wp_seq_k (fun K3 hK3 => ?_)
  refine wp_seq_k (fun K4 hK4 => ?_)
  refine wp_region_lit ?_
  refine wl_yield (o := ⟨_, _, _, _, _, _⟩) (.int .i64 0) (yl_assign (by rfl) _ rfl _ rfl) ?_
  simp only [Act.put, List.setIfInBounds_toArray, List.set_cons_zero, List.set_cons_succ]
  refine wpList_nil ?_
  refine hK4 _ _ ?_
  clear hK4 K4
  refine wp_block ?_
  go_loopw [3, 4] (fun u i wr => ∃ (k : Nat) (q : Option Addr) (cq : Nat), i = .int .i64 k ∧ k ≤ x.sub.length ∧ u = .slice q (((x.sub.take k).map fun y => bs (exTxt n y))).length cq ∧ RowS wr w.heap.size (.slice q (((x.sub.take k).map fun y => bs (exTxt n y))).length cq) (((x.sub.take k).map fun y => bs (exTxt n y))) ∧ wr.heap[g1]? = some (.cells #[.int .i64 (c.k), .int .i64 (c.t), .bool (c.s.a), .slice c.s.p c.s.n c.s.c, .bool (c.s.d), .slice c.s.q c.s.m c.s.e, .slice c.p c.n c.c] 28 (0, 0)) ∧ Env wr ∧ w.grownBy wr none) (fun _ i _ => x.sub.length - (intOf i).toNat)
  case atStart => exact ⟨0, none, 0, rfl, by omega, rfl, RP, G1, HE, D⟩
  case round =>
    clear D HE RP G1
    obtain ⟨k, q, cq, rfl, hk, rfl, RP, G1, HE, D⟩ := hrel
    by_cases hlt : k < x.sub.length
    · obtain ⟨gX, oX, d, hpX, hgX, hdX, hxX⟩ := ExAt.part hX k hlt
      have hmem : x.sub.getD k noX ∈ x.sub := by rw [List.getD_eq_getElem?_getD, List.getElem?_eq_getElem hlt]; exact List.getElem_mem hlt
      rw [hpX] at G1
      refine wp_seq_k (fun K5 hK5 => ?_)
      refine wp_seq_k (fun K6 hK6 => ?_)
      refine wp_region_lit ?_
      refine wl_yield (o := ⟨_, _, _, _, _, _⟩) (.int .i64 (k : Nat)) (yl_move (by rfl) _ rfl _ rfl) ?_
      simp only [Act.put, List.setIfInBounds_toArray, List.set_cons_zero, List.set_cons_succ]
      refine wl_yield (o := ⟨_, _, _, _, _, _⟩) (.pointer (some ⟨g1, 6, none⟩)) (yt_fEx3 (by rfl) _ rfl g1 0 rfl) ?_
      simp only [Act.put, List.setIfInBounds_toArray, List.set_cons_zero, List.set_cons_succ]
      refine wl_yield (o := ⟨_, _, _, _, _, _⟩) (.slice ((some ⟨gX, oX, none⟩)) c.n c.c) (yt_ldLx (by rfl) _ rfl _ _ rfl ((some ⟨gX, oX, none⟩)) c.n c.c (fun _ h => by subst h; exact cell_heap G1 6)) ?_
      simp only [Act.put, List.setIfInBounds_toArray, List.set_cons_zero, List.set_cons_succ]
      refine wl_yield (o := ⟨_, _, _, _, _, _⟩) (.int .i64 (c.n : Nat)) (yt_lenX (by rfl) _ rfl ((some ⟨gX, oX, none⟩)) c.n c.c rfl) ?_
      simp only [Act.put, List.setIfInBounds_toArray, List.set_cons_zero, List.set_cons_succ]
      refine wl_yield (o := ⟨_, _, _, _, _, _⟩) (.bool true) (yt_lssI (by rfl) _ _ _ rfl (((k : Nat) : Int)) (((c.n : Nat) : Int)) true rfl rfl (decide_eq_true (by have := hE1.n; omega))) ?_
      simp only [Act.put, List.setIfInBounds_toArray, List.set_cons_zero, List.set_cons_succ]
      refine wpList_nil ?_
      refine hK6 _ _ ?_
      clear hK6 K6
      refine wp_cond_true rfl ?_
      refine wp_skip ?_
      refine hK5 _ _ ?_
      clear hK5 K5
      refine wp_seq_k (fun K7 hK7 => ?_)
      refine wp_block ?_
      refine wp_region_lit ?_
      refine wl_yield (o := ⟨_, _, _, _, _, _⟩) (.slice q (((x.sub.take k).map fun y => bs (exTxt n y)).length) cq) (yl_move (by rfl) _ rfl _ rfl) ?_
      simp only [Act.put, List.setIfInBounds_toArray, List.set_cons_zero, List.set_cons_succ]
      refine wl_yield (o := ⟨_, _, _, _, _, _⟩) (.pointer (some ⟨g1, 6, none⟩)) (yt_fEx3 (by rfl) _ rfl g1 0 rfl) ?_
      simp only [Act.put, List.setIfInBounds_toArray, List.set_cons_zero, List.set_cons_succ]
      refine wl_yield (o := ⟨_, _, _, _, _, _⟩) (.slice ((some ⟨gX, oX, none⟩)) c.n c.c) (yt_ldLx (by rfl) _ rfl _ _ rfl ((some ⟨gX, oX, none⟩)) c.n c.c (fun _ h => by subst h; exact cell_heap G1 6)) ?_
      simp only [Act.put, List.setIfInBounds_toArray, List.set_cons_zero, List.set_cons_succ]
      refine wl_yield (o := ⟨_, _, _, _, _, _⟩) (.int .i64 (k : Nat)) (yl_move (by rfl) _ rfl _ rfl) ?_
      simp only [Act.put, List.setIfInBounds_toArray, List.set_cons_zero, List.set_cons_succ]
      refine wl_yield (o := ⟨_, _, _, _, _, _⟩) (.pointer (some ⟨gX, oX + k * 7, none⟩)) (yt_atX (by rfl) _ _ rfl gX oX _ _ k rfl rfl (by have := hE1.n; omega)) ?_
      simp only [Act.put, List.setIfInBounds_toArray, List.set_cons_zero, List.set_cons_succ]
      refine wl_yield (o := ⟨_, _, _, _, _, _⟩) (EC.val d) (yl_ex (by rfl) _ rfl _ _ rfl (c := d) (fun _ h => by subst h; exact hdX.on hgX (below_none D))) ?_
      simp only [Act.put, List.setIfInBounds_toArray, List.set_cons_zero, List.set_cons_succ]
      refine wt_call (o := ⟨_, _, _, _, _, _⟩) (by rfl) 15 _ _ rfl #[EC.val d] rfl (run_call Tryz.func15 (by kernel_rfl) (by kernel_rfl)) ?_
      refine (IH d (x.sub.getD k noX) _ HE (ExAt.on (below_none D) n hxX) (hs _ hmem) (Nat.le_trans (joinL_part (exTxt n) x.sub _ hmem) hjn)).mono ?_
      rintro r v2 ⟨rfl, kb⟩
      replace D := grown_below D kb
      replace RP := ownsRow_on RP kb
      replace HE := HE.on kb
      replace G1 := heap_on G1 kb
      clear kb
      refine Or.inl ⟨.string (bs (exTxt n (x.sub.getD k noX))), rfl, ?_⟩
      simp only [Act.put, List.setIfInBounds_toArray, List.set_cons_zero, List.set_cons_succ]
      refine wt_row1S (o := ⟨_, _, _, _, _, _⟩) (by rfl) _ rfl (bs (exTxt n (x.sub.getD k noX))) rfl (fun v3 g3 hg G3 kb => ?_)
      have n_g1_g3 : g1 ≠ g3 := by have := lt_heap G1; omega
      have ge_g3 : w.heap.size ≤ g3 := Nat.le_trans D.size hg
      have six_g3 : 6 ≤ g3 := Nat.le_trans w6 ge_g3
      clear hg
      replace D := grown_below D kb
      replace RP := ownsRow_on RP kb
      replace HE := HE.on kb
      replace G1 := heap_on G1 kb
      clear kb
      simp only [Act.put, List.setIfInBounds_toArray, List.set_cons_zero, List.set_cons_succ]
      refine wt_appS (o := ⟨_, _, _, _, _, _⟩) (by rfl) _ _ rfl w.heap.size _ (((x.sub.take k).map fun y => bs (exTxt n y))) rfl RP _ (bs (exTxt n (x.sub.getD k noX))) rfl G3 ((by rw [List.length_map, List.length_take]; omega)) (D.size) (fun v4' v4 hrow kg hown => ?_)
      clear G3
      replace HE := Env.gro HE RP kg w6
      replace G1 := heap_gro G1 kg (own_ne RP G1 (by decide))
      replace D := gr_own D (fun g hg => Nat.le_trans (Nat.le_refl _) (World.ownsRow.lt RP g hg).1) kg
      clear kg hown
      replace RP := hrow
      clear hrow
      obtain ⟨p4, c4, rfl, -, -, -⟩ := ownsRow_form RP
      simp only [Act.put, List.setIfInBounds_toArray, List.set_cons_zero, List.set_cons_succ]
      refine wl_yield (o := ⟨_, _, _, _, _, _⟩) (.slice p4 ((((x.sub.take k).map fun y => bs (exTxt n y)) ++ [(bs (exTxt n (x.sub.getD k noX)))]).length) c4) (yl_assign (by rfl) _ rfl _ rfl) ?_
      simp only [Act.put, List.setIfInBounds_toArray, List.set_cons_zero, List.set_cons_succ]
      refine wpList_nil ?_
      refine hK7 _ _ ?_
      clear hK7 K7
      refine wp_region_lit ?_
      refine wl_yield (o := ⟨_, _, _, _, _, _⟩) (.int .i64 (k : Nat)) (yl_move (by rfl) _ rfl _ rfl) ?_
      simp only [Act.put, List.setIfInBounds_toArray, List.set_cons_zero, List.set_cons_succ]
      refine wl_yield (o := ⟨_, _, _, _, _, _⟩) (.int .i64 (k + 1 : Nat)) (yt_addI (by rfl) _ _ _ rfl (((k : Nat) : Int)) 1 (((k + 1 : Nat) : Int)) rfl rfl (by omega) (by omega) (by omega)) ?_
      simp only [Act.put, List.setIfInBounds_toArray, List.set_cons_zero, List.set_cons_succ]
      refine wl_yield (o := ⟨_, _, _, _, _, _⟩) (.int .i64 (k + 1 : Nat)) (yl_assign (by rfl) _ rfl _ rfl) ?_
      simp only [Act.put, List.setIfInBounds_toArray, List.set_cons_zero, List.set_cons_succ]
      refine wpList_nil ?_
      show _ ∧ _
      go_roundw
      case rel =>
        rw [← hpX] at G1
        refine ⟨k + 1, p4, c4, rfl, by omega, ?_, ?_, G1, HE, D⟩
        · rw [take_map_snoc _ x.sub noX k hlt]
        · rw [take_map_snoc _ x.sub noX k hlt]; exact RP
      case measure => simp [intOf]; omega
    · obtain rfl : k = x.sub.length := by omega
      refine wp_seq_k (fun K5 hK5 => ?_)
      refine wp_seq_k (fun K6 hK6 => ?_)
      refine wp_region_lit ?_
      refine wl_yield (o := ⟨_, _, _, _, _, _⟩) (.int .i64 (x.sub.length : Nat)) (yl_move (by rfl) _ rfl _ rfl) ?_
      simp only [Act.put, List.setIfInBounds_toArray, List.set_cons_zero, List.set_cons_succ]
      refine wl_yield (o := ⟨_, _, _, _, _, _⟩) (.pointer (some ⟨g1, 6, none⟩)) (yt_fEx3 (by rfl) _ rfl g1 0 rfl) ?_
      simp only [Act.put, List.setIfInBounds_toArray, List.set_cons_zero, List.set_cons_succ]
      refine wl_yield (o := ⟨_, _, _, _, _, _⟩) (.slice c.p c.n c.c) (yt_ldLx (by rfl) _ rfl _ _ rfl c.p c.n c.c (fun _ h => by subst h; exact cell_heap G1 6)) ?_
      simp only [Act.put, List.setIfInBounds_toArray, List.set_cons_zero, List.set_cons_succ]
      refine wl_yield (o := ⟨_, _, _, _, _, _⟩) (.int .i64 (c.n : Nat)) (yt_lenX (by rfl) _ rfl c.p c.n c.c rfl) ?_
      simp only [Act.put, List.setIfInBounds_toArray, List.set_cons_zero, List.set_cons_succ]
      refine wl_yield (o := ⟨_, _, _, _, _, _⟩) (.bool false) (yt_lssI (by rfl) _ _ _ rfl (((x.sub.length : Nat) : Int)) (((c.n : Nat) : Int)) false rfl rfl (decide_eq_false (by have := hE1.n; omega))) ?_
      simp only [Act.put, List.setIfInBounds_toArray, List.set_cons_zero, List.set_cons_succ]
      refine wpList_nil ?_
      refine hK6 _ _ ?_
      clear hK6 K6
      refine wp_cond_false rfl ?_
      refine wp_exit ?_
      refine hK3 _ _ ?_
      clear hK5 K5 hK3 K3
      refine wp_seq_k (fun K7 hK7 => ?_)
      refine wp_seq_k (fun K8 hK8 => ?_)
      rcases node_kind hn with hk | hk | hk | hk
      · obtain ⟨a0, a3, hx1⟩ := node_at hn hk
        obtain ⟨rs, l6, m6⟩ := node_set hn hk
        obtain ⟨vi, vs, es, hI, hT⟩ := id hE1.s
        have ok := right_okB rs hI.1
        have st6 := setTxt_le ok.1 ok.2
        have hT1 : exTxt (n + 1) x = nameL x.attr ++ 58 :: setTxt x.set := by unfold exTxt; rw [if_neg (by omega), if_neg (by omega), if_neg (by omega)]
        refine wp_region_lit ?_
        refine wl_yield (o := ⟨_, _, _, _, _, _⟩) (.pointer (some ⟨g1, 0, none⟩)) (yt_fEx0 (by rfl) _ rfl g1 0 rfl) ?_
        simp only [Act.put, List.setIfInBounds_toArray, List.set_cons_zero, List.set_cons_succ]
        refine wl_yield (o := ⟨_, _, _, _, _, _⟩) (.int .i64 (c.k)) (yt_ldI (by rfl) _ rfl _ _ rfl c.k (fun _ h => by subst h; exact cell_heap G1 0)) ?_
        simp only [Act.put, List.setIfInBounds_toArray, List.set_cons_zero, List.set_cons_succ]
        refine wpList_nil ?_
        refine hK8 _ _ ?_
        clear hK8 K8
        refine wp_block ?_
        refine wp_seq_k (fun K9 hK9 => ?_)
        refine wp_region_lit ?_
        refine wl_yield (o := ⟨_, _, _, _, _, _⟩) (.bool true) (yt_eqlI (by rfl) _ _ _ rfl c.k 1 true rfl rfl (decide_eq_true (by have := hE1.k; omega))) ?_
        simp only [Act.put, List.setIfInBounds_toArray, List.set_cons_zero, List.set_cons_succ]
        refine wl_yield (o := ⟨_, _, _, _, _, _⟩) (.bool true) (yl_assign (by rfl) _ rfl _ rfl) ?_
        simp only [Act.put, List.setIfInBounds_toArray, List.set_cons_zero, List.set_cons_succ]
        refine wpList_nil ?_
        refine hK9 _ _ ?_
        clear hK9 K9
        refine wp_cond_true rfl ?_
        refine wp_seq_k (fun K10 hK10 => ?_)
        refine wp_region_late (S := fun w' => w'.heap[g1]? = some (.cells #[.int .i64 (c.k), .int .i64 (c.t), .bool (c.s.a), .slice c.s.p c.s.n c.s.c, .bool (c.s.d), .slice c.s.q c.s.m c.s.e, .slice c.p c.n c.c] 28 (0, 0))) (late := fun j => [].contains j) (by kernel_rfl) ?_
        have kb : Below wr.heap.size wr wr.drew := (Below.refl _ wr).drew
        replace D := grown_below D kb
        replace RP := ownsRow_on RP kb
        replace HE := HE.on kb
        replace G1 := heap_on G1 kb
        clear kb
        generalize wr.drew = v2 at D HE G1 RP ⊢
        refine wpAnyL_pure (i := 0) (oi := ⟨_, _, _, _, _, _⟩) (v := .pointer (some ⟨g1, 1, none⟩)) rfl (by kernel_rfl) (by kernel_rfl) (by kernel_rfl) (fun _ _ _ h => h) (yt_fEx1 (by rfl) _ rfl g1 0 rfl) ?_
        simp only [Act.put, List.setIfInBounds_toArray, List.set_cons_zero, List.set_cons_succ]
        refine wpAnyL_load (i := 1) (oi := ⟨_, _, _, _, _, _⟩) (v := .int .i64 (c.t)) rfl (by kernel_rfl) (by kernel_rfl) (by kernel_rfl) (by kernel_rfl) (fun _ _ _ h => h) (yt_ldI (by rfl) _ rfl _ _ rfl c.t (fun _ h => cell_heap h 1)) G1 ?_
        simp only [Act.put, List.setIfInBounds_toArray, List.set_cons_zero, List.set_cons_succ]
        refine wpAnyL_pure (i := 4) (oi := ⟨_, _, _, _, _, _⟩) (v := .pointer (some ⟨g1, 2, none⟩)) rfl (by kernel_rfl) (by kernel_rfl) (by kernel_rfl) (fun _ _ _ h => h) (yt_fEx2 (by rfl) _ rfl g1 0 rfl) ?_
        simp only [Act.put, List.setIfInBounds_toArray, List.set_cons_zero, List.set_cons_succ]
        refine wpAnyL_load (i := 5) (oi := ⟨_, _, _, _, _, _⟩) (v := SC.val c.s) rfl (by kernel_rfl) (by kernel_rfl) (by kernel_rfl) (by kernel_rfl) (fun _ _ _ h => h) (yl_set (by rfl) _ rfl _ 2 rfl _ _ _ _ (fun _ h => ⟨cell_heap h 2, cell_heap h 3, cell_heap h 4, cell_heap h 5⟩)) G1 ?_
        simp only [Act.put, List.setIfInBounds_toArray, List.set_cons_zero, List.set_cons_succ]
        refine wpAnyL_all (rs := [2]) (by kernel_rfl) (by simp) ?_
        intro j hj
        have hj := List.mem_singleton.1 hj
        subst hj
        refine ot_call (o := ⟨_, _, _, _, _, _⟩) rfl (by rfl) 41 _ _ rfl #[.int .i64 (c.t)] rfl (run_call Tryz.func41 (by kernel_rfl) (by kernel_rfl)) ?_
        refine (refName7 c.t (by have := hE1.t; omega) (by have := hE1.t; omega) _).mono ?_
        rintro r v3 (⟨rfl, kb⟩)
        replace D := grown_below D kb
        replace RP := ownsRow_on RP kb
        replace HE := HE.on kb
        replace G1 := heap_on G1 kb
        clear kb
        refine Or.inl ⟨.string (bs (nameL c.t)), rfl, ⟨fun _ _ => G1, ?_⟩⟩
        simp only [Act.put, List.setIfInBounds_toArray, List.set_cons_zero, List.set_cons_succ]
        refine wpAnyL_pure (i := 3) (oi := ⟨_, _, _, _, _, _⟩) (v := .string (bs ((nameL c.t) ++ ([58])))) rfl (by kernel_rfl) (by kernel_rfl) (by kernel_rfl) (fun _ _ _ h => h) (yt_cat (by rfl) _ _ _ rfl (nameL c.t) ([58]) rfl rfl (by simp only [List.length_cons, List.length_append, List.length_nil, hjt, name1]; omega)) ?_
        simp only [Act.put, List.setIfInBounds_toArray, List.set_cons_zero, List.set_cons_succ]
        refine wpAnyL_all (rs := [6]) (by kernel_rfl) (by simp) ?_
        intro j hj
        have hj := List.mem_singleton.1 hj
        subst hj
        refine ot_call (o := ⟨_, _, _, _, _, _⟩) rfl (by rfl) 12 _ _ rfl #[SC.val c.s] rfl (run_call Tryz.func12 (by kernel_rfl) (by kernel_rfl)) ?_
        refine (refSetC _ HE (hE1.s.on (below_none D)) ok (by omega) (by omega)).mono ?_
        rintro r v4 (⟨rfl, kb⟩)
        replace D := grown_below D kb
        replace RP := ownsRow_on RP kb
        replace HE := HE.on kb
        replace G1 := heap_on G1 kb
        clear kb
        refine Or.inl ⟨.string (bs (setTxt x.set)), rfl, ⟨fun _ _ => G1, ?_⟩⟩
        simp only [Act.put, List.setIfInBounds_toArray, List.set_cons_zero, List.set_cons_succ]
        refine wpAnyL_pure (i := 7) (oi := ⟨_, _, _, _, _, _⟩) (v := .string (bs (((nameL c.t) ++ ([58])) ++ (setTxt x.set)))) rfl (by kernel_rfl) (by kernel_rfl) (by kernel_rfl) (fun _ _ _ h => h) (yt_cat (by rfl) _ _ _ rfl ((nameL c.t) ++ ([58])) (setTxt x.set) rfl rfl (by simp only [List.length_cons, List.length_append, List.length_nil, hjt, name1]; omega)) ?_
        simp only [Act.put, List.setIfInBounds_toArray, List.set_cons_zero, List.set_cons_succ]
        refine wpAnyL_pure (i := 8) (oi := ⟨_, _, _, _, _, _⟩) (v := .string (bs (((nameL c.t) ++ ([58])) ++ (setTxt x.set)))) rfl (by kernel_rfl) (by kernel_rfl) (by kernel_rfl) (fun _ _ _ h => h) (yl_assign (by rfl) _ rfl _ rfl) ?_
        simp only [Act.put, List.setIfInBounds_toArray, List.set_cons_zero, List.set_cons_succ]
        refine wpAnyL_done (by kernel_rfl) ?_ _
        refine hK10 _ _ ?_
        clear hK10 K10
        refine wp_ret ?_
        go_ret
        exact ⟨ret_str (by rw [hT1, ← hE1.t]; simp), below_none D⟩
      · have hT1 : exTxt (n + 1) x = 38 :: (40 :: (joinL (x.sub.map (exTxt n)) ++ [41])) := by unfold exTxt; rw [if_pos hk]
        refine wp_region_lit ?_
        refine wl_yield (o := ⟨_, _, _, _, _, _⟩) (.pointer (some ⟨g1, 0, none⟩)) (yt_fEx0 (by rfl) _ rfl g1 0 rfl) ?_
        simp only [Act.put, List.setIfInBounds_toArray, List.set_cons_zero, List.set_cons_succ]
        refine wl_yield (o := ⟨_, _, _, _, _, _⟩) (.int .i64 (c.k)) (yt_ldI (by rfl) _ rfl _ _ rfl c.k (fun _ h => by subst h; exact cell_heap G1 0)) ?_
        simp only [Act.put, List.setIfInBounds_toArray, List.set_cons_zero, List.set_cons_succ]
        refine wpList_nil ?_
        refine hK8 _ _ ?_
        clear hK8 K8
        refine wp_block ?_
        refine wp_seq_k (fun K9 hK9 => ?_)
        refine wp_region_lit ?_
        refine wl_yield (o := ⟨_, _, _, _, _, _⟩) (.bool false) (yt_eqlI (by rfl) _ _ _ rfl c.k 1 false rfl rfl (decide_eq_false (by have := hE1.k; omega))) ?_
        simp only [Act.put, List.setIfInBounds_toArray, List.set_cons_zero, List.set_cons_succ]
        refine wl_yield (o := ⟨_, _, _, _, _, _⟩) (.bool false) (yl_assign (by rfl) _ rfl _ rfl) ?_
        simp only [Act.put, List.setIfInBounds_toArray, List.set_cons_zero, List.set_cons_succ]
        refine wpList_nil ?_
        refine hK9 _ _ ?_
        clear hK9 K9
        refine wp_cond_false rfl ?_
        refine wp_seq_k (fun K10 hK10 => ?_)
        refine wp_region_lit ?_
        refine wl_yield (o := ⟨_, _, _, _, _, _⟩) (.bool true) (yt_eqlI (by rfl) _ _ _ rfl c.k 2 true rfl rfl (decide_eq_true (by have := hE1.k; omega))) ?_
        simp only [Act.put, List.setIfInBounds_toArray, List.set_cons_zero, List.set_cons_succ]
        refine wl_yield (o := ⟨_, _, _, _, _, _⟩) (.bool true) (yl_assign (by rfl) _ rfl _ rfl) ?_
        simp only [Act.put, List.setIfInBounds_toArray, List.set_cons_zero, List.set_cons_succ]
        refine wpList_nil ?_
        refine hK10 _ _ ?_
        clear hK10 K10
        refine wp_cond_true rfl ?_
        refine wp_seq_k (fun K11 hK11 => ?_)
        refine wp_region_lit ?_
        refine wl_yield (o := ⟨_, _, _, _, _, _⟩) (.slice q (((x.sub.take x.sub.length).map fun y => bs (exTxt n y)).length) cq) (yl_move (by rfl) _ rfl _ rfl) ?_
        simp only [Act.put, List.setIfInBounds_toArray, List.set_cons_zero, List.set_cons_succ]
        refine wt_call (o := ⟨_, _, _, _, _, _⟩) (by rfl) 36 _ _ rfl #[.slice q (((x.sub.take x.sub.length).map fun y => bs (exTxt n y)).length) cq] rfl (run_call Tryz.func36 (by kernel_rfl) (by kernel_rfl)) ?_
        refine (refJoin7 _ RP (by rw [List.length_map, List.length_take]; omega) (by rw [hjt]; omega)).mono ?_
        rintro r v2 ⟨rfl, kb⟩
        replace D := grown_below D kb
        replace RP := ownsRow_on RP kb
        replace HE := HE.on kb
        replace G1 := heap_on G1 kb
        clear kb
        refine Or.inl ⟨.string (bs (joinL (((x.sub.take x.sub.length).map fun y => bs (exTxt n y)).map (·.data.toList)))), rfl, ?_⟩
        simp only [Act.put, List.setIfInBounds_toArray, List.set_cons_zero, List.set_cons_succ]
        refine wl_yield (o := ⟨_, _, _, _, _, _⟩) (.string (bs (([38, 40]) ++ (joinL (((x.sub.take x.sub.length).map fun y => bs (exTxt n y)).map (·.data.toList)))))) (yt_cat (by rfl) _ _ _ rfl ([38, 40]) (joinL (((x.sub.take x.sub.length).map fun y => bs (exTxt n y)).map (·.data.toList))) rfl rfl (by simp only [List.length_cons, List.length_append, List.length_nil, hjt, name1]; omega)) ?_
        simp only [Act.put, List.setIfInBounds_toArray, List.set_cons_zero, List.set_cons_succ]
        refine wl_yield (o := ⟨_, _, _, _, _, _⟩) (.string (bs ((([38, 40]) ++ (joinL (((x.sub.take x.sub.length).map fun y => bs (exTxt n y)).map (·.data.toList)))) ++ ([41])))) (yt_cat (by rfl) _ _ _ rfl (([38, 40]) ++ (joinL (((x.sub.take x.sub.length).map fun y => bs (exTxt n y)).map (·.data.toList)))) ([41]) rfl rfl (by simp only [List.length_cons, List.length_append, List.length_nil, hjt, name1]; omega)) ?_
        simp only [Act.put, List.setIfInBounds_toArray, List.set_cons_zero, List.set_cons_succ]
        refine wl_yield (o := ⟨_, _, _, _, _, _⟩) (.string (bs ((([38, 40]) ++ (joinL (((x.sub.take x.sub.length).map fun y => bs (exTxt n y)).map (·.data.toList)))) ++ ([41])))) (yl_assign (by rfl) _ rfl _ rfl) ?_
        simp only [Act.put, List.setIfInBounds_toArray, List.set_cons_zero, List.set_cons_succ]
        refine wpList_nil ?_
        refine hK11 _ _ ?_
        clear hK11 K11
        refine wp_ret ?_
        go_ret
        exact ⟨ret_str (by rw [hT1, ← hjt]; rfl), below_none D⟩
      · have hT1 : exTxt (n + 1) x = 124 :: (40 :: (joinL (x.sub.map (exTxt n)) ++ [41])) := by unfold exTxt; rw [if_neg (by omega), if_pos hk]
        refine wp_region_lit ?_
        refine wl_yield (o := ⟨_, _, _, _, _, _⟩) (.pointer (some ⟨g1, 0, none⟩)) (yt_fEx0 (by rfl) _ rfl g1 0 rfl) ?_
        simp only [Act.put, List.setIfInBounds_toArray, List.set_cons_zero, List.set_cons_succ]
        refine wl_yield (o := ⟨_, _, _, _, _, _⟩) (.int .i64 (c.k)) (yt_ldI (by rfl) _ rfl _ _ rfl c.k (fun _ h => by subst h; exact cell_heap G1 0)) ?_
        simp only [Act.put, List.setIfInBounds_toArray, List.set_cons_zero, List.set_cons_succ]
        refine wpList_nil ?_
        refine hK8 _ _ ?_
        clear hK8 K8
        refine wp_block ?_
        refine wp_seq_k (fun K9 hK9 => ?_)
        refine wp_region_lit ?_
        refine wl_yield (o := ⟨_, _, _, _, _, _⟩) (.bool false) (yt_eqlI (by rfl) _ _ _ rfl c.k 1 false rfl rfl (decide_eq_false (by have := hE1.k; omega))) ?_
        simp only [Act.put, List.setIfInBounds_toArray, List.set_cons_zero, List.set_cons_succ]
        refine wl_yield (o := ⟨_, _, _, _, _, _⟩) (.bool false) (yl_assign (by rfl) _ rfl _ rfl) ?_
        simp only [Act.put, List.setIfInBounds_toArray, List.set_cons_zero, List.set_cons_succ]
        refine wpList_nil ?_
        refine hK9 _ _ ?_
        clear hK9 K9
        refine wp_cond_false rfl ?_
        refine wp_seq_k (fun K10 hK10 => ?_)
        refine wp_region_lit ?_
        refine wl_yield (o := ⟨_, _, _, _, _, _⟩) (.bool false) (yt_eqlI (by rfl) _ _ _ rfl c.k 2 false rfl rfl (decide_eq_false (by have := hE1.k; omega))) ?_
        simp only [Act.put, List.setIfInBounds_toArray, List.set_cons_zero, List.set_cons_succ]
        refine wl_yield (o := ⟨_, _, _, _, _, _⟩) (.bool false) (yl_assign (by rfl) _ rfl _ rfl) ?_
        simp only [Act.put, List.setIfInBounds_toArray, List.set_cons_zero, List.set_cons_succ]
        refine wpList_nil ?_
        refine hK10 _ _ ?_
        clear hK10 K10
        refine wp_cond_false rfl ?_
        refine wp_seq_k (fun K11 hK11 => ?_)
        refine wp_region_lit ?_
        refine wl_yield (o := ⟨_, _, _, _, _, _⟩) (.bool true) (yt_eqlI (by rfl) _ _ _ rfl c.k 3 true rfl rfl (decide_eq_true (by have := hE1.k; omega))) ?_
        simp only [Act.put, List.setIfInBounds_toArray, List.set_cons_zero, List.set_cons_succ]
        refine wl_yield (o := ⟨_, _, _, _, _, _⟩) (.bool true) (yl_assign (by rfl) _ rfl _ rfl) ?_
        simp only [Act.put, List.setIfInBounds_toArray, List.set_cons_zero, List.set_cons_succ]
        refine wpList_nil ?_
        refine hK11 _ _ ?_
        clear hK11 K11
        refine wp_cond_true rfl ?_
        refine wp_seq_k (fun K12 hK12 => ?_)
        refine wp_region_lit ?_
        refine wl_yield (o := ⟨_, _, _, _, _, _⟩) (.slice q (((x.sub.take x.sub.length).map fun y => bs (exTxt n y)).length) cq) (yl_move (by rfl) _ rfl _ rfl) ?_
        simp only [Act.put, List.setIfInBounds_toArray, List.set_cons_zero, List.set_cons_succ]
        refine wt_call (o := ⟨_, _, _, _, _, _⟩) (by rfl) 36 _ _ rfl #[.slice q (((x.sub.take x.sub.length).map fun y => bs (exTxt n y)).length) cq] rfl (run_call Tryz.func36 (by kernel_rfl) (by kernel_rfl)) ?_
        refine (refJoin7 _ RP (by rw [List.length_map, List.length_take]; omega) (by rw [hjt]; omega)).mono ?_
        rintro r v2 ⟨rfl, kb⟩
        replace D := grown_below D kb
        replace RP := ownsRow_on RP kb
        replace HE := HE.on kb
        replace G1 := heap_on G1 kb
        clear kb
        refine Or.inl ⟨.string (bs (joinL (((x.sub.take x.sub.length).map fun y => bs (exTxt n y)).map (·.data.toList)))), rfl, ?_⟩
        simp only [Act.put, List.setIfInBounds_toArray, List.set_cons_zero, List.set_cons_succ]
        refine wl_yield (o := ⟨_, _, _, _, _, _⟩) (.string (bs (([124, 40]) ++ (joinL (((x.sub.take x.sub.length).map fun y => bs (exTxt n y)).map (·.data.toList)))))) (yt_cat (by rfl) _ _ _ rfl ([124, 40]) (joinL (((x.sub.take x.sub.length).map fun y => bs (exTxt n y)).map (·.data.toList))) rfl rfl (by simp only [List.length_cons, List.length_append, List.length_nil, hjt, name1]; omega)) ?_
        simp only [Act.put, List.setIfInBounds_toArray, List.set_cons_zero, List.set_cons_succ]
        refine wl_yield (o := ⟨_, _, _, _, _, _⟩) (.string (bs ((([124, 40]) ++ (joinL (((x.sub.take x.sub.length).map fun y => bs (exTxt n y)).map (·.data.toList)))) ++ ([41])))) (yt_cat (by rfl) _ _ _ rfl (([124, 40]) ++ (joinL (((x.sub.take x.sub.length).map fun y => bs (exTxt n y)).map (·.data.toList)))) ([41]) rfl rfl (by simp only [List.length_cons, List.length_append, List.length_nil, hjt, name1]; omega)) ?_
        simp only [Act.put, List.setIfInBounds_toArray, List.set_cons_zero, List.set_cons_succ]
        refine wl_yield (o := ⟨_, _, _, _, _, _⟩) (.string (bs ((([124, 40]) ++ (joinL (((x.sub.take x.sub.length).map fun y => bs (exTxt n y)).map (·.data.toList)))) ++ ([41])))) (yl_assign (by rfl) _ rfl _ rfl) ?_
        simp only [Act.put, List.setIfInBounds_toArray, List.set_cons_zero, List.set_cons_succ]
        refine wpList_nil ?_
        refine hK12 _ _ ?_
        clear hK12 K12
        refine wp_ret ?_
        go_ret
        exact ⟨ret_str (by rw [hT1, ← hjt]; rfl), below_none D⟩
      · have h4 := (node_op hn (by omega)).2 hk
        obtain ⟨y, hy⟩ := List.length_eq_one_iff.1 h4
        have hT1 : exTxt (n + 1) x = 33 :: joinL (x.sub.map (exTxt n)) := by rw [exTxt, if_neg (by omega), if_neg (by omega), if_pos hk, hy]; rfl
        refine wp_region_lit ?_
        refine wl_yield (o := ⟨_, _, _, _, _, _⟩) (.pointer (some ⟨g1, 0, none⟩)) (yt_fEx0 (by rfl) _ rfl g1 0 rfl) ?_
        simp only [Act.put, List.setIfInBounds_toArray, List.set_cons_zero, List.set_cons_succ]
        refine wl_yield (o := ⟨_, _, _, _, _, _⟩) (.int .i64 (c.k)) (yt_ldI (by rfl) _ rfl _ _ rfl c.k (fun _ h => by subst h; exact cell_heap G1 0)) ?_
        simp only [Act.put, List.setIfInBounds_toArray, List.set_cons_zero, List.set_cons_succ]
        refine wpList_nil ?_
        refine hK8 _ _ ?_
        clear hK8 K8
        refine wp_block ?_
        refine wp_seq_k (fun K9 hK9 => ?_)
        refine wp_region_lit ?_
        refine wl_yield (o := ⟨_, _, _, _, _, _⟩) (.bool false) (yt_eqlI (by rfl) _ _ _ rfl c.k 1 false rfl rfl (decide_eq_false (by have := hE1.k; omega))) ?_
        simp only [Act.put, List.setIfInBounds_toArray, List.set_cons_zero, List.set_cons_succ]
        refine wl_yield (o := ⟨_, _, _, _, _, _⟩) (.bool false) (yl_assign (by rfl) _ rfl _ rfl) ?_
        simp only [Act.put, List.setIfInBounds_toArray, List.set_cons_zero, List.set_cons_succ]
        refine wpList_nil ?_
        refine hK9 _ _ ?_
        clear hK9 K9
        refine wp_cond_false rfl ?_
        refine wp_seq_k (fun K10 hK10 => ?_)
        refine wp_region_lit ?_
        refine wl_yield (o := ⟨_, _, _, _, _, _⟩) (.bool false) (yt_eqlI (by rfl) _ _ _ rfl c.k 2 false rfl rfl (decide_eq_false (by have := hE1.k; omega))) ?_
        simp only [Act.put, List.setIfInBounds_toArray, List.set_cons_zero, List.set_cons_succ]
        refine wl_yield (o := ⟨_, _, _, _, _, _⟩) (.bool false) (yl_assign (by rfl) _ rfl _ rfl) ?_
        simp only [Act.put, List.setIfInBounds_toArray, List.set_cons_zero, List.set_cons_succ]
        refine wpList_nil ?_
        refine hK10 _ _ ?_
        clear hK10 K10
        refine wp_cond_false rfl ?_
        refine wp_seq_k (fun K11 hK11 => ?_)
        refine wp_region_lit ?_
        refine wl_yield (o := ⟨_, _, _, _, _, _⟩) (.bool false) (yt_eqlI (by rfl) _ _ _ rfl c.k 3 false rfl rfl (decide_eq_false (by have := hE1.k; omega))) ?_
        simp only [Act.put, List.setIfInBounds_toArray, List.set_cons_zero, List.set_cons_succ]
        refine wl_yield (o := ⟨_, _, _, _, _, _⟩) (.bool false) (yl_assign (by rfl) _ rfl _ rfl) ?_
        simp only [Act.put, List.setIfInBounds_toArray, List.set_cons_zero, List.set_cons_succ]
        refine wpList_nil ?_
        refine hK11 _ _ ?_
        clear hK11 K11
        refine wp_cond_false rfl ?_
        refine wp_skip ?_
        refine hK7 _ _ ?_
        clear hK7 K7
        refine wp_seq_k (fun K12 hK12 => ?_)
        refine wp_region_lit ?_
        refine wl_yield (o := ⟨_, _, _, _, _, _⟩) (.slice q (((x.sub.take x.sub.length).map fun y => bs (exTxt n y)).length) cq) (yl_move (by rfl) _ rfl _ rfl) ?_
        simp only [Act.put, List.setIfInBounds_toArray, List.set_cons_zero, List.set_cons_succ]
        refine wt_call (o := ⟨_, _, _, _, _, _⟩) (by rfl) 36 _ _ rfl #[.slice q (((x.sub.take x.sub.length).map fun y => bs (exTxt n y)).length) cq] rfl (run_call Tryz.func36 (by kernel_rfl) (by kernel_rfl)) ?_
        refine (refJoin7 _ RP (by rw [List.length_map, List.length_take]; omega) (by rw [hjt]; omega)).mono ?_
        rintro r v2 ⟨rfl, kb⟩
        replace D := grown_below D kb
        replace RP := ownsRow_on RP kb
        replace HE := HE.on kb
        replace G1 := heap_on G1 kb
        clear kb
        refine Or.inl ⟨.string (bs (joinL (((x.sub.take x.sub.length).map fun y => bs (exTxt n y)).map (·.data.toList)))), rfl, ?_⟩
        simp only [Act.put, List.setIfInBounds_toArray, List.set_cons_zero, List.set_cons_succ]
        refine wl_yield (o := ⟨_, _, _, _, _, _⟩) (.string (bs (([33]) ++ (joinL (((x.sub.take x.sub.length).map fun y => bs (exTxt n y)).map (·.data.toList)))))) (yt_cat (by rfl) _ _ _ rfl ([33]) (joinL (((x.sub.take x.sub.length).map fun y => bs (exTxt n y)).map (·.data.toList))) rfl rfl (by simp only [List.length_cons, List.length_append, List.length_nil, hjt, name1]; omega)) ?_
        simp only [Act.put, List.setIfInBounds_toArray, List.set_cons_zero, List.set_cons_succ]
        refine wl_yield (o := ⟨_, _, _, _, _, _⟩) (.string (bs (([33]) ++ (joinL (((x.sub.take x.sub.length).map fun y => bs (exTxt n y)).map (·.data.toList)))))) (yl_assign (by rfl) _ rfl _ rfl) ?_
        simp only [Act.put, List.setIfInBounds_toArray, List.set_cons_zero, List.set_cons_succ]
        refine wpList_nil ?_
        refine hK12 _ _ ?_
        clear hK12 K12
        refine wp_ret ?_
        go_ret
        exact ⟨ret_str (by rw [hT1, ← hjt]; rfl), below_none D⟩

theorem refExpr7 : ∀ n, RefTxtOr n
  | 0 => fun c x w _ h => by cases h
  | n + 1 => fun c x w HE hX he hl => by
    obtain ⟨c', e1, hE1⟩ := hX.ec
    obtain rfl := ec_inj e1
    have h1 := sub_txt n x he
    have h2 := sub_len_txt n x he hl
    unfold eachX at he
    rw [Bool.and_eq_true, List.all_eq_true] at he
    exact refExpr7_step n (refExpr7 n) _ x w HE hX hE1 he.1 he.2 (by omega) h2
end Go.Proofs.YtciflobdpenpaaaGreatDoor
/-
  The law TextPrints.
-/
set_option linter.unusedSimpArgs false
set_option linter.unusedVariables false
namespace Go.Proofs.YtciflobdpenpaaaGreatDoor
open Go.RowKit

theorem xp_set {n : Nat} {w : World} {c : EC} {x : ExV} (hx : Xp n w c x) : SetAt w c.s.val x.set := by
  obtain ⟨c', e, h⟩ := hx.ec
  obtain rfl := ec_inj e
  exact h.s
theorem xp_ok {n : Nat} {w : World} {c : EC} {x : ExV} (hx : Xp n w c x) (hr : rightSet x.set = true) : okB x.set := by
  obtain ⟨vi, vs, _, hI, _⟩ := xp_set hx
  exact right_okB hr hI.1
theorem few_set {n : Nat} {w : World} {c : EC} {x : ExV} (hx : Xp n w c x) (h : fewX n x = true) : x.set.ints.length ≤ 40 ∧ x.set.strs.length ≤ 40 ∧ fewB x.set = true := by
  obtain ⟨m, rfl⟩ := hx.pos
  unfold fewX setsX at h
  rw [Bool.and_eq_true, Bool.and_eq_true, Bool.and_eq_true] at h
  have hf := h.2.1
  have h2 := hf
  unfold fewB at h2
  simp only [Bool.and_eq_true, decide_eq_true_eq] at h2
  exact ⟨h2.1.1, h2.1.2, hf⟩
theorem progSetC {s : SC} {S : SetV} (w : World) (HE : Env w) (h : SetAt w s.val S) (hok : okB S) (l1 : S.ints.length ≤ 1000) (l2 : S.strs.length ≤ 1000) :
    Calls Tryz.prog 11 #[s.val] w fun e w' => e = .returned (.string (bs (setTxt S))) ∧ Below w.heap.size w w' := by
  obtain ⟨vi, vs, e, hI, hT⟩ := h
  obtain ⟨p, c, rfl⟩ := slice_of hI
  obtain ⟨p', c', rfl⟩ := slice_of' hT
  rw [e]
  exact setText_any S p p' c c' w HE hI hT hok l1 l2
theorem want_ok {n : Nat} {w : World} {c : EC} {x : ExV} (hx : Xp n w c x) (hr : rightX x = true) (HE : Env w) : Calls Tryz.prog 15 #[c.val] w fun e w' => e = .returned (.string (bs (exTxt 8 x))) ∧ Below w.heap.size w w' := by
  have h8 := ExAt.shrink n 8 hx (rightX_low hr)
  have := txt_small hr (exAt_okI 8 h8)
  exact refExpr7 8 c x w HE h8 (rightX_each hr) (by omega)

set_option maxHeartbeats 1000000 in
set_option maxRecDepth 100000 in
theorem textPrints_walk (n : Nat) (c : EC) (x : ExV) (w : World) (HE : Env w) (HX : Xp n w c x) :
    Calls Tryz.prog 3 #[c.val] w fun r w' => r = .returned (.bool true) ∧ Below w.heap.size w w' := by
  have w6 : 6 ≤ w.heap.size := HE.big
  have D : w.grownBy w none := grown_refl _ _
  go_enter Tryz.func3, Tryz.ntmps3
  refine wp_seq_k (fun K1 hK1 => ?_)
  refine wp_region_lit ?_
  refine wt_boxEx (o := ⟨_, _, _, _, _, _⟩) (by rfl) _ rfl (c) rfl (fun v1 g1 hg G1 kb => ?_)
  simp only [Act.put, List.setIfInBounds_toArray, List.set_cons_zero, List.set_cons_succ]
  have ge_g1 : w.heap.size ≤ g1 := Nat.le_trans D.size hg
  have six_g1 : 6 ≤ g1 := Nat.le_trans w6 ge_g1
  clear hg
  replace D := grown_below D kb
  replace HE := HE.on kb
  replace HX := HX.on kb
  clear kb
  replace G1 : v1.heap[g1]? = some (.cells #[.int .i64 (c.k), .int .i64 (c.t), .bool (c.s.a), .slice c.s.p c.s.n c.s.c, .bool (c.s.d), .slice c.s.q c.s.m c.s.e, .slice c.p c.n c.c] 28 (0, 0)) := G1
  refine wl_yield (o := ⟨_, _, _, _, _, _⟩) (.bool false) (yl_assign (by rfl) _ rfl _ rfl) ?_
  simp only [Act.put, List.setIfInBounds_toArray, List.set_cons_zero, List.set_cons_succ]
  refine wpList_nil ?_
  refine hK1 _ _ ?_
  clear hK1 K1
  refine wp_seq_k (fun K2 hK2 => ?_)
  refine wp_seq_k (fun K3 hK3 => ?_)
  refine wp_region_lit ?_
  refine wt_call (o := ⟨_, _, _, _, _, _⟩) (by rfl) 8 _ _ rfl #[] rfl (run_call Tryz.func8 (by kernel_rfl) (by kernel_rfl)) ?_
  refine (awake7_any _ HE).mono ?_
  rintro r v2 ⟨rfl, kb⟩
  replace D := grown_below D kb
  replace HE := HE.on kb
  replace HX := HX.on kb
  replace G1 := heap_on G1 kb
  clear kb
  refine Or.inl ⟨.bool true, rfl, ?_⟩
  simp only [Act.put, List.setIfInBounds_toArray, List.set_cons_zero, List.set_cons_succ]
  refine wl_yield (o := ⟨_, _, _, _, _, _⟩) (.bool false) (yl_not (by rfl) _ _ rfl true rfl) ?_
  simp only [Act.put, List.setIfInBounds_toArray, List.set_cons_zero, List.set_cons_succ]
  refine wl_yield (o := ⟨_, _, _, _, _, _⟩) (.bool false) (yl_move (by rfl) _ rfl _ rfl) ?_
  simp only [Act.put, List.setIfInBounds_toArray, List.set_cons_zero, List.set_cons_succ]
  refine wl_yield (o := ⟨_, _, _, _, _, _⟩) (EC.val c) (yl_ex (by rfl) _ rfl _ 0 rfl (c := ⟨c.k, c.t, ⟨c.s.a, c.s.p, c.s.n, c.s.c, c.s.d, c.s.q, c.s.m, c.s.e⟩, c.p, c.n, c.c⟩) (fun _ h => by subst h; exact ⟨cell_heap G1 0, cell_heap G1 1, cell_heap G1 2, cell_heap G1 3, cell_heap G1 4, cell_heap G1 5, cell_heap G1 6⟩)) ?_
  simp only [Act.put, List.setIfInBounds_toArray, List.set_cons_zero, List.set_cons_succ]
  cases hFx : fewX n x
  · refine wt_call (o := ⟨_, _, _, _, _, _⟩) (by rfl) 9 _ _ rfl #[EC.val c] rfl (run_call Tryz.func9 (by kernel_rfl) (by kernel_rfl)) ?_
    refine (c_refFew HX).mono ?_
    rintro r v3 ⟨rfl, kb⟩
    replace D := grown_below D kb
    replace HE := HE.on kb
    replace HX := HX.on kb
    replace G1 := heap_on G1 kb
    clear kb
    refine Or.inl ⟨.bool false, by rw [hFx], ?_⟩
    simp only [Act.put, List.setIfInBounds_toArray, List.set_cons_zero, List.set_cons_succ]
    refine wl_yield (o := ⟨_, _, _, _, _, _⟩) (.bool true) (yl_not (by rfl) _ _ rfl false rfl) ?_
    simp only [Act.put, List.setIfInBounds_toArray, List.set_cons_zero, List.set_cons_succ]
    refine wl_yield (o := ⟨_, _, _, _, _, _⟩) (.bool true) (yl_pickF (by rfl) _ _ _ rfl rfl _ rfl) ?_
    simp only [Act.put, List.setIfInBounds_toArray, List.set_cons_zero, List.set_cons_succ]
    refine wpList_nil ?_
    refine hK3 _ _ ?_
    clear hK3 K3
    refine wp_cond_true rfl ?_
    refine wp_seq_k (fun K4 hK4 => ?_)
    refine wp_region_lit ?_
    refine wt_call (o := ⟨_, _, _, _, _, _⟩) (by rfl) 8 _ _ rfl #[] rfl (run_call Tryz.func8 (by kernel_rfl) (by kernel_rfl)) ?_
    refine (awake7_any _ HE).mono ?_
    rintro r v4 ⟨rfl, kb⟩
    replace D := grown_below D kb
    replace HE := HE.on kb
    replace HX := HX.on kb
    replace G1 := heap_on G1 kb
    clear kb
    refine Or.inl ⟨.bool true, rfl, ?_⟩
    simp only [Act.put, List.setIfInBounds_toArray, List.set_cons_zero, List.set_cons_succ]
    refine wl_yield (o := ⟨_, _, _, _, _, _⟩) (.bool true) (yl_assign (by rfl) _ rfl _ rfl) ?_
    simp only [Act.put, List.setIfInBounds_toArray, List.set_cons_zero, List.set_cons_succ]
    refine wpList_nil ?_
    refine hK4 _ _ ?_
    clear hK4 K4
    refine wp_ret ?_
    go_ret
    exact ⟨rfl, below_none D⟩
  · refine wt_call (o := ⟨_, _, _, _, _, _⟩) (by rfl) 9 _ _ rfl #[EC.val c] rfl (run_call Tryz.func9 (by kernel_rfl) (by kernel_rfl)) ?_
    refine (c_refFew HX).mono ?_
    rintro r v3 ⟨rfl, kb⟩
    replace D := grown_below D kb
    replace HE := HE.on kb
    replace HX := HX.on kb
    replace G1 := heap_on G1 kb
    clear kb
    obtain ⟨l40, l41, hfB⟩ := few_set HX hFx
    replace HX : Xp 19 _ _ _ := ExAt.shrink _ 19 HX (few_low hFx)
    refine Or.inl ⟨.bool true, by rw [hFx], ?_⟩
    simp only [Act.put, List.setIfInBounds_toArray, List.set_cons_zero, List.set_cons_succ]
    refine wl_yield (o := ⟨_, _, _, _, _, _⟩) (.bool false) (yl_not (by rfl) _ _ rfl true rfl) ?_
    simp only [Act.put, List.setIfInBounds_toArray, List.set_cons_zero, List.set_cons_succ]
    refine wl_yield (o := ⟨_, _, _, _, _, _⟩) (.bool false) (yl_pickF (by rfl) _ _ _ rfl rfl _ rfl) ?_
    simp only [Act.put, List.setIfInBounds_toArray, List.set_cons_zero, List.set_cons_succ]
    refine wpList_nil ?_
    refine hK3 _ _ ?_
    clear hK3 K3
    refine wp_cond_false rfl ?_
    refine wp_skip ?_
    refine hK2 _ _ ?_
    clear hK2 K2
    refine wp_seq_k (fun K4 hK4 => ?_)
    refine wp_seq_k (fun K5 hK5 => ?_)
    cases hrs : rightSet x.set
    · refine wp_region_late (S := fun w' => w'.heap[g1]? = some (.cells #[.int .i64 (c.k), .int .i64 (c.t), .bool (c.s.a), .slice c.s.p c.s.n c.s.c, .bool (c.s.d), .slice c.s.q c.s.m c.s.e, .slice c.p c.n c.c] 28 (0, 0))) (late := fun j => [].contains j) (by kernel_rfl) ?_
      have kb : Below v3.heap.size v3 v3.drew := (Below.refl _ v3).drew
      replace D := grown_below D kb
      replace HE := HE.on kb
      replace HX := HX.on kb
      replace G1 := heap_on G1 kb
      clear kb
      generalize v3.drew = v4 at D HE HX G1 ⊢
      refine wpAnyL_pure (i := 0) (oi := ⟨_, _, _, _, _, _⟩) (v := .pointer (some ⟨g1, 2, none⟩)) rfl (by kernel_rfl) (by kernel_rfl) (by kernel_rfl) (fun _ _ _ h => h) (yt_fEx2 (by rfl) _ rfl g1 0 rfl) ?_
      simp only [Act.put, List.setIfInBounds_toArray, List.set_cons_zero, List.set_cons_succ]
      refine wpAnyL_load (i := 1) (oi := ⟨_, _, _, _, _, _⟩) (v := SC.val c.s) rfl (by kernel_rfl) (by kernel_rfl) (by kernel_rfl) (by kernel_rfl) (fun _ _ _ h => h) (yl_set (by rfl) _ rfl _ 2 rfl _ _ _ _ (fun _ h => ⟨cell_heap h 2, cell_heap h 3, cell_heap h 4, cell_heap h 5⟩)) G1 ?_
      simp only [Act.put, List.setIfInBounds_toArray, List.set_cons_zero, List.set_cons_succ]
      refine wpAnyL_all (rs := [2]) (by kernel_rfl) (by simp) ?_
      intro j hj
      have hj := List.mem_singleton.1 hj
      subst hj
      refine ot_call (o := ⟨_, _, _, _, _, _⟩) rfl (by rfl) 10 _ _ rfl #[SC.val c.s] rfl (run_call Tryz.func10 (by kernel_rfl) (by kernel_rfl)) ?_
      refine (refRightSet_any _ x.set _ (xp_set HX)).mono ?_
      rintro r v5 (⟨rfl, kb⟩)
      replace D := grown_below D kb
      replace HE := HE.on kb
      replace HX := HX.on kb
      replace G1 := heap_on G1 kb
      clear kb
      refine Or.inl ⟨.bool false, by rw [hrs], ⟨fun _ _ => G1, ?_⟩⟩
      simp only [Act.put, List.setIfInBounds_toArray, List.set_cons_zero, List.set_cons_succ]
      refine wpAnyL_pure (i := 3) (oi := ⟨_, _, _, _, _, _⟩) (v := .bool false) rfl (by kernel_rfl) (by kernel_rfl) (by kernel_rfl) (fun _ _ _ h => h) (yl_move (by rfl) _ rfl _ rfl) ?_
      simp only [Act.put, List.setIfInBounds_toArray, List.set_cons_zero, List.set_cons_succ]
      refine wpAnyL_pure (i := 4) (oi := ⟨_, _, _, _, _, _⟩) (v := undef) rfl (by kernel_rfl) (by kernel_rfl) (by kernel_rfl) (fun _ _ _ h => h) (yl_undef (by rfl)) ?_
      simp only [Act.put, List.setIfInBounds_toArray, List.set_cons_zero, List.set_cons_succ]
      refine wpAnyL_load (i := 5) (oi := ⟨_, _, _, _, _, _⟩) (v := undef) rfl (by kernel_rfl) (by kernel_rfl) (by kernel_rfl) (by kernel_rfl) (fun _ _ _ h => h) (yl_undef (by rfl)) G1 ?_
      simp only [Act.put, List.setIfInBounds_toArray, List.set_cons_zero, List.set_cons_succ]
      refine wpAnyL_pure (i := 6) (oi := ⟨_, _, _, _, _, _⟩) (v := undef) rfl (by kernel_rfl) (by kernel_rfl) (by kernel_rfl) (fun _ _ _ h => h) (yl_undef (by rfl)) ?_
      simp only [Act.put, List.setIfInBounds_toArray, List.set_cons_zero, List.set_cons_succ]
      refine wpAnyL_pure (i := 7) (oi := ⟨_, _, _, _, _, _⟩) (v := undef) rfl (by kernel_rfl) (by kernel_rfl) (by kernel_rfl) (fun _ _ _ h => h) (yl_undef (by rfl)) ?_
      simp only [Act.put, List.setIfInBounds_toArray, List.set_cons_zero, List.set_cons_succ]
      refine wpAnyL_load (i := 8) (oi := ⟨_, _, _, _, _, _⟩) (v := undef) rfl (by kernel_rfl) (by kernel_rfl) (by kernel_rfl) (by kernel_rfl) (fun _ _ _ h => h) (yl_undef (by rfl)) G1 ?_
      simp only [Act.put, List.setIfInBounds_toArray, List.set_cons_zero, List.set_cons_succ]
      refine wpAnyL_pure (i := 9) (oi := ⟨_, _, _, _, _, _⟩) (v := undef) rfl (by kernel_rfl) (by kernel_rfl) (by kernel_rfl) (fun _ _ _ h => h) (yl_undef (by rfl)) ?_
      simp only [Act.put, List.setIfInBounds_toArray, List.set_cons_zero, List.set_cons_succ]
      refine wpAnyL_pure (i := 10) (oi := ⟨_, _, _, _, _, _⟩) (v := undef) rfl (by kernel_rfl) (by kernel_rfl) (by kernel_rfl) (fun _ _ _ h => h) (yl_undef (by rfl)) ?_
      simp only [Act.put, List.setIfInBounds_toArray, List.set_cons_zero, List.set_cons_succ]
      refine wpAnyL_pure (i := 11) (oi := ⟨_, _, _, _, _, _⟩) (v := .bool false) rfl (by kernel_rfl) (by kernel_rfl) (by kernel_rfl) (fun _ _ _ h => h) (yl_pickF (by rfl) _ _ _ rfl rfl _ rfl) ?_
      simp only [Act.put, List.setIfInBounds_toArray, List.set_cons_zero, List.set_cons_succ]
      refine wpAnyL_done (by kernel_rfl) ?_ _
      refine hK5 _ _ ?_
      clear hK5 K5
      refine wp_cond_false rfl ?_
      refine wp_skip ?_
      refine hK4 _ _ ?_
      clear hK4 K4
      refine wp_seq_k (fun K6 hK6 => ?_)
      refine wp_region_lit ?_
      refine wl_yield (o := ⟨_, _, _, _, _, _⟩) (EC.val c) (yl_ex (by rfl) _ rfl _ 0 rfl (c := ⟨c.k, c.t, ⟨c.s.a, c.s.p, c.s.n, c.s.c, c.s.d, c.s.q, c.s.m, c.s.e⟩, c.p, c.n, c.c⟩) (fun _ h => by subst h; exact ⟨cell_heap G1 0, cell_heap G1 1, cell_heap G1 2, cell_heap G1 3, cell_heap G1 4, cell_heap G1 5, cell_heap G1 6⟩)) ?_
      simp only [Act.put, List.setIfInBounds_toArray, List.set_cons_zero, List.set_cons_succ]
      rcases print_cases HX with ⟨hq, hr, hy, hl⟩ | ⟨z, hq, hz, hw⟩
      · refine wt_call (o := ⟨_, _, _, _, _, _⟩) (by rfl) 13 _ _ rfl #[EC.val c] rfl (run_call Tryz.func13 (by kernel_rfl) (by kernel_rfl)) ?_
        refine (print_any 19 c x _ HE HX (by omega)).mono ?_
        rintro r v6 ⟨rfl, kb⟩
        replace D := grown_below D kb
        replace HE := HE.on kb
        replace HX := HX.on kb
        replace G1 := heap_on G1 kb
        clear kb
        refine Or.inl ⟨.tuple #[.string (bs (exTxt 8 x)), .int .i64 0], by rw [hq], ?_⟩
        simp only [Act.put, List.setIfInBounds_toArray, List.set_cons_zero, List.set_cons_succ]
        refine wl_yield (o := ⟨_, _, _, _, _, _⟩) (.tuple #[.string (bs (exTxt 8 x)), .int .i64 0]) (yl_move (by rfl) _ rfl _ rfl) ?_
        simp only [Act.put, List.setIfInBounds_toArray, List.set_cons_zero, List.set_cons_succ]
        refine wl_yield (o := ⟨_, _, _, _, _, _⟩) (.string (bs (exTxt 8 x))) (yl_extract0 (by rfl) _ rfl _ _ rfl) ?_
        simp only [Act.put, List.setIfInBounds_toArray, List.set_cons_zero, List.set_cons_succ]
        refine wl_yield (o := ⟨_, _, _, _, _, _⟩) (.int .i64 0) (yl_extract1 (by rfl) _ rfl _ _ rfl) ?_
        simp only [Act.put, List.setIfInBounds_toArray, List.set_cons_zero, List.set_cons_succ]
        refine wl_yield (o := ⟨_, _, _, _, _, _⟩) (.string (bs (exTxt 8 x))) (yl_assign (by rfl) _ rfl _ rfl) ?_
        simp only [Act.put, List.setIfInBounds_toArray, List.set_cons_zero, List.set_cons_succ]
        refine wl_yield (o := ⟨_, _, _, _, _, _⟩) (.int .i64 0) (yl_assign (by rfl) _ rfl _ rfl) ?_
        simp only [Act.put, List.setIfInBounds_toArray, List.set_cons_zero, List.set_cons_succ]
        refine wpList_nil ?_
        refine hK6 _ _ ?_
        clear hK6 K6
        refine wp_seq_k (fun K7 hK7 => ?_)
        refine wp_seq_k (fun K8 hK8 => ?_)
        refine wp_region_lit ?_
        refine wl_yield (o := ⟨_, _, _, _, _, _⟩) (EC.val c) (yl_ex (by rfl) _ rfl _ 0 rfl (c := ⟨c.k, c.t, ⟨c.s.a, c.s.p, c.s.n, c.s.c, c.s.d, c.s.q, c.s.m, c.s.e⟩, c.p, c.n, c.c⟩) (fun _ h => by subst h; exact ⟨cell_heap G1 0, cell_heap G1 1, cell_heap G1 2, cell_heap G1 3, cell_heap G1 4, cell_heap G1 5, cell_heap G1 6⟩)) ?_
        simp only [Act.put, List.setIfInBounds_toArray, List.set_cons_zero, List.set_cons_succ]
        refine wt_call (o := ⟨_, _, _, _, _, _⟩) (by rfl) 14 _ _ rfl #[EC.val c] rfl (run_call Tryz.func14 (by kernel_rfl) (by kernel_rfl)) ?_
        refine (c_refRight HX).mono ?_
        rintro r v7 ⟨rfl, kb⟩
        replace D := grown_below D kb
        replace HE := HE.on kb
        replace HX := HX.on kb
        replace G1 := heap_on G1 kb
        clear kb
        refine Or.inl ⟨.bool true, by rw [hr], ?_⟩
        simp only [Act.put, List.setIfInBounds_toArray, List.set_cons_zero, List.set_cons_succ]
        refine wl_yield (o := ⟨_, _, _, _, _, _⟩) (.bool false) (yl_not (by rfl) _ _ rfl true rfl) ?_
        simp only [Act.put, List.setIfInBounds_toArray, List.set_cons_zero, List.set_cons_succ]
        refine wpList_nil ?_
        refine hK8 _ _ ?_
        clear hK8 K8
        refine wp_cond_false rfl ?_
        refine wp_skip ?_
        refine hK7 _ _ ?_
        clear hK7 K7
        refine wp_seq_k (fun K9 hK9 => ?_)
        refine wp_region_lit ?_
        refine wl_yield (o := ⟨_, _, _, _, _, _⟩) (EC.val c) (yl_ex (by rfl) _ rfl _ 0 rfl (c := ⟨c.k, c.t, ⟨c.s.a, c.s.p, c.s.n, c.s.c, c.s.d, c.s.q, c.s.m, c.s.e⟩, c.p, c.n, c.c⟩) (fun _ h => by subst h; exact ⟨cell_heap G1 0, cell_heap G1 1, cell_heap G1 2, cell_heap G1 3, cell_heap G1 4, cell_heap G1 5, cell_heap G1 6⟩)) ?_
        simp only [Act.put, List.setIfInBounds_toArray, List.set_cons_zero, List.set_cons_succ]
        refine wt_call (o := ⟨_, _, _, _, _, _⟩) (by rfl) 15 _ _ rfl #[EC.val c] rfl (run_call Tryz.func15 (by kernel_rfl) (by kernel_rfl)) ?_
        refine (want_ok HX hr HE).mono ?_
        rintro r v8 ⟨rfl, kb⟩
        replace D := grown_below D kb
        replace HE := HE.on kb
        replace HX := HX.on kb
        replace G1 := heap_on G1 kb
        clear kb
        refine Or.inl ⟨.string (bs (exTxt 8 x)), rfl, ?_⟩
        simp only [Act.put, List.setIfInBounds_toArray, List.set_cons_zero, List.set_cons_succ]
        refine wl_yield (o := ⟨_, _, _, _, _, _⟩) (.string (bs (exTxt 8 x))) (yl_assign (by rfl) _ rfl _ rfl) ?_
        simp only [Act.put, List.setIfInBounds_toArray, List.set_cons_zero, List.set_cons_succ]
        refine wpList_nil ?_
        refine hK9 _ _ ?_
        clear hK9 K9
        refine wp_seq_k (fun K10 hK10 => ?_)
        refine wp_seq_k (fun K11 hK11 => ?_)
        refine wp_region_lit ?_
        refine wl_yield (o := ⟨_, _, _, _, _, _⟩) (.string (bs (exTxt 8 x))) (yl_move (by rfl) _ rfl _ rfl) ?_
        simp only [Act.put, List.setIfInBounds_toArray, List.set_cons_zero, List.set_cons_succ]
        refine wl_yield (o := ⟨_, _, _, _, _, _⟩) (.int .i64 ((exTxt 8 x).length : Nat)) (yt_lenS (by rfl) _ rfl (exTxt 8 x) rfl) ?_
        simp only [Act.put, List.setIfInBounds_toArray, List.set_cons_zero, List.set_cons_succ]
        refine wl_yield (o := ⟨_, _, _, _, _, _⟩) (.bool false) (yt_gtrI (by rfl) _ _ _ rfl ((((exTxt 8 x).length : Nat) : Int)) 1024 false rfl rfl (decide_eq_false (by omega))) ?_
        simp only [Act.put, List.setIfInBounds_toArray, List.set_cons_zero, List.set_cons_succ]
        refine wpList_nil ?_
        refine hK11 _ _ ?_
        clear hK11 K11
        refine wp_cond_false rfl ?_
        refine wp_skip ?_
        refine hK10 _ _ ?_
        clear hK10 K10
        refine wp_seq_k (fun K12 hK12 => ?_)
        refine wp_region_lit ?_
        refine wl_yield (o := ⟨_, _, _, _, _, _⟩) (.string (bs (exTxt 8 x))) (yl_move (by rfl) _ rfl _ rfl) ?_
        simp only [Act.put, List.setIfInBounds_toArray, List.set_cons_zero, List.set_cons_succ]
        refine wt_call (o := ⟨_, _, _, _, _, _⟩) (by rfl) 16 _ _ rfl #[.string (bs (exTxt 8 x))] rfl (run_call Tryz.func16 (by kernel_rfl) (by kernel_rfl)) ?_
        refine (parse_any (exTxt 8 x) _ HE (by omega)).mono ?_
        rintro r v9 (⟨⟨d, err, rfl, PA⟩, kb⟩)
        · obtain ⟨rfl, PX⟩ := parsed_yes hy hl PA
          clear PA
          replace D := grown_below D kb
          replace HE := HE.on kb
          replace HX := HX.on kb
          replace G1 := heap_on G1 kb
          clear kb
          refine Or.inl ⟨.tuple #[EC.val d, .int .i64 0], rfl, ?_⟩
          simp only [Act.put, List.setIfInBounds_toArray, List.set_cons_zero, List.set_cons_succ]
          refine wl_yield (o := ⟨_, _, _, _, _, _⟩) (.tuple #[EC.val d, .int .i64 0]) (yl_move (by rfl) _ rfl _ rfl) ?_
          simp only [Act.put, List.setIfInBounds_toArray, List.set_cons_zero, List.set_cons_succ]
          refine wl_yield (o := ⟨_, _, _, _, _, _⟩) (EC.val d) (yl_extract0 (by rfl) _ rfl _ _ rfl) ?_
          simp only [Act.put, List.setIfInBounds_toArray, List.set_cons_zero, List.set_cons_succ]
          refine wl_yield (o := ⟨_, _, _, _, _, _⟩) (.int .i64 0) (yl_extract1 (by rfl) _ rfl _ _ rfl) ?_
          simp only [Act.put, List.setIfInBounds_toArray, List.set_cons_zero, List.set_cons_succ]
          refine wl_newEx (o := ⟨_, _, _, _, _, _⟩) (o2 := ⟨_, _, _, _, _, _⟩) (by rfl) rfl _ _ rfl rfl (fun _ => rfl) (c := d) (fun _ => rfl) (fun v10 g10 G10 kb => ?_)
          simp only [Act.put, List.setIfInBounds_toArray, List.set_cons_zero, List.set_cons_succ]
          replace D := grown_below D kb
          replace HE := HE.on kb
          replace HX := HX.on kb
          replace G1 := heap_on G1 kb
          replace PX := PX.on kb
          clear kb
          replace G10 : v10.heap[g10]? = some (.cells #[.int .i64 (d.k), .int .i64 (d.t), .bool (d.s.a), .slice d.s.p d.s.n d.s.c, .bool (d.s.d), .slice d.s.q d.s.m d.s.e, .slice d.p d.n d.c] 28 (0, 0)) := G10
          refine wl_yield (o := ⟨_, _, _, _, _, _⟩) (.int .i64 0) (yl_assign (by rfl) _ rfl _ rfl) ?_
          simp only [Act.put, List.setIfInBounds_toArray, List.set_cons_zero, List.set_cons_succ]
          refine wpList_nil ?_
          refine hK12 _ _ ?_
          clear hK12 K12
          refine wp_seq_k (fun K13 hK13 => ?_)
          refine wp_region_lit ?_
          refine wl_yield (o := ⟨_, _, _, _, _, _⟩) (.string (bs (exTxt 8 x))) (yl_move (by rfl) _ rfl _ rfl) ?_
          simp only [Act.put, List.setIfInBounds_toArray, List.set_cons_zero, List.set_cons_succ]
          refine wl_yield (o := ⟨_, _, _, _, _, _⟩) (.string (bs (exTxt 8 x))) (yl_move (by rfl) _ rfl _ rfl) ?_
          simp only [Act.put, List.setIfInBounds_toArray, List.set_cons_zero, List.set_cons_succ]
          refine wl_yield (o := ⟨_, _, _, _, _, _⟩) (.bool true) (yt_eqS (by rfl) _ _ _ rfl (exTxt 8 x) (exTxt 8 x) true rfl rfl (by simp)) ?_
          simp only [Act.put, List.setIfInBounds_toArray, List.set_cons_zero, List.set_cons_succ]
          refine wl_yield (o := ⟨_, _, _, _, _, _⟩) (.bool true) (yl_move (by rfl) _ rfl _ rfl) ?_
          simp only [Act.put, List.setIfInBounds_toArray, List.set_cons_zero, List.set_cons_succ]
          refine wl_yield (o := ⟨_, _, _, _, _, _⟩) (.int .i64 0) (yl_move (by rfl) _ rfl _ rfl) ?_
          simp only [Act.put, List.setIfInBounds_toArray, List.set_cons_zero, List.set_cons_succ]
          refine wl_yield (o := ⟨_, _, _, _, _, _⟩) (.bool true) (yt_eqlE (by rfl) _ _ _ rfl 0 0 true rfl rfl (by decide)) ?_
          simp only [Act.put, List.setIfInBounds_toArray, List.set_cons_zero, List.set_cons_succ]
          refine wl_yield (o := ⟨_, _, _, _, _, _⟩) (.bool true) (yl_pickT (by rfl) _ _ _ rfl rfl _ rfl) ?_
          simp only [Act.put, List.setIfInBounds_toArray, List.set_cons_zero, List.set_cons_succ]
          refine wl_yield (o := ⟨_, _, _, _, _, _⟩) (.bool true) (yl_move (by rfl) _ rfl _ rfl) ?_
          simp only [Act.put, List.setIfInBounds_toArray, List.set_cons_zero, List.set_cons_succ]
          refine wl_yield (o := ⟨_, _, _, _, _, _⟩) (.int .i64 0) (yl_move (by rfl) _ rfl _ rfl) ?_
          simp only [Act.put, List.setIfInBounds_toArray, List.set_cons_zero, List.set_cons_succ]
          refine wl_yield (o := ⟨_, _, _, _, _, _⟩) (.bool true) (yt_eqlE (by rfl) _ _ _ rfl 0 0 true rfl rfl (by decide)) ?_
          simp only [Act.put, List.setIfInBounds_toArray, List.set_cons_zero, List.set_cons_succ]
          refine wl_yield (o := ⟨_, _, _, _, _, _⟩) (.bool true) (yl_pickT (by rfl) _ _ _ rfl rfl _ rfl) ?_
          simp only [Act.put, List.setIfInBounds_toArray, List.set_cons_zero, List.set_cons_succ]
          refine wl_yield (o := ⟨_, _, _, _, _, _⟩) (.bool true) (yl_move (by rfl) _ rfl _ rfl) ?_
          simp only [Act.put, List.setIfInBounds_toArray, List.set_cons_zero, List.set_cons_succ]
          refine wl_yield (o := ⟨_, _, _, _, _, _⟩) (EC.val c) (yl_ex (by rfl) _ rfl _ 0 rfl (c := ⟨c.k, c.t, ⟨c.s.a, c.s.p, c.s.n, c.s.c, c.s.d, c.s.q, c.s.m, c.s.e⟩, c.p, c.n, c.c⟩) (fun _ h => by subst h; exact ⟨cell_heap G1 0, cell_heap G1 1, cell_heap G1 2, cell_heap G1 3, cell_heap G1 4, cell_heap G1 5, cell_heap G1 6⟩)) ?_
          simp only [Act.put, List.setIfInBounds_toArray, List.set_cons_zero, List.set_cons_succ]
          refine wl_yield (o := ⟨_, _, _, _, _, _⟩) (EC.val d) (yl_ex (by rfl) _ rfl _ 0 rfl (c := ⟨d.k, d.t, ⟨d.s.a, d.s.p, d.s.n, d.s.c, d.s.d, d.s.q, d.s.m, d.s.e⟩, d.p, d.n, d.c⟩) (fun _ h => by subst h; exact ⟨cell_heap G10 0, cell_heap G10 1, cell_heap G10 2, cell_heap G10 3, cell_heap G10 4, cell_heap G10 5, cell_heap G10 6⟩)) ?_
          simp only [Act.put, List.setIfInBounds_toArray, List.set_cons_zero, List.set_cons_succ]
          refine wt_call (o := ⟨_, _, _, _, _, _⟩) (by rfl) 17 _ _ rfl #[EC.val c, EC.val d] rfl (run_call Tryz.func17 (by kernel_rfl) (by kernel_rfl)) ?_
          refine (refSameX 1033 c d x x _ (ExAt.more 19 1033 (by omega) HX) PX).mono ?_
          rintro r v11 (⟨⟨b, rfl, hb⟩, kb⟩)
          · obtain rfl : b = true := hb.2 rfl
            replace D := grown_below D kb
            replace HE := HE.on kb
            replace HX := HX.on kb
            replace G1 := heap_on G1 kb
            replace PX := PX.on kb
            replace G10 := heap_on G10 kb
            clear kb
            refine Or.inl ⟨.bool true, rfl, ?_⟩
            simp only [Act.put, List.setIfInBounds_toArray, List.set_cons_zero, List.set_cons_succ]
            refine wl_yield (o := ⟨_, _, _, _, _, _⟩) (.bool true) (yl_pickT (by rfl) _ _ _ rfl rfl _ rfl) ?_
            simp only [Act.put, List.setIfInBounds_toArray, List.set_cons_zero, List.set_cons_succ]
            refine wl_yield (o := ⟨_, _, _, _, _, _⟩) (.bool true) (yl_assign (by rfl) _ rfl _ rfl) ?_
            simp only [Act.put, List.setIfInBounds_toArray, List.set_cons_zero, List.set_cons_succ]
            refine wpList_nil ?_
            refine hK13 _ _ ?_
            clear hK13 K13
            refine wp_ret ?_
            go_ret
            exact ⟨rfl, below_none D⟩
      · refine wt_call (o := ⟨_, _, _, _, _, _⟩) (by rfl) 13 _ _ rfl #[EC.val c] rfl (run_call Tryz.func13 (by kernel_rfl) (by kernel_rfl)) ?_
        refine (print_any 19 c x _ HE HX (by omega)).mono ?_
        rintro r v6 ⟨rfl, kb⟩
        replace D := grown_below D kb
        replace HE := HE.on kb
        replace HX := HX.on kb
        replace G1 := heap_on G1 kb
        clear kb
        refine Or.inl ⟨.tuple #[.string (bs ([])), .int .i64 z], by rw [hq], ?_⟩
        simp only [Act.put, List.setIfInBounds_toArray, List.set_cons_zero, List.set_cons_succ]
        refine wl_yield (o := ⟨_, _, _, _, _, _⟩) (.tuple #[.string (bs ([])), .int .i64 z]) (yl_move (by rfl) _ rfl _ rfl) ?_
        simp only [Act.put, List.setIfInBounds_toArray, List.set_cons_zero, List.set_cons_succ]
        refine wl_yield (o := ⟨_, _, _, _, _, _⟩) (.string (bs ([]))) (yl_extract0 (by rfl) _ rfl _ _ rfl) ?_
        simp only [Act.put, List.setIfInBounds_toArray, List.set_cons_zero, List.set_cons_succ]
        refine wl_yield (o := ⟨_, _, _, _, _, _⟩) (.int .i64 z) (yl_extract1 (by rfl) _ rfl _ _ rfl) ?_
        simp only [Act.put, List.setIfInBounds_toArray, List.set_cons_zero, List.set_cons_succ]
        refine wl_yield (o := ⟨_, _, _, _, _, _⟩) (.string (bs ([]))) (yl_assign (by rfl) _ rfl _ rfl) ?_
        simp only [Act.put, List.setIfInBounds_toArray, List.set_cons_zero, List.set_cons_succ]
        refine wl_yield (o := ⟨_, _, _, _, _, _⟩) (.int .i64 z) (yl_assign (by rfl) _ rfl _ rfl) ?_
        simp only [Act.put, List.setIfInBounds_toArray, List.set_cons_zero, List.set_cons_succ]
        refine wpList_nil ?_
        refine hK6 _ _ ?_
        clear hK6 K6
        refine wp_seq_k (fun K7 hK7 => ?_)
        refine wp_seq_k (fun K8 hK8 => ?_)
        rcases hw with ⟨hr, rfl⟩ | ⟨hr, rfl, hlg⟩
        · refine wp_region_lit ?_
          refine wl_yield (o := ⟨_, _, _, _, _, _⟩) (EC.val c) (yl_ex (by rfl) _ rfl _ 0 rfl (c := ⟨c.k, c.t, ⟨c.s.a, c.s.p, c.s.n, c.s.c, c.s.d, c.s.q, c.s.m, c.s.e⟩, c.p, c.n, c.c⟩) (fun _ h => by subst h; exact ⟨cell_heap G1 0, cell_heap G1 1, cell_heap G1 2, cell_heap G1 3, cell_heap G1 4, cell_heap G1 5, cell_heap G1 6⟩)) ?_
          simp only [Act.put, List.setIfInBounds_toArray, List.set_cons_zero, List.set_cons_succ]
          refine wt_call (o := ⟨_, _, _, _, _, _⟩) (by rfl) 14 _ _ rfl #[EC.val c] rfl (run_call Tryz.func14 (by kernel_rfl) (by kernel_rfl)) ?_
          refine (c_refRight HX).mono ?_
          rintro r v7 ⟨rfl, kb⟩
          replace D := grown_below D kb
          replace HE := HE.on kb
          replace HX := HX.on kb
          replace G1 := heap_on G1 kb
          clear kb
          refine Or.inl ⟨.bool false, by rw [hr], ?_⟩
          simp only [Act.put, List.setIfInBounds_toArray, List.set_cons_zero, List.set_cons_succ]
          refine wl_yield (o := ⟨_, _, _, _, _, _⟩) (.bool true) (yl_not (by rfl) _ _ rfl false rfl) ?_
          simp only [Act.put, List.setIfInBounds_toArray, List.set_cons_zero, List.set_cons_succ]
          refine wpList_nil ?_
          refine hK8 _ _ ?_
          clear hK8 K8
          refine wp_cond_true rfl ?_
          refine wp_seq_k (fun K9 hK9 => ?_)
          refine wp_region_lit ?_
          refine wl_yield (o := ⟨_, _, _, _, _, _⟩) (.string (bs ([]))) (yl_move (by rfl) _ rfl _ rfl) ?_
          simp only [Act.put, List.setIfInBounds_toArray, List.set_cons_zero, List.set_cons_succ]
          refine wl_yield (o := ⟨_, _, _, _, _, _⟩) (.bool true) (yt_eqS (by rfl) _ _ _ rfl ([]) ([]) true rfl rfl (by decide)) ?_
          simp only [Act.put, List.setIfInBounds_toArray, List.set_cons_zero, List.set_cons_succ]
          refine wl_yield (o := ⟨_, _, _, _, _, _⟩) (.bool true) (yl_move (by rfl) _ rfl _ rfl) ?_
          simp only [Act.put, List.setIfInBounds_toArray, List.set_cons_zero, List.set_cons_succ]
          refine wl_yield (o := ⟨_, _, _, _, _, _⟩) (.int .i64 1) (yl_move (by rfl) _ rfl _ rfl) ?_
          simp only [Act.put, List.setIfInBounds_toArray, List.set_cons_zero, List.set_cons_succ]
          refine wl_yield (o := ⟨_, _, _, _, _, _⟩) (.bool true) (yt_eqlE (by rfl) _ _ _ rfl 1 1 true rfl rfl (by decide)) ?_
          simp only [Act.put, List.setIfInBounds_toArray, List.set_cons_zero, List.set_cons_succ]
          refine wl_yield (o := ⟨_, _, _, _, _, _⟩) (.bool true) (yl_pickT (by rfl) _ _ _ rfl rfl _ rfl) ?_
          simp only [Act.put, List.setIfInBounds_toArray, List.set_cons_zero, List.set_cons_succ]
          refine wl_yield (o := ⟨_, _, _, _, _, _⟩) (.bool true) (yl_assign (by rfl) _ rfl _ rfl) ?_
          simp only [Act.put, List.setIfInBounds_toArray, List.set_cons_zero, List.set_cons_succ]
          refine wpList_nil ?_
          refine hK9 _ _ ?_
          clear hK9 K9
          refine wp_ret ?_
          go_ret
          exact ⟨rfl, below_none D⟩
        · refine wp_region_lit ?_
          refine wl_yield (o := ⟨_, _, _, _, _, _⟩) (EC.val c) (yl_ex (by rfl) _ rfl _ 0 rfl (c := ⟨c.k, c.t, ⟨c.s.a, c.s.p, c.s.n, c.s.c, c.s.d, c.s.q, c.s.m, c.s.e⟩, c.p, c.n, c.c⟩) (fun _ h => by subst h; exact ⟨cell_heap G1 0, cell_heap G1 1, cell_heap G1 2, cell_heap G1 3, cell_heap G1 4, cell_heap G1 5, cell_heap G1 6⟩)) ?_
          simp only [Act.put, List.setIfInBounds_toArray, List.set_cons_zero, List.set_cons_succ]
          refine wt_call (o := ⟨_, _, _, _, _, _⟩) (by rfl) 14 _ _ rfl #[EC.val c] rfl (run_call Tryz.func14 (by kernel_rfl) (by kernel_rfl)) ?_
          refine (c_refRight HX).mono ?_
          rintro r v7 ⟨rfl, kb⟩
          replace D := grown_below D kb
          replace HE := HE.on kb
          replace HX := HX.on kb
          replace G1 := heap_on G1 kb
          clear kb
          refine Or.inl ⟨.bool true, by rw [hr], ?_⟩
          simp only [Act.put, List.setIfInBounds_toArray, List.set_cons_zero, List.set_cons_succ]
          refine wl_yield (o := ⟨_, _, _, _, _, _⟩) (.bool false) (yl_not (by rfl) _ _ rfl true rfl) ?_
          simp only [Act.put, List.setIfInBounds_toArray, List.set_cons_zero, List.set_cons_succ]
          refine wpList_nil ?_
          refine hK8 _ _ ?_
          clear hK8 K8
          refine wp_cond_false rfl ?_
          refine wp_skip ?_
          refine hK7 _ _ ?_
          clear hK7 K7
          refine wp_seq_k (fun K9 hK9 => ?_)
          refine wp_region_lit ?_
          refine wl_yield (o := ⟨_, _, _, _, _, _⟩) (EC.val c) (yl_ex (by rfl) _ rfl _ 0 rfl (c := ⟨c.k, c.t, ⟨c.s.a, c.s.p, c.s.n, c.s.c, c.s.d, c.s.q, c.s.m, c.s.e⟩, c.p, c.n, c.c⟩) (fun _ h => by subst h; exact ⟨cell_heap G1 0, cell_heap G1 1, cell_heap G1 2, cell_heap G1 3, cell_heap G1 4, cell_heap G1 5, cell_heap G1 6⟩)) ?_
          simp only [Act.put, List.setIfInBounds_toArray, List.set_cons_zero, List.set_cons_succ]
          refine wt_call (o := ⟨_, _, _, _, _, _⟩) (by rfl) 15 _ _ rfl #[EC.val c] rfl (run_call Tryz.func15 (by kernel_rfl) (by kernel_rfl)) ?_
          refine (want_ok HX hr HE).mono ?_
          rintro r v8 ⟨rfl, kb⟩
          replace D := grown_below D kb
          replace HE := HE.on kb
          replace HX := HX.on kb
          replace G1 := heap_on G1 kb
          clear kb
          refine Or.inl ⟨.string (bs (exTxt 8 x)), rfl, ?_⟩
          simp only [Act.put, List.setIfInBounds_toArray, List.set_cons_zero, List.set_cons_succ]
          refine wl_yield (o := ⟨_, _, _, _, _, _⟩) (.string (bs (exTxt 8 x))) (yl_assign (by rfl) _ rfl _ rfl) ?_
          simp only [Act.put, List.setIfInBounds_toArray, List.set_cons_zero, List.set_cons_succ]
          refine wpList_nil ?_
          refine hK9 _ _ ?_
          clear hK9 K9
          refine wp_seq_k (fun K10 hK10 => ?_)
          refine wp_seq_k (fun K11 hK11 => ?_)
          refine wp_region_lit ?_
          refine wl_yield (o := ⟨_, _, _, _, _, _⟩) (.string (bs (exTxt 8 x))) (yl_move (by rfl) _ rfl _ rfl) ?_
          simp only [Act.put, List.setIfInBounds_toArray, List.set_cons_zero, List.set_cons_succ]
          refine wl_yield (o := ⟨_, _, _, _, _, _⟩) (.int .i64 ((exTxt 8 x).length : Nat)) (yt_lenS (by rfl) _ rfl (exTxt 8 x) rfl) ?_
          simp only [Act.put, List.setIfInBounds_toArray, List.set_cons_zero, List.set_cons_succ]
          refine wl_yield (o := ⟨_, _, _, _, _, _⟩) (.bool true) (yt_gtrI (by rfl) _ _ _ rfl ((((exTxt 8 x).length : Nat) : Int)) 1024 true rfl rfl (decide_eq_true (by omega))) ?_
          simp only [Act.put, List.setIfInBounds_toArray, List.set_cons_zero, List.set_cons_succ]
          refine wpList_nil ?_
          refine hK11 _ _ ?_
          clear hK11 K11
          refine wp_cond_true rfl ?_
          refine wp_seq_k (fun K12 hK12 => ?_)
          refine wp_region_lit ?_
          refine wl_yield (o := ⟨_, _, _, _, _, _⟩) (.string (bs ([]))) (yl_move (by rfl) _ rfl _ rfl) ?_
          simp only [Act.put, List.setIfInBounds_toArray, List.set_cons_zero, List.set_cons_succ]
          refine wl_yield (o := ⟨_, _, _, _, _, _⟩) (.bool true) (yt_eqS (by rfl) _ _ _ rfl ([]) ([]) true rfl rfl (by decide)) ?_
          simp only [Act.put, List.setIfInBounds_toArray, List.set_cons_zero, List.set_cons_succ]
          refine wl_yield (o := ⟨_, _, _, _, _, _⟩) (.bool true) (yl_move (by rfl) _ rfl _ rfl) ?_
          simp only [Act.put, List.setIfInBounds_toArray, List.set_cons_zero, List.set_cons_succ]
          refine wl_yield (o := ⟨_, _, _, _, _, _⟩) (.int .i64 9) (yl_move (by rfl) _ rfl _ rfl) ?_
          simp only [Act.put, List.setIfInBounds_toArray, List.set_cons_zero, List.set_cons_succ]
          refine wl_yield (o := ⟨_, _, _, _, _, _⟩) (.bool true) (yt_eqlE (by rfl) _ _ _ rfl 9 9 true rfl rfl (by decide)) ?_
          simp only [Act.put, List.setIfInBounds_toArray, List.set_cons_zero, List.set_cons_succ]
          refine wl_yield (o := ⟨_, _, _, _, _, _⟩) (.bool true) (yl_pickT (by rfl) _ _ _ rfl rfl _ rfl) ?_
          simp only [Act.put, List.setIfInBounds_toArray, List.set_cons_zero, List.set_cons_succ]
          refine wl_yield (o := ⟨_, _, _, _, _, _⟩) (.bool true) (yl_assign (by rfl) _ rfl _ rfl) ?_
          simp only [Act.put, List.setIfInBounds_toArray, List.set_cons_zero, List.set_cons_succ]
          refine wpList_nil ?_
          refine hK12 _ _ ?_
          clear hK12 K12
          refine wp_ret ?_
          go_ret
          exact ⟨rfl, below_none D⟩
    · refine wp_region_late (S := fun w' => w'.heap[g1]? = some (.cells #[.int .i64 (c.k), .int .i64 (c.t), .bool (c.s.a), .slice c.s.p c.s.n c.s.c, .bool (c.s.d), .slice c.s.q c.s.m c.s.e, .slice c.p c.n c.c] 28 (0, 0))) (late := fun j => [].contains j) (by kernel_rfl) ?_
      have kb : Below v3.heap.size v3 v3.drew := (Below.refl _ v3).drew
      replace D := grown_below D kb
      replace HE := HE.on kb
      replace HX := HX.on kb
      replace G1 := heap_on G1 kb
      clear kb
      generalize v3.drew = v4 at D HE HX G1 ⊢
      refine wpAnyL_pure (i := 0) (oi := ⟨_, _, _, _, _, _⟩) (v := .pointer (some ⟨g1, 2, none⟩)) rfl (by kernel_rfl) (by kernel_rfl) (by kernel_rfl) (fun _ _ _ h => h) (yt_fEx2 (by rfl) _ rfl g1 0 rfl) ?_
      simp only [Act.put, List.setIfInBounds_toArray, List.set_cons_zero, List.set_cons_succ]
      refine wpAnyL_load (i := 1) (oi := ⟨_, _, _, _, _, _⟩) (v := SC.val c.s) rfl (by kernel_rfl) (by kernel_rfl) (by kernel_rfl) (by kernel_rfl) (fun _ _ _ h => h) (yl_set (by rfl) _ rfl _ 2 rfl _ _ _ _ (fun _ h => ⟨cell_heap h 2, cell_heap h 3, cell_heap h 4, cell_heap h 5⟩)) G1 ?_
      simp only [Act.put, List.setIfInBounds_toArray, List.set_cons_zero, List.set_cons_succ]
      refine wpAnyL_all (rs := [2]) (by kernel_rfl) (by simp) ?_
      intro j hj
      have hj := List.mem_singleton.1 hj
      subst hj
      refine ot_call (o := ⟨_, _, _, _, _, _⟩) rfl (by rfl) 10 _ _ rfl #[SC.val c.s] rfl (run_call Tryz.func10 (by kernel_rfl) (by kernel_rfl)) ?_
      refine (refRightSet_any _ x.set _ (xp_set HX)).mono ?_
      rintro r v5 (⟨rfl, kb⟩)
      replace D := grown_below D kb
      replace HE := HE.on kb
      replace HX := HX.on kb
      replace G1 := heap_on G1 kb
      clear kb
      refine Or.inl ⟨.bool true, by rw [hrs], ⟨fun _ _ => G1, ?_⟩⟩
      simp only [Act.put, List.setIfInBounds_toArray, List.set_cons_zero, List.set_cons_succ]
      refine wpAnyL_pure (i := 3) (oi := ⟨_, _, _, _, _, _⟩) (v := .bool true) rfl (by kernel_rfl) (by kernel_rfl) (by kernel_rfl) (fun _ _ _ h => h) (yl_move (by rfl) _ rfl _ rfl) ?_
      simp only [Act.put, List.setIfInBounds_toArray, List.set_cons_zero, List.set_cons_succ]
      refine wpAnyL_pure (i := 4) (oi := ⟨_, _, _, _, _, _⟩) (v := .pointer (some ⟨g1, 2, none⟩)) rfl (by kernel_rfl) (by kernel_rfl) (by kernel_rfl) (fun _ _ _ h => h) (yt_fEx2 (by rfl) _ rfl g1 0 rfl) ?_
      simp only [Act.put, List.setIfInBounds_toArray, List.set_cons_zero, List.set_cons_succ]
      refine wpAnyL_load (i := 5) (oi := ⟨_, _, _, _, _, _⟩) (v := SC.val c.s) rfl (by kernel_rfl) (by kernel_rfl) (by kernel_rfl) (by kernel_rfl) (fun _ _ _ h => h) (yl_set (by rfl) _ rfl _ 2 rfl _ _ _ _ (fun _ h => ⟨cell_heap h 2, cell_heap h 3, cell_heap h 4, cell_heap h 5⟩)) G1 ?_
      simp only [Act.put, List.setIfInBounds_toArray, List.set_cons_zero, List.set_cons_succ]
      refine wpAnyL_pure (i := 7) (oi := ⟨_, _, _, _, _, _⟩) (v := .pointer (some ⟨g1, 2, none⟩)) rfl (by kernel_rfl) (by kernel_rfl) (by kernel_rfl) (fun _ _ _ h => h) (yt_fEx2 (by rfl) _ rfl g1 0 rfl) ?_
      simp only [Act.put, List.setIfInBounds_toArray, List.set_cons_zero, List.set_cons_succ]
      refine wpAnyL_load (i := 8) (oi := ⟨_, _, _, _, _, _⟩) (v := SC.val c.s) rfl (by kernel_rfl) (by kernel_rfl) (by kernel_rfl) (by kernel_rfl) (fun _ _ _ h => h) (yl_set (by rfl) _ rfl _ 2 rfl _ _ _ _ (fun _ h => ⟨cell_heap h 2, cell_heap h 3, cell_heap h 4, cell_heap h 5⟩)) G1 ?_
      simp only [Act.put, List.setIfInBounds_toArray, List.set_cons_zero, List.set_cons_succ]
      refine wpAnyL_all (rs := [6]) (by kernel_rfl) (by simp) ?_
      intro j hj
      have hj := List.mem_singleton.1 hj
      subst hj
      refine ot_call (o := ⟨_, _, _, _, _, _⟩) rfl (by rfl) 11 _ _ rfl #[SC.val c.s] rfl (run_call Tryz.func11 (by kernel_rfl) (by kernel_rfl)) ?_
      refine (progSetC _ HE (xp_set HX) (xp_ok HX hrs) (by omega) (by omega)).mono ?_
      rintro r v6 (⟨rfl, kb⟩)
      replace D := grown_below D kb
      replace HE := HE.on kb
      replace HX := HX.on kb
      replace G1 := heap_on G1 kb
      clear kb
      refine Or.inl ⟨.string (bs (setTxt x.set)), rfl, ⟨fun _ _ => G1, ?_⟩⟩
      simp only [Act.put, List.setIfInBounds_toArray, List.set_cons_zero, List.set_cons_succ]
      refine wpAnyL_all (rs := [9]) (by kernel_rfl) (by simp) ?_
      intro j hj
      have hj := List.mem_singleton.1 hj
      subst hj
      refine ot_call (o := ⟨_, _, _, _, _, _⟩) rfl (by rfl) 12 _ _ rfl #[SC.val c.s] rfl (run_call Tryz.func12 (by kernel_rfl) (by kernel_rfl)) ?_
      refine (refSetC _ HE (xp_set HX) (xp_ok HX hrs) (by omega) (by omega)).mono ?_
      rintro r v7 (⟨rfl, kb⟩)
      replace D := grown_below D kb
      replace HE := HE.on kb
      replace HX := HX.on kb
      replace G1 := heap_on G1 kb
      clear kb
      refine Or.inl ⟨.string (bs (setTxt x.set)), rfl, ⟨fun _ _ => G1, ?_⟩⟩
      simp only [Act.put, List.setIfInBounds_toArray, List.set_cons_zero, List.set_cons_succ]
      refine wpAnyL_pure (i := 10) (oi := ⟨_, _, _, _, _, _⟩) (v := .bool false) rfl (by kernel_rfl) (by kernel_rfl) (by kernel_rfl) (fun _ _ _ h => h) (yt_neqS (by rfl) _ _ _ rfl (setTxt x.set) (setTxt x.set) false rfl rfl (by simp)) ?_
      simp only [Act.put, List.setIfInBounds_toArray, List.set_cons_zero, List.set_cons_succ]
      refine wpAnyL_pure (i := 11) (oi := ⟨_, _, _, _, _, _⟩) (v := .bool false) rfl (by kernel_rfl) (by kernel_rfl) (by kernel_rfl) (fun _ _ _ h => h) (yl_pickT (by rfl) _ _ _ rfl rfl _ rfl) ?_
      simp only [Act.put, List.setIfInBounds_toArray, List.set_cons_zero, List.set_cons_succ]
      refine wpAnyL_done (by kernel_rfl) ?_ _
      refine hK5 _ _ ?_
      clear hK5 K5
      refine wp_cond_false rfl ?_
      refine wp_skip ?_
      refine hK4 _ _ ?_
      clear hK4 K4
      refine wp_seq_k (fun K6 hK6 => ?_)
      refine wp_region_lit ?_
      refine wl_yield (o := ⟨_, _, _, _, _, _⟩) (EC.val c) (yl_ex (by rfl) _ rfl _ 0 rfl (c := ⟨c.k, c.t, ⟨c.s.a, c.s.p, c.s.n, c.s.c, c.s.d, c.s.q, c.s.m, c.s.e⟩, c.p, c.n, c.c⟩) (fun _ h => by subst h; exact ⟨cell_heap G1 0, cell_heap G1 1, cell_heap G1 2, cell_heap G1 3, cell_heap G1 4, cell_heap G1 5, cell_heap G1 6⟩)) ?_
      simp only [Act.put, List.setIfInBounds_toArray, List.set_cons_zero, List.set_cons_succ]
      rcases print_cases HX with ⟨hq, hr, hy, hl⟩ | ⟨z, hq, hz, hw⟩
      · refine wt_call (o := ⟨_, _, _, _, _, _⟩) (by rfl) 13 _ _ rfl #[EC.val c] rfl (run_call Tryz.func13 (by kernel_rfl) (by kernel_rfl)) ?_
        refine (print_any 19 c x _ HE HX (by omega)).mono ?_
        rintro r v8 ⟨rfl, kb⟩
        replace D := grown_below D kb
        replace HE := HE.on kb
        replace HX := HX.on kb
        replace G1 := heap_on G1 kb
        clear kb
        refine Or.inl ⟨.tuple #[.string (bs (exTxt 8 x)), .int .i64 0], by rw [hq], ?_⟩
        simp only [Act.put, List.setIfInBounds_toArray, List.set_cons_zero, List.set_cons_succ]
        refine wl_yield (o := ⟨_, _, _, _, _, _⟩) (.tuple #[.string (bs (exTxt 8 x)), .int .i64 0]) (yl_move (by rfl) _ rfl _ rfl) ?_
        simp only [Act.put, List.setIfInBounds_toArray, List.set_cons_zero, List.set_cons_succ]
        refine wl_yield (o := ⟨_, _, _, _, _, _⟩) (.string (bs (exTxt 8 x))) (yl_extract0 (by rfl) _ rfl _ _ rfl) ?_
        simp only [Act.put, List.setIfInBounds_toArray, List.set_cons_zero, List.set_cons_succ]
        refine wl_yield (o := ⟨_, _, _, _, _, _⟩) (.int .i64 0) (yl_extract1 (by rfl) _ rfl _ _ rfl) ?_
        simp only [Act.put, List.setIfInBounds_toArray, List.set_cons_zero, List.set_cons_succ]
        refine wl_yield (o := ⟨_, _, _, _, _, _⟩) (.string (bs (exTxt 8 x))) (yl_assign (by rfl) _ rfl _ rfl) ?_
        simp only [Act.put, List.setIfInBounds_toArray, List.set_cons_zero, List.set_cons_succ]
        refine wl_yield (o := ⟨_, _, _, _, _, _⟩) (.int .i64 0) (yl_assign (by rfl) _ rfl _ rfl) ?_
        simp only [Act.put, List.setIfInBounds_toArray, List.set_cons_zero, List.set_cons_succ]
        refine wpList_nil ?_
        refine hK6 _ _ ?_
        clear hK6 K6
        refine wp_seq_k (fun K7 hK7 => ?_)
        refine wp_seq_k (fun K8 hK8 => ?_)
        refine wp_region_lit ?_
        refine wl_yield (o := ⟨_, _, _, _, _, _⟩) (EC.val c) (yl_ex (by rfl) _ rfl _ 0 rfl (c := ⟨c.k, c.t, ⟨c.s.a, c.s.p, c.s.n, c.s.c, c.s.d, c.s.q, c.s.m, c.s.e⟩, c.p, c.n, c.c⟩) (fun _ h => by subst h; exact ⟨cell_heap G1 0, cell_heap G1 1, cell_heap G1 2, cell_heap G1 3, cell_heap G1 4, cell_heap G1 5, cell_heap G1 6⟩)) ?_
        simp only [Act.put, List.setIfInBounds_toArray, List.set_cons_zero, List.set_cons_succ]
        refine wt_call (o := ⟨_, _, _, _, _, _⟩) (by rfl) 14 _ _ rfl #[EC.val c] rfl (run_call Tryz.func14 (by kernel_rfl) (by kernel_rfl)) ?_
        refine (c_refRight HX).mono ?_
        rintro r v9 ⟨rfl, kb⟩
        replace D := grown_below D kb
        replace HE := HE.on kb
        replace HX := HX.on kb
        replace G1 := heap_on G1 kb
        clear kb
        refine Or.inl ⟨.bool true, by rw [hr], ?_⟩
        simp only [Act.put, List.setIfInBounds_toArray, List.set_cons_zero, List.set_cons_succ]
        refine wl_yield (o := ⟨_, _, _, _, _, _⟩) (.bool false) (yl_not (by rfl) _ _ rfl true rfl) ?_
        simp only [Act.put, List.setIfInBounds_toArray, List.set_cons_zero, List.set_cons_succ]
        refine wpList_nil ?_
        refine hK8 _ _ ?_
        clear hK8 K8
        refine wp_cond_false rfl ?_
        refine wp_skip ?_
        refine hK7 _ _ ?_
        clear hK7 K7
        refine wp_seq_k (fun K9 hK9 => ?_)
        refine wp_region_lit ?_
        refine wl_yield (o := ⟨_, _, _, _, _, _⟩) (EC.val c) (yl_ex (by rfl) _ rfl _ 0 rfl (c := ⟨c.k, c.t, ⟨c.s.a, c.s.p, c.s.n, c.s.c, c.s.d, c.s.q, c.s.m, c.s.e⟩, c.p, c.n, c.c⟩) (fun _ h => by subst h; exact ⟨cell_heap G1 0, cell_heap G1 1, cell_heap G1 2, cell_heap G1 3, cell_heap G1 4, cell_heap G1 5, cell_heap G1 6⟩)) ?_
        simp only [Act.put, List.setIfInBounds_toArray, List.set_cons_zero, List.set_cons_succ]
        refine wt_call (o := ⟨_, _, _, _, _, _⟩) (by rfl) 15 _ _ rfl #[EC.val c] rfl (run_call Tryz.func15 (by kernel_rfl) (by kernel_rfl)) ?_
        refine (want_ok HX hr HE).mono ?_
        rintro r v10 ⟨rfl, kb⟩
        replace D := grown_below D kb
        replace HE := HE.on kb
        replace HX := HX.on kb
        replace G1 := heap_on G1 kb
        clear kb
        refine Or.inl ⟨.string (bs (exTxt 8 x)), rfl, ?_⟩
        simp only [Act.put, List.setIfInBounds_toArray, List.set_cons_zero, List.set_cons_succ]
        refine wl_yield (o := ⟨_, _, _, _, _, _⟩) (.string (bs (exTxt 8 x))) (yl_assign (by rfl) _ rfl _ rfl) ?_
        simp only [Act.put, List.setIfInBounds_toArray, List.set_cons_zero, List.set_cons_succ]
        refine wpList_nil ?_
        refine hK9 _ _ ?_
        clear hK9 K9
        refine wp_seq_k (fun K10 hK10 => ?_)
        refine wp_seq_k (fun K11 hK11 => ?_)
        refine wp_region_lit ?_
        refine wl_yield (o := ⟨_, _, _, _, _, _⟩) (.string (bs (exTxt 8 x))) (yl_move (by rfl) _ rfl _ rfl) ?_
        simp only [Act.put, List.setIfInBounds_toArray, List.set_cons_zero, List.set_cons_succ]
        refine wl_yield (o := ⟨_, _, _, _, _, _⟩) (.int .i64 ((exTxt 8 x).length : Nat)) (yt_lenS (by rfl) _ rfl (exTxt 8 x) rfl) ?_
        simp only [Act.put, List.setIfInBounds_toArray, List.set_cons_zero, List.set_cons_succ]
        refine wl_yield (o := ⟨_, _, _, _, _, _⟩) (.bool false) (yt_gtrI (by rfl) _ _ _ rfl ((((exTxt 8 x).length : Nat) : Int)) 1024 false rfl rfl (decide_eq_false (by omega))) ?_
        simp only [Act.put, List.setIfInBounds_toArray, List.set_cons_zero, List.set_cons_succ]
        refine wpList_nil ?_
        refine hK11 _ _ ?_
        clear hK11 K11
        refine wp_cond_false rfl ?_
        refine wp_skip ?_
        refine hK10 _ _ ?_
        clear hK10 K10
        refine wp_seq_k (fun K12 hK12 => ?_)
        refine wp_region_lit ?_
        refine wl_yield (o := ⟨_, _, _, _, _, _⟩) (.string (bs (exTxt 8 x))) (yl_move (by rfl) _ rfl _ rfl) ?_
        simp only [Act.put, List.setIfInBounds_toArray, List.set_cons_zero, List.set_cons_succ]
        refine wt_call (o := ⟨_, _, _, _, _, _⟩) (by rfl) 16 _ _ rfl #[.string (bs (exTxt 8 x))] rfl (run_call Tryz.func16 (by kernel_rfl) (by kernel_rfl)) ?_
        refine (parse_any (exTxt 8 x) _ HE (by omega)).mono ?_
        rintro r v11 (⟨⟨d, err, rfl, PA⟩, kb⟩)
        · obtain ⟨rfl, PX⟩ := parsed_yes hy hl PA
          clear PA
          replace D := grown_below D kb
          replace HE := HE.on kb
          replace HX := HX.on kb
          replace G1 := heap_on G1 kb
          clear kb
          refine Or.inl ⟨.tuple #[EC.val d, .int .i64 0], rfl, ?_⟩
          simp only [Act.put, List.setIfInBounds_toArray, List.set_cons_zero, List.set_cons_succ]
          refine wl_yield (o := ⟨_, _, _, _, _, _⟩) (.tuple #[EC.val d, .int .i64 0]) (yl_move (by rfl) _ rfl _ rfl) ?_
          simp only [Act.put, List.setIfInBounds_toArray, List.set_cons_zero, List.set_cons_succ]
          refine wl_yield (o := ⟨_, _, _, _, _, _⟩) (EC.val d) (yl_extract0 (by rfl) _ rfl _ _ rfl) ?_
          simp only [Act.put, List.setIfInBounds_toArray, List.set_cons_zero, List.set_cons_succ]
          refine wl_yield (o := ⟨_, _, _, _, _, _⟩) (.int .i64 0) (yl_extract1 (by rfl) _ rfl _ _ rfl) ?_
          simp only [Act.put, List.setIfInBounds_toArray, List.set_cons_zero, List.set_cons_succ]
          refine wl_newEx (o := ⟨_, _, _, _, _, _⟩) (o2 := ⟨_, _, _, _, _, _⟩) (by rfl) rfl _ _ rfl rfl (fun _ => rfl) (c := d) (fun _ => rfl) (fun v12 g12 G12 kb => ?_)
          simp only [Act.put, List.setIfInBounds_toArray, List.set_cons_zero, List.set_cons_succ]
          replace D := grown_below D kb
          replace HE := HE.on kb
          replace HX := HX.on kb
          replace G1 := heap_on G1 kb
          replace PX := PX.on kb
          clear kb
          replace G12 : v12.heap[g12]? = some (.cells #[.int .i64 (d.k), .int .i64 (d.t), .bool (d.s.a), .slice d.s.p d.s.n d.s.c, .bool (d.s.d), .slice d.s.q d.s.m d.s.e, .slice d.p d.n d.c] 28 (0, 0)) := G12
          refine wl_yield (o := ⟨_, _, _, _, _, _⟩) (.int .i64 0) (yl_assign (by rfl) _ rfl _ rfl) ?_
          simp only [Act.put, List.setIfInBounds_toArray, List.set_cons_zero, List.set_cons_succ]
          refine wpList_nil ?_
          refine hK12 _ _ ?_
          clear hK12 K12
          refine wp_seq_k (fun K13 hK13 => ?_)
          refine wp_region_lit ?_
          refine wl_yield (o := ⟨_, _, _, _, _, _⟩) (.string (bs (exTxt 8 x))) (yl_move (by rfl) _ rfl _ rfl) ?_
          simp only [Act.put, List.setIfInBounds_toArray, List.set_cons_zero, List.set_cons_succ]
          refine wl_yield (o := ⟨_, _, _, _, _, _⟩) (.string (bs (exTxt 8 x))) (yl_move (by rfl) _ rfl _ rfl) ?_
          simp only [Act.put, List.setIfInBounds_toArray, List.set_cons_zero, List.set_cons_succ]
          refine wl_yield (o := ⟨_, _, _, _, _, _⟩) (.bool true) (yt_eqS (by rfl) _ _ _ rfl (exTxt 8 x) (exTxt 8 x) true rfl rfl (by simp)) ?_
          simp only [Act.put, List.setIfInBounds_toArray, List.set_cons_zero, List.set_cons_succ]
          refine wl_yield (o := ⟨_, _, _, _, _, _⟩) (.bool true) (yl_move (by rfl) _ rfl _ rfl) ?_
          simp only [Act.put, List.setIfInBounds_toArray, List.set_cons_zero, List.set_cons_succ]
          refine wl_yield (o := ⟨_, _, _, _, _, _⟩) (.int .i64 0) (yl_move (by rfl) _ rfl _ rfl) ?_
          simp only [Act.put, List.setIfInBounds_toArray, List.set_cons_zero, List.set_cons_succ]
          refine wl_yield (o := ⟨_, _, _, _, _, _⟩) (.bool true) (yt_eqlE (by rfl) _ _ _ rfl 0 0 true rfl rfl (by decide)) ?_
          simp only [Act.put, List.setIfInBounds_toArray, List.set_cons_zero, List.set_cons_succ]
          refine wl_yield (o := ⟨_, _, _, _, _, _⟩) (.bool true) (yl_pickT (by rfl) _ _ _ rfl rfl _ rfl) ?_
          simp only [Act.put, List.setIfInBounds_toArray, List.set_cons_zero, List.set_cons_succ]
          refine wl_yield (o := ⟨_, _, _, _, _, _⟩) (.bool true) (yl_move (by rfl) _ rfl _ rfl) ?_
          simp only [Act.put, List.setIfInBounds_toArray, List.set_cons_zero, List.set_cons_succ]
          refine wl_yield (o := ⟨_, _, _, _, _, _⟩) (.int .i64 0) (yl_move (by rfl) _ rfl _ rfl) ?_
          simp only [Act.put, List.setIfInBounds_toArray, List.set_cons_zero, List.set_cons_succ]
          refine wl_yield (o := ⟨_, _, _, _, _, _⟩) (.bool true) (yt_eqlE (by rfl) _ _ _ rfl 0 0 true rfl rfl (by decide)) ?_
          simp only [Act.put, List.setIfInBounds_toArray, List.set_cons_zero, List.set_cons_succ]
          refine wl_yield (o := ⟨_, _, _, _, _, _⟩) (.bool true) (yl_pickT (by rfl) _ _ _ rfl rfl _ rfl) ?_
          simp only [Act.put, List.setIfInBounds_toArray, List.set_cons_zero, List.set_cons_succ]
          refine wl_yield (o := ⟨_, _, _, _, _, _⟩) (.bool true) (yl_move (by rfl) _ rfl _ rfl) ?_
          simp only [Act.put, List.setIfInBounds_toArray, List.set_cons_zero, List.set_cons_succ]
          refine wl_yield (o := ⟨_, _, _, _, _, _⟩) (EC.val c) (yl_ex (by rfl) _ rfl _ 0 rfl (c := ⟨c.k, c.t, ⟨c.s.a, c.s.p, c.s.n, c.s.c, c.s.d, c.s.q, c.s.m, c.s.e⟩, c.p, c.n, c.c⟩) (fun _ h => by subst h; exact ⟨cell_heap G1 0, cell_heap G1 1, cell_heap G1 2, cell_heap G1 3, cell_heap G1 4, cell_heap G1 5, cell_heap G1 6⟩)) ?_
          simp only [Act.put, List.setIfInBounds_toArray, List.set_cons_zero, List.set_cons_succ]
          refine wl_yield (o := ⟨_, _, _, _, _, _⟩) (EC.val d) (yl_ex (by rfl) _ rfl _ 0 rfl (c := ⟨d.k, d.t, ⟨d.s.a, d.s.p, d.s.n, d.s.c, d.s.d, d.s.q, d.s.m, d.s.e⟩, d.p, d.n, d.c⟩) (fun _ h => by subst h; exact ⟨cell_heap G12 0, cell_heap G12 1, cell_heap G12 2, cell_heap G12 3, cell_heap G12 4, cell_heap G12 5, cell_heap G12 6⟩)) ?_
          simp only [Act.put, List.setIfInBounds_toArray, List.set_cons_zero, List.set_cons_succ]
          refine wt_call (o := ⟨_, _, _, _, _, _⟩) (by rfl) 17 _ _ rfl #[EC.val c, EC.val d] rfl (run_call Tryz.func17 (by kernel_rfl) (by kernel_rfl)) ?_
          refine (refSameX 1033 c d x x _ (ExAt.more 19 1033 (by omega) HX) PX).mono ?_
          rintro r v13 (⟨⟨b, rfl, hb⟩, kb⟩)
          · obtain rfl : b = true := hb.2 rfl
            replace D := grown_below D kb
            replace HE := HE.on kb
            replace HX := HX.on kb
            replace G1 := heap_on G1 kb
            replace PX := PX.on kb
            replace G12 := heap_on G12 kb
            clear kb
            refine Or.inl ⟨.bool true, rfl, ?_⟩
            simp only [Act.put, List.setIfInBounds_toArray, List.set_cons_zero, List.set_cons_succ]
            refine wl_yield (o := ⟨_, _, _, _, _, _⟩) (.bool true) (yl_pickT (by rfl) _ _ _ rfl rfl _ rfl) ?_
            simp only [Act.put, List.setIfInBounds_toArray, List.set_cons_zero, List.set_cons_succ]
            refine wl_yield (o := ⟨_, _, _, _, _, _⟩) (.bool true) (yl_assign (by rfl) _ rfl _ rfl) ?_
            simp only [Act.put, List.setIfInBounds_toArray, List.set_cons_zero, List.set_cons_succ]
            refine wpList_nil ?_
            refine hK13 _ _ ?_
            clear hK13 K13
            refine wp_ret ?_
            go_ret
            exact ⟨rfl, below_none D⟩
      · refine wt_call (o := ⟨_, _, _, _, _, _⟩) (by rfl) 13 _ _ rfl #[EC.val c] rfl (run_call Tryz.func13 (by kernel_rfl) (by kernel_rfl)) ?_
        refine (print_any 19 c x _ HE HX (by omega)).mono ?_
        rintro r v8 ⟨rfl, kb⟩
        replace D := grown_below D kb
        replace HE := HE.on kb
        replace HX := HX.on kb
        replace G1 := heap_on G1 kb
        clear kb
        refine Or.inl ⟨.tuple #[.string (bs ([])), .int .i64 z], by rw [hq], ?_⟩
        simp only [Act.put, List.setIfInBounds_toArray, List.set_cons_zero, List.set_cons_succ]
        refine wl_yield (o := ⟨_, _, _, _, _, _⟩) (.tuple #[.string (bs ([])), .int .i64 z]) (yl_move (by rfl) _ rfl _ rfl) ?_
        simp only [Act.put, List.setIfInBounds_toArray, List.set_cons_zero, List.set_cons_succ]
        refine wl_yield (o := ⟨_, _, _, _, _, _⟩) (.string (bs ([]))) (yl_extract0 (by rfl) _ rfl _ _ rfl) ?_
        simp only [Act.put, List.setIfInBounds_toArray, List.set_cons_zero, List.set_cons_succ]
        refine wl_yield (o := ⟨_, _, _, _, _, _⟩) (.int .i64 z) (yl_extract1 (by rfl) _ rfl _ _ rfl) ?_
        simp only [Act.put, List.setIfInBounds_toArray, List.set_cons_zero, List.set_cons_succ]
        refine wl_yield (o := ⟨_, _, _, _, _, _⟩) (.string (bs ([]))) (yl_assign (by rfl) _ rfl _ rfl) ?_
        simp only [Act.put, List.setIfInBounds_toArray, List.set_cons_zero, List.set_cons_succ]
        refine wl_yield (o := ⟨_, _, _, _, _, _⟩) (.int .i64 z) (yl_assign (by rfl) _ rfl _ rfl) ?_
        simp only [Act.put, List.setIfInBounds_toArray, List.set_cons_zero, List.set_cons_succ]
        refine wpList_nil ?_
        refine hK6 _ _ ?_
        clear hK6 K6
        refine wp_seq_k (fun K7 hK7 => ?_)
        refine wp_seq_k (fun K8 hK8 => ?_)
        rcases hw with ⟨hr, rfl⟩ | ⟨hr, rfl, hlg⟩
        · refine wp_region_lit ?_
          refine wl_yield (o := ⟨_, _, _, _, _, _⟩) (EC.val c) (yl_ex (by rfl) _ rfl _ 0 rfl (c := ⟨c.k, c.t, ⟨c.s.a, c.s.p, c.s.n, c.s.c, c.s.d, c.s.q, c.s.m, c.s.e⟩, c.p, c.n, c.c⟩) (fun _ h => by subst h; exact ⟨cell_heap G1 0, cell_heap G1 1, cell_heap G1 2, cell_heap G1 3, cell_heap G1 4, cell_heap G1 5, cell_heap G1 6⟩)) ?_
          simp only [Act.put, List.setIfInBounds_toArray, List.set_cons_zero, List.set_cons_succ]
          refine wt_call (o := ⟨_, _, _, _, _, _⟩) (by rfl) 14 _ _ rfl #[EC.val c] rfl (run_call Tryz.func14 (by kernel_rfl) (by kernel_rfl)) ?_
          refine (c_refRight HX).mono ?_
          rintro r v9 ⟨rfl, kb⟩
          replace D := grown_below D kb
          replace HE := HE.on kb
          replace HX := HX.on kb
          replace G1 := heap_on G1 kb
          clear kb
          refine Or.inl ⟨.bool false, by rw [hr], ?_⟩
          simp only [Act.put, List.setIfInBounds_toArray, List.set_cons_zero, List.set_cons_succ]
          refine wl_yield (o := ⟨_, _, _, _, _, _⟩) (.bool true) (yl_not (by rfl) _ _ rfl false rfl) ?_
          simp only [Act.put, List.setIfInBounds_toArray, List.set_cons_zero, List.set_cons_succ]
          refine wpList_nil ?_
          refine hK8 _ _ ?_
          clear hK8 K8
          refine wp_cond_true rfl ?_
          refine wp_seq_k (fun K9 hK9 => ?_)
          refine wp_region_lit ?_
          refine wl_yield (o := ⟨_, _, _, _, _, _⟩) (.string (bs ([]))) (yl_move (by rfl) _ rfl _ rfl) ?_
          simp only [Act.put, List.setIfInBounds_toArray, List.set_cons_zero, List.set_cons_succ]
          refine wl_yield (o := ⟨_, _, _, _, _, _⟩) (.bool true) (yt_eqS (by rfl) _ _ _ rfl ([]) ([]) true rfl rfl (by decide)) ?_
          simp only [Act.put, List.setIfInBounds_toArray, List.set_cons_zero, List.set_cons_succ]
          refine wl_yield (o := ⟨_, _, _, _, _, _⟩) (.bool true) (yl_move (by rfl) _ rfl _ rfl) ?_
          simp only [Act.put, List.setIfInBounds_toArray, List.set_cons_zero, List.set_cons_succ]
          refine wl_yield (o := ⟨_, _, _, _, _, _⟩) (.int .i64 1) (yl_move (by rfl) _ rfl _ rfl) ?_
          simp only [Act.put, List.setIfInBounds_toArray, List.set_cons_zero, List.set_cons_succ]
          refine wl_yield (o := ⟨_, _, _, _, _, _⟩) (.bool true) (yt_eqlE (by rfl) _ _ _ rfl 1 1 true rfl rfl (by decide)) ?_
          simp only [Act.put, List.setIfInBounds_toArray, List.set_cons_zero, List.set_cons_succ]
          refine wl_yield (o := ⟨_, _, _, _, _, _⟩) (.bool true) (yl_pickT (by rfl) _ _ _ rfl rfl _ rfl) ?_
          simp only [Act.put, List.setIfInBounds_toArray, List.set_cons_zero, List.set_cons_succ]
          refine wl_yield (o := ⟨_, _, _, _, _, _⟩) (.bool true) (yl_assign (by rfl) _ rfl _ rfl) ?_
          simp only [Act.put, List.setIfInBounds_toArray, List.set_cons_zero, List.set_cons_succ]
          refine wpList_nil ?_
          refine hK9 _ _ ?_
          clear hK9 K9
          refine wp_ret ?_
          go_ret
          exact ⟨rfl, below_none D⟩
        · refine wp_region_lit ?_
          refine wl_yield (o := ⟨_, _, _, _, _, _⟩) (EC.val c) (yl_ex (by rfl) _ rfl _ 0 rfl (c := ⟨c.k, c.t, ⟨c.s.a, c.s.p, c.s.n, c.s.c, c.s.d, c.s.q, c.s.m, c.s.e⟩, c.p, c.n, c.c⟩) (fun _ h => by subst h; exact ⟨cell_heap G1 0, cell_heap G1 1, cell_heap G1 2, cell_heap G1 3, cell_heap G1 4, cell_heap G1 5, cell_heap G1 6⟩)) ?_
          simp only [Act.put, List.setIfInBounds_toArray, List.set_cons_zero, List.set_cons_succ]
          refine wt_call (o := ⟨_, _, _, _, _, _⟩) (by rfl) 14 _ _ rfl #[EC.val c] rfl (run_call Tryz.func14 (by kernel_rfl) (by kernel_rfl)) ?_
          refine (c_refRight HX).mono ?_
          rintro r v9 ⟨rfl, kb⟩
          replace D := grown_below D kb
          replace HE := HE.on kb
          replace HX := HX.on kb
          replace G1 := heap_on G1 kb
          clear kb
          refine Or.inl ⟨.bool true, by rw [hr], ?_⟩
          simp only [Act.put, List.setIfInBounds_toArray, List.set_cons_zero, List.set_cons_succ]
          refine wl_yield (o := ⟨_, _, _, _, _, _⟩) (.bool false) (yl_not (by rfl) _ _ rfl true rfl) ?_
          simp only [Act.put, List.setIfInBounds_toArray, List.set_cons_zero, List.set_cons_succ]
          refine wpList_nil ?_
          refine hK8 _ _ ?_
          clear hK8 K8
          refine wp_cond_false rfl ?_
          refine wp_skip ?_
          refine hK7 _ _ ?_
          clear hK7 K7
          refine wp_seq_k (fun K9 hK9 => ?_)
          refine wp_region_lit ?_
          refine wl_yield (o := ⟨_, _, _, _, _, _⟩) (EC.val c) (yl_ex (by rfl) _ rfl _ 0 rfl (c := ⟨c.k, c.t, ⟨c.s.a, c.s.p, c.s.n, c.s.c, c.s.d, c.s.q, c.s.m, c.s.e⟩, c.p, c.n, c.c⟩) (fun _ h => by subst h; exact ⟨cell_heap G1 0, cell_heap G1 1, cell_heap G1 2, cell_heap G1 3, cell_heap G1 4, cell_heap G1 5, cell_heap G1 6⟩)) ?_
          simp only [Act.put, List.setIfInBounds_toArray, List.set_cons_zero, List.set_cons_succ]
          refine wt_call (o := ⟨_, _, _, _, _, _⟩) (by rfl) 15 _ _ rfl #[EC.val c] rfl (run_call Tryz.func15 (by kernel_rfl) (by kernel_rfl)) ?_
          refine (want_ok HX hr HE).mono ?_
          rintro r v10 ⟨rfl, kb⟩
          replace D := grown_below D kb
          replace HE := HE.on kb
          replace HX := HX.on kb
          replace G1 := heap_on G1 kb
          clear kb
          refine Or.inl ⟨.string (bs (exTxt 8 x)), rfl, ?_⟩
          simp only [Act.put, List.setIfInBounds_toArray, List.set_cons_zero, List.set_cons_succ]
          refine wl_yield (o := ⟨_, _, _, _, _, _⟩) (.string (bs (exTxt 8 x))) (yl_assign (by rfl) _ rfl _ rfl) ?_
          simp only [Act.put, List.setIfInBounds_toArray, List.set_cons_zero, List.set_cons_succ]
          refine wpList_nil ?_
          refine hK9 _ _ ?_
          clear hK9 K9
          refine wp_seq_k (fun K10 hK10 => ?_)
          refine wp_seq_k (fun K11 hK11 => ?_)
          refine wp_region_lit ?_
          refine wl_yield (o := ⟨_, _, _, _, _, _⟩) (.string (bs (exTxt 8 x))) (yl_move (by rfl) _ rfl _ rfl) ?_
          simp only [Act.put, List.setIfInBounds_toArray, List.set_cons_zero, List.set_cons_succ]
          refine wl_yield (o := ⟨_, _, _, _, _, _⟩) (.int .i64 ((exTxt 8 x).length : Nat)) (yt_lenS (by rfl) _ rfl (exTxt 8 x) rfl) ?_
          simp only [Act.put, List.setIfInBounds_toArray, List.set_cons_zero, List.set_cons_succ]
          refine wl_yield (o := ⟨_, _, _, _, _, _⟩) (.bool true) (yt_gtrI (by rfl) _ _ _ rfl ((((exTxt 8 x).length : Nat) : Int)) 1024 true rfl rfl (decide_eq_true (by omega))) ?_
          simp only [Act.put, List.setIfInBounds_toArray, List.set_cons_zero, List.set_cons_succ]
          refine wpList_nil ?_
          refine hK11 _ _ ?_
          clear hK11 K11
          refine wp_cond_true rfl ?_
          refine wp_seq_k (fun K12 hK12 => ?_)
          refine wp_region_lit ?_
          refine wl_yield (o := ⟨_, _, _, _, _, _⟩) (.string (bs ([]))) (yl_move (by rfl) _ rfl _ rfl) ?_
          simp only [Act.put, List.setIfInBounds_toArray, List.set_cons_zero, List.set_cons_succ]
          refine wl_yield (o := ⟨_, _, _, _, _, _⟩) (.bool true) (yt_eqS (by rfl) _ _ _ rfl ([]) ([]) true rfl rfl (by decide)) ?_
          simp only [Act.put, List.setIfInBounds_toArray, List.set_cons_zero, List.set_cons_succ]
          refine wl_yield (o := ⟨_, _, _, _, _, _⟩) (.bool true) (yl_move (by rfl) _ rfl _ rfl) ?_
          simp only [Act.put, List.setIfInBounds_toArray, List.set_cons_zero, List.set_cons_succ]
          refine wl_yield (o := ⟨_, _, _, _, _, _⟩) (.int .i64 9) (yl_move (by rfl) _ rfl _ rfl) ?_
          simp only [Act.put, List.setIfInBounds_toArray, List.set_cons_zero, List.set_cons_succ]
          refine wl_yield (o := ⟨_, _, _, _, _, _⟩) (.bool true) (yt_eqlE (by rfl) _ _ _ rfl 9 9 true rfl rfl (by decide)) ?_
          simp only [Act.put, List.setIfInBounds_toArray, List.set_cons_zero, List.set_cons_succ]
          refine wl_yield (o := ⟨_, _, _, _, _, _⟩) (.bool true) (yl_pickT (by rfl) _ _ _ rfl rfl _ rfl) ?_
          simp only [Act.put, List.setIfInBounds_toArray, List.set_cons_zero, List.set_cons_succ]
          refine wl_yield (o := ⟨_, _, _, _, _, _⟩) (.bool true) (yl_assign (by rfl) _ rfl _ rfl) ?_
          simp only [Act.put, List.setIfInBounds_toArray, List.set_cons_zero, List.set_cons_succ]
          refine wpList_nil ?_
          refine hK12 _ _ ?_
          clear hK12 K12
          refine wp_ret ?_
          go_ret
          exact ⟨rfl, below_none D⟩

end Go.Proofs.YtciflobdpenpaaaGreatDoor
