import Derived.Test.YtjbgjdjmejhejaaGreatDoorRU1
import Derived.Test.YtjbgjdjmejhejaaGreatDoorRU3
import Derived.Test.YtjbgjdjmejhejaaGreatDoorRU2
set_option linter.unusedSimpArgs false
set_option linter.unusedVariables false
namespace Go.Proofs.YtjbgjdjmejhejaaGreatDoor
open Go.RowKit
attribute [local go_sem ↓] Go.wp_at_zero Go.wp_at_succ
theorem conv_one (W : World) (g : Nat) (c : UInt8) (h : W.cell? ⟨g, 0, none⟩ = some (.int .u8 (c.toNat : Int))) : (convert 178 9 (.slice (some ⟨g, 0, none⟩) 1 1)).run Tryz.prog W = .ok (.string ⟨#[c]⟩) W := by
  refine run_convert_bytes_back (P := Tryz.prog) W 178 9 5 ⟨g, 0, none⟩ 1 [c] Tryz.underlying178 Tryz.underlying5 Tryz.underlying9 (fun j hj => ?_)
  match j, hj with
  | 0, _ => simpa [Addr.add] using h
set_option maxHeartbeats 1000000 in
set_option maxRecDepth 100000 in
theorem digits_any (u : Nat) : ∀ (w : World), u < 18446744073709551616 →
    Calls Tryz.prog 119 #[.int .u64 (u : Int)] w fun e w' => e = .returned (.string ⟨(Lib.decDigits u).toArray⟩) ∧ Below w.heap.size w w' := by
  induction u using Nat.strongRecOn with
  | _ u ih =>
    intro w hu
    by_cases h10 : u < 10
    · have hd := Lib.decDigits_one h10
      have h10' : (u : Int) < 10 := by omega
      have hr := one_dig u h10
      generalize UInt8.ofNat (48 + u) = c at *
      have hcv : ∀ (W : World) (g : Nat), W.cell? ⟨g, 0, none⟩ = some (.int .u8 (48 + (u : Int))) → (convert 178 9 (.slice (some ⟨g, 0, none⟩) 1 1)).run Tryz.prog W = .ok (.string ⟨#[c]⟩) W := fun W g h => conv_one W g c (by rw [h, hr])
      clear hr
      have Hd := hide hd
      clear ih hd
      go_enter Tryz.func119, Tryz.ntmps119
      go_wp2
      go_ret
      exact ⟨ret_str (by rw [Hd.out]), (Below.refl _ _).alloc (Nat.le_refl _) _⟩
    · have h10' : ¬ (u : Int) < 10 := by omega
      have hd : Lib.decDigits u = Lib.decDigits (u / 10) ++ [UInt8.ofNat (48 + u % 10)] := by rw [Lib.decDigits, dif_neg h10]
      have IH : ∀ W : World, Hid (Calls Tryz.prog 119 #[.int .u64 ((u : Int) / 10)] W fun e w' => e = .returned (.string ⟨(Lib.decDigits (u / 10)).toArray⟩) ∧ Below W.heap.size W w') := fun W => hide (by
        have h := ih (u / 10) (by omega) W (by omega)
        rw [show ((u / 10 : Nat) : Int) = (u : Int) / 10 by omega] at h
        exact h)
      have hq : IntKind.u64.wrap ((u : Int) / 10) = (u : Int) / 10 := by rw [IntKind.wrap_u64]; omega
      have hr := last_dig u hu
      have hn := dec_short (u / 10) (by omega)
      generalize UInt8.ofNat (48 + u % 10) = c at *
      generalize Lib.decDigits (u / 10) = D at *
      have hcv := fun (W : World) (g : Nat) => conv_one W g c
      have Hd := hide hd
      clear ih hd
      go_enter Tryz.func119, Tryz.ntmps119
      go_wp2
      go_region_with (go_at_call 119; refine (unhide (IH _)).mono ?_; rintro e w1 ⟨rfl, hb1⟩; obtain ⟨hc, hf⟩ := bcell hb1)
      all_goals
        go_wp2
        go_ret
        refine ⟨ret_str (by rw [Hd.out]; exact mk_append D [c]), ?_⟩
      all_goals first
        | exact (below_undrew hb1).alloc (below_undrew hb1).size _
        | exact below_undrew (below_alloc hb1)
set_option maxHeartbeats 1000000 in
set_option maxRecDepth 100000 in
theorem decimal_any (n : Int) (h0 : -9223372036854775808 ≤ n) (h1 : n ≤ 9223372036854775807) (w : World) :
    Calls Tryz.prog 68 #[.int .i64 n] w fun e w' => e = .returned (.string ⟨(Lib.itoa n).toArray⟩) ∧ Below w.heap.size w w' := by
  by_cases hn : n < 0
  · obtain ⟨u, rfl⟩ : ∃ u : Nat, n = -(u : Int) := ⟨n.natAbs, by omega⟩
    have Hd := hide (Lib.itoa_neg u (by omega))
    have hl := dec_short u (by omega)
    have HD := fun (W : World) => hide (digits_any u W (by omega))
    generalize Lib.decDigits u = D at *
    go_enter Tryz.func68, Tryz.ntmps68
    go_wp2_with fail
    rw [show -(-(u : Int) + 1) + 1 = (u : Int) by omega]
    refine (unhide (HD _)).mono ?_
    rintro e w1 ⟨rfl, hb1⟩
    go_wp2
    go_ret
    exact ⟨ret_str (by rw [Hd.out]; exact mk_append [45] D), hb1⟩
  · obtain ⟨u, rfl⟩ : ∃ u : Nat, n = (u : Int) := ⟨n.toNat, by omega⟩
    have Hd := hide (Lib.itoa_nonneg u)
    have HD := fun (W : World) => hide (digits_any u W (by omega))
    generalize Lib.decDigits u = D at *
    go_enter Tryz.func68, Tryz.ntmps68
    go_wp2_with (go_at_call 119; refine (unhide (HD _)).mono ?_; rintro e w1 ⟨rfl, hb1⟩)
    go_ret
    exact ⟨ret_str (by rw [Hd.out]), hb1⟩
end Go.Proofs.YtjbgjdjmejhejaaGreatDoor
namespace Go.Proofs.YtjbgjdjmejhejaaGreatDoor
open Go.RowKit
section
variable {ops : Array Oper} {S : World → Prop} {o : Oper} {a : Act}
theorem va_eq {p q : Va} : (p = q) ↔ (p.1 = q.1 ∧ p.2.1 = q.2.1 ∧ p.2.2.toList = q.2.2.toList) :=
  ⟨fun e => by rw [e]; exact ⟨rfl, rfl, rfl⟩, fun ⟨e1, e2, e3⟩ => Prod.ext e1 (Prod.ext e2 (toList_inj e3))⟩
set_option maxHeartbeats 1000000 in
theorem yq_neqVa (hw : Region.wanted o (yielded ops a.tmps) = true) (x y : Operand) (t : TypeId) (ho : o.op = .binOp .neq 48 x y t) (p q : Va) (r : Bool) (hx : a.eval x = vVal p) (hy : a.eval y = vVal q) (hr : r = true ↔ ¬ p = q) : YieldsIf Tryz.prog ops S o (.bool r) a :=
  Or.inl ⟨hw, fun w _ => by
    have e : r = !decide (p.1 = q.1 ∧ p.2.1 = q.2.1 ∧ p.2.2.toList = q.2.2.toList) := by rw [Bool.eq_iff_iff, Bool.not_eq_true', decide_eq_false_iff_not]; exact hr.trans (not_congr va_eq)
    subst e
    simp only [execOp, ho, hx, hy, vVal]
    go_simp
    by_cases h1 : p.1 = q.1 <;> by_cases h2 : p.2.1 = q.2.1 <;> by_cases h3 : p.2.2.toList = q.2.2.toList <;> simp [h1, h2, h3]⟩
end
set_option maxHeartbeats 4000000 in
set_option maxRecDepth 100000 in
theorem refEmpty3_any (v : Value) (S : SetV) (w : World) (hv : SetAt w v S) : Calls Tryz.prog 67 #[v] w fun r w' => r = .returned (.bool (emptyB S)) ∧ Below w.heap.size w w' := by
  obtain ⟨vi, vs, rfl, hI, hS⟩ := hv
  obtain ⟨ai, ci, rfl⟩ := hI.form
  obtain ⟨as', cs', rfl⟩ := hS.form
  obtain ⟨A, I, C, T⟩ := S
  dsimp only at *
  have b1 := hI.room.1
  have hIl : I.length ≤ 9223372036854775807 := hI.2.1
  have hSl : T.length ≤ 9223372036854775807 := hS.2.1
  clear hI hS b1
  have hE : emptyB ⟨A, I, C, T⟩ = (!A && (decide ((I.length : Int) = 0) && (!C && decide ((T.length : Int) = 0)))) := by
    rw [Bool.eq_iff_iff, empty_iff]
    cases A <;> cases C <;> cases I <;> cases T <;> simp [noSet] <;> omega
  rw [hE]
  clear hE
  generalize (I.length : Nat) = m at *
  generalize (T.length : Nat) = n at *
  cases A
  · by_cases h1 : (m : Int) = 0
    · cases C
      · by_cases h2 : (n : Int) = 0
        · go_enter Tryz.func67, Tryz.ntmps67
          go_wp2
          go_ret
          refine ⟨?_, (Below.refl _ _).alloc (Nat.le_refl _) _⟩
          have e0 : m = 0 := by omega
          have e1 : n = 0 := by omega
          first | rfl | simp [e0, e1]
        · go_enter Tryz.func67, Tryz.ntmps67
          go_wp2
          go_ret
          refine ⟨?_, (Below.refl _ _).alloc (Nat.le_refl _) _⟩
          have e0 : m = 0 := by omega
          have e1 : ¬ n = 0 := by omega
          first | rfl | simp [e0, e1]
      · go_enter Tryz.func67, Tryz.ntmps67
        go_wp2
        go_ret
        refine ⟨?_, (Below.refl _ _).alloc (Nat.le_refl _) _⟩
        have e0 : m = 0 := by omega
        first | rfl | simp [e0]
    · go_enter Tryz.func67, Tryz.ntmps67
      go_wp2
      go_ret
      refine ⟨?_, (Below.refl _ _).alloc (Nat.le_refl _) _⟩
      have e0 : ¬ m = 0 := by omega
      first | rfl | simp [e0]
  · go_enter Tryz.func67, Tryz.ntmps67
    go_wp2
    go_ret
    refine ⟨?_, (Below.refl _ _).alloc (Nat.le_refl _) _⟩
    first | rfl | simp
theorem sample_none {S : SetV} (h : emptyB S = true) : sampleV S = none := by
  have := (empty_iff S).1 h
  subst this
  unfold sampleV
  split <;> rfl
theorem some_str {S : SetV} (h : emptyB S = false) (ha : ¬ S.absent = true) (hi : ¬ 0 < S.ints.length) (hc : ¬ S.co = true) : 0 < S.strs.length := by
  refine Classical.byContradiction fun hs => ?_
  have : emptyB S = true := (empty_iff S).2 (by
    obtain ⟨A, I, C, T⟩ := S
    dsimp only at *
    have e1 : I = [] := List.length_eq_zero_iff.1 (by omega)
    have e2 : T = [] := List.length_eq_zero_iff.1 (by omega)
    subst e1 e2
    cases A <;> cases C <;> first | rfl | (exact absurd rfl ha) | (exact absurd rfl hc))
  rw [h] at this; cases this
set_option maxHeartbeats 4000000 in
set_option maxRecDepth 100000 in
theorem refSample9_any (v : Value) (S : SetV) (w : World) (hv : SetAt w v S) (hns : S.strs.length ≤ 90000) :
    Calls Tryz.prog 26 #[v] w fun r w' => r = .returned (.tuple #[vVal ((sampleV S).getD (0, 0, ⟨#[]⟩)), .bool (sampleV S).isSome]) ∧ Below w.heap.size w w' := by
  obtain ⟨ai, ci, az, cz, rfl, hI, hT⟩ := sc_open hv
  have hl1 := hI.2.1
  have hl2 := hT.2.1
  have D : w.grownBy w none := grown_refl _ _
  go_enter Tryz.func26, Tryz.ntmps26
  refine wp_seq_k (fun K1 hK1 => ?_)
  refine wp_region_lit ?_
  refine wt_boxSt (o := ⟨_, _, _, _, _, _⟩) (by rfl) _ rfl (⟨S.absent, ai, S.ints.length, ci, S.co, az, S.strs.length, cz⟩) rfl (fun v1 g1 hg G1 kb => ?_)
  simp only [Act.put, lzA, lzB, lzC]
  have ge_g1 : w.heap.size ≤ g1 := Nat.le_trans D.size hg
  clear hg
  replace D := grown_below D kb
  clear kb
  replace G1 : v1.heap[g1]? = some (.cells #[.bool (S.absent), .slice ai S.ints.length ci, .bool (S.co), .slice az S.strs.length cz] 26 (0, 0)) := G1
  refine wt_allocVa (o := ⟨_, _, _, _, _, _⟩) (by rfl) rfl (fun v2 g2 hg G2 kb => ?_)
  simp only [Act.put, lzA, lzB, lzC]
  have n_g1_g2 : g1 ≠ g2 := by have := lt_heap G1; omega
  have ge_g2 : w.heap.size ≤ g2 := Nat.le_trans D.size hg
  clear hg
  replace D := grown_below D kb
  replace G1 := heap_on G1 kb
  clear kb
  replace G2 : v2.heap[g2]? = some (.cells #[.int .i64 0, .int .i64 0, .string (bs ([]))] 48 (0, 0)) := G2
  refine wl_yield (o := ⟨_, _, _, _, _, _⟩) (.bool false) (yl_assign (by rfl) _ rfl _ rfl) ?_
  simp only [Act.put, lzA, lzB, lzC]
  refine wpList_nil ?_
  refine hK1 _ _ ?_
  clear hK1 K1
  refine wp_seq_k (fun K2 hK2 => ?_)
  refine wp_seq_k (fun K3 hK3 => ?_)
  refine wp_region_lit ?_
  refine wl_yield (o := ⟨_, _, _, _, _, _⟩) (.agg #[.bool (S.absent), .slice ai S.ints.length ci, .bool (S.co), .slice az S.strs.length cz]) (yl_set (by rfl) _ rfl _ 0 rfl _ _ _ _ (fun _ h => by subst h; exact ⟨cell_heap G1 0, cell_heap G1 1, cell_heap G1 2, cell_heap G1 3⟩)) ?_
  simp only [Act.put, lzA, lzB, lzC]
  cases hr : rightSet S
  · refine wt_call (o := ⟨_, _, _, _, _, _⟩) (by rfl) 21 _ _ rfl #[.agg #[.bool (S.absent), .slice ai S.ints.length ci, .bool (S.co), .slice az S.strs.length cz]] rfl (run_call Tryz.func21 (by kernel_rfl) (by kernel_rfl)) ?_
    refine (refRightSet_any _ S _ (show SetAt _ (SC.val ⟨S.absent, ai, S.ints.length, ci, S.co, az, S.strs.length, cz⟩) S from ⟨_, _, rfl, hI.on (below_none D), hT.on (below_none D)⟩)).mono ?_
    rintro r v3 (⟨rfl, kb⟩)
    · replace D := grown_below D kb
      replace G1 := heap_on G1 kb
      replace G2 := heap_on G2 kb
      clear kb
      refine Or.inl ⟨.bool false, ret_bool hr, ?_⟩
      simp only [Act.put, lzA, lzB, lzC]
      refine wl_yield (o := ⟨_, _, _, _, _, _⟩) (.bool true) (yl_not (by rfl) _ _ rfl false rfl) ?_
      simp only [Act.put, lzA, lzB, lzC]
      refine wl_yield (o := ⟨_, _, _, _, _, _⟩) (.bool true) (yl_move (by rfl) _ rfl _ rfl) ?_
      simp only [Act.put, lzA, lzB, lzC]
      with_reducible refine wl_yield (o := ⟨_, _, _, _, _, _⟩) undef (yl_undef (by kernel_rfl)) ?_
      simp only [Act.put, lzA, lzB, lzC]
      with_reducible refine wl_yield (o := ⟨_, _, _, _, _, _⟩) undef (yl_undef (by kernel_rfl)) ?_
      simp only [Act.put, lzA, lzB, lzC]
      refine wl_yield (o := ⟨_, _, _, _, _, _⟩) (.bool true) (yl_pickT (by rfl) _ _ _ rfl rfl _ rfl) ?_
      simp only [Act.put, lzA, lzB, lzC]
      refine wpList_nil ?_
      refine hK3 _ _ ?_
      clear hK3 K3
      refine wp_cond_true rfl ?_
      refine wp_seq_k (fun K4 hK4 => ?_)
      refine wp_region_lit ?_
      refine wl_yield (o := ⟨_, _, _, _, _, _⟩) (vVal ((0, 0, ⟨#[]⟩) : Va)) (yq_bV0 (by rfl) rfl) ?_
      simp only [Act.put, lzA, lzB, lzC]
      refine wt_putVa (o := ⟨_, _, _, _, _, _⟩) rfl _ _ rfl _ rfl (((0, 0, ⟨#[]⟩) : Va)) rfl G2 rfl (fun v4 X kg => ?_)
      simp only [Act.put, lzA, lzB, lzC]
      replace D := gr_new D ge_g2 kg
      replace G1 := heap_gr G1 kg n_g1_g2
      clear kg
      replace G2 : v4.heap[g2]? = some (.cells #[.int .i64 (((0, 0, ⟨#[]⟩) : Va).1), .int .i64 (((0, 0, ⟨#[]⟩) : Va).2.1), .string ((0, 0, ⟨#[]⟩) : Va).2.2] 48 (0, 0)) := X
      clear X
      refine wl_yield (o := ⟨_, _, _, _, _, _⟩) (.bool false) (yl_assign (by rfl) _ rfl _ rfl) ?_
      simp only [Act.put, lzA, lzB, lzC]
      refine wpList_nil ?_
      refine hK4 _ _ ?_
      clear hK4 K4
      refine wp_ret ?_
      try simp only [Exit.inBlock, Exit.then]
      refine bodyPost_ret (results_cs rfl _ _ g2 _ (.bool false) rfl rfl (run_loadVar_row _ _ _ _ _ _ _ G2 Tryz.underlying48 rfl (by rw [infoV]; rfl))) rfl ?_
      have e : sampleV S = none := by unfold sampleV; rw [if_neg (by rw [hr]; decide)]
      rw [e]
      exact ⟨rfl, below_none D⟩
  · refine wt_call (o := ⟨_, _, _, _, _, _⟩) (by rfl) 21 _ _ rfl #[.agg #[.bool (S.absent), .slice ai S.ints.length ci, .bool (S.co), .slice az S.strs.length cz]] rfl (run_call Tryz.func21 (by kernel_rfl) (by kernel_rfl)) ?_
    refine (refRightSet_any _ S _ (show SetAt _ (SC.val ⟨S.absent, ai, S.ints.length, ci, S.co, az, S.strs.length, cz⟩) S from ⟨_, _, rfl, hI.on (below_none D), hT.on (below_none D)⟩)).mono ?_
    rintro r v3 (⟨rfl, kb⟩)
    · replace D := grown_below D kb
      replace G1 := heap_on G1 kb
      replace G2 := heap_on G2 kb
      clear kb
      refine Or.inl ⟨.bool true, ret_bool hr, ?_⟩
      simp only [Act.put, lzA, lzB, lzC]
      refine wl_yield (o := ⟨_, _, _, _, _, _⟩) (.bool false) (yl_not (by rfl) _ _ rfl true rfl) ?_
      simp only [Act.put, lzA, lzB, lzC]
      refine wl_yield (o := ⟨_, _, _, _, _, _⟩) (.bool false) (yl_move (by rfl) _ rfl _ rfl) ?_
      simp only [Act.put, lzA, lzB, lzC]
      refine wl_yield (o := ⟨_, _, _, _, _, _⟩) (.agg #[.bool (S.absent), .slice ai S.ints.length ci, .bool (S.co), .slice az S.strs.length cz]) (yl_set (by rfl) _ rfl _ 0 rfl _ _ _ _ (fun _ h => by subst h; exact ⟨cell_heap G1 0, cell_heap G1 1, cell_heap G1 2, cell_heap G1 3⟩)) ?_
      simp only [Act.put, lzA, lzB, lzC]
      cases he : emptyB S
      · refine wt_call (o := ⟨_, _, _, _, _, _⟩) (by rfl) 67 _ _ rfl #[.agg #[.bool (S.absent), .slice ai S.ints.length ci, .bool (S.co), .slice az S.strs.length cz]] rfl (run_call Tryz.func67 (by kernel_rfl) (by kernel_rfl)) ?_
        refine (refEmpty3_any _ S _ (show SetAt _ (SC.val ⟨S.absent, ai, S.ints.length, ci, S.co, az, S.strs.length, cz⟩) S from ⟨_, _, rfl, hI.on (below_none D), hT.on (below_none D)⟩)).mono ?_
        rintro r v4 (⟨rfl, kb⟩)
        · replace D := grown_below D kb
          replace G1 := heap_on G1 kb
          replace G2 := heap_on G2 kb
          clear kb
          refine Or.inl ⟨.bool false, ret_bool he, ?_⟩
          simp only [Act.put, lzA, lzB, lzC]
          refine wl_yield (o := ⟨_, _, _, _, _, _⟩) (.bool false) (yl_pickF (by rfl) _ _ _ rfl rfl _ rfl) ?_
          simp only [Act.put, lzA, lzB, lzC]
          refine wpList_nil ?_
          refine hK3 _ _ ?_
          clear hK3 K3
          refine wp_cond_false rfl ?_
          refine wp_skip ?_
          refine hK2 _ _ ?_
          clear hK2 K2
          refine wp_seq_k (fun K4 hK4 => ?_)
          refine wp_seq_k (fun K5 hK5 => ?_)
          refine wp_region_lit ?_
          refine wl_yield (o := ⟨_, _, _, _, _, _⟩) (.pointer (some ⟨g1, 0, none⟩)) (yt_fSt0 (by rfl) _ rfl g1 0 rfl) ?_
          simp only [Act.put, lzA, lzB, lzC]
          refine wl_yield (o := ⟨_, _, _, _, _, _⟩) (.bool (S.absent)) (yt_ldB (by rfl) _ rfl _ _ rfl S.absent (fun _ h => by subst h; exact cell_heap G1 0)) ?_
          simp only [Act.put, lzA, lzB, lzC]
          refine wpList_nil ?_
          refine hK5 _ _ ?_
          clear hK5 K5
          refine wp_cond_split (t := S.absent) rfl (fun hc => ?_) (fun hc => ?_)
          · have hc13 := hc
            clear hc
            refine wp_seq_k (fun K6 hK6 => ?_)
            refine wp_region_lit ?_
            refine wl_yield (o := ⟨_, _, _, _, _, _⟩) (vVal ((0, 0, ⟨#[]⟩) : Va)) (yq_bV0 (by rfl) rfl) ?_
            simp only [Act.put, lzA, lzB, lzC]
            refine wt_putVa (o := ⟨_, _, _, _, _, _⟩) rfl _ _ rfl _ rfl (((0, 0, ⟨#[]⟩) : Va)) rfl G2 rfl (fun v5 X kg => ?_)
            simp only [Act.put, lzA, lzB, lzC]
            replace D := gr_new D ge_g2 kg
            replace G1 := heap_gr G1 kg n_g1_g2
            clear kg
            replace G2 : v5.heap[g2]? = some (.cells #[.int .i64 (((0, 0, ⟨#[]⟩) : Va).1), .int .i64 (((0, 0, ⟨#[]⟩) : Va).2.1), .string ((0, 0, ⟨#[]⟩) : Va).2.2] 48 (0, 0)) := X
            clear X
            refine wl_yield (o := ⟨_, _, _, _, _, _⟩) (.bool true) (yl_assign (by rfl) _ rfl _ rfl) ?_
            simp only [Act.put, lzA, lzB, lzC]
            refine wpList_nil ?_
            refine hK6 _ _ ?_
            clear hK6 K6
            refine wp_ret ?_
            try simp only [Exit.inBlock, Exit.then]
            refine bodyPost_ret (results_cs rfl _ _ g2 _ (.bool true) rfl rfl (run_loadVar_row _ _ _ _ _ _ _ G2 Tryz.underlying48 rfl (by rw [infoV]; rfl))) rfl ?_
            have e : sampleV S = some (((0, 0, ⟨#[]⟩) : Va).1, ((0, 0, ⟨#[]⟩) : Va).2.1, ((0, 0, ⟨#[]⟩) : Va).2.2) := by
              unfold sampleV
              rw [if_pos hr, if_pos hc13]
              all_goals rfl
            rw [e]
            exact ⟨rfl, below_none D⟩
          · have hc13 := hc
            clear hc
            refine wp_skip ?_
            refine hK4 _ _ ?_
            clear hK4 K4
            refine wp_seq_k (fun K6 hK6 => ?_)
            refine wp_seq_k (fun K7 hK7 => ?_)
            refine wp_region_lit ?_
            refine wl_yield (o := ⟨_, _, _, _, _, _⟩) (.pointer (some ⟨g1, 1, none⟩)) (yt_fSt1 (by rfl) _ rfl g1 0 rfl) ?_
            simp only [Act.put, lzA, lzB, lzC]
            refine wl_yield (o := ⟨_, _, _, _, _, _⟩) (.slice ai S.ints.length ci) (yt_ldLr (by rfl) _ rfl _ _ rfl ai S.ints.length ci (fun _ h => by subst h; exact cell_heap G1 1)) ?_
            simp only [Act.put, lzA, lzB, lzC]
            refine wl_yield (o := ⟨_, _, _, _, _, _⟩) (.int .i64 (S.ints.length : Nat)) (yt_lenR (by rfl) _ rfl ai S.ints.length ci rfl) ?_
            simp only [Act.put, lzA, lzB, lzC]
            refine wl_yield (o := ⟨_, _, _, _, _, _⟩) (.bool (decide ((S.ints.length : Int) > 0))) (yt_gtrI (by rfl) _ _ _ rfl ((S.ints.length : Nat) : Int) 0 (decide ((S.ints.length : Int) > 0)) rfl rfl (rfl)) ?_
            simp only [Act.put, lzA, lzB, lzC]
            refine wpList_nil ?_
            refine hK7 _ _ ?_
            clear hK7 K7
            refine wp_cond_split (t := (decide ((S.ints.length : Int) > 0))) rfl (fun hc => ?_) (fun hc => ?_)
            · have hc19 := hc
              clear hc
              have h0 : 0 < S.ints.length := by have := of_decide_eq_true hc19; omega
              obtain ⟨gI, oI, rfl, hg1, C0, C1⟩ := hI.at.2 0 h0
              have cellD := fun (W : World) (D : w.grownBy W none) (j : Nat) => (below_none D).cell (p := ⟨gI, j, none⟩) hg1
              refine wp_seq_k (fun K8 hK8 => ?_)
              refine wp_region_lit ?_
              refine wl_yield (o := ⟨_, _, _, _, _, _⟩) (.pointer (some ⟨g1, 1, none⟩)) (yt_fSt1 (by rfl) _ rfl g1 0 rfl) ?_
              simp only [Act.put, lzA, lzB, lzC]
              refine wl_yield (o := ⟨_, _, _, _, _, _⟩) (.slice (some ⟨gI, oI, none⟩) S.ints.length ci) (yt_ldLr (by rfl) _ rfl _ _ rfl (some ⟨gI, oI, none⟩) S.ints.length ci (fun _ h => by subst h; exact cell_heap G1 1)) ?_
              simp only [Act.put, lzA, lzB, lzC]
              refine wl_yield (o := ⟨_, _, _, _, _, _⟩) (.pointer (some ⟨gI, oI + 0 * 2, none⟩)) (yt_atR (by rfl) _ _ rfl gI oI _ _ 0 rfl rfl (h0)) ?_
              simp only [Act.put, lzA, lzB, lzC]
              refine wl_yield (o := ⟨_, _, _, _, _, _⟩) (.pointer (some ⟨gI, oI + 0 * 2 + 0, none⟩)) (yt_fRg0 (by rfl) _ rfl gI (oI + 0 * 2) rfl) ?_
              simp only [Act.put, lzA, lzB, lzC]
              refine wl_yield (o := ⟨_, _, _, _, _, _⟩) (.int .i64 ((S.ints.getD 0 (0, 0)).1)) (yt_ldI (by rfl) _ rfl _ _ rfl _ (fun _ h => by subst h; exact (cellD _ D _).trans C0)) ?_
              simp only [Act.put, lzA, lzB, lzC]
              refine wl_yield (o := ⟨_, _, _, _, _, _⟩) (.agg #[.int .i64 1, .int .i64 ((S.ints.getD 0 (0, 0)).1), .string ⟨#[]⟩]) (yq_bV2 (by rfl) _ _ rfl 1 (S.ints.getD 0 (0, 0)).1 rfl rfl) ?_
              simp only [Act.put, lzA, lzB, lzC]
              refine wt_putVa (o := ⟨_, _, _, _, _, _⟩) rfl _ _ rfl _ rfl ((1, (S.ints.getD 0 (0, 0)).1, ⟨#[]⟩)) rfl G2 rfl (fun v5 X kg => ?_)
              simp only [Act.put, lzA, lzB, lzC]
              replace D := gr_new D ge_g2 kg
              replace G1 := heap_gr G1 kg n_g1_g2
              clear kg
              replace G2 : v5.heap[g2]? = some (.cells #[.int .i64 1, .int .i64 ((S.ints.getD 0 (0, 0)).1), .string ⟨#[]⟩] 48 (0, 0)) := X
              clear X
              refine wl_yield (o := ⟨_, _, _, _, _, _⟩) (.bool true) (yl_assign (by rfl) _ rfl _ rfl) ?_
              simp only [Act.put, lzA, lzB, lzC]
              refine wpList_nil ?_
              refine hK8 _ _ ?_
              clear hK8 K8
              refine wp_ret ?_
              try simp only [Exit.inBlock, Exit.then]
              refine bodyPost_ret (results_cs rfl _ _ g2 _ (.bool true) rfl rfl (run_loadVar_row _ _ _ _ _ _ _ G2 Tryz.underlying48 rfl (by rw [infoV]; rfl))) rfl ?_
              have e : sampleV S = some (1, (S.ints.getD 0 (0, 0)).1, ⟨#[]⟩) := by
                unfold sampleV
                rw [if_pos hr, if_neg (by rw [hc13]; decide), if_pos h0]
                all_goals rfl
              rw [e]
              exact ⟨rfl, below_none D⟩
            · have hc19 := hc
              clear hc
              have hi0 : ¬ 0 < S.ints.length := by have := of_decide_eq_false hc19; omega
              refine wp_skip ?_
              refine hK6 _ _ ?_
              clear hK6 K6
              refine wp_seq_k (fun K8 hK8 => ?_)
              refine wp_seq_k (fun K9 hK9 => ?_)
              refine wp_region_lit ?_
              refine wl_yield (o := ⟨_, _, _, _, _, _⟩) (.pointer (some ⟨g1, 2, none⟩)) (yt_fSt2 (by rfl) _ rfl g1 0 rfl) ?_
              simp only [Act.put, lzA, lzB, lzC]
              refine wl_yield (o := ⟨_, _, _, _, _, _⟩) (.bool (S.co)) (yt_ldB (by rfl) _ rfl _ _ rfl S.co (fun _ h => by subst h; exact cell_heap G1 2)) ?_
              simp only [Act.put, lzA, lzB, lzC]
              refine wl_yield (o := ⟨_, _, _, _, _, _⟩) (.bool (!S.co)) (yl_not (by rfl) _ _ rfl (S.co) rfl) ?_
              simp only [Act.put, lzA, lzB, lzC]
              refine wpList_nil ?_
              refine hK9 _ _ ?_
              clear hK9 K9
              refine wp_cond_split (t := (!S.co)) rfl (fun hc => ?_) (fun hc => ?_)
              · have hc28 := hc
                clear hc
                have hco : ¬ S.co = true := by simpa using hc28
                have h0 := some_str he (by rw [hc13]; decide) hi0 hco
                obtain ⟨gI, oI, rfl, hg1, C0⟩ := hT.at.2 0 h0
                have cellD := fun (W : World) (D : w.grownBy W none) (j : Nat) => (below_none D).cell (p := ⟨gI, j, none⟩) hg1
                refine wp_seq_k (fun K10 hK10 => ?_)
                refine wp_region_lit ?_
                refine wl_yield (o := ⟨_, _, _, _, _, _⟩) (.pointer (some ⟨g1, 3, none⟩)) (yt_fSt3 (by rfl) _ rfl g1 0 rfl) ?_
                simp only [Act.put, lzA, lzB, lzC]
                refine wl_yield (o := ⟨_, _, _, _, _, _⟩) (.slice (some ⟨gI, oI, none⟩) S.strs.length cz) (yt_ldLs (by rfl) _ rfl _ _ rfl (some ⟨gI, oI, none⟩) S.strs.length cz (fun _ h => by subst h; exact cell_heap G1 3)) ?_
                simp only [Act.put, lzA, lzB, lzC]
                refine wl_yield (o := ⟨_, _, _, _, _, _⟩) (.pointer (some ⟨gI, oI + 0 * 1, none⟩)) (yt_atT (by rfl) _ _ rfl gI oI _ _ 0 rfl rfl (h0)) ?_
                simp only [Act.put, lzA, lzB, lzC]
                refine wl_yield (o := ⟨_, _, _, _, _, _⟩) (.string (S.strs.getD 0 ⟨#[]⟩)) (yt_ldS (by rfl) _ rfl _ _ rfl _ (fun _ h => by subst h; exact (cellD _ D _).trans C0)) ?_
                simp only [Act.put, lzA, lzB, lzC]
                refine wl_yield (o := ⟨_, _, _, _, _, _⟩) (.agg #[.int .i64 2, .int .i64 0, .string (S.strs.getD 0 ⟨#[]⟩)]) (yq_bV3 (by rfl) _ _ rfl 2 (S.strs.getD 0 ⟨#[]⟩) rfl rfl) ?_
                simp only [Act.put, lzA, lzB, lzC]
                refine wt_putVa (o := ⟨_, _, _, _, _, _⟩) rfl _ _ rfl _ rfl ((2, 0, (S.strs.getD 0 ⟨#[]⟩))) rfl G2 rfl (fun v5 X kg => ?_)
                simp only [Act.put, lzA, lzB, lzC]
                replace D := gr_new D ge_g2 kg
                replace G1 := heap_gr G1 kg n_g1_g2
                clear kg
                replace G2 : v5.heap[g2]? = some (.cells #[.int .i64 2, .int .i64 0, .string (S.strs.getD 0 ⟨#[]⟩)] 48 (0, 0)) := X
                clear X
                refine wl_yield (o := ⟨_, _, _, _, _, _⟩) (.bool true) (yl_assign (by rfl) _ rfl _ rfl) ?_
                simp only [Act.put, lzA, lzB, lzC]
                refine wpList_nil ?_
                refine hK10 _ _ ?_
                clear hK10 K10
                refine wp_ret ?_
                try simp only [Exit.inBlock, Exit.then]
                refine bodyPost_ret (results_cs rfl _ _ g2 _ (.bool true) rfl rfl (run_loadVar_row _ _ _ _ _ _ _ G2 Tryz.underlying48 rfl (by rw [infoV]; rfl))) rfl ?_
                have e : sampleV S = some (2, 0, (S.strs.getD 0 ⟨#[]⟩)) := by
                  unfold sampleV
                  rw [if_pos hr, if_neg (by rw [hc13]; decide), if_neg hi0, if_neg hco, if_pos h0]
                  all_goals rfl
                rw [e]
                exact ⟨rfl, below_none D⟩
              · have hc28 := hc
                clear hc
                have hco : S.co = true := by simpa using hc28
                refine wp_skip ?_
                refine hK8 _ _ ?_
                clear hK8 K8
                refine wp_seq_k (fun K10 hK10 => ?_)
                refine wp_region_lit ?_
                refine wl_yield (o := ⟨_, _, _, _, _, _⟩) (.int .i64 0) (yl_assign (by rfl) _ rfl _ rfl) ?_
                simp only [Act.put, lzA, lzB, lzC]
                refine wpList_nil ?_
                refine hK10 _ _ ?_
                clear hK10 K10
                refine wp_seq_k (fun K11 hK11 => ?_)
                refine wp_block ?_
                go_loopw [4] (fun i wr => ∃ (k : Nat), i = .int .i64 ((k : Nat) : Int) ∧ (∀ m, m < k → tryS tilde m ∈ S.strs) ∧ wr.heap[g1]? = some (.cells #[.bool (S.absent), .slice ai S.ints.length ci, .bool (S.co), .slice az S.strs.length cz] 26 (0, 0)) ∧ wr.heap[g2]? = some (.cells #[.int .i64 0, .int .i64 0, .string (bs ([]))] 48 (0, 0)) ∧ w.grownBy wr none) (fun i _ => S.strs.length + 1 - (intOf i).toNat)
                case atStart => exact ⟨0, rfl, fun m hm => absurd hm (Nat.not_lt_zero _), G1, G2, D⟩
                case round =>
                  clear D G1 G2
                  obtain ⟨k, rfl, hm, G1, G2, D⟩ := hrel
                  have hkl := fresh_le S.strs k hm
                  have hit := itoa_le9 k (by omega)
                  refine wp_seq_k (fun K12 hK12 => ?_)
                  refine wp_seq_k (fun K13 hK13 => ?_)
                  refine wp_region_late (S := fun w' => w'.heap[g1]? = some (.cells #[.bool (S.absent), .slice ai S.ints.length ci, .bool (S.co), .slice az S.strs.length cz] 26 (0, 0))) (late := fun j => [].contains j) (by kernel_rfl) ?_
                  have kb : Below wr.heap.size wr wr.drew := (Below.refl _ wr).drew
                  replace D := grown_below D kb
                  replace G1 := heap_on G1 kb
                  replace G2 := heap_on G2 kb
                  clear kb
                  generalize wr.drew = v5 at D G1 G2 ⊢
                  refine wpAnyL_pure (i := 0) (oi := ⟨_, _, _, _, _, _⟩) (v := .pointer (some ⟨g1, 3, none⟩)) rfl (by kernel_rfl) (by kernel_rfl) (by kernel_rfl) (fun _ _ _ h => h) (yt_fSt3 (by rfl) _ rfl g1 0 rfl) ?_
                  simp only [Act.put, lzA, lzB, lzC]
                  refine wpAnyL_load (i := 1) (oi := ⟨_, _, _, _, _, _⟩) (v := .slice az S.strs.length cz) rfl (by kernel_rfl) (by kernel_rfl) (by kernel_rfl) (by kernel_rfl) (fun _ _ _ h => h) (yt_ldLs (by rfl) _ rfl _ _ rfl az S.strs.length cz (fun _ h => cell_heap h 3)) G1 ?_
                  simp only [Act.put, lzA, lzB, lzC]
                  refine wpAnyL_pure (i := 2) (oi := ⟨_, _, _, _, _, _⟩) (v := .int .i64 (k : Nat)) rfl (by kernel_rfl) (by kernel_rfl) (by kernel_rfl) (fun _ _ _ h => h) (yl_move (by rfl) _ rfl _ rfl) ?_
                  simp only [Act.put, lzA, lzB, lzC]
                  refine wpAnyL_all (rs := [3]) (by kernel_rfl) (by simp) ?_
                  intro j hj
                  have hj := List.mem_singleton.1 hj
                  subst hj
                  refine ot_call (o := ⟨_, _, _, _, _, _⟩) rfl (by rfl) 68 _ _ rfl #[.int .i64 (k : Nat)] rfl (run_call Tryz.func68 (by kernel_rfl) (by kernel_rfl)) ?_
                  refine (decimal_any ((k : Nat) : Int) (by omega) (by omega) _).mono ?_
                  rintro r v6 (⟨rfl, kb⟩)
                  replace D := grown_below D kb
                  replace G1 := heap_on G1 kb
                  replace G2 := heap_on G2 kb
                  clear kb
                  refine Or.inl ⟨.string (bs (Lib.itoa ((k : Nat) : Int))), rfl, ⟨fun _ _ => G1, ?_⟩⟩
                  simp only [Act.put, lzA, lzB, lzC]
                  refine wpAnyL_pure (i := 4) (oi := ⟨_, _, _, _, _, _⟩) (v := .string (bs (([126]) ++ (Lib.itoa ((k : Nat) : Int))))) rfl (by kernel_rfl) (by kernel_rfl) (by kernel_rfl) (fun _ _ _ h => h) (yt_cat (by rfl) _ _ _ rfl ([126]) (Lib.itoa ((k : Nat) : Int)) rfl rfl (by simp; omega)) ?_
                  simp only [Act.put, lzA, lzB, lzC]
                  refine wpAnyL_all (rs := [5]) (by kernel_rfl) (by simp) ?_
                  intro j hj
                  have hj := List.mem_singleton.1 hj
                  subst hj
                  refine ot_call (o := ⟨_, _, _, _, _, _⟩) rfl (by rfl) 64 _ _ rfl #[.slice az S.strs.length cz, .string (bs (([126]) ++ (Lib.itoa ((k : Nat) : Int))))] rfl (run_call Tryz.func64 (by kernel_rfl) (by kernel_rfl)) ?_
                  refine (inStrs_any _ S.strs (bs ([126] ++ Lib.itoa ((k : Nat) : Int))) _ (hT.on (below_none D))).mono ?_
                  rintro r v7 (⟨rfl, e9⟩)
                  subst e9
                  refine Or.inl ⟨.bool ((inStrsB S.strs (tryS tilde k))), ret_bool (by rw [try_bs]), ⟨fun _ _ => G1, ?_⟩⟩
                  simp only [Act.put, lzA, lzB, lzC]
                  refine wpAnyL_done (by kernel_rfl) ?_ _
                  refine hK13 _ _ ?_
                  clear hK13 K13
                  refine wp_cond_split (t := (inStrsB S.strs (tryS tilde k))) rfl (fun hc => ?_) (fun hc => ?_)
                  · have hc39 := hc
                    clear hc
                    refine wp_skip ?_
                    refine hK12 _ _ ?_
                    clear hK12 K12
                    refine wp_block ?_
                    refine wp_region_lit ?_
                    refine wl_yield (o := ⟨_, _, _, _, _, _⟩) (.int .i64 (k : Nat)) (yl_move (by rfl) _ rfl _ rfl) ?_
                    simp only [Act.put, lzA, lzB, lzC]
                    refine wl_yield (o := ⟨_, _, _, _, _, _⟩) (.int .i64 (k + 1 : Nat)) (yt_addI (by rfl) _ _ _ rfl ((k : Nat) : Int) 1 ((k + 1 : Nat) : Int) rfl rfl (by omega) (by omega) (by omega)) ?_
                    simp only [Act.put, lzA, lzB, lzC]
                    refine wl_yield (o := ⟨_, _, _, _, _, _⟩) (.int .i64 (k + 1 : Nat)) (yl_assign (by rfl) _ rfl _ rfl) ?_
                    simp only [Act.put, lzA, lzB, lzC]
                    refine wpList_nil ?_
                    show _ ∧ _
                    go_roundw
                    case rel => exact ⟨k + 1, rfl, fun m h1 => by
                        by_cases e : m = k
                        · subst e; exact inStrs_mem.1 hc39
                        · exact hm m (by omega), G1, G2, D⟩
                    case measure => simp [intOf]; omega
                  · have hc39 := hc
                    clear hc
                    refine wp_exit ?_
                    refine hK11 _ _ ?_
                    clear hK12 K12 hK11 K11
                    refine wp_seq_k (fun K14 hK14 => ?_)
                    refine wp_region_lit ?_
                    refine wl_yield (o := ⟨_, _, _, _, _, _⟩) (.int .i64 (k : Nat)) (yl_move (by rfl) _ rfl _ rfl) ?_
                    simp only [Act.put, lzA, lzB, lzC]
                    refine wt_call (o := ⟨_, _, _, _, _, _⟩) (by rfl) 68 _ _ rfl #[.int .i64 (k : Nat)] rfl (run_call Tryz.func68 (by kernel_rfl) (by kernel_rfl)) ?_
                    refine (decimal_any ((k : Nat) : Int) (by omega) (by omega) _).mono ?_
                    rintro r v8 (⟨rfl, kb⟩)
                    · replace D := grown_below D kb
                      replace G1 := heap_on G1 kb
                      replace G2 := heap_on G2 kb
                      clear kb
                      refine Or.inl ⟨.string (bs (Lib.itoa ((k : Nat) : Int))), rfl, ?_⟩
                      simp only [Act.put, lzA, lzB, lzC]
                      refine wl_yield (o := ⟨_, _, _, _, _, _⟩) (.string (bs (([126]) ++ (Lib.itoa ((k : Nat) : Int))))) (yt_cat (by rfl) _ _ _ rfl ([126]) (Lib.itoa ((k : Nat) : Int)) rfl rfl (by simp; omega)) ?_
                      simp only [Act.put, lzA, lzB, lzC]
                      refine wl_yield (o := ⟨_, _, _, _, _, _⟩) (.agg #[.int .i64 2, .int .i64 0, .string (bs (([126]) ++ (Lib.itoa ((k : Nat) : Int))))]) (yq_bV3 (by rfl) _ _ rfl 2 (bs (([126]) ++ (Lib.itoa ((k : Nat) : Int)))) rfl rfl) ?_
                      simp only [Act.put, lzA, lzB, lzC]
                      refine wt_putVa (o := ⟨_, _, _, _, _, _⟩) rfl _ _ rfl _ rfl ((2, 0, (bs (([126]) ++ (Lib.itoa ((k : Nat) : Int)))))) rfl G2 rfl (fun v9 X kg => ?_)
                      simp only [Act.put, lzA, lzB, lzC]
                      replace D := gr_new D ge_g2 kg
                      replace G1 := heap_gr G1 kg n_g1_g2
                      clear kg
                      replace G2 : v9.heap[g2]? = some (.cells #[.int .i64 2, .int .i64 0, .string (bs (([126]) ++ (Lib.itoa ((k : Nat) : Int))))] 48 (0, 0)) := X
                      clear X
                      refine wl_yield (o := ⟨_, _, _, _, _, _⟩) (.bool true) (yl_assign (by rfl) _ rfl _ rfl) ?_
                      simp only [Act.put, lzA, lzB, lzC]
                      refine wpList_nil ?_
                      refine hK14 _ _ ?_
                      clear hK14 K14
                      refine wp_ret ?_
                      try simp only [Exit.inBlock, Exit.then]
                      refine bodyPost_ret (results_cs rfl _ _ g2 _ (.bool true) rfl rfl (run_loadVar_row _ _ _ _ _ _ _ G2 Tryz.underlying48 rfl (by rw [infoV]; rfl))) rfl ?_
                      have hx : IsFresh S.strs k := ⟨fun h => (by rw [inStrs_mem.2 h] at hc39; cases hc39), hm⟩
                      have e0 : freshC S.strs = k := (freshC_is S.strs).1.uniq hx
                      have e : sampleV S = some (2, 0, (bs (([126]) ++ (Lib.itoa ((k : Nat) : Int))))) := by
                        unfold sampleV
                        rw [if_pos hr, if_neg (by rw [hc13]; decide), if_neg hi0, if_pos hco, e0, ← try_bs]
                        all_goals rfl
                      rw [e]
                      exact ⟨rfl, below_none D⟩
      · refine wt_call (o := ⟨_, _, _, _, _, _⟩) (by rfl) 67 _ _ rfl #[.agg #[.bool (S.absent), .slice ai S.ints.length ci, .bool (S.co), .slice az S.strs.length cz]] rfl (run_call Tryz.func67 (by kernel_rfl) (by kernel_rfl)) ?_
        refine (refEmpty3_any _ S _ (show SetAt _ (SC.val ⟨S.absent, ai, S.ints.length, ci, S.co, az, S.strs.length, cz⟩) S from ⟨_, _, rfl, hI.on (below_none D), hT.on (below_none D)⟩)).mono ?_
        rintro r v4 (⟨rfl, kb⟩)
        · replace D := grown_below D kb
          replace G1 := heap_on G1 kb
          replace G2 := heap_on G2 kb
          clear kb
          refine Or.inl ⟨.bool true, ret_bool he, ?_⟩
          simp only [Act.put, lzA, lzB, lzC]
          refine wl_yield (o := ⟨_, _, _, _, _, _⟩) (.bool true) (yl_pickF (by rfl) _ _ _ rfl rfl _ rfl) ?_
          simp only [Act.put, lzA, lzB, lzC]
          refine wpList_nil ?_
          refine hK3 _ _ ?_
          clear hK3 K3
          refine wp_cond_true rfl ?_
          refine wp_seq_k (fun K4 hK4 => ?_)
          refine wp_region_lit ?_
          refine wl_yield (o := ⟨_, _, _, _, _, _⟩) (vVal ((0, 0, ⟨#[]⟩) : Va)) (yq_bV0 (by rfl) rfl) ?_
          simp only [Act.put, lzA, lzB, lzC]
          refine wt_putVa (o := ⟨_, _, _, _, _, _⟩) rfl _ _ rfl _ rfl (((0, 0, ⟨#[]⟩) : Va)) rfl G2 rfl (fun v5 X kg => ?_)
          simp only [Act.put, lzA, lzB, lzC]
          replace D := gr_new D ge_g2 kg
          replace G1 := heap_gr G1 kg n_g1_g2
          clear kg
          replace G2 : v5.heap[g2]? = some (.cells #[.int .i64 (((0, 0, ⟨#[]⟩) : Va).1), .int .i64 (((0, 0, ⟨#[]⟩) : Va).2.1), .string ((0, 0, ⟨#[]⟩) : Va).2.2] 48 (0, 0)) := X
          clear X
          refine wl_yield (o := ⟨_, _, _, _, _, _⟩) (.bool false) (yl_assign (by rfl) _ rfl _ rfl) ?_
          simp only [Act.put, lzA, lzB, lzC]
          refine wpList_nil ?_
          refine hK4 _ _ ?_
          clear hK4 K4
          refine wp_ret ?_
          try simp only [Exit.inBlock, Exit.then]
          refine bodyPost_ret (results_cs rfl _ _ g2 _ (.bool false) rfl rfl (run_loadVar_row _ _ _ _ _ _ _ G2 Tryz.underlying48 rfl (by rw [infoV]; rfl))) rfl ?_
          have e : sampleV S = none := sample_none he
          rw [e]
          exact ⟨rfl, below_none D⟩
end Go.Proofs.YtjbgjdjmejhejaaGreatDoor
namespace Go.Proofs.YtjbgjdjmejhejaaGreatDoor
open Go.RowKit
section
variable {ops : Array Oper} {S : World → Prop} {o : Oper} {a : Act}
theorem yq_neqB (hw : Region.wanted o (yielded ops a.tmps) = true) (x y : Operand) (t : TypeId) (ho : o.op = .binOp .neq 4 x y t) (p q : Bool) (hx : a.eval x = .bool p) (hy : a.eval y = .bool q) : YieldsIf Tryz.prog ops S o (.bool (p != q)) a :=
  Or.inl ⟨hw, fun w hS => by
    simp only [execOp, ho, hx, hy]
    cases p <;> cases q <;> go_simp⟩
end
theorem few_len9 {S : SetV} (h : fewB S = true) : S.ints.length ≤ 40 ∧ S.strs.length ≤ 40 := by
  unfold fewB at h
  simp only [Bool.and_eq_true, decide_eq_true_eq] at h
  exact ⟨by omega, by omega⟩
end Go.Proofs.YtjbgjdjmejhejaaGreatDoor
namespace Go.Proofs.YtjbgjdjmejhejaaGreatDoor
open Go.Deep Go.ChangeShapes Go.WideShapes Go.ChangeAt Go.WideMaps Go.WideElems Go.RowKit Go.Joins
section
variable {H : Type} {enc : TypeId × Value → H} {W : World}
theorem open_set9c {fuel : Nat} {cs : List Value} {z : DataW H × List MemPlace} (hl : cs.length = 4) (hf : DataW.trod enc Tryz.prog W 0 (fun _ => true) true fuel 26 cs = some z) : ∃ (c : SC) (S : SetV), cs = c.lst ∧ SetAt W c.val S := by
  match cs, hl with
  | [c0, c1, c2, c3], _ =>
    obtain ⟨S0, h0⟩ := open_setc hf
    obtain ⟨s0, e0⟩ := h0.sc
    rw [e0] at h0
    unfold SC.val at e0
    simp at e0
    obtain ⟨rfl, rfl, rfl, rfl⟩ := e0
    exact ⟨s0, S0, rfl, h0⟩
set_option maxRecDepth 100000 in
theorem open_setsA {r : Reach} {b0 : Nat} {v : Value} {d : DataW H} {p : List MemPlace} (hv : Value.okWide Tryz.prog W r b0 39 v) (h : DataW.Trod enc Tryz.prog W 0 (fun _ => true) true 39 v d p) :
    ∃ l : List SetV, Sts W v l ∧ nilOkQ v := by
  obtain ⟨a0, len0, cap0, rfl⟩ := Go.WideShapes.okWide_slice Tryz.underlying39 hv
  obtain ⟨fuel, hf⟩ := h
  rcases DataW.trod_slice Tryz.underlying39 hf with ⟨h0, _⟩ | ⟨a, len, cap, elems, rest, n', rfl, h0, _, hb, hlc, hm, hel, he, _, _⟩
  · simp [Value.cells] at h0
    obtain ⟨rfl, rfl, rfl⟩ := h0
    exact ⟨[], sts_nil W, fun _ _ _ => rfl⟩
  · simp [Value.cells] at h0
    obtain ⟨rfl, rfl, rfl⟩ := h0
    have hone : ∀ i, i < len0 → ∃ cs' z, W.cells? 0 (a.add (i * 4)) 4 = some cs' ∧ DataW.trod enc Tryz.prog W 0 (fun _ => true) true n' 26 cs' = some z := fun i hi => by
      have h1 := he i hi
      rw [cellsSet, List.getElem?_eq_getElem (by omega), Option.bind_eq_some_iff] at h1
      obtain ⟨cs', h2, h3⟩ := h1
      exact ⟨cs', _, h2, h3⟩
    have hspot : 0 < len0 → a.spot = none := fun hpos => by
      obtain ⟨cs0, _, z1, _⟩ := hone 0 hpos
      obtain ⟨_, zl, zc⟩ := World.cells?_some z1
      have z0 := zc 0 (by omega)
      rw [List.getElem?_eq_getElem (by omega)] at z0
      simpa [Addr.add] using World.cell?_spot z0
    have hall : ∀ i, i < len0 → ∃ q : SC × SetV, W.rangeAt a.block (a.off + i * 4) q.1.lst ∧ SetAt W q.1.val q.2 := fun i hi => by
      obtain ⟨cs', z, h1, h2⟩ := hone i hi
      obtain ⟨_, zl, zc⟩ := World.cells?_some h1
      obtain ⟨c, b, hd, hx⟩ := open_set9c zl h2
      obtain ⟨bk, off, spot⟩ := a
      have hs : spot = none := hspot (by omega)
      subst hs hd
      have fj : ∀ j, ((Addr.mk bk off none).add (i * 4)).add j = ⟨bk, off + i * 4 + j, none⟩ := fun j => by rw [Go.Deep.add_add, Go.WideShapes.add_plain]; congr 1; omega
      refine ⟨(c, b), fun j u hu => ?_, hx⟩
      have hj : j < 4 := by
        have := (List.getElem?_eq_some_iff.1 hu).1
        rwa [SC.lst_len] at this
      have q := zc j hj
      rw [fj] at q
      exact q.trans hu
    have : Inhabited (SC × SetV) := ⟨(SC.zero, noSet)⟩
    obtain ⟨f, hf'⟩ := choose_lt hall
    refine ⟨(List.range len0).map fun i => (f i).2, ⟨(List.range len0).map fun i => (f i).1, ⟨by simp; unfold maxLen at hm; omega, some a, cap0, by simp, fun i hi => ?_⟩, by simp, fun i hi => ?_⟩, fun n c e => by cases e⟩
    · simp at hi
      obtain ⟨q1, q2⟩ := hf' i hi
      have hsp := hspot (by omega)
      have hg : ((List.range len0).map fun i => (f i).1).getD i SC.zero = (f i).1 := by
        rw [List.getD_eq_getElem?_getD, List.getElem?_map, List.getElem?_range hi]
        rfl
      rw [hg]
      refine ⟨a.block, a.off, by rw [← hsp], ?_, q1⟩
      have := q1 0 _ (List.getElem?_eq_getElem (by rw [SC.lst_len]; omega))
      exact lt_cell (a := ⟨a.block, _, none⟩) this
    · simp at hi
      obtain ⟨q1, q2⟩ := hf' i hi
      have hg : ((List.range len0).map fun i => (f i).1).getD i SC.zero = (f i).1 := by
        rw [List.getD_eq_getElem?_getD, List.getElem?_map, List.getElem?_range hi]
        rfl
      have hg2 : ((List.range len0).map fun i => (f i).2).getD i noSet = (f i).2 := by
        rw [List.getD_eq_getElem?_getD, List.getElem?_map, List.getElem?_range hi]
        rfl
      rw [hg, hg2]
      exact q2
set_option maxRecDepth 100000 in
theorem open_sets9 {r : Reach} {b0 : Nat} {v : Value} {d : DataW H} {p : List MemPlace} (hv : Value.okWide Tryz.prog W r b0 39 v) (h : DataW.Trod enc Tryz.prog W 0 (fun _ => true) true 39 v d p) :
    ∃ l : List SetV, SetsAt W v l ∧ nilOkQ v := by
  obtain ⟨l, ⟨cs, h1, h2⟩, h3⟩ := open_setsA hv h
  exact ⟨l, sets_of_row h1 h2, h3⟩
end
end Go.Proofs.YtjbgjdjmejhejaaGreatDoor
