import Derived.Test.YtlmdcaemjaldfaaGreatDoorR6
import Derived.Test.YtlmdcaemjaldfaaGreatDoorR1
import Derived.Lib.SmallJoins
import Derived.Test.YtlmdcaemjaldfaaGreatDoorR2
import Derived.Deep.Strs
import Derived.Test.YtlmdcaemjaldfaaGreatDoorTie
import Derived.Test.YtlmdcaemjaldfaaGreatDoorCards
import Derived.ProofKit
import Derived.LaidMore
import Derived.OpenShut
import Derived.Stop.Joined
import Derived.Stop.LaidErr
import Derived.Lib.LaidTab
import Derived.Carry
set_option linter.unusedSimpArgs false
set_option linter.unusedVariables false
namespace Go.Proofs.YtlmdcaemjaldfaaGreatDoor
open Go.RowKit
theorem okE_parse {l : List UInt8} {x : EvV} (h : parseE l = some x) : rightE x = true ∧ okE x := by
  refine ⟨(parseE_some h).1, ?_⟩
  unfold parseE at h
  split at h
  · cases h
  · rename_i y q hy
    split at h
    · injection h with h
      subst h
      exact evL_ok hy
    · cases h
theorem evTxt_len {e : EvV} (hr : rightE e = true) (hi : inE e) : (evTxt e).length ≤ 10000 := by
  have := evTxt_le hr hi
  unfold evTxt
  simp only [List.length_cons, List.length_append, List.length_nil]
  omega
section
variable {ops : Array Oper} {S : World → Prop} {o : Oper} {a : Act}
theorem yt_lenB (hw : Region.wanted o (yielded ops a.tmps) = true) (x : Operand) (ho : o.op = .call { callee := .builtin .len, args := #[x], argTypes := #[9] }) (s : ByteArray) (hx : a.eval x = .string s) : YieldsIf Tryz.prog ops S o (.int .i64 (s.size : Nat)) a :=
  Or.inl ⟨hw, fun w hS => by
    unfold execOp
    simp only [ho, resolve, invoke, builtin, Sem.run_bind, Sem.run_pure, Result.andThen_ok, List.map_toArray, List.map_cons, List.map_nil, hx]
    go_simp⟩
theorem yt_addW (hw : Region.wanted o (yielded ops a.tmps) = true) (x y : Operand) (t : TypeId) (ho : o.op = .binOp .add 3 x y t) (p q : Int) (hx : a.eval x = .int .i64 p) (hy : a.eval y = .int .i64 q) : YieldsIf Tryz.prog ops S o (.int .i64 (IntKind.i64.wrap (p + q))) a :=
  Or.inl ⟨hw, fun w hS => by
    simp only [execOp, ho, hx, hy]
    go_simp⟩
end
theorem big_wrong {e : EvV} (h : ¬ (e.v0.2.2.size ≤ 1000 ∧ e.v1.2.2.size ≤ 1000 ∧ e.v2.2.2.size ≤ 1000 ∧ e.v3.2.2.size ≤ 1000)) : rightE e = false := by
  cases hr : rightE e
  · rfl
  · exfalso
    have g : ∀ v : Va, rightB v.1 v.2.1 v.2.2 = true → v.2.2.size ≤ 8 := fun v hv => by
      unfold rightB at hv
      split at hv
      · rw [Bool.and_eq_true] at hv
        rw [empty_of hv.2]
        decide
      · split at hv
        · rw [empty_of hv]
          decide
        · split at hv
          · rw [Bool.and_eq_true, decide_eq_true_eq] at hv
            omega
          · cases hv
    have h0 := g _ (rightE_get hr 0 (by omega))
    have h1 := g _ (rightE_get hr 1 (by omega))
    have h2 := g _ (rightE_get hr 2 (by omega))
    have h3 := g _ (rightE_get hr 3 (by omega))
    simp only [EvV.get] at h0 h1 h2 h3
    exact h (by omega)
set_option maxHeartbeats 1000000 in
set_option maxRecDepth 100000 in
theorem textEvents_walk (e : EvV) (l : List UInt8) (w : World) (HE : Env w) (hf : evFit e) (hi : inE e) :
    Calls Tryz.prog 4 #[evVal e, .string (bs l)] w fun r w' => r = .returned (.bool true) ∧ Below w.heap.size w w' := by
  have w6 : 6 ≤ w.heap.size := HE.big
  have D : w.grownBy w none := grown_refl _ _
  obtain ⟨f0, f1, f2, f3⟩ := id hf
  unfold maxLen at f0 f1 f2 f3
  go_enter Tryz.func4, Tryz.ntmps4
  refine wp_seq_k (fun K1 hK1 => ?_)
  refine wp_region_lit ?_
  refine wt_boxEv (o := ⟨_, _, _, _, _, _⟩) (by rfl) _ rfl (e) rfl (fun v1 g1 hg G1 kb => ?_)
  simp only [Act.put, lzA, lzB, lzC]
  have ge_g1 : w.heap.size ≤ g1 := Nat.le_trans D.size hg
  have six_g1 : 6 ≤ g1 := Nat.le_trans w6 ge_g1
  clear hg
  replace D := grown_below D kb
  replace HE := HE.on kb
  clear kb
  replace G1 : v1.heap[g1]? = some (.cells #[.int .i64 (e.v0.1), .int .i64 (e.v0.2.1), .string e.v0.2.2, .int .i64 (e.v1.1), .int .i64 (e.v1.2.1), .string e.v1.2.2, .int .i64 (e.v2.1), .int .i64 (e.v2.2.1), .string e.v2.2.2, .int .i64 (e.v3.1), .int .i64 (e.v3.2.1), .string e.v3.2.2] 42 (0, 0)) := G1
  refine wl_yield (o := ⟨_, _, _, _, _, _⟩) (.bool false) (yl_assign (by rfl) _ rfl _ rfl) ?_
  simp only [Act.put, lzA, lzB, lzC]
  refine wpList_nil ?_
  refine hK1 _ _ ?_
  clear hK1 K1
  refine wp_seq_k (fun K2 hK2 => ?_)
  refine wp_seq_k (fun K3 hK3 => ?_)
  by_cases hS : 500 < l.length
  · refine wp_region_lit ?_
    refine wt_call (o := ⟨_, _, _, _, _, _⟩) (by rfl) 5 _ _ rfl #[] rfl (run_call Tryz.func5 (by kernel_rfl) (by kernel_rfl)) ?_
    refine (awake7_any _ HE).mono ?_
    rintro r v2 ⟨rfl, kb⟩
    replace D := grown_below D kb
    replace HE := HE.on kb
    replace G1 := heap_on G1 kb
    clear kb
    refine Or.inl ⟨.bool true, rfl, ?_⟩
    simp only [Act.put, lzA, lzB, lzC]
    refine wl_yield (o := ⟨_, _, _, _, _, _⟩) (.bool false) (yl_not (by rfl) _ _ rfl true rfl) ?_
    simp only [Act.put, lzA, lzB, lzC]
    refine wl_yield (o := ⟨_, _, _, _, _, _⟩) (.bool false) (yl_move (by rfl) _ rfl _ rfl) ?_
    simp only [Act.put, lzA, lzB, lzC]
    refine wl_yield (o := ⟨_, _, _, _, _, _⟩) (.string (bs l)) (yl_move (by rfl) _ rfl _ rfl) ?_
    simp only [Act.put, lzA, lzB, lzC]
    refine wl_yield (o := ⟨_, _, _, _, _, _⟩) (.int .i64 (l.length : Nat)) (yt_lenS (by rfl) _ rfl l rfl) ?_
    simp only [Act.put, lzA, lzB, lzC]
    refine wl_yield (o := ⟨_, _, _, _, _, _⟩) (.bool true) (yt_gtrI (by rfl) _ _ _ rfl (((l.length : Nat) : Int)) 500 true rfl rfl (decide_eq_true (by omega))) ?_
    simp only [Act.put, lzA, lzB, lzC]
    refine wl_yield (o := ⟨_, _, _, _, _, _⟩) (.bool true) (yl_pickF (by rfl) _ _ _ rfl rfl _ rfl) ?_
    simp only [Act.put, lzA, lzB, lzC]
    refine wl_yield (o := ⟨_, _, _, _, _, _⟩) (.bool true) (yl_move (by rfl) _ rfl _ rfl) ?_
    simp only [Act.put, lzA, lzB, lzC]
    with_reducible refine wl_yield (o := ⟨_, _, _, _, _, _⟩) undef (yl_undef (by kernel_rfl)) ?_
    simp only [Act.put, lzA, lzB, lzC]
    with_reducible refine wl_yield (o := ⟨_, _, _, _, _, _⟩) undef (yl_undef (by kernel_rfl)) ?_
    simp only [Act.put, lzA, lzB, lzC]
    with_reducible refine wl_yield (o := ⟨_, _, _, _, _, _⟩) undef (yl_undef (by kernel_rfl)) ?_
    simp only [Act.put, lzA, lzB, lzC]
    with_reducible refine wl_yield (o := ⟨_, _, _, _, _, _⟩) undef (yl_undef (by kernel_rfl)) ?_
    simp only [Act.put, lzA, lzB, lzC]
    with_reducible refine wl_yield (o := ⟨_, _, _, _, _, _⟩) undef (yl_undef (by kernel_rfl)) ?_
    simp only [Act.put, lzA, lzB, lzC]
    with_reducible refine wl_yield (o := ⟨_, _, _, _, _, _⟩) undef (yl_undef (by kernel_rfl)) ?_
    simp only [Act.put, lzA, lzB, lzC]
    with_reducible refine wl_yield (o := ⟨_, _, _, _, _, _⟩) undef (yl_undef (by kernel_rfl)) ?_
    simp only [Act.put, lzA, lzB, lzC]
    with_reducible refine wl_yield (o := ⟨_, _, _, _, _, _⟩) undef (yl_undef (by kernel_rfl)) ?_
    simp only [Act.put, lzA, lzB, lzC]
    with_reducible refine wl_yield (o := ⟨_, _, _, _, _, _⟩) undef (yl_undef (by kernel_rfl)) ?_
    simp only [Act.put, lzA, lzB, lzC]
    with_reducible refine wl_yield (o := ⟨_, _, _, _, _, _⟩) undef (yl_undef (by kernel_rfl)) ?_
    simp only [Act.put, lzA, lzB, lzC]
    with_reducible refine wl_yield (o := ⟨_, _, _, _, _, _⟩) undef (yl_undef (by kernel_rfl)) ?_
    simp only [Act.put, lzA, lzB, lzC]
    with_reducible refine wl_yield (o := ⟨_, _, _, _, _, _⟩) undef (yl_undef (by kernel_rfl)) ?_
    simp only [Act.put, lzA, lzB, lzC]
    with_reducible refine wl_yield (o := ⟨_, _, _, _, _, _⟩) undef (yl_undef (by kernel_rfl)) ?_
    simp only [Act.put, lzA, lzB, lzC]
    with_reducible refine wl_yield (o := ⟨_, _, _, _, _, _⟩) undef (yl_undef (by kernel_rfl)) ?_
    simp only [Act.put, lzA, lzB, lzC]
    with_reducible refine wl_yield (o := ⟨_, _, _, _, _, _⟩) undef (yl_undef (by kernel_rfl)) ?_
    simp only [Act.put, lzA, lzB, lzC]
    with_reducible refine wl_yield (o := ⟨_, _, _, _, _, _⟩) undef (yl_undef (by kernel_rfl)) ?_
    simp only [Act.put, lzA, lzB, lzC]
    with_reducible refine wl_yield (o := ⟨_, _, _, _, _, _⟩) undef (yl_undef (by kernel_rfl)) ?_
    simp only [Act.put, lzA, lzB, lzC]
    with_reducible refine wl_yield (o := ⟨_, _, _, _, _, _⟩) undef (yl_undef (by kernel_rfl)) ?_
    simp only [Act.put, lzA, lzB, lzC]
    with_reducible refine wl_yield (o := ⟨_, _, _, _, _, _⟩) undef (yl_undef (by kernel_rfl)) ?_
    simp only [Act.put, lzA, lzB, lzC]
    with_reducible refine wl_yield (o := ⟨_, _, _, _, _, _⟩) undef (yl_undef (by kernel_rfl)) ?_
    simp only [Act.put, lzA, lzB, lzC]
    refine wl_yield (o := ⟨_, _, _, _, _, _⟩) (.bool true) (yl_pickT (by rfl) _ _ _ rfl rfl _ rfl) ?_
    simp only [Act.put, lzA, lzB, lzC]
    refine wpList_nil ?_
    refine hK3 _ _ ?_
    clear hK3 K3
    refine wp_cond_true rfl ?_
    refine wp_seq_k (fun K4 hK4 => ?_)
    refine wp_region_lit ?_
    refine wt_call (o := ⟨_, _, _, _, _, _⟩) (by rfl) 5 _ _ rfl #[] rfl (run_call Tryz.func5 (by kernel_rfl) (by kernel_rfl)) ?_
    refine (awake7_any _ HE).mono ?_
    rintro r v3 ⟨rfl, kb⟩
    replace D := grown_below D kb
    replace HE := HE.on kb
    replace G1 := heap_on G1 kb
    clear kb
    refine Or.inl ⟨.bool true, rfl, ?_⟩
    simp only [Act.put, lzA, lzB, lzC]
    refine wl_yield (o := ⟨_, _, _, _, _, _⟩) (.bool true) (yl_assign (by rfl) _ rfl _ rfl) ?_
    simp only [Act.put, lzA, lzB, lzC]
    refine wpList_nil ?_
    refine hK4 _ _ ?_
    clear hK4 K4
    refine wp_ret ?_
    go_ret
    exact ⟨rfl, below_none D⟩
  · by_cases hbg : e.v0.2.2.size ≤ 1000 ∧ e.v1.2.2.size ≤ 1000 ∧ e.v2.2.2.size ≤ 1000 ∧ e.v3.2.2.size ≤ 1000
    · by_cases hB : 300 < e.v0.2.2.size + e.v1.2.2.size + e.v2.2.2.size + e.v3.2.2.size
      · refine wp_region_lit ?_
        refine wt_call (o := ⟨_, _, _, _, _, _⟩) (by rfl) 5 _ _ rfl #[] rfl (run_call Tryz.func5 (by kernel_rfl) (by kernel_rfl)) ?_
        refine (awake7_any _ HE).mono ?_
        rintro r v2 ⟨rfl, kb⟩
        replace D := grown_below D kb
        replace HE := HE.on kb
        replace G1 := heap_on G1 kb
        clear kb
        refine Or.inl ⟨.bool true, rfl, ?_⟩
        simp only [Act.put, lzA, lzB, lzC]
        refine wl_yield (o := ⟨_, _, _, _, _, _⟩) (.bool false) (yl_not (by rfl) _ _ rfl true rfl) ?_
        simp only [Act.put, lzA, lzB, lzC]
        refine wl_yield (o := ⟨_, _, _, _, _, _⟩) (.bool false) (yl_move (by rfl) _ rfl _ rfl) ?_
        simp only [Act.put, lzA, lzB, lzC]
        refine wl_yield (o := ⟨_, _, _, _, _, _⟩) (.string (bs l)) (yl_move (by rfl) _ rfl _ rfl) ?_
        simp only [Act.put, lzA, lzB, lzC]
        refine wl_yield (o := ⟨_, _, _, _, _, _⟩) (.int .i64 (l.length : Nat)) (yt_lenS (by rfl) _ rfl l rfl) ?_
        simp only [Act.put, lzA, lzB, lzC]
        refine wl_yield (o := ⟨_, _, _, _, _, _⟩) (.bool false) (yt_gtrI (by rfl) _ _ _ rfl (((l.length : Nat) : Int)) 500 false rfl rfl (decide_eq_false (by omega))) ?_
        simp only [Act.put, lzA, lzB, lzC]
        refine wl_yield (o := ⟨_, _, _, _, _, _⟩) (.bool false) (yl_pickF (by rfl) _ _ _ rfl rfl _ rfl) ?_
        simp only [Act.put, lzA, lzB, lzC]
        refine wl_yield (o := ⟨_, _, _, _, _, _⟩) (.bool false) (yl_move (by rfl) _ rfl _ rfl) ?_
        simp only [Act.put, lzA, lzB, lzC]
        refine wl_yield (o := ⟨_, _, _, _, _, _⟩) (.pointer (some ⟨g1, 0, none⟩)) (yl_atEv (by rfl) _ _ rfl g1 0 rfl rfl (by omega)) ?_
        simp only [Act.put, lzA, lzB, lzC]
        refine wl_yield (o := ⟨_, _, _, _, _, _⟩) (.pointer (some ⟨g1, 2, none⟩)) (yt_fVa2 (by rfl) _ rfl g1 0 rfl) ?_
        simp only [Act.put, lzA, lzB, lzC]
        refine wl_yield (o := ⟨_, _, _, _, _, _⟩) (.string e.v0.2.2) (yt_ldS (by rfl) _ rfl _ _ rfl _ (fun _ h => by subst h; exact cell_heap G1 2)) ?_
        simp only [Act.put, lzA, lzB, lzC]
        refine wl_yield (o := ⟨_, _, _, _, _, _⟩) (.int .i64 (e.v0.2.2.size : Nat)) (yt_lenB (by rfl) _ rfl e.v0.2.2 rfl) ?_
        simp only [Act.put, lzA, lzB, lzC]
        refine wl_yield (o := ⟨_, _, _, _, _, _⟩) (.pointer (some ⟨g1, 3, none⟩)) (yl_atEv (by rfl) _ _ rfl g1 1 rfl rfl (by omega)) ?_
        simp only [Act.put, lzA, lzB, lzC]
        refine wl_yield (o := ⟨_, _, _, _, _, _⟩) (.pointer (some ⟨g1, 5, none⟩)) (yt_fVa2 (by rfl) _ rfl g1 3 rfl) ?_
        simp only [Act.put, lzA, lzB, lzC]
        refine wl_yield (o := ⟨_, _, _, _, _, _⟩) (.string e.v1.2.2) (yt_ldS (by rfl) _ rfl _ _ rfl _ (fun _ h => by subst h; exact cell_heap G1 5)) ?_
        simp only [Act.put, lzA, lzB, lzC]
        refine wl_yield (o := ⟨_, _, _, _, _, _⟩) (.int .i64 (e.v1.2.2.size : Nat)) (yt_lenB (by rfl) _ rfl e.v1.2.2 rfl) ?_
        simp only [Act.put, lzA, lzB, lzC]
        refine wl_yield (o := ⟨_, _, _, _, _, _⟩) (.int .i64 (e.v0.2.2.size + e.v1.2.2.size : Nat)) (yt_addI (by rfl) _ _ _ rfl (((e.v0.2.2.size : Nat) : Int)) (((e.v1.2.2.size : Nat) : Int)) (((e.v0.2.2.size + e.v1.2.2.size : Nat) : Int)) rfl rfl (by omega) (by omega) (by omega)) ?_
        simp only [Act.put, lzA, lzB, lzC]
        refine wl_yield (o := ⟨_, _, _, _, _, _⟩) (.pointer (some ⟨g1, 6, none⟩)) (yl_atEv (by rfl) _ _ rfl g1 2 rfl rfl (by omega)) ?_
        simp only [Act.put, lzA, lzB, lzC]
        refine wl_yield (o := ⟨_, _, _, _, _, _⟩) (.pointer (some ⟨g1, 8, none⟩)) (yt_fVa2 (by rfl) _ rfl g1 6 rfl) ?_
        simp only [Act.put, lzA, lzB, lzC]
        refine wl_yield (o := ⟨_, _, _, _, _, _⟩) (.string e.v2.2.2) (yt_ldS (by rfl) _ rfl _ _ rfl _ (fun _ h => by subst h; exact cell_heap G1 8)) ?_
        simp only [Act.put, lzA, lzB, lzC]
        refine wl_yield (o := ⟨_, _, _, _, _, _⟩) (.int .i64 (e.v2.2.2.size : Nat)) (yt_lenB (by rfl) _ rfl e.v2.2.2 rfl) ?_
        simp only [Act.put, lzA, lzB, lzC]
        refine wl_yield (o := ⟨_, _, _, _, _, _⟩) (.int .i64 (e.v0.2.2.size + e.v1.2.2.size + e.v2.2.2.size : Nat)) (yt_addI (by rfl) _ _ _ rfl (((e.v0.2.2.size + e.v1.2.2.size : Nat) : Int)) (((e.v2.2.2.size : Nat) : Int)) (((e.v0.2.2.size + e.v1.2.2.size + e.v2.2.2.size : Nat) : Int)) rfl rfl (by omega) (by omega) (by omega)) ?_
        simp only [Act.put, lzA, lzB, lzC]
        refine wl_yield (o := ⟨_, _, _, _, _, _⟩) (.pointer (some ⟨g1, 9, none⟩)) (yl_atEv (by rfl) _ _ rfl g1 3 rfl rfl (by omega)) ?_
        simp only [Act.put, lzA, lzB, lzC]
        refine wl_yield (o := ⟨_, _, _, _, _, _⟩) (.pointer (some ⟨g1, 11, none⟩)) (yt_fVa2 (by rfl) _ rfl g1 9 rfl) ?_
        simp only [Act.put, lzA, lzB, lzC]
        refine wl_yield (o := ⟨_, _, _, _, _, _⟩) (.string e.v3.2.2) (yt_ldS (by rfl) _ rfl _ _ rfl _ (fun _ h => by subst h; exact cell_heap G1 11)) ?_
        simp only [Act.put, lzA, lzB, lzC]
        refine wl_yield (o := ⟨_, _, _, _, _, _⟩) (.int .i64 (e.v3.2.2.size : Nat)) (yt_lenB (by rfl) _ rfl e.v3.2.2 rfl) ?_
        simp only [Act.put, lzA, lzB, lzC]
        refine wl_yield (o := ⟨_, _, _, _, _, _⟩) (.int .i64 (e.v0.2.2.size + e.v1.2.2.size + e.v2.2.2.size + e.v3.2.2.size : Nat)) (yt_addI (by rfl) _ _ _ rfl (((e.v0.2.2.size + e.v1.2.2.size + e.v2.2.2.size : Nat) : Int)) (((e.v3.2.2.size : Nat) : Int)) (((e.v0.2.2.size + e.v1.2.2.size + e.v2.2.2.size + e.v3.2.2.size : Nat) : Int)) rfl rfl (by omega) (by omega) (by omega)) ?_
        simp only [Act.put, lzA, lzB, lzC]
        refine wl_yield (o := ⟨_, _, _, _, _, _⟩) (.bool true) (yt_gtrI (by rfl) _ _ _ rfl (((e.v0.2.2.size + e.v1.2.2.size + e.v2.2.2.size + e.v3.2.2.size : Nat) : Int)) 300 true rfl rfl (decide_eq_true (by omega))) ?_
        simp only [Act.put, lzA, lzB, lzC]
        refine wl_yield (o := ⟨_, _, _, _, _, _⟩) (.bool true) (yl_pickF (by rfl) _ _ _ rfl rfl _ rfl) ?_
        simp only [Act.put, lzA, lzB, lzC]
        refine wpList_nil ?_
        refine hK3 _ _ ?_
        clear hK3 K3
        refine wp_cond_true rfl ?_
        refine wp_seq_k (fun K4 hK4 => ?_)
        refine wp_region_lit ?_
        refine wt_call (o := ⟨_, _, _, _, _, _⟩) (by rfl) 5 _ _ rfl #[] rfl (run_call Tryz.func5 (by kernel_rfl) (by kernel_rfl)) ?_
        refine (awake7_any _ HE).mono ?_
        rintro r v3 ⟨rfl, kb⟩
        replace D := grown_below D kb
        replace HE := HE.on kb
        replace G1 := heap_on G1 kb
        clear kb
        refine Or.inl ⟨.bool true, rfl, ?_⟩
        simp only [Act.put, lzA, lzB, lzC]
        refine wl_yield (o := ⟨_, _, _, _, _, _⟩) (.bool true) (yl_assign (by rfl) _ rfl _ rfl) ?_
        simp only [Act.put, lzA, lzB, lzC]
        refine wpList_nil ?_
        refine hK4 _ _ ?_
        clear hK4 K4
        refine wp_ret ?_
        go_ret
        exact ⟨rfl, below_none D⟩
      · refine wp_region_lit ?_
        refine wt_call (o := ⟨_, _, _, _, _, _⟩) (by rfl) 5 _ _ rfl #[] rfl (run_call Tryz.func5 (by kernel_rfl) (by kernel_rfl)) ?_
        refine (awake7_any _ HE).mono ?_
        rintro r v2 ⟨rfl, kb⟩
        replace D := grown_below D kb
        replace HE := HE.on kb
        replace G1 := heap_on G1 kb
        clear kb
        refine Or.inl ⟨.bool true, rfl, ?_⟩
        simp only [Act.put, lzA, lzB, lzC]
        refine wl_yield (o := ⟨_, _, _, _, _, _⟩) (.bool false) (yl_not (by rfl) _ _ rfl true rfl) ?_
        simp only [Act.put, lzA, lzB, lzC]
        refine wl_yield (o := ⟨_, _, _, _, _, _⟩) (.bool false) (yl_move (by rfl) _ rfl _ rfl) ?_
        simp only [Act.put, lzA, lzB, lzC]
        refine wl_yield (o := ⟨_, _, _, _, _, _⟩) (.string (bs l)) (yl_move (by rfl) _ rfl _ rfl) ?_
        simp only [Act.put, lzA, lzB, lzC]
        refine wl_yield (o := ⟨_, _, _, _, _, _⟩) (.int .i64 (l.length : Nat)) (yt_lenS (by rfl) _ rfl l rfl) ?_
        simp only [Act.put, lzA, lzB, lzC]
        refine wl_yield (o := ⟨_, _, _, _, _, _⟩) (.bool false) (yt_gtrI (by rfl) _ _ _ rfl (((l.length : Nat) : Int)) 500 false rfl rfl (decide_eq_false (by omega))) ?_
        simp only [Act.put, lzA, lzB, lzC]
        refine wl_yield (o := ⟨_, _, _, _, _, _⟩) (.bool false) (yl_pickF (by rfl) _ _ _ rfl rfl _ rfl) ?_
        simp only [Act.put, lzA, lzB, lzC]
        refine wl_yield (o := ⟨_, _, _, _, _, _⟩) (.bool false) (yl_move (by rfl) _ rfl _ rfl) ?_
        simp only [Act.put, lzA, lzB, lzC]
        refine wl_yield (o := ⟨_, _, _, _, _, _⟩) (.pointer (some ⟨g1, 0, none⟩)) (yl_atEv (by rfl) _ _ rfl g1 0 rfl rfl (by omega)) ?_
        simp only [Act.put, lzA, lzB, lzC]
        refine wl_yield (o := ⟨_, _, _, _, _, _⟩) (.pointer (some ⟨g1, 2, none⟩)) (yt_fVa2 (by rfl) _ rfl g1 0 rfl) ?_
        simp only [Act.put, lzA, lzB, lzC]
        refine wl_yield (o := ⟨_, _, _, _, _, _⟩) (.string e.v0.2.2) (yt_ldS (by rfl) _ rfl _ _ rfl _ (fun _ h => by subst h; exact cell_heap G1 2)) ?_
        simp only [Act.put, lzA, lzB, lzC]
        refine wl_yield (o := ⟨_, _, _, _, _, _⟩) (.int .i64 (e.v0.2.2.size : Nat)) (yt_lenB (by rfl) _ rfl e.v0.2.2 rfl) ?_
        simp only [Act.put, lzA, lzB, lzC]
        refine wl_yield (o := ⟨_, _, _, _, _, _⟩) (.pointer (some ⟨g1, 3, none⟩)) (yl_atEv (by rfl) _ _ rfl g1 1 rfl rfl (by omega)) ?_
        simp only [Act.put, lzA, lzB, lzC]
        refine wl_yield (o := ⟨_, _, _, _, _, _⟩) (.pointer (some ⟨g1, 5, none⟩)) (yt_fVa2 (by rfl) _ rfl g1 3 rfl) ?_
        simp only [Act.put, lzA, lzB, lzC]
        refine wl_yield (o := ⟨_, _, _, _, _, _⟩) (.string e.v1.2.2) (yt_ldS (by rfl) _ rfl _ _ rfl _ (fun _ h => by subst h; exact cell_heap G1 5)) ?_
        simp only [Act.put, lzA, lzB, lzC]
        refine wl_yield (o := ⟨_, _, _, _, _, _⟩) (.int .i64 (e.v1.2.2.size : Nat)) (yt_lenB (by rfl) _ rfl e.v1.2.2 rfl) ?_
        simp only [Act.put, lzA, lzB, lzC]
        refine wl_yield (o := ⟨_, _, _, _, _, _⟩) (.int .i64 (e.v0.2.2.size + e.v1.2.2.size : Nat)) (yt_addI (by rfl) _ _ _ rfl (((e.v0.2.2.size : Nat) : Int)) (((e.v1.2.2.size : Nat) : Int)) (((e.v0.2.2.size + e.v1.2.2.size : Nat) : Int)) rfl rfl (by omega) (by omega) (by omega)) ?_
        simp only [Act.put, lzA, lzB, lzC]
        refine wl_yield (o := ⟨_, _, _, _, _, _⟩) (.pointer (some ⟨g1, 6, none⟩)) (yl_atEv (by rfl) _ _ rfl g1 2 rfl rfl (by omega)) ?_
        simp only [Act.put, lzA, lzB, lzC]
        refine wl_yield (o := ⟨_, _, _, _, _, _⟩) (.pointer (some ⟨g1, 8, none⟩)) (yt_fVa2 (by rfl) _ rfl g1 6 rfl) ?_
        simp only [Act.put, lzA, lzB, lzC]
        refine wl_yield (o := ⟨_, _, _, _, _, _⟩) (.string e.v2.2.2) (yt_ldS (by rfl) _ rfl _ _ rfl _ (fun _ h => by subst h; exact cell_heap G1 8)) ?_
        simp only [Act.put, lzA, lzB, lzC]
        refine wl_yield (o := ⟨_, _, _, _, _, _⟩) (.int .i64 (e.v2.2.2.size : Nat)) (yt_lenB (by rfl) _ rfl e.v2.2.2 rfl) ?_
        simp only [Act.put, lzA, lzB, lzC]
        refine wl_yield (o := ⟨_, _, _, _, _, _⟩) (.int .i64 (e.v0.2.2.size + e.v1.2.2.size + e.v2.2.2.size : Nat)) (yt_addI (by rfl) _ _ _ rfl (((e.v0.2.2.size + e.v1.2.2.size : Nat) : Int)) (((e.v2.2.2.size : Nat) : Int)) (((e.v0.2.2.size + e.v1.2.2.size + e.v2.2.2.size : Nat) : Int)) rfl rfl (by omega) (by omega) (by omega)) ?_
        simp only [Act.put, lzA, lzB, lzC]
        refine wl_yield (o := ⟨_, _, _, _, _, _⟩) (.pointer (some ⟨g1, 9, none⟩)) (yl_atEv (by rfl) _ _ rfl g1 3 rfl rfl (by omega)) ?_
        simp only [Act.put, lzA, lzB, lzC]
        refine wl_yield (o := ⟨_, _, _, _, _, _⟩) (.pointer (some ⟨g1, 11, none⟩)) (yt_fVa2 (by rfl) _ rfl g1 9 rfl) ?_
        simp only [Act.put, lzA, lzB, lzC]
        refine wl_yield (o := ⟨_, _, _, _, _, _⟩) (.string e.v3.2.2) (yt_ldS (by rfl) _ rfl _ _ rfl _ (fun _ h => by subst h; exact cell_heap G1 11)) ?_
        simp only [Act.put, lzA, lzB, lzC]
        refine wl_yield (o := ⟨_, _, _, _, _, _⟩) (.int .i64 (e.v3.2.2.size : Nat)) (yt_lenB (by rfl) _ rfl e.v3.2.2 rfl) ?_
        simp only [Act.put, lzA, lzB, lzC]
        refine wl_yield (o := ⟨_, _, _, _, _, _⟩) (.int .i64 (e.v0.2.2.size + e.v1.2.2.size + e.v2.2.2.size + e.v3.2.2.size : Nat)) (yt_addI (by rfl) _ _ _ rfl (((e.v0.2.2.size + e.v1.2.2.size + e.v2.2.2.size : Nat) : Int)) (((e.v3.2.2.size : Nat) : Int)) (((e.v0.2.2.size + e.v1.2.2.size + e.v2.2.2.size + e.v3.2.2.size : Nat) : Int)) rfl rfl (by omega) (by omega) (by omega)) ?_
        simp only [Act.put, lzA, lzB, lzC]
        refine wl_yield (o := ⟨_, _, _, _, _, _⟩) (.bool false) (yt_gtrI (by rfl) _ _ _ rfl (((e.v0.2.2.size + e.v1.2.2.size + e.v2.2.2.size + e.v3.2.2.size : Nat) : Int)) 300 false rfl rfl (decide_eq_false (by omega))) ?_
        simp only [Act.put, lzA, lzB, lzC]
        refine wl_yield (o := ⟨_, _, _, _, _, _⟩) (.bool false) (yl_pickF (by rfl) _ _ _ rfl rfl _ rfl) ?_
        simp only [Act.put, lzA, lzB, lzC]
        refine wpList_nil ?_
        refine hK3 _ _ ?_
        clear hK3 K3
        refine wp_cond_false rfl ?_
        refine wp_skip ?_
        refine hK2 _ _ ?_
        clear hK2 K2
        refine wp_seq_k (fun K4 hK4 => ?_)
        refine wp_region_lit ?_
        refine wl_yield (o := ⟨_, _, _, _, _, _⟩) (.string (bs l)) (yl_move (by rfl) _ rfl _ rfl) ?_
        simp only [Act.put, lzA, lzB, lzC]
        rcases hp : parseE l with _ | x1
        · have wf1 := wf_right evZ_right evZ_ok
          refine wt_call (o := ⟨_, _, _, _, _, _⟩) (by rfl) 10 _ _ rfl #[.string (bs l)] rfl (run_call Tryz.func10 (by kernel_rfl) (by kernel_rfl)) ?_
          refine (readEvent_any l _ HE (by omega)).mono ?_
          rintro r v3 (⟨⟨d, err, rfl, PA⟩, kb⟩)
          · rw [hp] at PA
            obtain ⟨rfl, hd⟩ := PA
            have hd := hd.symm
            subst hd
            replace D := grown_below D kb
            replace HE := HE.on kb
            replace G1 := heap_on G1 kb
            clear kb
            refine Or.inl ⟨.tuple #[evVal evZ, .int .i64 2], rfl, ?_⟩
            simp only [Act.put, lzA, lzB, lzC]
            refine wl_yield (o := ⟨_, _, _, _, _, _⟩) (.tuple #[evVal evZ, .int .i64 2]) (yl_move (by rfl) _ rfl _ rfl) ?_
            simp only [Act.put, lzA, lzB, lzC]
            refine wl_yield (o := ⟨_, _, _, _, _, _⟩) (evVal evZ) (yl_extract0 (by rfl) _ rfl _ _ rfl) ?_
            simp only [Act.put, lzA, lzB, lzC]
            refine wl_yield (o := ⟨_, _, _, _, _, _⟩) (.int .i64 2) (yl_extract1 (by rfl) _ rfl _ _ rfl) ?_
            simp only [Act.put, lzA, lzB, lzC]
            refine wt_newEv (o := ⟨_, _, _, _, _, _⟩) (o2 := ⟨_, _, _, _, _, _⟩) (by rfl) rfl _ _ rfl rfl (fun _ => rfl) (e := evZ) (fun _ => rfl) (fun v4 g4 G4 kb => ?_)
            simp only [Act.put, lzA, lzB, lzC]
            replace D := grown_below D kb
            replace HE := HE.on kb
            replace G1 := heap_on G1 kb
            clear kb
            replace G4 : v4.heap[g4]? = some (.cells #[.int .i64 (evZ.v0.1), .int .i64 (evZ.v0.2.1), .string evZ.v0.2.2, .int .i64 (evZ.v1.1), .int .i64 (evZ.v1.2.1), .string evZ.v1.2.2, .int .i64 (evZ.v2.1), .int .i64 (evZ.v2.2.1), .string evZ.v2.2.2, .int .i64 (evZ.v3.1), .int .i64 (evZ.v3.2.1), .string evZ.v3.2.2] 42 (0, 0)) := G4
            refine wl_yield (o := ⟨_, _, _, _, _, _⟩) (.int .i64 2) (yl_assign (by rfl) _ rfl _ rfl) ?_
            simp only [Act.put, lzA, lzB, lzC]
            refine wpList_nil ?_
            refine hK4 _ _ ?_
            clear hK4 K4
            refine wp_seq_k (fun K5 hK5 => ?_)
            refine wp_region_lit ?_
            refine wl_yield (o := ⟨_, _, _, _, _, _⟩) (.string (bs l)) (yl_move (by rfl) _ rfl _ rfl) ?_
            simp only [Act.put, lzA, lzB, lzC]
            refine wt_call (o := ⟨_, _, _, _, _, _⟩) (by rfl) 11 _ _ rfl #[.string (bs l)] rfl (run_call Tryz.func11 (by kernel_rfl) (by kernel_rfl)) ?_
            refine (refReadEvent7 l _ HE (by omega)).mono ?_
            rintro r v5 ⟨rfl, kb⟩
            replace D := grown_below D kb
            replace HE := HE.on kb
            replace G1 := heap_on G1 kb
            replace G4 := heap_on G4 kb
            clear kb
            refine Or.inl ⟨.tuple #[evVal evZ, .bool false], by rw [rfAns_eq, hp]; rfl, ?_⟩
            simp only [Act.put, lzA, lzB, lzC]
            refine wl_yield (o := ⟨_, _, _, _, _, _⟩) (.tuple #[evVal evZ, .bool false]) (yl_move (by rfl) _ rfl _ rfl) ?_
            simp only [Act.put, lzA, lzB, lzC]
            refine wl_yield (o := ⟨_, _, _, _, _, _⟩) (evVal evZ) (yl_extract0 (by rfl) _ rfl _ _ rfl) ?_
            simp only [Act.put, lzA, lzB, lzC]
            refine wl_yield (o := ⟨_, _, _, _, _, _⟩) (.bool false) (yl_extract1 (by rfl) _ rfl _ _ rfl) ?_
            simp only [Act.put, lzA, lzB, lzC]
            refine wt_newEv (o := ⟨_, _, _, _, _, _⟩) (o2 := ⟨_, _, _, _, _, _⟩) (by rfl) rfl _ _ rfl rfl (fun _ => rfl) (e := evZ) (fun _ => rfl) (fun v6 g6 G6 kb => ?_)
            simp only [Act.put, lzA, lzB, lzC]
            replace D := grown_below D kb
            replace HE := HE.on kb
            replace G1 := heap_on G1 kb
            replace G4 := heap_on G4 kb
            clear kb
            replace G6 : v6.heap[g6]? = some (.cells #[.int .i64 (evZ.v0.1), .int .i64 (evZ.v0.2.1), .string evZ.v0.2.2, .int .i64 (evZ.v1.1), .int .i64 (evZ.v1.2.1), .string evZ.v1.2.2, .int .i64 (evZ.v2.1), .int .i64 (evZ.v2.2.1), .string evZ.v2.2.2, .int .i64 (evZ.v3.1), .int .i64 (evZ.v3.2.1), .string evZ.v3.2.2] 42 (0, 0)) := G6
            refine wl_yield (o := ⟨_, _, _, _, _, _⟩) (.bool false) (yl_assign (by rfl) _ rfl _ rfl) ?_
            simp only [Act.put, lzA, lzB, lzC]
            refine wpList_nil ?_
            refine hK5 _ _ ?_
            clear hK5 K5
            refine wp_seq_k (fun K6 hK6 => ?_)
            refine wp_seq_k (fun K7 hK7 => ?_)
            refine wp_region_lit ?_
            refine wl_yield (o := ⟨_, _, _, _, _, _⟩) (evVal evZ) (yl_ev (by rfl) _ rfl _ 0 rfl _ _ _ _ _ _ _ _ _ _ _ _ (fun _ h => by subst h; exact ⟨cell_heap G4 0, cell_heap G4 1, cell_heap G4 2, cell_heap G4 3, cell_heap G4 4, cell_heap G4 5, cell_heap G4 6, cell_heap G4 7, cell_heap G4 8, cell_heap G4 9, cell_heap G4 10, cell_heap G4 11⟩)) ?_
            simp only [Act.put, lzA, lzB, lzC]
            refine wl_yield (o := ⟨_, _, _, _, _, _⟩) (evVal evZ) (yl_ev (by rfl) _ rfl _ 0 rfl _ _ _ _ _ _ _ _ _ _ _ _ (fun _ h => by subst h; exact ⟨cell_heap G6 0, cell_heap G6 1, cell_heap G6 2, cell_heap G6 3, cell_heap G6 4, cell_heap G6 5, cell_heap G6 6, cell_heap G6 7, cell_heap G6 8, cell_heap G6 9, cell_heap G6 10, cell_heap G6 11⟩)) ?_
            simp only [Act.put, lzA, lzB, lzC]
            refine wl_yield (o := ⟨_, _, _, _, _, _⟩) (.bool false) (yt_neqEv (by rfl) _ _ _ rfl evZ evZ wf1 wf1 false rfl rfl (by simp)) ?_
            simp only [Act.put, lzA, lzB, lzC]
            refine wl_yield (o := ⟨_, _, _, _, _, _⟩) (.bool false) (yl_move (by rfl) _ rfl _ rfl) ?_
            simp only [Act.put, lzA, lzB, lzC]
            refine wl_yield (o := ⟨_, _, _, _, _, _⟩) (.int .i64 2) (yl_move (by rfl) _ rfl _ rfl) ?_
            simp only [Act.put, lzA, lzB, lzC]
            refine wl_yield (o := ⟨_, _, _, _, _, _⟩) (.bool false) (yt_eqlE (by rfl) _ _ _ rfl 2 0 false rfl rfl (by decide)) ?_
            simp only [Act.put, lzA, lzB, lzC]
            refine wl_yield (o := ⟨_, _, _, _, _, _⟩) (.bool false) (yl_move (by rfl) _ rfl _ rfl) ?_
            simp only [Act.put, lzA, lzB, lzC]
            refine wl_yield (o := ⟨_, _, _, _, _, _⟩) (.bool false) (yl_neqB (by rfl) _ _ _ rfl false false rfl rfl) ?_
            simp only [Act.put, lzA, lzB, lzC]
            refine wl_yield (o := ⟨_, _, _, _, _, _⟩) (.bool false) (yl_pickF (by rfl) _ _ _ rfl rfl _ rfl) ?_
            simp only [Act.put, lzA, lzB, lzC]
            refine wl_yield (o := ⟨_, _, _, _, _, _⟩) (.bool false) (yl_move (by rfl) _ rfl _ rfl) ?_
            simp only [Act.put, lzA, lzB, lzC]
            refine wl_yield (o := ⟨_, _, _, _, _, _⟩) (.bool false) (yl_move (by rfl) _ rfl _ rfl) ?_
            simp only [Act.put, lzA, lzB, lzC]
            refine wl_yield (o := ⟨_, _, _, _, _, _⟩) (.bool true) (yl_not (by rfl) _ _ rfl false rfl) ?_
            simp only [Act.put, lzA, lzB, lzC]
            refine wl_yield (o := ⟨_, _, _, _, _, _⟩) (.bool true) (yl_move (by rfl) _ rfl _ rfl) ?_
            simp only [Act.put, lzA, lzB, lzC]
            refine wl_yield (o := ⟨_, _, _, _, _, _⟩) (.int .i64 2) (yl_move (by rfl) _ rfl _ rfl) ?_
            simp only [Act.put, lzA, lzB, lzC]
            refine wl_yield (o := ⟨_, _, _, _, _, _⟩) (.bool false) (yt_neqE (by rfl) _ _ _ rfl 2 2 false rfl rfl (by decide)) ?_
            simp only [Act.put, lzA, lzB, lzC]
            refine wl_yield (o := ⟨_, _, _, _, _, _⟩) (.bool false) (yl_pickT (by rfl) _ _ _ rfl rfl _ rfl) ?_
            simp only [Act.put, lzA, lzB, lzC]
            refine wl_yield (o := ⟨_, _, _, _, _, _⟩) (.bool false) (yl_pickF (by rfl) _ _ _ rfl rfl _ rfl) ?_
            simp only [Act.put, lzA, lzB, lzC]
            refine wpList_nil ?_
            refine hK7 _ _ ?_
            clear hK7 K7
            refine wp_cond_false rfl ?_
            refine wp_skip ?_
            refine hK6 _ _ ?_
            clear hK6 K6
            refine wp_seq_k (fun K8 hK8 => ?_)
            refine wp_region_lit ?_
            refine wl_yield (o := ⟨_, _, _, _, _, _⟩) (evVal e) (yl_ev (by rfl) _ rfl _ 0 rfl _ _ _ _ _ _ _ _ _ _ _ _ (fun _ h => by subst h; exact ⟨cell_heap G1 0, cell_heap G1 1, cell_heap G1 2, cell_heap G1 3, cell_heap G1 4, cell_heap G1 5, cell_heap G1 6, cell_heap G1 7, cell_heap G1 8, cell_heap G1 9, cell_heap G1 10, cell_heap G1 11⟩)) ?_
            simp only [Act.put, lzA, lzB, lzC]
            cases hr : rightE e
            · refine wt_call (o := ⟨_, _, _, _, _, _⟩) (by rfl) 12 _ _ rfl #[evVal e] rfl (run_call Tryz.func12 (by kernel_rfl) (by kernel_rfl)) ?_
              refine (eventText_any e _ HE hf hi).mono ?_
              rintro r v7 ⟨rfl, kb⟩
              replace D := grown_below D kb
              replace HE := HE.on kb
              replace G1 := heap_on G1 kb
              replace G4 := heap_on G4 kb
              replace G6 := heap_on G6 kb
              clear kb
              refine Or.inl ⟨.tuple #[.string (bs ([])), .int .i64 1], by unfold evR; rw [hr]; rfl, ?_⟩
              simp only [Act.put, lzA, lzB, lzC]
              refine wl_yield (o := ⟨_, _, _, _, _, _⟩) (.tuple #[.string (bs ([])), .int .i64 1]) (yl_move (by rfl) _ rfl _ rfl) ?_
              simp only [Act.put, lzA, lzB, lzC]
              refine wl_yield (o := ⟨_, _, _, _, _, _⟩) (.string (bs ([]))) (yl_extract0 (by rfl) _ rfl _ _ rfl) ?_
              simp only [Act.put, lzA, lzB, lzC]
              refine wl_yield (o := ⟨_, _, _, _, _, _⟩) (.int .i64 1) (yl_extract1 (by rfl) _ rfl _ _ rfl) ?_
              simp only [Act.put, lzA, lzB, lzC]
              refine wl_yield (o := ⟨_, _, _, _, _, _⟩) (.string (bs ([]))) (yl_assign (by rfl) _ rfl _ rfl) ?_
              simp only [Act.put, lzA, lzB, lzC]
              refine wl_yield (o := ⟨_, _, _, _, _, _⟩) (.int .i64 1) (yl_assign (by rfl) _ rfl _ rfl) ?_
              simp only [Act.put, lzA, lzB, lzC]
              refine wpList_nil ?_
              refine hK8 _ _ ?_
              clear hK8 K8
              refine wp_seq_k (fun K9 hK9 => ?_)
              refine wp_seq_k (fun K10 hK10 => ?_)
              refine wp_region_lit ?_
              refine wl_yield (o := ⟨_, _, _, _, _, _⟩) (evVal e) (yl_ev (by rfl) _ rfl _ 0 rfl _ _ _ _ _ _ _ _ _ _ _ _ (fun _ h => by subst h; exact ⟨cell_heap G1 0, cell_heap G1 1, cell_heap G1 2, cell_heap G1 3, cell_heap G1 4, cell_heap G1 5, cell_heap G1 6, cell_heap G1 7, cell_heap G1 8, cell_heap G1 9, cell_heap G1 10, cell_heap G1 11⟩)) ?_
              simp only [Act.put, lzA, lzB, lzC]
              refine wt_call (o := ⟨_, _, _, _, _, _⟩) (by rfl) 13 _ _ rfl #[evVal e] rfl (run_call Tryz.func13 (by kernel_rfl) (by kernel_rfl)) ?_
              refine (refEvent_any e _ hf).mono ?_
              rintro r v8 ⟨rfl, kb⟩
              replace D := grown_below D kb
              replace HE := HE.on kb
              replace G1 := heap_on G1 kb
              replace G4 := heap_on G4 kb
              replace G6 := heap_on G6 kb
              clear kb
              refine Or.inl ⟨.bool false, by rw [hr], ?_⟩
              simp only [Act.put, lzA, lzB, lzC]
              refine wl_yield (o := ⟨_, _, _, _, _, _⟩) (.bool true) (yl_not (by rfl) _ _ rfl false rfl) ?_
              simp only [Act.put, lzA, lzB, lzC]
              refine wpList_nil ?_
              refine hK10 _ _ ?_
              clear hK10 K10
              refine wp_cond_true rfl ?_
              refine wp_seq_k (fun K11 hK11 => ?_)
              refine wp_region_lit ?_
              refine wl_yield (o := ⟨_, _, _, _, _, _⟩) (.string (bs ([]))) (yl_move (by rfl) _ rfl _ rfl) ?_
              simp only [Act.put, lzA, lzB, lzC]
              refine wl_yield (o := ⟨_, _, _, _, _, _⟩) (.bool true) (yt_eqS (by rfl) _ _ _ rfl ([]) ([]) true rfl rfl (by decide)) ?_
              simp only [Act.put, lzA, lzB, lzC]
              refine wl_yield (o := ⟨_, _, _, _, _, _⟩) (.bool true) (yl_move (by rfl) _ rfl _ rfl) ?_
              simp only [Act.put, lzA, lzB, lzC]
              refine wl_yield (o := ⟨_, _, _, _, _, _⟩) (.int .i64 1) (yl_move (by rfl) _ rfl _ rfl) ?_
              simp only [Act.put, lzA, lzB, lzC]
              refine wl_yield (o := ⟨_, _, _, _, _, _⟩) (.bool true) (yt_eqlE (by rfl) _ _ _ rfl 1 1 true rfl rfl (by decide)) ?_
              simp only [Act.put, lzA, lzB, lzC]
              refine wl_yield (o := ⟨_, _, _, _, _, _⟩) (.bool true) (yl_pickT (by rfl) _ _ _ rfl rfl _ rfl) ?_
              simp only [Act.put, lzA, lzB, lzC]
              refine wl_yield (o := ⟨_, _, _, _, _, _⟩) (.bool true) (yl_assign (by rfl) _ rfl _ rfl) ?_
              simp only [Act.put, lzA, lzB, lzC]
              refine wpList_nil ?_
              refine hK11 _ _ ?_
              clear hK11 K11
              refine wp_ret ?_
              go_ret
              exact ⟨rfl, below_none D⟩
            · refine wt_call (o := ⟨_, _, _, _, _, _⟩) (by rfl) 12 _ _ rfl #[evVal e] rfl (run_call Tryz.func12 (by kernel_rfl) (by kernel_rfl)) ?_
              refine (eventText_any e _ HE hf hi).mono ?_
              rintro r v7 ⟨rfl, kb⟩
              replace D := grown_below D kb
              replace HE := HE.on kb
              replace G1 := heap_on G1 kb
              replace G4 := heap_on G4 kb
              replace G6 := heap_on G6 kb
              clear kb
              refine Or.inl ⟨.tuple #[.string (bs (evTxt e)), .int .i64 0], by unfold evR; rw [hr]; rfl, ?_⟩
              simp only [Act.put, lzA, lzB, lzC]
              refine wl_yield (o := ⟨_, _, _, _, _, _⟩) (.tuple #[.string (bs (evTxt e)), .int .i64 0]) (yl_move (by rfl) _ rfl _ rfl) ?_
              simp only [Act.put, lzA, lzB, lzC]
              refine wl_yield (o := ⟨_, _, _, _, _, _⟩) (.string (bs (evTxt e))) (yl_extract0 (by rfl) _ rfl _ _ rfl) ?_
              simp only [Act.put, lzA, lzB, lzC]
              refine wl_yield (o := ⟨_, _, _, _, _, _⟩) (.int .i64 0) (yl_extract1 (by rfl) _ rfl _ _ rfl) ?_
              simp only [Act.put, lzA, lzB, lzC]
              refine wl_yield (o := ⟨_, _, _, _, _, _⟩) (.string (bs (evTxt e))) (yl_assign (by rfl) _ rfl _ rfl) ?_
              simp only [Act.put, lzA, lzB, lzC]
              refine wl_yield (o := ⟨_, _, _, _, _, _⟩) (.int .i64 0) (yl_assign (by rfl) _ rfl _ rfl) ?_
              simp only [Act.put, lzA, lzB, lzC]
              refine wpList_nil ?_
              refine hK8 _ _ ?_
              clear hK8 K8
              refine wp_seq_k (fun K9 hK9 => ?_)
              refine wp_seq_k (fun K10 hK10 => ?_)
              refine wp_region_lit ?_
              refine wl_yield (o := ⟨_, _, _, _, _, _⟩) (evVal e) (yl_ev (by rfl) _ rfl _ 0 rfl _ _ _ _ _ _ _ _ _ _ _ _ (fun _ h => by subst h; exact ⟨cell_heap G1 0, cell_heap G1 1, cell_heap G1 2, cell_heap G1 3, cell_heap G1 4, cell_heap G1 5, cell_heap G1 6, cell_heap G1 7, cell_heap G1 8, cell_heap G1 9, cell_heap G1 10, cell_heap G1 11⟩)) ?_
              simp only [Act.put, lzA, lzB, lzC]
              refine wt_call (o := ⟨_, _, _, _, _, _⟩) (by rfl) 13 _ _ rfl #[evVal e] rfl (run_call Tryz.func13 (by kernel_rfl) (by kernel_rfl)) ?_
              refine (refEvent_any e _ hf).mono ?_
              rintro r v8 ⟨rfl, kb⟩
              replace D := grown_below D kb
              replace HE := HE.on kb
              replace G1 := heap_on G1 kb
              replace G4 := heap_on G4 kb
              replace G6 := heap_on G6 kb
              clear kb
              refine Or.inl ⟨.bool true, by rw [hr], ?_⟩
              simp only [Act.put, lzA, lzB, lzC]
              refine wl_yield (o := ⟨_, _, _, _, _, _⟩) (.bool false) (yl_not (by rfl) _ _ rfl true rfl) ?_
              simp only [Act.put, lzA, lzB, lzC]
              refine wpList_nil ?_
              refine hK10 _ _ ?_
              clear hK10 K10
              refine wp_cond_false rfl ?_
              refine wp_skip ?_
              refine hK9 _ _ ?_
              clear hK9 K9
              refine wp_seq_k (fun K11 hK11 => ?_)
              refine wp_region_lit ?_
              refine wl_yield (o := ⟨_, _, _, _, _, _⟩) (.string (bs (evTxt e))) (yl_move (by rfl) _ rfl _ rfl) ?_
              simp only [Act.put, lzA, lzB, lzC]
              refine wt_call (o := ⟨_, _, _, _, _, _⟩) (by rfl) 10 _ _ rfl #[.string (bs (evTxt e))] rfl (run_call Tryz.func10 (by kernel_rfl) (by kernel_rfl)) ?_
              refine (readEvent_any (evTxt e) _ HE (evTxt_len hr hi)).mono ?_
              rintro r v9 (⟨⟨d, err, rfl, PA⟩, kb⟩)
              · rw [parseE_txt hr hi] at PA
                obtain ⟨rfl, hd⟩ := PA
                have hd := hd.symm
                subst hd
                replace D := grown_below D kb
                replace HE := HE.on kb
                replace G1 := heap_on G1 kb
                replace G4 := heap_on G4 kb
                replace G6 := heap_on G6 kb
                clear kb
                refine Or.inl ⟨.tuple #[evVal e, .int .i64 0], rfl, ?_⟩
                simp only [Act.put, lzA, lzB, lzC]
                refine wl_yield (o := ⟨_, _, _, _, _, _⟩) (.tuple #[evVal e, .int .i64 0]) (yl_move (by rfl) _ rfl _ rfl) ?_
                simp only [Act.put, lzA, lzB, lzC]
                refine wl_yield (o := ⟨_, _, _, _, _, _⟩) (evVal e) (yl_extract0 (by rfl) _ rfl _ _ rfl) ?_
                simp only [Act.put, lzA, lzB, lzC]
                refine wl_yield (o := ⟨_, _, _, _, _, _⟩) (.int .i64 0) (yl_extract1 (by rfl) _ rfl _ _ rfl) ?_
                simp only [Act.put, lzA, lzB, lzC]
                refine wt_newEv (o := ⟨_, _, _, _, _, _⟩) (o2 := ⟨_, _, _, _, _, _⟩) (by rfl) rfl _ _ rfl rfl (fun _ => rfl) (e := e) (fun _ => rfl) (fun v10 g10 G10 kb => ?_)
                simp only [Act.put, lzA, lzB, lzC]
                replace D := grown_below D kb
                replace HE := HE.on kb
                replace G1 := heap_on G1 kb
                replace G4 := heap_on G4 kb
                replace G6 := heap_on G6 kb
                clear kb
                replace G10 : v10.heap[g10]? = some (.cells #[.int .i64 (e.v0.1), .int .i64 (e.v0.2.1), .string e.v0.2.2, .int .i64 (e.v1.1), .int .i64 (e.v1.2.1), .string e.v1.2.2, .int .i64 (e.v2.1), .int .i64 (e.v2.2.1), .string e.v2.2.2, .int .i64 (e.v3.1), .int .i64 (e.v3.2.1), .string e.v3.2.2] 42 (0, 0)) := G10
                refine wl_yield (o := ⟨_, _, _, _, _, _⟩) (.int .i64 0) (yl_assign (by rfl) _ rfl _ rfl) ?_
                simp only [Act.put, lzA, lzB, lzC]
                refine wpList_nil ?_
                refine hK11 _ _ ?_
                clear hK11 K11
                refine wp_seq_k (fun K12 hK12 => ?_)
                refine wp_region_lit ?_
                refine wl_yield (o := ⟨_, _, _, _, _, _⟩) (.string (bs (evTxt e))) (yl_move (by rfl) _ rfl _ rfl) ?_
                simp only [Act.put, lzA, lzB, lzC]
                refine wl_yield (o := ⟨_, _, _, _, _, _⟩) (evVal e) (yl_ev (by rfl) _ rfl _ 0 rfl _ _ _ _ _ _ _ _ _ _ _ _ (fun _ h => by subst h; exact ⟨cell_heap G1 0, cell_heap G1 1, cell_heap G1 2, cell_heap G1 3, cell_heap G1 4, cell_heap G1 5, cell_heap G1 6, cell_heap G1 7, cell_heap G1 8, cell_heap G1 9, cell_heap G1 10, cell_heap G1 11⟩)) ?_
                simp only [Act.put, lzA, lzB, lzC]
                refine wt_call (o := ⟨_, _, _, _, _, _⟩) (by rfl) 14 _ _ rfl #[evVal e] rfl (run_call Tryz.func14 (by kernel_rfl) (by kernel_rfl)) ?_
                refine (refEvent7 e _ HE hf hi hr).mono ?_
                rintro r v11 ⟨rfl, kb⟩
                replace D := grown_below D kb
                replace HE := HE.on kb
                replace G1 := heap_on G1 kb
                replace G4 := heap_on G4 kb
                replace G6 := heap_on G6 kb
                replace G10 := heap_on G10 kb
                clear kb
                refine Or.inl ⟨.string (bs (evTxt e)), rfl, ?_⟩
                simp only [Act.put, lzA, lzB, lzC]
                refine wl_yield (o := ⟨_, _, _, _, _, _⟩) (.bool true) (yt_eqS (by rfl) _ _ _ rfl (evTxt e) (evTxt e) true rfl rfl (by simp)) ?_
                simp only [Act.put, lzA, lzB, lzC]
                refine wl_yield (o := ⟨_, _, _, _, _, _⟩) (.bool true) (yl_move (by rfl) _ rfl _ rfl) ?_
                simp only [Act.put, lzA, lzB, lzC]
                refine wl_yield (o := ⟨_, _, _, _, _, _⟩) (.int .i64 0) (yl_move (by rfl) _ rfl _ rfl) ?_
                simp only [Act.put, lzA, lzB, lzC]
                refine wl_yield (o := ⟨_, _, _, _, _, _⟩) (.bool true) (yt_eqlE (by rfl) _ _ _ rfl 0 0 true rfl rfl (by decide)) ?_
                simp only [Act.put, lzA, lzB, lzC]
                refine wl_yield (o := ⟨_, _, _, _, _, _⟩) (.bool true) (yl_pickT (by rfl) _ _ _ rfl rfl _ rfl) ?_
                simp only [Act.put, lzA, lzB, lzC]
                refine wl_yield (o := ⟨_, _, _, _, _, _⟩) (.bool true) (yl_move (by rfl) _ rfl _ rfl) ?_
                simp only [Act.put, lzA, lzB, lzC]
                refine wl_yield (o := ⟨_, _, _, _, _, _⟩) (evVal e) (yl_ev (by rfl) _ rfl _ 0 rfl _ _ _ _ _ _ _ _ _ _ _ _ (fun _ h => by subst h; exact ⟨cell_heap G10 0, cell_heap G10 1, cell_heap G10 2, cell_heap G10 3, cell_heap G10 4, cell_heap G10 5, cell_heap G10 6, cell_heap G10 7, cell_heap G10 8, cell_heap G10 9, cell_heap G10 10, cell_heap G10 11⟩)) ?_
                simp only [Act.put, lzA, lzB, lzC]
                refine wl_yield (o := ⟨_, _, _, _, _, _⟩) (evVal e) (yl_ev (by rfl) _ rfl _ 0 rfl _ _ _ _ _ _ _ _ _ _ _ _ (fun _ h => by subst h; exact ⟨cell_heap G1 0, cell_heap G1 1, cell_heap G1 2, cell_heap G1 3, cell_heap G1 4, cell_heap G1 5, cell_heap G1 6, cell_heap G1 7, cell_heap G1 8, cell_heap G1 9, cell_heap G1 10, cell_heap G1 11⟩)) ?_
                simp only [Act.put, lzA, lzB, lzC]
                refine wl_yield (o := ⟨_, _, _, _, _, _⟩) (.bool true) (yt_eqEv (by rfl) _ _ _ rfl e e (wf_right hr ⟨hf, hi⟩) (wf_right hr ⟨hf, hi⟩) true rfl rfl (by simp)) ?_
                simp only [Act.put, lzA, lzB, lzC]
                refine wl_yield (o := ⟨_, _, _, _, _, _⟩) (.bool true) (yl_pickT (by rfl) _ _ _ rfl rfl _ rfl) ?_
                simp only [Act.put, lzA, lzB, lzC]
                refine wl_yield (o := ⟨_, _, _, _, _, _⟩) (.bool true) (yl_move (by rfl) _ rfl _ rfl) ?_
                simp only [Act.put, lzA, lzB, lzC]
                refine wl_yield (o := ⟨_, _, _, _, _, _⟩) (.int .i64 0) (yl_move (by rfl) _ rfl _ rfl) ?_
                simp only [Act.put, lzA, lzB, lzC]
                refine wl_yield (o := ⟨_, _, _, _, _, _⟩) (.bool true) (yt_eqlE (by rfl) _ _ _ rfl 0 0 true rfl rfl (by decide)) ?_
                simp only [Act.put, lzA, lzB, lzC]
                refine wl_yield (o := ⟨_, _, _, _, _, _⟩) (.bool true) (yl_pickT (by rfl) _ _ _ rfl rfl _ rfl) ?_
                simp only [Act.put, lzA, lzB, lzC]
                refine wl_yield (o := ⟨_, _, _, _, _, _⟩) (.bool true) (yl_assign (by rfl) _ rfl _ rfl) ?_
                simp only [Act.put, lzA, lzB, lzC]
                refine wpList_nil ?_
                refine hK12 _ _ ?_
                clear hK12 K12
                refine wp_ret ?_
                go_ret
                exact ⟨rfl, below_none D⟩
        · have wf1 := wf_right (okE_parse hp).1 (okE_parse hp).2
          refine wt_call (o := ⟨_, _, _, _, _, _⟩) (by rfl) 10 _ _ rfl #[.string (bs l)] rfl (run_call Tryz.func10 (by kernel_rfl) (by kernel_rfl)) ?_
          refine (readEvent_any l _ HE (by omega)).mono ?_
          rintro r v3 (⟨⟨d, err, rfl, PA⟩, kb⟩)
          · rw [hp] at PA
            obtain ⟨rfl, hd⟩ := PA
            have hd := hd.symm
            subst hd
            replace D := grown_below D kb
            replace HE := HE.on kb
            replace G1 := heap_on G1 kb
            clear kb
            refine Or.inl ⟨.tuple #[evVal x1, .int .i64 0], rfl, ?_⟩
            simp only [Act.put, lzA, lzB, lzC]
            refine wl_yield (o := ⟨_, _, _, _, _, _⟩) (.tuple #[evVal x1, .int .i64 0]) (yl_move (by rfl) _ rfl _ rfl) ?_
            simp only [Act.put, lzA, lzB, lzC]
            refine wl_yield (o := ⟨_, _, _, _, _, _⟩) (evVal x1) (yl_extract0 (by rfl) _ rfl _ _ rfl) ?_
            simp only [Act.put, lzA, lzB, lzC]
            refine wl_yield (o := ⟨_, _, _, _, _, _⟩) (.int .i64 0) (yl_extract1 (by rfl) _ rfl _ _ rfl) ?_
            simp only [Act.put, lzA, lzB, lzC]
            refine wt_newEv (o := ⟨_, _, _, _, _, _⟩) (o2 := ⟨_, _, _, _, _, _⟩) (by rfl) rfl _ _ rfl rfl (fun _ => rfl) (e := x1) (fun _ => rfl) (fun v4 g4 G4 kb => ?_)
            simp only [Act.put, lzA, lzB, lzC]
            replace D := grown_below D kb
            replace HE := HE.on kb
            replace G1 := heap_on G1 kb
            clear kb
            replace G4 : v4.heap[g4]? = some (.cells #[.int .i64 (x1.v0.1), .int .i64 (x1.v0.2.1), .string x1.v0.2.2, .int .i64 (x1.v1.1), .int .i64 (x1.v1.2.1), .string x1.v1.2.2, .int .i64 (x1.v2.1), .int .i64 (x1.v2.2.1), .string x1.v2.2.2, .int .i64 (x1.v3.1), .int .i64 (x1.v3.2.1), .string x1.v3.2.2] 42 (0, 0)) := G4
            refine wl_yield (o := ⟨_, _, _, _, _, _⟩) (.int .i64 0) (yl_assign (by rfl) _ rfl _ rfl) ?_
            simp only [Act.put, lzA, lzB, lzC]
            refine wpList_nil ?_
            refine hK4 _ _ ?_
            clear hK4 K4
            refine wp_seq_k (fun K5 hK5 => ?_)
            refine wp_region_lit ?_
            refine wl_yield (o := ⟨_, _, _, _, _, _⟩) (.string (bs l)) (yl_move (by rfl) _ rfl _ rfl) ?_
            simp only [Act.put, lzA, lzB, lzC]
            refine wt_call (o := ⟨_, _, _, _, _, _⟩) (by rfl) 11 _ _ rfl #[.string (bs l)] rfl (run_call Tryz.func11 (by kernel_rfl) (by kernel_rfl)) ?_
            refine (refReadEvent7 l _ HE (by omega)).mono ?_
            rintro r v5 ⟨rfl, kb⟩
            replace D := grown_below D kb
            replace HE := HE.on kb
            replace G1 := heap_on G1 kb
            replace G4 := heap_on G4 kb
            clear kb
            refine Or.inl ⟨.tuple #[evVal x1, .bool true], by rw [rfAns_eq, hp]; rfl, ?_⟩
            simp only [Act.put, lzA, lzB, lzC]
            refine wl_yield (o := ⟨_, _, _, _, _, _⟩) (.tuple #[evVal x1, .bool true]) (yl_move (by rfl) _ rfl _ rfl) ?_
            simp only [Act.put, lzA, lzB, lzC]
            refine wl_yield (o := ⟨_, _, _, _, _, _⟩) (evVal x1) (yl_extract0 (by rfl) _ rfl _ _ rfl) ?_
            simp only [Act.put, lzA, lzB, lzC]
            refine wl_yield (o := ⟨_, _, _, _, _, _⟩) (.bool true) (yl_extract1 (by rfl) _ rfl _ _ rfl) ?_
            simp only [Act.put, lzA, lzB, lzC]
            refine wt_newEv (o := ⟨_, _, _, _, _, _⟩) (o2 := ⟨_, _, _, _, _, _⟩) (by rfl) rfl _ _ rfl rfl (fun _ => rfl) (e := x1) (fun _ => rfl) (fun v6 g6 G6 kb => ?_)
            simp only [Act.put, lzA, lzB, lzC]
            replace D := grown_below D kb
            replace HE := HE.on kb
            replace G1 := heap_on G1 kb
            replace G4 := heap_on G4 kb
            clear kb
            replace G6 : v6.heap[g6]? = some (.cells #[.int .i64 (x1.v0.1), .int .i64 (x1.v0.2.1), .string x1.v0.2.2, .int .i64 (x1.v1.1), .int .i64 (x1.v1.2.1), .string x1.v1.2.2, .int .i64 (x1.v2.1), .int .i64 (x1.v2.2.1), .string x1.v2.2.2, .int .i64 (x1.v3.1), .int .i64 (x1.v3.2.1), .string x1.v3.2.2] 42 (0, 0)) := G6
            refine wl_yield (o := ⟨_, _, _, _, _, _⟩) (.bool true) (yl_assign (by rfl) _ rfl _ rfl) ?_
            simp only [Act.put, lzA, lzB, lzC]
            refine wpList_nil ?_
            refine hK5 _ _ ?_
            clear hK5 K5
            refine wp_seq_k (fun K6 hK6 => ?_)
            refine wp_seq_k (fun K7 hK7 => ?_)
            refine wp_region_lit ?_
            refine wl_yield (o := ⟨_, _, _, _, _, _⟩) (evVal x1) (yl_ev (by rfl) _ rfl _ 0 rfl _ _ _ _ _ _ _ _ _ _ _ _ (fun _ h => by subst h; exact ⟨cell_heap G4 0, cell_heap G4 1, cell_heap G4 2, cell_heap G4 3, cell_heap G4 4, cell_heap G4 5, cell_heap G4 6, cell_heap G4 7, cell_heap G4 8, cell_heap G4 9, cell_heap G4 10, cell_heap G4 11⟩)) ?_
            simp only [Act.put, lzA, lzB, lzC]
            refine wl_yield (o := ⟨_, _, _, _, _, _⟩) (evVal x1) (yl_ev (by rfl) _ rfl _ 0 rfl _ _ _ _ _ _ _ _ _ _ _ _ (fun _ h => by subst h; exact ⟨cell_heap G6 0, cell_heap G6 1, cell_heap G6 2, cell_heap G6 3, cell_heap G6 4, cell_heap G6 5, cell_heap G6 6, cell_heap G6 7, cell_heap G6 8, cell_heap G6 9, cell_heap G6 10, cell_heap G6 11⟩)) ?_
            simp only [Act.put, lzA, lzB, lzC]
            refine wl_yield (o := ⟨_, _, _, _, _, _⟩) (.bool false) (yt_neqEv (by rfl) _ _ _ rfl x1 x1 wf1 wf1 false rfl rfl (by simp)) ?_
            simp only [Act.put, lzA, lzB, lzC]
            refine wl_yield (o := ⟨_, _, _, _, _, _⟩) (.bool false) (yl_move (by rfl) _ rfl _ rfl) ?_
            simp only [Act.put, lzA, lzB, lzC]
            refine wl_yield (o := ⟨_, _, _, _, _, _⟩) (.int .i64 0) (yl_move (by rfl) _ rfl _ rfl) ?_
            simp only [Act.put, lzA, lzB, lzC]
            refine wl_yield (o := ⟨_, _, _, _, _, _⟩) (.bool true) (yt_eqlE (by rfl) _ _ _ rfl 0 0 true rfl rfl (by decide)) ?_
            simp only [Act.put, lzA, lzB, lzC]
            refine wl_yield (o := ⟨_, _, _, _, _, _⟩) (.bool true) (yl_move (by rfl) _ rfl _ rfl) ?_
            simp only [Act.put, lzA, lzB, lzC]
            refine wl_yield (o := ⟨_, _, _, _, _, _⟩) (.bool false) (yl_neqB (by rfl) _ _ _ rfl true true rfl rfl) ?_
            simp only [Act.put, lzA, lzB, lzC]
            refine wl_yield (o := ⟨_, _, _, _, _, _⟩) (.bool false) (yl_pickF (by rfl) _ _ _ rfl rfl _ rfl) ?_
            simp only [Act.put, lzA, lzB, lzC]
            refine wl_yield (o := ⟨_, _, _, _, _, _⟩) (.bool false) (yl_move (by rfl) _ rfl _ rfl) ?_
            simp only [Act.put, lzA, lzB, lzC]
            refine wl_yield (o := ⟨_, _, _, _, _, _⟩) (.bool true) (yl_move (by rfl) _ rfl _ rfl) ?_
            simp only [Act.put, lzA, lzB, lzC]
            refine wl_yield (o := ⟨_, _, _, _, _, _⟩) (.bool false) (yl_not (by rfl) _ _ rfl true rfl) ?_
            simp only [Act.put, lzA, lzB, lzC]
            refine wl_yield (o := ⟨_, _, _, _, _, _⟩) (.bool false) (yl_move (by rfl) _ rfl _ rfl) ?_
            simp only [Act.put, lzA, lzB, lzC]
            with_reducible refine wl_yield (o := ⟨_, _, _, _, _, _⟩) undef (yl_undef (by kernel_rfl)) ?_
            simp only [Act.put, lzA, lzB, lzC]
            with_reducible refine wl_yield (o := ⟨_, _, _, _, _, _⟩) undef (yl_undef (by kernel_rfl)) ?_
            simp only [Act.put, lzA, lzB, lzC]
            refine wl_yield (o := ⟨_, _, _, _, _, _⟩) (.bool false) (yl_pickF (by rfl) _ _ _ rfl rfl _ rfl) ?_
            simp only [Act.put, lzA, lzB, lzC]
            refine wl_yield (o := ⟨_, _, _, _, _, _⟩) (.bool false) (yl_pickF (by rfl) _ _ _ rfl rfl _ rfl) ?_
            simp only [Act.put, lzA, lzB, lzC]
            refine wpList_nil ?_
            refine hK7 _ _ ?_
            clear hK7 K7
            refine wp_cond_false rfl ?_
            refine wp_skip ?_
            refine hK6 _ _ ?_
            clear hK6 K6
            refine wp_seq_k (fun K8 hK8 => ?_)
            refine wp_region_lit ?_
            refine wl_yield (o := ⟨_, _, _, _, _, _⟩) (evVal e) (yl_ev (by rfl) _ rfl _ 0 rfl _ _ _ _ _ _ _ _ _ _ _ _ (fun _ h => by subst h; exact ⟨cell_heap G1 0, cell_heap G1 1, cell_heap G1 2, cell_heap G1 3, cell_heap G1 4, cell_heap G1 5, cell_heap G1 6, cell_heap G1 7, cell_heap G1 8, cell_heap G1 9, cell_heap G1 10, cell_heap G1 11⟩)) ?_
            simp only [Act.put, lzA, lzB, lzC]
            cases hr : rightE e
            · refine wt_call (o := ⟨_, _, _, _, _, _⟩) (by rfl) 12 _ _ rfl #[evVal e] rfl (run_call Tryz.func12 (by kernel_rfl) (by kernel_rfl)) ?_
              refine (eventText_any e _ HE hf hi).mono ?_
              rintro r v7 ⟨rfl, kb⟩
              replace D := grown_below D kb
              replace HE := HE.on kb
              replace G1 := heap_on G1 kb
              replace G4 := heap_on G4 kb
              replace G6 := heap_on G6 kb
              clear kb
              refine Or.inl ⟨.tuple #[.string (bs ([])), .int .i64 1], by unfold evR; rw [hr]; rfl, ?_⟩
              simp only [Act.put, lzA, lzB, lzC]
              refine wl_yield (o := ⟨_, _, _, _, _, _⟩) (.tuple #[.string (bs ([])), .int .i64 1]) (yl_move (by rfl) _ rfl _ rfl) ?_
              simp only [Act.put, lzA, lzB, lzC]
              refine wl_yield (o := ⟨_, _, _, _, _, _⟩) (.string (bs ([]))) (yl_extract0 (by rfl) _ rfl _ _ rfl) ?_
              simp only [Act.put, lzA, lzB, lzC]
              refine wl_yield (o := ⟨_, _, _, _, _, _⟩) (.int .i64 1) (yl_extract1 (by rfl) _ rfl _ _ rfl) ?_
              simp only [Act.put, lzA, lzB, lzC]
              refine wl_yield (o := ⟨_, _, _, _, _, _⟩) (.string (bs ([]))) (yl_assign (by rfl) _ rfl _ rfl) ?_
              simp only [Act.put, lzA, lzB, lzC]
              refine wl_yield (o := ⟨_, _, _, _, _, _⟩) (.int .i64 1) (yl_assign (by rfl) _ rfl _ rfl) ?_
              simp only [Act.put, lzA, lzB, lzC]
              refine wpList_nil ?_
              refine hK8 _ _ ?_
              clear hK8 K8
              refine wp_seq_k (fun K9 hK9 => ?_)
              refine wp_seq_k (fun K10 hK10 => ?_)
              refine wp_region_lit ?_
              refine wl_yield (o := ⟨_, _, _, _, _, _⟩) (evVal e) (yl_ev (by rfl) _ rfl _ 0 rfl _ _ _ _ _ _ _ _ _ _ _ _ (fun _ h => by subst h; exact ⟨cell_heap G1 0, cell_heap G1 1, cell_heap G1 2, cell_heap G1 3, cell_heap G1 4, cell_heap G1 5, cell_heap G1 6, cell_heap G1 7, cell_heap G1 8, cell_heap G1 9, cell_heap G1 10, cell_heap G1 11⟩)) ?_
              simp only [Act.put, lzA, lzB, lzC]
              refine wt_call (o := ⟨_, _, _, _, _, _⟩) (by rfl) 13 _ _ rfl #[evVal e] rfl (run_call Tryz.func13 (by kernel_rfl) (by kernel_rfl)) ?_
              refine (refEvent_any e _ hf).mono ?_
              rintro r v8 ⟨rfl, kb⟩
              replace D := grown_below D kb
              replace HE := HE.on kb
              replace G1 := heap_on G1 kb
              replace G4 := heap_on G4 kb
              replace G6 := heap_on G6 kb
              clear kb
              refine Or.inl ⟨.bool false, by rw [hr], ?_⟩
              simp only [Act.put, lzA, lzB, lzC]
              refine wl_yield (o := ⟨_, _, _, _, _, _⟩) (.bool true) (yl_not (by rfl) _ _ rfl false rfl) ?_
              simp only [Act.put, lzA, lzB, lzC]
              refine wpList_nil ?_
              refine hK10 _ _ ?_
              clear hK10 K10
              refine wp_cond_true rfl ?_
              refine wp_seq_k (fun K11 hK11 => ?_)
              refine wp_region_lit ?_
              refine wl_yield (o := ⟨_, _, _, _, _, _⟩) (.string (bs ([]))) (yl_move (by rfl) _ rfl _ rfl) ?_
              simp only [Act.put, lzA, lzB, lzC]
              refine wl_yield (o := ⟨_, _, _, _, _, _⟩) (.bool true) (yt_eqS (by rfl) _ _ _ rfl ([]) ([]) true rfl rfl (by decide)) ?_
              simp only [Act.put, lzA, lzB, lzC]
              refine wl_yield (o := ⟨_, _, _, _, _, _⟩) (.bool true) (yl_move (by rfl) _ rfl _ rfl) ?_
              simp only [Act.put, lzA, lzB, lzC]
              refine wl_yield (o := ⟨_, _, _, _, _, _⟩) (.int .i64 1) (yl_move (by rfl) _ rfl _ rfl) ?_
              simp only [Act.put, lzA, lzB, lzC]
              refine wl_yield (o := ⟨_, _, _, _, _, _⟩) (.bool true) (yt_eqlE (by rfl) _ _ _ rfl 1 1 true rfl rfl (by decide)) ?_
              simp only [Act.put, lzA, lzB, lzC]
              refine wl_yield (o := ⟨_, _, _, _, _, _⟩) (.bool true) (yl_pickT (by rfl) _ _ _ rfl rfl _ rfl) ?_
              simp only [Act.put, lzA, lzB, lzC]
              refine wl_yield (o := ⟨_, _, _, _, _, _⟩) (.bool true) (yl_assign (by rfl) _ rfl _ rfl) ?_
              simp only [Act.put, lzA, lzB, lzC]
              refine wpList_nil ?_
              refine hK11 _ _ ?_
              clear hK11 K11
              refine wp_ret ?_
              go_ret
              exact ⟨rfl, below_none D⟩
            · refine wt_call (o := ⟨_, _, _, _, _, _⟩) (by rfl) 12 _ _ rfl #[evVal e] rfl (run_call Tryz.func12 (by kernel_rfl) (by kernel_rfl)) ?_
              refine (eventText_any e _ HE hf hi).mono ?_
              rintro r v7 ⟨rfl, kb⟩
              replace D := grown_below D kb
              replace HE := HE.on kb
              replace G1 := heap_on G1 kb
              replace G4 := heap_on G4 kb
              replace G6 := heap_on G6 kb
              clear kb
              refine Or.inl ⟨.tuple #[.string (bs (evTxt e)), .int .i64 0], by unfold evR; rw [hr]; rfl, ?_⟩
              simp only [Act.put, lzA, lzB, lzC]
              refine wl_yield (o := ⟨_, _, _, _, _, _⟩) (.tuple #[.string (bs (evTxt e)), .int .i64 0]) (yl_move (by rfl) _ rfl _ rfl) ?_
              simp only [Act.put, lzA, lzB, lzC]
              refine wl_yield (o := ⟨_, _, _, _, _, _⟩) (.string (bs (evTxt e))) (yl_extract0 (by rfl) _ rfl _ _ rfl) ?_
              simp only [Act.put, lzA, lzB, lzC]
              refine wl_yield (o := ⟨_, _, _, _, _, _⟩) (.int .i64 0) (yl_extract1 (by rfl) _ rfl _ _ rfl) ?_
              simp only [Act.put, lzA, lzB, lzC]
              refine wl_yield (o := ⟨_, _, _, _, _, _⟩) (.string (bs (evTxt e))) (yl_assign (by rfl) _ rfl _ rfl) ?_
              simp only [Act.put, lzA, lzB, lzC]
              refine wl_yield (o := ⟨_, _, _, _, _, _⟩) (.int .i64 0) (yl_assign (by rfl) _ rfl _ rfl) ?_
              simp only [Act.put, lzA, lzB, lzC]
              refine wpList_nil ?_
              refine hK8 _ _ ?_
              clear hK8 K8
              refine wp_seq_k (fun K9 hK9 => ?_)
              refine wp_seq_k (fun K10 hK10 => ?_)
              refine wp_region_lit ?_
              refine wl_yield (o := ⟨_, _, _, _, _, _⟩) (evVal e) (yl_ev (by rfl) _ rfl _ 0 rfl _ _ _ _ _ _ _ _ _ _ _ _ (fun _ h => by subst h; exact ⟨cell_heap G1 0, cell_heap G1 1, cell_heap G1 2, cell_heap G1 3, cell_heap G1 4, cell_heap G1 5, cell_heap G1 6, cell_heap G1 7, cell_heap G1 8, cell_heap G1 9, cell_heap G1 10, cell_heap G1 11⟩)) ?_
              simp only [Act.put, lzA, lzB, lzC]
              refine wt_call (o := ⟨_, _, _, _, _, _⟩) (by rfl) 13 _ _ rfl #[evVal e] rfl (run_call Tryz.func13 (by kernel_rfl) (by kernel_rfl)) ?_
              refine (refEvent_any e _ hf).mono ?_
              rintro r v8 ⟨rfl, kb⟩
              replace D := grown_below D kb
              replace HE := HE.on kb
              replace G1 := heap_on G1 kb
              replace G4 := heap_on G4 kb
              replace G6 := heap_on G6 kb
              clear kb
              refine Or.inl ⟨.bool true, by rw [hr], ?_⟩
              simp only [Act.put, lzA, lzB, lzC]
              refine wl_yield (o := ⟨_, _, _, _, _, _⟩) (.bool false) (yl_not (by rfl) _ _ rfl true rfl) ?_
              simp only [Act.put, lzA, lzB, lzC]
              refine wpList_nil ?_
              refine hK10 _ _ ?_
              clear hK10 K10
              refine wp_cond_false rfl ?_
              refine wp_skip ?_
              refine hK9 _ _ ?_
              clear hK9 K9
              refine wp_seq_k (fun K11 hK11 => ?_)
              refine wp_region_lit ?_
              refine wl_yield (o := ⟨_, _, _, _, _, _⟩) (.string (bs (evTxt e))) (yl_move (by rfl) _ rfl _ rfl) ?_
              simp only [Act.put, lzA, lzB, lzC]
              refine wt_call (o := ⟨_, _, _, _, _, _⟩) (by rfl) 10 _ _ rfl #[.string (bs (evTxt e))] rfl (run_call Tryz.func10 (by kernel_rfl) (by kernel_rfl)) ?_
              refine (readEvent_any (evTxt e) _ HE (evTxt_len hr hi)).mono ?_
              rintro r v9 (⟨⟨d, err, rfl, PA⟩, kb⟩)
              · rw [parseE_txt hr hi] at PA
                obtain ⟨rfl, hd⟩ := PA
                have hd := hd.symm
                subst hd
                replace D := grown_below D kb
                replace HE := HE.on kb
                replace G1 := heap_on G1 kb
                replace G4 := heap_on G4 kb
                replace G6 := heap_on G6 kb
                clear kb
                refine Or.inl ⟨.tuple #[evVal e, .int .i64 0], rfl, ?_⟩
                simp only [Act.put, lzA, lzB, lzC]
                refine wl_yield (o := ⟨_, _, _, _, _, _⟩) (.tuple #[evVal e, .int .i64 0]) (yl_move (by rfl) _ rfl _ rfl) ?_
                simp only [Act.put, lzA, lzB, lzC]
                refine wl_yield (o := ⟨_, _, _, _, _, _⟩) (evVal e) (yl_extract0 (by rfl) _ rfl _ _ rfl) ?_
                simp only [Act.put, lzA, lzB, lzC]
                refine wl_yield (o := ⟨_, _, _, _, _, _⟩) (.int .i64 0) (yl_extract1 (by rfl) _ rfl _ _ rfl) ?_
                simp only [Act.put, lzA, lzB, lzC]
                refine wt_newEv (o := ⟨_, _, _, _, _, _⟩) (o2 := ⟨_, _, _, _, _, _⟩) (by rfl) rfl _ _ rfl rfl (fun _ => rfl) (e := e) (fun _ => rfl) (fun v10 g10 G10 kb => ?_)
                simp only [Act.put, lzA, lzB, lzC]
                replace D := grown_below D kb
                replace HE := HE.on kb
                replace G1 := heap_on G1 kb
                replace G4 := heap_on G4 kb
                replace G6 := heap_on G6 kb
                clear kb
                replace G10 : v10.heap[g10]? = some (.cells #[.int .i64 (e.v0.1), .int .i64 (e.v0.2.1), .string e.v0.2.2, .int .i64 (e.v1.1), .int .i64 (e.v1.2.1), .string e.v1.2.2, .int .i64 (e.v2.1), .int .i64 (e.v2.2.1), .string e.v2.2.2, .int .i64 (e.v3.1), .int .i64 (e.v3.2.1), .string e.v3.2.2] 42 (0, 0)) := G10
                refine wl_yield (o := ⟨_, _, _, _, _, _⟩) (.int .i64 0) (yl_assign (by rfl) _ rfl _ rfl) ?_
                simp only [Act.put, lzA, lzB, lzC]
                refine wpList_nil ?_
                refine hK11 _ _ ?_
                clear hK11 K11
                refine wp_seq_k (fun K12 hK12 => ?_)
                refine wp_region_lit ?_
                refine wl_yield (o := ⟨_, _, _, _, _, _⟩) (.string (bs (evTxt e))) (yl_move (by rfl) _ rfl _ rfl) ?_
                simp only [Act.put, lzA, lzB, lzC]
                refine wl_yield (o := ⟨_, _, _, _, _, _⟩) (evVal e) (yl_ev (by rfl) _ rfl _ 0 rfl _ _ _ _ _ _ _ _ _ _ _ _ (fun _ h => by subst h; exact ⟨cell_heap G1 0, cell_heap G1 1, cell_heap G1 2, cell_heap G1 3, cell_heap G1 4, cell_heap G1 5, cell_heap G1 6, cell_heap G1 7, cell_heap G1 8, cell_heap G1 9, cell_heap G1 10, cell_heap G1 11⟩)) ?_
                simp only [Act.put, lzA, lzB, lzC]
                refine wt_call (o := ⟨_, _, _, _, _, _⟩) (by rfl) 14 _ _ rfl #[evVal e] rfl (run_call Tryz.func14 (by kernel_rfl) (by kernel_rfl)) ?_
                refine (refEvent7 e _ HE hf hi hr).mono ?_
                rintro r v11 ⟨rfl, kb⟩
                replace D := grown_below D kb
                replace HE := HE.on kb
                replace G1 := heap_on G1 kb
                replace G4 := heap_on G4 kb
                replace G6 := heap_on G6 kb
                replace G10 := heap_on G10 kb
                clear kb
                refine Or.inl ⟨.string (bs (evTxt e)), rfl, ?_⟩
                simp only [Act.put, lzA, lzB, lzC]
                refine wl_yield (o := ⟨_, _, _, _, _, _⟩) (.bool true) (yt_eqS (by rfl) _ _ _ rfl (evTxt e) (evTxt e) true rfl rfl (by simp)) ?_
                simp only [Act.put, lzA, lzB, lzC]
                refine wl_yield (o := ⟨_, _, _, _, _, _⟩) (.bool true) (yl_move (by rfl) _ rfl _ rfl) ?_
                simp only [Act.put, lzA, lzB, lzC]
                refine wl_yield (o := ⟨_, _, _, _, _, _⟩) (.int .i64 0) (yl_move (by rfl) _ rfl _ rfl) ?_
                simp only [Act.put, lzA, lzB, lzC]
                refine wl_yield (o := ⟨_, _, _, _, _, _⟩) (.bool true) (yt_eqlE (by rfl) _ _ _ rfl 0 0 true rfl rfl (by decide)) ?_
                simp only [Act.put, lzA, lzB, lzC]
                refine wl_yield (o := ⟨_, _, _, _, _, _⟩) (.bool true) (yl_pickT (by rfl) _ _ _ rfl rfl _ rfl) ?_
                simp only [Act.put, lzA, lzB, lzC]
                refine wl_yield (o := ⟨_, _, _, _, _, _⟩) (.bool true) (yl_move (by rfl) _ rfl _ rfl) ?_
                simp only [Act.put, lzA, lzB, lzC]
                refine wl_yield (o := ⟨_, _, _, _, _, _⟩) (evVal e) (yl_ev (by rfl) _ rfl _ 0 rfl _ _ _ _ _ _ _ _ _ _ _ _ (fun _ h => by subst h; exact ⟨cell_heap G10 0, cell_heap G10 1, cell_heap G10 2, cell_heap G10 3, cell_heap G10 4, cell_heap G10 5, cell_heap G10 6, cell_heap G10 7, cell_heap G10 8, cell_heap G10 9, cell_heap G10 10, cell_heap G10 11⟩)) ?_
                simp only [Act.put, lzA, lzB, lzC]
                refine wl_yield (o := ⟨_, _, _, _, _, _⟩) (evVal e) (yl_ev (by rfl) _ rfl _ 0 rfl _ _ _ _ _ _ _ _ _ _ _ _ (fun _ h => by subst h; exact ⟨cell_heap G1 0, cell_heap G1 1, cell_heap G1 2, cell_heap G1 3, cell_heap G1 4, cell_heap G1 5, cell_heap G1 6, cell_heap G1 7, cell_heap G1 8, cell_heap G1 9, cell_heap G1 10, cell_heap G1 11⟩)) ?_
                simp only [Act.put, lzA, lzB, lzC]
                refine wl_yield (o := ⟨_, _, _, _, _, _⟩) (.bool true) (yt_eqEv (by rfl) _ _ _ rfl e e (wf_right hr ⟨hf, hi⟩) (wf_right hr ⟨hf, hi⟩) true rfl rfl (by simp)) ?_
                simp only [Act.put, lzA, lzB, lzC]
                refine wl_yield (o := ⟨_, _, _, _, _, _⟩) (.bool true) (yl_pickT (by rfl) _ _ _ rfl rfl _ rfl) ?_
                simp only [Act.put, lzA, lzB, lzC]
                refine wl_yield (o := ⟨_, _, _, _, _, _⟩) (.bool true) (yl_move (by rfl) _ rfl _ rfl) ?_
                simp only [Act.put, lzA, lzB, lzC]
                refine wl_yield (o := ⟨_, _, _, _, _, _⟩) (.int .i64 0) (yl_move (by rfl) _ rfl _ rfl) ?_
                simp only [Act.put, lzA, lzB, lzC]
                refine wl_yield (o := ⟨_, _, _, _, _, _⟩) (.bool true) (yt_eqlE (by rfl) _ _ _ rfl 0 0 true rfl rfl (by decide)) ?_
                simp only [Act.put, lzA, lzB, lzC]
                refine wl_yield (o := ⟨_, _, _, _, _, _⟩) (.bool true) (yl_pickT (by rfl) _ _ _ rfl rfl _ rfl) ?_
                simp only [Act.put, lzA, lzB, lzC]
                refine wl_yield (o := ⟨_, _, _, _, _, _⟩) (.bool true) (yl_assign (by rfl) _ rfl _ rfl) ?_
                simp only [Act.put, lzA, lzB, lzC]
                refine wpList_nil ?_
                refine hK12 _ _ ?_
                clear hK12 K12
                refine wp_ret ?_
                go_ret
                exact ⟨rfl, below_none D⟩
    · have hr := big_wrong hbg
      by_cases hB : (300 : Int) < IntKind.i64.wrap (IntKind.i64.wrap (IntKind.i64.wrap (((e.v0.2.2.size : Nat) : Int) + ((e.v1.2.2.size : Nat) : Int)) + ((e.v2.2.2.size : Nat) : Int)) + ((e.v3.2.2.size : Nat) : Int))
      · refine wp_region_lit ?_
        refine wt_call (o := ⟨_, _, _, _, _, _⟩) (by rfl) 5 _ _ rfl #[] rfl (run_call Tryz.func5 (by kernel_rfl) (by kernel_rfl)) ?_
        refine (awake7_any _ HE).mono ?_
        rintro r v2 ⟨rfl, kb⟩
        replace D := grown_below D kb
        replace HE := HE.on kb
        replace G1 := heap_on G1 kb
        clear kb
        refine Or.inl ⟨.bool true, rfl, ?_⟩
        simp only [Act.put, lzA, lzB, lzC]
        refine wl_yield (o := ⟨_, _, _, _, _, _⟩) (.bool false) (yl_not (by rfl) _ _ rfl true rfl) ?_
        simp only [Act.put, lzA, lzB, lzC]
        refine wl_yield (o := ⟨_, _, _, _, _, _⟩) (.bool false) (yl_move (by rfl) _ rfl _ rfl) ?_
        simp only [Act.put, lzA, lzB, lzC]
        refine wl_yield (o := ⟨_, _, _, _, _, _⟩) (.string (bs l)) (yl_move (by rfl) _ rfl _ rfl) ?_
        simp only [Act.put, lzA, lzB, lzC]
        refine wl_yield (o := ⟨_, _, _, _, _, _⟩) (.int .i64 (l.length : Nat)) (yt_lenS (by rfl) _ rfl l rfl) ?_
        simp only [Act.put, lzA, lzB, lzC]
        refine wl_yield (o := ⟨_, _, _, _, _, _⟩) (.bool false) (yt_gtrI (by rfl) _ _ _ rfl (((l.length : Nat) : Int)) 500 false rfl rfl (decide_eq_false (by omega))) ?_
        simp only [Act.put, lzA, lzB, lzC]
        refine wl_yield (o := ⟨_, _, _, _, _, _⟩) (.bool false) (yl_pickF (by rfl) _ _ _ rfl rfl _ rfl) ?_
        simp only [Act.put, lzA, lzB, lzC]
        refine wl_yield (o := ⟨_, _, _, _, _, _⟩) (.bool false) (yl_move (by rfl) _ rfl _ rfl) ?_
        simp only [Act.put, lzA, lzB, lzC]
        refine wl_yield (o := ⟨_, _, _, _, _, _⟩) (.pointer (some ⟨g1, 0, none⟩)) (yl_atEv (by rfl) _ _ rfl g1 0 rfl rfl (by omega)) ?_
        simp only [Act.put, lzA, lzB, lzC]
        refine wl_yield (o := ⟨_, _, _, _, _, _⟩) (.pointer (some ⟨g1, 2, none⟩)) (yt_fVa2 (by rfl) _ rfl g1 0 rfl) ?_
        simp only [Act.put, lzA, lzB, lzC]
        refine wl_yield (o := ⟨_, _, _, _, _, _⟩) (.string e.v0.2.2) (yt_ldS (by rfl) _ rfl _ _ rfl _ (fun _ h => by subst h; exact cell_heap G1 2)) ?_
        simp only [Act.put, lzA, lzB, lzC]
        refine wl_yield (o := ⟨_, _, _, _, _, _⟩) (.int .i64 (e.v0.2.2.size : Nat)) (yt_lenB (by rfl) _ rfl e.v0.2.2 rfl) ?_
        simp only [Act.put, lzA, lzB, lzC]
        refine wl_yield (o := ⟨_, _, _, _, _, _⟩) (.pointer (some ⟨g1, 3, none⟩)) (yl_atEv (by rfl) _ _ rfl g1 1 rfl rfl (by omega)) ?_
        simp only [Act.put, lzA, lzB, lzC]
        refine wl_yield (o := ⟨_, _, _, _, _, _⟩) (.pointer (some ⟨g1, 5, none⟩)) (yt_fVa2 (by rfl) _ rfl g1 3 rfl) ?_
        simp only [Act.put, lzA, lzB, lzC]
        refine wl_yield (o := ⟨_, _, _, _, _, _⟩) (.string e.v1.2.2) (yt_ldS (by rfl) _ rfl _ _ rfl _ (fun _ h => by subst h; exact cell_heap G1 5)) ?_
        simp only [Act.put, lzA, lzB, lzC]
        refine wl_yield (o := ⟨_, _, _, _, _, _⟩) (.int .i64 (e.v1.2.2.size : Nat)) (yt_lenB (by rfl) _ rfl e.v1.2.2 rfl) ?_
        simp only [Act.put, lzA, lzB, lzC]
        refine wl_yield (o := ⟨_, _, _, _, _, _⟩) (.int .i64 (IntKind.i64.wrap (((e.v0.2.2.size : Nat) : Int) + ((e.v1.2.2.size : Nat) : Int)))) (yt_addW (by rfl) _ _ _ rfl (((e.v0.2.2.size : Nat) : Int)) (((e.v1.2.2.size : Nat) : Int)) rfl rfl) ?_
        simp only [Act.put, lzA, lzB, lzC]
        refine wl_yield (o := ⟨_, _, _, _, _, _⟩) (.pointer (some ⟨g1, 6, none⟩)) (yl_atEv (by rfl) _ _ rfl g1 2 rfl rfl (by omega)) ?_
        simp only [Act.put, lzA, lzB, lzC]
        refine wl_yield (o := ⟨_, _, _, _, _, _⟩) (.pointer (some ⟨g1, 8, none⟩)) (yt_fVa2 (by rfl) _ rfl g1 6 rfl) ?_
        simp only [Act.put, lzA, lzB, lzC]
        refine wl_yield (o := ⟨_, _, _, _, _, _⟩) (.string e.v2.2.2) (yt_ldS (by rfl) _ rfl _ _ rfl _ (fun _ h => by subst h; exact cell_heap G1 8)) ?_
        simp only [Act.put, lzA, lzB, lzC]
        refine wl_yield (o := ⟨_, _, _, _, _, _⟩) (.int .i64 (e.v2.2.2.size : Nat)) (yt_lenB (by rfl) _ rfl e.v2.2.2 rfl) ?_
        simp only [Act.put, lzA, lzB, lzC]
        refine wl_yield (o := ⟨_, _, _, _, _, _⟩) (.int .i64 (IntKind.i64.wrap (IntKind.i64.wrap (((e.v0.2.2.size : Nat) : Int) + ((e.v1.2.2.size : Nat) : Int)) + ((e.v2.2.2.size : Nat) : Int)))) (yt_addW (by rfl) _ _ _ rfl (IntKind.i64.wrap (((e.v0.2.2.size : Nat) : Int) + ((e.v1.2.2.size : Nat) : Int))) (((e.v2.2.2.size : Nat) : Int)) rfl rfl) ?_
        simp only [Act.put, lzA, lzB, lzC]
        refine wl_yield (o := ⟨_, _, _, _, _, _⟩) (.pointer (some ⟨g1, 9, none⟩)) (yl_atEv (by rfl) _ _ rfl g1 3 rfl rfl (by omega)) ?_
        simp only [Act.put, lzA, lzB, lzC]
        refine wl_yield (o := ⟨_, _, _, _, _, _⟩) (.pointer (some ⟨g1, 11, none⟩)) (yt_fVa2 (by rfl) _ rfl g1 9 rfl) ?_
        simp only [Act.put, lzA, lzB, lzC]
        refine wl_yield (o := ⟨_, _, _, _, _, _⟩) (.string e.v3.2.2) (yt_ldS (by rfl) _ rfl _ _ rfl _ (fun _ h => by subst h; exact cell_heap G1 11)) ?_
        simp only [Act.put, lzA, lzB, lzC]
        refine wl_yield (o := ⟨_, _, _, _, _, _⟩) (.int .i64 (e.v3.2.2.size : Nat)) (yt_lenB (by rfl) _ rfl e.v3.2.2 rfl) ?_
        simp only [Act.put, lzA, lzB, lzC]
        refine wl_yield (o := ⟨_, _, _, _, _, _⟩) (.int .i64 (IntKind.i64.wrap (IntKind.i64.wrap (IntKind.i64.wrap (((e.v0.2.2.size : Nat) : Int) + ((e.v1.2.2.size : Nat) : Int)) + ((e.v2.2.2.size : Nat) : Int)) + ((e.v3.2.2.size : Nat) : Int)))) (yt_addW (by rfl) _ _ _ rfl (IntKind.i64.wrap (IntKind.i64.wrap (((e.v0.2.2.size : Nat) : Int) + ((e.v1.2.2.size : Nat) : Int)) + ((e.v2.2.2.size : Nat) : Int))) (((e.v3.2.2.size : Nat) : Int)) rfl rfl) ?_
        simp only [Act.put, lzA, lzB, lzC]
        refine wl_yield (o := ⟨_, _, _, _, _, _⟩) (.bool true) (yt_gtrI (by rfl) _ _ _ rfl (IntKind.i64.wrap (IntKind.i64.wrap (IntKind.i64.wrap (((e.v0.2.2.size : Nat) : Int) + ((e.v1.2.2.size : Nat) : Int)) + ((e.v2.2.2.size : Nat) : Int)) + ((e.v3.2.2.size : Nat) : Int))) 300 true rfl rfl (decide_eq_true hB)) ?_
        simp only [Act.put, lzA, lzB, lzC]
        refine wl_yield (o := ⟨_, _, _, _, _, _⟩) (.bool true) (yl_pickF (by rfl) _ _ _ rfl rfl _ rfl) ?_
        simp only [Act.put, lzA, lzB, lzC]
        refine wpList_nil ?_
        refine hK3 _ _ ?_
        clear hK3 K3
        refine wp_cond_true rfl ?_
        refine wp_seq_k (fun K4 hK4 => ?_)
        refine wp_region_lit ?_
        refine wt_call (o := ⟨_, _, _, _, _, _⟩) (by rfl) 5 _ _ rfl #[] rfl (run_call Tryz.func5 (by kernel_rfl) (by kernel_rfl)) ?_
        refine (awake7_any _ HE).mono ?_
        rintro r v3 ⟨rfl, kb⟩
        replace D := grown_below D kb
        replace HE := HE.on kb
        replace G1 := heap_on G1 kb
        clear kb
        refine Or.inl ⟨.bool true, rfl, ?_⟩
        simp only [Act.put, lzA, lzB, lzC]
        refine wl_yield (o := ⟨_, _, _, _, _, _⟩) (.bool true) (yl_assign (by rfl) _ rfl _ rfl) ?_
        simp only [Act.put, lzA, lzB, lzC]
        refine wpList_nil ?_
        refine hK4 _ _ ?_
        clear hK4 K4
        refine wp_ret ?_
        go_ret
        exact ⟨rfl, below_none D⟩
      · refine wp_region_lit ?_
        refine wt_call (o := ⟨_, _, _, _, _, _⟩) (by rfl) 5 _ _ rfl #[] rfl (run_call Tryz.func5 (by kernel_rfl) (by kernel_rfl)) ?_
        refine (awake7_any _ HE).mono ?_
        rintro r v2 ⟨rfl, kb⟩
        replace D := grown_below D kb
        replace HE := HE.on kb
        replace G1 := heap_on G1 kb
        clear kb
        refine Or.inl ⟨.bool true, rfl, ?_⟩
        simp only [Act.put, lzA, lzB, lzC]
        refine wl_yield (o := ⟨_, _, _, _, _, _⟩) (.bool false) (yl_not (by rfl) _ _ rfl true rfl) ?_
        simp only [Act.put, lzA, lzB, lzC]
        refine wl_yield (o := ⟨_, _, _, _, _, _⟩) (.bool false) (yl_move (by rfl) _ rfl _ rfl) ?_
        simp only [Act.put, lzA, lzB, lzC]
        refine wl_yield (o := ⟨_, _, _, _, _, _⟩) (.string (bs l)) (yl_move (by rfl) _ rfl _ rfl) ?_
        simp only [Act.put, lzA, lzB, lzC]
        refine wl_yield (o := ⟨_, _, _, _, _, _⟩) (.int .i64 (l.length : Nat)) (yt_lenS (by rfl) _ rfl l rfl) ?_
        simp only [Act.put, lzA, lzB, lzC]
        refine wl_yield (o := ⟨_, _, _, _, _, _⟩) (.bool false) (yt_gtrI (by rfl) _ _ _ rfl (((l.length : Nat) : Int)) 500 false rfl rfl (decide_eq_false (by omega))) ?_
        simp only [Act.put, lzA, lzB, lzC]
        refine wl_yield (o := ⟨_, _, _, _, _, _⟩) (.bool false) (yl_pickF (by rfl) _ _ _ rfl rfl _ rfl) ?_
        simp only [Act.put, lzA, lzB, lzC]
        refine wl_yield (o := ⟨_, _, _, _, _, _⟩) (.bool false) (yl_move (by rfl) _ rfl _ rfl) ?_
        simp only [Act.put, lzA, lzB, lzC]
        refine wl_yield (o := ⟨_, _, _, _, _, _⟩) (.pointer (some ⟨g1, 0, none⟩)) (yl_atEv (by rfl) _ _ rfl g1 0 rfl rfl (by omega)) ?_
        simp only [Act.put, lzA, lzB, lzC]
        refine wl_yield (o := ⟨_, _, _, _, _, _⟩) (.pointer (some ⟨g1, 2, none⟩)) (yt_fVa2 (by rfl) _ rfl g1 0 rfl) ?_
        simp only [Act.put, lzA, lzB, lzC]
        refine wl_yield (o := ⟨_, _, _, _, _, _⟩) (.string e.v0.2.2) (yt_ldS (by rfl) _ rfl _ _ rfl _ (fun _ h => by subst h; exact cell_heap G1 2)) ?_
        simp only [Act.put, lzA, lzB, lzC]
        refine wl_yield (o := ⟨_, _, _, _, _, _⟩) (.int .i64 (e.v0.2.2.size : Nat)) (yt_lenB (by rfl) _ rfl e.v0.2.2 rfl) ?_
        simp only [Act.put, lzA, lzB, lzC]
        refine wl_yield (o := ⟨_, _, _, _, _, _⟩) (.pointer (some ⟨g1, 3, none⟩)) (yl_atEv (by rfl) _ _ rfl g1 1 rfl rfl (by omega)) ?_
        simp only [Act.put, lzA, lzB, lzC]
        refine wl_yield (o := ⟨_, _, _, _, _, _⟩) (.pointer (some ⟨g1, 5, none⟩)) (yt_fVa2 (by rfl) _ rfl g1 3 rfl) ?_
        simp only [Act.put, lzA, lzB, lzC]
        refine wl_yield (o := ⟨_, _, _, _, _, _⟩) (.string e.v1.2.2) (yt_ldS (by rfl) _ rfl _ _ rfl _ (fun _ h => by subst h; exact cell_heap G1 5)) ?_
        simp only [Act.put, lzA, lzB, lzC]
        refine wl_yield (o := ⟨_, _, _, _, _, _⟩) (.int .i64 (e.v1.2.2.size : Nat)) (yt_lenB (by rfl) _ rfl e.v1.2.2 rfl) ?_
        simp only [Act.put, lzA, lzB, lzC]
        refine wl_yield (o := ⟨_, _, _, _, _, _⟩) (.int .i64 (IntKind.i64.wrap (((e.v0.2.2.size : Nat) : Int) + ((e.v1.2.2.size : Nat) : Int)))) (yt_addW (by rfl) _ _ _ rfl (((e.v0.2.2.size : Nat) : Int)) (((e.v1.2.2.size : Nat) : Int)) rfl rfl) ?_
        simp only [Act.put, lzA, lzB, lzC]
        refine wl_yield (o := ⟨_, _, _, _, _, _⟩) (.pointer (some ⟨g1, 6, none⟩)) (yl_atEv (by rfl) _ _ rfl g1 2 rfl rfl (by omega)) ?_
        simp only [Act.put, lzA, lzB, lzC]
        refine wl_yield (o := ⟨_, _, _, _, _, _⟩) (.pointer (some ⟨g1, 8, none⟩)) (yt_fVa2 (by rfl) _ rfl g1 6 rfl) ?_
        simp only [Act.put, lzA, lzB, lzC]
        refine wl_yield (o := ⟨_, _, _, _, _, _⟩) (.string e.v2.2.2) (yt_ldS (by rfl) _ rfl _ _ rfl _ (fun _ h => by subst h; exact cell_heap G1 8)) ?_
        simp only [Act.put, lzA, lzB, lzC]
        refine wl_yield (o := ⟨_, _, _, _, _, _⟩) (.int .i64 (e.v2.2.2.size : Nat)) (yt_lenB (by rfl) _ rfl e.v2.2.2 rfl) ?_
        simp only [Act.put, lzA, lzB, lzC]
        refine wl_yield (o := ⟨_, _, _, _, _, _⟩) (.int .i64 (IntKind.i64.wrap (IntKind.i64.wrap (((e.v0.2.2.size : Nat) : Int) + ((e.v1.2.2.size : Nat) : Int)) + ((e.v2.2.2.size : Nat) : Int)))) (yt_addW (by rfl) _ _ _ rfl (IntKind.i64.wrap (((e.v0.2.2.size : Nat) : Int) + ((e.v1.2.2.size : Nat) : Int))) (((e.v2.2.2.size : Nat) : Int)) rfl rfl) ?_
        simp only [Act.put, lzA, lzB, lzC]
        refine wl_yield (o := ⟨_, _, _, _, _, _⟩) (.pointer (some ⟨g1, 9, none⟩)) (yl_atEv (by rfl) _ _ rfl g1 3 rfl rfl (by omega)) ?_
        simp only [Act.put, lzA, lzB, lzC]
        refine wl_yield (o := ⟨_, _, _, _, _, _⟩) (.pointer (some ⟨g1, 11, none⟩)) (yt_fVa2 (by rfl) _ rfl g1 9 rfl) ?_
        simp only [Act.put, lzA, lzB, lzC]
        refine wl_yield (o := ⟨_, _, _, _, _, _⟩) (.string e.v3.2.2) (yt_ldS (by rfl) _ rfl _ _ rfl _ (fun _ h => by subst h; exact cell_heap G1 11)) ?_
        simp only [Act.put, lzA, lzB, lzC]
        refine wl_yield (o := ⟨_, _, _, _, _, _⟩) (.int .i64 (e.v3.2.2.size : Nat)) (yt_lenB (by rfl) _ rfl e.v3.2.2 rfl) ?_
        simp only [Act.put, lzA, lzB, lzC]
        refine wl_yield (o := ⟨_, _, _, _, _, _⟩) (.int .i64 (IntKind.i64.wrap (IntKind.i64.wrap (IntKind.i64.wrap (((e.v0.2.2.size : Nat) : Int) + ((e.v1.2.2.size : Nat) : Int)) + ((e.v2.2.2.size : Nat) : Int)) + ((e.v3.2.2.size : Nat) : Int)))) (yt_addW (by rfl) _ _ _ rfl (IntKind.i64.wrap (IntKind.i64.wrap (((e.v0.2.2.size : Nat) : Int) + ((e.v1.2.2.size : Nat) : Int)) + ((e.v2.2.2.size : Nat) : Int))) (((e.v3.2.2.size : Nat) : Int)) rfl rfl) ?_
        simp only [Act.put, lzA, lzB, lzC]
        refine wl_yield (o := ⟨_, _, _, _, _, _⟩) (.bool false) (yt_gtrI (by rfl) _ _ _ rfl (IntKind.i64.wrap (IntKind.i64.wrap (IntKind.i64.wrap (((e.v0.2.2.size : Nat) : Int) + ((e.v1.2.2.size : Nat) : Int)) + ((e.v2.2.2.size : Nat) : Int)) + ((e.v3.2.2.size : Nat) : Int))) 300 false rfl rfl (decide_eq_false hB)) ?_
        simp only [Act.put, lzA, lzB, lzC]
        refine wl_yield (o := ⟨_, _, _, _, _, _⟩) (.bool false) (yl_pickF (by rfl) _ _ _ rfl rfl _ rfl) ?_
        simp only [Act.put, lzA, lzB, lzC]
        refine wpList_nil ?_
        refine hK3 _ _ ?_
        clear hK3 K3
        refine wp_cond_false rfl ?_
        refine wp_skip ?_
        refine hK2 _ _ ?_
        clear hK2 K2
        refine wp_seq_k (fun K4 hK4 => ?_)
        refine wp_region_lit ?_
        refine wl_yield (o := ⟨_, _, _, _, _, _⟩) (.string (bs l)) (yl_move (by rfl) _ rfl _ rfl) ?_
        simp only [Act.put, lzA, lzB, lzC]
        rcases hp : parseE l with _ | x1
        · have wf1 := wf_right evZ_right evZ_ok
          refine wt_call (o := ⟨_, _, _, _, _, _⟩) (by rfl) 10 _ _ rfl #[.string (bs l)] rfl (run_call Tryz.func10 (by kernel_rfl) (by kernel_rfl)) ?_
          refine (readEvent_any l _ HE (by omega)).mono ?_
          rintro r v3 (⟨⟨d, err, rfl, PA⟩, kb⟩)
          · rw [hp] at PA
            obtain ⟨rfl, hd⟩ := PA
            have hd := hd.symm
            subst hd
            replace D := grown_below D kb
            replace HE := HE.on kb
            replace G1 := heap_on G1 kb
            clear kb
            refine Or.inl ⟨.tuple #[evVal evZ, .int .i64 2], rfl, ?_⟩
            simp only [Act.put, lzA, lzB, lzC]
            refine wl_yield (o := ⟨_, _, _, _, _, _⟩) (.tuple #[evVal evZ, .int .i64 2]) (yl_move (by rfl) _ rfl _ rfl) ?_
            simp only [Act.put, lzA, lzB, lzC]
            refine wl_yield (o := ⟨_, _, _, _, _, _⟩) (evVal evZ) (yl_extract0 (by rfl) _ rfl _ _ rfl) ?_
            simp only [Act.put, lzA, lzB, lzC]
            refine wl_yield (o := ⟨_, _, _, _, _, _⟩) (.int .i64 2) (yl_extract1 (by rfl) _ rfl _ _ rfl) ?_
            simp only [Act.put, lzA, lzB, lzC]
            refine wt_newEv (o := ⟨_, _, _, _, _, _⟩) (o2 := ⟨_, _, _, _, _, _⟩) (by rfl) rfl _ _ rfl rfl (fun _ => rfl) (e := evZ) (fun _ => rfl) (fun v4 g4 G4 kb => ?_)
            simp only [Act.put, lzA, lzB, lzC]
            replace D := grown_below D kb
            replace HE := HE.on kb
            replace G1 := heap_on G1 kb
            clear kb
            replace G4 : v4.heap[g4]? = some (.cells #[.int .i64 (evZ.v0.1), .int .i64 (evZ.v0.2.1), .string evZ.v0.2.2, .int .i64 (evZ.v1.1), .int .i64 (evZ.v1.2.1), .string evZ.v1.2.2, .int .i64 (evZ.v2.1), .int .i64 (evZ.v2.2.1), .string evZ.v2.2.2, .int .i64 (evZ.v3.1), .int .i64 (evZ.v3.2.1), .string evZ.v3.2.2] 42 (0, 0)) := G4
            refine wl_yield (o := ⟨_, _, _, _, _, _⟩) (.int .i64 2) (yl_assign (by rfl) _ rfl _ rfl) ?_
            simp only [Act.put, lzA, lzB, lzC]
            refine wpList_nil ?_
            refine hK4 _ _ ?_
            clear hK4 K4
            refine wp_seq_k (fun K5 hK5 => ?_)
            refine wp_region_lit ?_
            refine wl_yield (o := ⟨_, _, _, _, _, _⟩) (.string (bs l)) (yl_move (by rfl) _ rfl _ rfl) ?_
            simp only [Act.put, lzA, lzB, lzC]
            refine wt_call (o := ⟨_, _, _, _, _, _⟩) (by rfl) 11 _ _ rfl #[.string (bs l)] rfl (run_call Tryz.func11 (by kernel_rfl) (by kernel_rfl)) ?_
            refine (refReadEvent7 l _ HE (by omega)).mono ?_
            rintro r v5 ⟨rfl, kb⟩
            replace D := grown_below D kb
            replace HE := HE.on kb
            replace G1 := heap_on G1 kb
            replace G4 := heap_on G4 kb
            clear kb
            refine Or.inl ⟨.tuple #[evVal evZ, .bool false], by rw [rfAns_eq, hp]; rfl, ?_⟩
            simp only [Act.put, lzA, lzB, lzC]
            refine wl_yield (o := ⟨_, _, _, _, _, _⟩) (.tuple #[evVal evZ, .bool false]) (yl_move (by rfl) _ rfl _ rfl) ?_
            simp only [Act.put, lzA, lzB, lzC]
            refine wl_yield (o := ⟨_, _, _, _, _, _⟩) (evVal evZ) (yl_extract0 (by rfl) _ rfl _ _ rfl) ?_
            simp only [Act.put, lzA, lzB, lzC]
            refine wl_yield (o := ⟨_, _, _, _, _, _⟩) (.bool false) (yl_extract1 (by rfl) _ rfl _ _ rfl) ?_
            simp only [Act.put, lzA, lzB, lzC]
            refine wt_newEv (o := ⟨_, _, _, _, _, _⟩) (o2 := ⟨_, _, _, _, _, _⟩) (by rfl) rfl _ _ rfl rfl (fun _ => rfl) (e := evZ) (fun _ => rfl) (fun v6 g6 G6 kb => ?_)
            simp only [Act.put, lzA, lzB, lzC]
            replace D := grown_below D kb
            replace HE := HE.on kb
            replace G1 := heap_on G1 kb
            replace G4 := heap_on G4 kb
            clear kb
            replace G6 : v6.heap[g6]? = some (.cells #[.int .i64 (evZ.v0.1), .int .i64 (evZ.v0.2.1), .string evZ.v0.2.2, .int .i64 (evZ.v1.1), .int .i64 (evZ.v1.2.1), .string evZ.v1.2.2, .int .i64 (evZ.v2.1), .int .i64 (evZ.v2.2.1), .string evZ.v2.2.2, .int .i64 (evZ.v3.1), .int .i64 (evZ.v3.2.1), .string evZ.v3.2.2] 42 (0, 0)) := G6
            refine wl_yield (o := ⟨_, _, _, _, _, _⟩) (.bool false) (yl_assign (by rfl) _ rfl _ rfl) ?_
            simp only [Act.put, lzA, lzB, lzC]
            refine wpList_nil ?_
            refine hK5 _ _ ?_
            clear hK5 K5
            refine wp_seq_k (fun K6 hK6 => ?_)
            refine wp_seq_k (fun K7 hK7 => ?_)
            refine wp_region_lit ?_
            refine wl_yield (o := ⟨_, _, _, _, _, _⟩) (evVal evZ) (yl_ev (by rfl) _ rfl _ 0 rfl _ _ _ _ _ _ _ _ _ _ _ _ (fun _ h => by subst h; exact ⟨cell_heap G4 0, cell_heap G4 1, cell_heap G4 2, cell_heap G4 3, cell_heap G4 4, cell_heap G4 5, cell_heap G4 6, cell_heap G4 7, cell_heap G4 8, cell_heap G4 9, cell_heap G4 10, cell_heap G4 11⟩)) ?_
            simp only [Act.put, lzA, lzB, lzC]
            refine wl_yield (o := ⟨_, _, _, _, _, _⟩) (evVal evZ) (yl_ev (by rfl) _ rfl _ 0 rfl _ _ _ _ _ _ _ _ _ _ _ _ (fun _ h => by subst h; exact ⟨cell_heap G6 0, cell_heap G6 1, cell_heap G6 2, cell_heap G6 3, cell_heap G6 4, cell_heap G6 5, cell_heap G6 6, cell_heap G6 7, cell_heap G6 8, cell_heap G6 9, cell_heap G6 10, cell_heap G6 11⟩)) ?_
            simp only [Act.put, lzA, lzB, lzC]
            refine wl_yield (o := ⟨_, _, _, _, _, _⟩) (.bool false) (yt_neqEv (by rfl) _ _ _ rfl evZ evZ wf1 wf1 false rfl rfl (by simp)) ?_
            simp only [Act.put, lzA, lzB, lzC]
            refine wl_yield (o := ⟨_, _, _, _, _, _⟩) (.bool false) (yl_move (by rfl) _ rfl _ rfl) ?_
            simp only [Act.put, lzA, lzB, lzC]
            refine wl_yield (o := ⟨_, _, _, _, _, _⟩) (.int .i64 2) (yl_move (by rfl) _ rfl _ rfl) ?_
            simp only [Act.put, lzA, lzB, lzC]
            refine wl_yield (o := ⟨_, _, _, _, _, _⟩) (.bool false) (yt_eqlE (by rfl) _ _ _ rfl 2 0 false rfl rfl (by decide)) ?_
            simp only [Act.put, lzA, lzB, lzC]
            refine wl_yield (o := ⟨_, _, _, _, _, _⟩) (.bool false) (yl_move (by rfl) _ rfl _ rfl) ?_
            simp only [Act.put, lzA, lzB, lzC]
            refine wl_yield (o := ⟨_, _, _, _, _, _⟩) (.bool false) (yl_neqB (by rfl) _ _ _ rfl false false rfl rfl) ?_
            simp only [Act.put, lzA, lzB, lzC]
            refine wl_yield (o := ⟨_, _, _, _, _, _⟩) (.bool false) (yl_pickF (by rfl) _ _ _ rfl rfl _ rfl) ?_
            simp only [Act.put, lzA, lzB, lzC]
            refine wl_yield (o := ⟨_, _, _, _, _, _⟩) (.bool false) (yl_move (by rfl) _ rfl _ rfl) ?_
            simp only [Act.put, lzA, lzB, lzC]
            refine wl_yield (o := ⟨_, _, _, _, _, _⟩) (.bool false) (yl_move (by rfl) _ rfl _ rfl) ?_
            simp only [Act.put, lzA, lzB, lzC]
            refine wl_yield (o := ⟨_, _, _, _, _, _⟩) (.bool true) (yl_not (by rfl) _ _ rfl false rfl) ?_
            simp only [Act.put, lzA, lzB, lzC]
            refine wl_yield (o := ⟨_, _, _, _, _, _⟩) (.bool true) (yl_move (by rfl) _ rfl _ rfl) ?_
            simp only [Act.put, lzA, lzB, lzC]
            refine wl_yield (o := ⟨_, _, _, _, _, _⟩) (.int .i64 2) (yl_move (by rfl) _ rfl _ rfl) ?_
            simp only [Act.put, lzA, lzB, lzC]
            refine wl_yield (o := ⟨_, _, _, _, _, _⟩) (.bool false) (yt_neqE (by rfl) _ _ _ rfl 2 2 false rfl rfl (by decide)) ?_
            simp only [Act.put, lzA, lzB, lzC]
            refine wl_yield (o := ⟨_, _, _, _, _, _⟩) (.bool false) (yl_pickT (by rfl) _ _ _ rfl rfl _ rfl) ?_
            simp only [Act.put, lzA, lzB, lzC]
            refine wl_yield (o := ⟨_, _, _, _, _, _⟩) (.bool false) (yl_pickF (by rfl) _ _ _ rfl rfl _ rfl) ?_
            simp only [Act.put, lzA, lzB, lzC]
            refine wpList_nil ?_
            refine hK7 _ _ ?_
            clear hK7 K7
            refine wp_cond_false rfl ?_
            refine wp_skip ?_
            refine hK6 _ _ ?_
            clear hK6 K6
            refine wp_seq_k (fun K8 hK8 => ?_)
            refine wp_region_lit ?_
            refine wl_yield (o := ⟨_, _, _, _, _, _⟩) (evVal e) (yl_ev (by rfl) _ rfl _ 0 rfl _ _ _ _ _ _ _ _ _ _ _ _ (fun _ h => by subst h; exact ⟨cell_heap G1 0, cell_heap G1 1, cell_heap G1 2, cell_heap G1 3, cell_heap G1 4, cell_heap G1 5, cell_heap G1 6, cell_heap G1 7, cell_heap G1 8, cell_heap G1 9, cell_heap G1 10, cell_heap G1 11⟩)) ?_
            simp only [Act.put, lzA, lzB, lzC]
            refine wt_call (o := ⟨_, _, _, _, _, _⟩) (by rfl) 12 _ _ rfl #[evVal e] rfl (run_call Tryz.func12 (by kernel_rfl) (by kernel_rfl)) ?_
            refine (eventText_any e _ HE hf hi).mono ?_
            rintro r v7 ⟨rfl, kb⟩
            replace D := grown_below D kb
            replace HE := HE.on kb
            replace G1 := heap_on G1 kb
            replace G4 := heap_on G4 kb
            replace G6 := heap_on G6 kb
            clear kb
            refine Or.inl ⟨.tuple #[.string (bs ([])), .int .i64 1], by unfold evR; rw [hr]; rfl, ?_⟩
            simp only [Act.put, lzA, lzB, lzC]
            refine wl_yield (o := ⟨_, _, _, _, _, _⟩) (.tuple #[.string (bs ([])), .int .i64 1]) (yl_move (by rfl) _ rfl _ rfl) ?_
            simp only [Act.put, lzA, lzB, lzC]
            refine wl_yield (o := ⟨_, _, _, _, _, _⟩) (.string (bs ([]))) (yl_extract0 (by rfl) _ rfl _ _ rfl) ?_
            simp only [Act.put, lzA, lzB, lzC]
            refine wl_yield (o := ⟨_, _, _, _, _, _⟩) (.int .i64 1) (yl_extract1 (by rfl) _ rfl _ _ rfl) ?_
            simp only [Act.put, lzA, lzB, lzC]
            refine wl_yield (o := ⟨_, _, _, _, _, _⟩) (.string (bs ([]))) (yl_assign (by rfl) _ rfl _ rfl) ?_
            simp only [Act.put, lzA, lzB, lzC]
            refine wl_yield (o := ⟨_, _, _, _, _, _⟩) (.int .i64 1) (yl_assign (by rfl) _ rfl _ rfl) ?_
            simp only [Act.put, lzA, lzB, lzC]
            refine wpList_nil ?_
            refine hK8 _ _ ?_
            clear hK8 K8
            refine wp_seq_k (fun K9 hK9 => ?_)
            refine wp_seq_k (fun K10 hK10 => ?_)
            refine wp_region_lit ?_
            refine wl_yield (o := ⟨_, _, _, _, _, _⟩) (evVal e) (yl_ev (by rfl) _ rfl _ 0 rfl _ _ _ _ _ _ _ _ _ _ _ _ (fun _ h => by subst h; exact ⟨cell_heap G1 0, cell_heap G1 1, cell_heap G1 2, cell_heap G1 3, cell_heap G1 4, cell_heap G1 5, cell_heap G1 6, cell_heap G1 7, cell_heap G1 8, cell_heap G1 9, cell_heap G1 10, cell_heap G1 11⟩)) ?_
            simp only [Act.put, lzA, lzB, lzC]
            refine wt_call (o := ⟨_, _, _, _, _, _⟩) (by rfl) 13 _ _ rfl #[evVal e] rfl (run_call Tryz.func13 (by kernel_rfl) (by kernel_rfl)) ?_
            refine (refEvent_any e _ hf).mono ?_
            rintro r v8 ⟨rfl, kb⟩
            replace D := grown_below D kb
            replace HE := HE.on kb
            replace G1 := heap_on G1 kb
            replace G4 := heap_on G4 kb
            replace G6 := heap_on G6 kb
            clear kb
            refine Or.inl ⟨.bool false, by rw [hr], ?_⟩
            simp only [Act.put, lzA, lzB, lzC]
            refine wl_yield (o := ⟨_, _, _, _, _, _⟩) (.bool true) (yl_not (by rfl) _ _ rfl false rfl) ?_
            simp only [Act.put, lzA, lzB, lzC]
            refine wpList_nil ?_
            refine hK10 _ _ ?_
            clear hK10 K10
            refine wp_cond_true rfl ?_
            refine wp_seq_k (fun K11 hK11 => ?_)
            refine wp_region_lit ?_
            refine wl_yield (o := ⟨_, _, _, _, _, _⟩) (.string (bs ([]))) (yl_move (by rfl) _ rfl _ rfl) ?_
            simp only [Act.put, lzA, lzB, lzC]
            refine wl_yield (o := ⟨_, _, _, _, _, _⟩) (.bool true) (yt_eqS (by rfl) _ _ _ rfl ([]) ([]) true rfl rfl (by decide)) ?_
            simp only [Act.put, lzA, lzB, lzC]
            refine wl_yield (o := ⟨_, _, _, _, _, _⟩) (.bool true) (yl_move (by rfl) _ rfl _ rfl) ?_
            simp only [Act.put, lzA, lzB, lzC]
            refine wl_yield (o := ⟨_, _, _, _, _, _⟩) (.int .i64 1) (yl_move (by rfl) _ rfl _ rfl) ?_
            simp only [Act.put, lzA, lzB, lzC]
            refine wl_yield (o := ⟨_, _, _, _, _, _⟩) (.bool true) (yt_eqlE (by rfl) _ _ _ rfl 1 1 true rfl rfl (by decide)) ?_
            simp only [Act.put, lzA, lzB, lzC]
            refine wl_yield (o := ⟨_, _, _, _, _, _⟩) (.bool true) (yl_pickT (by rfl) _ _ _ rfl rfl _ rfl) ?_
            simp only [Act.put, lzA, lzB, lzC]
            refine wl_yield (o := ⟨_, _, _, _, _, _⟩) (.bool true) (yl_assign (by rfl) _ rfl _ rfl) ?_
            simp only [Act.put, lzA, lzB, lzC]
            refine wpList_nil ?_
            refine hK11 _ _ ?_
            clear hK11 K11
            refine wp_ret ?_
            go_ret
            exact ⟨rfl, below_none D⟩
        · have wf1 := wf_right (okE_parse hp).1 (okE_parse hp).2
          refine wt_call (o := ⟨_, _, _, _, _, _⟩) (by rfl) 10 _ _ rfl #[.string (bs l)] rfl (run_call Tryz.func10 (by kernel_rfl) (by kernel_rfl)) ?_
          refine (readEvent_any l _ HE (by omega)).mono ?_
          rintro r v3 (⟨⟨d, err, rfl, PA⟩, kb⟩)
          · rw [hp] at PA
            obtain ⟨rfl, hd⟩ := PA
            have hd := hd.symm
            subst hd
            replace D := grown_below D kb
            replace HE := HE.on kb
            replace G1 := heap_on G1 kb
            clear kb
            refine Or.inl ⟨.tuple #[evVal x1, .int .i64 0], rfl, ?_⟩
            simp only [Act.put, lzA, lzB, lzC]
            refine wl_yield (o := ⟨_, _, _, _, _, _⟩) (.tuple #[evVal x1, .int .i64 0]) (yl_move (by rfl) _ rfl _ rfl) ?_
            simp only [Act.put, lzA, lzB, lzC]
            refine wl_yield (o := ⟨_, _, _, _, _, _⟩) (evVal x1) (yl_extract0 (by rfl) _ rfl _ _ rfl) ?_
            simp only [Act.put, lzA, lzB, lzC]
            refine wl_yield (o := ⟨_, _, _, _, _, _⟩) (.int .i64 0) (yl_extract1 (by rfl) _ rfl _ _ rfl) ?_
            simp only [Act.put, lzA, lzB, lzC]
            refine wt_newEv (o := ⟨_, _, _, _, _, _⟩) (o2 := ⟨_, _, _, _, _, _⟩) (by rfl) rfl _ _ rfl rfl (fun _ => rfl) (e := x1) (fun _ => rfl) (fun v4 g4 G4 kb => ?_)
            simp only [Act.put, lzA, lzB, lzC]
            replace D := grown_below D kb
            replace HE := HE.on kb
            replace G1 := heap_on G1 kb
            clear kb
            replace G4 : v4.heap[g4]? = some (.cells #[.int .i64 (x1.v0.1), .int .i64 (x1.v0.2.1), .string x1.v0.2.2, .int .i64 (x1.v1.1), .int .i64 (x1.v1.2.1), .string x1.v1.2.2, .int .i64 (x1.v2.1), .int .i64 (x1.v2.2.1), .string x1.v2.2.2, .int .i64 (x1.v3.1), .int .i64 (x1.v3.2.1), .string x1.v3.2.2] 42 (0, 0)) := G4
            refine wl_yield (o := ⟨_, _, _, _, _, _⟩) (.int .i64 0) (yl_assign (by rfl) _ rfl _ rfl) ?_
            simp only [Act.put, lzA, lzB, lzC]
            refine wpList_nil ?_
            refine hK4 _ _ ?_
            clear hK4 K4
            refine wp_seq_k (fun K5 hK5 => ?_)
            refine wp_region_lit ?_
            refine wl_yield (o := ⟨_, _, _, _, _, _⟩) (.string (bs l)) (yl_move (by rfl) _ rfl _ rfl) ?_
            simp only [Act.put, lzA, lzB, lzC]
            refine wt_call (o := ⟨_, _, _, _, _, _⟩) (by rfl) 11 _ _ rfl #[.string (bs l)] rfl (run_call Tryz.func11 (by kernel_rfl) (by kernel_rfl)) ?_
            refine (refReadEvent7 l _ HE (by omega)).mono ?_
            rintro r v5 ⟨rfl, kb⟩
            replace D := grown_below D kb
            replace HE := HE.on kb
            replace G1 := heap_on G1 kb
            replace G4 := heap_on G4 kb
            clear kb
            refine Or.inl ⟨.tuple #[evVal x1, .bool true], by rw [rfAns_eq, hp]; rfl, ?_⟩
            simp only [Act.put, lzA, lzB, lzC]
            refine wl_yield (o := ⟨_, _, _, _, _, _⟩) (.tuple #[evVal x1, .bool true]) (yl_move (by rfl) _ rfl _ rfl) ?_
            simp only [Act.put, lzA, lzB, lzC]
            refine wl_yield (o := ⟨_, _, _, _, _, _⟩) (evVal x1) (yl_extract0 (by rfl) _ rfl _ _ rfl) ?_
            simp only [Act.put, lzA, lzB, lzC]
            refine wl_yield (o := ⟨_, _, _, _, _, _⟩) (.bool true) (yl_extract1 (by rfl) _ rfl _ _ rfl) ?_
            simp only [Act.put, lzA, lzB, lzC]
            refine wt_newEv (o := ⟨_, _, _, _, _, _⟩) (o2 := ⟨_, _, _, _, _, _⟩) (by rfl) rfl _ _ rfl rfl (fun _ => rfl) (e := x1) (fun _ => rfl) (fun v6 g6 G6 kb => ?_)
            simp only [Act.put, lzA, lzB, lzC]
            replace D := grown_below D kb
            replace HE := HE.on kb
            replace G1 := heap_on G1 kb
            replace G4 := heap_on G4 kb
            clear kb
            replace G6 : v6.heap[g6]? = some (.cells #[.int .i64 (x1.v0.1), .int .i64 (x1.v0.2.1), .string x1.v0.2.2, .int .i64 (x1.v1.1), .int .i64 (x1.v1.2.1), .string x1.v1.2.2, .int .i64 (x1.v2.1), .int .i64 (x1.v2.2.1), .string x1.v2.2.2, .int .i64 (x1.v3.1), .int .i64 (x1.v3.2.1), .string x1.v3.2.2] 42 (0, 0)) := G6
            refine wl_yield (o := ⟨_, _, _, _, _, _⟩) (.bool true) (yl_assign (by rfl) _ rfl _ rfl) ?_
            simp only [Act.put, lzA, lzB, lzC]
            refine wpList_nil ?_
            refine hK5 _ _ ?_
            clear hK5 K5
            refine wp_seq_k (fun K6 hK6 => ?_)
            refine wp_seq_k (fun K7 hK7 => ?_)
            refine wp_region_lit ?_
            refine wl_yield (o := ⟨_, _, _, _, _, _⟩) (evVal x1) (yl_ev (by rfl) _ rfl _ 0 rfl _ _ _ _ _ _ _ _ _ _ _ _ (fun _ h => by subst h; exact ⟨cell_heap G4 0, cell_heap G4 1, cell_heap G4 2, cell_heap G4 3, cell_heap G4 4, cell_heap G4 5, cell_heap G4 6, cell_heap G4 7, cell_heap G4 8, cell_heap G4 9, cell_heap G4 10, cell_heap G4 11⟩)) ?_
            simp only [Act.put, lzA, lzB, lzC]
            refine wl_yield (o := ⟨_, _, _, _, _, _⟩) (evVal x1) (yl_ev (by rfl) _ rfl _ 0 rfl _ _ _ _ _ _ _ _ _ _ _ _ (fun _ h => by subst h; exact ⟨cell_heap G6 0, cell_heap G6 1, cell_heap G6 2, cell_heap G6 3, cell_heap G6 4, cell_heap G6 5, cell_heap G6 6, cell_heap G6 7, cell_heap G6 8, cell_heap G6 9, cell_heap G6 10, cell_heap G6 11⟩)) ?_
            simp only [Act.put, lzA, lzB, lzC]
            refine wl_yield (o := ⟨_, _, _, _, _, _⟩) (.bool false) (yt_neqEv (by rfl) _ _ _ rfl x1 x1 wf1 wf1 false rfl rfl (by simp)) ?_
            simp only [Act.put, lzA, lzB, lzC]
            refine wl_yield (o := ⟨_, _, _, _, _, _⟩) (.bool false) (yl_move (by rfl) _ rfl _ rfl) ?_
            simp only [Act.put, lzA, lzB, lzC]
            refine wl_yield (o := ⟨_, _, _, _, _, _⟩) (.int .i64 0) (yl_move (by rfl) _ rfl _ rfl) ?_
            simp only [Act.put, lzA, lzB, lzC]
            refine wl_yield (o := ⟨_, _, _, _, _, _⟩) (.bool true) (yt_eqlE (by rfl) _ _ _ rfl 0 0 true rfl rfl (by decide)) ?_
            simp only [Act.put, lzA, lzB, lzC]
            refine wl_yield (o := ⟨_, _, _, _, _, _⟩) (.bool true) (yl_move (by rfl) _ rfl _ rfl) ?_
            simp only [Act.put, lzA, lzB, lzC]
            refine wl_yield (o := ⟨_, _, _, _, _, _⟩) (.bool false) (yl_neqB (by rfl) _ _ _ rfl true true rfl rfl) ?_
            simp only [Act.put, lzA, lzB, lzC]
            refine wl_yield (o := ⟨_, _, _, _, _, _⟩) (.bool false) (yl_pickF (by rfl) _ _ _ rfl rfl _ rfl) ?_
            simp only [Act.put, lzA, lzB, lzC]
            refine wl_yield (o := ⟨_, _, _, _, _, _⟩) (.bool false) (yl_move (by rfl) _ rfl _ rfl) ?_
            simp only [Act.put, lzA, lzB, lzC]
            refine wl_yield (o := ⟨_, _, _, _, _, _⟩) (.bool true) (yl_move (by rfl) _ rfl _ rfl) ?_
            simp only [Act.put, lzA, lzB, lzC]
            refine wl_yield (o := ⟨_, _, _, _, _, _⟩) (.bool false) (yl_not (by rfl) _ _ rfl true rfl) ?_
            simp only [Act.put, lzA, lzB, lzC]
            refine wl_yield (o := ⟨_, _, _, _, _, _⟩) (.bool false) (yl_move (by rfl) _ rfl _ rfl) ?_
            simp only [Act.put, lzA, lzB, lzC]
            with_reducible refine wl_yield (o := ⟨_, _, _, _, _, _⟩) undef (yl_undef (by kernel_rfl)) ?_
            simp only [Act.put, lzA, lzB, lzC]
            with_reducible refine wl_yield (o := ⟨_, _, _, _, _, _⟩) undef (yl_undef (by kernel_rfl)) ?_
            simp only [Act.put, lzA, lzB, lzC]
            refine wl_yield (o := ⟨_, _, _, _, _, _⟩) (.bool false) (yl_pickF (by rfl) _ _ _ rfl rfl _ rfl) ?_
            simp only [Act.put, lzA, lzB, lzC]
            refine wl_yield (o := ⟨_, _, _, _, _, _⟩) (.bool false) (yl_pickF (by rfl) _ _ _ rfl rfl _ rfl) ?_
            simp only [Act.put, lzA, lzB, lzC]
            refine wpList_nil ?_
            refine hK7 _ _ ?_
            clear hK7 K7
            refine wp_cond_false rfl ?_
            refine wp_skip ?_
            refine hK6 _ _ ?_
            clear hK6 K6
            refine wp_seq_k (fun K8 hK8 => ?_)
            refine wp_region_lit ?_
            refine wl_yield (o := ⟨_, _, _, _, _, _⟩) (evVal e) (yl_ev (by rfl) _ rfl _ 0 rfl _ _ _ _ _ _ _ _ _ _ _ _ (fun _ h => by subst h; exact ⟨cell_heap G1 0, cell_heap G1 1, cell_heap G1 2, cell_heap G1 3, cell_heap G1 4, cell_heap G1 5, cell_heap G1 6, cell_heap G1 7, cell_heap G1 8, cell_heap G1 9, cell_heap G1 10, cell_heap G1 11⟩)) ?_
            simp only [Act.put, lzA, lzB, lzC]
            refine wt_call (o := ⟨_, _, _, _, _, _⟩) (by rfl) 12 _ _ rfl #[evVal e] rfl (run_call Tryz.func12 (by kernel_rfl) (by kernel_rfl)) ?_
            refine (eventText_any e _ HE hf hi).mono ?_
            rintro r v7 ⟨rfl, kb⟩
            replace D := grown_below D kb
            replace HE := HE.on kb
            replace G1 := heap_on G1 kb
            replace G4 := heap_on G4 kb
            replace G6 := heap_on G6 kb
            clear kb
            refine Or.inl ⟨.tuple #[.string (bs ([])), .int .i64 1], by unfold evR; rw [hr]; rfl, ?_⟩
            simp only [Act.put, lzA, lzB, lzC]
            refine wl_yield (o := ⟨_, _, _, _, _, _⟩) (.tuple #[.string (bs ([])), .int .i64 1]) (yl_move (by rfl) _ rfl _ rfl) ?_
            simp only [Act.put, lzA, lzB, lzC]
            refine wl_yield (o := ⟨_, _, _, _, _, _⟩) (.string (bs ([]))) (yl_extract0 (by rfl) _ rfl _ _ rfl) ?_
            simp only [Act.put, lzA, lzB, lzC]
            refine wl_yield (o := ⟨_, _, _, _, _, _⟩) (.int .i64 1) (yl_extract1 (by rfl) _ rfl _ _ rfl) ?_
            simp only [Act.put, lzA, lzB, lzC]
            refine wl_yield (o := ⟨_, _, _, _, _, _⟩) (.string (bs ([]))) (yl_assign (by rfl) _ rfl _ rfl) ?_
            simp only [Act.put, lzA, lzB, lzC]
            refine wl_yield (o := ⟨_, _, _, _, _, _⟩) (.int .i64 1) (yl_assign (by rfl) _ rfl _ rfl) ?_
            simp only [Act.put, lzA, lzB, lzC]
            refine wpList_nil ?_
            refine hK8 _ _ ?_
            clear hK8 K8
            refine wp_seq_k (fun K9 hK9 => ?_)
            refine wp_seq_k (fun K10 hK10 => ?_)
            refine wp_region_lit ?_
            refine wl_yield (o := ⟨_, _, _, _, _, _⟩) (evVal e) (yl_ev (by rfl) _ rfl _ 0 rfl _ _ _ _ _ _ _ _ _ _ _ _ (fun _ h => by subst h; exact ⟨cell_heap G1 0, cell_heap G1 1, cell_heap G1 2, cell_heap G1 3, cell_heap G1 4, cell_heap G1 5, cell_heap G1 6, cell_heap G1 7, cell_heap G1 8, cell_heap G1 9, cell_heap G1 10, cell_heap G1 11⟩)) ?_
            simp only [Act.put, lzA, lzB, lzC]
            refine wt_call (o := ⟨_, _, _, _, _, _⟩) (by rfl) 13 _ _ rfl #[evVal e] rfl (run_call Tryz.func13 (by kernel_rfl) (by kernel_rfl)) ?_
            refine (refEvent_any e _ hf).mono ?_
            rintro r v8 ⟨rfl, kb⟩
            replace D := grown_below D kb
            replace HE := HE.on kb
            replace G1 := heap_on G1 kb
            replace G4 := heap_on G4 kb
            replace G6 := heap_on G6 kb
            clear kb
            refine Or.inl ⟨.bool false, by rw [hr], ?_⟩
            simp only [Act.put, lzA, lzB, lzC]
            refine wl_yield (o := ⟨_, _, _, _, _, _⟩) (.bool true) (yl_not (by rfl) _ _ rfl false rfl) ?_
            simp only [Act.put, lzA, lzB, lzC]
            refine wpList_nil ?_
            refine hK10 _ _ ?_
            clear hK10 K10
            refine wp_cond_true rfl ?_
            refine wp_seq_k (fun K11 hK11 => ?_)
            refine wp_region_lit ?_
            refine wl_yield (o := ⟨_, _, _, _, _, _⟩) (.string (bs ([]))) (yl_move (by rfl) _ rfl _ rfl) ?_
            simp only [Act.put, lzA, lzB, lzC]
            refine wl_yield (o := ⟨_, _, _, _, _, _⟩) (.bool true) (yt_eqS (by rfl) _ _ _ rfl ([]) ([]) true rfl rfl (by decide)) ?_
            simp only [Act.put, lzA, lzB, lzC]
            refine wl_yield (o := ⟨_, _, _, _, _, _⟩) (.bool true) (yl_move (by rfl) _ rfl _ rfl) ?_
            simp only [Act.put, lzA, lzB, lzC]
            refine wl_yield (o := ⟨_, _, _, _, _, _⟩) (.int .i64 1) (yl_move (by rfl) _ rfl _ rfl) ?_
            simp only [Act.put, lzA, lzB, lzC]
            refine wl_yield (o := ⟨_, _, _, _, _, _⟩) (.bool true) (yt_eqlE (by rfl) _ _ _ rfl 1 1 true rfl rfl (by decide)) ?_
            simp only [Act.put, lzA, lzB, lzC]
            refine wl_yield (o := ⟨_, _, _, _, _, _⟩) (.bool true) (yl_pickT (by rfl) _ _ _ rfl rfl _ rfl) ?_
            simp only [Act.put, lzA, lzB, lzC]
            refine wl_yield (o := ⟨_, _, _, _, _, _⟩) (.bool true) (yl_assign (by rfl) _ rfl _ rfl) ?_
            simp only [Act.put, lzA, lzB, lzC]
            refine wpList_nil ?_
            refine hK11 _ _ ?_
            clear hK11 K11
            refine wp_ret ?_
            go_ret
            exact ⟨rfl, below_none D⟩
end Go.Proofs.YtlmdcaemjaldfaaGreatDoor
namespace Go.Proofs.YtlmdcaemjaldfaaGreatDoor
open Go.ChangeShapes Go.WideShapes Go.ChangeAt Go.WideMaps Go.WideElems Go.RowKit Go.Joins
theorem cellsVal : Tryz.prog.cellsOf 40 = 3 := by kernel_rfl
section
variable {H : Type} {enc : TypeId × Value → H} {W : World} {base : Nat} {sp : Nat → Bool} {held : Bool}
end
section
variable {H : Type} {enc : TypeId × Value → H} {W : World}
end
end Go.Proofs.YtlmdcaemjaldfaaGreatDoor
namespace Go.Proofs.YtlmdcaemjaldfaaGreatDoor
open Go.Deep Go.ChangeShapes Go.WideShapes Go.ChangeAt Go.WideMaps Go.WideElems Go.RowKit Go.Joins
theorem cut3 {α : Type} (k : Nat) {l : List α} (h : l.length = k + 3) : ∃ a b c r, l = a :: b :: c :: r ∧ r.length = k := by
  cases l with
  | nil => simp at h
  | cons a l => cases l with
    | nil => simp at h
    | cons b l => cases l with
      | nil => simp at h
      | cons c l => exact ⟨a, b, c, l, rfl, by simpa using h⟩
theorem okWide_array {P : Program} {w : World} {r : Reach} {base : Nat} {t : TypeId} {v : Value} {n : Nat} {e : TypeId} (ht : P.underlying t = some (.array n e)) (h : Value.okWide P w r base t v) : ∃ cs, v = .agg cs ∧ cs.size = P.cellsOf t := by
  simp only [Value.okWide, ht] at h
  obtain ⟨cs, h1, h2, _⟩ := h
  exact ⟨cs, h1, h2⟩
theorem cellsEv : Tryz.prog.cellsOf 42 = 12 := by kernel_rfl
section
variable {H : Type} {enc : TypeId × Value → H} {W : World}
set_option maxRecDepth 100000 in
theorem open_cells {m : Nat} {c0 c1 c2 : Value} {y : DataW H × List MemPlace} (h : DataW.trod enc Tryz.prog W 0 (fun _ => true) true m 40 [c0, c1, c2] = some y) :
    ∃ (k n : Int) (s : ByteArray), c0 = .int .i64 k ∧ c1 = .int .i64 n ∧ c2 = .string s ∧ (Lit.int .i64 n).wf = true ∧ s.size ≤ maxLen := by
  obtain ⟨y0, y1, y2, m', rfl, _, h0, h1, h2⟩ := trod_struct3 Tryz.underlying40 h
  simp only [cellsI, cellsS] at h0 h1 h2
  obtain ⟨k, e0, rfl, wk⟩ := DataW.trod_int Tryz.underlying3 h0
  obtain ⟨n, e1, rfl, wn⟩ := DataW.trod_int Tryz.underlying3 h1
  obtain ⟨s, e2, rfl, ws⟩ := DataW.trod_string Tryz.underlying9 h2
  simp at e0 e1 e2
  subst e0 e1 e2
  exact ⟨k, n, s, rfl, rfl, rfl, wn, ws⟩
set_option maxRecDepth 100000 in
theorem open_evA {r : Reach} {b0 : Nat} {v : Value} {d : DataW H} {p : List MemPlace} (hv : Value.okWide Tryz.prog W r b0 42 v) (h : DataW.Trod enc Tryz.prog W 0 (fun _ => true) true 42 v d p) :
    ∃ e : EvV, v = evVal e ∧ evFit e ∧ inE e := by
  obtain ⟨cs, rfl, hsz⟩ := okWide_array Tryz.underlying42 hv
  rw [cellsEv] at hsz
  obtain ⟨l⟩ := cs
  obtain ⟨a0, a1, a2, l1, rfl, q1⟩ := cut3 9 (show l.length = 9 + 3 from hsz)
  obtain ⟨b0, b1, b2, l2, rfl, q2⟩ := cut3 6 q1
  obtain ⟨c0, c1, c2, l3, rfl, q3⟩ := cut3 3 q2
  obtain ⟨d0, d1, d2, l4, rfl, q4⟩ := cut3 0 q3
  obtain rfl : l4 = [] := List.length_eq_zero_iff.1 q4
  obtain ⟨fuel, hf⟩ := h
  obtain ⟨xs, m, _, hx, _, hlen, he⟩ := DataW.trod_array Tryz.underlying42 hf
  simp only [cellsVal, Value.cells] at he
  have g0 := he 0 (by omega)
  have g1 := he 1 (by omega)
  have g2 := he 2 (by omega)
  have g3 := he 3 (by omega)
  match xs, hlen with
  | [y0, y1, y2, y3], _ =>
    simp at g0 g1 g2 g3
    obtain ⟨k0, n0, s0, rfl, rfl, rfl, w1, w2⟩ := open_cells g0
    obtain ⟨k1, n1, s1, rfl, rfl, rfl, w4, w5⟩ := open_cells g1
    obtain ⟨k2, n2, s2, rfl, rfl, rfl, w7, w8⟩ := open_cells g2
    obtain ⟨k3, n3, s3, rfl, rfl, rfl, w10, w11⟩ := open_cells g3
    refine ⟨⟨(k0, n0, s0), (k1, n1, s1), (k2, n2, s2), (k3, n3, s3)⟩, rfl, ⟨w2, w5, w8, w11⟩, fun i hi => ?_⟩
    match i, hi with
    | 0, _ => exact bounds_i64 w1
    | 1, _ => exact bounds_i64 w4
    | 2, _ => exact bounds_i64 w7
    | 3, _ => exact bounds_i64 w10
end
end Go.Proofs.YtlmdcaemjaldfaaGreatDoor
namespace Go.Proofs.YtlmdcaemjaldfaaGreatDoor
open Go.ChangeShapes Go.WideShapes Go.ChangeAt Go.WideMaps Go.WideElems Go.RowKit Go.Joins
theorem own : ownKnob Tryz.prog.godebug = none := by kernel_rfl
theorem gPowType : (Tryz.prog.globals[1]?).map (·.type) = some 170 := by kernel_rfl
def d64 : List Int := [0, 1, 56, 2, 57, 49, 28, 3, 61, 58, 42, 50, 38, 29, 17, 4, 62, 47, 59, 36, 45, 43, 51, 22, 53, 39, 33, 30, 24, 18, 12, 5, 63, 55, 48, 27, 60, 41, 37, 16, 46, 35, 44, 21, 52, 32, 23, 11, 54, 26, 40, 15, 34, 20, 31, 10, 25, 14, 19, 9, 13, 8, 7, 6]
theorem gD64 : Tryz.prog.globalNamed "math/bits.deBruijn64tab" = some 5 := by kernel_rfl
theorem gD64Type : (Tryz.prog.globals[5]?).map (·.type) = some 196 := by kernel_rfl
theorem cellsU8 : Tryz.prog.cellsOf 5 = 1 := by kernel_rfl
theorem cellsD64 : Tryz.prog.cellsOf 196 = 64 := by kernel_rfl
theorem gSynType : (Tryz.prog.globals[2]?).map (·.type) = some 119 := by kernel_rfl
theorem gRngType : (Tryz.prog.globals[3]?).map (·.type) = some 119 := by kernel_rfl
theorem cellsPow : Tryz.prog.cellsOf 170 = 20 := by kernel_rfl
theorem cellsU64 : Tryz.prog.cellsOf 134 = 1 := by kernel_rfl
theorem cellsES : Tryz.prog.cellsOf 200 = 1 := by kernel_rfl
theorem cellsStr : Tryz.prog.cellsOf 9 = 1 := by kernel_rfl
theorem star : "*errors.errorString" = "*" ++ "errors.errorString" := by decide
theorem rowES (u : TypeId) (h : Tryz.prog.typeName? 3 u = some "*errors.errorString") : u = 198 :=
  typeName_ptr_named (nm := "errors.errorString") (by rw [← star]; kernel_rfl) (by kernel_rfl) (by decide) u (by rw [← star]; exact h)
abbrev laid5 : List (String × DataW Unit) := [("math/bits.deBruijn32tab", Rows.laid_math_bits_deBruijn32tab), ("math/bits.deBruijn64tab", Rows.laid_math_bits_deBruijn64tab), ("internal/strconv.uint64pow10", Rows.laid_internal_strconv_uint64pow10), ("strconv.ErrRange", Rows.laid_strconv_ErrRange), ("strconv.ErrSyntax", Rows.laid_strconv_ErrSyntax)]
theorem env_of_laid {W : World} (h : laidMetH Tryz.prog laid5 W) : Env W := by
  rw [MakeChecks.laidMetH_plain _ _ _ (by kernel_rfl)] at h
  have hp : Lib.TabIs Tryz.prog W "internal/strconv.uint64pow10" .u64 Lib.pow10Tab := Lib.tabIs_of_head gPow gPowType Tryz.underlying170 Tryz.underlying134 cellsU64 cellsPow (show laidMet Tryz.prog (("internal/strconv.uint64pow10", Lib.tabData .u64 Lib.pow10Tab) :: _) W from h.tail.tail)
  obtain ⟨a0, s0, hv0, -, -, -⟩ := laid_sentinel h.tail.tail.tail gRng gRngType Tryz.underlying119 rowES Tryz.underlying198 Tryz.underlying200 rfl rfl Tryz.underlying9 cellsES cellsStr
  obtain ⟨a1, s1, hv1, -, -, -⟩ := laid_sentinel h.tail.tail.tail.tail gSyn gSynType Tryz.underlying119 rowES Tryz.underlying198 Tryz.underlying200 rfl rfl Tryz.underlying9 cellsES cellsStr
  have hd : Lib.TabIs Tryz.prog W "math/bits.deBruijn64tab" .u8 d64 := Lib.tabIs_of_head gD64 gD64Type Tryz.underlying196 Tryz.underlying5 cellsU8 cellsD64 (show laidMet Tryz.prog (("math/bits.deBruijn64tab", Lib.tabData .u8 d64) :: _) W from h.tail)
  have big : 6 ≤ W.heap.size := by
    rcases Nat.lt_or_ge 5 W.heap.size with h' | h'
    · exact h'
    · exfalso
      first
        | (have := World.var?_cell gRng hv0 0; simp [World.cell?, Array.getElem?_eq_none h'] at this; done)
        | (have := World.var?_cell gSyn hv1 0; simp [World.cell?, Array.getElem?_eq_none h'] at this; done)
        | (have := hd.cell gD64 0 (by decide); simp [World.cell?, Array.getElem?_eq_none h'] at this; done)
  exact ⟨big, hp, ⟨_, _, hv1⟩, ⟨_, _, hv0⟩⟩
theorem door_met (os : Os) (args : Array Value) : laidMetH Tryz.prog laid5 ((World.doorLaid Tryz.prog 400 os).forCall (fun _ _ => 0) ⟨#[], args, []⟩).memory :=
  laidMetH_of_parts3 (fuel := 8) (laidMet_of_run' 8 (by kernel_rfl) (by kernel_rfl)) (by kernel_rfl) (by kernel_rfl)
end Go.Proofs.YtlmdcaemjaldfaaGreatDoor
